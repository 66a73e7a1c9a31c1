/- AnswerHost, the given side. -/
import Derived.Test.YtkcogfgjabemfaaHsE
namespace Go.Proofs.Ytkcogfgjabemfaa
open Go.RowKit
set_option linter.unusedVariables false
set_option linter.unusedSimpArgs false

/-- Five cells written, one after the other. -/
def set5 (w : World) (g : Nat) (a b c d e : Value) : World := ((((w.setCell ⟨g, 0, none⟩ a).setCell ⟨g, 1, none⟩ b).setCell ⟨g, 2, none⟩ c).setCell ⟨g, 3, none⟩ d).setCell ⟨g, 4, none⟩ e

theorem whole_set5 {w : World} {g : Nat} {t : TypeId} {p0 p1 p2 p3 p4 : Value} (h : Whole w g t #[p0, p1, p2, p3, p4]) (a b c d e : Value) : Whole (set5 w g a b c d e) g t #[a, b, c, d, e] :=
  whole_set (whole_set (whole_set (whole_set (whole_set h 0 a) 1 b) 2 c) 3 d) 4 e

theorem whole_far5 {w : World} {g k : Nat} {t : TypeId} {cs : Array Value} (h : Whole w g t cs) (hp : g ≠ k) (a b c d e : Value) : Whole (set5 w k a b c d e) g t cs :=
  whole_far (whole_far (whole_far (whole_far (whole_far h (p := ⟨k, 0, none⟩) hp a) (p := ⟨k, 1, none⟩) hp b) (p := ⟨k, 2, none⟩) hp c) (p := ⟨k, 3, none⟩) hp d) (p := ⟨k, 4, none⟩) hp e

theorem below_set5 {B k : Nat} {w0 w : World} (hb : Below B w0 w) (hk : B ≤ k) (a b c d e : Value) : Below B w0 (set5 w k a b c d e) :=
  ((((hb.setCell (p := ⟨k, 0, none⟩) hk a).setCell (p := ⟨k, 1, none⟩) hk b).setCell (p := ⟨k, 2, none⟩) hk c).setCell (p := ⟨k, 3, none⟩) hk d).setCell (p := ⟨k, 4, none⟩) hk e

theorem hostOf_set5 {w : World} {lo hi k : Nat} {v : Value} {h : Ht} (H : HostOf w lo hi v h) (hk : k < lo) (a b c d e : Value) : HostOf (set5 w k a b c d e) lo hi v h :=
  hostOf_store (hostOf_store (hostOf_store (hostOf_store (hostOf_store H hk) hk) hk) hk) hk

theorem set5_size (w : World) (k : Nat) (a b c d e : Value) : (set5 w k a b c d e).heap.size = w.heap.size := by unfold set5; simp

theorem hostOf_alloc {w : World} {lo hi : Nat} {v : Value} {h : Ht} (H : HostOf w lo hi v h) (o : Obj) : HostOf (w.alloc o) lo hi v h := hostOf_below H (below_alloc (Below.refl _ _) o)

theorem hostOf_thirdRow {w : World} {lo hi : Nat} {x y z q : Value} {h : Ht} {c : Int} (H : HostOf w lo hi (.agg #[x, y, z, .int .i64 c, q]) h) : Row w lo z h.n := by
  obtain ⟨x', y', z', q', e, h1, h2, h3, h4, _⟩ := H
  simp only [Value.agg.injEq, Array.mk.injEq, List.cons.injEq, and_true, true_and] at e
  obtain ⟨rfl, rfl, rfl, _, rfl⟩ := e
  exact h3

theorem ints_oneAt (w : World) (n : Int) {g : Nat} (hg : g = w.heap.size) : Ints (w.alloc (.cells #[.int .i64 n] 3)) (.slice (some ⟨g, 0, none⟩) 1 1) [n] := by
  subst hg
  exact ints_one w n

/-- A host's answers turned in a row of their own. -/
theorem hostOf_third {w w' : World} {lo hi : Nat} {x y z z' q : Value} {h : Ht} {N : List Int} (H : HostOf w lo hi (.agg #[x, y, z, .int .i64 h.c, q]) h) (hg : w.grownBy w' z.ownBlock) (hr : Row w' lo z' N)
    (ho : ∀ g, z'.ownBlock = some g → z.ownBlock = some g ∨ hi ≤ g) (hi' : hi ≤ w'.heap.size) : HostOf w' lo w'.heap.size (.agg #[x, y, z', .int .i64 h.c, q]) { h with n := N } := by
  obtain ⟨x', y', z0, q', e, h1, h2, h3, h4, p1, p2, p3, p4, p5, p6, hh⟩ := H
  simp only [Value.agg.injEq, Array.mk.injEq, List.cons.injEq, and_true, true_and] at e
  obtain ⟨rfl, rfl, rfl, rfl⟩ := e
  have pt : ∀ a : Value, Parted a z → (∀ g, a.ownBlock = some g → g < hi) → Parted a z' := fun a p l g ha hz => by
    rcases ho g hz with h | h
    · exact p g ha h
    · have := l g ha; omega
  refine ⟨_, _, _, _, rfl, borow_mark h1 hg p2, row_mark h2 hg p4, hr, drow_mark h4 hg (parted_sym p6), p1, pt _ p2 (fun g hg => hh g (.inl hg)), p3, pt _ p4 (fun g hg => hh g (.inr (.inl hg))), p5, parted_sym (pt _ (parted_sym p6) (fun g hg => hh g (.inr (.inr (.inr hg))))), fun g hg => ?_⟩
  rcases hg with hg | hg | hg | hg
  · exact Nat.lt_of_lt_of_le (hh g (.inl hg)) hi'
  · exact Nat.lt_of_lt_of_le (hh g (.inr (.inl hg))) hi'
  · exact (row_lt hr g hg).2
  · exact Nat.lt_of_lt_of_le (hh g (.inr (.inr (.inr hg)))) hi'

/-- What laying an answer by comes to. -/
def hAnswer (h : Ht) (n : Int) : Ht × Int := if hOK h then if cellB n then if h.n.length = 20 then (h, 7) else ({ h with n := h.n ++ [n] }, 0) else (noHt, 4) else (noHt, 1)

end Go.Proofs.Ytkcogfgjabemfaa
