/- Small laws on rows of the call's own: bytes and texts that are appended one by one. -/
import Derived.Test.YthnbaeamekolmaaGreatDoorCellsA
import Derived.Laws.AppendOwn
import Derived.Laws.OwnMore
import Derived.OwnWalk
import Derived.Deep.Draws
namespace Go.Proofs.YthnbaeamekolmaaGreatDoor
open Go.RowKit
set_option linter.unusedVariables false
set_option linter.unusedSimpArgs false

theorem own_info5 : (Tryz.prog.info? 5).map (fun i => (i.zero, i.size, i.bytes)) = some (some (.int .u8 0), 1, 1) := by kernel_rfl

theorem own_info9 : (Tryz.prog.info? 9).map (fun i => (i.zero, i.size, i.bytes)) = some (some (.string ⟨#[]⟩), 1, 16) := by kernel_rfl

/-- A slice of the call's own, not nil. -/
def Owns (w : World) (base : Nat) (e : TypeId) (v : Value) (n : Nat) (xs : List Value) : Prop := w.ownsRow base e 1 v n xs ∧ v ≠ .slice none 0 0

theorem owns_form {w : World} {base : Nat} {e : TypeId} {v : Value} {n : Nat} {xs : List Value} (h : Owns w base e v n xs) : ∃ g cap, v = .slice (some ⟨g, 0, none⟩) n cap ∧ base ≤ g ∧ g < w.heap.size ∧ n ≤ cap ∧ cap ≤ maxLen := by
  obtain ⟨⟨_, h | ⟨g, cap, cur, hv, hb, hg, h1, h2, _⟩⟩, hn⟩ := h
  · exact absurd h.1 hn
  · refine ⟨g, cap, hv, hb, ?_, h1, h2⟩
    rcases Nat.lt_or_ge g w.heap.size with hlt | hge
    · exact hlt
    · rw [Array.getElem?_eq_none hge] at hg; cases hg

theorem owns_new {w0 w : World} {e : TypeId} (h : w0.heap.size ≤ w.heap.size) : Owns (w.alloc (.cells #[] e)) w0.heap.size e (.slice (some ⟨w.heap.size, 0, none⟩) 0 0) 0 [] :=
  ⟨World.ownsRow_made w #[] 0 h (by unfold maxLen; omega) rfl, by simp⟩

theorem owns_next {w : World} {base : Nat} {e : TypeId} {v v' : Value} {n m : Nat} {xs : List Value} (hv : v ≠ .slice none 0 0) (h : w.ownsRow base e 1 v' n xs) (hn : v' = .slice none 0 0 ↔ v = .slice none 0 0 ∧ m = 0) : Owns w base e v' n xs :=
  ⟨h, fun e => hv (hn.1 e).1⟩

theorem owns_below {w0 wr wx : World} {o : Obj} {v : Value} {k : Nat} {xs : List Value} {e : TypeId} (hb : Below w0.heap.size w0 wr) (ho : wr.ownsRow w0.heap.size e 1 v k xs) (hg : (wr.alloc o).grownBy wx v.ownBlock) : Below w0.heap.size w0 wx :=
  (hb.alloc hb.size o).grown hg (by have := hb.size; simp; omega) (fun r hr => (ho.lt r hr).1)

/-- What is owned from a place on stays owned where nothing from that place on but newer blocks turns. -/
theorem owns_kept {w w' : World} {base : Nat} {e : TypeId} {v : Value} {n : Nat} {xs : List Value} (h : Owns w base e v n xs) (hb : Below w.heap.size w w') : Owns w' base e v n xs :=
  ⟨h.1.kept (row := none) ⟨hb.os, hb.tape, hb.output, hb.size, fun k hk _ => hb.block k hk⟩ (by
    cases hv : v.ownBlock
    · exact .inl rfl
    · exact .inr (by simp)), h.2⟩

/-- What is owned, perhaps nil, stays owned where nothing but newer blocks turns. -/
theorem own_over_below {w w' : World} {base : Nat} {e : TypeId} {v : Value} {n : Nat} {xs : List Value} (h : w.ownsRow base e 1 v n xs) (hb : Below w.heap.size w w') : w'.ownsRow base e 1 v n xs :=
  h.kept (row := none) ⟨hb.os, hb.tape, hb.output, hb.size, fun k hk _ => hb.block k hk⟩ (by
    cases hv : v.ownBlock
    · exact .inl rfl
    · exact .inr (by simp))

theorem below_draws {B : Nat} {w w' : World} (h : Below B w w') (n : Nat) : Below B w (w'.drewN n) := ⟨h.os, h.tape, h.output, h.size, h.block⟩

theorem own_base {w : World} {base base' : Nat} {e : TypeId} {v : Value} {n : Nat} {xs : List Value} (h : w.ownsRow base e 1 v n xs) (hb : base' ≤ base) : w.ownsRow base' e 1 v n xs := by
  obtain ⟨h1, h2⟩ := h
  refine ⟨h1, ?_⟩
  rcases h2 with h2 | ⟨g, cap, cur, a1, a2, a3⟩
  · exact .inl h2
  · exact .inr ⟨g, cap, cur, a1, by omega, a3⟩

theorem strs_form {w : World} {base : Nat} {e : TypeId} {v : Value} {n : Nat} {xs : List Value} (h : w.ownsRow base e 1 v n xs) : ∃ A cap, v = .slice A n cap ∧ (0 < n → ∃ g, A = some ⟨g, 0, none⟩ ∧ base ≤ g) := by
  rcases h.2 with ⟨hv, h0⟩ | ⟨g, cap, cur, hv, hb, _⟩
  · exact ⟨none, 0, by rw [hv, h0], fun hp => by omega⟩
  · exact ⟨_, _, hv, fun _ => ⟨g, rfl, hb⟩⟩

/-- An owned row of bytes as a text. -/
theorem owns_text {w : World} {base g cap n : Nat} {q : List UInt8} (h : w.ownsRow base 5 1 (.slice (some ⟨g, 0, none⟩) n cap) n (q.map fun c => .int .u8 (c.toNat : Int))) (hq : q.length = n) :
    (convert 55 9 (.slice (some ⟨g, 0, none⟩) n cap)).run Tryz.prog w = .ok (.string ⟨q.toArray⟩) w := by
  have h2 := run_convert_bytes_back (P := Tryz.prog) w 55 9 5 ⟨g, 0, none⟩ cap q Tryz.underlying55 Tryz.underlying5 Tryz.underlying9 (fun j hj => by
    have h3 := h.cellAt j (by omega)
    rw [Addr.add_lit, Nat.zero_add, h3]
    simp [hj])
  rw [hq] at h2
  exact h2

end Go.Proofs.YthnbaeamekolmaaGreatDoor
