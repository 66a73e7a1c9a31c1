/- Arguments that are words, opened; what a listed table gives. -/
import Derived.Test.YtjlfbmplmddceaaDoorWdA
import Derived.Test.YtjlfbmplmddceaaDoorImpA
import Derived.Test.YtjlfbmplmddceaaDoorTabA
import Derived.Deep.Slices
import Derived.Lib.SmallJoins
import Derived.ProofKit
import Derived.OpenShut
import Derived.ChangeOld
namespace Go.Proofs.YtjlfbmplmddceaaDoor
open Go.Joins Go.ChangeShapes Go.WideShapes Go.RowKit Go.Deep Go.ChangeAt
set_option linter.unusedVariables false
set_option linter.unusedSimpArgs false

/-- A struct that came in reads as this word. -/
def WdIn (w : World) (v : Value) (x : Wd) : Prop := v = .agg #[.string x.n, .int .i64 x.k, .int .i64 x.v] ∧ x.n.size ≤ maxLen

theorem wdsL_form {w : World} {v : Value} {Q : List Wd} (h : WdsL w v Q) : ∃ A cap, v = .slice A Q.length cap ∧ Q.length ≤ maxLen ∧ Names Q := by
  obtain ⟨h1, h2, A, c, e, _⟩ := h
  exact ⟨A, c, e, h1, h2⟩

/-- A row keeps its words where another block turns. -/
theorem wrow_apart {w w' : World} {base : Nat} {v : Value} {Q : List Wd} {r : Option Nat} (h : WRow w base v Q) (hg : w.grownBy w' r) (hne : ∀ g, v.ownBlock = some g → r ≠ some g) : WRow w' base v Q :=
  ⟨h.1.kept hg (by
    cases hv : v.ownBlock with
    | none => exact .inl rfl
    | some g => exact .inr (fun e => hne g hv e.symm)), h.2⟩

/-- Two rows, the one made before the other. -/
theorem wrow_before {w w' : World} {lo base : Nat} {u v : Value} {P Q : List Wd} (h : WRow w lo u P) (k : WRow w' base v Q) (hb : w.heap.size ≤ base) : ∀ g, u.ownBlock = some g → v.ownBlock ≠ some g := by
  intro g h1 h2
  have := wrow_lt h g h1
  have := wrow_lt k g h2
  omega

theorem below_marks {a b c : World} {base : Nat} {v : Value} {Q : List Wd} (h : Below a.heap.size a b) (k : b.grownBy c v.ownBlock) (hr : WRow b base v Q) (hb : a.heap.size ≤ base) : Below a.heap.size a c :=
  h.grown k h.size (fun g hg => Nat.le_trans hb (wrow_lt hr g hg).1)

section
variable {H : Type} {enc : TypeId × Value → H} {w : World} {base : Nat} {spare : Nat → Bool} {held : Bool}

theorem word_one : ∀ t, t = 3 ∨ t = 9 → Tryd.prog.cellsOf t = 1 := by
  rintro t (rfl | rfl) <;> kernel_rfl

set_option maxRecDepth 100000 in
theorem word_of_trod {fuel : Nat} {cs : List Value} {x : DataW H × List MemPlace} (hl : cs.length = 3) (h : DataW.trod enc Tryd.prog w base spare held fuel 65 cs = some x) : ∃ y : Wd, cs = [.string y.n, .int .i64 y.k, .int .i64 y.v] ∧ y.n.size ≤ maxLen := by
  match cs, hl with
  | [c0, c1, c2], _ =>
    obtain ⟨xs, n, _, hx, _, hlen, hg⟩ := DataW.trod_struct Tryd.underlying65 h
    match xs, hlen with
    | [y0, y1, y2], _ =>
      have g0 := hg 0 _ rfl
      have g1 := hg 1 _ rfl
      have g2 := hg 2 _ rfl
      simp [word_one] at g0 g1 g2
      obtain ⟨s, e0, _, l0⟩ := DataW.trod_string Tryd.underlying9 g0
      obtain ⟨n1, e1, _, _⟩ := DataW.trod_int Tryd.underlying3 g1
      obtain ⟨n2, e2, _, _⟩ := DataW.trod_int Tryd.underlying3 g2
      simp only [List.cons.injEq, and_true] at e0 e1 e2
      subst e0 e1 e2
      exact ⟨⟨s, n1, n2⟩, rfl, l0⟩

set_option maxRecDepth 100000 in
theorem open_word {r : Reach} {b0 : Nat} {v : Value} {d : DataW H} {p : List MemPlace} (hv : Value.okWide Tryd.prog w r b0 65 v) (h : DataW.Trod enc Tryd.prog w base (fun _ => true) held 65 v d p) : ∃ D : Wd, WdIn w v D := by
  obtain ⟨cs, rfl, hsz⟩ := okWide_struct Tryd.underlying65 hv
  have hC : Tryd.prog.cellsOf 65 = 3 := by kernel_rfl
  rw [hC] at hsz
  obtain ⟨fuel, hf⟩ := h
  have hf' : DataW.trod enc Tryd.prog w base (fun _ => true) held fuel 65 cs.toList = some (d, p) := by simpa [Value.cells] using hf
  obtain ⟨y, hy, hn⟩ := word_of_trod (by simpa using hsz) hf'
  exact ⟨y, by rw [show cs = #[.string y.n, .int .i64 y.k, .int .i64 y.v] from Array.ext' (by simpa using hy)], hn⟩

theorem choose_words {len : Nat} {p : Nat → Wd → Prop} (h : ∀ i, i < len → ∃ x, p i x) : ∃ Q : List Wd, Q.length = len ∧ ∀ i (hi : i < Q.length), p i Q[i] := by
  induction len with
  | zero => exact ⟨[], rfl, fun i hi => by simp at hi⟩
  | succ m ih =>
    obtain ⟨Q, hl, hq⟩ := ih (fun i hi => h i (by omega))
    obtain ⟨x, hx⟩ := h m (by omega)
    refine ⟨Q ++ [x], by simp [hl], fun i hi => ?_⟩
    by_cases e : i < Q.length
    · rw [List.getElem_append_left e]; exact hq i e
    · have : i = m := by simp at hi; omega
      subst this
      rw [List.getElem_append_right (by omega)]
      simp [hl]
      exact hx

set_option maxRecDepth 100000 in
theorem open_words {r : Reach} {b0 : Nat} {v : Value} {d : DataW H} {p : List MemPlace} (hv : Value.okWide Tryd.prog w r b0 22 v) (h : DataW.Trod enc Tryd.prog w base (fun _ => true) held 22 v d p) : ∃ D : List Wd, WdsL w v D := by
  obtain ⟨A, l, c, rfl⟩ := okWide_slice Tryd.underlying22 hv
  obtain ⟨fuel, hf⟩ := h
  have hC : Tryd.prog.cellsOf 65 = 3 := by kernel_rfl
  rcases open_slice Tryd.underlying22 hf with ⟨hcs, _⟩ | ⟨a, len, cap, m, n, D, Pl, hcs, hb, hl, hm, hmm, hx, hi⟩
  · simp [Value.cells] at hcs
    obtain ⟨rfl, rfl, rfl⟩ := hcs
    exact ⟨[], Nat.zero_le _, fun _ h => by simp at h, none, 0, rfl, fun h => absurd h (by simp)⟩
  · simp [Value.cells] at hcs
    obtain ⟨rfl, rfl, rfl⟩ := hcs
    simp only [if_true] at hmm
    obtain ⟨Q, hlen, hq⟩ := choose_words (len := l) (p := fun i x => WdAt w (a.add (i * 3)) x ∧ x.n.size ≤ maxLen) (fun i hil => by
      obtain ⟨cs', h1, h2⟩ := hi i (by omega)
      rw [hC] at h1
      obtain ⟨_, hcl, hat⟩ := World.cells?_some h1
      obtain ⟨y, rfl, hn⟩ := word_of_trod hcl h2
      refine ⟨y, ⟨?_, ?_, ?_⟩, hn⟩
      · have := hat 0 (by omega); rw [Addr.add_zero'] at this; simpa using this
      · have := hat 1 (by omega); rw [Addr.add_succ'] at this; simpa using this
      · have := hat 2 (by omega); rw [Addr.add_succ'] at this; simpa using this)
    refine ⟨Q, by rw [hlen]; omega, fun x hx => ?_, some a, c, by rw [hlen], fun _ => ⟨a, rfl, fun k hk => (hq k hk).1⟩⟩
    obtain ⟨k, hk, rfl⟩ := List.mem_iff_getElem.1 hx
    exact (hq k hk).2

end

/-- What a listed table of numbers gives: its cells. -/
theorem nums_of_trod {H : Type} {enc : TypeId × Value → H} {P : Program} {w : World} {base : Nat} {spare : Nat → Bool} {held : Bool} {fuel n : Nat} {t e : TypeId} {cs : List Value} {L : List Int} {q : List MemPlace}
    (ha : P.underlying t = some (.array n e)) (he : P.underlying e = some (.int .i64)) (hc : P.cellsOf e = 1)
    (h : DataW.trod enc P w base spare held fuel t cs = some (.agg (L.map fun b => .lit (.int .i64 b)), q)) : ∀ k, k < n → cs[k]? = some (.int .i64 (L.getD k 0)) := by
  intro k hk
  obtain ⟨xs, m, rfl, hx, hlen, hn, hel⟩ := DataW.trod_array ha h
  have hk' := hel k hk
  rw [hc, Nat.mul_one] at hk'
  have hkx : k < xs.length := by omega
  rw [List.getElem?_eq_getElem hkx] at hk'
  obtain ⟨s, e1, e2, _⟩ := DataW.trod_int he hk'
  simp only [Prod.mk.injEq, DataW.agg.injEq] at hx
  have hmap := congrArg (fun l => l[k]?) hx.1
  simp only [List.getElem?_map] at hmap
  rw [List.getElem?_eq_getElem hkx, e2] at hmap
  cases hL : L[k]? with
  | none => rw [hL] at hmap; simp at hmap
  | some b =>
    rw [hL] at hmap
    simp at hmap
    have h1 := congrArg (fun l => l[0]?) e1
    simp at h1
    rw [h1, List.getD_eq_getElem?_getD, hL, hmap]
    rfl

end Go.Proofs.YtjlfbmplmddceaaDoor
