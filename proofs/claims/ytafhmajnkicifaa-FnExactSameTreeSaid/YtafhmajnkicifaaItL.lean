/- An argument's items, opened. -/
import Derived.Test.YtafhmajnkicifaaItB
import Derived.Deep.Slices
import Derived.Lib.SmallJoins
import Derived.Deep.Grids
import Derived.ChangeOld
import Derived.OpenShut
import Derived.ProofKit
namespace Go.Proofs.Ytafhmajnkicifaa
open Go.Joins Go.ChangeShapes Go.WideShapes Go.RowKit Go.Deep Go.ChangeAt
set_option linter.unusedVariables false
set_option linter.unusedSimpArgs false

/-- An item that came in. -/
def ItIn (w : World) (v : Value) (x : It) : Prop := v = .agg #[.int .i64 x.k, .int .i64 x.v] ∧ (Lit.int .i64 x.k).wf = true ∧ (Lit.int .i64 x.v).wf = true

section
variable {H : Type} {enc : TypeId × Value → H} {w : World} {base : Nat} {spare : Nat → Bool} {held : Bool}

theorem itm_one : Try.prog.cellsOf 3 = 1 := by kernel_rfl

theorem item_of_trod {fuel : Nat} {cs : List Value} {x : DataW H × List MemPlace} (hl : cs.length = 2) (h : DataW.trod enc Try.prog w base spare held fuel 61 cs = some x) : ∃ y : It, cs = [.int .i64 y.k, .int .i64 y.v] ∧ (Lit.int .i64 y.k).wf = true ∧ (Lit.int .i64 y.v).wf = true := by
  match cs, hl with
  | [c0, c1], _ =>
    obtain ⟨xs, n, _, hx, _, hlen, hg⟩ := DataW.trod_struct Try.underlying61 h
    match xs, hlen with
    | [y0, y1], _ =>
      have g0 := hg 0 _ rfl
      have g1 := hg 1 _ rfl
      simp [itm_one] at g0 g1
      obtain ⟨n0, e0, _, f0⟩ := DataW.trod_int Try.underlying3 g0
      obtain ⟨n1, e1, _, f1⟩ := DataW.trod_int Try.underlying3 g1
      simp only [List.cons.injEq, and_true] at e0 e1
      subst e0 e1
      exact ⟨⟨n0, n1⟩, rfl, f0, f1⟩

theorem choose_items {len : Nat} {p : Nat → It → Prop} (h : ∀ i, i < len → ∃ x, p i x) : ∃ Q : List It, Q.length = len ∧ ∀ i (hi : i < Q.length), p i Q[i] := by
  induction len with
  | zero => exact ⟨[], rfl, fun i hi => by simp at hi⟩
  | succ m ih =>
    obtain ⟨Q, hl, hq⟩ := ih (fun i hi => h i (by omega))
    obtain ⟨x, hx⟩ := h m (by omega)
    refine ⟨Q ++ [x], by simp [hl], fun i hi => ?_⟩
    by_cases e : i < Q.length
    · rw [List.getElem_append_left e]; exact hq i e
    · have : i = m := by simp at hi; omega
      subst this
      rw [List.getElem_append_right (by omega)]
      simp [hl]
      exact hx

theorem its_of_trod {fuel : Nat} {A : Option Addr} {l c : Nat} {x : DataW H × List MemPlace} (hf : DataW.trod enc Try.prog w base (fun _ => true) held fuel 33 [.slice A l c] = some x) : ∃ D : List It, Its w (.slice A l c) D := by
  have hC : Try.prog.cellsOf 61 = 2 := by kernel_rfl
  rcases open_slice Try.underlying33 hf with ⟨hcs, _⟩ | ⟨a, len, cap, m, n, D, Pl, hcs, hb, hl, hm, hmm, hx, hi⟩
  · simp at hcs
    obtain ⟨rfl, rfl, rfl⟩ := hcs
    exact ⟨[], its_nil w⟩
  · simp at hcs
    obtain ⟨rfl, rfl, rfl⟩ := hcs
    simp only [if_true] at hmm
    obtain ⟨Q, hlen, hq⟩ := choose_items (len := l) (p := fun i x => ItAt w (a.add (i * 2)) x) (fun i hil => by
      obtain ⟨cs', h1, h2⟩ := hi i (by omega)
      rw [hC] at h1
      obtain ⟨_, hcl, hat⟩ := World.cells?_some h1
      obtain ⟨y, rfl, _, _⟩ := item_of_trod hcl h2
      refine ⟨y, ?_, ?_⟩
      · have := hat 0 (by omega); rw [Addr.add_zero'] at this; simpa using this
      · have := hat 1 (by omega); rw [Addr.add_succ'] at this; simpa using this)
    exact ⟨Q, by rw [hlen]; omega, some a, c, by rw [hlen], fun _ => ⟨a, rfl, fun k hk => hq k hk⟩⟩

set_option maxRecDepth 100000 in
theorem open_items {r : Reach} {b0 : Nat} {v : Value} {d : DataW H} {p : List MemPlace} (hv : Value.okWide Try.prog w r b0 33 v) (h : DataW.Trod enc Try.prog w base (fun _ => true) held 33 v d p) : ∃ D : List It, Its w v D := by
  obtain ⟨A, l, c, rfl⟩ := okWide_slice Try.underlying33 hv
  obtain ⟨fuel, hf⟩ := h
  exact its_of_trod (fuel := fuel) (x := (d, p)) (by simpa [Value.cells] using hf)

set_option maxRecDepth 100000 in
theorem open_item {r : Reach} {b0 : Nat} {v : Value} {d : DataW H} {p : List MemPlace} (hv : Value.okWide Try.prog w r b0 61 v) (h : DataW.Trod enc Try.prog w base (fun _ => true) held 61 v d p) :
    ∃ D : It, ItIn w v D := by
  obtain ⟨cs, rfl, hsz⟩ := okWide_struct Try.underlying61 hv
  have hC : Try.prog.cellsOf 61 = 2 := by kernel_rfl
  rw [hC] at hsz
  obtain ⟨l⟩ := cs
  match l, hsz with
  | [c0, c1], _ =>
    obtain ⟨fuel, hf⟩ := h
    obtain ⟨y, e, f0, f1⟩ := item_of_trod (cs := [c0, c1]) rfl hf
    refine ⟨y, ?_, f0, f1⟩
    rw [e]

end

end Go.Proofs.Ytafhmajnkicifaa
