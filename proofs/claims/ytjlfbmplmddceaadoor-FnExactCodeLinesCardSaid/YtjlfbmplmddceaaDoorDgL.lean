/- What the law of CodeLines needs besides: the list of numbers with its bounds, rows of texts compared and kept. -/
import Derived.Test.YtjlfbmplmddceaaDoorDgE
import Derived.Test.YtjlfbmplmddceaaDoorWdB
import Derived.Test.YtjlfbmplmddceaaDoorDatC
import Derived.Test.YtjlfbmplmddceaaDoorDatL
import Derived.Test.YtjlfbmplmddceaaDoorWdL
import Derived.Test.YtjlfbmplmddceaaDoorStrsB
namespace Go.Proofs.YtjlfbmplmddceaaDoor
open Go.RowKit Go.ChangeShapes Go.WideShapes
set_option linter.unusedVariables false
set_option linter.unusedSimpArgs false

/-- A list of numbers, each of the width. -/
def IntsZ (w : World) (v : Value) (D : List Int) : Prop := Ints w v D ∧ ∀ z ∈ D, -9223372036854775808 ≤ z ∧ z ≤ 9223372036854775807

set_option maxRecDepth 100000 in
theorem open_intsZ {H : Type} {enc : TypeId × Value → H} {w : World} {base : Nat} {held : Bool} {r : Reach} {b0 : Nat} {v : Value} {d : DataW H} {p : List MemPlace} (hv : Value.okWide Tryd.prog w r b0 23 v) (h : DataW.Trod enc Tryd.prog w base (fun _ => true) held 23 v d p) :
    ∃ D : List Int, IntsZ w v D := by
  obtain ⟨A, n, c, rfl⟩ := WideShapes.okWide_slice Tryd.underlying23 hv
  obtain ⟨fuel, hf⟩ := h
  rcases open_ints Tryd.underlying23 Tryd.underlying3 (by kernel_rfl) hf with ⟨hcs, _⟩ | ⟨a, l, c, zs, hcs, _, hl, hm, hz, _, hcell, hwz⟩
  · have hcs := List.cons.inj hcs
    refine ⟨[], by rw [hcs.1]; exact ints_nil w, fun z hz => by simp at hz⟩
  · have hcs := (List.cons.inj hcs).1
    rw [hcs]
    simp only [if_true] at hz
    have hlen : (zs.take l).length = l := by rw [List.length_take]; omega
    refine ⟨zs.take l, ⟨by rw [hlen]; omega, some a, c, by rw [hlen], fun _ => ⟨a, rfl, fun k hk => ?_⟩⟩, fun z hz => ?_⟩
    · rw [hlen] at hk
      rw [hcell k (by omega)]
      simp [List.getD_eq_getElem?_getD, show k < zs.length by omega]
    · have h := hwz z (List.mem_of_mem_take hz)
      simp only [Lit.wf, Bool.and_eq_true, decide_eq_true_eq] at h
      exact ⟨h.1, h.2⟩

theorem goL_len {Q : List Wd} {c : List Int} : ∀ (f i : Nat) (acc : List (List UInt8)), (goL Q c f i acc).1.length ≤ acc.length + f
  | 0, _, _ => by unfold goL; exact Nat.zero_le _
  | f + 1, i, acc => by
    unfold goL
    split
    · split
      · exact Nat.zero_le _
      · split
        · simp only [List.length_append, List.length_cons, List.length_nil]; omega
        · refine Nat.le_trans (goL_len f _ _) ?_
          simp only [List.length_append, List.length_cons, List.length_nil]; omega
    · exact Nat.zero_le _

theorem linesR_len (Q : List Wd) (c : List Int) (a : Int) : (linesR Q c a).1.length ≤ 4097 := by
  unfold linesR
  split
  · exact Nat.zero_le _
  · split
    · exact Nat.zero_le _
    · split
      · exact Nat.zero_le _
      · refine Nat.le_trans (goL_len _ _ _) ?_
        simp; omega

theorem eqRows_same (u v : Value) (base base2 : Nat) (Q : List (List UInt8)) (w : World) (hu : w.ownsRow base 9 1 u Q.length (Q.map strV)) (hv : w.ownsRow base2 9 1 v Q.length (Q.map strV)) :
    Calls Tryd.prog 12 #[u, v] w fun e w' => e = .returned (.bool true) ∧ Below w.heap.size w w' := by
  obtain ⟨A, ca, rfl, ha⟩ := strs_of_own hu
  obtain ⟨B, cb, rfl, hb⟩ := strs_of_own hv
  refine (eqStrs_any A B ca cb Q Q w ha hb).mono ?_
  rintro e w' ⟨n, rfl, rfl⟩
  exact ⟨by simp, below_drewN (Below.refl _ _) _⟩

theorem eqInts_same (u v : Value) (zs : List Int) (w : World) (hu : Ints w u zs) (hv : Ints w v zs) :
    Calls Tryd.prog 14 #[u, v] w fun e w' => e = .returned (.bool true) ∧ Below w.heap.size w w' := by
  refine (eqInts_any u v zs zs w hu hv).mono ?_
  intro e w' h
  obtain ⟨n, h1, h2⟩ := boolOf_true h
  exact ⟨h1, by rw [h2]; exact below_drewN (Below.refl _ _) _⟩

/-- A row of texts that is none of the written ones is as it was. -/
theorem own_far {w w' : World} {base : Nat} {e : TypeId} {v : Value} {b : Option Nat} {n : Nat} {xs : List Value} (h : w.ownsRow base e 1 v n xs) (hg : w.grownBy w' b) (hne : ∀ g, v.ownBlock = some g → ¬ some g = b) : w'.ownsRow base e 1 v n xs := by
  refine h.kept hg ?_
  cases hv : v.ownBlock with
  | none => exact .inl rfl
  | some g => exact .inr fun e => hne g hv e

end Go.Proofs.YtjlfbmplmddceaaDoor
