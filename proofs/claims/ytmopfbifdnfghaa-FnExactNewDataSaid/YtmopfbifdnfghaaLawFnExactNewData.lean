/- laws.FnExactNewData returns true: impl.NewData and spec.NewData give the same data, and what impl hands back owns its memory. No condition. -/
import Derived.Test.YtmopfbifdnfghaaRows
import Derived.Test.YtmopfbifdnfghaaDatN
import Derived.Test.YtmopfbifdnfghaaDatL
import Derived.WalkKit
import Derived.ProofKit
import Derived.OpenShut
import Derived.ShutString
import Derived.ChangeOld
import Derived.Below
namespace Go.Proofs.Ytmopfbifdnfghaa.fnExactNewData
open Go.ChangeShapes Go.WideShapes Go.ChangeAt Go.RowKit
open Go.ChangeMaps (open_string shut_string)
set_option linter.unusedSimpArgs false
set_option linter.unusedVariables false

theorem own : ownKnob Try.prog.godebug = none := by kernel_rfl
theorem laidOut : laidOutB Try.prog = true := by kernel_rfl

theorem walk  (w : World)  :
    Calls Try.prog 5 #[] w fun e w' => e = .returned (.bool true) ∧ Below w.heap.size w w' := by
  have hsn : SmallD newDt := by unfold SmallD newDt; decide
  have RS := hsn
  obtain ⟨hr1, hr2, hr3, _⟩ := hsn
  go_enter Try.func5, Try.ntmps5
  go_wp2_with fail
  refine (sNewData_any _).mono ?_
  rintro e m1 ⟨uw, rfl, UW1, hb⟩
  obtain ⟨C1, j1, C2, j2, C3, j3, rfl⟩ := datIn_form (datOf_in UW1)
  have B1 : Below w.heap.size w m1 := hb
  have s01 : w.heap.size ≤ m1.heap.size := hb.size
  clear hb
  go_wp2_with fail
  refine (iNewData_any _).mono ?_
  rintro e m2 ⟨ug, rfl, UG2, hb⟩
  obtain ⟨G1, g1, G2, g2, G3, g3, rfl⟩ := datIn_form (datOf_in UG2)
  have s12 : m1.heap.size + 1 ≤ m2.heap.size := by have := hb.size; simpa using this
  replace UG2 := datOf_base (lo' := m1.heap.size + 1) UG2 (by simp)
  have B2 : Below w.heap.size w m2 := below_step (below_alloc B1 _) hb
  have S2 := whole_b hb (whole_new m1 _ _)
  have UW2 := datOf_b hb (datOf_below UW1 (below_alloc (Below.refl _ _) _))
  clear hb B1 UW1
  obtain ⟨s00, s01, s02, s03, s04, s05⟩ := six_cells S2
  have zs := whole_lt S2
  go_wp2_with fail
  clear s00 s01 s02 s03 s04 s05 zs
  refine (eqData_same _ _ newDt _ (datOf_in (datOf_below UG2 (below_alloc (Below.refl _ _) _))) (datOf_in (datOf_below UW2 (below_alloc (Below.refl _ _) _)))).mono ?_
  rintro e m3 ⟨rfl, hb⟩
  have s23 : m2.heap.size + 1 ≤ m3.heap.size := by have := hb.size; simpa using this
  have B3 : Below w.heap.size w m3 := below_step (below_alloc B2 _) hb
  have S3 := whole_b hb (whole_alloc S2 _)
  have G3 := whole_b hb (whole_new m2 _ _)
  have UW3 := datOf_b hb (datOf_below UW2 (below_alloc (Below.refl _ _) _))
  have UG3 := datOf_b hb (datOf_below UG2 (below_alloc (Below.refl _ _) _))
  clear hb B2 S2 UW2 UG2
  obtain ⟨g00, g01, g02, g03, g04, g05⟩ := six_cells G3
  have zg := whole_lt G3
  go_wp2_with fail
  clear g00 g01 g02 g03 g04 g05 zg
  refine (markData_any _ newDt _ _ 1 _ UG3 RS (by omega) (by omega)).mono ?_
  rintro e m4 ⟨rfl, UM4, hn⟩
  have s34 : m3.heap.size ≤ m4.heap.size := hn.size
  clear UG3
  have B4 : Below w.heap.size w m4 := B3.trans ((within_below hn (by omega)).mono (by omega))
  have S4 := whole_keep S3 (hn.block _ (whole_lt S3) (by omega))
  have G4 := whole_keep G3 (hn.block _ (whole_lt G3) (by omega))
  have UW4 := datOf_within UW3 hn (by omega)
  clear hn B3 S3 G3 UW3
  have kq : (0 : Int) ≤ ((1 + numD newDt : Nat) : Int) := by omega
  have kr : (((1 + numD newDt : Nat) : Int) != ((1 + numD newDt : Nat) : Int)) = false := by simp
  generalize hN : ((1 + numD newDt : Nat) : Int) = N at *
  have HN := Lib.hid hN
  clear hN
  obtain ⟨g00, g01, g02, g03, g04, g05⟩ := six_cells G4
  have zg := whole_lt G4
  go_wp2_with fail
  clear g00 g01 g02 g03 g04 g05 zg
  refine (heldData_any _ newDt 1 _ (datOf_in UM4) RS (by omega)).mono ?_
  rintro e m5 ⟨rfl, hb⟩
  rw [HN.out]
  have B5 : Below w.heap.size w m5 := below_step B4 hb
  have S5 := whole_b hb S4
  have G5 := whole_b hb G4
  have UW5 := datOf_b hb UW4
  have UM5 := datOf_b hb UM4
  clear hb B4 S4 G4 UW4 UM4
  go_wp2_with fail
  refine (iNewData_any _).mono ?_
  rintro e m6 ⟨uh, rfl, UH6, hb⟩
  obtain ⟨H1, h1', H2, h2', H3, h3', rfl⟩ := datIn_form (datOf_in UH6)
  have B6 : Below w.heap.size w m6 := below_step B5 hb
  have S6 := whole_b hb S5
  have G6 := whole_b hb G5
  have UW6 := datOf_b hb UW5
  have UM6 := datOf_b hb UM5
  clear hb B5 S5 G5 UW5 UM5
  obtain ⟨s00, s01, s02, s03, s04, s05⟩ := six_cells S6
  have zs := whole_lt S6
  obtain ⟨g00, g01, g02, g03, g04, g05⟩ := six_cells G6
  have zg := whole_lt G6
  go_wp2_with fail
  clear s00 s01 s02 s03 s04 s05 zs g00 g01 g02 g03 g04 g05 zg
  refine (eqData_same _ _ newDt _ (datOf_in (datOf_below UH6 (below_alloc (Below.refl _ _) _))) (datOf_in (datOf_below UW6 (below_alloc (Below.refl _ _) _)))).mono ?_
  rintro e m7 ⟨rfl, hb⟩
  have B7 : Below w.heap.size w m7 := below_step (below_alloc B6 _) hb
  have S7 := whole_b hb (whole_alloc S6 _)
  have G7 := whole_b hb (whole_alloc G6 _)
  have UW7 := datOf_b hb (datOf_below UW6 (below_alloc (Below.refl _ _) _))
  have UM7 := datOf_b hb (datOf_below UM6 (below_alloc (Below.refl _ _) _))
  have UH7 := datOf_b hb (datOf_below UH6 (below_alloc (Below.refl _ _) _))
  clear hb B6 S6 G6 UW6 UM6 UH6
  obtain ⟨g00, g01, g02, g03, g04, g05⟩ := six_cells G7
  have zg := whole_lt G7
  go_wp2_with fail
  clear g00 g01 g02 g03 g04 g05 zg
  refine (heldData_any _ newDt 1 _ (datOf_in UM7) RS (by omega)).mono ?_
  rintro e m8 ⟨rfl, hb⟩
  rw [HN.out]
  have B8 : Below w.heap.size w m8 := below_step B7 hb
  have S8 := whole_b hb S7
  have G8 := whole_b hb G7
  have UW8 := datOf_b hb UW7
  have UM8 := datOf_b hb UM7
  have UH8 := datOf_b hb UH7
  clear hb B7 S7 G7 UW7 UM7 UH7
  go_wp2
  go_ret
  exact ⟨rfl, B8⟩

set_option maxRecDepth 100000 in
theorem lifted (os : Os) (started : os.Started) (H : Type) (enc : TypeId × Value → H) :
    ReturnsInHanded {} Try.checked os 5 .any (Rows.fnExactNewDataSpec.pre6 enc Try.prog Try.f5 Rows.fnExactNewDataRow.domain false) (Rows.fnExactNewDataSpec.post enc Try.prog Try.f5 false true false false) := by
  refine returnsInHanded_of_change (C := Try.checked) own started (by kernel_rfl) Try.func5
    (ChangeSpec.witness6 (enc := enc) (C := Try.checked) false ⟨#[], #[], []⟩ 8 (by kernel_rfl) (by kernel_rfl) (by kernel_rfl) (by kernel_rfl)) ?_
  intro W base args ds gs before hval0 hW hcnd _
  have hval : ∀ (j : Nat) t v, Try.f5.params[j]? = some t → args[j]? = some v → Value.okWide Try.prog W .any base t v := hval0
  have hW' := hW
  obtain ⟨p, q, hA0, hV, rfl, hfz, hnd⟩ := hW
  have hA : DataW.TrodAll enc Try.prog W 0 (fun _ => true) true Try.f5.params.toList args.toList ds p := hA0
  rw [Try.params5] at hA hval
  obtain ⟨rfl, rfl, rfl⟩ := trodAll_none hA
  obtain ⟨rfl, rfl⟩ := trodVars_none hV
  clear hA0 hval0
  refine (walk  W ).mono fun e W' ⟨he, bel⟩ => ?_
  subst he
  exact ⟨_, rfl, _, _, _, [], _, [], hW', trodAll_mk1 (shut_bool Try.underlying4 _), rfl, rfl, bel.frame _, fun h => by cases h⟩

theorem over : Rows.fnExactNewDataRow.holds Try.pinned (OpenSpec.ofChange Rows.fnExactNewDataSpec) :=
  OpenClaim.holds_of_wide 5 Try.f5 rfl rfl rfl rfl rfl rfl rfl ⟨rfl, rfl, rfl, rfl, rfl⟩ rfl rfl rfl rfl rfl (by kernel_rfl) Try.func5 (by kernel_rfl)
    (of_decide_eq_true (by kernel_rfl)) (by unfold Func.isWrapper; first | (rw [if_pos (by decide +kernel)]; kernel_rfl) | (rw [if_neg (by decide +kernel)]; exact ⟨rfl, rfl⟩))
    (fun os started H enc _ => lifted os started H enc)

/-- The statement. -/
theorem proved : Rows.FnExactNewDataSaid := over
#print axioms proved
end Go.Proofs.Ytmopfbifdnfghaa.fnExactNewData
