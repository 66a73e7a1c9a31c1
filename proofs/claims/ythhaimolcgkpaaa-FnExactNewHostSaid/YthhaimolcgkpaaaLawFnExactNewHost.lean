/- laws.FnExactNewHost returns true: impl.NewHost and spec.NewHost give the same data, and what impl hands back owns its memory. No condition. -/
import Derived.Test.YthhaimolcgkpaaaRows
import Derived.Test.YthhaimolcgkpaaaHoL
import Derived.Test.YthhaimolcgkpaaaHiB
import Derived.Test.YthhaimolcgkpaaaHsH
import Derived.Deep.RegionHeld3
import Derived.WalkKit
import Derived.ProofKit
import Derived.OpenShut
import Derived.ShutString
import Derived.ChangeOld
import Derived.Below
namespace Go.Proofs.Ythhaimolcgkpaaa.fnExactNewHost
open Go.ChangeShapes Go.WideShapes Go.ChangeAt Go.RowKit
open Go.ChangeMaps (open_string shut_string)
set_option linter.unusedSimpArgs false
set_option linter.unusedVariables false

theorem own : ownKnob Try.prog.godebug = none := by kernel_rfl
theorem laidOut : laidOutB Try.prog = true := by kernel_rfl

set_option maxRecDepth 100000 in
set_option maxHeartbeats 2000000 in
theorem walk  (w : World)  :
    Calls Try.prog 4 #[] w fun e w' => e = .returned (.bool true) ∧ Below w.heap.size w w' := by
  have hsn := small_newHt
  have RS := hsn
  obtain ⟨hr1, hr2, hr3, hr4⟩ := hsn
  go_enter Try.func4, Try.ntmps4
  go_wp2_with fail
  refine (sNewHost_any _).mono ?_
  rintro e m1 ⟨uw, rfl, UW1, hb⟩
  obtain ⟨C1, j1, C2, j2, C3, j3, C4, j4, rfl⟩ := hostIn_form (hostOf_in UW1)
  have B1 : Below w.heap.size w m1 := hb
  have s01 : w.heap.size ≤ m1.heap.size := hb.size
  clear hb
  go_wp2_with fail
  refine (iNewHost_any _).mono ?_
  rintro e m2 ⟨ug, rfl, UG2, hb⟩
  obtain ⟨G1, g1, G2, g2, G3, g3, G4, g4, rfl⟩ := hostIn_form (hostOf_in UG2)
  have s12 : m1.heap.size + 1 ≤ m2.heap.size := by have := hb.size; simpa using this
  replace UG2 := hostOf_base (lo' := m1.heap.size + 1) UG2 (by simp)
  have B2 : Below w.heap.size w m2 := below_step (below_alloc B1 _) hb
  have S2 := whole_b hb (whole_new m1 _ _)
  have UW2 := hostOf_b hb (hostOf_below UW1 (below_alloc (Below.refl _ _) _))
  clear hb B1 UW1
  obtain ⟨s00, s01, s02, s03, s04⟩ := five_cells S2
  have zs := whole_lt S2
  go_wp2_with fail
  clear s00 s01 s02 s03 s04 zs
  refine (eqHost_same _ _ newHt _ (hostOf_in (hostOf_below UG2 (below_alloc (Below.refl _ _) _))) (hostOf_in (hostOf_below UW2 (below_alloc (Below.refl _ _) _)))).mono ?_
  rintro e m3 ⟨rfl, hb⟩
  have s23 : m2.heap.size + 1 ≤ m3.heap.size := by have := hb.size; simpa using this
  have B3 : Below w.heap.size w m3 := below_step (below_alloc B2 _) hb
  have S3 := whole_b hb (whole_alloc S2 _)
  have G3 := whole_b hb (whole_new m2 _ _)
  have UW3 := hostOf_b hb (hostOf_below UW2 (below_alloc (Below.refl _ _) _))
  have UG3 := hostOf_b hb (hostOf_below UG2 (below_alloc (Below.refl _ _) _))
  clear hb B2 S2 UW2 UG2
  obtain ⟨g00, g01, g02, g03, g04⟩ := five_cells G3
  have zg := whole_lt G3
  go_wp2_with fail
  clear g00 g01 g02 g03 g04 zg
  refine (markHost_any _ newHt _ _ 1 _ UG3 RS (by omega) (by omega)).mono ?_
  rintro e m4 ⟨rfl, UM4, hn⟩
  have s34 : m3.heap.size ≤ m4.heap.size := hn.size
  clear UG3
  have B4 : Below w.heap.size w m4 := B3.trans ((within_below hn (by omega)).mono (by omega))
  have S4 := whole_keep S3 (hn.block _ (whole_lt S3) (by omega))
  have G4 := whole_keep G3 (hn.block _ (whole_lt G3) (by omega))
  have UW4 := hostOf_within UW3 hn (by omega)
  clear hn B3 S3 G3 UW3
  have kq : (0 : Int) ≤ ((1 + numH newHt : Nat) : Int) := by omega
  have kr : (((1 + numH newHt : Nat) : Int) != ((1 + numH newHt : Nat) : Int)) = false := by simp
  generalize hN : ((1 + numH newHt : Nat) : Int) = N at *
  have HN := Lib.hid hN
  clear hN
  obtain ⟨g00, g01, g02, g03, g04⟩ := five_cells G4
  have zg := whole_lt G4
  go_wp2_with fail
  clear g00 g01 g02 g03 g04 zg
  refine (heldHost_any _ newHt 1 _ (hostOf_in UM4) RS (by omega)).mono ?_
  rintro e m5 ⟨rfl, hb⟩
  rw [HN.out]
  have B5 : Below w.heap.size w m5 := below_step B4 hb
  have S5 := whole_b hb S4
  have G5 := whole_b hb G4
  have UW5 := hostOf_b hb UW4
  have UM5 := hostOf_b hb UM4
  clear hb B4 S4 G4 UW4 UM4
  go_wp2_with fail
  refine (iNewHost_any _).mono ?_
  rintro e m6 ⟨uh, rfl, UH6, hb⟩
  obtain ⟨H1, h1', H2, h2', H3, h3', H4, h4', rfl⟩ := hostIn_form (hostOf_in UH6)
  have B6 : Below w.heap.size w m6 := below_step B5 hb
  have S6 := whole_b hb S5
  have G6 := whole_b hb G5
  have UW6 := hostOf_b hb UW5
  have UM6 := hostOf_b hb UM5
  clear hb B5 S5 G5 UW5 UM5
  obtain ⟨s00, s01, s02, s03, s04⟩ := five_cells S6
  have zs := whole_lt S6
  obtain ⟨g00, g01, g02, g03, g04⟩ := five_cells G6
  have zg := whole_lt G6
  go_wp2_with fail
  clear s00 s01 s02 s03 s04 zs g00 g01 g02 g03 g04 zg
  refine (eqHost_same _ _ newHt _ (hostOf_in (hostOf_below UH6 (below_alloc (Below.refl _ _) _))) (hostOf_in (hostOf_below UW6 (below_alloc (Below.refl _ _) _)))).mono ?_
  rintro e m7 ⟨rfl, hb⟩
  have B7 : Below w.heap.size w m7 := below_step (below_alloc B6 _) hb
  have S7 := whole_b hb (whole_alloc S6 _)
  have G7 := whole_b hb (whole_alloc G6 _)
  have UW7 := hostOf_b hb (hostOf_below UW6 (below_alloc (Below.refl _ _) _))
  have UM7 := hostOf_b hb (hostOf_below UM6 (below_alloc (Below.refl _ _) _))
  have UH7 := hostOf_b hb (hostOf_below UH6 (below_alloc (Below.refl _ _) _))
  clear hb B6 S6 G6 UW6 UM6 UH6
  obtain ⟨g00, g01, g02, g03, g04⟩ := five_cells G7
  have zg := whole_lt G7
  go_wp2_with fail
  clear g00 g01 g02 g03 g04 zg
  refine (heldHost_any _ newHt 1 _ (hostOf_in UM7) RS (by omega)).mono ?_
  rintro e m8 ⟨rfl, hb⟩
  rw [HN.out]
  have B8 : Below w.heap.size w m8 := below_step B7 hb
  have S8 := whole_b hb S7
  have G8 := whole_b hb G7
  have UW8 := hostOf_b hb UW7
  have UM8 := hostOf_b hb UM7
  have UH8 := hostOf_b hb UH7
  clear hb B7 S7 G7 UW7 UM7 UH7
  go_wp2
  go_ret
  exact ⟨rfl, B8⟩

set_option maxRecDepth 100000 in
theorem lifted (os : Os) (started : os.Started) (H : Type) (enc : TypeId × Value → H) :
    ReturnsInHanded {} Try.checked os 4 .any (Rows.fnExactNewHostSpec.pre6 enc Try.prog Try.f4 Rows.fnExactNewHostRow.domain false) (Rows.fnExactNewHostSpec.post enc Try.prog Try.f4 false true false false) := by
  refine returnsInHanded_of_change (C := Try.checked) own started (by kernel_rfl) Try.func4
    (ChangeSpec.witness6 (enc := enc) (C := Try.checked) false ⟨#[], #[], []⟩ 8 (by kernel_rfl) (by kernel_rfl) (by kernel_rfl) (by kernel_rfl)) ?_
  intro W base args ds gs before hval0 hW hcnd _
  have hval : ∀ (j : Nat) t v, Try.f4.params[j]? = some t → args[j]? = some v → Value.okWide Try.prog W .any base t v := hval0
  have hW' := hW
  obtain ⟨p, q, hA0, hV, rfl, hfz, hnd⟩ := hW
  have hA : DataW.TrodAll enc Try.prog W 0 (fun _ => true) true Try.f4.params.toList args.toList ds p := hA0
  rw [Try.params4] at hA hval
  obtain ⟨rfl, rfl, rfl⟩ := trodAll_none hA
  obtain ⟨rfl, rfl⟩ := trodVars_none hV
  clear hA0 hval0
  refine (walk  W ).mono fun e W' ⟨he, bel⟩ => ?_
  subst he
  exact ⟨_, rfl, _, _, _, [], _, [], hW', trodAll_mk1 (shut_bool Try.underlying4 _), rfl, rfl, bel.frame _, fun h => by cases h⟩

theorem over : Rows.fnExactNewHostRow.holds Try.pinned (OpenSpec.ofChange Rows.fnExactNewHostSpec) :=
  OpenClaim.holds_of_wide 4 Try.f4 rfl rfl rfl rfl rfl rfl rfl ⟨rfl, rfl, rfl, rfl, rfl⟩ rfl rfl rfl rfl rfl (by kernel_rfl) Try.func4 (by kernel_rfl)
    (of_decide_eq_true (by kernel_rfl)) (by unfold Func.isWrapper; first | (rw [if_pos (by decide +kernel)]; kernel_rfl) | (rw [if_neg (by decide +kernel)]; exact ⟨rfl, rfl⟩))
    (fun os started H enc _ => lifted os started H enc)

/-- The statement. -/
theorem proved : Rows.FnExactNewHostSaid := over
#print axioms proved
end Go.Proofs.Ythhaimolcgkpaaa.fnExactNewHost
