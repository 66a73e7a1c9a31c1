/- laws.FnExactSameMachine returns true at every two machines: impl.SameMachine and spec.SameMachine give the same answer, and impl.SameMachine writes into no argument. No condition but the card's: the two listed tables are tied to the program's text (a pruned copy of the project). -/
import Derived.Test.YtjlfbmplmddceaaDoorRows
import Derived.Test.YtjlfbmplmddceaaDoorTie
import Derived.Test.YtjlfbmplmddceaaDoorCards
import Derived.Test.YtjlfbmplmddceaaDoorWdL
import Derived.Test.YtjlfbmplmddceaaDoorPkM
import Derived.Test.YtjlfbmplmddceaaDoorPkO
import Derived.Deep.RegionHeld3
import Derived.Deep.DeepCutAuto
import Derived.WalkKit
import Derived.ProofKit
import Derived.OpenShut
import Derived.ShutString
import Derived.ChangeOld
import Derived.Below
import Derived.LaidMore
import Derived.Stop.Joined
import Derived.ChangeVars
import Derived.WalkSmall
import Derived.SevenTiedAt
import Derived.OpenVars
namespace Go.Proofs.YtjlfbmplmddceaaDoor.fnExactSameMachine
open Go.ChangeShapes Go.WideShapes Go.ChangeAt Go.RowKit
open Go.ChangeMaps (open_string shut_string)
set_option linter.unusedSimpArgs false
set_option linter.unusedVariables false

theorem own : ownKnob Tryd.prog.godebug = none := by kernel_rfl
theorem laidOut : laidOutB Tryd.prog = true := by kernel_rfl

/-- What the row lists. -/
def listed : List (String × DataW Unit) := [("loop.example/g00787/impl.kernelNames", Rows.laid_loop_example_g00787_impl_kernelNames), ("loop.example/g00787/impl.kernelEnds", Rows.laid_loop_example_g00787_impl_kernelEnds)]

/-- The door's own heap meets the condition. -/
theorem door_met (os : Os) (args : Array Value) : laidMetH Tryd.prog listed ((World.doorLaid Tryd.prog 34 os).forCall (fun _ _ => 0) ⟨#[], args, []⟩).memory :=
  laidMetH_of_parts3 (fuel := 8) (laidMet_of_run' 8 (by kernel_rfl) (by kernel_rfl)) (by kernel_rfl) (by kernel_rfl)

/-- What the condition gives the walk. -/
theorem of_laid {w : World} (h : laidMetH Tryd.prog listed w) : Tabs w := by
  rw [MakeChecks.laidMetH_plain _ _ _ (by kernel_rfl)] at h
  obtain ⟨ps, ⟨g0, t0, cs0, f0, p0, q0, hg0, ht0, hv0, hd0, ⟨g1, t1, cs1, f1, p1, q1, hg1, ht1, hv1, hd1, _, _⟩, _⟩, _, _⟩ := h
  obtain rfl := Option.some.inj ((show Tryd.prog.globalNamed "loop.example/g00787/impl.kernelNames" = some 1 by kernel_rfl).symm.trans hg0)
  obtain rfl := Option.some.inj ((show Tryd.prog.globalNamed "loop.example/g00787/impl.kernelEnds" = some 0 by kernel_rfl).symm.trans hg1)
  obtain rfl := Option.some.inj ((show (Tryd.prog.globals[1]?).map (·.type) = some 120 by kernel_rfl).symm.trans ht0)
  obtain rfl := Option.some.inj ((show (Tryd.prog.globals[0]?).map (·.type) = some 119 by kernel_rfl).symm.trans ht1)
  refine ⟨fun i hi => ?_, fun j hj => ?_⟩
  · have hs := nums_of_trod (L := [0, 52, 56, 62, 66, 83]) Tryd.underlying119 Tryd.underlying3 (by kernel_rfl) hd1 i hi
    rw [World.var?_cell hg1 hv1 i, ← Array.getElem?_toList, hs]
    match i, hi with
    | 0, _ => rfl
    | 1, _ => rfl
    | 2, _ => rfl
    | 3, _ => rfl
    | 4, _ => rfl
    | 5, _ => rfl
  · have hs := strs_of_trod (L := knames) Tryd.underlying120 Tryd.underlying9 (by kernel_rfl) hd0 j hj
    rw [World.var?_cell hg0 hv0 j, ← Array.getElem?_toList]
    exact hs

set_option maxRecDepth 100000 in
set_option maxHeartbeats 4000000 in
theorem walk (v0 : Value) (D0 : Mc) (v1 : Value) (D1 : Mc) (w : World) (w0 : MchL w v0 D0) (w1 : MchL w v1 D1) (hl : Tabs w) :
    Calls Tryd.prog 6 #[v0, v1] w fun e w' => e = .returned (.bool true) ∧ Below w.heap.size w w' := by
  have HT := Lib.hid hl
  obtain ⟨cs, rfl, hcs⟩ := mchL_cells w0
  obtain ⟨ct, rfl, hct⟩ := mchL_cells w1
  have HD0 := Lib.hid w0
  have HD1 := Lib.hid w1
  clear hl w0 w1
  have V0 := whole_alloc (whole_new w 57 cs) (.cells ct 57)
  have Y0 := whole_new1 w (.cells cs 57) 57 ct
  have SS : Hid (∀ u v W, MchIn W u D0 → MchIn W v D1 → Calls Tryd.prog 28 #[u, v] W fun e w' => e = .returned (.bool (mSame D0 D1)) ∧ Below W.heap.size W w') := Lib.hid fun u v W h k => sSameMachine_any u v D0 D1 W h k
  have IS : Hid (∀ u v W, MchIn W u D0 → MchIn W v D1 → Tabs W → Calls Tryd.prog 29 #[u, v] W fun e w' => e = .returned (.bool (mSame D0 D1)) ∧ Below W.heap.size W w') := Lib.hid fun u v W h k t => iSameMachine_any u v D0 D1 W h k t
  generalize mSame D0 D1 = mk at *
  have ts : (mk != mk) = false := by simp
  go_enter Tryd.func6, Tryd.ntmps6
  go_wp2_with (first | (refine wpList_load_mL rfl _ rfl _ rfl (by assumption) (by assumption) ?_) | (refine wpList_load_mI rfl _ rfl _ rfl (by assumption) (by assumption) ?_) | (refine wpList_store_mI rfl _ _ rfl _ rfl rfl _ (by assumption) ?_) | fail)
  refine (szMachine_any _ D0 1048576 _ (mchL_below HD0.out (below_alloc (below_alloc (Below.refl _ _) _) _)) (by omega) (by omega)).mono ?_
  rintro e w1 ⟨r, rfl, hr, hb⟩
  have B1 := Lib.hid (below_step (below_alloc (below_alloc (Below.refl _ _) _) _) hb)
  have V1 := whole_b hb V0
  have Y1 := whole_b hb Y0
  clear hb V0 Y0
  rcases hr with rfl | ⟨h0, h1, hs⟩
  · go_wp2
    go_ret
    exact ⟨rfl, B1.out⟩
  have SD0 := Lib.hid hs
  clear hs
  go_wp2_with (first | (refine wpList_load_mL rfl _ rfl _ rfl (by assumption) (by assumption) ?_) | (refine wpList_load_mI rfl _ rfl _ rfl (by assumption) (by assumption) ?_) | (refine wpList_store_mI rfl _ _ rfl _ rfl rfl _ (by assumption) ?_) | fail)
  refine (szMachine_any _ D1 _ _ (mchL_below HD1.out B1.out) h0 h1).mono ?_
  rintro e w2 ⟨r2, rfl, hr, hb⟩
  have B2 := Lib.hid (below_step B1.out hb)
  have V2 := whole_b hb V1
  have Y2 := whole_b hb Y1
  clear hb V1 Y1 B1 h0 h1
  rcases hr with rfl | ⟨h0, h1, hs⟩
  · go_wp2
    go_ret
    exact ⟨rfl, B2.out⟩
  have SD1 := Lib.hid hs
  clear hs
  go_wp2_with (first | (refine wpList_load_mL rfl _ rfl _ rfl (by assumption) (by assumption) ?_) | (refine wpList_load_mI rfl _ rfl _ rfl (by assumption) (by assumption) ?_) | (refine wpList_store_mI rfl _ _ rfl _ rfl rfl _ (by assumption) ?_) | fail)
  go_cut [6] (fun s6 wx => s6 = .bool mk ∧ Below w.heap.size w wx ∧ Whole wx w.heap.size 57 cs ∧ Whole wx (w.heap.size + 1) 57 ct)
  case first =>
    refine wp_region_held_drew (S := fun w' => Whole w' w.heap.size 57 cs ∧ Whole w' (w.heap.size + 1) 57 ct) (by kernel_rfl) ⟨V2, Y2⟩ (fun hHeld => ?_)
    refine wpAnyH_take (i := 0) (oi := { dst := some _, op := _, type := _, pos := _, after := _, guard := _ }) rfl (by kernel_rfl) (by kernel_rfl) (by kernel_rfl) (fun _ _ _ h => h) (yields_load_mL (by rfl) _ rfl _ rfl (fun w h => h.1) (by assumption)) hHeld ?_
    refine wpAnyH_take (i := 2) (oi := { dst := some _, op := _, type := _, pos := _, after := _, guard := _ }) rfl (by kernel_rfl) (by kernel_rfl) (by kernel_rfl) (fun _ _ _ h => h) (yields_load_mL (by rfl) _ rfl _ rfl (fun w h => h.2) (by assumption)) hHeld ?_
    refine wpAnyH_ready (rs := [1]) (by kernel_rfl) (by simp) ?_
    refine AllReadyH.cons (o := { dst := some _, op := _, type := _, pos := _, after := _, guard := _ }) rfl (fun K hK => ?_) AllReadyH.nil
    go_simp
    refine (toMachine_any _ D0 _ (mchL_below HD0.out B2.out.drew) SD0.out).mono ?_
    rintro e w3 ⟨Pv, rfl, hu, hb⟩
    have V3 := whole_b hb V2
    have Y3 := whole_b hb Y2
    have P3 := Lib.hid (mchT_in hu)
    have B3 : Hid (Below w.heap.size w w3) := Lib.hid (below_b hb B2.out.drew)
    clear hb hu
    refine hK.out _ _ ⟨V3, Y3⟩ (fun hHeld => ?_)
    refine wpAnyH_ready (rs := [3]) (by kernel_rfl) (by simp) ?_
    refine AllReadyH.cons (o := { dst := some _, op := _, type := _, pos := _, after := _, guard := _ }) rfl (fun K hK => ?_) AllReadyH.nil
    go_simp
    refine (toMachine_any _ D1 _ (mchL_below HD1.out B3.out) SD1.out).mono ?_
    rintro e w4 ⟨Rv, rfl, hu, hb⟩
    have V4 := whole_b hb V3
    have Y4 := whole_b hb Y3
    have P4 := Lib.hid (mchIn_b hb P3.out)
    have R4 := Lib.hid (mchT_in hu)
    have B4 : Hid (Below w.heap.size w w4) := Lib.hid (below_b hb B3.out)
    clear hb hu
    refine hK.out _ _ ⟨V4, Y4⟩ (fun hHeld => ?_)
    refine wpAnyH_ready (rs := [4]) (by kernel_rfl) (by simp) ?_
    refine AllReadyH.cons (o := { dst := some _, op := _, type := _, pos := _, after := _, guard := _ }) rfl (fun K hK => ?_) AllReadyH.nil
    go_simp
    refine (SS.out _ _ _ P4.out R4.out).mono ?_
    rintro e w5 ⟨rfl, hb⟩
    have V5 := whole_b hb V4
    have Y5 := whole_b hb Y4
    have B5 : Hid (Below w.heap.size w w5) := Lib.hid (below_b hb B4.out)
    clear hb
    refine hK.out _ _ ⟨V5, Y5⟩ (fun hHeld => ?_)
    refine wpAnyH_take (i := 5) (oi := { dst := some _, op := _, type := _, pos := _, after := _, guard := _ }) (v := ?_) rfl (by kernel_rfl) (by kernel_rfl) (by kernel_rfl) (fun _ _ _ h => h) (Or.inl ⟨by rfl, ?_⟩) hHeld ?_
    rotate_left 1
    · intro w hSw; go_simp; try with_reducible rfl
    refine wpAnyH_done (by kernel_rfl) ?_ _
    go_wp2_with fail
    go_meet
    exact ⟨rfl, B5.out, V5, Y5⟩
  case rest =>
  obtain ⟨rfl, b6, V6, Y6⟩ := hcut
  have B6 := Lib.hid b6
  clear b6 V2 Y2 B2
  rename World => w6
  go_wp2_with (first | (refine wpList_load_mL rfl _ rfl _ rfl (by assumption) (by assumption) ?_) | (refine wpList_load_mI rfl _ rfl _ rfl (by assumption) (by assumption) ?_) | (refine wpList_store_mI rfl _ _ rfl _ rfl rfl _ (by assumption) ?_) | fail)
  refine (toMachine_any _ D0 _ (mchL_below HD0.out B6.out) SD0.out).mono ?_
  rintro e w7 ⟨u7, rfl, hu, hb⟩
  obtain ⟨cu, rfl, hcu⟩ := mchIn_cells (mchT_in hu)
  have U7 := Lib.hid (mchIn_below (mchT_in hu) (below_alloc (Below.refl _ _) (.cells cu 46)))
  have B7 := Lib.hid (below_alloc (below_step B6.out hb) (.cells cu 46))
  have V7 := whole_alloc (whole_b hb V6) (.cells cu 46)
  have Y7 := whole_alloc (whole_b hb Y6) (.cells cu 46)
  have X7 := whole_new w7 46 cu
  clear hb V6 Y6 B6 hu
  go_wp2_with (first | (refine wpList_load_mL rfl _ rfl _ rfl (by assumption) (by assumption) ?_) | (refine wpList_load_mI rfl _ rfl _ rfl (by assumption) (by assumption) ?_) | (refine wpList_store_mI rfl _ _ rfl _ rfl rfl _ (by assumption) ?_) | fail)
  refine (toMachine_any _ D1 _ (mchL_below HD1.out B7.out) SD1.out).mono ?_
  rintro e w8 ⟨u8, rfl, hu, hb⟩
  obtain ⟨cz, rfl, hcz⟩ := mchIn_cells (mchT_in hu)
  have Z8 := Lib.hid (mchIn_below (mchT_in hu) (below_alloc (Below.refl _ _) (.cells cz 46)))
  have U8 := Lib.hid (mchIn_below (mchIn_b hb U7.out) (below_alloc (Below.refl _ _) (.cells cz 46)))
  have B8 := Lib.hid (below_alloc (below_step B7.out hb) (.cells cz 46))
  have V8 := whole_alloc (whole_b hb V7) (.cells cz 46)
  have Y8 := whole_alloc (whole_b hb Y7) (.cells cz 46)
  have X8 := whole_alloc (whole_b hb X7) (.cells cz 46)
  have T8 := whole_new w8 46 cz
  clear hb V7 Y7 X7 B7 U7 hu
  go_wp2_with (first | (refine wpList_load_mL rfl _ rfl _ rfl (by assumption) (by assumption) ?_) | (refine wpList_load_mI rfl _ rfl _ rfl (by assumption) (by assumption) ?_) | (refine wpList_store_mI rfl _ _ rfl _ rfl rfl _ (by assumption) ?_) | fail)
  refine (IS.out _ _ _ U8.out Z8.out (tabs_below HT.out B8.out)).mono ?_
  rintro e w9 ⟨rfl, hb⟩
  have B9 := Lib.hid (below_step B8.out hb)
  have V9 := whole_b hb V8
  have Y9 := whole_b hb Y8
  have X9 := whole_b hb X8
  have T9 := whole_b hb T8
  have U9 := Lib.hid (mchIn_b hb U8.out)
  have Z9 := Lib.hid (mchIn_b hb Z8.out)
  clear hb V8 Y8 X8 T8 B8 U8 Z8
  go_wp2_with (first | (refine wpList_load_mL rfl _ rfl _ rfl (by assumption) (by assumption) ?_) | (refine wpList_load_mI rfl _ rfl _ rfl (by assumption) (by assumption) ?_) | (refine wpList_store_mI rfl _ _ rfl _ rfl rfl _ (by assumption) ?_) | fail)
  refine wp_region_held_drew (S := fun w' => Whole w' w.heap.size 57 cs ∧ Whole w' w7.heap.size 46 cu) (by kernel_rfl) ⟨V9, X9⟩ (fun hHeld => ?_)
  refine wpAnyH_take (i := 0) (oi := { dst := some _, op := _, type := _, pos := _, after := _, guard := _ }) rfl (by kernel_rfl) (by kernel_rfl) (by kernel_rfl) (fun _ _ _ h => h) (yields_load_mI (by rfl) _ rfl _ rfl (fun w h => h.2) (by assumption)) hHeld ?_
  refine wpAnyH_take (i := 1) (oi := { dst := some _, op := _, type := _, pos := _, after := _, guard := _ }) rfl (by kernel_rfl) (by kernel_rfl) (by kernel_rfl) (fun _ _ _ h => h) (yields_load_mL (by rfl) _ rfl _ rfl (fun w h => h.1) (by assumption)) hHeld ?_
  refine wpAnyH_ready (rs := [2]) (by kernel_rfl) (by simp) ?_
  refine AllReadyH.cons (o := { dst := some _, op := _, type := _, pos := _, after := _, guard := _ }) rfl (fun K hK => ?_) AllReadyH.nil
  go_simp
  refine (toMachine_any _ D0 _ (mchL_below HD0.out B9.out.drew) SD0.out).mono ?_
  rintro e w10 ⟨Qv, rfl, hu, hb⟩
  have V10 := whole_b hb V9
  have Y10 := whole_b hb Y9
  have X10 := whole_b hb X9
  have T10 := whole_b hb T9
  have U10 := Lib.hid (mchIn_b hb U9.out)
  have Z10 := Lib.hid (mchIn_b hb Z9.out)
  have Q10 := Lib.hid (mchT_in hu)
  have B10 : Hid (Below w.heap.size w w10) := Lib.hid (below_b hb B9.out.drew)
  clear hb hu
  refine hK.out _ _ ⟨V10, X10⟩ (fun hHeld => ?_)
  refine wpAnyH_ready (rs := [3]) (by kernel_rfl) (by simp) ?_
  refine AllReadyH.cons (o := { dst := some _, op := _, type := _, pos := _, after := _, guard := _ }) rfl (fun K hK => ?_) AllReadyH.nil
  go_simp
  refine (eqMachine_same _ _ D0 _ U10.out Q10.out).mono ?_
  rintro e w11 ⟨rfl, hb⟩
  have V11 := whole_b hb V10
  have Y11 := whole_b hb Y10
  have X11 := whole_b hb X10
  have T11 := whole_b hb T10
  have U11 := Lib.hid (mchIn_b hb U10.out)
  have Z11 := Lib.hid (mchIn_b hb Z10.out)
  have B11 : Hid (Below w.heap.size w w11) := Lib.hid (below_b hb B10.out)
  clear hb
  refine hK.out _ _ ⟨V11, X11⟩ (fun hHeld => ?_)
  refine wpAnyH_take (i := 4) (oi := { dst := some _, op := _, type := _, pos := _, after := _, guard := _ }) (v := ?_) rfl (by kernel_rfl) (by kernel_rfl) (by kernel_rfl) (fun _ _ _ h => h) (Or.inl ⟨by rfl, ?_⟩) hHeld ?_
  rotate_left 1
  · intro w hSw; go_simp; try with_reducible rfl
  refine wpAnyH_done (by kernel_rfl) ?_ _
  clear V9 V10 Y9 Y10 X9 X10 T9 T10 U9 U10 Z9 Z10 Q10 B9 B10
  go_wp2_with (first | (refine wpList_load_mL rfl _ rfl _ rfl (by assumption) (by assumption) ?_) | (refine wpList_load_mI rfl _ rfl _ rfl (by assumption) (by assumption) ?_) | (refine wpList_store_mI rfl _ _ rfl _ rfl rfl _ (by assumption) ?_) | fail)
  refine wp_region_held_drew (S := fun w' => Whole w' (w.heap.size + 1) 57 ct ∧ Whole w' w8.heap.size 46 cz) (by kernel_rfl) ⟨Y11, T11⟩ (fun hHeld => ?_)
  refine wpAnyH_take (i := 0) (oi := { dst := some _, op := _, type := _, pos := _, after := _, guard := _ }) rfl (by kernel_rfl) (by kernel_rfl) (by kernel_rfl) (fun _ _ _ h => h) (yields_load_mI (by rfl) _ rfl _ rfl (fun w h => h.2) (by assumption)) hHeld ?_
  refine wpAnyH_take (i := 1) (oi := { dst := some _, op := _, type := _, pos := _, after := _, guard := _ }) rfl (by kernel_rfl) (by kernel_rfl) (by kernel_rfl) (fun _ _ _ h => h) (yields_load_mL (by rfl) _ rfl _ rfl (fun w h => h.1) (by assumption)) hHeld ?_
  refine wpAnyH_ready (rs := [2]) (by kernel_rfl) (by simp) ?_
  refine AllReadyH.cons (o := { dst := some _, op := _, type := _, pos := _, after := _, guard := _ }) rfl (fun K hK => ?_) AllReadyH.nil
  go_simp
  refine (toMachine_any _ D1 _ (mchL_below HD1.out B11.out.drew) SD1.out).mono ?_
  rintro e w12 ⟨Qv, rfl, hu, hb⟩
  have V12 := whole_b hb V11
  have Y12 := whole_b hb Y11
  have X12 := whole_b hb X11
  have T12 := whole_b hb T11
  have U12 := Lib.hid (mchIn_b hb U11.out)
  have Z12 := Lib.hid (mchIn_b hb Z11.out)
  have Q12 := Lib.hid (mchT_in hu)
  have B12 : Hid (Below w.heap.size w w12) := Lib.hid (below_b hb B11.out.drew)
  clear hb hu
  refine hK.out _ _ ⟨Y12, T12⟩ (fun hHeld => ?_)
  refine wpAnyH_ready (rs := [3]) (by kernel_rfl) (by simp) ?_
  refine AllReadyH.cons (o := { dst := some _, op := _, type := _, pos := _, after := _, guard := _ }) rfl (fun K hK => ?_) AllReadyH.nil
  go_simp
  refine (eqMachine_same _ _ D1 _ Z12.out Q12.out).mono ?_
  rintro e w13 ⟨rfl, hb⟩
  have V13 := whole_b hb V12
  have Y13 := whole_b hb Y12
  have X13 := whole_b hb X12
  have T13 := whole_b hb T12
  have U13 := Lib.hid (mchIn_b hb U12.out)
  have Z13 := Lib.hid (mchIn_b hb Z12.out)
  have B13 : Hid (Below w.heap.size w w13) := Lib.hid (below_b hb B12.out)
  clear hb
  refine hK.out _ _ ⟨Y13, T13⟩ (fun hHeld => ?_)
  refine wpAnyH_take (i := 4) (oi := { dst := some _, op := _, type := _, pos := _, after := _, guard := _ }) (v := ?_) rfl (by kernel_rfl) (by kernel_rfl) (by kernel_rfl) (fun _ _ _ h => h) (Or.inl ⟨by rfl, ?_⟩) hHeld ?_
  rotate_left 1
  · intro w hSw; go_simp; try with_reducible rfl
  refine wpAnyH_done (by kernel_rfl) ?_ _
  go_wp2
  go_ret
  exact ⟨rfl, B13.out⟩

theorem vars_len {H : Type} {enc : TypeId × Value → H} {P : Program} {w : World} {sp : Nat → Bool} : ∀ {ns : List String} {gs : List (DataW H)} {ps : List MemPlace}, DataW.TrodVars enc P w sp ns gs ps → gs.length = ns.length
  | [], [], _, _ => rfl
  | [], _ :: _, _, h => h.elim
  | _ :: _, [], _, h => h.elim
  | _ :: _, _ :: _, _, h => by
    obtain ⟨g, t, cs, fuel, p, q, h1, h2, h3, h4, hs, e⟩ := h
    simp [vars_len hs]

set_option maxRecDepth 100000 in
theorem lifted (os : Os) (started : os.Started) (H : Type) (enc : TypeId × Value → H) :
    ReturnsInHanded {} Tryd.checked os 6 .any (fun w args => (Rows.fnExactSameMachineSpec.pre enc Tryd.prog Tryd.f6 [] false w args ∧ laidMetH Tryd.prog listed w) ∧ sizedMet enc Tryd.prog Tryd.f6 (OpenSpec.ofChange Rows.fnExactSameMachineSpec) false w args)
      (Rows.fnExactSameMachineSpec.post enc Tryd.prog Tryd.f6 false true false false) := by
  refine returnsInHanded_of_change_and (C := Tryd.checked) (X := fun w _ => laidMetH Tryd.prog listed w) (fun _ _ _ hh h => h.of_heap hh) own started (by kernel_rfl) Tryd.func6
    (ChangeSpec.witness_shaped (enc := enc) (C := Tryd.checked) (os := os) (X := fun w _ => laidMetH Tryd.prog listed w) false (World.doorLaid Tryd.prog 34 os) #[.agg #[.slice none 0 0, .slice none 0 0, .slice none 0 0, .slice none 0 0, .slice none 0 0, .int .i64 0, .int .i64 0, .string ByteArray.empty, .slice none 0 0, .slice none 0 0, .slice none 0 0, .int .i64 0, .slice none 0 0, .slice none 0 0, .int .i64 0, .int .i64 0], .agg #[.slice none 0 0, .slice none 0 0, .slice none 0 0, .slice none 0 0, .slice none 0 0, .int .i64 0, .int .i64 0, .string ByteArray.empty, .slice none 0 0, .slice none 0 0, .slice none 0 0, .int .i64 0, .slice none 0 0, .slice none 0 0, .int .i64 0, .int .i64 0]] 8 rfl (World.shaped_of_RefB (by kernel_rfl) (by kernel_rfl)) (by kernel_rfl) (by kernel_rfl) (by kernel_rfl) (door_met os _)) ?_
  intro W base args ds gs before hval0 hW _ _ hL _
  have hval : ∀ (j : Nat) t v, Tryd.f6.params[j]? = some t → args[j]? = some v → Value.okWide Tryd.prog W .any base t v := hval0
  have hW' := hW
  obtain ⟨p, q, hA0, hV0, rfl, hfz, hnd⟩ := hW
  have hA : DataW.TrodAll enc Tryd.prog W 0 (fun _ => true) true Tryd.f6.params.toList args.toList ds p := hA0
  have hV : DataW.TrodVars enc Tryd.prog W (fun _ => true) ["loop.example/g00787/impl.kernelEnds", "loop.example/g00787/impl.kernelNames"] gs q := hV0
  rw [Tryd.params6] at hA hval
  obtain ⟨v0, vs0, d0, ds0, p0, q0, hargs, rfl, rfl, h0, r0⟩ := trodAll_cons hA
  obtain ⟨v1, vs1, d1, ds1, p1, q1, rfl, rfl, rfl, h1, r1⟩ := trodAll_cons r0
  obtain ⟨rfl, rfl, rfl⟩ := trodAll_nil r1
  obtain rfl : args = #[v0, v1] := by cases args; simp_all
  obtain ⟨gv0, gv1, rfl⟩ : ∃ gv0 gv1, gs = [gv0, gv1] := by
    have hl := vars_len hV
    match gs, hl with
    | [gv0, gv1], _ => exact ⟨gv0, gv1, rfl⟩
  have k0 := h0
  have lt0 : ∀ x ∈ p0, x.block < W.heap.size := by obtain ⟨m, hm⟩ := k0; exact DataW.trod_lt m _ _ _ hm
  obtain ⟨D0, w0⟩ := open_machine (hval 0 57 v0 rfl rfl) h0
  have k1 := h1
  have lt1 : ∀ x ∈ p1, x.block < W.heap.size := by obtain ⟨m, hm⟩ := k1; exact DataW.trod_lt m _ _ _ hm
  obtain ⟨D1, w1⟩ := open_machine (hval 1 57 v1 rfl rfl) h1
  have hfact := of_laid hL
  clear hA0 hV0 hval0
  refine (walk v0 D0 v1 D1 W w0 w1 hfact).mono fun e W' ⟨he, bel⟩ => ?_
  subst he
  exact ⟨_, rfl, _, _, _, [], _, _, hW', trodAll_mk1 (shut_bool Tryd.underlying4 _), (trodAll_cons_mk (Below.trod laidOut (by kernel_rfl) (of_decide_eq_true (by kernel_rfl)) k0 bel lt0) (trodAll_cons_mk (Below.trod laidOut (by kernel_rfl) (of_decide_eq_true (by kernel_rfl)) k1 bel lt1) trodAll_mk0)), Below.trodVars laidOut bel (by kernel_rfl) hV, bel.frame _, fun h => by cases h⟩

theorem over : Rows.FnExactSameMachineSaid :=
  OpenClaim.holds_of_wide 6 Tryd.f6 rfl rfl rfl rfl rfl rfl rfl ⟨rfl, rfl, rfl, rfl, rfl⟩ rfl rfl rfl rfl rfl (by kernel_rfl) Tryd.func6 (by kernel_rfl)
    (of_decide_eq_true (by kernel_rfl)) (by unfold Func.isWrapper; first | (rw [if_pos (by decide +kernel)]; kernel_rfl) | (rw [if_neg (by decide +kernel)]; exact ⟨rfl, rfl⟩))
    (fun os started H enc _ => lifted os started H enc)

/-- The statement: the tied card. -/
theorem proved : Rows.FnExactSameMachineCardSaid :=
  Claim7.holds_tied_plain_at .later [] [.data, .data] true (true, "bdd17dae2d81f410deed05a96fc0d460282cf341edf2345ad319a0d6ac0dec11") false
    over (fun _ h => by cases h) (by kernel_rfl) (fun _ h => by cases h) fnExactSameMachine_row_tie rfl ⟨rfl, rfl⟩ (by kernel_rfl) rfl
    (fun f fn hf hfn => by
      obtain rfl : f = 6 := Option.some.inj ((show Tryd.prog.funcNamed "loop.example/g00787/laws.FnExactSameMachine" = some 6 by kernel_rfl).symm.trans hf) |>.symm
      obtain rfl : fn = Tryd.f6 := (Option.some.inj (Tryd.func6.symm.trans hfn)).symm
      exact ⟨by kernel_rfl, fun j t ht => by
        rw [Tryd.params6] at ht
        have hm : t ∈ [57, 57] := by simpa using Array.mem_of_getElem? ht
        have hall : ([57, 57].all fun u => !Tryd.prog.wantsStandIn u) = true := by kernel_rfl
        exact (show Tryd.prog.wantsStandIn t = false by simpa using List.all_eq_true.1 hall t hm)⟩)
    (by kernel_rfl)
#print axioms proved
end Go.Proofs.YtjlfbmplmddceaaDoor.fnExactSameMachine
