/- The walk of laws.FnExactSameForth: both sides, at every argument that the card's condition lets in. -/
import Derived.Test.YthnbaeamekolmaaGreatDoorRows
import Derived.Test.YthnbaeamekolmaaGreatDoorTie
import Derived.Test.YthnbaeamekolmaaGreatDoorCards
import Derived.Test.YthnbaeamekolmaaGreatDoorQkI
import Derived.Test.YthnbaeamekolmaaGreatDoorQkH
import Derived.Test.YthnbaeamekolmaaGreatDoorQkA
import Derived.Deep.RegionHeld3
import Derived.Deep.DeepCutAuto
import Derived.WalkKit
import Derived.ProofKit
import Derived.OpenShut
import Derived.ShutString
import Derived.ChangeOld
import Derived.Below
import Derived.LaidMore
import Derived.Stop.Joined
import Derived.ChangeVars
import Derived.WalkSmall
import Derived.SevenTiedAt
import Derived.OpenVars
namespace Go.Proofs.YthnbaeamekolmaaGreatDoor.fnExactSameForth
open Go.ChangeShapes Go.WideShapes Go.ChangeAt Go.RowKit
open Go.ChangeMaps (open_string shut_string)
set_option linter.unusedSimpArgs false
set_option linter.unusedVariables false

theorem own : ownKnob Tryz.prog.godebug = none := by kernel_rfl
theorem laidOut : laidOutB Tryz.prog = true := by kernel_rfl

/-- What the row lists. -/
def listed : List (String × DataW Unit) := [("loop.example/g00787/impl.kernelNames", Rows.laid_loop_example_g00787_impl_kernelNames), ("loop.example/g00787/impl.kernelEnds", Rows.laid_loop_example_g00787_impl_kernelEnds)]

/-- The door's own heap meets the condition. -/
theorem door_met (os : Os) (args : Array Value) : laidMetH Tryz.prog listed ((World.doorLaid Tryz.prog 53 os).forCall (fun _ _ => 0) ⟨#[], args, []⟩).memory :=
  laidMetH_of_parts3 (fuel := 8) (laidMet_of_run' 8 (by kernel_rfl) (by kernel_rfl)) (by kernel_rfl) (by kernel_rfl)

/-- What the condition gives the walk. -/
theorem of_laid {w : World} (h : laidMetH Tryz.prog listed w) : Tabs w := by
  rw [MakeChecks.laidMetH_plain _ _ _ (by kernel_rfl)] at h
  obtain ⟨ps, ⟨g0, t0, cs0, f0, p0, q0, hg0, ht0, hv0, hd0, ⟨g1, t1, cs1, f1, p1, q1, hg1, ht1, hv1, hd1, _, _⟩, _⟩, _, _⟩ := h
  obtain rfl := Option.some.inj ((show Tryz.prog.globalNamed "loop.example/g00787/impl.kernelNames" = some 2 by kernel_rfl).symm.trans hg0)
  obtain rfl := Option.some.inj ((show Tryz.prog.globalNamed "loop.example/g00787/impl.kernelEnds" = some 1 by kernel_rfl).symm.trans hg1)
  obtain rfl := Option.some.inj ((show (Tryz.prog.globals[2]?).map (·.type) = some 248 by kernel_rfl).symm.trans ht0)
  obtain rfl := Option.some.inj ((show (Tryz.prog.globals[1]?).map (·.type) = some 247 by kernel_rfl).symm.trans ht1)
  refine ⟨fun i hi => ?_, fun j hj => ?_⟩
  · have hs := nums_of_trod (L := [0, 52, 56, 62, 66, 83]) Tryz.underlying247 Tryz.underlying3 (by kernel_rfl) hd1 i hi
    rw [World.var?_cell hg1 hv1 i, ← Array.getElem?_toList, hs]
    match i, hi with
    | 0, _ => rfl
    | 1, _ => rfl
    | 2, _ => rfl
    | 3, _ => rfl
    | 4, _ => rfl
    | 5, _ => rfl
  · have hs := strs_of_trod (L := knames) Tryz.underlying248 Tryz.underlying9 (by kernel_rfl) hd0 j hj
    rw [World.var?_cell hg0 hv0 j, ← Array.getElem?_toList]
    exact hs

set_option maxRecDepth 100000 in
set_option maxHeartbeats 4000000 in
theorem walk (v0 : Value) (D0 : Fo) (v1 : Value) (D1 : Fo) (w : World) (w0 : FoL w v0 D0) (w1 : FoL w v1 D1) (hl : Tabs w) :
    Calls Tryz.prog 4 #[v0, v1] w fun e w' => e = .returned (.bool true) ∧ Below w.heap.size w w' := by
  have HT := Lib.hid hl
  obtain ⟨cs, rfl, hcs⟩ := foL_cells w0
  obtain ⟨ct, rfl, hct⟩ := foL_cells w1
  have HD0 := Lib.hid w0
  have HD1 := Lib.hid w1
  clear hl w0 w1
  have V0 := whole_alloc (whole_new w 36 cs) (.cells ct 36)
  have Y0 := whole_new1 w (.cells cs 36) 36 ct
  obtain ⟨mk, hmk⟩ := bool_of (FoSame D0 D1)
  have SS : Hid (∀ u v W, FoIn W u D0 → FoIn W v D1 → Calls Tryz.prog 14 #[u, v] W fun e w' => e = .returned (.bool mk) ∧ Below W.heap.size W w') := Lib.hid fun u v W h k => biff_to hmk (sSameForth_any u v D0 D1 W h k)
  have IS : Hid (∀ u v W, FoIn W u D0 → FoIn W v D1 → Tabs W → Calls Tryz.prog 15 #[u, v] W fun e w' => e = .returned (.bool mk) ∧ Below W.heap.size W w') := Lib.hid fun u v W h k t => biff_to hmk (iSameForth_any u v D0 D1 W h k t)
  clear hmk
  have ts : (mk != mk) = false := by simp
  go_enter Tryz.func4, Tryz.ntmps4
  go_wp2_with (first | (refine wpList_load_fL rfl _ rfl _ rfl (by assumption) (by assumption) ?_) | (refine wpList_load_fI rfl _ rfl _ rfl (by assumption) (by assumption) ?_) | (refine wpList_store_fI rfl _ _ rfl _ rfl rfl _ (by assumption) ?_) | fail)
  refine (szForth_any _ D0 1048576 _ (foL_below HD0.out (below_alloc (below_alloc (Below.refl _ _) _) _)) (by omega) (by omega)).mono ?_
  rintro e w1 ⟨r, rfl, hr, hb⟩
  have B1 := Lib.hid (below_step (below_alloc (below_alloc (Below.refl _ _) _) _) hb)
  have V1 := whole_b hb V0
  have Y1 := whole_b hb Y0
  clear hb V0 Y0
  rcases hr with rfl | ⟨h0, h1, hs⟩
  · go_wp2
    go_ret
    exact ⟨rfl, B1.out⟩
  have SD0 := Lib.hid hs
  clear hs
  go_wp2_with (first | (refine wpList_load_fL rfl _ rfl _ rfl (by assumption) (by assumption) ?_) | (refine wpList_load_fI rfl _ rfl _ rfl (by assumption) (by assumption) ?_) | (refine wpList_store_fI rfl _ _ rfl _ rfl rfl _ (by assumption) ?_) | fail)
  refine (szForth_any _ D1 _ _ (foL_below HD1.out B1.out) h0 h1).mono ?_
  rintro e w2 ⟨r2, rfl, hr, hb⟩
  have B2 := Lib.hid (below_step B1.out hb)
  have V2 := whole_b hb V1
  have Y2 := whole_b hb Y1
  clear hb V1 Y1 B1 h0 h1
  rcases hr with rfl | ⟨h0, h1, hs⟩
  · go_wp2
    go_ret
    exact ⟨rfl, B2.out⟩
  have SD1 := Lib.hid hs
  clear hs
  go_wp2_with (first | (refine wpList_load_fL rfl _ rfl _ rfl (by assumption) (by assumption) ?_) | (refine wpList_load_fI rfl _ rfl _ rfl (by assumption) (by assumption) ?_) | (refine wpList_store_fI rfl _ _ rfl _ rfl rfl _ (by assumption) ?_) | fail)
  go_cut [6] (fun s6 wx => s6 = .bool mk ∧ Below w.heap.size w wx ∧ Whole wx w.heap.size 36 cs ∧ Whole wx (w.heap.size + 1) 36 ct)
  case first =>
    refine wp_region_held_drew (S := fun w' => Whole w' w.heap.size 36 cs ∧ Whole w' (w.heap.size + 1) 36 ct) (by kernel_rfl) ⟨V2, Y2⟩ (fun hHeld => ?_)
    refine wpAnyH_take (i := 0) (oi := { dst := some _, op := _, type := _, pos := _, after := _, guard := _ }) rfl (by kernel_rfl) (by kernel_rfl) (by kernel_rfl) (fun _ _ _ h => h) (yields_load_fL (by rfl) _ rfl _ rfl (fun w h => h.1) (by assumption)) hHeld ?_
    refine wpAnyH_take (i := 2) (oi := { dst := some _, op := _, type := _, pos := _, after := _, guard := _ }) rfl (by kernel_rfl) (by kernel_rfl) (by kernel_rfl) (fun _ _ _ h => h) (yields_load_fL (by rfl) _ rfl _ rfl (fun w h => h.2) (by assumption)) hHeld ?_
    refine wpAnyH_ready (rs := [1]) (by kernel_rfl) (by simp) ?_
    refine AllReadyH.cons (o := { dst := some _, op := _, type := _, pos := _, after := _, guard := _ }) rfl (fun K hK => ?_) AllReadyH.nil
    go_simp
    refine (toForth_any _ D0 _ (foL_below HD0.out B2.out.drew) SD0.out).mono ?_
    rintro e w3 ⟨Pv, rfl, hu, hb⟩
    have V3 := whole_b hb V2
    have Y3 := whole_b hb Y2
    have P3 := Lib.hid hu
    have B3 : Hid (Below w.heap.size w w3) := Lib.hid (below_b hb B2.out.drew)
    clear hb hu
    refine hK.out _ _ ⟨V3, Y3⟩ (fun hHeld => ?_)
    refine wpAnyH_ready (rs := [3]) (by kernel_rfl) (by simp) ?_
    refine AllReadyH.cons (o := { dst := some _, op := _, type := _, pos := _, after := _, guard := _ }) rfl (fun K hK => ?_) AllReadyH.nil
    go_simp
    refine (toForth_any _ D1 _ (foL_below HD1.out B3.out) SD1.out).mono ?_
    rintro e w4 ⟨Rv, rfl, hu, hb⟩
    have V4 := whole_b hb V3
    have Y4 := whole_b hb Y3
    have P4 := Lib.hid (by first | exact foIn_b hb P3.out | exact foIn_b hb (foIn_below P3.out (Below.refl _ _).drew))
    have R4 := Lib.hid hu
    have B4 : Hid (Below w.heap.size w w4) := Lib.hid (below_b hb B3.out)
    clear hb hu
    refine hK.out _ _ ⟨V4, Y4⟩ (fun hHeld => ?_)
    refine wpAnyH_ready (rs := [4]) (by kernel_rfl) (by simp) ?_
    refine AllReadyH.cons (o := { dst := some _, op := _, type := _, pos := _, after := _, guard := _ }) rfl (fun K hK => ?_) AllReadyH.nil
    go_simp
    refine (SS.out _ _ _ P4.out R4.out).mono ?_
    rintro e w5 ⟨rfl, hb⟩
    have V5 := whole_b hb V4
    have Y5 := whole_b hb Y4
    have B5 : Hid (Below w.heap.size w w5) := Lib.hid (below_b hb B4.out)
    clear hb
    refine hK.out _ _ ⟨V5, Y5⟩ (fun hHeld => ?_)
    refine wpAnyH_take (i := 5) (oi := { dst := some _, op := _, type := _, pos := _, after := _, guard := _ }) (v := ?_) rfl (by kernel_rfl) (by kernel_rfl) (by kernel_rfl) (fun _ _ _ h => h) (Or.inl ⟨by rfl, ?_⟩) hHeld ?_
    rotate_left 1
    · intro w hSw; go_simp; try with_reducible rfl
    refine wpAnyH_done (by kernel_rfl) ?_ _
    go_wp2_with fail
    go_meet
    exact ⟨rfl, B5.out, V5, Y5⟩
  case rest =>
  obtain ⟨rfl, b6, V6, Y6⟩ := hcut
  have B6 := Lib.hid b6
  clear b6 V2 Y2 B2
  rename World => w6
  go_wp2_with (first | (refine wpList_load_fL rfl _ rfl _ rfl (by assumption) (by assumption) ?_) | (refine wpList_load_fI rfl _ rfl _ rfl (by assumption) (by assumption) ?_) | (refine wpList_store_fI rfl _ _ rfl _ rfl rfl _ (by assumption) ?_) | fail)
  refine (toForth_any _ D0 _ (foL_below HD0.out B6.out) SD0.out).mono ?_
  rintro e w7 ⟨u7, rfl, hu, hb⟩
  obtain ⟨cu, rfl, hcu⟩ := foIn_cells hu
  have U7 := Lib.hid (foIn_below hu (below_alloc (Below.refl _ _) (.cells cu 50)))
  have B7 := Lib.hid (below_alloc (below_step B6.out hb) (.cells cu 50))
  have V7 := whole_alloc (whole_b hb V6) (.cells cu 50)
  have Y7 := whole_alloc (whole_b hb Y6) (.cells cu 50)
  have X7 := whole_new w7 50 cu
  clear hb V6 Y6 B6 hu
  go_wp2_with (first | (refine wpList_load_fL rfl _ rfl _ rfl (by assumption) (by assumption) ?_) | (refine wpList_load_fI rfl _ rfl _ rfl (by assumption) (by assumption) ?_) | (refine wpList_store_fI rfl _ _ rfl _ rfl rfl _ (by assumption) ?_) | fail)
  refine (toForth_any _ D1 _ (foL_below HD1.out B7.out) SD1.out).mono ?_
  rintro e w8 ⟨u8, rfl, hu, hb⟩
  obtain ⟨cz, rfl, hcz⟩ := foIn_cells hu
  have Z8 := Lib.hid (foIn_below hu (below_alloc (Below.refl _ _) (.cells cz 50)))
  have U8 := Lib.hid (foIn_below (by first | exact foIn_b hb U7.out | exact foIn_b hb (foIn_below U7.out (Below.refl _ _).drew)) (below_alloc (Below.refl _ _) (.cells cz 50)))
  have B8 := Lib.hid (below_alloc (below_step B7.out hb) (.cells cz 50))
  have V8 := whole_alloc (whole_b hb V7) (.cells cz 50)
  have Y8 := whole_alloc (whole_b hb Y7) (.cells cz 50)
  have X8 := whole_alloc (whole_b hb X7) (.cells cz 50)
  have T8 := whole_new w8 50 cz
  clear hb V7 Y7 X7 B7 U7 hu
  go_wp2_with (first | (refine wpList_load_fL rfl _ rfl _ rfl (by assumption) (by assumption) ?_) | (refine wpList_load_fI rfl _ rfl _ rfl (by assumption) (by assumption) ?_) | (refine wpList_store_fI rfl _ _ rfl _ rfl rfl _ (by assumption) ?_) | fail)
  refine (IS.out _ _ _ U8.out Z8.out (tabs_below HT.out B8.out)).mono ?_
  rintro e w9 ⟨rfl, hb⟩
  have B9 := Lib.hid (below_step B8.out hb)
  have V9 := whole_b hb V8
  have Y9 := whole_b hb Y8
  have X9 := whole_b hb X8
  have T9 := whole_b hb T8
  have U9 := Lib.hid (by first | exact foIn_b hb U8.out | exact foIn_b hb (foIn_below U8.out (Below.refl _ _).drew))
  have Z9 := Lib.hid (by first | exact foIn_b hb Z8.out | exact foIn_b hb (foIn_below Z8.out (Below.refl _ _).drew))
  clear hb V8 Y8 X8 T8 B8 U8 Z8
  go_wp2_with (first | (refine wpList_load_fL rfl _ rfl _ rfl (by assumption) (by assumption) ?_) | (refine wpList_load_fI rfl _ rfl _ rfl (by assumption) (by assumption) ?_) | (refine wpList_store_fI rfl _ _ rfl _ rfl rfl _ (by assumption) ?_) | fail)
  refine wp_region_held_drew (S := fun w' => Whole w' w.heap.size 36 cs ∧ Whole w' w7.heap.size 50 cu) (by kernel_rfl) ⟨V9, X9⟩ (fun hHeld => ?_)
  refine wpAnyH_take (i := 0) (oi := { dst := some _, op := _, type := _, pos := _, after := _, guard := _ }) rfl (by kernel_rfl) (by kernel_rfl) (by kernel_rfl) (fun _ _ _ h => h) (yields_load_fI (by rfl) _ rfl _ rfl (fun w h => h.2) (by assumption)) hHeld ?_
  refine wpAnyH_take (i := 1) (oi := { dst := some _, op := _, type := _, pos := _, after := _, guard := _ }) rfl (by kernel_rfl) (by kernel_rfl) (by kernel_rfl) (fun _ _ _ h => h) (yields_load_fL (by rfl) _ rfl _ rfl (fun w h => h.1) (by assumption)) hHeld ?_
  refine wpAnyH_ready (rs := [2]) (by kernel_rfl) (by simp) ?_
  refine AllReadyH.cons (o := { dst := some _, op := _, type := _, pos := _, after := _, guard := _ }) rfl (fun K hK => ?_) AllReadyH.nil
  go_simp
  refine (toForth_any _ D0 _ (foL_below HD0.out B9.out.drew) SD0.out).mono ?_
  rintro e w10 ⟨Qv, rfl, hu, hb⟩
  have V10 := whole_b hb V9
  have Y10 := whole_b hb Y9
  have X10 := whole_b hb X9
  have T10 := whole_b hb T9
  have U10 := Lib.hid (by first | exact foIn_b hb U9.out | exact foIn_b hb (foIn_below U9.out (Below.refl _ _).drew))
  have Z10 := Lib.hid (by first | exact foIn_b hb Z9.out | exact foIn_b hb (foIn_below Z9.out (Below.refl _ _).drew))
  have Q10 := Lib.hid hu
  have B10 : Hid (Below w.heap.size w w10) := Lib.hid (below_b hb B9.out.drew)
  clear hb hu
  refine hK.out _ _ ⟨V10, X10⟩ (fun hHeld => ?_)
  refine wpAnyH_ready (rs := [3]) (by kernel_rfl) (by simp) ?_
  refine AllReadyH.cons (o := { dst := some _, op := _, type := _, pos := _, after := _, guard := _ }) rfl (fun K hK => ?_) AllReadyH.nil
  go_simp
  refine (eqForth_same _ _ D0 _ U10.out Q10.out).mono ?_
  rintro e w11 ⟨rfl, hb⟩
  have V11 := whole_b hb V10
  have Y11 := whole_b hb Y10
  have X11 := whole_b hb X10
  have T11 := whole_b hb T10
  have U11 := Lib.hid (by first | exact foIn_b hb U10.out | exact foIn_b hb (foIn_below U10.out (Below.refl _ _).drew))
  have Z11 := Lib.hid (by first | exact foIn_b hb Z10.out | exact foIn_b hb (foIn_below Z10.out (Below.refl _ _).drew))
  have B11 : Hid (Below w.heap.size w w11) := Lib.hid (below_b hb B10.out)
  clear hb
  refine hK.out _ _ ⟨V11, X11⟩ (fun hHeld => ?_)
  refine wpAnyH_take (i := 4) (oi := { dst := some _, op := _, type := _, pos := _, after := _, guard := _ }) (v := ?_) rfl (by kernel_rfl) (by kernel_rfl) (by kernel_rfl) (fun _ _ _ h => h) (Or.inl ⟨by rfl, ?_⟩) hHeld ?_
  rotate_left 1
  · intro w hSw; go_simp; try with_reducible rfl
  refine wpAnyH_done (by kernel_rfl) ?_ _
  clear V9 V10 Y9 Y10 X9 X10 T9 T10 U9 U10 Z9 Z10 Q10 B9 B10
  go_wp2_with (first | (refine wpList_load_fL rfl _ rfl _ rfl (by assumption) (by assumption) ?_) | (refine wpList_load_fI rfl _ rfl _ rfl (by assumption) (by assumption) ?_) | (refine wpList_store_fI rfl _ _ rfl _ rfl rfl _ (by assumption) ?_) | fail)
  refine wp_region_held_drew (S := fun w' => Whole w' (w.heap.size + 1) 36 ct ∧ Whole w' w8.heap.size 50 cz) (by kernel_rfl) ⟨Y11, T11⟩ (fun hHeld => ?_)
  refine wpAnyH_take (i := 0) (oi := { dst := some _, op := _, type := _, pos := _, after := _, guard := _ }) rfl (by kernel_rfl) (by kernel_rfl) (by kernel_rfl) (fun _ _ _ h => h) (yields_load_fI (by rfl) _ rfl _ rfl (fun w h => h.2) (by assumption)) hHeld ?_
  refine wpAnyH_take (i := 1) (oi := { dst := some _, op := _, type := _, pos := _, after := _, guard := _ }) rfl (by kernel_rfl) (by kernel_rfl) (by kernel_rfl) (fun _ _ _ h => h) (yields_load_fL (by rfl) _ rfl _ rfl (fun w h => h.1) (by assumption)) hHeld ?_
  refine wpAnyH_ready (rs := [2]) (by kernel_rfl) (by simp) ?_
  refine AllReadyH.cons (o := { dst := some _, op := _, type := _, pos := _, after := _, guard := _ }) rfl (fun K hK => ?_) AllReadyH.nil
  go_simp
  refine (toForth_any _ D1 _ (foL_below HD1.out B11.out.drew) SD1.out).mono ?_
  rintro e w12 ⟨Qv, rfl, hu, hb⟩
  have V12 := whole_b hb V11
  have Y12 := whole_b hb Y11
  have X12 := whole_b hb X11
  have T12 := whole_b hb T11
  have U12 := Lib.hid (by first | exact foIn_b hb U11.out | exact foIn_b hb (foIn_below U11.out (Below.refl _ _).drew))
  have Z12 := Lib.hid (by first | exact foIn_b hb Z11.out | exact foIn_b hb (foIn_below Z11.out (Below.refl _ _).drew))
  have Q12 := Lib.hid hu
  have B12 : Hid (Below w.heap.size w w12) := Lib.hid (below_b hb B11.out.drew)
  clear hb hu
  refine hK.out _ _ ⟨Y12, T12⟩ (fun hHeld => ?_)
  refine wpAnyH_ready (rs := [3]) (by kernel_rfl) (by simp) ?_
  refine AllReadyH.cons (o := { dst := some _, op := _, type := _, pos := _, after := _, guard := _ }) rfl (fun K hK => ?_) AllReadyH.nil
  go_simp
  refine (eqForth_same _ _ D1 _ Z12.out Q12.out).mono ?_
  rintro e w13 ⟨rfl, hb⟩
  have V13 := whole_b hb V12
  have Y13 := whole_b hb Y12
  have X13 := whole_b hb X12
  have T13 := whole_b hb T12
  have U13 := Lib.hid (by first | exact foIn_b hb U12.out | exact foIn_b hb (foIn_below U12.out (Below.refl _ _).drew))
  have Z13 := Lib.hid (by first | exact foIn_b hb Z12.out | exact foIn_b hb (foIn_below Z12.out (Below.refl _ _).drew))
  have B13 : Hid (Below w.heap.size w w13) := Lib.hid (below_b hb B12.out)
  clear hb
  refine hK.out _ _ ⟨Y13, T13⟩ (fun hHeld => ?_)
  refine wpAnyH_take (i := 4) (oi := { dst := some _, op := _, type := _, pos := _, after := _, guard := _ }) (v := ?_) rfl (by kernel_rfl) (by kernel_rfl) (by kernel_rfl) (fun _ _ _ h => h) (Or.inl ⟨by rfl, ?_⟩) hHeld ?_
  rotate_left 1
  · intro w hSw; go_simp; try with_reducible rfl
  refine wpAnyH_done (by kernel_rfl) ?_ _
  go_wp2
  go_ret
  exact ⟨rfl, B13.out⟩

end Go.Proofs.YthnbaeamekolmaaGreatDoor.fnExactSameForth
