/- laws.FnExactMachineOK returns true at every machine: impl.MachineOK and spec.MachineOK give the same answer, and impl.MachineOK writes into no argument. No condition but the card's: the two listed tables are tied to the program's text (a pruned copy of the project). -/
import Derived.Test.YtjlfbmplmddceaaDoorRows
import Derived.Test.YtjlfbmplmddceaaDoorTie
import Derived.Test.YtjlfbmplmddceaaDoorCards
import Derived.Test.YtjlfbmplmddceaaDoorWdL
import Derived.Test.YtjlfbmplmddceaaDoorPkM
import Derived.Test.YtjlfbmplmddceaaDoorPkN
import Derived.Deep.RegionHeld3
import Derived.WalkKit
import Derived.ProofKit
import Derived.OpenShut
import Derived.ShutString
import Derived.ChangeOld
import Derived.Below
import Derived.LaidMore
import Derived.Stop.Joined
import Derived.ChangeVars
import Derived.WalkSmall
import Derived.SevenTiedAt
import Derived.OpenVars
namespace Go.Proofs.YtjlfbmplmddceaaDoor.fnExactMachineOK
open Go.ChangeShapes Go.WideShapes Go.ChangeAt Go.RowKit
open Go.ChangeMaps (open_string shut_string)
set_option linter.unusedSimpArgs false
set_option linter.unusedVariables false

theorem own : ownKnob Tryd.prog.godebug = none := by kernel_rfl
theorem laidOut : laidOutB Tryd.prog = true := by kernel_rfl

/-- What the row lists. -/
def listed : List (String × DataW Unit) := [("loop.example/g00787/impl.kernelNames", Rows.laid_loop_example_g00787_impl_kernelNames), ("loop.example/g00787/impl.kernelEnds", Rows.laid_loop_example_g00787_impl_kernelEnds)]

/-- The door's own heap meets the condition. -/
theorem door_met (os : Os) (args : Array Value) : laidMetH Tryd.prog listed ((World.doorLaid Tryd.prog 34 os).forCall (fun _ _ => 0) ⟨#[], args, []⟩).memory :=
  laidMetH_of_parts3 (fuel := 8) (laidMet_of_run' 8 (by kernel_rfl) (by kernel_rfl)) (by kernel_rfl) (by kernel_rfl)

/-- What the condition gives the walk. -/
theorem of_laid {w : World} (h : laidMetH Tryd.prog listed w) : Tabs w := by
  rw [MakeChecks.laidMetH_plain _ _ _ (by kernel_rfl)] at h
  obtain ⟨ps, ⟨g0, t0, cs0, f0, p0, q0, hg0, ht0, hv0, hd0, ⟨g1, t1, cs1, f1, p1, q1, hg1, ht1, hv1, hd1, _, _⟩, _⟩, _, _⟩ := h
  obtain rfl := Option.some.inj ((show Tryd.prog.globalNamed "loop.example/g00787/impl.kernelNames" = some 1 by kernel_rfl).symm.trans hg0)
  obtain rfl := Option.some.inj ((show Tryd.prog.globalNamed "loop.example/g00787/impl.kernelEnds" = some 0 by kernel_rfl).symm.trans hg1)
  obtain rfl := Option.some.inj ((show (Tryd.prog.globals[1]?).map (·.type) = some 120 by kernel_rfl).symm.trans ht0)
  obtain rfl := Option.some.inj ((show (Tryd.prog.globals[0]?).map (·.type) = some 119 by kernel_rfl).symm.trans ht1)
  refine ⟨fun i hi => ?_, fun j hj => ?_⟩
  · have hs := nums_of_trod (L := [0, 52, 56, 62, 66, 83]) Tryd.underlying119 Tryd.underlying3 (by kernel_rfl) hd1 i hi
    rw [World.var?_cell hg1 hv1 i, ← Array.getElem?_toList, hs]
    match i, hi with
    | 0, _ => rfl
    | 1, _ => rfl
    | 2, _ => rfl
    | 3, _ => rfl
    | 4, _ => rfl
    | 5, _ => rfl
  · have hs := strs_of_trod (L := knames) Tryd.underlying120 Tryd.underlying9 (by kernel_rfl) hd0 j hj
    rw [World.var?_cell hg0 hv0 j, ← Array.getElem?_toList]
    exact hs

set_option maxRecDepth 100000 in
set_option maxHeartbeats 4000000 in
theorem walk (v0 : Value) (D0 : Mc) (w : World) (w0 : MchL w v0 D0) (hl : Tabs w) :
    Calls Tryd.prog 5 #[v0] w fun e w' => e = .returned (.bool true) ∧ Below w.heap.size w w' := by
  have HT := Lib.hid hl
  obtain ⟨cs, rfl, hcs⟩ := mchL_cells w0
  have HL := Lib.hid w0
  clear hl w0
  have V0 := whole_new w 57 cs
  go_enter Tryd.func5, Tryd.ntmps5
  go_wp2_with (first | (refine wpList_load_mL rfl _ rfl _ rfl (by assumption) (by assumption) ?_) | (refine wpList_load_mI rfl _ rfl _ rfl (by assumption) (by assumption) ?_) | (refine wpList_store_mI rfl _ _ rfl _ rfl rfl _ (by assumption) ?_) | fail)
  refine (szMachine_any _ D0 1048576 _ (mchL_below HL.out (below_alloc (Below.refl _ _) _)) (by omega) (by omega)).mono ?_
  rintro e w1 ⟨r, rfl, hr, hb⟩
  have B1 := Lib.hid (below_step (below_alloc (Below.refl _ _) _) hb)
  have V1 := whole_b hb V0
  clear hb V0
  rcases hr with rfl | ⟨h0, h1, hs⟩
  · go_wp2
    go_ret
    exact ⟨rfl, B1.out⟩
  have HS := Lib.hid hs
  clear hs
  go_wp2_with (first | (refine wpList_load_mL rfl _ rfl _ rfl (by assumption) (by assumption) ?_) | (refine wpList_load_mI rfl _ rfl _ rfl (by assumption) (by assumption) ?_) | (refine wpList_store_mI rfl _ _ rfl _ rfl rfl _ (by assumption) ?_) | fail)
  refine (toMachine_any _ D0 _ (mchL_below HL.out B1.out) HS.out).mono ?_
  rintro e w2 ⟨u, rfl, hu, hb⟩
  have B2 := Lib.hid (below_step B1.out hb)
  have V2 := whole_b hb V1
  have U2 := Lib.hid (mchT_in hu)
  clear hb hu V1 B1
  go_wp2_with (first | (refine wpList_load_mL rfl _ rfl _ rfl (by assumption) (by assumption) ?_) | (refine wpList_load_mI rfl _ rfl _ rfl (by assumption) (by assumption) ?_) | (refine wpList_store_mI rfl _ _ rfl _ rfl rfl _ (by assumption) ?_) | fail)
  refine (sMachineOK_any _ D0 _ U2.out).mono ?_
  rintro e w3 ⟨rfl, hb⟩
  have B3 := Lib.hid (below_step B2.out hb)
  have V3 := whole_b hb V2
  clear hb V2 B2 U2
  go_wp2_with (first | (refine wpList_load_mL rfl _ rfl _ rfl (by assumption) (by assumption) ?_) | (refine wpList_load_mI rfl _ rfl _ rfl (by assumption) (by assumption) ?_) | (refine wpList_store_mI rfl _ _ rfl _ rfl rfl _ (by assumption) ?_) | fail)
  refine (toMachine_any _ D0 _ (mchL_below HL.out B3.out) HS.out).mono ?_
  rintro e w4 ⟨u4, rfl, hu, hb⟩
  obtain ⟨cu, rfl, hcu⟩ := mchIn_cells (mchT_in hu)
  have U4 := Lib.hid (mchT_in hu)
  have B4 := Lib.hid (below_step B3.out hb)
  have V4 := whole_alloc (whole_b hb V3) (.cells cu 46)
  have X4 := whole_new w4 46 cu
  clear hb V3 B3 hu
  go_wp2_with (first | (refine wpList_load_mL rfl _ rfl _ rfl (by assumption) (by assumption) ?_) | (refine wpList_load_mI rfl _ rfl _ rfl (by assumption) (by assumption) ?_) | (refine wpList_store_mI rfl _ _ rfl _ rfl rfl _ (by assumption) ?_) | fail)
  refine (iMachineOK_any _ D0 _ (mchIn_below U4.out (below_alloc (Below.refl _ _) _)) (tabs_below HT.out (below_alloc B4.out _))).mono ?_
  rintro e w5 ⟨rfl, hb⟩
  have B5 := Lib.hid (below_step (below_alloc B4.out _) hb)
  have V5 := whole_b hb V4
  have X5 := whole_b hb X4
  have U5 := Lib.hid (mchIn_below (mchIn_below U4.out (below_alloc (Below.refl _ _) _)) hb)
  clear hb V4 X4 B4 U4
  have ts : (mOK D0 != mOK D0) = false := by simp
  generalize mOK D0 = mk at *
  go_wp2_with (first | (refine wpList_load_mL rfl _ rfl _ rfl (by assumption) (by assumption) ?_) | (refine wpList_load_mI rfl _ rfl _ rfl (by assumption) (by assumption) ?_) | (refine wpList_store_mI rfl _ _ rfl _ rfl rfl _ (by assumption) ?_) | fail)
  refine wp_region_held_drew (S := fun w' => Whole w' w.heap.size 57 cs ∧ Whole w' w4.heap.size 46 cu) (by kernel_rfl) ⟨V5, X5⟩ (fun hHeld => ?_)
  refine wpAnyH_take (i := 0) (oi := { dst := some _, op := _, type := _, pos := _, after := _, guard := _ }) rfl (by kernel_rfl) (by kernel_rfl) (by kernel_rfl) (fun _ _ _ h => h) (yields_load_mI (by rfl) _ rfl _ rfl (fun w h => h.2) (by assumption)) hHeld ?_
  refine wpAnyH_take (i := 1) (oi := { dst := some _, op := _, type := _, pos := _, after := _, guard := _ }) rfl (by kernel_rfl) (by kernel_rfl) (by kernel_rfl) (fun _ _ _ h => h) (yields_load_mL (by rfl) _ rfl _ rfl (fun w h => h.1) (by assumption)) hHeld ?_
  refine wpAnyH_ready (rs := [2]) (by kernel_rfl) (by simp) ?_
  refine AllReadyH.cons (o := { dst := some _, op := _, type := _, pos := _, after := _, guard := _ }) rfl (fun K hK => ?_) AllReadyH.nil
  go_simp
  refine (toMachine_any _ D0 _ (mchL_below HL.out B5.out.drew) HS.out).mono ?_
  rintro e w6 ⟨u6, rfl, hu, hb⟩
  have V6 := whole_b hb V5
  have X6 := whole_b hb X5
  have U6 := Lib.hid (mchIn_b hb U5.out)
  have Y6 := Lib.hid (mchT_in hu)
  have B6 : Hid (Below w.heap.size w w6) := Lib.hid (below_b hb B5.out.drew)
  clear hb hu
  refine hK.out _ _ ⟨V6, X6⟩ (fun hHeld => ?_)
  refine wpAnyH_ready (rs := [3]) (by kernel_rfl) (by simp) ?_
  refine AllReadyH.cons (o := { dst := some _, op := _, type := _, pos := _, after := _, guard := _ }) rfl (fun K hK => ?_) AllReadyH.nil
  go_simp
  refine (eqMachine_same _ _ D0 _ U6.out Y6.out).mono ?_
  rintro e w7 ⟨rfl, hb⟩
  have V7 := whole_b hb V6
  have X7 := whole_b hb X6
  have B7 : Hid (Below w.heap.size w w7) := Lib.hid (below_b hb B6.out)
  clear hb
  refine hK.out _ _ ⟨V7, X7⟩ (fun hHeld => ?_)
  refine wpAnyH_take (i := 4) (oi := { dst := some _, op := _, type := _, pos := _, after := _, guard := _ }) (v := ?_) rfl (by kernel_rfl) (by kernel_rfl) (by kernel_rfl) (fun _ _ _ h => h) (Or.inl ⟨by rfl, ?_⟩) hHeld ?_
  rotate_left 1
  · intro w hSw; go_simp; try with_reducible rfl
  refine wpAnyH_done (by kernel_rfl) ?_ _
  go_wp2
  go_ret
  exact ⟨rfl, B7.out⟩

theorem vars_len {H : Type} {enc : TypeId × Value → H} {P : Program} {w : World} {sp : Nat → Bool} : ∀ {ns : List String} {gs : List (DataW H)} {ps : List MemPlace}, DataW.TrodVars enc P w sp ns gs ps → gs.length = ns.length
  | [], [], _, _ => rfl
  | [], _ :: _, _, h => h.elim
  | _ :: _, [], _, h => h.elim
  | _ :: _, _ :: _, _, h => by
    obtain ⟨g, t, cs, fuel, p, q, h1, h2, h3, h4, hs, e⟩ := h
    simp [vars_len hs]

set_option maxRecDepth 100000 in
theorem lifted (os : Os) (started : os.Started) (H : Type) (enc : TypeId × Value → H) :
    ReturnsInHanded {} Tryd.checked os 5 .any (fun w args => (Rows.fnExactMachineOKSpec.pre enc Tryd.prog Tryd.f5 [] false w args ∧ laidMetH Tryd.prog listed w) ∧ sizedMet enc Tryd.prog Tryd.f5 (OpenSpec.ofChange Rows.fnExactMachineOKSpec) false w args)
      (Rows.fnExactMachineOKSpec.post enc Tryd.prog Tryd.f5 false true false false) := by
  refine returnsInHanded_of_change_and (C := Tryd.checked) (X := fun w _ => laidMetH Tryd.prog listed w) (fun _ _ _ hh h => h.of_heap hh) own started (by kernel_rfl) Tryd.func5
    (ChangeSpec.witness_shaped (enc := enc) (C := Tryd.checked) (os := os) (X := fun w _ => laidMetH Tryd.prog listed w) false (World.doorLaid Tryd.prog 34 os) #[.agg #[.slice none 0 0, .slice none 0 0, .slice none 0 0, .slice none 0 0, .slice none 0 0, .int .i64 0, .int .i64 0, .string ByteArray.empty, .slice none 0 0, .slice none 0 0, .slice none 0 0, .int .i64 0, .slice none 0 0, .slice none 0 0, .int .i64 0, .int .i64 0]] 8 rfl (World.shaped_of_RefB (by kernel_rfl) (by kernel_rfl)) (by kernel_rfl) (by kernel_rfl) (by kernel_rfl) (door_met os _)) ?_
  intro W base args ds gs before hval0 hW _ _ hL _
  have hval : ∀ (j : Nat) t v, Tryd.f5.params[j]? = some t → args[j]? = some v → Value.okWide Tryd.prog W .any base t v := hval0
  have hW' := hW
  obtain ⟨p, q, hA0, hV0, rfl, hfz, hnd⟩ := hW
  have hA : DataW.TrodAll enc Tryd.prog W 0 (fun _ => true) true Tryd.f5.params.toList args.toList ds p := hA0
  have hV : DataW.TrodVars enc Tryd.prog W (fun _ => true) ["loop.example/g00787/impl.kernelEnds", "loop.example/g00787/impl.kernelNames"] gs q := hV0
  rw [Tryd.params5] at hA hval
  obtain ⟨v0, vs0, d0, ds0, p0, q0, hargs, rfl, rfl, h0, r0⟩ := trodAll_cons hA
  obtain ⟨rfl, rfl, rfl⟩ := trodAll_nil r0
  obtain rfl : args = #[v0] := by cases args; simp_all
  obtain ⟨gv0, gv1, rfl⟩ : ∃ gv0 gv1, gs = [gv0, gv1] := by
    have hl := vars_len hV
    match gs, hl with
    | [gv0, gv1], _ => exact ⟨gv0, gv1, rfl⟩
  have k0 := h0
  have lt0 : ∀ x ∈ p0, x.block < W.heap.size := by obtain ⟨m, hm⟩ := k0; exact DataW.trod_lt m _ _ _ hm
  obtain ⟨D0, w0⟩ := open_machine (hval 0 57 v0 rfl rfl) h0
  have hfact := of_laid hL
  clear hA0 hV0 hval0
  refine (walk v0 D0 W w0 hfact).mono fun e W' ⟨he, bel⟩ => ?_
  subst he
  exact ⟨_, rfl, _, _, _, [], _, _, hW', trodAll_mk1 (shut_bool Tryd.underlying4 _), (trodAll_cons_mk (Below.trod laidOut (by kernel_rfl) (of_decide_eq_true (by kernel_rfl)) k0 bel lt0) trodAll_mk0), Below.trodVars laidOut bel (by kernel_rfl) hV, bel.frame _, fun h => by cases h⟩

theorem over : Rows.FnExactMachineOKSaid :=
  OpenClaim.holds_of_wide 5 Tryd.f5 rfl rfl rfl rfl rfl rfl rfl ⟨rfl, rfl, rfl, rfl, rfl⟩ rfl rfl rfl rfl rfl (by kernel_rfl) Tryd.func5 (by kernel_rfl)
    (of_decide_eq_true (by kernel_rfl)) (by unfold Func.isWrapper; first | (rw [if_pos (by decide +kernel)]; kernel_rfl) | (rw [if_neg (by decide +kernel)]; exact ⟨rfl, rfl⟩))
    (fun os started H enc _ => lifted os started H enc)

/-- The statement: the tied card. -/
theorem proved : Rows.FnExactMachineOKCardSaid :=
  Claim7.holds_tied_plain_at .later [] [.data, .data] true (true, "bdd17dae2d81f410deed05a96fc0d460282cf341edf2345ad319a0d6ac0dec11") false
    over (fun _ h => by cases h) (by kernel_rfl) (fun _ h => by cases h) fnExactMachineOK_row_tie rfl ⟨rfl, rfl⟩ (by kernel_rfl) rfl
    (fun f fn hf hfn => by
      obtain rfl : f = 5 := Option.some.inj ((show Tryd.prog.funcNamed "loop.example/g00787/laws.FnExactMachineOK" = some 5 by kernel_rfl).symm.trans hf) |>.symm
      obtain rfl : fn = Tryd.f5 := (Option.some.inj (Tryd.func5.symm.trans hfn)).symm
      exact ⟨by kernel_rfl, fun j t ht => by
        rw [Tryd.params5] at ht
        have hm : t ∈ [57] := by simpa using Array.mem_of_getElem? ht
        have hall : ([57].all fun u => !Tryd.prog.wantsStandIn u) = true := by kernel_rfl
        exact (show Tryd.prog.wantsStandIn t = false by simpa using List.all_eq_true.1 hall t hm)⟩)
    (by kernel_rfl)
#print axioms proved
end Go.Proofs.YtjlfbmplmddceaaDoor.fnExactMachineOK
