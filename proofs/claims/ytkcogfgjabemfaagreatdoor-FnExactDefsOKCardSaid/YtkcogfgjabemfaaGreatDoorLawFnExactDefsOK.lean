/- laws.FnExactDefsOK returns true at every machine and every slice of definitions: impl.DefsOK and spec.DefsOK give the same answer, and impl.DefsOK writes into no argument. No condition but the card's: the two listed tables are tied to the program's text (a pruned copy of the project). -/
import Derived.Test.YtkcogfgjabemfaaGreatDoorRows
import Derived.Test.YtkcogfgjabemfaaGreatDoorTie
import Derived.Test.YtkcogfgjabemfaaGreatDoorCards
import Derived.Test.YtkcogfgjabemfaaGreatDoorPkA
import Derived.Test.YtkcogfgjabemfaaGreatDoorPkB
import Derived.Test.YtkcogfgjabemfaaGreatDoorPkD
import Derived.Test.YtkcogfgjabemfaaGreatDoorPkF
import Derived.Deep.RegionHeld3
import Derived.WalkKit
import Derived.ProofKit
import Derived.OpenShut
import Derived.ShutString
import Derived.ChangeOld
import Derived.Below
import Derived.LaidMore
import Derived.Stop.Joined
import Derived.ChangeVars
import Derived.WalkSmall
import Derived.SevenTiedAt
import Derived.OpenVars
namespace Go.Proofs.YtkcogfgjabemfaaGreatDoor.fnExactDefsOK
open Go.ChangeShapes Go.WideShapes Go.ChangeAt Go.RowKit
open Go.ChangeMaps (open_string shut_string)
set_option linter.unusedSimpArgs false
set_option linter.unusedVariables false

theorem own : ownKnob Tryz.prog.godebug = none := by kernel_rfl
theorem laidOut : laidOutB Tryz.prog = true := by kernel_rfl

/-- What the row lists. -/
def listed : List (String × DataW Unit) := [("loop.example/g00787/impl.kernelNames", Rows.laid_loop_example_g00787_impl_kernelNames), ("loop.example/g00787/impl.kernelEnds", Rows.laid_loop_example_g00787_impl_kernelEnds)]

/-- The door's own heap meets the condition. -/
theorem door_met (os : Os) (args : Array Value) : laidMetH Tryz.prog listed ((World.doorLaid Tryz.prog 19 os).forCall (fun _ _ => 0) ⟨#[], args, []⟩).memory :=
  laidMetH_of_parts3 (fuel := 8) (laidMet_of_run' 8 (by kernel_rfl) (by kernel_rfl)) (by kernel_rfl) (by kernel_rfl)

/-- What the condition gives the walk. -/
theorem of_laid {w : World} (h : laidMetH Tryz.prog listed w) : Tabs w := by
  rw [MakeChecks.laidMetH_plain _ _ _ (by kernel_rfl)] at h
  obtain ⟨ps, ⟨g0, t0, cs0, f0, p0, q0, hg0, ht0, hv0, hd0, ⟨g1, t1, cs1, f1, p1, q1, hg1, ht1, hv1, hd1, _, _⟩, _⟩, _, _⟩ := h
  obtain rfl := Option.some.inj ((show Tryz.prog.globalNamed "loop.example/g00787/impl.kernelNames" = some 1 by kernel_rfl).symm.trans hg0)
  obtain rfl := Option.some.inj ((show Tryz.prog.globalNamed "loop.example/g00787/impl.kernelEnds" = some 0 by kernel_rfl).symm.trans hg1)
  obtain rfl := Option.some.inj ((show (Tryz.prog.globals[1]?).map (·.type) = some 156 by kernel_rfl).symm.trans ht0)
  obtain rfl := Option.some.inj ((show (Tryz.prog.globals[0]?).map (·.type) = some 155 by kernel_rfl).symm.trans ht1)
  refine ⟨fun i hi => ?_, fun j hj => ?_⟩
  · have hs := nums_of_trod (L := [0, 52, 56, 62, 66, 83]) Tryz.underlying155 Tryz.underlying3 (by kernel_rfl) hd1 i hi
    rw [World.var?_cell hg1 hv1 i, ← Array.getElem?_toList, hs]
    match i, hi with
    | 0, _ => rfl
    | 1, _ => rfl
    | 2, _ => rfl
    | 3, _ => rfl
    | 4, _ => rfl
    | 5, _ => rfl
  · have hs := strs_of_trod (L := knames) Tryz.underlying156 Tryz.underlying9 (by kernel_rfl) hd0 j hj
    rw [World.var?_cell hg0 hv0 j, ← Array.getElem?_toList]
    exact hs

set_option maxRecDepth 100000 in
set_option maxHeartbeats 4000000 in
theorem walk (v0 : Value) (D0 : Mc) (v1 : Value) (D1 : List Df) (w : World) (w0 : MchL w v0 D0) (w1 : Dfs w v1 D1) (hl : Tabs w) :
    Calls Tryz.prog 3 #[v0, v1] w fun e w' => e = .returned (.bool true) ∧ Below w.heap.size w w' := by
  have HT := Lib.hid hl
  obtain ⟨cs, rfl, hcs⟩ := mchL_cells w0
  have HL := Lib.hid w0
  have HD := Lib.hid w1
  obtain ⟨_, Ad, cd, rfl, _⟩ := w1
  clear hl w0
  have V0 := whole_new w 32 cs
  go_enter Tryz.func3, Tryz.ntmps3
  go_wp2_with (first | (refine wpList_load_mL rfl _ rfl _ rfl (by assumption) (by assumption) ?_) | (refine wpList_load_mI rfl _ rfl _ rfl (by assumption) (by assumption) ?_) | (refine wpList_store_mI rfl _ _ rfl _ rfl rfl _ (by assumption) ?_) | fail)
  refine (szMachine_any _ D0 1048576 _ (mchL_below HL.out (below_alloc (Below.refl _ _) _)) (by omega) (by omega)).mono ?_
  rintro e w1 ⟨r, rfl, hr, hb⟩
  have B1 := Lib.hid (below_step (below_alloc (Below.refl _ _) _) hb)
  have V1 := whole_b hb V0
  clear hb V0
  rcases hr with rfl | ⟨h0, h1, hs⟩
  · go_wp2
    go_ret
    exact ⟨rfl, B1.out⟩
  have HS := Lib.hid hs
  have tr : ¬ r < 0 := by omega
  clear hs
  go_wp2_with (first | (refine wpList_load_mL rfl _ rfl _ rfl (by assumption) (by assumption) ?_) | (refine wpList_load_mI rfl _ rfl _ rfl (by assumption) (by assumption) ?_) | (refine wpList_store_mI rfl _ _ rfl _ rfl rfl _ (by assumption) ?_) | fail)
  refine (szDefS_any _ D1 r _ (dfs_below HD.out B1.out) h0 h1).mono ?_
  rintro e w2 ⟨r2, rfl, hr2, hb⟩
  have B2 := Lib.hid (below_step B1.out hb)
  have V2 := whole_b hb V1
  clear hb V1 B1 tr
  rcases hr2 with rfl | ⟨h2, h3, hs2⟩
  · go_wp2
    go_ret
    exact ⟨rfl, B2.out⟩
  have HS2 := Lib.hid hs2
  have tr : ¬ r2 < 0 := by omega
  clear hs2
  go_wp2_with (first | (refine wpList_load_mL rfl _ rfl _ rfl (by assumption) (by assumption) ?_) | (refine wpList_load_mI rfl _ rfl _ rfl (by assumption) (by assumption) ?_) | (refine wpList_store_mI rfl _ _ rfl _ rfl rfl _ (by assumption) ?_) | fail)
  refine (toMachine_any _ D0 _ (mchL_below HL.out B2.out) HS.out).mono ?_
  rintro e w3 ⟨u, rfl, hu, hb⟩
  obtain ⟨c3, a1, k1, a2, k2, rfl, hm3⟩ := mrow_of hu
  have M3 := Lib.hid hm3
  have B3 := Lib.hid (below_step B2.out hb)
  have V3 := whole_b hb V2
  clear hb hu V2 B2 hm3
  go_wp2_with (first | (refine wpList_load_mL rfl _ rfl _ rfl (by assumption) (by assumption) ?_) | (refine wpList_load_mI rfl _ rfl _ rfl (by assumption) (by assumption) ?_) | (refine wpList_store_mI rfl _ _ rfl _ rfl rfl _ (by assumption) ?_) | fail)
  refine (toDefS_any _ D1 _ (dfs_below HD.out B3.out) HS2.out).mono ?_
  rintro e w4 ⟨g4, rfl, hd4, hb⟩
  have D4 := Lib.hid hd4
  have M4 := Lib.hid (mrow_below M3.out hb)
  have B4 := Lib.hid (below_step B3.out hb)
  have V4 := whole_b hb V3
  clear hb hd4 V3 B3 M3
  go_wp2_with (first | (refine wpList_load_mL rfl _ rfl _ rfl (by assumption) (by assumption) ?_) | (refine wpList_load_mI rfl _ rfl _ rfl (by assumption) (by assumption) ?_) | (refine wpList_store_mI rfl _ _ rfl _ rfl rfl _ (by assumption) ?_) | fail)
  refine (sDefsOK_any _ D0 _ _ _ _ D1 _ _ M4.out D4.out).mono ?_
  rintro e w5 ⟨rs, hrs, rfl, hb⟩
  have RS := Lib.hid hrs
  have B5 := Lib.hid (below_step B4.out hb)
  have V5 := whole_b hb V4
  clear hb V4 B4 hrs M4 D4
  go_wp2_with (first | (refine wpList_load_mL rfl _ rfl _ rfl (by assumption) (by assumption) ?_) | (refine wpList_load_mI rfl _ rfl _ rfl (by assumption) (by assumption) ?_) | (refine wpList_store_mI rfl _ _ rfl _ rfl rfl _ (by assumption) ?_) | fail)
  refine (toMachine_any _ D0 _ (mchL_below HL.out B5.out) HS.out).mono ?_
  rintro e w6 ⟨u6, rfl, hu, hb⟩
  have U6 := Lib.hid (mchT_in hu)
  obtain ⟨cu, b1, j1, b2, j2, rfl, hm6⟩ := mrow_of hu
  have hcu := hm6.six
  have M6 := Lib.hid hm6
  have B6 := Lib.hid (below_step B5.out hb)
  have V6 := whole_alloc (whole_b hb V5) (.cells cu 44)
  have X6 := whole_new w6 44 cu
  have BA := Lib.hid (below_alloc (Below.refl w6.heap.size w6) (.cells cu 44))
  clear hb hu V5 B5 hm6
  go_wp2_with (first | (refine wpList_load_mL rfl _ rfl _ rfl (by assumption) (by assumption) ?_) | (refine wpList_load_mI rfl _ rfl _ rfl (by assumption) (by assumption) ?_) | (refine wpList_store_mI rfl _ _ rfl _ rfl rfl _ (by assumption) ?_) | fail)
  refine (toDefS_any _ D1 _ (dfs_below HD.out (below_step B6.out BA.out)) HS2.out).mono ?_
  rintro e w7 ⟨g7, rfl, hd7, hb⟩
  have D7 := Lib.hid hd7
  have BB := Lib.hid (below_step BA.out hb)
  have B7 := Lib.hid (below_step B6.out BB.out)
  have M7 := Lib.hid (mrow_below M6.out BB.out)
  have U7 := Lib.hid (mchIn_below U6.out BB.out)
  have V7 := whole_b hb V6
  have X7 := whole_b hb X6
  clear hb hd7 V6 X6 B6 M6 U6 BA BB
  go_wp2_with (first | (refine wpList_load_mL rfl _ rfl _ rfl (by assumption) (by assumption) ?_) | (refine wpList_load_mI rfl _ rfl _ rfl (by assumption) (by assumption) ?_) | (refine wpList_store_mI rfl _ _ rfl _ rfl rfl _ (by assumption) ?_) | fail)
  refine (iDefsOK_any _ D0 _ _ _ _ D1 _ _ _ _ M7.out D7.out (Nat.le_refl _) (tabs_below HT.out B7.out)).mono ?_
  rintro e w8 ⟨ri, hri, rfl, hb⟩
  have er : ri = rs := by
    rw [Bool.eq_iff_iff, hri, RS.out]
    exact ⟨fun h => ⟨h.1, (specD_iff (mok_parts h.1).1 D1).1 h.2⟩, fun h => ⟨h.1, (specD_iff (mok_parts h.1).1 D1).2 h.2⟩⟩
  subst er
  have B8 := Lib.hid (below_step B7.out hb)
  have U8 := Lib.hid (mchIn_below U7.out hb)
  have D8 := Lib.hid (dfs_below D7.out hb)
  have V8 := whole_b hb V7
  have X8 := whole_b hb X7
  clear hb V7 X7 B7 U7 D7 M7 hri RS
  have ts : (ri != ri) = false := by simp
  go_wp2_with (first | (refine wpList_load_mL rfl _ rfl _ rfl (by assumption) (by assumption) ?_) | (refine wpList_load_mI rfl _ rfl _ rfl (by assumption) (by assumption) ?_) | (refine wpList_store_mI rfl _ _ rfl _ rfl rfl _ (by assumption) ?_) | fail)
  refine wp_region_held_drew (S := fun w' => Whole w' w.heap.size 32 cs ∧ Whole w' w6.heap.size 44 cu) (by kernel_rfl) ⟨V8, X8⟩ (fun hHeld => ?_)
  refine wpAnyH_take (i := 0) (oi := { dst := some _, op := _, type := _, pos := _, after := _, guard := _ }) rfl (by kernel_rfl) (by kernel_rfl) (by kernel_rfl) (fun _ _ _ h => h) (yields_load_mI (by rfl) _ rfl _ rfl (fun w h => h.2) (by assumption)) hHeld ?_
  refine wpAnyH_take (i := 1) (oi := { dst := some _, op := _, type := _, pos := _, after := _, guard := _ }) rfl (by kernel_rfl) (by kernel_rfl) (by kernel_rfl) (fun _ _ _ h => h) (yields_load_mL (by rfl) _ rfl _ rfl (fun w h => h.1) (by assumption)) hHeld ?_
  refine wpAnyH_ready (rs := [2]) (by kernel_rfl) (by simp) ?_
  refine AllReadyH.cons (o := { dst := some _, op := _, type := _, pos := _, after := _, guard := _ }) rfl (fun K hK => ?_) AllReadyH.nil
  go_simp
  refine (toMachine_any _ D0 _ (mchL_below HL.out B8.out.drew) HS.out).mono ?_
  rintro e w9 ⟨u9, rfl, hu, hb⟩
  have V9 := whole_b hb V8
  have X9 := whole_b hb X8
  have U9 := Lib.hid (mchIn_below (mchIn_below U8.out (Below.refl _ _).drew) hb)
  have Y9 := Lib.hid (mchT_in hu)
  have D9 := Lib.hid (dfs_below D8.out ((Below.refl w8.heap.size w8).drew.trans (hb.mono (Nat.le_refl _))))
  have B9 : Hid (Below w.heap.size w w9) := Lib.hid (below_b hb B8.out.drew)
  clear hb hu
  refine hK.out _ _ ⟨V9, X9⟩ (fun hHeld => ?_)
  refine wpAnyH_ready (rs := [3]) (by kernel_rfl) (by simp) ?_
  refine AllReadyH.cons (o := { dst := some _, op := _, type := _, pos := _, after := _, guard := _ }) rfl (fun K hK => ?_) AllReadyH.nil
  go_simp
  refine (eqMachine_same _ _ D0 _ U9.out Y9.out).mono ?_
  rintro e w10 ⟨rfl, hb⟩
  have V10 := whole_b hb V9
  have X10 := whole_b hb X9
  have D10 := Lib.hid (dfs_below D9.out hb)
  have B10 : Hid (Below w.heap.size w w10) := Lib.hid (below_b hb B9.out)
  clear hb
  refine hK.out _ _ ⟨V10, X10⟩ (fun hHeld => ?_)
  refine wpAnyH_take (i := 4) (v := ?_) (oi := { dst := some _, op := _, type := _, pos := _, after := _, guard := _ }) rfl (by kernel_rfl) (by kernel_rfl) (by kernel_rfl) (fun _ _ _ h => h) (Or.inl ⟨by rfl, ?_⟩) hHeld ?_
  rotate_left 1
  · intro w hSw; go_simp; try with_reducible rfl
  refine wpAnyH_done (by kernel_rfl) ?_ _
  go_wp2_with fail
  refine (toDefS_any _ D1 _ (dfs_below HD.out B10.out) HS2.out).mono ?_
  rintro e w11 ⟨g11, rfl, hd11, hb⟩
  have D11 := Lib.hid (dfs_below D10.out hb)
  have Y11 := Lib.hid hd11
  have B11 : Hid (Below w.heap.size w w11) := Lib.hid (below_b hb B10.out)
  clear hb hd11
  go_wp2_with fail
  refine (eqDefS_same _ _ D1 _ D11.out Y11.out).mono ?_
  rintro e w12 ⟨rfl, hb⟩
  have B12 : Hid (Below w.heap.size w w12) := Lib.hid (below_b hb B11.out)
  clear hb
  go_wp2
  go_ret
  exact ⟨rfl, B12.out⟩

theorem vars_len {H : Type} {enc : TypeId × Value → H} {P : Program} {w : World} {sp : Nat → Bool} : ∀ {ns : List String} {gs : List (DataW H)} {ps : List MemPlace}, DataW.TrodVars enc P w sp ns gs ps → gs.length = ns.length
  | [], [], _, _ => rfl
  | [], _ :: _, _, h => h.elim
  | _ :: _, [], _, h => h.elim
  | _ :: _, _ :: _, _, h => by
    obtain ⟨g, t, cs, fuel, p, q, h1, h2, h3, h4, hs, e⟩ := h
    simp [vars_len hs]

set_option maxRecDepth 100000 in
theorem lifted (os : Os) (started : os.Started) (H : Type) (enc : TypeId × Value → H) :
    ReturnsInHanded {} Tryz.checked os 3 .any (fun w args => (Rows.fnExactDefsOKSpec.pre enc Tryz.prog Tryz.f3 [] false w args ∧ laidMetH Tryz.prog listed w) ∧ sizedMet enc Tryz.prog Tryz.f3 (OpenSpec.ofChange Rows.fnExactDefsOKSpec) false w args)
      (Rows.fnExactDefsOKSpec.post enc Tryz.prog Tryz.f3 false true false false) := by
  refine returnsInHanded_of_change_and (C := Tryz.checked) (X := fun w _ => laidMetH Tryz.prog listed w) (fun _ _ _ hh h => h.of_heap hh) own started (by kernel_rfl) Tryz.func3
    (ChangeSpec.witness_shaped (enc := enc) (C := Tryz.checked) (os := os) (X := fun w _ => laidMetH Tryz.prog listed w) false (World.doorLaid Tryz.prog 19 os) #[.agg #[.slice none 0 0, .slice none 0 0, .slice none 0 0, .slice none 0 0, .slice none 0 0, .int .i64 0, .int .i64 0, .string ByteArray.empty, .slice none 0 0, .slice none 0 0, .slice none 0 0, .int .i64 0, .slice none 0 0, .slice none 0 0, .int .i64 0, .int .i64 0], .slice none 0 0] 8 rfl (World.shaped_of_RefB (by kernel_rfl) (by kernel_rfl)) (by kernel_rfl) (by kernel_rfl) (by kernel_rfl) (door_met os _)) ?_
  intro W base args ds gs before hval0 hW _ _ hL _
  have hval : ∀ (j : Nat) t v, Tryz.f3.params[j]? = some t → args[j]? = some v → Value.okWide Tryz.prog W .any base t v := hval0
  have hW' := hW
  obtain ⟨p, q, hA0, hV0, rfl, hfz, hnd⟩ := hW
  have hA : DataW.TrodAll enc Tryz.prog W 0 (fun _ => true) true Tryz.f3.params.toList args.toList ds p := hA0
  have hV : DataW.TrodVars enc Tryz.prog W (fun _ => true) ["loop.example/g00787/impl.kernelEnds", "loop.example/g00787/impl.kernelNames"] gs q := hV0
  rw [Tryz.params3] at hA hval
  obtain ⟨v0, vs0, d0, ds0, p0, q0, hargs, rfl, rfl, h0, r0⟩ := trodAll_cons hA
  obtain ⟨v1, vs1, d1, ds1, p1, q1, rfl, rfl, rfl, h1, r1⟩ := trodAll_cons r0
  obtain ⟨rfl, rfl, rfl⟩ := trodAll_nil r1
  obtain rfl : args = #[v0, v1] := by cases args; simp_all
  obtain ⟨gv0, gv1, rfl⟩ : ∃ gv0 gv1, gs = [gv0, gv1] := by
    have hl := vars_len hV
    match gs, hl with
    | [gv0, gv1], _ => exact ⟨gv0, gv1, rfl⟩
  have k0 := h0
  have lt0 : ∀ x ∈ p0, x.block < W.heap.size := by obtain ⟨m, hm⟩ := k0; exact DataW.trod_lt m _ _ _ hm
  obtain ⟨D0, w0⟩ := open_machine (hval 0 32 v0 rfl rfl) h0
  have k1 := h1
  have lt1 : ∀ x ∈ p1, x.block < W.heap.size := by obtain ⟨m, hm⟩ := k1; exact DataW.trod_lt m _ _ _ hm
  obtain ⟨D1, w1⟩ := open_defs (hval 1 33 v1 rfl rfl) h1
  have hfact := of_laid hL
  clear hA0 hV0 hval0
  refine (walk v0 D0 v1 D1 W w0 w1 hfact).mono fun e W' ⟨he, bel⟩ => ?_
  subst he
  exact ⟨_, rfl, _, _, _, [], _, _, hW', trodAll_mk1 (shut_bool Tryz.underlying4 _), (trodAll_cons_mk (Below.trod laidOut (by kernel_rfl) (of_decide_eq_true (by kernel_rfl)) k0 bel lt0) (trodAll_cons_mk (Below.trod laidOut (by kernel_rfl) (of_decide_eq_true (by kernel_rfl)) k1 bel lt1) trodAll_mk0)), Below.trodVars laidOut bel (by kernel_rfl) hV, bel.frame _, fun h => by cases h⟩

theorem over : Rows.FnExactDefsOKSaid :=
  OpenClaim.holds_of_wide 3 Tryz.f3 rfl rfl rfl rfl rfl rfl rfl ⟨rfl, rfl, rfl, rfl, rfl⟩ rfl rfl rfl rfl rfl (by kernel_rfl) Tryz.func3 (by kernel_rfl)
    (of_decide_eq_true (by kernel_rfl)) (by unfold Func.isWrapper; first | (rw [if_pos (by decide +kernel)]; kernel_rfl) | (rw [if_neg (by decide +kernel)]; exact ⟨rfl, rfl⟩))
    (fun os started H enc _ => lifted os started H enc)

/-- The statement: the tied card. -/
theorem proved : Rows.FnExactDefsOKCardSaid :=
  Claim7.holds_tied_plain_at .later [] [.data, .data] true (true, "6de7af48d646e8ef32e7c7f345a50c7e71ae3e335a2a8185a0d4ff56ccbc8de7") false
    over (fun _ h => by cases h) (by kernel_rfl) (fun _ h => by cases h) fnExactDefsOK_row_tie rfl ⟨rfl, rfl⟩ (by kernel_rfl) rfl
    (fun f fn hf hfn => by
      obtain rfl : f = 3 := Option.some.inj ((show Tryz.prog.funcNamed "loop.example/g00787/laws.FnExactDefsOK" = some 3 by kernel_rfl).symm.trans hf) |>.symm
      obtain rfl : fn = Tryz.f3 := (Option.some.inj (Tryz.func3.symm.trans hfn)).symm
      exact ⟨by kernel_rfl, fun j t ht => by
        rw [Tryz.params3] at ht
        have hm : t ∈ [32, 33] := by simpa using Array.mem_of_getElem? ht
        have hall : ([32, 33].all fun u => !Tryz.prog.wantsStandIn u) = true := by kernel_rfl
        exact (show Tryz.prog.wantsStandIn t = false by simpa using List.all_eq_true.1 hall t hm)⟩)
    (by kernel_rfl)
#print axioms proved
end Go.Proofs.YtkcogfgjabemfaaGreatDoor.fnExactDefsOK
