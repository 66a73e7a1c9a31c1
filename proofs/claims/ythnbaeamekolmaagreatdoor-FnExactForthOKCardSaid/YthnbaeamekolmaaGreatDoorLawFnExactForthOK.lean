/- laws.FnExactForthOK returns true at every Forth: impl.ForthOK and spec.ForthOK give the same answer, and impl.ForthOK writes into no argument. No condition but the card's: the two listed tables are tied to the program's text (a pruned copy of the project). -/
import Derived.Test.YthnbaeamekolmaaGreatDoorRows
import Derived.Test.YthnbaeamekolmaaGreatDoorTie
import Derived.Test.YthnbaeamekolmaaGreatDoorCards
import Derived.Test.YthnbaeamekolmaaGreatDoorQkI
import Derived.Test.YthnbaeamekolmaaGreatDoorQkH
import Derived.Test.YthnbaeamekolmaaGreatDoorQkA
import Derived.Deep.RegionHeld3
import Derived.WalkKit
import Derived.ProofKit
import Derived.OpenShut
import Derived.ShutString
import Derived.ChangeOld
import Derived.Below
import Derived.LaidMore
import Derived.Stop.Joined
import Derived.ChangeVars
import Derived.WalkSmall
import Derived.SevenTiedAt
import Derived.OpenVars
namespace Go.Proofs.YthnbaeamekolmaaGreatDoor.fnExactForthOK
open Go.ChangeShapes Go.WideShapes Go.ChangeAt Go.RowKit
open Go.ChangeMaps (open_string shut_string)
set_option linter.unusedSimpArgs false
set_option linter.unusedVariables false

theorem own : ownKnob Tryz.prog.godebug = none := by kernel_rfl
theorem laidOut : laidOutB Tryz.prog = true := by kernel_rfl

/-- What the row lists. -/
def listed : List (String × DataW Unit) := [("loop.example/g00787/impl.kernelNames", Rows.laid_loop_example_g00787_impl_kernelNames), ("loop.example/g00787/impl.kernelEnds", Rows.laid_loop_example_g00787_impl_kernelEnds)]

/-- The door's own heap meets the condition. -/
theorem door_met (os : Os) (args : Array Value) : laidMetH Tryz.prog listed ((World.doorLaid Tryz.prog 53 os).forCall (fun _ _ => 0) ⟨#[], args, []⟩).memory :=
  laidMetH_of_parts3 (fuel := 8) (laidMet_of_run' 8 (by kernel_rfl) (by kernel_rfl)) (by kernel_rfl) (by kernel_rfl)

/-- What the condition gives the walk. -/
theorem of_laid {w : World} (h : laidMetH Tryz.prog listed w) : Tabs w := by
  rw [MakeChecks.laidMetH_plain _ _ _ (by kernel_rfl)] at h
  obtain ⟨ps, ⟨g0, t0, cs0, f0, p0, q0, hg0, ht0, hv0, hd0, ⟨g1, t1, cs1, f1, p1, q1, hg1, ht1, hv1, hd1, _, _⟩, _⟩, _, _⟩ := h
  obtain rfl := Option.some.inj ((show Tryz.prog.globalNamed "loop.example/g00787/impl.kernelNames" = some 2 by kernel_rfl).symm.trans hg0)
  obtain rfl := Option.some.inj ((show Tryz.prog.globalNamed "loop.example/g00787/impl.kernelEnds" = some 1 by kernel_rfl).symm.trans hg1)
  obtain rfl := Option.some.inj ((show (Tryz.prog.globals[2]?).map (·.type) = some 248 by kernel_rfl).symm.trans ht0)
  obtain rfl := Option.some.inj ((show (Tryz.prog.globals[1]?).map (·.type) = some 247 by kernel_rfl).symm.trans ht1)
  refine ⟨fun i hi => ?_, fun j hj => ?_⟩
  · have hs := nums_of_trod (L := [0, 52, 56, 62, 66, 83]) Tryz.underlying247 Tryz.underlying3 (by kernel_rfl) hd1 i hi
    rw [World.var?_cell hg1 hv1 i, ← Array.getElem?_toList, hs]
    match i, hi with
    | 0, _ => rfl
    | 1, _ => rfl
    | 2, _ => rfl
    | 3, _ => rfl
    | 4, _ => rfl
    | 5, _ => rfl
  · have hs := strs_of_trod (L := knames) Tryz.underlying248 Tryz.underlying9 (by kernel_rfl) hd0 j hj
    rw [World.var?_cell hg0 hv0 j, ← Array.getElem?_toList]
    exact hs

set_option maxRecDepth 100000 in
set_option maxHeartbeats 4000000 in
theorem walk (v0 : Value) (D0 : Fo) (w : World) (w0 : FoL w v0 D0) (hl : Tabs w) :
    Calls Tryz.prog 3 #[v0] w fun e w' => e = .returned (.bool true) ∧ Below w.heap.size w w' := by
  have HT := Lib.hid hl
  obtain ⟨cs, rfl, hcs⟩ := foL_cells w0
  have HL := Lib.hid w0
  clear hl w0
  have V0 := whole_new w 36 cs
  obtain ⟨mk, hmk⟩ := bool_of (FoP D0)
  have SS : Hid (∀ u W, FoIn W u D0 → Calls Tryz.prog 10 #[u] W fun e w' => e = .returned (.bool mk) ∧ Below W.heap.size W w') := Lib.hid fun u W h => biff_to hmk (sForthOK_any u D0 W h)
  have IS : Hid (∀ u W, FoIn W u D0 → Tabs W → Calls Tryz.prog 12 #[u] W fun e w' => e = .returned (.bool mk) ∧ Below W.heap.size W w') := Lib.hid fun u W h t => biff_to hmk (iForthOK_any u D0 W h t)
  clear hmk
  go_enter Tryz.func3, Tryz.ntmps3
  go_wp2_with (first | (refine wpList_load_fL rfl _ rfl _ rfl (by assumption) (by assumption) ?_) | (refine wpList_load_fI rfl _ rfl _ rfl (by assumption) (by assumption) ?_) | (refine wpList_store_fI rfl _ _ rfl _ rfl rfl _ (by assumption) ?_) | fail)
  refine (szForth_any _ D0 1048576 _ (foL_below HL.out (below_alloc (Below.refl _ _) _)) (by omega) (by omega)).mono ?_
  rintro e w1 ⟨r, rfl, hr, hb⟩
  have B1 := Lib.hid (below_step (below_alloc (Below.refl _ _) _) hb)
  have V1 := whole_b hb V0
  clear hb V0
  rcases hr with rfl | ⟨h0, h1, hs⟩
  · go_wp2
    go_ret
    exact ⟨rfl, B1.out⟩
  have HS := Lib.hid hs
  clear hs
  go_wp2_with (first | (refine wpList_load_fL rfl _ rfl _ rfl (by assumption) (by assumption) ?_) | (refine wpList_load_fI rfl _ rfl _ rfl (by assumption) (by assumption) ?_) | (refine wpList_store_fI rfl _ _ rfl _ rfl rfl _ (by assumption) ?_) | fail)
  refine (toForth_any _ D0 _ (foL_below HL.out B1.out) HS.out).mono ?_
  rintro e w2 ⟨u, rfl, hu, hb⟩
  have B2 := Lib.hid (below_step B1.out hb)
  have V2 := whole_b hb V1
  have U2 := Lib.hid hu
  clear hb hu V1 B1
  go_wp2_with (first | (refine wpList_load_fL rfl _ rfl _ rfl (by assumption) (by assumption) ?_) | (refine wpList_load_fI rfl _ rfl _ rfl (by assumption) (by assumption) ?_) | (refine wpList_store_fI rfl _ _ rfl _ rfl rfl _ (by assumption) ?_) | fail)
  refine (SS.out _ _ U2.out).mono ?_
  rintro e w3 ⟨rfl, hb⟩
  have B3 := Lib.hid (below_step B2.out hb)
  have V3 := whole_b hb V2
  clear hb V2 B2 U2
  go_wp2_with (first | (refine wpList_load_fL rfl _ rfl _ rfl (by assumption) (by assumption) ?_) | (refine wpList_load_fI rfl _ rfl _ rfl (by assumption) (by assumption) ?_) | (refine wpList_store_fI rfl _ _ rfl _ rfl rfl _ (by assumption) ?_) | fail)
  refine (toForth_any _ D0 _ (foL_below HL.out B3.out) HS.out).mono ?_
  rintro e w4 ⟨u4, rfl, hu, hb⟩
  obtain ⟨cu, rfl, hcu⟩ := foIn_cells hu
  have U4 := Lib.hid hu
  have B4 := Lib.hid (below_step B3.out hb)
  have V4 := whole_alloc (whole_b hb V3) (.cells cu 50)
  have X4 := whole_new w4 50 cu
  clear hb V3 B3 hu
  go_wp2_with (first | (refine wpList_load_fL rfl _ rfl _ rfl (by assumption) (by assumption) ?_) | (refine wpList_load_fI rfl _ rfl _ rfl (by assumption) (by assumption) ?_) | (refine wpList_store_fI rfl _ _ rfl _ rfl rfl _ (by assumption) ?_) | fail)
  refine (IS.out _ _ (foIn_below U4.out (below_alloc (Below.refl _ _) _)) (tabs_below HT.out (below_alloc B4.out _))).mono ?_
  rintro e w5 ⟨rfl, hb⟩
  have B5 := Lib.hid (below_step (below_alloc B4.out _) hb)
  have V5 := whole_b hb V4
  have X5 := whole_b hb X4
  have U5 := Lib.hid (foIn_below (foIn_below U4.out (below_alloc (Below.refl _ _) _)) hb)
  clear hb V4 X4 B4 U4
  have ts : (mk != mk) = false := by simp
  go_wp2_with (first | (refine wpList_load_fL rfl _ rfl _ rfl (by assumption) (by assumption) ?_) | (refine wpList_load_fI rfl _ rfl _ rfl (by assumption) (by assumption) ?_) | (refine wpList_store_fI rfl _ _ rfl _ rfl rfl _ (by assumption) ?_) | fail)
  refine wp_region_held_drew (S := fun w' => Whole w' w.heap.size 36 cs ∧ Whole w' w4.heap.size 50 cu) (by kernel_rfl) ⟨V5, X5⟩ (fun hHeld => ?_)
  refine wpAnyH_take (i := 0) (oi := { dst := some _, op := _, type := _, pos := _, after := _, guard := _ }) rfl (by kernel_rfl) (by kernel_rfl) (by kernel_rfl) (fun _ _ _ h => h) (yields_load_fI (by rfl) _ rfl _ rfl (fun w h => h.2) (by assumption)) hHeld ?_
  refine wpAnyH_take (i := 1) (oi := { dst := some _, op := _, type := _, pos := _, after := _, guard := _ }) rfl (by kernel_rfl) (by kernel_rfl) (by kernel_rfl) (fun _ _ _ h => h) (yields_load_fL (by rfl) _ rfl _ rfl (fun w h => h.1) (by assumption)) hHeld ?_
  refine wpAnyH_ready (rs := [2]) (by kernel_rfl) (by simp) ?_
  refine AllReadyH.cons (o := { dst := some _, op := _, type := _, pos := _, after := _, guard := _ }) rfl (fun K hK => ?_) AllReadyH.nil
  go_simp
  refine (toForth_any _ D0 _ (foL_below HL.out B5.out.drew) HS.out).mono ?_
  rintro e w6 ⟨u6, rfl, hu, hb⟩
  have V6 := whole_b hb V5
  have X6 := whole_b hb X5
  have U6 := Lib.hid (by first | exact foIn_b hb U5.out | exact foIn_b hb (foIn_below U5.out (Below.refl _ _).drew))
  have Y6 := Lib.hid hu
  have B6 : Hid (Below w.heap.size w w6) := Lib.hid (below_b hb B5.out.drew)
  clear hb hu
  refine hK.out _ _ ⟨V6, X6⟩ (fun hHeld => ?_)
  refine wpAnyH_ready (rs := [3]) (by kernel_rfl) (by simp) ?_
  refine AllReadyH.cons (o := { dst := some _, op := _, type := _, pos := _, after := _, guard := _ }) rfl (fun K hK => ?_) AllReadyH.nil
  go_simp
  refine (eqForth_same _ _ D0 _ U6.out Y6.out).mono ?_
  rintro e w7 ⟨rfl, hb⟩
  have V7 := whole_b hb V6
  have X7 := whole_b hb X6
  have B7 : Hid (Below w.heap.size w w7) := Lib.hid (below_b hb B6.out)
  clear hb
  refine hK.out _ _ ⟨V7, X7⟩ (fun hHeld => ?_)
  refine wpAnyH_take (i := 4) (oi := { dst := some _, op := _, type := _, pos := _, after := _, guard := _ }) (v := ?_) rfl (by kernel_rfl) (by kernel_rfl) (by kernel_rfl) (fun _ _ _ h => h) (Or.inl ⟨by rfl, ?_⟩) hHeld ?_
  rotate_left 1
  · intro w hSw; go_simp; try with_reducible rfl
  refine wpAnyH_done (by kernel_rfl) ?_ _
  go_wp2
  go_ret
  exact ⟨rfl, B7.out⟩

theorem vars_len {H : Type} {enc : TypeId × Value → H} {P : Program} {w : World} {sp : Nat → Bool} : ∀ {ns : List String} {gs : List (DataW H)} {ps : List MemPlace}, DataW.TrodVars enc P w sp ns gs ps → gs.length = ns.length
  | [], [], _, _ => rfl
  | [], _ :: _, _, h => h.elim
  | _ :: _, [], _, h => h.elim
  | _ :: _, _ :: _, _, h => by
    obtain ⟨g, t, cs, fuel, p, q, h1, h2, h3, h4, hs, e⟩ := h
    simp [vars_len hs]

set_option maxRecDepth 100000 in
theorem lifted (os : Os) (started : os.Started) (H : Type) (enc : TypeId × Value → H) :
    ReturnsInHanded {} Tryz.checked os 3 .any (fun w args => (Rows.fnExactForthOKSpec.pre enc Tryz.prog Tryz.f3 [] false w args ∧ laidMetH Tryz.prog listed w) ∧ sizedMet enc Tryz.prog Tryz.f3 (OpenSpec.ofChange Rows.fnExactForthOKSpec) false w args)
      (Rows.fnExactForthOKSpec.post enc Tryz.prog Tryz.f3 false true false false) := by
  refine returnsInHanded_of_change_and (C := Tryz.checked) (X := fun w _ => laidMetH Tryz.prog listed w) (fun _ _ _ hh h => h.of_heap hh) own started (by kernel_rfl) Tryz.func3
    (ChangeSpec.witness_shaped (enc := enc) (C := Tryz.checked) (os := os) (X := fun w _ => laidMetH Tryz.prog listed w) false (World.doorLaid Tryz.prog 53 os) #[.agg #[.slice none 0 0, .slice none 0 0, .slice none 0 0, .slice none 0 0, .slice none 0 0, .int .i64 0, .int .i64 0, .string ByteArray.empty, .slice none 0 0, .slice none 0 0, .slice none 0 0, .int .i64 0, .slice none 0 0, .slice none 0 0, .int .i64 0, .int .i64 0, .slice none 0 0, .bool false, .string ByteArray.empty, .slice none 0 0]] 8 rfl (World.shaped_of_RefB (by kernel_rfl) (by kernel_rfl)) (by kernel_rfl) (by kernel_rfl) (by kernel_rfl) (door_met os _)) ?_
  intro W base args ds gs before hval0 hW _ _ hL _
  have hval : ∀ (j : Nat) t v, Tryz.f3.params[j]? = some t → args[j]? = some v → Value.okWide Tryz.prog W .any base t v := hval0
  have hW' := hW
  obtain ⟨p, q, hA0, hV0, rfl, hfz, hnd⟩ := hW
  have hA : DataW.TrodAll enc Tryz.prog W 0 (fun _ => true) true Tryz.f3.params.toList args.toList ds p := hA0
  have hV : DataW.TrodVars enc Tryz.prog W (fun _ => true) ["loop.example/g00787/impl.kernelEnds", "loop.example/g00787/impl.kernelNames"] gs q := hV0
  rw [Tryz.params3] at hA hval
  obtain ⟨v0, vs0, d0, ds0, p0, q0, hargs, rfl, rfl, h0, r0⟩ := trodAll_cons hA
  obtain ⟨rfl, rfl, rfl⟩ := trodAll_nil r0
  obtain rfl : args = #[v0] := by cases args; simp_all
  obtain ⟨gv0, gv1, rfl⟩ : ∃ gv0 gv1, gs = [gv0, gv1] := by
    have hl := vars_len hV
    match gs, hl with
    | [gv0, gv1], _ => exact ⟨gv0, gv1, rfl⟩
  have k0 := h0
  have lt0 : ∀ x ∈ p0, x.block < W.heap.size := by obtain ⟨m, hm⟩ := k0; exact DataW.trod_lt m _ _ _ hm
  obtain ⟨D0, w0⟩ := open_forth (hval 0 36 v0 rfl rfl) h0
  have hfact := of_laid hL
  clear hA0 hV0 hval0
  refine (walk v0 D0 W w0 hfact).mono fun e W' ⟨he, bel⟩ => ?_
  subst he
  exact ⟨_, rfl, _, _, _, [], _, _, hW', trodAll_mk1 (shut_bool Tryz.underlying4 _), (trodAll_cons_mk (Below.trod laidOut (by kernel_rfl) (of_decide_eq_true (by kernel_rfl)) k0 bel lt0) trodAll_mk0), Below.trodVars laidOut bel (by kernel_rfl) hV, bel.frame _, fun h => by cases h⟩

theorem and_intro {a b : Bool} (ha : a = true) (hb : b = true) : (a && b) = true := by rw [ha, hb]; rfl

set_option maxRecDepth 100000 in
set_option maxHeartbeats 8000000 in
theorem closed : joinedFacts Tryz.prog 3 Tryz.f3 Rows.fnExactForthOKSpec Rows.fnExactForthOKRow = true := by
  unfold joinedFacts
  repeat' (with_reducible refine and_intro ?_ ?_)
  all_goals as_aux_lemma => kernel_rfl

theorem over : Rows.FnExactForthOKSaid :=
  OpenClaim.holds_of_wide 3 Tryz.f3 rfl rfl rfl rfl rfl rfl rfl ⟨rfl, rfl, rfl, rfl, rfl⟩ rfl rfl rfl rfl rfl (by kernel_rfl) Tryz.func3 closed
    (of_decide_eq_true (by kernel_rfl)) (by unfold Func.isWrapper; first | (rw [if_pos (by decide +kernel)]; kernel_rfl) | (rw [if_neg (by decide +kernel)]; exact ⟨rfl, rfl⟩))
    (fun os started H enc _ => lifted os started H enc)

/-- The statement: the tied card. -/
theorem proved : Rows.FnExactForthOKCardSaid :=
  Claim7.holds_tied_plain_at .later [] [.data, .data] true (true, "040dfef8b6dd789b16104e7e41f69202df3a530845632ec4bd72ba64af32fcb5") false
    over (fun _ h => by cases h) (by kernel_rfl) (fun _ h => by cases h) fnExactForthOK_row_tie rfl ⟨rfl, rfl⟩ (by kernel_rfl) rfl
    (fun f fn hf hfn => by
      obtain rfl : f = 3 := Option.some.inj ((show Tryz.prog.funcNamed "loop.example/g00787/laws.FnExactForthOK" = some 3 by kernel_rfl).symm.trans hf) |>.symm
      obtain rfl : fn = Tryz.f3 := (Option.some.inj (Tryz.func3.symm.trans hfn)).symm
      exact ⟨by kernel_rfl, fun j t ht => by
        rw [Tryz.params3] at ht
        have hm : t ∈ [36] := by simpa using Array.mem_of_getElem? ht
        have hall : ([36].all fun u => !Tryz.prog.wantsStandIn u) = true := by kernel_rfl
        exact (show Tryz.prog.wantsStandIn t = false by simpa using List.all_eq_true.1 hall t hm)⟩)
    (by kernel_rfl)
#print axioms proved
end Go.Proofs.YthnbaeamekolmaaGreatDoor.fnExactForthOK
