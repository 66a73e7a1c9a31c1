/- laws.FnExactNewForth returns true: impl.NewForth and spec.NewForth give the same Forth, and what impl hands back owns its memory. No condition but the card's: the two listed tables are tied to the program's text (a pruned copy of the project). -/
import Derived.Test.YthnbaeamekolmaaDoorRows
import Derived.Test.YthnbaeamekolmaaDoorTie
import Derived.Test.YthnbaeamekolmaaDoorCards
import Derived.Test.YthnbaeamekolmaaDoorQnD
import Derived.Test.YthnbaeamekolmaaDoorQnB
import Derived.Deep.RegionHeld3
import Derived.WalkKit
import Derived.ProofKit
import Derived.OpenShut
import Derived.ShutString
import Derived.ChangeOld
import Derived.Below
import Derived.LaidMore
import Derived.Stop.Joined
import Derived.ChangeVars
import Derived.WalkSmall
import Derived.SevenTiedAt
import Derived.OpenVars
namespace Go.Proofs.YthnbaeamekolmaaDoor.fnExactNewForth
open Go.ChangeShapes Go.WideShapes Go.ChangeAt Go.RowKit
open Go.ChangeMaps (open_string shut_string)
set_option linter.unusedSimpArgs false
set_option linter.unusedVariables false

theorem own : ownKnob Tryd.prog.godebug = none := by kernel_rfl
theorem laidOut : laidOutB Tryd.prog = true := by kernel_rfl

/-- What the row lists. -/
def listed : List (String × DataW Unit) := [("loop.example/g00787/impl.kernelNames", Rows.laid_loop_example_g00787_impl_kernelNames), ("loop.example/g00787/impl.kernelEnds", Rows.laid_loop_example_g00787_impl_kernelEnds)]

set_option maxRecDepth 100000 in
theorem small_newMc : SmallM newMc := by
  refine ⟨⟨by decide, by decide⟩, by decide, by unfold SmallD newMc newDt; decide, by unfold SmallH newMc newHt; decide, by decide⟩

/-- The door's own heap meets the condition. -/
theorem door_met (os : Os) (args : Array Value) : laidMetH Tryd.prog listed ((World.doorLaid Tryd.prog 19 os).forCall (fun _ _ => 0) ⟨#[], args, []⟩).memory :=
  laidMetH_of_parts3 (fuel := 8) (laidMet_of_run' 8 (by kernel_rfl) (by kernel_rfl)) (by kernel_rfl) (by kernel_rfl)

/-- What the condition gives the walk. -/
theorem of_laid {w : World} (h : laidMetH Tryd.prog listed w) : Tabs w := by
  rw [MakeChecks.laidMetH_plain _ _ _ (by kernel_rfl)] at h
  obtain ⟨ps, ⟨g0, t0, cs0, f0, p0, q0, hg0, ht0, hv0, hd0, ⟨g1, t1, cs1, f1, p1, q1, hg1, ht1, hv1, hd1, _, _⟩, _⟩, _, _⟩ := h
  obtain rfl := Option.some.inj ((show Tryd.prog.globalNamed "loop.example/g00787/impl.kernelNames" = some 1 by kernel_rfl).symm.trans hg0)
  obtain rfl := Option.some.inj ((show Tryd.prog.globalNamed "loop.example/g00787/impl.kernelEnds" = some 0 by kernel_rfl).symm.trans hg1)
  obtain rfl := Option.some.inj ((show (Tryd.prog.globals[1]?).map (·.type) = some 83 by kernel_rfl).symm.trans ht0)
  obtain rfl := Option.some.inj ((show (Tryd.prog.globals[0]?).map (·.type) = some 82 by kernel_rfl).symm.trans ht1)
  refine ⟨fun i hi => ?_, fun j hj => ?_⟩
  · have hs := nums_of_trod (L := [0, 52, 56, 62, 66, 83]) Tryd.underlying82 Tryd.underlying3 (by kernel_rfl) hd1 i hi
    rw [World.var?_cell hg1 hv1 i, ← Array.getElem?_toList, hs]
    match i, hi with
    | 0, _ => rfl
    | 1, _ => rfl
    | 2, _ => rfl
    | 3, _ => rfl
    | 4, _ => rfl
    | 5, _ => rfl
  · have hs := strs_of_trod (L := knames) Tryd.underlying83 Tryd.underlying9 (by kernel_rfl) hd0 j hj
    rw [World.var?_cell hg0 hv0 j, ← Array.getElem?_toList]
    exact hs

set_option maxRecDepth 100000 in
set_option maxHeartbeats 4000000 in
theorem walk  (w : World)  (hl : Tabs w) :
    Calls Tryd.prog 3 #[] w fun e w' => e = .returned (.bool true) ∧ Below w.heap.size w w' := by
  have HT := Lib.hid hl
  clear hl
  have SN := small_newMc
  have SNM : Hid (∀ W, Calls Tryd.prog 4 #[] W (FNewOf W newMc)) := Lib.hid fun W => sNewForth_any W
  have INM : Hid (∀ W, Tabs W → Calls Tryd.prog 5 #[] W (FNewOf W newMc)) := Lib.hid fun W t => iNewForth_any W t
  generalize newMc = M at *
  go_enter Tryd.func3, Tryd.ntmps3
  go_wp2_with (first | (refine wpList_load_fL rfl _ rfl _ rfl (by assumption) (by assumption) ?_) | (refine wpList_load_fI rfl _ rfl _ rfl (by assumption) (by assumption) ?_) | (refine wpList_store_fI rfl _ _ rfl _ rfl rfl _ (by assumption) ?_) | fail)
  refine (SNM.out _).mono ?_
  rintro e w1 ⟨u1, qcw, rfl, hu, hb⟩
  obtain ⟨cw, rfl, hcw⟩ := foIn_cells (newT_in hu)
  have MU := Lib.hid (fun g (e : Mine (.agg qcw) g) => (newT_mine hu e).2)
  have B1 := Lib.hid (below_alloc hb (.cells cw 36))
  have U1 := Lib.hid (newT_below hu (below_alloc (Below.refl _ _) (.cells cw 36)))
  have X1 := whole_new w1 36 cw
  have B0z : Hid (w.heap.size ≤ w1.heap.size) := Lib.hid hb.size
  have z1 : (w1.alloc (.cells cw 36)).heap.size = w1.heap.size + 1 := by simp
  clear hu hb
  go_wp2_with (first | (refine wpList_load_fL rfl _ rfl _ rfl (by assumption) (by assumption) ?_) | (refine wpList_load_fI rfl _ rfl _ rfl (by assumption) (by assumption) ?_) | (refine wpList_store_fI rfl _ _ rfl _ rfl rfl _ (by assumption) ?_) | fail)
  refine (INM.out _ (tabs_below HT.out B1.out)).mono ?_
  rintro e w2 ⟨u2, qcg, rfl, hu, hb⟩
  obtain ⟨cg, rfl, hcg⟩ := foIn_cells (newT_in hu)
  have MG := Lib.hid (fun g (e : Mine (.agg qcg) g) => newT_mine hu e)
  have y2 : w1.heap.size + 1 ≤ w2.heap.size := by have := hb.size; omega
  have B2 := Lib.hid (below_alloc (below_step B1.out hb) (.cells cg 36))
  have U2 := Lib.hid (newT_below (newT_below U1.out hb) (below_alloc (Below.refl _ _) (.cells cg 36)))
  have X2 := whole_alloc (whole_b hb X1) (.cells cg 36)
  have G2 := Lib.hid (newT_below hu (below_alloc (Below.refl _ _) (.cells cg 36)))
  have Y2 := whole_new w2 36 cg
  clear hu hb X1 U1 B1
  go_wp2_with (first | (refine wpList_load_fL rfl _ rfl _ rfl (by assumption) (by assumption) ?_) | (refine wpList_load_fI rfl _ rfl _ rfl (by assumption) (by assumption) ?_) | (refine wpList_store_fI rfl _ _ rfl _ rfl rfl _ (by assumption) ?_) | fail)
  refine (eqForth_same _ _ (newFo M) _ (newT_in G2.out) (newT_in U2.out)).mono ?_
  rintro e w3 ⟨rfl, hb⟩
  have B3 := Lib.hid (below_step B2.out hb)
  have X3 := whole_b hb X2
  have Y3 := whole_b hb Y2
  have U3 := Lib.hid (newT_below U2.out hb)
  have G3 := Lib.hid (newT_below G2.out hb)
  clear hb B2 X2 Y2 U2 G2
  go_wp2_with (first | (refine wpList_load_fL rfl _ rfl _ rfl (by assumption) (by assumption) ?_) | (refine wpList_load_fI rfl _ rfl _ rfl (by assumption) (by assumption) ?_) | (refine wpList_store_fI rfl _ _ rfl _ rfl rfl _ (by assumption) ?_) | fail)
  refine (markForth_any _ _ M _ _ G3.out SN).mono ?_
  rintro e w4 ⟨rfl, hm, hn⟩
  have B4 := Lib.hid (B3.out.trans (only_below hn B3.out.size (fun k q => by have := MG.out k q; have := B0z.out; omega)))
  have X4 := whole_onl X3 hn (fun q => by have := MG.out _ q; omega)
  have Y4 := whole_onl Y3 hn (fun q => by have := MG.out _ q; omega)
  have U4 := Lib.hid (newT_only U3.out hn fun g e q => by have := MU.out g e; have := MG.out g q; omega)
  have G4 := Lib.hid hm
  clear hn hm B3 X3 Y3 U3 G3
  obtain ⟨N, hN⟩ : ∃ N : Nat, N = 1 + numM M := ⟨_, rfl⟩
  have HM : Hid (∀ v W, FoIn W v (newFo (markM M)) → Calls Tryd.prog 8 #[v, .int .i64 1] W fun e w' => e = .returned (.int .i64 (N : Int)) ∧ Below W.heap.size W w') := Lib.hid fun v W h => by rw [hN]; exact heldForth_any v M W h SN
  rw [← hN]
  clear hN
  have k0 : ¬ (N : Int) < 0 := by omega
  have k1 : ((N : Int) != (N : Int)) = false := by simp
  go_wp2_with (first | (refine wpList_load_fL rfl _ rfl _ rfl (by assumption) (by assumption) ?_) | (refine wpList_load_fI rfl _ rfl _ rfl (by assumption) (by assumption) ?_) | (refine wpList_store_fI rfl _ _ rfl _ rfl rfl _ (by assumption) ?_) | fail)
  refine (HM.out _ _ (newT_in G4.out)).mono ?_
  rintro e w5 ⟨rfl, hb⟩
  have B5 := Lib.hid (below_step B4.out hb)
  have X5 := whole_b hb X4
  have Y5 := whole_b hb Y4
  have U5 := Lib.hid (newT_below U4.out hb)
  have G5 := Lib.hid (newT_below G4.out hb)
  clear hb B4 X4 Y4 U4 G4
  go_wp2_with (first | (refine wpList_load_fL rfl _ rfl _ rfl (by assumption) (by assumption) ?_) | (refine wpList_load_fI rfl _ rfl _ rfl (by assumption) (by assumption) ?_) | (refine wpList_store_fI rfl _ _ rfl _ rfl rfl _ (by assumption) ?_) | fail)
  refine (INM.out _ (tabs_below HT.out B5.out)).mono ?_
  rintro e w6 ⟨u6, qch, rfl, hu, hb⟩
  obtain ⟨ch, rfl, hch⟩ := foIn_cells (newT_in hu)
  have B6 := Lib.hid (below_alloc (below_step B5.out hb) (.cells ch 36))
  have U6 := Lib.hid (newT_below (newT_below U5.out hb) (below_alloc (Below.refl _ _) (.cells ch 36)))
  have G6 := Lib.hid (newT_below (newT_below G5.out hb) (below_alloc (Below.refl _ _) (.cells ch 36)))
  have X6 := whole_alloc (whole_b hb X5) (.cells ch 36)
  have Y6 := whole_alloc (whole_b hb Y5) (.cells ch 36)
  have H6 := Lib.hid (newT_below hu (below_alloc (Below.refl _ _) (.cells ch 36)))
  have Z6 := whole_new w6 36 ch
  clear hu hb X5 Y5 U5 G5 B5
  go_wp2_with (first | (refine wpList_load_fL rfl _ rfl _ rfl (by assumption) (by assumption) ?_) | (refine wpList_load_fI rfl _ rfl _ rfl (by assumption) (by assumption) ?_) | (refine wpList_store_fI rfl _ _ rfl _ rfl rfl _ (by assumption) ?_) | fail)
  refine (eqForth_same _ _ (newFo M) _ (newT_in H6.out) (newT_in U6.out)).mono ?_
  rintro e w7 ⟨rfl, hb⟩
  have B7 := Lib.hid (below_step B6.out hb)
  have G7 := Lib.hid (newT_below G6.out hb)
  have Y7 := whole_b hb Y6
  clear hb X6 Y6 Z6 H6 G6 U6 B6
  go_wp2_with (first | (refine wpList_load_fL rfl _ rfl _ rfl (by assumption) (by assumption) ?_) | (refine wpList_load_fI rfl _ rfl _ rfl (by assumption) (by assumption) ?_) | (refine wpList_store_fI rfl _ _ rfl _ rfl rfl _ (by assumption) ?_) | fail)
  refine (HM.out _ _ (newT_in G7.out)).mono ?_
  rintro e w8 ⟨rfl, hb⟩
  have B8 := Lib.hid (below_step B7.out hb)
  clear hb
  go_wp2
  go_ret
  exact ⟨rfl, B8.out⟩

theorem vars_len {H : Type} {enc : TypeId × Value → H} {P : Program} {w : World} {sp : Nat → Bool} : ∀ {ns : List String} {gs : List (DataW H)} {ps : List MemPlace}, DataW.TrodVars enc P w sp ns gs ps → gs.length = ns.length
  | [], [], _, _ => rfl
  | [], _ :: _, _, h => h.elim
  | _ :: _, [], _, h => h.elim
  | _ :: _, _ :: _, _, h => by
    obtain ⟨g, t, cs, fuel, p, q, h1, h2, h3, h4, hs, e⟩ := h
    simp [vars_len hs]

set_option maxRecDepth 100000 in
theorem lifted (os : Os) (started : os.Started) (H : Type) (enc : TypeId × Value → H) :
    ReturnsInHanded {} Tryd.checked os 3 .any (fun w args => (Rows.fnExactNewForthSpec.pre enc Tryd.prog Tryd.f3 [] false w args ∧ laidMetH Tryd.prog listed w) ∧ sizedMet enc Tryd.prog Tryd.f3 (OpenSpec.ofChange Rows.fnExactNewForthSpec) false w args)
      (Rows.fnExactNewForthSpec.post enc Tryd.prog Tryd.f3 false true false false) := by
  refine returnsInHanded_of_change_and (C := Tryd.checked) (X := fun w _ => laidMetH Tryd.prog listed w) (fun _ _ _ hh h => h.of_heap hh) own started (by kernel_rfl) Tryd.func3
    (ChangeSpec.witness_shaped (enc := enc) (C := Tryd.checked) (os := os) (X := fun w _ => laidMetH Tryd.prog listed w) false (World.doorLaid Tryd.prog 19 os) #[] 8 rfl (World.shaped_of_RefB (by kernel_rfl) (by kernel_rfl)) (by kernel_rfl) (by kernel_rfl) (by kernel_rfl) (door_met os _)) ?_
  intro W base args ds gs before hval0 hW _ _ hL _
  have hval : ∀ (j : Nat) t v, Tryd.f3.params[j]? = some t → args[j]? = some v → Value.okWide Tryd.prog W .any base t v := hval0
  have hW' := hW
  obtain ⟨p, q, hA0, hV0, rfl, hfz, hnd⟩ := hW
  have hA : DataW.TrodAll enc Tryd.prog W 0 (fun _ => true) true Tryd.f3.params.toList args.toList ds p := hA0
  have hV : DataW.TrodVars enc Tryd.prog W (fun _ => true) ["loop.example/g00787/impl.kernelEnds", "loop.example/g00787/impl.kernelNames"] gs q := hV0
  rw [Tryd.params3] at hA hval
  obtain ⟨rfl, rfl, rfl⟩ := trodAll_none hA
  obtain ⟨gv0, gv1, rfl⟩ : ∃ gv0 gv1, gs = [gv0, gv1] := by
    have hl := vars_len hV
    match gs, hl with
    | [gv0, gv1], _ => exact ⟨gv0, gv1, rfl⟩
  have hfact := of_laid hL
  clear hA0 hV0 hval0
  refine (walk  W  hfact).mono fun e W' ⟨he, bel⟩ => ?_
  subst he
  exact ⟨_, rfl, _, _, _, [], _, _, hW', trodAll_mk1 (shut_bool Tryd.underlying4 _), trodAll_mk0, Below.trodVars laidOut bel (by kernel_rfl) hV, bel.frame _, fun h => by cases h⟩

theorem over : Rows.FnExactNewForthSaid :=
  OpenClaim.holds_of_wide 3 Tryd.f3 rfl rfl rfl rfl rfl rfl rfl ⟨rfl, rfl, rfl, rfl, rfl⟩ rfl rfl rfl rfl rfl (by kernel_rfl) Tryd.func3 (by kernel_rfl)
    (of_decide_eq_true (by kernel_rfl)) (by unfold Func.isWrapper; first | (rw [if_pos (by decide +kernel)]; kernel_rfl) | (rw [if_neg (by decide +kernel)]; exact ⟨rfl, rfl⟩))
    (fun os started H enc _ => lifted os started H enc)

/-- The statement: the tied card. -/
theorem proved : Rows.FnExactNewForthCardSaid :=
  Claim7.holds_tied_plain_at .later [] [.data, .data] true (true, "452971e3b5bc24c4c4ab6d9f4e2cfe338baa7f3501d60ff682906df11ffaf50d") false
    over (fun _ h => by cases h) (by kernel_rfl) (fun _ h => by cases h) fnExactNewForth_row_tie rfl ⟨rfl, rfl⟩ (by kernel_rfl) rfl
    (fun f fn hf hfn => by
      obtain rfl : f = 3 := Option.some.inj ((show Tryd.prog.funcNamed "loop.example/g00787/laws.FnExactNewForth" = some 3 by kernel_rfl).symm.trans hf) |>.symm
      obtain rfl : fn = Tryd.f3 := (Option.some.inj (Tryd.func3.symm.trans hfn)).symm
      exact ⟨by kernel_rfl, fun j t ht => by
        rw [Tryd.params3] at ht
        have hm : t ∈ [] := by simpa using Array.mem_of_getElem? ht
        have hall : ([].all fun u => !Tryd.prog.wantsStandIn u) = true := by kernel_rfl
        exact (show Tryd.prog.wantsStandIn t = false by simpa using List.all_eq_true.1 hall t hm)⟩)
    (by kernel_rfl)
#print axioms proved
end Go.Proofs.YthnbaeamekolmaaDoor.fnExactNewForth
