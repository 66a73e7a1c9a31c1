/- laws.FnExactAddWord returns true at every list of words and every word: impl.AddWord and spec.AddWord give the same list, number and code; impl writes into no argument, and what it hands back owns its memory. No condition but the card's: the two listed tables are tied to the program's text (a pruned copy of the project). -/
import Derived.Test.YtdinnhebaldnaaaDoorRows
import Derived.Test.YtdinnhebaldnaaaDoorTie
import Derived.Test.YtdinnhebaldnaaaDoorCards
import Derived.Test.YtdinnhebaldnaaaDoorWdL
import Derived.Test.YtdinnhebaldnaaaDoorAddC
import Derived.Deep.RegionHeld3
import Derived.WalkKit
import Derived.ProofKit
import Derived.OpenShut
import Derived.ShutString
import Derived.ChangeOld
import Derived.Below
import Derived.LaidMore
import Derived.Stop.Joined
import Derived.ChangeVars
import Derived.WalkSmall
import Derived.SevenTiedAt
import Derived.OpenVars
namespace Go.Proofs.YtdinnhebaldnaaaDoor.fnExactAddWord
open Go.ChangeShapes Go.WideShapes Go.ChangeAt Go.RowKit
open Go.ChangeMaps (open_string shut_string)
set_option linter.unusedSimpArgs false
set_option linter.unusedVariables false

theorem own : ownKnob Tryd.prog.godebug = none := by kernel_rfl
theorem laidOut : laidOutB Tryd.prog = true := by kernel_rfl

/-- What the row lists. -/
def listed : List (String × DataW Unit) := [("loop.example/g00787/impl.kernelNames", Rows.laid_loop_example_g00787_impl_kernelNames), ("loop.example/g00787/impl.kernelEnds", Rows.laid_loop_example_g00787_impl_kernelEnds)]

/-- The door's own heap meets the condition. -/
theorem door_met (os : Os) (args : Array Value) : laidMetH Tryd.prog listed ((World.doorLaid Tryd.prog 19 os).forCall (fun _ _ => 0) ⟨#[], args, []⟩).memory :=
  laidMetH_of_parts3 (fuel := 8) (laidMet_of_run' 8 (by kernel_rfl) (by kernel_rfl)) (by kernel_rfl) (by kernel_rfl)

/-- What the condition gives the walk. -/
theorem of_laid {w : World} (h : laidMetH Tryd.prog listed w) : Tabs w := by
  rw [MakeChecks.laidMetH_plain _ _ _ (by kernel_rfl)] at h
  obtain ⟨ps, ⟨g0, t0, cs0, f0, p0, q0, hg0, ht0, hv0, hd0, ⟨g1, t1, cs1, f1, p1, q1, hg1, ht1, hv1, hd1, _, _⟩, _⟩, _, _⟩ := h
  obtain rfl := Option.some.inj ((show Tryd.prog.globalNamed "loop.example/g00787/impl.kernelNames" = some 1 by kernel_rfl).symm.trans hg0)
  obtain rfl := Option.some.inj ((show Tryd.prog.globalNamed "loop.example/g00787/impl.kernelEnds" = some 0 by kernel_rfl).symm.trans hg1)
  obtain rfl := Option.some.inj ((show (Tryd.prog.globals[1]?).map (·.type) = some 75 by kernel_rfl).symm.trans ht0)
  obtain rfl := Option.some.inj ((show (Tryd.prog.globals[0]?).map (·.type) = some 74 by kernel_rfl).symm.trans ht1)
  refine ⟨fun i hi => ?_, fun j hj => ?_⟩
  · have hs := nums_of_trod (L := [0, 52, 56, 62, 66, 83]) Tryd.underlying74 Tryd.underlying3 (by kernel_rfl) hd1 i hi
    rw [World.var?_cell hg1 hv1 i, ← Array.getElem?_toList, hs]
    match i, hi with
    | 0, _ => rfl
    | 1, _ => rfl
    | 2, _ => rfl
    | 3, _ => rfl
    | 4, _ => rfl
    | 5, _ => rfl
  · have hs := strs_of_trod (L := knames) Tryd.underlying75 Tryd.underlying9 (by kernel_rfl) hd0 j hj
    rw [World.var?_cell hg0 hv0 j, ← Array.getElem?_toList]
    exact hs

theorem walk (v0 : Value) (D0 : List Wd) (v1 : Value) (D1 : Wd) (w : World) (w0 : WdsL w v0 D0) (w1 : WdIn w v1 D1) (hl : Tabs w) :
    Calls Tryd.prog 7 #[v0, v1] w fun e w' => e = .returned (.bool true) ∧ Below w.heap.size w w' := by
  have HT := Lib.hid hl
  have HL := Lib.hid w0
  obtain ⟨A0, c0, rfl, hlen, _⟩ := wdsL_form w0
  obtain ⟨rfl, hx⟩ := w1
  have HX := Lib.hid hx
  clear hl w0 hx
  have BX : Hid (∀ cur, Below (w.alloc (.cells #[.string D1.n, .int .i64 D1.k, .int .i64 D1.v] 45)).heap.size (w.alloc (.cells #[.string D1.n, .int .i64 D1.k, .int .i64 D1.v] 45)) cur → cur.cell? ⟨w.heap.size, 0, none⟩ = some (.string D1.n) ∧ cur.cell? ⟨w.heap.size, 1, none⟩ = some (.int .i64 D1.k) ∧ cur.cell? ⟨w.heap.size, 2, none⟩ = some (.int .i64 D1.v)) := Lib.hid fun cur h => box_cells h
  have BW : Hid (Below w.heap.size w (w.alloc (.cells #[.string D1.n, .int .i64 D1.k, .int .i64 D1.v] 45))) := Lib.hid (below_alloc (Below.refl _ _) _)
  have zW : w.heap.size < (w.alloc (.cells #[.string D1.n, .int .i64 D1.k, .int .i64 D1.v] 45)).heap.size := by simp
  go_enter Tryd.func7, Tryd.ntmps7
  go_wp2_with fail
  generalize hW : w.alloc (.cells #[.string D1.n, .int .i64 D1.k, .int .i64 D1.v] 45) = V at *
  clear hW
  refine (szWordS_any _ D0 _ (wdsL_below HL.out BW.out)).mono ?_
  rintro e m1 ⟨r, rfl, hr, hb⟩
  have C1 : Hid (Below V.heap.size V m1) := Lib.hid hb
  clear hb
  rcases hr with rfl | ⟨h0, h1, hs⟩
  · go_wp2
    go_ret
    exact ⟨rfl, below_step BW.out C1.out⟩
  have HS := Lib.hid hs
  clear hs
  obtain ⟨x0, x1, x2⟩ := BX.out _ C1.out
  have zl : w.heap.size < m1.heap.size := by have := C1.out.size; omega
  go_wp2_with fail
  clear x0 x1 x2
  refine (szWord_any D1 r _ h0 h1 HX.out).mono ?_
  rintro e m2 ⟨rfl, hb⟩
  have C2 : Hid (Below V.heap.size V m2) := Lib.hid (below_step C1.out hb)
  clear hb C1
  by_cases hneg : r - (D1.n.size : Int) < 0
  · rw [if_pos hneg]
    clear hneg
    go_wp2
    go_ret
    exact ⟨rfl, below_step BW.out C2.out⟩
  rw [if_neg hneg]
  generalize hz : (D1.n.size : Int) = z at *
  clear hz
  have SP : Hid (∀ v W, Wds W v D0 → Calls Tryd.prog 13 #[v, .agg #[.string D1.n, .int .i64 D1.k, .int .i64 D1.v]] W (AddOf W (addF D0 D1))) := Lib.hid fun v W h => sAdd_any v D0 D1 W h HX.out
  have IP : Hid (∀ v W, Wds W v D0 → Tabs W → Calls Tryd.prog 12 #[v, .agg #[.string D1.n, .int .i64 D1.k, .int .i64 D1.v]] W (AddOf W (addF D0 D1))) := Lib.hid fun v W h ht => iAdd_any v D0 D1 W h HX.out ht
  have hrl : (addF D0 D1).1.length ≤ 1048577 := by
    have := HS.out.1
    unfold addF
    (repeat' split) <;> simp <;> omega
  generalize addF D0 D1 = p at *
  obtain ⟨P, p1, p2⟩ := p
  simp only at hrl
  have t1 : (p1 != p1) = false := by simp
  have t2 : (p2 != p2) = false := by simp
  obtain ⟨x0, x1, x2⟩ := BX.out _ C2.out
  have zl2 : w.heap.size < m2.heap.size := by have := C2.out.size; omega
  go_wp2_with fail
  go_region_held3 (fun w' => w'.cell? ⟨w.heap.size, 0, none⟩ = some (.string D1.n) ∧ w'.cell? ⟨w.heap.size, 1, none⟩ = some (.int .i64 D1.k) ∧ w'.cell? ⟨w.heap.size, 2, none⟩ = some (.int .i64 D1.v))
    (first | exact ⟨x0, x1, x2⟩ | exact BX.out _ CS | exact BX.out _ CT | exact BX.out _ CA)
    (first
      | (go_at_call 28; refine (toWordS_any _ D0 _ (wdsL_below HL.out (below_step BW.out (by first | exact CT | exact C2.out.drew | exact C2.out))) HS.out.1).mono ?_; rintro e wA ⟨uA, rfl, hu, _, hbA⟩; have CA : Below V.heap.size V wA := (by first | exact below_step CT hbA | exact below_step C2.out.drew hbA | exact below_step C2.out hbA))
      | (go_at_call 31; refine (toWord_any D1 _).mono ?_; rintro e wT ⟨rfl, hbT⟩; have CT : Below V.heap.size V wT := (by first | exact below_step CA hbT | exact below_step C2.out.drew hbT | exact below_step C2.out hbT); try (have UT := wrow_below hu hbT))
      | (go_at_call 13; refine (SP.out _ _ (by first | exact wrow_wds UT | exact wrow_wds hu)).mono ?_; rintro e wS ⟨vS, rfl, hrS, hbS⟩; have CS : Below V.heap.size V wS := (by first | exact below_step CT hbS | exact below_step CA hbS)))
  have S3 := Lib.hid hrS
  have C3 := Lib.hid CS
  clear hrS CS hbS UT hu CT CA hbT hbA x0 x1 x2 C2
  go_wp2_with fail
  refine (toWordS_any _ D0 _ (wdsL_below HL.out (below_step BW.out C3.out)) HS.out.1).mono ?_
  rintro e m4 ⟨uX, rfl, hu, _, hb⟩
  have C4 := Lib.hid (below_step C3.out hb)
  have S4 := Lib.hid (wrow_below S3.out hb)
  have X4 := Lib.hid hu
  have ASX := Lib.hid (wrow_before S3.out hu (Nat.le_refl _))
  have zV : V.heap.size ≤ wS.heap.size := C3.out.size
  clear hb hu S3
  obtain ⟨x0, x1, x2⟩ := BX.out _ C4.out
  have zl4 : w.heap.size < m4.heap.size := by have := C4.out.size; omega
  go_wp2_with fail
  clear x0 x1 x2
  refine (toWord_any D1 _).mono ?_
  rintro e m5 ⟨rfl, hb⟩
  have C5 := Lib.hid (below_step C4.out hb)
  have S5 := Lib.hid (wrow_below S4.out hb)
  have X5 := Lib.hid (wrow_below X4.out hb)
  have z45 := hb.size
  clear hb S4
  go_wp2_with fail
  refine (IP.out _ _ (wrow_wds X5.out) (tabs_below HT.out (below_step BW.out C5.out))).mono ?_
  rintro e m6 ⟨vG, rfl, hg, hb⟩
  have C6 := Lib.hid (below_step C5.out hb)
  have S6 := Lib.hid (wrow_below S5.out hb)
  have X6 := Lib.hid (wrow_below X5.out hb)
  have G6 := Lib.hid hg
  have AXG := Lib.hid (wrow_before X5.out hg (Nat.le_refl _))
  have ASG := Lib.hid (wrow_before S5.out hg (Nat.le_refl _))
  have zG : V.heap.size ≤ m5.heap.size := C5.out.size
  clear hb hg S5 X5 X4
  go_wp2_with fail
  refine (eqWordS_same _ _ P _ (wrow_wds G6.out) (wrow_wds S6.out)).mono ?_
  rintro e m7 ⟨rfl, hb⟩
  have C7 := Lib.hid (below_step C6.out hb)
  have S7 := Lib.hid (wrow_below S6.out hb)
  have X7 := Lib.hid (wrow_below X6.out hb)
  have G7 := Lib.hid (wrow_below G6.out hb)
  clear hb S6 X6 G6
  go_wp2_with fail
  refine (toWordS_any _ D0 _ (wdsL_below HL.out (below_step BW.out C7.out)) HS.out.1).mono ?_
  rintro e m8 ⟨uY, rfl, hu, _, hb⟩
  have C8 := Lib.hid (below_step C7.out hb)
  have S8 := Lib.hid (wrow_below S7.out hb)
  have X8 := Lib.hid (wrow_below X7.out hb)
  have G8 := Lib.hid (wrow_below G7.out hb)
  have Y8 := Lib.hid hu
  clear hb hu S7 X7 G7
  go_wp2_with fail
  refine (eqWordS_same _ _ D0 _ (wrow_wds X8.out) (wrow_wds Y8.out)).mono ?_
  rintro e m9 ⟨rfl, hb⟩
  have C9 := Lib.hid (below_step C8.out hb)
  have S9 := Lib.hid (wrow_below S8.out hb)
  have X9 := Lib.hid (wrow_below X8.out hb)
  have G9 := Lib.hid (wrow_below G8.out hb)
  clear hb S8 X8 G8 Y8
  have hd0 : D0.length ≤ 1048576 := HS.out.1
  go_wp2_with fail
  refine (markWordS_any _ _ D0 _ X9.out (by omega)).mono ?_
  rintro e ma ⟨rfl, _, hg⟩
  have CA : Hid (Below V.heap.size V ma) := Lib.hid (below_marks C9.out hg X9.out zV)
  have SA := Lib.hid (wrow_apart S9.out hg (fun g h1 h2 => ASX.out g h1 h2))
  have GA := Lib.hid (wrow_apart G9.out hg (fun g h1 h2 => AXG.out g h2 h1))
  clear hg S9 G9 X9
  have kk : decide ((((1 : Nat) : Int) + 3 * (D0.length : Int)) < 0) = false := by simp; omega
  have kk0 : (0 : Int) ≤ ((1 : Nat) : Int) + 3 * (D0.length : Int) := by omega
  go_wp2_with fail
  refine (eqWordS_same _ _ P _ (wrow_wds GA.out) (wrow_wds SA.out)).mono ?_
  rintro e mb ⟨rfl, hb⟩
  have Cb := Lib.hid (below_step CA.out hb)
  have Sb := Lib.hid (wrow_below SA.out hb)
  have Gb := Lib.hid (wrow_below GA.out hb)
  clear hb SA GA
  go_wp2_with fail
  refine (markWordS_any _ _ P _ Gb.out (by omega)).mono ?_
  rintro e mc ⟨rfl, hm, hg⟩
  have Cc : Hid (Below V.heap.size V mc) := Lib.hid (below_marks Cb.out hg Gb.out zG)
  have Sc := Lib.hid (wrow_apart Sb.out hg (fun g h1 h2 => ASG.out g h1 h2))
  have Gc := Lib.hid hm
  clear hm hg Sb Gb kk kk0
  go_wp2_with fail
  refine (heldWordS_any _ P.length _ (wrow_wds Gc.out) (by omega)).mono ?_
  rintro e md ⟨rfl, hb⟩
  have Cd := Lib.hid (below_step Cc.out hb)
  have Sd := Lib.hid (wrow_below Sc.out hb)
  have Gd := Lib.hid (wrow_below Gc.out hb)
  clear hb Sc Gc
  generalize hm : (1 + 3 * (P.length : Int)) = m at *
  have kp : ¬ m < 0 := by omega
  have kd : decide (m < 0) = false := by simp; omega
  have kr : (m != m) = false := by simp
  have HM := Lib.hid hm
  have Ce : Hid (Below V.heap.size V md) := Cd
  have Se : Hid (WRow md wT.heap.size vS P) := Sd
  have Ge := Gd
  clear hm Cd Sd Gd
  obtain ⟨x0, x1, x2⟩ := BX.out _ Ce.out
  have zle : w.heap.size < md.heap.size := by have := Ce.out.size; omega
  go_wp2_with fail
  go_region_held3 (fun w' => w'.cell? ⟨w.heap.size, 0, none⟩ = some (.string D1.n) ∧ w'.cell? ⟨w.heap.size, 1, none⟩ = some (.int .i64 D1.k) ∧ w'.cell? ⟨w.heap.size, 2, none⟩ = some (.int .i64 D1.v))
    (first | exact ⟨x0, x1, x2⟩ | exact BX.out _ CS | exact BX.out _ CT | exact BX.out _ CU)
    (first
      | (go_at_call 28; refine (toWordS_any _ D0 _ (wdsL_below HL.out (below_step BW.out (by first | exact CT | exact Ce.out.drew | exact Ce.out))) HS.out.1).mono ?_; rintro e wA ⟨uA, rfl, hu, _, hbA⟩; have GU := (by first | exact wrow_below GT hbA | exact wrow_below (wrow_drew Ge.out) hbA); have WU := (by first | exact wrow_below WT hbA | exact wrow_below (wrow_drew Se.out) hbA); have CU : Below V.heap.size V wA := (by first | exact below_step CT hbA | exact below_step Ce.out.drew hbA | exact below_step Ce.out hbA))
      | (go_at_call 31; refine (toWord_any D1 _).mono ?_; rintro e wT ⟨rfl, hbT⟩; have GT := (by first | exact wrow_below GU hbT | exact wrow_below (wrow_drew Ge.out) hbT); have WT := (by first | exact wrow_below WU hbT | exact wrow_below (wrow_drew Se.out) hbT); have CT : Below V.heap.size V wT := (by first | exact below_step CU hbT | exact below_step Ce.out.drew hbT | exact below_step Ce.out hbT); try (have UT := wrow_below hu hbT))
      | (go_at_call 12; refine (IP.out _ _ (by first | exact wrow_wds UT | exact wrow_wds hu) (tabs_below HT.out (below_step BW.out (by first | exact CT | exact CU)))).mono ?_; rintro e wS ⟨vS, rfl, hrS, hbS⟩; have GS := (by first | exact wrow_below GT hbS | exact wrow_below GU hbS); have WS := (by first | exact wrow_below WT hbS | exact wrow_below WU hbS); have CS : Below V.heap.size V wS := (by first | exact below_step CT hbS | exact below_step CU hbS)))
  have Hf := Lib.hid hrS
  have Gf := Lib.hid GS
  have Sf := Lib.hid WS
  have Cf := Lib.hid CS
  clear hrS GS WS CS hbS x0 x1 x2
  go_wp2_with fail
  refine (eqWordS_same _ _ P _ (wrow_wds Hf.out) (wrow_wds Sf.out)).mono ?_
  rintro e mg ⟨rfl, hb⟩
  have Cg := Lib.hid (below_step Cf.out hb)
  have Gg := Lib.hid (wrow_below Gf.out hb)
  clear hb
  go_wp2_with fail
  refine (heldWordS_any _ P.length _ (wrow_wds Gg.out) (by omega)).mono ?_
  rintro e mh ⟨rfl, hb⟩
  rw [HM.out]
  have Ch := Lib.hid (below_step Cg.out hb)
  clear hb
  go_wp2
  go_ret
  exact ⟨rfl, below_step BW.out Ch.out⟩

theorem vars_len {H : Type} {enc : TypeId × Value → H} {P : Program} {w : World} {sp : Nat → Bool} : ∀ {ns : List String} {gs : List (DataW H)} {ps : List MemPlace}, DataW.TrodVars enc P w sp ns gs ps → gs.length = ns.length
  | [], [], _, _ => rfl
  | [], _ :: _, _, h => h.elim
  | _ :: _, [], _, h => h.elim
  | _ :: _, _ :: _, _, h => by
    obtain ⟨g, t, cs, fuel, p, q, h1, h2, h3, h4, hs, e⟩ := h
    simp [vars_len hs]

set_option maxRecDepth 100000 in
theorem lifted (os : Os) (started : os.Started) (H : Type) (enc : TypeId × Value → H) :
    ReturnsInHanded {} Tryd.checked os 7 .any (fun w args => (Rows.fnExactAddWordSpec.pre enc Tryd.prog Tryd.f7 [] false w args ∧ laidMetH Tryd.prog listed w) ∧ sizedMet enc Tryd.prog Tryd.f7 (OpenSpec.ofChange Rows.fnExactAddWordSpec) false w args)
      (Rows.fnExactAddWordSpec.post enc Tryd.prog Tryd.f7 false true false false) := by
  refine returnsInHanded_of_change_and (C := Tryd.checked) (X := fun w _ => laidMetH Tryd.prog listed w) (fun _ _ _ hh h => h.of_heap hh) own started (by kernel_rfl) Tryd.func7
    (ChangeSpec.witness_shaped (enc := enc) (C := Tryd.checked) (os := os) (X := fun w _ => laidMetH Tryd.prog listed w) false (World.doorLaid Tryd.prog 19 os) #[.slice none 0 0, .agg #[.string ByteArray.empty, .int .i64 0, .int .i64 0]] 8 rfl (World.shaped_of_RefB (by kernel_rfl) (by kernel_rfl)) (by kernel_rfl) (by kernel_rfl) (by kernel_rfl) (door_met os _)) ?_
  intro W base args ds gs before hval0 hW _ _ hL _
  have hval : ∀ (j : Nat) t v, Tryd.f7.params[j]? = some t → args[j]? = some v → Value.okWide Tryd.prog W .any base t v := hval0
  have hW' := hW
  obtain ⟨p, q, hA0, hV0, rfl, hfz, hnd⟩ := hW
  have hA : DataW.TrodAll enc Tryd.prog W 0 (fun _ => true) true Tryd.f7.params.toList args.toList ds p := hA0
  have hV : DataW.TrodVars enc Tryd.prog W (fun _ => true) ["loop.example/g00787/impl.kernelEnds", "loop.example/g00787/impl.kernelNames"] gs q := hV0
  rw [Tryd.params7] at hA hval
  obtain ⟨v0, vs0, d0, ds0, p0, q0, hargs, rfl, rfl, h0, r0⟩ := trodAll_cons hA
  obtain ⟨v1, vs1, d1, ds1, p1, q1, rfl, rfl, rfl, h1, r1⟩ := trodAll_cons r0
  obtain ⟨rfl, rfl, rfl⟩ := trodAll_nil r1
  obtain rfl : args = #[v0, v1] := by cases args; simp_all
  obtain ⟨gv0, gv1, rfl⟩ : ∃ gv0 gv1, gs = [gv0, gv1] := by
    have hl := vars_len hV
    match gs, hl with
    | [gv0, gv1], _ => exact ⟨gv0, gv1, rfl⟩
  have k0 := h0
  have lt0 : ∀ x ∈ p0, x.block < W.heap.size := by obtain ⟨m, hm⟩ := k0; exact DataW.trod_lt m _ _ _ hm
  obtain ⟨D0, w0⟩ := open_words (hval 0 40 v0 rfl rfl) h0
  have k1 := h1
  have lt1 : ∀ x ∈ p1, x.block < W.heap.size := by obtain ⟨m, hm⟩ := k1; exact DataW.trod_lt m _ _ _ hm
  obtain ⟨D1, w1⟩ := open_word (hval 1 45 v1 rfl rfl) h1
  have hfact := of_laid hL
  clear hA0 hV0 hval0
  refine (walk v0 D0 v1 D1 W w0 w1 hfact).mono fun e W' ⟨he, bel⟩ => ?_
  subst he
  exact ⟨_, rfl, _, _, _, [], _, _, hW', trodAll_mk1 (shut_bool Tryd.underlying4 _), (trodAll_cons_mk (Below.trod laidOut (by kernel_rfl) (of_decide_eq_true (by kernel_rfl)) k0 bel lt0) (trodAll_cons_mk (Below.trod laidOut (by kernel_rfl) (of_decide_eq_true (by kernel_rfl)) k1 bel lt1) trodAll_mk0)), Below.trodVars laidOut bel (by kernel_rfl) hV, bel.frame _, fun h => by cases h⟩

theorem over : Rows.FnExactAddWordSaid :=
  OpenClaim.holds_of_wide 7 Tryd.f7 rfl rfl rfl rfl rfl rfl rfl ⟨rfl, rfl, rfl, rfl, rfl⟩ rfl rfl rfl rfl rfl (by kernel_rfl) Tryd.func7 (by kernel_rfl)
    (of_decide_eq_true (by kernel_rfl)) (by unfold Func.isWrapper; first | (rw [if_pos (by decide +kernel)]; kernel_rfl) | (rw [if_neg (by decide +kernel)]; exact ⟨rfl, rfl⟩))
    (fun os started H enc _ => lifted os started H enc)

/-- The statement: the tied card. -/
theorem proved : Rows.FnExactAddWordCardSaid :=
  Claim7.holds_tied_plain_at .later [] [.data, .data] true (true, "7d88f1793be201ab4ef827b22e657b9a9f1e047cc377a8ca31dd101bfe8ee882") false
    over (fun _ h => by cases h) (by kernel_rfl) (fun _ h => by cases h) fnExactAddWord_row_tie rfl ⟨rfl, rfl⟩ (by kernel_rfl) rfl
    (fun f fn hf hfn => by
      obtain rfl : f = 7 := Option.some.inj ((show Tryd.prog.funcNamed "loop.example/g00787/laws.FnExactAddWord" = some 7 by kernel_rfl).symm.trans hf) |>.symm
      obtain rfl : fn = Tryd.f7 := (Option.some.inj (Tryd.func7.symm.trans hfn)).symm
      exact ⟨by kernel_rfl, fun j t ht => by
        rw [Tryd.params7] at ht
        have hm : t ∈ [40, 45] := by simpa using Array.mem_of_getElem? ht
        have hall : ([40, 45].all fun u => !Tryd.prog.wantsStandIn u) = true := by kernel_rfl
        exact (show Tryd.prog.wantsStandIn t = false by simpa using List.all_eq_true.1 hall t hm)⟩)
    (by kernel_rfl)
#print axioms proved
end Go.Proofs.YtdinnhebaldnaaaDoor.fnExactAddWord
