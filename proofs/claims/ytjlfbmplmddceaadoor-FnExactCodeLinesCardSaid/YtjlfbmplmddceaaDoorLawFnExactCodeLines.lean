/- laws.FnExactCodeLines returns true at every list of words, every list of numbers and every number: impl.CodeLines and spec.CodeLines give the same lines and the same code; impl writes into no argument, and what it hands back owns its memory. No condition but the card's: the listed tables are tied to the program's text (a pruned copy of the project). -/
import Derived.Test.YtjlfbmplmddceaaDoorRows
import Derived.Test.YtjlfbmplmddceaaDoorTie
import Derived.Test.YtjlfbmplmddceaaDoorCards
import Derived.Test.YtjlfbmplmddceaaDoorDgL
import Derived.Deep.RegionHeld3
import Derived.Stop.LaidErr
import Derived.WalkKit
import Derived.ProofKit
import Derived.OpenShut
import Derived.ShutString
import Derived.ChangeOld
import Derived.Below
import Derived.LaidMore
import Derived.Stop.Joined
import Derived.ChangeVars
import Derived.WalkSmall
import Derived.SevenTiedAt
import Derived.OpenVars
namespace Go.Proofs.YtjlfbmplmddceaaDoor.fnExactCodeLines
open Go.ChangeShapes Go.WideShapes Go.ChangeAt Go.RowKit
open Go.ChangeMaps (open_string shut_string)
set_option linter.unusedSimpArgs false
set_option linter.unusedVariables false

theorem own : ownKnob Tryd.prog.godebug = none := by kernel_rfl
theorem laidOut : laidOutB Tryd.prog = true := by kernel_rfl

/-- What the row lists. -/
def listed : List (String × DataW Unit) := [("math/bits.deBruijn32tab", Rows.laid_math_bits_deBruijn32tab), ("math/bits.deBruijn64tab", Rows.laid_math_bits_deBruijn64tab), ("internal/strconv.uint64pow10", Rows.laid_internal_strconv_uint64pow10), ("loop.example/g00787/impl.kernelNames", Rows.laid_loop_example_g00787_impl_kernelNames), ("loop.example/g00787/impl.kernelEnds", Rows.laid_loop_example_g00787_impl_kernelEnds)]

/-- The door's own heap meets the condition. -/
theorem door_met (os : Os) (args : Array Value) : laidMetH Tryd.prog listed ((World.doorLaid Tryd.prog 34 os).forCall (fun _ _ => 0) ⟨#[], args, []⟩).memory :=
  laidMetH_of_parts3 (fuel := 8) (laidMet_of_run' 8 (by kernel_rfl) (by kernel_rfl)) (by kernel_rfl) (by kernel_rfl)

/-- What the condition gives the walk. -/
theorem of_laid {w : World} (h : laidMetH Tryd.prog listed w) : TabsI w := by
  rw [MakeChecks.laidMetH_plain _ _ _ (by kernel_rfl)] at h
  unfold listed at h
  have h2 := h.tail.tail
  have h3 := h2.tail
  have e2 : (Rows.laid_internal_strconv_uint64pow10 : DataW Unit) = Lib.tabData .u64 Lib.pow10Tab := by kernel_rfl
  rw [e2] at h2
  have t2 : Lib.TabIs Tryd.prog w "internal/strconv.uint64pow10" .u64 Lib.pow10Tab := Lib.tabIs_of_head (show Tryd.prog.globalNamed "internal/strconv.uint64pow10" = some 2 by kernel_rfl) (show (Tryd.prog.globals[2]?).map (·.type) = some 136 by kernel_rfl) Tryd.underlying136 Tryd.underlying129 (by kernel_rfl) (by kernel_rfl) h2
  clear h h2 e2
  obtain ⟨ps, ⟨g0, t0, cs0, f0, p0, q0, hg0, ht0, hv0, hd0, ⟨g1, t1, cs1, f1, p1, q1, hg1, ht1, hv1, hd1, _, _⟩, _⟩, _, _⟩ := h3
  obtain rfl := Option.some.inj ((show Tryd.prog.globalNamed "loop.example/g00787/impl.kernelNames" = some 1 by kernel_rfl).symm.trans hg0)
  obtain rfl := Option.some.inj ((show Tryd.prog.globalNamed "loop.example/g00787/impl.kernelEnds" = some 0 by kernel_rfl).symm.trans hg1)
  obtain rfl := Option.some.inj ((show (Tryd.prog.globals[1]?).map (·.type) = some 120 by kernel_rfl).symm.trans ht0)
  obtain rfl := Option.some.inj ((show (Tryd.prog.globals[0]?).map (·.type) = some 119 by kernel_rfl).symm.trans ht1)
  refine ⟨⟨fun i hi => ?_, fun j hj => ?_⟩, t2⟩
  · have hs := nums_of_trod (L := [0, 52, 56, 62, 66, 83]) Tryd.underlying119 Tryd.underlying3 (by kernel_rfl) hd1 i hi
    rw [World.var?_cell hg1 hv1 i, ← Array.getElem?_toList, hs]
    match i, hi with
    | 0, _ => rfl
    | 1, _ => rfl
    | 2, _ => rfl
    | 3, _ => rfl
    | 4, _ => rfl
    | 5, _ => rfl
  · have hs := strs_of_trod (L := knames) Tryd.underlying120 Tryd.underlying9 (by kernel_rfl) hd0 j hj
    rw [World.var?_cell hg0 hv0 j, ← Array.getElem?_toList]
    exact hs

set_option maxRecDepth 100000 in
set_option maxHeartbeats 4000000 in
theorem walk (v0 : Value) (D0 : List Wd) (v1 : Value) (D1 : List Int) (a2 : Int) (w : World) (w0 : WdsL w v0 D0) (w1 : IntsZ w v1 D1) (w2 : (Lit.int .i64 a2).wf = true) (hl : TabsI w) :
    Calls Tryd.prog 3 #[v0, v1, .int .i64 a2] w fun e w' => e = .returned (.bool true) ∧ Below w.heap.size w w' := by
  have HT := Lib.hid hl
  have HL := Lib.hid w0
  obtain ⟨hi, hz⟩ := w1
  have HI := Lib.hid hi
  have HZ := Lib.hid hz
  obtain ⟨A0, c0, rfl, hlen, _⟩ := wdsL_form w0
  obtain ⟨l1, A1, c1, rfl, _⟩ := hi
  unfold maxLen at l1
  clear hl w0 hz
  by_cases hbig : 1048576 < D1.length
  · go_enter Tryd.func3, Tryd.ntmps3
    go_wp2
    go_ret
    exact ⟨rfl, Below.refl _ _⟩
  go_enter Tryd.func3, Tryd.ntmps3
  go_wp2_with fail
  refine (szWordS_any _ D0 _ HL.out).mono ?_
  rintro e m0 ⟨r, rfl, hr, hb⟩
  have B0 := Lib.hid hb
  have s0 : w.heap.size ≤ m0.heap.size := hb.size
  clear hb
  rcases hr with rfl | ⟨h0, h1, hs⟩
  · go_wp2
    go_ret
    exact ⟨rfl, B0.out⟩
  have HS := Lib.hid hs
  have d0 := hs.1
  clear hs
  have SP : Hid (∀ v u W, Wds W v D0 → Ints W u D1 → Calls Tryd.prog 8 #[v, u, .int .i64 a2] W (LinesOf W (linesR D0 D1 a2))) := Lib.hid fun v u W h1 h2 => sCodeLines_any v u D0 D1 a2 W h1 h2 HZ.out
  have IP : Hid (∀ v u W, Wds W v D0 → Ints W u D1 → TabsI W → Calls Tryd.prog 11 #[v, u, .int .i64 a2] W (LinesOf W (linesR D0 D1 a2))) := Lib.hid fun v u W h1 h2 h3 => iCodeLines_any v u D0 D1 a2 W h1 h2 HZ.out h3
  have rs := linesR_len D0 D1 a2
  generalize linesR D0 D1 a2 = pp at *
  obtain ⟨rl, rc⟩ := pp
  have SP : Hid (∀ v u W, Wds W v D0 → Ints W u D1 → Calls Tryd.prog 8 #[v, u, .int .i64 a2] W (fun e w' => ∃ v, e = .returned (.tuple #[v, .int .i64 rc]) ∧ w'.ownsRow W.heap.size 9 1 v rl.length (rl.map strV) ∧ Below W.heap.size W w')) := Lib.hid SP.out
  have IP : Hid (∀ v u W, Wds W v D0 → Ints W u D1 → TabsI W → Calls Tryd.prog 11 #[v, u, .int .i64 a2] W (fun e w' => ∃ v, e = .returned (.tuple #[v, .int .i64 rc]) ∧ w'.ownsRow W.heap.size 9 1 v rl.length (rl.map strV) ∧ Below W.heap.size W w')) := Lib.hid IP.out
  simp only at rs
  have t1 : (rc != rc) = false := by simp
  go_wp2_with fail
  refine (toWordS_any _ D0 _ (wdsL_below HL.out B0.out) d0).mono ?_
  rintro e m1 ⟨vP, rfl, hr, -, hb⟩
  have B1 : Hid (Below w.heap.size w m1) := Lib.hid (below_step B0.out hb)
  have s1 : m0.heap.size ≤ m1.heap.size := hb.size
  clear hb B0 
  have P1 := Lib.hid hr
  have LP : Hid (∀ g, (vP).ownBlock = some g → m0.heap.size ≤ g ∧ g < m1.heap.size) := Lib.hid (wrow_lt hr)
  clear hr
  go_wp2_with fail
  refine (toInts_any _ D1 _ (ints_below HI.out B1.out) (by omega)).mono ?_
  rintro e m2 ⟨vC, rfl, hr, -, hb⟩
  have B2 : Hid (Below w.heap.size w m2) := Lib.hid (below_step B1.out hb)
  have s2 : m1.heap.size ≤ m2.heap.size := hb.size
  have P2 := Lib.hid (wrow_below P1.out hb)
  clear hb B1 P1
  have C2 := Lib.hid hr
  have LC : Hid (∀ g, (vC).ownBlock = some g → m1.heap.size ≤ g ∧ g < m2.heap.size) := Lib.hid (row_lt hr)
  clear hr
  go_wp2_with fail
  refine (SP.out _ _ _ (wrow_wds P2.out) (row_ints C2.out)).mono ?_
  rintro e m3 ⟨vU, rfl, hr, hb⟩
  have B3 : Hid (Below w.heap.size w m3) := Lib.hid (below_step B2.out hb)
  have s3 : m2.heap.size ≤ m3.heap.size := hb.size
  have P3 := Lib.hid (wrow_below P2.out hb)
  have C3 := Lib.hid (row_below C2.out hb)
  clear hb B2 P2 C2
  have U3 := Lib.hid hr
  have LU : Hid (∀ g, (vU).ownBlock = some g → m2.heap.size ≤ g ∧ g < m3.heap.size) := Lib.hid (hr.lt)
  clear hr
  clear P3
  clear C3
  go_wp2_with fail
  refine (toWordS_any _ D0 _ (wdsL_below HL.out B3.out) d0).mono ?_
  rintro e m4 ⟨vX, rfl, hr, -, hb⟩
  have B4 : Hid (Below w.heap.size w m4) := Lib.hid (below_step B3.out hb)
  have s4 : m3.heap.size ≤ m4.heap.size := hb.size
  have U4 := Lib.hid (own_over_below U3.out hb)
  clear hb B3 U3
  have X4 := Lib.hid hr
  have LX : Hid (∀ g, (vX).ownBlock = some g → m3.heap.size ≤ g ∧ g < m4.heap.size) := Lib.hid (wrow_lt hr)
  clear hr
  go_wp2_with fail
  refine (toInts_any _ D1 _ (ints_below HI.out B4.out) (by omega)).mono ?_
  rintro e m5 ⟨vY, rfl, hr, -, hb⟩
  have B5 : Hid (Below w.heap.size w m5) := Lib.hid (below_step B4.out hb)
  have s5 : m4.heap.size ≤ m5.heap.size := hb.size
  have U5 := Lib.hid (own_over_below U4.out hb)
  have X5 := Lib.hid (wrow_below X4.out hb)
  clear hb B4 U4 X4
  have Y5 := Lib.hid hr
  have LY : Hid (∀ g, (vY).ownBlock = some g → m4.heap.size ≤ g ∧ g < m5.heap.size) := Lib.hid (row_lt hr)
  clear hr
  go_wp2_with fail
  refine (IP.out _ _ _ (wrow_wds X5.out) (row_ints Y5.out) (tabsI_below HT.out B5.out)).mono ?_
  rintro e m6 ⟨vG, rfl, hr, hb⟩
  have B6 : Hid (Below w.heap.size w m6) := Lib.hid (below_step B5.out hb)
  have s6 : m5.heap.size ≤ m6.heap.size := hb.size
  have U6 := Lib.hid (own_over_below U5.out hb)
  have X6 := Lib.hid (wrow_below X5.out hb)
  have Y6 := Lib.hid (row_below Y5.out hb)
  clear hb B5 U5 X5 Y5
  have G6 := Lib.hid hr
  have LG : Hid (∀ g, (vG).ownBlock = some g → m5.heap.size ≤ g ∧ g < m6.heap.size) := Lib.hid (hr.lt)
  clear hr
  go_wp2_with fail
  refine (eqRows_same _ _ _ _ rl _ G6.out U6.out).mono ?_
  rintro e m7 ⟨rfl, hb⟩
  have B7 : Hid (Below w.heap.size w m7) := Lib.hid (below_step B6.out hb)
  have s7 : m6.heap.size ≤ m7.heap.size := hb.size
  have U7 := Lib.hid (own_over_below U6.out hb)
  have X7 := Lib.hid (wrow_below X6.out hb)
  have Y7 := Lib.hid (row_below Y6.out hb)
  have G7 := Lib.hid (own_over_below G6.out hb)
  clear hb B6 U6 X6 Y6 G6
  go_wp2_with fail
  refine (toWordS_any _ D0 _ (wdsL_below HL.out B7.out) d0).mono ?_
  rintro e m8 ⟨vT, rfl, hr, -, hb⟩
  have B8 : Hid (Below w.heap.size w m8) := Lib.hid (below_step B7.out hb)
  have s8 : m7.heap.size ≤ m8.heap.size := hb.size
  have U8 := Lib.hid (own_over_below U7.out hb)
  have X8 := Lib.hid (wrow_below X7.out hb)
  have Y8 := Lib.hid (row_below Y7.out hb)
  have G8 := Lib.hid (own_over_below G7.out hb)
  clear hb B7 U7 X7 Y7 G7
  have T8 := Lib.hid hr
  have LT : Hid (∀ g, (vT).ownBlock = some g → m7.heap.size ≤ g ∧ g < m8.heap.size) := Lib.hid (wrow_lt hr)
  clear hr
  go_wp2_with fail
  refine (eqWordS_same _ _ D0 _ (wrow_wds X8.out) (wrow_wds T8.out)).mono ?_
  rintro e m9 ⟨rfl, hb⟩
  have B9 : Hid (Below w.heap.size w m9) := Lib.hid (below_step B8.out hb)
  have s9 : m8.heap.size ≤ m9.heap.size := hb.size
  have U9 := Lib.hid (own_over_below U8.out hb)
  have X9 := Lib.hid (wrow_below X8.out hb)
  have Y9 := Lib.hid (row_below Y8.out hb)
  have G9 := Lib.hid (own_over_below G8.out hb)
  have T9 := Lib.hid (wrow_below T8.out hb)
  clear hb B8 U8 X8 Y8 G8 T8
  clear T9
  go_wp2_with fail
  refine (toInts_any _ D1 _ (ints_below HI.out B9.out) (by omega)).mono ?_
  rintro e m10 ⟨vS, rfl, hr, -, hb⟩
  have B10 : Hid (Below w.heap.size w m10) := Lib.hid (below_step B9.out hb)
  have s10 : m9.heap.size ≤ m10.heap.size := hb.size
  have U10 := Lib.hid (own_over_below U9.out hb)
  have X10 := Lib.hid (wrow_below X9.out hb)
  have Y10 := Lib.hid (row_below Y9.out hb)
  have G10 := Lib.hid (own_over_below G9.out hb)
  clear hb B9 U9 X9 Y9 G9
  have S10 := Lib.hid hr
  have LS : Hid (∀ g, (vS).ownBlock = some g → m9.heap.size ≤ g ∧ g < m10.heap.size) := Lib.hid (row_lt hr)
  clear hr
  go_wp2_with fail
  refine (eqInts_same _ _ D1 _ (row_ints Y10.out) (row_ints S10.out)).mono ?_
  rintro e m11 ⟨rfl, hb⟩
  have B11 : Hid (Below w.heap.size w m11) := Lib.hid (below_step B10.out hb)
  have s11 : m10.heap.size ≤ m11.heap.size := hb.size
  have U11 := Lib.hid (own_over_below U10.out hb)
  have X11 := Lib.hid (wrow_below X10.out hb)
  have Y11 := Lib.hid (row_below Y10.out hb)
  have G11 := Lib.hid (own_over_below G10.out hb)
  have S11 := Lib.hid (row_below S10.out hb)
  clear hb B10 U10 X10 Y10 G10 S10
  clear S11
  have k1 : (((1 : Nat) : Int) + 3 * (D0.length : Int)) = ((1 + 3 * D0.length : Nat) : Int) := by omega
  go_wp2_with fail
  refine (markWordS_any _ _ D0 _ X11.out (by omega)).mono ?_
  rintro e m12 ⟨rfl, hr, hg⟩
  rw [k1]
  have B12 : Hid (Below w.heap.size w m12) := Lib.hid (B11.out.grown hg B11.out.size (fun g hv => by have := LX.out g hv; omega))
  have s12 : m11.heap.size ≤ m12.heap.size := hg.size
  have U12 := Lib.hid (own_far U11.out hg fun g hv e => by have h1 := LU.out g hv; have h2 := LX.out g e.symm; omega)
  have Y12 := Lib.hid (row_keep Y11.out fun g hv => hg.block g (row_lt Y11.out g hv).2 (fun e => by have h1 := LY.out g hv; have h2 := LX.out g e.symm; omega))
  have G12 := Lib.hid (own_far G11.out hg fun g hv e => by have h1 := LG.out g hv; have h2 := LX.out g e.symm; omega)
  have X12 := Lib.hid hr
  clear hr hg B11 U11 X11 Y11 G11
  clear X12
  go_wp2_with fail
  refine (markInts_any _ _ (1 + 3 * D0.length) D1 _ Y12.out (by omega) (by omega)).mono ?_
  rintro e m13 ⟨rfl, hr, hg⟩
  have B13 : Hid (Below w.heap.size w m13) := Lib.hid (B12.out.grown hg B12.out.size (fun g hv => by have := LY.out g hv; omega))
  have s13 : m12.heap.size ≤ m13.heap.size := hg.size
  have U13 := Lib.hid (own_far U12.out hg fun g hv e => by have h1 := LU.out g hv; have h2 := LY.out g e.symm; omega)
  have G13 := Lib.hid (own_far G12.out hg fun g hv e => by have h1 := LG.out g hv; have h2 := LY.out g e.symm; omega)
  have Y13 := Lib.hid hr
  clear hr hg B12 U12 Y12 G12
  clear Y13
  have kp : ¬ ((((1 + 3 * D0.length : Nat) : Int) + (D1.length : Int)) < 0) := by omega
  go_wp2_with fail
  refine (eqRows_same _ _ _ _ rl _ G13.out U13.out).mono ?_
  rintro e m14 ⟨rfl, hb⟩
  have B14 : Hid (Below w.heap.size w m14) := Lib.hid (below_step B13.out hb)
  have s14 : m13.heap.size ≤ m14.heap.size := hb.size
  have U14 := Lib.hid (own_over_below U13.out hb)
  have G14 := Lib.hid (own_over_below G13.out hb)
  clear hb B13 U13 G13
  go_wp2_with fail
  refine (markStrs_any _ _ 1 rl _ G14.out (by omega) (by omega)).mono ?_
  rintro e m15 ⟨rfl, hr, hg⟩
  have B15 : Hid (Below w.heap.size w m15) := Lib.hid (B14.out.grown hg B14.out.size (fun g hv => by have := LG.out g hv; omega))
  have s15 : m14.heap.size ≤ m15.heap.size := hg.size
  have U15 := Lib.hid (own_far U14.out hg fun g hv e => by have h1 := LU.out g hv; have h2 := LG.out g e.symm; omega)
  have G15 := Lib.hid hr
  clear hr hg B14 U14 G14
  have kr : ((((1 : Nat) : Int) + (rl.length : Int)) != (((1 : Nat) : Int) + (rl.length : Int))) = false := by simp
  have kq : ¬ ((((1 : Nat) : Int) + (rl.length : Int)) < 0) := by omega
  go_wp2_with fail
  refine (heldStrs_any _ _ rl.length 1 _ G15.out (by omega) (by omega)).mono ?_
  rintro e m16 ⟨rfl, hb⟩
  have B16 : Hid (Below w.heap.size w m16) := Lib.hid (below_step B15.out hb)
  have s16 : m15.heap.size ≤ m16.heap.size := hb.size
  have U16 := Lib.hid (own_over_below U15.out hb)
  have G16 := Lib.hid (own_over_below G15.out hb)
  clear hb B15 U15 G15
  go_wp2_with fail
  refine (toWordS_any _ D0 _ (wdsL_below HL.out B16.out) d0).mono ?_
  rintro e m17 ⟨vO, rfl, hr, -, hb⟩
  have B17 : Hid (Below w.heap.size w m17) := Lib.hid (below_step B16.out hb)
  have s17 : m16.heap.size ≤ m17.heap.size := hb.size
  have U17 := Lib.hid (own_over_below U16.out hb)
  have G17 := Lib.hid (own_over_below G16.out hb)
  clear hb B16 U16 G16
  have O17 := Lib.hid hr
  have LO : Hid (∀ g, (vO).ownBlock = some g → m16.heap.size ≤ g ∧ g < m17.heap.size) := Lib.hid (wrow_lt hr)
  clear hr
  go_wp2_with fail
  refine (toInts_any _ D1 _ (ints_below HI.out B17.out) (by omega)).mono ?_
  rintro e m18 ⟨vQ, rfl, hr, -, hb⟩
  have B18 : Hid (Below w.heap.size w m18) := Lib.hid (below_step B17.out hb)
  have s18 : m17.heap.size ≤ m18.heap.size := hb.size
  have U18 := Lib.hid (own_over_below U17.out hb)
  have G18 := Lib.hid (own_over_below G17.out hb)
  have O18 := Lib.hid (wrow_below O17.out hb)
  clear hb B17 U17 G17 O17
  have Q18 := Lib.hid hr
  have LQ : Hid (∀ g, (vQ).ownBlock = some g → m17.heap.size ≤ g ∧ g < m18.heap.size) := Lib.hid (row_lt hr)
  clear hr
  go_wp2_with fail
  refine (IP.out _ _ _ (wrow_wds O18.out) (row_ints Q18.out) (tabsI_below HT.out B18.out)).mono ?_
  rintro e m19 ⟨vH, rfl, hr, hb⟩
  have B19 : Hid (Below w.heap.size w m19) := Lib.hid (below_step B18.out hb)
  have s19 : m18.heap.size ≤ m19.heap.size := hb.size
  have U19 := Lib.hid (own_over_below U18.out hb)
  have G19 := Lib.hid (own_over_below G18.out hb)
  have O19 := Lib.hid (wrow_below O18.out hb)
  have Q19 := Lib.hid (row_below Q18.out hb)
  clear hb B18 U18 G18 O18 Q18
  have H19 := Lib.hid hr
  have LH : Hid (∀ g, (vH).ownBlock = some g → m18.heap.size ≤ g ∧ g < m19.heap.size) := Lib.hid (hr.lt)
  clear hr
  clear O19
  clear Q19
  go_wp2_with fail
  refine (eqRows_same _ _ _ _ rl _ H19.out U19.out).mono ?_
  rintro e m20 ⟨rfl, hb⟩
  have B20 : Hid (Below w.heap.size w m20) := Lib.hid (below_step B19.out hb)
  have s20 : m19.heap.size ≤ m20.heap.size := hb.size
  have U20 := Lib.hid (own_over_below U19.out hb)
  have G20 := Lib.hid (own_over_below G19.out hb)
  have H20 := Lib.hid (own_over_below H19.out hb)
  clear hb B19 U19 G19 H19
  go_wp2_with fail
  refine (heldStrs_any _ _ rl.length 1 _ G20.out (by omega) (by omega)).mono ?_
  rintro e m21 ⟨rfl, hb⟩
  have B21 : Hid (Below w.heap.size w m21) := Lib.hid (below_step B20.out hb)
  have s21 : m20.heap.size ≤ m21.heap.size := hb.size
  have U21 := Lib.hid (own_over_below U20.out hb)
  have G21 := Lib.hid (own_over_below G20.out hb)
  have H21 := Lib.hid (own_over_below H20.out hb)
  clear hb B20 U20 G20 H20
  go_wp2
  go_ret
  exact ⟨rfl, B21.out⟩

theorem vars_len {H : Type} {enc : TypeId × Value → H} {P : Program} {w : World} {sp : Nat → Bool} : ∀ {ns : List String} {gs : List (DataW H)} {ps : List MemPlace}, DataW.TrodVars enc P w sp ns gs ps → gs.length = ns.length
  | [], [], _, _ => rfl
  | [], _ :: _, _, h => h.elim
  | _ :: _, [], _, h => h.elim
  | _ :: _, _ :: _, _, h => by
    obtain ⟨g, t, cs, fuel, p, q, h1, h2, h3, h4, hs, e⟩ := h
    simp [vars_len hs]

set_option maxRecDepth 100000 in
theorem lifted (os : Os) (started : os.Started) (H : Type) (enc : TypeId × Value → H) :
    ReturnsInHanded {} Tryd.checked os 3 .any (fun w args => (Rows.fnExactCodeLinesSpec.pre enc Tryd.prog Tryd.f3 [] false w args ∧ laidMetH Tryd.prog listed w) ∧ sizedMet enc Tryd.prog Tryd.f3 (OpenSpec.ofChange Rows.fnExactCodeLinesSpec) false w args)
      (Rows.fnExactCodeLinesSpec.post enc Tryd.prog Tryd.f3 false true false false) := by
  refine returnsInHanded_of_change_and (C := Tryd.checked) (X := fun w _ => laidMetH Tryd.prog listed w) (fun _ _ _ hh h => h.of_heap hh) own started (by kernel_rfl) Tryd.func3
    (ChangeSpec.witness_shaped (enc := enc) (C := Tryd.checked) (os := os) (X := fun w _ => laidMetH Tryd.prog listed w) false (World.doorLaid Tryd.prog 34 os) #[.slice none 0 0, .slice none 0 0, .int .i64 0] 8 rfl (World.shaped_of_RefB (by kernel_rfl) (by kernel_rfl)) (by kernel_rfl) (by kernel_rfl) (by kernel_rfl) (door_met os _)) ?_
  intro W base args ds gs before hval0 hW _ _ hL _
  have hval : ∀ (j : Nat) t v, Tryd.f3.params[j]? = some t → args[j]? = some v → Value.okWide Tryd.prog W .any base t v := hval0
  have hW' := hW
  obtain ⟨p, q, hA0, hV0, rfl, hfz, hnd⟩ := hW
  have hA : DataW.TrodAll enc Tryd.prog W 0 (fun _ => true) true Tryd.f3.params.toList args.toList ds p := hA0
  have hV : DataW.TrodVars enc Tryd.prog W (fun _ => true) ["loop.example/g00787/impl.kernelEnds", "loop.example/g00787/impl.kernelNames"] gs q := hV0
  rw [Tryd.params3] at hA hval
  obtain ⟨v0, vs0, d0, ds0, p0, q0, hargs, rfl, rfl, h0, r0⟩ := trodAll_cons hA
  obtain ⟨v1, vs1, d1, ds1, p1, q1, rfl, rfl, rfl, h1, r1⟩ := trodAll_cons r0
  obtain ⟨v2, vs2, d2, ds2, p2, q2, rfl, rfl, rfl, h2, r2⟩ := trodAll_cons r1
  obtain ⟨rfl, rfl, rfl⟩ := trodAll_nil r2
  obtain rfl : args = #[v0, v1, v2] := by cases args; simp_all
  obtain ⟨gv0, gv1, rfl⟩ : ∃ gv0 gv1, gs = [gv0, gv1] := by
    have hl := vars_len hV
    match gs, hl with
    | [gv0, gv1], _ => exact ⟨gv0, gv1, rfl⟩
  have k0 := h0
  have lt0 : ∀ x ∈ p0, x.block < W.heap.size := by obtain ⟨m, hm⟩ := k0; exact DataW.trod_lt m _ _ _ hm
  obtain ⟨D0, w0⟩ := open_words (hval 0 22 v0 rfl rfl) h0
  have k1 := h1
  have lt1 : ∀ x ∈ p1, x.block < W.heap.size := by obtain ⟨m, hm⟩ := k1; exact DataW.trod_lt m _ _ _ hm
  obtain ⟨D1, w1⟩ := open_intsZ (hval 1 23 v1 rfl rfl) h1
  obtain ⟨a2, rfl, rfl, rfl, w2⟩ := open_int Tryd.underlying3 (hval 2 3 v2 rfl rfl) h2
  have hfact := of_laid hL
  clear hA0 hV0 hval0
  refine (walk v0 D0 v1 D1 a2 W w0 w1 w2 hfact).mono fun e W' ⟨he, bel⟩ => ?_
  subst he
  exact ⟨_, rfl, _, _, _, [], _, _, hW', trodAll_mk1 (shut_bool Tryd.underlying4 _), (trodAll_cons_mk (Below.trod laidOut (by kernel_rfl) (of_decide_eq_true (by kernel_rfl)) k0 bel lt0) (trodAll_cons_mk (Below.trod laidOut (by kernel_rfl) (of_decide_eq_true (by kernel_rfl)) k1 bel lt1) (trodAll_cons_mk (shut_int Tryd.underlying3 w2) trodAll_mk0))), Below.trodVars laidOut bel (by kernel_rfl) hV, bel.frame _, fun h => by cases h⟩

theorem over : Rows.FnExactCodeLinesSaid :=
  OpenClaim.holds_of_wide 3 Tryd.f3 rfl rfl rfl rfl rfl rfl rfl ⟨rfl, rfl, rfl, rfl, rfl⟩ rfl rfl rfl rfl rfl (by kernel_rfl) Tryd.func3 (by kernel_rfl)
    (of_decide_eq_true (by kernel_rfl)) (by unfold Func.isWrapper; first | (rw [if_pos (by decide +kernel)]; kernel_rfl) | (rw [if_neg (by decide +kernel)]; exact ⟨rfl, rfl⟩))
    (fun os started H enc _ => lifted os started H enc)

/-- The statement: the tied card. -/
theorem proved : Rows.FnExactCodeLinesCardSaid :=
  Claim7.holds_tied_plain_at .later [] [.data, .data, .data, .data, .data] true (true, "bdd17dae2d81f410deed05a96fc0d460282cf341edf2345ad319a0d6ac0dec11") false
    over (fun _ h => by cases h) (by kernel_rfl) (fun _ h => by cases h) fnExactCodeLines_row_tie rfl ⟨rfl, rfl⟩ (by kernel_rfl) rfl
    (fun f fn hf hfn => by
      obtain rfl : f = 3 := Option.some.inj ((show Tryd.prog.funcNamed "loop.example/g00787/laws.FnExactCodeLines" = some 3 by kernel_rfl).symm.trans hf) |>.symm
      obtain rfl : fn = Tryd.f3 := (Option.some.inj (Tryd.func3.symm.trans hfn)).symm
      exact ⟨by kernel_rfl, fun j t ht => by
        rw [Tryd.params3] at ht
        have hm : t ∈ [22, 23, 3] := by simpa using Array.mem_of_getElem? ht
        have hall : ([22, 23, 3].all fun u => !Tryd.prog.wantsStandIn u) = true := by kernel_rfl
        exact (show Tryd.prog.wantsStandIn t = false by simpa using List.all_eq_true.1 hall t hm)⟩)
    (by kernel_rfl)
#print axioms proved
end Go.Proofs.YtjlfbmplmddceaaDoor.fnExactCodeLines
