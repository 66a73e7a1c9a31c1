/- laws.FnExactItemsOf returns true at every tree: impl.ItemsOf and spec.ItemsOf give the same items and code; impl writes into no argument, and the items that it hands back own their memory. No condition. -/
import Derived.Test.YtafhmajnkicifaaRows
import Derived.Test.YtafhmajnkicifaaPkS
import Derived.Test.YtafhmajnkicifaaFlH
import Derived.Test.YtafhmajnkicifaaNdA
import Derived.Test.YtafhmajnkicifaaNdB
import Derived.Test.YtafhmajnkicifaaNdC
import Derived.Test.YtafhmajnkicifaaTrD
import Derived.Test.YtafhmajnkicifaaItL
import Derived.Deep.RegionHeld3
import Derived.WalkKit
import Derived.ProofKit
import Derived.OpenShut
import Derived.ShutString
import Derived.ChangeOld
import Derived.Below
namespace Go.Proofs.Ytafhmajnkicifaa.fnExactItemsOf
open Go.ChangeShapes Go.WideShapes Go.ChangeAt Go.RowKit
open Go.ChangeMaps (open_string shut_string)
set_option linter.unusedSimpArgs false
set_option linter.unusedVariables false

theorem own : ownKnob Try.prog.godebug = none := by kernel_rfl
theorem laidOut : laidOutB Try.prog = true := by kernel_rfl

set_option maxRecDepth 100000 in
set_option maxHeartbeats 2000000 in
theorem walk (v0 : Value) (D0 : Nat × List Nd) (w : World) (w0 : NdsIn w v0 D0) :
    Calls Try.prog 5 #[v0] w fun e w' => e = .returned (.bool true) ∧ Below w.heap.size w w' := by
  obtain ⟨d, L⟩ := D0
  have HI : Hid (Nds d w v0 L) := Lib.hid w0
  obtain ⟨l0, A0, c0, rfl⟩ := nds_form HI.out
  unfold maxLen at l0
  clear w0
  by_cases hbig : szT d L ≤ 1048576
  case neg =>
    have EL := Lib.hid (show cutOf 1048576 (szT d L) = -1 by unfold cutOf; rw [if_neg hbig])
    clear hbig
    go_enter Try.func5, Try.ntmps5
    go_wp2_with fail
    refine (szNodeS_any d _ L 1048576 _ HI.out (Nat.le_refl _)).mono ?_
    rintro e w' ⟨rfl, hb⟩
    rw [EL.out]
    go_wp2
    go_ret
    exact ⟨rfl, hb⟩
  have EL := Lib.hid (show cutOf 1048576 (szT d L) = ((1048576 - szT d L : Nat) : Int) by unfold cutOf; rw [if_pos hbig])
  have SZ := Lib.hid hbig
  have SP : Hid (∀ v W, Nds d W v L → Calls Try.prog 22 #[v] W (ItemsO d L W)) := Lib.hid fun v W h => sItems_any d v L W h SZ.out
  have IP : Hid (∀ v W, Nds d W v L → Calls Try.prog 10 #[v] W (ItemsO d L W)) := Lib.hid fun v W h => iItems_any d v L W h
  unfold ItemsO at SP IP
  have RS : (itemsC d L).1.length ≤ 60 := itemsC_small d L
  generalize itemsC d L = pp at *
  obtain ⟨r, r1⟩ := pp
  simp only at *
  have t1 : (r1 != r1) = false := by simp
  have lf0 : ¬ ((1048576 - szT d L : Nat) : Int) < 0 := by omega
  clear hbig
  go_enter Try.func5, Try.ntmps5
  go_wp2_with fail
  refine (szNodeS_any d _ L 1048576 _ HI.out (Nat.le_refl _)).mono ?_
  rintro e m1 ⟨rfl, hb⟩
  rw [EL.out]
  have B1 : Hid (Below w.heap.size w m1) := Lib.hid hb
  have s1 : w.heap.size ≤ m1.heap.size := hb.size
  clear hb
  go_wp2_with fail
  refine (toNodeS_any d _ L _ (nds_below HI.out B1.out) SZ.out).mono ?_
  rintro e m2 ⟨rfl, hr, hb, hz⟩
  have B2 : Hid (Below w.heap.size w m2) := Lib.hid (below_step B1.out hb)
  have s2 : m1.heap.size ≤ m2.heap.size := hb.size
  clear hb B1
  have P2 := Lib.hid hr
  clear hr hz
  go_wp2_with fail
  refine (SP.out _ _ (town_nds d P2.out)).mono ?_
  rintro e m3 ⟨vU, rfl, hr, hb⟩
  have B3 : Hid (Below w.heap.size w m3) := Lib.hid (below_step B2.out hb)
  have s3 : m2.heap.size ≤ m3.heap.size := hb.size
  have P3 : Hid (TOwn d m3 m1.heap.size m2.heap.size (.slice (some ⟨m1.heap.size, 0, none⟩) L.length L.length) L) := Lib.hid (town_keep d P2.out fun b h1 h2 => hb.block b (by omega))
  clear hb B2 P2
  have U3 := Lib.hid hr
  have LU : Hid (∀ g, vU.ownBlock = some g → m2.heap.size ≤ g ∧ g < m3.heap.size) := Lib.hid (irow_lt hr)
  clear hr
  clear P3
  go_wp2_with fail
  refine (toNodeS_any d _ L _ (nds_below HI.out B3.out) SZ.out).mono ?_
  rintro e m4 ⟨rfl, hr, hb, hz⟩
  have B4 : Hid (Below w.heap.size w m4) := Lib.hid (below_step B3.out hb)
  have s4 : m3.heap.size ≤ m4.heap.size := hb.size
  have U4 : Hid (IRow m4 m2.heap.size vU r) := Lib.hid (irow_below U3.out hb)
  clear hb B3 U3
  have X4 := Lib.hid hr
  clear hr hz
  go_wp2_with fail
  refine (IP.out _ _ (town_nds d X4.out)).mono ?_
  rintro e m5 ⟨vG, rfl, hr, hb⟩
  have B5 : Hid (Below w.heap.size w m5) := Lib.hid (below_step B4.out hb)
  have s5 : m4.heap.size ≤ m5.heap.size := hb.size
  have U5 : Hid (IRow m5 m2.heap.size vU r) := Lib.hid (irow_below U4.out hb)
  have X5 : Hid (TOwn d m5 m3.heap.size m4.heap.size (.slice (some ⟨m3.heap.size, 0, none⟩) L.length L.length) L) := Lib.hid (town_keep d X4.out fun b h1 h2 => hb.block b (by omega))
  clear hb B4 U4 X4
  have G5 := Lib.hid hr
  have LG : Hid (∀ g, vG.ownBlock = some g → m4.heap.size ≤ g ∧ g < m5.heap.size) := Lib.hid (irow_lt hr)
  clear hr
  go_wp2_with fail
  refine (eqItemS_same _ _ r _ (irow_its G5.out) (irow_its U5.out)).mono ?_
  rintro e m6 ⟨rfl, hb⟩
  have B6 : Hid (Below w.heap.size w m6) := Lib.hid (below_step B5.out hb)
  have s6 : m5.heap.size ≤ m6.heap.size := hb.size
  have U6 : Hid (IRow m6 m2.heap.size vU r) := Lib.hid (irow_below U5.out hb)
  have X6 : Hid (TOwn d m6 m3.heap.size m4.heap.size (.slice (some ⟨m3.heap.size, 0, none⟩) L.length L.length) L) := Lib.hid (town_keep d X5.out fun b h1 h2 => hb.block b (by omega))
  have G6 : Hid (IRow m6 m4.heap.size vG r) := Lib.hid (irow_below G5.out hb)
  clear hb B5 U5 X5 G5
  go_wp2_with fail
  refine (toNodeS_any d _ L _ (nds_below HI.out B6.out) SZ.out).mono ?_
  rintro e m7 ⟨rfl, hr, hb, hz⟩
  have B7 : Hid (Below w.heap.size w m7) := Lib.hid (below_step B6.out hb)
  have s7 : m6.heap.size ≤ m7.heap.size := hb.size
  have U7 : Hid (IRow m7 m2.heap.size vU r) := Lib.hid (irow_below U6.out hb)
  have X7 : Hid (TOwn d m7 m3.heap.size m4.heap.size (.slice (some ⟨m3.heap.size, 0, none⟩) L.length L.length) L) := Lib.hid (town_keep d X6.out fun b h1 h2 => hb.block b (by omega))
  have G7 : Hid (IRow m7 m4.heap.size vG r) := Lib.hid (irow_below G6.out hb)
  clear hb B6 U6 X6 G6
  have T7 := Lib.hid hr
  clear hr hz
  go_wp2_with fail
  refine (eqNodeS_same d _ _ L _ (town_nds d X7.out) (town_nds d T7.out)).mono ?_
  rintro e m8 ⟨rfl, hb⟩
  have B8 : Hid (Below w.heap.size w m8) := Lib.hid (below_step B7.out hb)
  have s8 : m7.heap.size ≤ m8.heap.size := hb.size
  have U8 : Hid (IRow m8 m2.heap.size vU r) := Lib.hid (irow_below U7.out hb)
  have X8 : Hid (TOwn d m8 m3.heap.size m4.heap.size (.slice (some ⟨m3.heap.size, 0, none⟩) L.length L.length) L) := Lib.hid (town_keep d X7.out fun b h1 h2 => hb.block b (by omega))
  have G8 : Hid (IRow m8 m4.heap.size vG r) := Lib.hid (irow_below G7.out hb)
  have T8 : Hid (TOwn d m8 m6.heap.size m7.heap.size (.slice (some ⟨m6.heap.size, 0, none⟩) L.length L.length) L) := Lib.hid (town_keep d T7.out fun b h1 h2 => hb.block b (by omega))
  clear hb B7 U7 X7 G7 T7
  clear T8
  go_wp2_with fail
  refine (markNodeS_any d _ L 1 _ _ _ X8.out (by omega) (by have := SZ.out; omega)).mono ?_
  rintro e m9 ⟨L2, rfl, -, -, -, -, ho⟩
  have B9 : Hid (Below w.heap.size w m9) := Lib.hid ⟨ho.os.trans B8.out.os, ho.tape.trans B8.out.tape, ho.output.trans B8.out.output, Nat.le_trans B8.out.size ho.size, fun q hq => (ho.block q (by have := B8.out.size; omega) (by omega)).trans (B8.out.block q hq)⟩
  have s9 : m8.heap.size ≤ m9.heap.size := ho.size
  have U9 : Hid (IRow m9 m2.heap.size vU r) := Lib.hid (irow_keep U8.out fun g hv => ho.block g (irow_lt U8.out g hv).2 (fun q => by have := LU.out g hv; omega))
  have G9 : Hid (IRow m9 m4.heap.size vG r) := Lib.hid (irow_keep G8.out fun g hv => ho.block g (irow_lt G8.out g hv).2 (fun q => by have := LG.out g hv; omega))
  clear ho B8 U8 G8 X8
  have kp : ¬ ((1 + 2 * szT d L : Nat) : Int) < 0 := by omega
  go_wp2_with fail
  refine (eqItemS_same _ _ r _ (irow_its G9.out) (irow_its U9.out)).mono ?_
  rintro e m10 ⟨rfl, hb⟩
  have B10 : Hid (Below w.heap.size w m10) := Lib.hid (below_step B9.out hb)
  have s10 : m9.heap.size ≤ m10.heap.size := hb.size
  have U10 : Hid (IRow m10 m2.heap.size vU r) := Lib.hid (irow_below U9.out hb)
  have G10 : Hid (IRow m10 m4.heap.size vG r) := Lib.hid (irow_below G9.out hb)
  clear hb B9 U9 G9
  go_wp2_with fail
  refine (markItems_any _ _ 1 r _ G10.out (by omega) (by omega)).mono ?_
  rintro e m11 ⟨rfl, hr, hg⟩
  have B11 : Hid (Below w.heap.size w m11) := Lib.hid (B10.out.grown hg B10.out.size (fun g hv => by have := LG.out g hv; omega))
  have s11 : m10.heap.size ≤ m11.heap.size := hg.size
  have U11 : Hid (IRow m11 m2.heap.size vU r) := Lib.hid (irow_keep U10.out fun g hv => hg.block g (irow_lt U10.out g hv).2 (fun q => by have h1 := LU.out g hv; have h2 := LG.out g q.symm; omega))
  have G11 : Hid (IRow m11 m4.heap.size vG (imarks 1 r.length)) := Lib.hid hr
  clear hr hg B10 U10 G10
  have kr : (((1 + 2 * r.length : Nat) : Int) != ((1 + 2 * r.length : Nat) : Int)) = false := by simp
  have kq : ¬ (((1 + 2 * r.length : Nat) : Int) < 0) := by omega
  go_wp2_with fail
  refine (heldItems_any _ r.length 1 _ (irow_its G11.out) (by omega)).mono ?_
  rintro e w' ⟨rfl, rfl⟩
  go_wp2_with fail
  refine (toNodeS_any d _ L _ (nds_below HI.out B11.out) SZ.out).mono ?_
  rintro e m12 ⟨rfl, hr, hb, hz⟩
  have B12 : Hid (Below w.heap.size w m12) := Lib.hid (below_step B11.out hb)
  have s12 : m11.heap.size ≤ m12.heap.size := hb.size
  have U12 : Hid (IRow m12 m2.heap.size vU r) := Lib.hid (irow_below U11.out hb)
  have G12 : Hid (IRow m12 m4.heap.size vG (imarks 1 r.length)) := Lib.hid (irow_below G11.out hb)
  clear hb B11 U11 G11
  have Q12 := Lib.hid hr
  clear hr hz
  go_wp2_with fail
  refine (IP.out _ _ (town_nds d Q12.out)).mono ?_
  rintro e m13 ⟨vH, rfl, hr, hb⟩
  have B13 : Hid (Below w.heap.size w m13) := Lib.hid (below_step B12.out hb)
  have s13 : m12.heap.size ≤ m13.heap.size := hb.size
  have U13 : Hid (IRow m13 m2.heap.size vU r) := Lib.hid (irow_below U12.out hb)
  have G13 : Hid (IRow m13 m4.heap.size vG (imarks 1 r.length)) := Lib.hid (irow_below G12.out hb)
  have Q13 : Hid (TOwn d m13 m11.heap.size m12.heap.size (.slice (some ⟨m11.heap.size, 0, none⟩) L.length L.length) L) := Lib.hid (town_keep d Q12.out fun b h1 h2 => hb.block b (by omega))
  clear hb B12 U12 G12 Q12
  have H13 := Lib.hid hr
  have LH : Hid (∀ g, vH.ownBlock = some g → m12.heap.size ≤ g ∧ g < m13.heap.size) := Lib.hid (irow_lt hr)
  clear hr
  go_wp2_with fail
  refine (eqItemS_same _ _ r _ (irow_its H13.out) (irow_its U13.out)).mono ?_
  rintro e m14 ⟨rfl, hb⟩
  have B14 : Hid (Below w.heap.size w m14) := Lib.hid (below_step B13.out hb)
  have s14 : m13.heap.size ≤ m14.heap.size := hb.size
  have U14 : Hid (IRow m14 m2.heap.size vU r) := Lib.hid (irow_below U13.out hb)
  have G14 : Hid (IRow m14 m4.heap.size vG (imarks 1 r.length)) := Lib.hid (irow_below G13.out hb)
  have Q14 : Hid (TOwn d m14 m11.heap.size m12.heap.size (.slice (some ⟨m11.heap.size, 0, none⟩) L.length L.length) L) := Lib.hid (town_keep d Q13.out fun b h1 h2 => hb.block b (by omega))
  have H14 : Hid (IRow m14 m12.heap.size vH r) := Lib.hid (irow_below H13.out hb)
  clear hb B13 U13 G13 Q13 H13
  go_wp2_with fail
  refine (heldItems_any _ r.length 1 _ (irow_its G14.out) (by omega)).mono ?_
  rintro e w' ⟨rfl, rfl⟩
  go_wp2
  go_ret
  exact ⟨rfl, B14.out⟩

set_option maxRecDepth 100000 in
theorem lifted (os : Os) (started : os.Started) (H : Type) (enc : TypeId × Value → H) :
    ReturnsInHanded {} Try.checked os 5 .any (Rows.fnExactItemsOfSpec.pre6 enc Try.prog Try.f5 Rows.fnExactItemsOfRow.domain false) (Rows.fnExactItemsOfSpec.post enc Try.prog Try.f5 false true false false) := by
  refine returnsInHanded_of_change (C := Try.checked) own started (by kernel_rfl) Try.func5
    (ChangeSpec.witness6 (enc := enc) (C := Try.checked) false ⟨#[], #[.slice none 0 0], []⟩ 8 (by kernel_rfl) (by kernel_rfl) (by kernel_rfl) (by kernel_rfl)) ?_
  intro W base args ds gs before hval0 hW hcnd _
  have hval : ∀ (j : Nat) t v, Try.f5.params[j]? = some t → args[j]? = some v → Value.okWide Try.prog W .any base t v := hval0
  have hW' := hW
  obtain ⟨p, q, hA0, hV, rfl, hfz, hnd⟩ := hW
  have hA : DataW.TrodAll enc Try.prog W 0 (fun _ => true) true Try.f5.params.toList args.toList ds p := hA0
  rw [Try.params5] at hA hval
  obtain ⟨v0, vs0, d0, ds0, p0, q0, hargs, rfl, rfl, h0, r0⟩ := trodAll_cons hA
  obtain ⟨rfl, rfl, rfl⟩ := trodAll_nil r0
  obtain rfl : args = #[v0] := by cases args; simp_all
  obtain ⟨rfl, rfl⟩ := trodVars_none hV
  have k0 := h0
  have lt0 : ∀ x ∈ p0, x.block < W.heap.size := by obtain ⟨m, hm⟩ := k0; exact DataW.trod_lt m _ _ _ hm
  obtain ⟨D0, w0⟩ := open_nodes (hval 0 39 v0 rfl rfl) h0
  clear hA0 hval0
  refine (walk v0 D0 W w0).mono fun e W' ⟨he, bel⟩ => ?_
  subst he
  exact ⟨_, rfl, _, _, _, [], _, [], hW', trodAll_mk1 (shut_bool Try.underlying4 _), (trodAll_cons_mk (Below.trod laidOut (by kernel_rfl) (of_decide_eq_true (by kernel_rfl)) k0 bel lt0) trodAll_mk0), rfl, bel.frame _, fun h => by cases h⟩

theorem over : Rows.fnExactItemsOfRow.holds Try.pinned (OpenSpec.ofChange Rows.fnExactItemsOfSpec) :=
  OpenClaim.holds_of_wide 5 Try.f5 rfl rfl rfl rfl rfl rfl rfl ⟨rfl, rfl, rfl, rfl, rfl⟩ rfl rfl rfl rfl rfl (by kernel_rfl) Try.func5 (by kernel_rfl)
    (of_decide_eq_true (by kernel_rfl)) (by unfold Func.isWrapper; first | (rw [if_pos (by decide +kernel)]; kernel_rfl) | (rw [if_neg (by decide +kernel)]; exact ⟨rfl, rfl⟩))
    (fun os started H enc _ => lifted os started H enc)

/-- The statement. -/
theorem proved : Rows.FnExactItemsOfSaid := over
#print axioms proved
end Go.Proofs.Ytafhmajnkicifaa.fnExactItemsOf
