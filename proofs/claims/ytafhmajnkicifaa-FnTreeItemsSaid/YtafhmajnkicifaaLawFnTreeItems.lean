/- laws.FnTreeItems returns true at every two codes: the tree of drawn items that fit is the reference's, and its items are those; of items that are drawn at a venture both sides tell the same code. No condition. -/
import Derived.Test.YtafhmajnkicifaaRows
import Derived.Test.YtafhmajnkicifaaTrL
import Derived.Test.YtafhmajnkicifaaFlT
import Derived.Test.YtafhmajnkicifaaPkZ
import Derived.Deep.RegionHeld3
import Derived.WalkKit
import Derived.ProofKit
import Derived.OpenShut
import Derived.ShutString
import Derived.ChangeOld
import Derived.Below
namespace Go.Proofs.Ytafhmajnkicifaa.fnTreeItems
open Go.ChangeShapes Go.WideShapes Go.ChangeAt Go.RowKit
open Go.ChangeMaps (open_string shut_string)
set_option linter.unusedSimpArgs false
set_option linter.unusedVariables false

theorem own : ownKnob Try.prog.godebug = none := by kernel_rfl
theorem laidOut : laidOutB Try.prog = true := by kernel_rfl

theorem chk_fits {Q : List It} (f : Fits 2 Q) (hl : Q.length ≤ 60) : (chkI Q).2 = 0 := by
  have ha : askI Q = 0 := by
    unfold askI
    rw [if_neg (by omega), if_neg (by omega), if_pos (List.all_eq_true.2 f.1)]
  have hg := fits_go f (by omega)
  unfold chkI
  rw [if_neg (by simpa using ha), hg, if_neg (by simp)]

set_option maxRecDepth 100000 in
set_option maxHeartbeats 2000000 in
theorem walk (a0 : Option Addr) (len0 cap0 : Nat) (z0 : List Int) (a1 : Option Addr) (len1 cap1 : Nat) (z1 : List Int) (w : World) (w0 : BRow w a0 len0 cap0 z0) (w1 : BRow w a1 len1 cap1 z1) :
    Calls Try.prog 3 #[.slice a0 len0 cap0, .slice a1 len1 cap1] w fun e w' => e = .returned (.bool true) ∧ Below w.heap.size w w' := by
  have g0 : BRow w a0 len0 cap0 z0 := w0
  have g1 : BRow w a1 len1 cap1 z1 := w1
  have W0 := Lib.hid g0
  have W1 := Lib.hid g1
  have l0m : len0 ≤ maxLen := by rcases g0 with ⟨_, h, _⟩ | ⟨_, _, h1, h2, _⟩ <;> omega
  have l1m : len1 ≤ maxLen := by rcases g1 with ⟨_, h, _⟩ | ⟨_, _, h1, h2, _⟩ <;> omega
  unfold maxLen at l0m l1m
  clear w0 w1 g0 g1
  by_cases l0 : len0 ≤ 1048576
  rotate_left
  · go_enter Try.func3, Try.ntmps3
    go_wp2
    go_ret
    exact ⟨rfl, Below.refl _ _⟩
  by_cases l1 : len1 ≤ 1048576
  rotate_left
  · go_enter Try.func3, Try.ntmps3
    go_wp2
    go_ret
    exact ⟨rfl, Below.refl _ _⟩
  go_enter Try.func3, Try.ntmps3
  go_wp2_with fail
  refine (itemsDrawn2 _ _ _ _ _ W0.out (by omega)).mono ?_
  rintro e m1 ⟨⟨A1, n1, c1, Q, rfl, hr, ⟨hf, hl1⟩, hb⟩, hz⟩
  have B1 : Hid (Below w.heap.size w m1) := Lib.hid hb
  have R1 := Lib.hid hr
  obtain ⟨hc, TR, TI, OT, DT, IT⟩ : (chkI Q).2 = 0 ∧ ∃ TR, trI Q = TR ∧ okT 9 9 TR = true ∧ DepB 9 TR ∧ itT 9 TR = Q := by
    have h0 := chk_fits hf hl1
    obtain ⟨_, q2, _, q4⟩ := chk_good h0
    obtain ⟨b1, b2, b3⟩ := tree_back q4 q2
    exact ⟨h0, _, by unfold trI; rw [if_pos h0], b1, b2, b3⟩
  have TL : TR.length ≤ 60 := by have := itT_ge 8 TR; rw [IT] at this; omega
  have ITS : itemsC 9 TR = (Q, 0) := by
    unfold itemsC fitT
    rw [if_neg (by omega), if_neg (by omega), OT, IT, if_pos (by simpa using hl1)]
  have SAME : Hid (SameP 9 TR TR) := Lib.hid (by unfold SameP; rw [ITS]; exact ⟨rfl, rfl, rfl⟩)
  have IP : Hid (∀ v W (base : Nat), IRow W base v Q → 0 < W.heap.size → Calls Try.prog 8 #[v] W (fun e w' => ∃ A n c, e = .returned (.tuple #[.slice A n c, .int .i64 0]) ∧ TOwn 9 w' W.heap.size w'.heap.size (.slice A n c) TR ∧ Below W.heap.size W w')) := Lib.hid fun v W base h h0 => by
    have q := iTree_any v Q W h h0
    unfold TreeOfI at q
    rwa [hc, TI] at q
  have SP : Hid (∀ v W, Its W v Q → Calls Try.prog 9 #[v] W (fun e w' => ∃ A n c, e = .returned (.tuple #[.slice A n c, .int .i64 0]) ∧ SPart 9 W.heap.size w' none (.slice A n c) TR ∧ Below W.heap.size W w')) := Lib.hid fun v W h => by
    have q := sTree_any v Q W h
    unfold TreeOfS at q
    rwa [hc, TI] at q
  have KP : Hid (∀ v W, Nds 9 W v TR → Calls Try.prog 10 #[v] W (fun e w' => ∃ v, e = .returned (.tuple #[v, .int .i64 0]) ∧ IRow w' W.heap.size v Q ∧ Below W.heap.size W w')) := Lib.hid fun v W h => by
    have q := iItems_any 9 v TR W h
    unfold ItemsO at q
    rwa [ITS] at q
  clear hr hb hf hc TI OT DT IT ITS
  go_wp2_with fail
  refine (IP.out _ _ _ R1.out hz).mono ?_
  rintro e m2 ⟨A2, n2, c2, rfl, ht, hb⟩
  have B2 : Hid (Below w.heap.size w m2) := Lib.hid (below_step B1.out hb)
  have z2 : 0 < m2.heap.size := by have := hb.size; omega
  have R2 := Lib.hid (irow_below R1.out hb)
  clear hb B1 R1
  have T2 := Lib.hid (town_nds 9 ht)
  clear ht
  go_wp2_with fail
  refine (SP.out _ _ (irow_its R2.out)).mono ?_
  rintro e m3 ⟨A3, n3, c3, rfl, hs, hb⟩
  have B3 : Hid (Below w.heap.size w m3) := Lib.hid (below_step B2.out hb)
  have z3 : 0 < m3.heap.size := by have := hb.size; omega
  have R3 := Lib.hid (irow_below R2.out hb)
  have T3 := Lib.hid (nds_below T2.out hb)
  clear hb B2 R2 T2
  have V3 := Lib.hid (hs _ (fun _ _ _ _ => rfl))
  clear hs
  go_wp2_with fail
  refine (KP.out _ _ T3.out).mono ?_
  rintro e m4 ⟨v4, rfl, hr, hb⟩
  have B4 : Hid (Below w.heap.size w m4) := Lib.hid (below_step B3.out hb)
  have z4 : 0 < m4.heap.size := by have := hb.size; omega
  have R4 := Lib.hid (irow_below R3.out hb)
  have T4 := Lib.hid (nds_below T3.out hb)
  have V4 := Lib.hid (nds_below V3.out hb)
  clear hb B3 R3 T3 V3
  have K4 := Lib.hid hr
  clear hr
  go_wp2_with fail
  refine (doubtD _ _ _ _ _ (brow_below W1.out B4.out) (by omega)).mono ?_
  rintro e m5 ⟨A5, n5, c5, D, rfl, hr, ⟨hd, hl5⟩, hb⟩
  have B5 : Hid (Below w.heap.size w m5) := Lib.hid (below_step B4.out hb)
  have z5 : 0 < m5.heap.size := by have := hb.size; omega
  have R5 := Lib.hid (irow_below R4.out hb)
  have T5 := Lib.hid (nds_below T4.out hb)
  have V5 := Lib.hid (nds_below V4.out hb)
  have K5 := Lib.hid (irow_below K4.out hb)
  clear hb B4 R4 T4 V4 K4
  have D5 := Lib.hid hr
  clear hr
  have JP : Hid (∀ v W (base : Nat), IRow W base v D → 0 < W.heap.size → Calls Try.prog 8 #[v] W (TreeOfI D W)) := Lib.hid fun v W base h h0 => iTree_any v D W h h0
  have TP : Hid (∀ v W, Its W v D → Calls Try.prog 9 #[v] W (TreeOfS D W)) := Lib.hid fun v W h => sTree_any v D W h
  unfold TreeOfI at JP
  unfold TreeOfS at TP
  generalize (chkI D).2 = r1 at *
  generalize trI D = TD at *
  have tr : (r1 == r1) = true := by simp
  go_wp2_with fail
  refine (JP.out _ _ _ D5.out z5).mono ?_
  rintro e m6 ⟨A6, n6, c6, rfl, -, hb⟩
  have B6 : Hid (Below w.heap.size w m6) := Lib.hid (below_step B5.out hb)
  have z6 : 0 < m6.heap.size := by have := hb.size; omega
  have R6 := Lib.hid (irow_below R5.out hb)
  have T6 := Lib.hid (nds_below T5.out hb)
  have V6 := Lib.hid (nds_below V5.out hb)
  have K6 := Lib.hid (irow_below K5.out hb)
  have D6 := Lib.hid (irow_below D5.out hb)
  clear hb B5 R5 T5 V5 K5 D5
  clear D6
  go_wp2_with fail
  refine (doubtD _ _ _ _ _ (brow_below W1.out B6.out) (by omega)).mono ?_
  rintro e m7 ⟨A7, n7, c7, D2, rfl, hr, ⟨hd2, _⟩, hb⟩
  have ED : D2 = D := hd2.trans hd.symm
  subst ED
  have B7 : Hid (Below w.heap.size w m7) := Lib.hid (below_step B6.out hb)
  have z7 : 0 < m7.heap.size := by have := hb.size; omega
  have R7 := Lib.hid (irow_below R6.out hb)
  have T7 := Lib.hid (nds_below T6.out hb)
  have V7 := Lib.hid (nds_below V6.out hb)
  have K7 := Lib.hid (irow_below K6.out hb)
  clear hb B6 R6 T6 V6 K6
  have D7 := Lib.hid (irow_its hr)
  clear hr hd hd2
  go_wp2_with fail
  refine (TP.out _ _ D7.out).mono ?_
  rintro e m8 ⟨A8, n8, c8, rfl, -, hb⟩
  have B8 : Hid (Below w.heap.size w m8) := Lib.hid (below_step B7.out hb)
  have z8 : 0 < m8.heap.size := by have := hb.size; omega
  have R8 := Lib.hid (irow_below R7.out hb)
  have T8 := Lib.hid (nds_below T7.out hb)
  have V8 := Lib.hid (nds_below V7.out hb)
  have K8 := Lib.hid (irow_below K7.out hb)
  clear hb B7 R7 T7 V7 K7
  clear D7
  go_wp2_with fail
  refine (iSameTree_any 9 _ _ TR TR _ T8.out V8.out).mono ?_
  rintro e m9 ⟨t9, rfl, ht9, hb⟩
  obtain rfl : t9 = true := ht9.2 SAME.out
  have B9 : Hid (Below w.heap.size w m9) := Lib.hid (below_step B8.out hb)
  have z9 : 0 < m9.heap.size := by have := hb.size; omega
  have R9 := Lib.hid (irow_below R8.out hb)
  have T9 := Lib.hid (nds_below T8.out hb)
  have V9 := Lib.hid (nds_below V8.out hb)
  have K9 := Lib.hid (irow_below K8.out hb)
  clear hb B8 R8 T8 V8 K8
  clear ht9
  go_wp2_with fail
  refine (sameItems_any _ _ Q Q _ (irow_its K9.out) (irow_its R9.out)).mono ?_
  rintro e m10 ⟨t10, rfl, ht10, hb⟩
  obtain rfl : t10 = true := ht10.2 rfl
  have B10 : Hid (Below w.heap.size w m10) := Lib.hid (below_step B9.out hb)
  have z10 : 0 < m10.heap.size := by have := hb.size; omega
  have R10 := Lib.hid (irow_below R9.out hb)
  have T10 := Lib.hid (nds_below T9.out hb)
  have V10 := Lib.hid (nds_below V9.out hb)
  have K10 := Lib.hid (irow_below K9.out hb)
  clear hb B9 R9 T9 V9 K9
  clear ht10
  go_wp2
  go_ret
  exact ⟨rfl, B10.out⟩

set_option maxRecDepth 100000 in
theorem lifted (os : Os) (started : os.Started) (H : Type) (enc : TypeId × Value → H) :
    ReturnsInHanded {} Try.checked os 3 .any (Rows.fnTreeItemsSpec.pre6 enc Try.prog Try.f3 Rows.fnTreeItemsRow.domain false) (Rows.fnTreeItemsSpec.post enc Try.prog Try.f3 false true false false) := by
  refine returnsInHanded_of_change (C := Try.checked) own started (by kernel_rfl) Try.func3
    (ChangeSpec.witness6 (enc := enc) (C := Try.checked) false ⟨#[], #[.slice none 0 0, .slice none 0 0], []⟩ 8 (by kernel_rfl) (by kernel_rfl) (by kernel_rfl) (by kernel_rfl)) ?_
  intro W base args ds gs before hval0 hW hcnd _
  have hval : ∀ (j : Nat) t v, Try.f3.params[j]? = some t → args[j]? = some v → Value.okWide Try.prog W .any base t v := hval0
  have hW' := hW
  obtain ⟨p, q, hA0, hV, rfl, hfz, hnd⟩ := hW
  have hA : DataW.TrodAll enc Try.prog W 0 (fun _ => true) true Try.f3.params.toList args.toList ds p := hA0
  rw [Try.params3] at hA hval
  obtain ⟨v0, vs0, d0, ds0, p0, q0, hargs, rfl, rfl, h0, r0⟩ := trodAll_cons hA
  obtain ⟨v1, vs1, d1, ds1, p1, q1, rfl, rfl, rfl, h1, r1⟩ := trodAll_cons r0
  obtain ⟨rfl, rfl, rfl⟩ := trodAll_nil r1
  obtain rfl : args = #[v0, v1] := by cases args; simp_all
  obtain ⟨rfl, rfl⟩ := trodVars_none hV
  obtain ⟨a0, len0, cap0, rfl⟩ := okWide_slice Try.underlying22 (hval 0 22 v0 rfl rfl)
  have k0 := h0
  have lt0 : ∀ x ∈ p0, x.block < W.heap.size := by obtain ⟨m, hm⟩ := k0; exact DataW.trod_lt m _ _ _ hm
  obtain ⟨z0, w0⟩ : ∃ zs, BRow W a0 len0 cap0 zs := by
    obtain ⟨fuel, hf⟩ := h0
    rcases open_ints Try.underlying22 Try.underlying5 (by kernel_rfl) hf with ⟨hcs, _⟩ | ⟨x, l, c, zs, hcs, _, hl, hm, hz, _, hcell, hwz⟩
    · simp [Value.cells] at hcs
      obtain ⟨rfl, rfl, rfl⟩ := hcs
      exact ⟨[], .inl ⟨rfl, rfl, rfl, rfl⟩⟩
    · simp [Value.cells] at hcs
      obtain ⟨rfl, rfl, rfl⟩ := hcs
      exact ⟨zs, .inr ⟨_, rfl, hl, hm, by simpa using hz, hcell, hwz⟩⟩
  obtain ⟨a1, len1, cap1, rfl⟩ := okWide_slice Try.underlying22 (hval 1 22 v1 rfl rfl)
  have k1 := h1
  have lt1 : ∀ x ∈ p1, x.block < W.heap.size := by obtain ⟨m, hm⟩ := k1; exact DataW.trod_lt m _ _ _ hm
  obtain ⟨z1, w1⟩ : ∃ zs, BRow W a1 len1 cap1 zs := by
    obtain ⟨fuel, hf⟩ := h1
    rcases open_ints Try.underlying22 Try.underlying5 (by kernel_rfl) hf with ⟨hcs, _⟩ | ⟨x, l, c, zs, hcs, _, hl, hm, hz, _, hcell, hwz⟩
    · simp [Value.cells] at hcs
      obtain ⟨rfl, rfl, rfl⟩ := hcs
      exact ⟨[], .inl ⟨rfl, rfl, rfl, rfl⟩⟩
    · simp [Value.cells] at hcs
      obtain ⟨rfl, rfl, rfl⟩ := hcs
      exact ⟨zs, .inr ⟨_, rfl, hl, hm, by simpa using hz, hcell, hwz⟩⟩
  clear hA0 hval0
  refine (walk a0 len0 cap0 z0 a1 len1 cap1 z1 W w0 w1).mono fun e W' ⟨he, bel⟩ => ?_
  subst he
  exact ⟨_, rfl, _, _, _, [], _, [], hW', trodAll_mk1 (shut_bool Try.underlying4 _), (trodAll_cons_mk (Below.trod laidOut (by kernel_rfl) (of_decide_eq_true (by kernel_rfl)) k0 bel lt0) (trodAll_cons_mk (Below.trod laidOut (by kernel_rfl) (of_decide_eq_true (by kernel_rfl)) k1 bel lt1) trodAll_mk0)), rfl, bel.frame _, fun h => by cases h⟩

theorem over : Rows.fnTreeItemsRow.holds Try.pinned (OpenSpec.ofChange Rows.fnTreeItemsSpec) :=
  OpenClaim.holds_of_wide 3 Try.f3 rfl rfl rfl rfl rfl rfl rfl ⟨rfl, rfl, rfl, rfl, rfl⟩ rfl rfl rfl rfl rfl (by kernel_rfl) Try.func3 (by kernel_rfl)
    (of_decide_eq_true (by kernel_rfl)) (by unfold Func.isWrapper; first | (rw [if_pos (by decide +kernel)]; kernel_rfl) | (rw [if_neg (by decide +kernel)]; exact ⟨rfl, rfl⟩))
    (fun os started H enc _ => lifted os started H enc)

/-- The statement. -/
theorem proved : Rows.FnTreeItemsSaid := over
#print axioms proved
end Go.Proofs.Ytafhmajnkicifaa.fnTreeItems
