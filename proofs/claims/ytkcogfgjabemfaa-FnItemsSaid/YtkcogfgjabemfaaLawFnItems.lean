/- laws.FnItems returns true at every two codes: drawn items fit or do not as the specification says; of those that fit what is open is known ahead of each, nothing at the end, and their code is as long as it is reckoned. No condition. -/
import Derived.Test.YtkcogfgjabemfaaRows
import Derived.Test.YtkcogfgjabemfaaPkI
import Derived.Test.YtkcogfgjabemfaaCtC
import Derived.Test.YtkcogfgjabemfaaMaC
import Derived.Test.YtkcogfgjabemfaaAsD
import Derived.Deep.RegionHeld3
import Derived.WalkKit
import Derived.ProofKit
import Derived.OpenShut
import Derived.ShutString
import Derived.ChangeOld
import Derived.Below
namespace Go.Proofs.Ytkcogfgjabemfaa.fnItems
open Go.ChangeShapes Go.WideShapes Go.ChangeAt Go.RowKit
open Go.ChangeMaps (open_string shut_string)
set_option linter.unusedSimpArgs false
set_option linter.unusedVariables false

theorem own : ownKnob Try.prog.godebug = none := by kernel_rfl
theorem laidOut : laidOutB Try.prog = true := by kernel_rfl

set_option maxRecDepth 100000 in
set_option maxHeartbeats 8000000 in
theorem walk (a0 : Option Addr) (len0 cap0 : Nat) (z0 : List Int) (a1 : Option Addr) (len1 cap1 : Nat) (z1 : List Int) (w : World) (w0 : BRow w a0 len0 cap0 z0) (w1 : BRow w a1 len1 cap1 z1) :
    Calls Try.prog 4 #[.slice a0 len0 cap0, .slice a1 len1 cap1] w fun e w' => e = .returned (.bool true) ∧ Below w.heap.size w w' := by
  have g0 : BRow w a0 len0 cap0 z0 := w0
  have g1 : BRow w a1 len1 cap1 z1 := w1
  have W0 := Lib.hid g0
  have W1 := Lib.hid g1
  have l0m : len0 ≤ maxLen := by rcases g0 with ⟨_, h, _⟩ | ⟨_, _, h1, h2, _⟩ <;> omega
  have l1m : len1 ≤ maxLen := by rcases g1 with ⟨_, h, _⟩ | ⟨_, _, h1, h2, _⟩ <;> omega
  unfold maxLen at l0m l1m
  clear w0 w1 g0 g1
  by_cases l0 : len0 ≤ 1048576
  rotate_left
  · go_enter Try.func4, Try.ntmps4
    go_wp2
    go_ret
    exact ⟨rfl, Below.refl _ _⟩
  by_cases l1 : len1 ≤ 1048576
  rotate_left
  · go_enter Try.func4, Try.ntmps4
    go_wp2
    go_ret
    exact ⟨rfl, Below.refl _ _⟩
  go_enter Try.func4, Try.ntmps4
  go_wp2_with fail
  refine (doubtItems_any _ _ _ _ _ W0.out (by omega)).mono ?_
  rintro e m1 ⟨A, n, c, D, rfl, hr, hl, hb⟩
  have B := hb
  have R := irow_its hr
  clear hb hr
  have IC : Hid (∀ v W, Its W v D → Calls Try.prog 19 #[v] W (TwoOf W (chkI D))) := Lib.hid fun v W h => iCheck_any v D W h
  have SC : Hid (∀ v W, Its W v D → Calls Try.prog 20 #[v] W (TwoOf W (chkI D))) := Lib.hid fun v W h => sCheck_any v D W h
  generalize chkI D = q at *
  obtain ⟨q0, q1⟩ := q
  have t0 : (q0 != q0) = false := by simp
  have t1 : (q1 != q1) = false := by simp
  go_wp2_with fail
  refine (IC.out _ _ R).mono ?_
  rintro e m2 ⟨rfl, hb⟩
  have B := below_step B hb
  have R := its_below R hb
  clear hb
  go_wp2_with fail
  refine (SC.out _ _ R).mono ?_
  rintro e m3 ⟨rfl, hb⟩
  have B := below_step B hb
  clear hb R IC SC
  go_wp2_with fail
  refine (itemsDrawn_any _ _ _ _ _ (brow_below W1.out B) (by omega)).mono ?_
  rintro e m4 ⟨A4, n4, c4, Q, rfl, hr, ⟨hf, hl4⟩, hb⟩
  have B := below_step B hb
  have R := hr
  have e4 := irow_len hr
  subst e4
  have gd := good_of hf hl4
  clear hb hr hf
  have IC : Hid (∀ v W, Its W v Q → Calls Try.prog 19 #[v] W (TwoOf W (0, 0))) := Lib.hid fun v W h => by rw [← gd.chk]; exact iCheck_any v Q W h
  have IO : Hid (∀ v W b, IRow W b v Q → Calls Try.prog 22 #[v, .int .i64 (Q.length : Nat)] W (ListCOf W ([], 0))) := Lib.hid fun v W b h => by rw [← gd.all]; exact iOpen_any v Q _ W h (wf_small _ (by omega))
  have IZ : Hid (∀ v W, Its W v Q → Calls Try.prog 25 #[v] W (TwoOf W ((sumI Q : Int) + 1, 0))) := Lib.hid fun v W h => by rw [← gd.size]; exact iSize_any v Q W h
  have SZ : Hid (∀ v W, Its W v Q → Calls Try.prog 26 #[v] W (TwoOf W ((sumI Q : Int) + 1, 0))) := Lib.hid fun v W h => by rw [← gd.size]; exact sSize_any v Q W h
  have ln : IntKind.i64.wrap ((Q.length : Int) + 1) = ((Q.length + 1 : Nat) : Int) := by rw [IntWalk.i64_in _ (by omega)]; simp
  go_wp2_with fail
  refine (IC.out _ _ (irow_its R)).mono ?_
  rintro e m5 ⟨rfl, hb⟩
  have B := below_step B hb
  have R := irow_below R hb
  clear hb
  go_wp2_with fail
  refine (IO.out _ _ _ R).mono ?_
  rintro e m6 ⟨v6, rfl, hr6, hb⟩
  have B := below_step B hb
  have R := irow_below R hb
  obtain ⟨_, A6, c6, rfl, _⟩ := row_ints hr6
  clear hb hr6
  go_wp2_with fail
  refine (at_upto _ _ _ _ (Q.length + 1) _ (brow_below W0.out B) l0 (by omega) (by omega)).mono ?_
  rintro e m7 ⟨p, kd, ⟨p0, p1⟩, rfl, rfl⟩
  have B := B.trans (show Below w.heap.size m6 (m6.drewN kd) from below_drewN (Below.refl _ _) kd)
  have R := irow_keep R (w' := m6.drewN kd) (fun _ _ => rfl)
  obtain ⟨p, rfl⟩ := Int.eq_ofNat_of_zero_le p0
  have hp : p ≤ Q.length := by omega
  have op := gd.some p hp
  obtain ⟨cp1, cp2⟩ := gd.code p hp
  have IO : Hid (∀ v W b, IRow W b v Q → Calls Try.prog 22 #[v, .int .i64 p] W (ListCOf W ((openI Q p).1, 0))) := Lib.hid fun v W b h => by rw [show ((openI Q p).1, (0 : Int)) = openI Q p from Prod.ext rfl op.symm]; exact iOpen_any v Q _ W h (wf_small _ (by omega))
  have SO : Hid (∀ v W, Its W v Q → Calls Try.prog 24 #[v, .int .i64 p] W (ListCOf W ((openI Q p).1, 0))) := Lib.hid fun v W h => by rw [show ((openI Q p).1, (0 : Int)) = openI Q p from Prod.ext rfl op.symm]; exact sOpen_any v Q _ W h (wf_small _ (by omega))
  have IM : Hid (∀ v W, Its W v Q → Calls Try.prog 27 #[v, .int .i64 p, .int .i64 84] W (ListCOf W ((compI Q p 84).1, 0))) := Lib.hid fun v W h => by rw [show ((compI Q p 84).1, (0 : Int)) = compI Q p 84 from Prod.ext rfl cp1.symm]; exact iComp_any v Q _ _ W h (wf_small _ (by omega)) (by decide)
  have SM : Hid (∀ v W, Its W v Q → Calls Try.prog 28 #[v, .int .i64 p, .int .i64 84] W (ListCOf W ((compI Q p 84).1, 0))) := Lib.hid fun v W h => by rw [show ((compI Q p 84).1, (0 : Int)) = compI Q p 84 from Prod.ext rfl cp1.symm]; exact sComp_any v Q _ _ W h (wf_small _ (by omega)) (by decide)
  have SS : Hid (∀ u v W (X : List Int), Ints W u X → Ints W v X → Calls Try.prog 29 #[u, v] W (BoolOf W true)) := Lib.hid fun u v W X h1 h2 => by
    have q := sameInts_any u v X X W h1 h2
    rwa [beq_self_eq_true] at q
  generalize (openI Q p).1 = ol at *
  have hz := sumI_le Q
  have SN : Hid ((compI Q p 84).1.length = sumI Q + 1) := Lib.hid cp2
  generalize (compI Q p 84).1 = cl at *
  clear gd op cp1 cp2
  generalize sumI Q = z at *
  have tz : ((z : Int) + 1 == (z : Int) + 1) = true := by simp
  go_wp2_with fail
  refine (IO.out _ _ _ R).mono ?_
  rintro e m8 ⟨v8, rfl, hr8, hb⟩
  have B := below_step B hb
  have R := irow_below R hb
  have O8 := hr8
  obtain ⟨_, A8, c8, rfl, _⟩ := row_ints hr8
  clear hb hr8
  go_wp2_with fail
  refine (SO.out _ _ (irow_its R)).mono ?_
  rintro e m9 ⟨v9, rfl, hr9, hb⟩
  have B := below_step B hb
  have R := irow_below R hb
  have O8 := row_below O8 hb
  have O9 := hr9
  clear hb hr9
  go_wp2_with fail
  refine (IZ.out _ _ (irow_its R)).mono ?_
  rintro e m10 ⟨rfl, hb⟩
  have B := below_step B hb
  have R := irow_below R hb
  have O8 := row_below O8 hb
  have O9 := row_below O9 hb
  clear hb
  go_wp2_with fail
  refine (SZ.out _ _ (irow_its R)).mono ?_
  rintro e m11 ⟨rfl, hb⟩
  have B := below_step B hb
  have R := irow_below R hb
  have O8 := row_below O8 hb
  have O9 := row_below O9 hb
  clear hb
  go_wp2_with fail
  refine (IM.out _ _ (irow_its R)).mono ?_
  rintro e m12 ⟨v12, rfl, hr12, hb⟩
  have B := below_step B hb
  have R := irow_below R hb
  have O8 := row_below O8 hb
  have O9 := row_below O9 hb
  have C12 := hr12
  obtain ⟨_, A12, c12, rfl, _⟩ := row_ints hr12
  clear hb hr12
  go_wp2_with fail
  refine (SM.out _ _ (irow_its R)).mono ?_
  rintro e m13 ⟨v13, rfl, hr13, hb⟩
  have B := below_step B hb
  have O8 := row_below O8 hb
  have O9 := row_below O9 hb
  have C12 := row_below C12 hb
  have C13 := hr13
  have B13 := B
  clear hb hr13 R
  have LC : ((cl.length : Nat) : Int) = (z : Int) + 1 := by rw [SN.out]; simp
  have tl : (((cl.length : Nat) : Int) == (z : Int) + 1) = true := by rw [LC]; simp
  clear LC
  go_wp2_with fail
  refine (SS.out _ _ _ _ (row_ints O8) (row_ints O9)).mono ?_
  rintro e m14 ⟨kkm14, rfl, rfl⟩
  have hb : Below m13.heap.size m13 (m13.drewN kkm14) := below_drewN (Below.refl _ _) _
  have B := below_step B hb
  have C12 := row_below C12 hb
  have C13 := row_below C13 hb
  clear hb O8 O9
  go_wp2_with fail
  refine (SS.out _ _ _ _ (row_ints C12) (row_ints C13)).mono ?_
  rintro e m15 ⟨kkm15, rfl, rfl⟩
  have hb : Below (m13.drewN kkm14).heap.size (m13.drewN kkm14) ((m13.drewN kkm14).drewN kkm15) := below_drewN (Below.refl _ _) _
  have B := below_step B hb
  clear hb C12 C13
  go_wp2
  go_ret
  exact ⟨by first | rfl | simp, below_drewN B13 _⟩

set_option maxRecDepth 100000 in
theorem lifted (os : Os) (started : os.Started) (H : Type) (enc : TypeId × Value → H) :
    ReturnsInHanded {} Try.checked os 4 .any (Rows.fnItemsSpec.pre6 enc Try.prog Try.f4 Rows.fnItemsRow.domain false) (Rows.fnItemsSpec.post enc Try.prog Try.f4 false true false false) := by
  refine returnsInHanded_of_change (C := Try.checked) own started (by kernel_rfl) Try.func4
    (ChangeSpec.witness6 (enc := enc) (C := Try.checked) false ⟨#[], #[.slice none 0 0, .slice none 0 0], []⟩ 8 (by kernel_rfl) (by kernel_rfl) (by kernel_rfl) (by kernel_rfl)) ?_
  intro W base args ds gs before hval0 hW hcnd _
  have hval : ∀ (j : Nat) t v, Try.f4.params[j]? = some t → args[j]? = some v → Value.okWide Try.prog W .any base t v := hval0
  have hW' := hW
  obtain ⟨p, q, hA0, hV, rfl, hfz, hnd⟩ := hW
  have hA : DataW.TrodAll enc Try.prog W 0 (fun _ => true) true Try.f4.params.toList args.toList ds p := hA0
  rw [Try.params4] at hA hval
  obtain ⟨v0, vs0, d0, ds0, p0, q0, hargs, rfl, rfl, h0, r0⟩ := trodAll_cons hA
  obtain ⟨v1, vs1, d1, ds1, p1, q1, rfl, rfl, rfl, h1, r1⟩ := trodAll_cons r0
  obtain ⟨rfl, rfl, rfl⟩ := trodAll_nil r1
  obtain rfl : args = #[v0, v1] := by cases args; simp_all
  obtain ⟨rfl, rfl⟩ := trodVars_none hV
  obtain ⟨a0, len0, cap0, rfl⟩ := okWide_slice Try.underlying22 (hval 0 22 v0 rfl rfl)
  have k0 := h0
  have lt0 : ∀ x ∈ p0, x.block < W.heap.size := by obtain ⟨m, hm⟩ := k0; exact DataW.trod_lt m _ _ _ hm
  obtain ⟨z0, w0⟩ : ∃ zs, BRow W a0 len0 cap0 zs := by
    obtain ⟨fuel, hf⟩ := h0
    rcases open_ints Try.underlying22 Try.underlying5 (by kernel_rfl) hf with ⟨hcs, _⟩ | ⟨x, l, c, zs, hcs, _, hl, hm, hz, _, hcell, hwz⟩
    · simp [Value.cells] at hcs
      obtain ⟨rfl, rfl, rfl⟩ := hcs
      exact ⟨[], .inl ⟨rfl, rfl, rfl, rfl⟩⟩
    · simp [Value.cells] at hcs
      obtain ⟨rfl, rfl, rfl⟩ := hcs
      exact ⟨zs, .inr ⟨_, rfl, hl, hm, by simpa using hz, hcell, hwz⟩⟩
  obtain ⟨a1, len1, cap1, rfl⟩ := okWide_slice Try.underlying22 (hval 1 22 v1 rfl rfl)
  have k1 := h1
  have lt1 : ∀ x ∈ p1, x.block < W.heap.size := by obtain ⟨m, hm⟩ := k1; exact DataW.trod_lt m _ _ _ hm
  obtain ⟨z1, w1⟩ : ∃ zs, BRow W a1 len1 cap1 zs := by
    obtain ⟨fuel, hf⟩ := h1
    rcases open_ints Try.underlying22 Try.underlying5 (by kernel_rfl) hf with ⟨hcs, _⟩ | ⟨x, l, c, zs, hcs, _, hl, hm, hz, _, hcell, hwz⟩
    · simp [Value.cells] at hcs
      obtain ⟨rfl, rfl, rfl⟩ := hcs
      exact ⟨[], .inl ⟨rfl, rfl, rfl, rfl⟩⟩
    · simp [Value.cells] at hcs
      obtain ⟨rfl, rfl, rfl⟩ := hcs
      exact ⟨zs, .inr ⟨_, rfl, hl, hm, by simpa using hz, hcell, hwz⟩⟩
  clear hA0 hval0
  refine (walk a0 len0 cap0 z0 a1 len1 cap1 z1 W w0 w1).mono fun e W' ⟨he, bel⟩ => ?_
  subst he
  exact ⟨_, rfl, _, _, _, [], _, [], hW', trodAll_mk1 (shut_bool Try.underlying4 _), (trodAll_cons_mk (Below.trod laidOut (by kernel_rfl) (of_decide_eq_true (by kernel_rfl)) k0 bel lt0) (trodAll_cons_mk (Below.trod laidOut (by kernel_rfl) (of_decide_eq_true (by kernel_rfl)) k1 bel lt1) trodAll_mk0)), rfl, bel.frame _, fun h => by cases h⟩

theorem over : Rows.fnItemsRow.holds Try.pinned (OpenSpec.ofChange Rows.fnItemsSpec) :=
  OpenClaim.holds_of_wide 4 Try.f4 rfl rfl rfl rfl rfl rfl rfl ⟨rfl, rfl, rfl, rfl, rfl⟩ rfl rfl rfl rfl rfl (by kernel_rfl) Try.func4 (by kernel_rfl)
    (of_decide_eq_true (by kernel_rfl)) (by unfold Func.isWrapper; first | (rw [if_pos (by decide +kernel)]; kernel_rfl) | (rw [if_neg (by decide +kernel)]; exact ⟨rfl, rfl⟩))
    (fun os started H enc _ => lifted os started H enc)

/-- The statement. -/
theorem proved : Rows.FnItemsSaid := over
#print axioms proved
end Go.Proofs.Ytkcogfgjabemfaa.fnItems
