/- PkG: several of my texts, laid together: EffB, EffC, EffD, EffE. -/
import Derived.Test.YthnbaeamekolmaaGreatDoorPkF
import Derived.BigRegion
import Derived.Shelf.Abstract
import Derived.Deep.RegionHeld3
import Derived.Test.YthnbaeamekolmaaGreatDoorShelf
namespace Go.Proofs.YthnbaeamekolmaaGreatDoor
open Go.RowKit
set_option linter.unusedVariables false
set_option linter.unusedSimpArgs false

theorem ints_nil' (w : World) : Ints w (.slice none 0 0) [] := ints_nil w

theorem add_zero' (a : Addr) : a.add 0 = a := by cases a; rfl

/-- The cells that are taken, at hand. -/
theorem taken1 {w : World} {tv : Value} {a : Int} (h : Ints w tv [a]) : ∃ ad c, tv = .slice (some ad) 1 c ∧ w.cell? ad = some (.int .i64 a) := by
  obtain ⟨_, A, c, rfl, hc⟩ := h
  obtain ⟨ad, rfl, hc'⟩ := hc (by simp)
  exact ⟨ad, c, rfl, by have := hc' 0 (by simp); rw [add_zero'] at this; simpa using this⟩

theorem taken2 {w : World} {tv : Value} {a b : Int} (h : Ints w tv [a, b]) : ∃ ad c, tv = .slice (some ad) 2 c ∧ w.cell? ad = some (.int .i64 a) ∧ w.cell? ⟨ad.block, ad.off + 1, none⟩ = some (.int .i64 b) := by
  obtain ⟨_, A, c, rfl, hc⟩ := h
  obtain ⟨ad, rfl, hc'⟩ := hc (by simp)
  exact ⟨ad, c, rfl, by have := hc' 0 (by simp); rw [add_zero'] at this; simpa using this, by have := hc' 1 (by simp); exact this⟩

theorem ints_two (w : World) (a b : Int) : Ints (w.alloc (.cells #[.int .i64 a, .int .i64 b] 3)) (.slice (some ⟨w.heap.size, 0, none⟩) 2 2) [a, b] :=
  row_ints (base := 0) (zs := [a, b]) (row_whole (whole_new w _ _) (Nat.zero_le _) (by unfold maxLen; simp))

set_option maxRecDepth 100000 in
set_option maxHeartbeats 1000000 in
theorem countStack_eff (Tb : World → Prop) (w0 : World) : EffOf Tb w0 (.func (.func 105) #[] #[]) 11 := by
  refine ⟨_, [], rfl, enters_of Tryz.func105 (by kernel_rfl) rfl, fun w lo g d tv _ hb hd _ _ _ _ _ => ?_⟩
  obtain ⟨hg, A1, k1, A2, k2, A3, k3, hw, _⟩ := box_parts hb
  have c0 := (six_cells hw).1
  have HB := Lib.hid hb
  have hl := fine_sl hd
  clear hb hw
  go_enter Tryz.func105, Tryz.ntmps105
  go_wp2
  go_ret2
  exact effR_quiet HB.out (ints_one _ _) (below_alloc (Below.refl _ _) _)

set_option maxRecDepth 100000 in
set_option maxHeartbeats 1000000 in
theorem repeatNonzero_eff (Tb : World → Prop) (w0 : World) : EffOf Tb w0 (.func (.func 104) #[] #[]) 8 := by
  refine ⟨_, [], rfl, enters_of Tryz.func104 (by kernel_rfl) rfl, fun w lo g d tv _ hb hd _ _ ht _ _ => ?_⟩
  obtain ⟨ad, c, rfl, ca⟩ := taken1 (a := tp d 0) ht
  have E : eff d 8 = (d, (if tp d 0 = 0 then [0] else [tp d 0, tp d 0]), 0) := rfl
  rw [E]
  have HB := Lib.hid hb
  clear hb ht E
  generalize tp d 0 = x at *
  by_cases h : x = 0
  · rw [if_pos h]
    subst h
    go_enter Tryz.func104, Tryz.ntmps104
    go_wp2
    go_ret2
    exact effR_quiet HB.out (ints_one _ _) (below_alloc (Below.refl _ _) _)
  · rw [if_neg h]
    have t1 : (x == 0) = false := by rw [beq_eq_false_iff_ne]; exact h
    clear h
    go_enter Tryz.func104, Tryz.ntmps104
    go_wp2
    go_region
    all_goals
      go_wp2
      go_ret2
      exact effR_quiet HB.out (ints_two _ _ _) (below_alloc (Below.refl _ _).drew _)

set_option maxRecDepth 100000 in
set_option maxHeartbeats 1000000 in
theorem endOfCells_eff (Tb : World → Prop) (w0 : World) : EffOf Tb w0 (.func (.func 124) #[] #[]) 42 := by
  refine ⟨_, [], rfl, enters_of Tryz.func124 (by kernel_rfl) rfl, fun w lo g d tv _ hb hd _ _ _ _ _ => ?_⟩
  obtain ⟨hg, A1, k1, A2, k2, A3, k3, hw, _⟩ := box_parts hb
  have c3 := (six_cells hw).2.2.2.1
  have HB := Lib.hid hb
  have q0 := fine_h0 hd
  have q1 := fine_h1 hd
  clear hb hw
  go_enter Tryz.func124, Tryz.ntmps124
  go_wp2
  go_ret2
  exact effR_quiet HB.out (ints_one _ _) (below_alloc (Below.refl _ _) _)

set_option maxRecDepth 100000 in
set_option maxHeartbeats 1000000 in
theorem copyBackTop_eff (Tb : World → Prop) (w0 : World) (p : Nat) (hp : p = 13 ∨ p = 14 ∨ p = 51) : EffOf Tb w0 (.func (.func 107) #[] #[]) p := by
  refine ⟨_, [], rfl, enters_of Tryz.func107 (by kernel_rfl) rfl, fun w lo g d tv _ hb hd _ hn _ _ _ => ?_⟩
  have hn1 : 1 ≤ d.b.length := by
    have : needsP p = 1 := by rcases hp with rfl | rfl | rfl <;> rfl
    omega
  have E : eff d p = (d, [d.b.getLastD 0], 0) := by rcases hp with rfl | rfl | rfl <;> rfl
  rw [E]
  obtain ⟨hg, A1, k1, A2, k2, A3, k3, hw, r1, r2, r3, _⟩ := box_parts hb
  have c1 := (six_cells hw).2.1
  obtain ⟨g2, k2', hA, hg1, hg1', hlc, hcm⟩ := row_form r2 (by omega)
  simp only [Value.slice.injEq, true_and] at hA
  obtain ⟨rfl, rfl⟩ := hA
  have hm : d.b.length - 1 < d.b.length := by omega
  have cm := row_cell r2 (d.b.length - 1) hm
  have LA : Hid (d.b.getLastD 0 = d.b[d.b.length - 1]) := Lib.hid (by
    rw [List.getLastD_eq_getLast?, List.getLast?_eq_getElem?]; simp [hm])
  rw [LA.out]
  have HB := Lib.hid hb
  have hl := fine_bl hd
  clear hb hw E LA hd hcm r1 r2 r3
  generalize d.b[d.b.length - 1]'_ = top at *
  go_enter Tryz.func107, Tryz.ntmps107
  go_wp2
  go_region
  all_goals
    go_wp2
    go_ret2
    exact effR_quiet HB.out (ints_one _ _) (below_alloc (Below.refl _ _).drew _)

theorem below_undrew {lo : Nat} {w w' : World} (h : Below lo w.drew w') : Below lo w w' := ⟨h.os, h.tape, h.output, h.size, h.block⟩

theorem storeM_any (lo g : Nat) (d : Dt) (x n : Int) (w : World) (hb : BoxIs w lo g d) (hd : DtFine d) (hr1 : x ≤ 9223372036854775807) :
    Calls Tryz.prog 186 #[.pointer (some ⟨g, 0, none⟩), .int .i64 x, .int .i64 n] w (MethOf w lo g (storeE d n x).1 (.int .i64 (storeE d n x).2.2)) := by
  unfold storeE
  cases hk : dPlace d x with
  | none => exact store_none lo g d x n w hb hd hr1 hk
  | some k => exact store_some lo g d x n k w hb hd hk

theorem storeE_nil (d : Dt) (n x : Int) : (storeE d n x).2.1 = [] := by unfold storeE; split <;> rfl

set_option maxRecDepth 100000 in
set_option maxHeartbeats 1000000 in
theorem storeCell_eff (Tb : World → Prop) (w0 : World) : EffOf Tb w0 (.func (.func 122) #[] #[]) 40 := by
  refine ⟨_, [], rfl, enters_of Tryz.func122 (by kernel_rfl) rfl, fun w lo g d tv _ hb hd _ _ ht _ _ => ?_⟩
  obtain ⟨ad, c, rfl, ca, cb⟩ := taken2 (a := tp d 1) (b := tp d 0) ht
  have E : eff d 40 = storeE d (tp d 1) (tp d 0) := rfl
  rw [E]
  have x1 := (tp_cell hd 0).2
  have HB := Lib.hid hb
  have HD := Lib.hid hd
  have N := Lib.hid (storeE_nil d (tp d 1) (tp d 0))
  have M : Hid (∀ W, BoxIs W lo g d → Calls Tryz.prog 186 #[.pointer (some ⟨g, 0, none⟩), .int .i64 (tp d 0), .int .i64 (tp d 1)] W (MethOf W lo g (storeE d (tp d 1) (tp d 0)).1 (.int .i64 (storeE d (tp d 1) (tp d 0)).2.2))) :=
    Lib.hid fun W h => storeM_any lo g d (tp d 0) (tp d 1) W h hd (by omega)
  clear hb hd ht E
  generalize storeE d (tp d 1) (tp d 0) = r at *
  obtain ⟨d', L, t⟩ := r
  simp only at N M
  have N' := N.out
  subst N'
  clear N
  generalize tp d 0 = x at *
  generalize tp d 1 = y at *
  go_enter Tryz.func122, Tryz.ntmps122
  go_wp2
  go_region_with (go_at_call 186; refine (M.out _ (by exact HB.out)).mono ?_; rintro e w' ⟨rfl, hb', hw', hk'⟩)
  all_goals
    go_wp2
    go_ret2
    exact ⟨_, rfl, hb', ints_nil _, below_undrew hw', hk'⟩

end Go.Proofs.YthnbaeamekolmaaGreatDoor

namespace Go.Proofs.YthnbaeamekolmaaGreatDoor
open Go.RowKit
set_option linter.unusedVariables false
set_option linter.unusedSimpArgs false

theorem fetchM_any (lo g : Nat) (d : Dt) (x : Int) (w : World) (hb : BoxIs w lo g d) (hd : DtFine d) (hr1 : x ≤ 9223372036854775807) :
    Calls Tryz.prog 185 #[.pointer (some ⟨g, 0, none⟩), .int .i64 x] w fun e w' => e = .returned (.tuple #[.int .i64 ((fetchE d x).2.1.headD 0), .int .i64 (fetchE d x).2.2]) ∧ w = w' := by
  obtain ⟨hg, A1, k1, A2, k2, A3, k3, hw, r1, r2, r3, _⟩ := box_parts hb
  unfold fetchE
  cases hk : dPlace d x with
  | none => exact fetch_none g _ _ _ _ d x w hw (fine_h0 hd) (fine_h1 hd) hr1 hk
  | some k =>
    have hk2 := (place_lt hk hd).2
    obtain ⟨g3, k3', hA, hg1, hg1', hlc, hcm⟩ := row_form r3 (by omega)
    simp only [Value.slice.injEq, true_and] at hA
    obtain ⟨rfl, rfl⟩ := hA
    have ko := row_cell r3 k hk2
    have h := fetch_some g _ _ _ ⟨g3, 0, none⟩ k3 d x k d.c[k] w hw (fine_h0 hd) (fine_h1 hd) (fine_cl hd) hk (by rw [Addr.add_lit, Nat.zero_add]; exact ko)
    have e : (d.c.getD k 0) = d.c[k] := by simp [hk2]
    rw [← e] at h
    exact h

theorem fetchE_one (d : Dt) (x : Int) : ∃ n, (fetchE d x).2.1 = [n] ∧ (fetchE d x).1 = d := by unfold fetchE; split <;> exact ⟨_, rfl, rfl⟩

set_option maxRecDepth 100000 in
set_option maxHeartbeats 1000000 in
theorem fetchCell_eff (Tb : World → Prop) (w0 : World) : EffOf Tb w0 (.func (.func 121) #[] #[]) 39 := by
  refine ⟨_, [], rfl, enters_of Tryz.func121 (by kernel_rfl) rfl, fun w lo g d tv _ hb hd _ _ ht _ _ => ?_⟩
  obtain ⟨ad, c, rfl, ca⟩ := taken1 (a := tp d 0) ht
  have E : eff d 39 = fetchE d (tp d 0) := rfl
  rw [E]
  have x1 := (tp_cell hd 0).2
  have HB := Lib.hid hb
  have M := Lib.hid (fetchM_any lo g d (tp d 0) w hb hd (by omega))
  obtain ⟨n, hn, hn2⟩ := fetchE_one d (tp d 0)
  rw [hn] at M
  clear hb hd ht E
  generalize fetchE d (tp d 0) = r at *
  obtain ⟨d', L, t⟩ := r
  simp only at hn hn2 M
  subst hn hn2
  generalize tp d' 0 = x at *
  go_enter Tryz.func121, Tryz.ntmps121
  go_wp2_with (go_at_call 185; refine M.out.mono ?_; rintro e w' ⟨rfl, rfl⟩)
  go_ret2
  exact effR_quiet HB.out (ints_one _ _) (below_alloc (Below.refl _ _) _)

theorem allotM_any (lo g : Nat) (d : Dt) (n : Int) (w : World) (hb : BoxIs w lo g d) (hd : DtFine d) (hn : cellB n = true) :
    Calls Tryz.prog 188 #[.pointer (some ⟨g, 0, none⟩), .int .i64 n] w (MethOf w lo g (allotE d n).1 (.int .i64 (allotE d n).2.2)) := by
  unfold allotE
  by_cases h : goodMove d n
  · rw [if_pos h]
    by_cases hq : n.tdiv 4 ≤ 0
    · exact allot_down lo g d n w hb hd hn h hq
    · exact allot_up lo g d n w hb hd hn h (by omega)
  · rw [if_neg h]
    exact allot_no lo g d n w hb hd hn h

theorem allotE_nil (d : Dt) (n : Int) : (allotE d n).2.1 = [] := by unfold allotE; split <;> rfl

set_option maxRecDepth 100000 in
set_option maxHeartbeats 1000000 in
theorem allotBytes_eff (Tb : World → Prop) (w0 : World) : EffOf Tb w0 (.func (.func 125) #[] #[]) 43 := by
  refine ⟨_, [], rfl, enters_of Tryz.func125 (by kernel_rfl) rfl, fun w lo g d tv _ hb hd _ _ ht _ _ => ?_⟩
  obtain ⟨ad, c, rfl, ca⟩ := taken1 (a := tp d 0) ht
  have E : eff d 43 = allotE d (tp d 0) := rfl
  rw [E]
  have M := Lib.hid (allotM_any lo g d (tp d 0) w hb hd (cellB_true.2 (tp_cell hd 0)))
  have N := allotE_nil d (tp d 0)
  clear hb hd ht E
  generalize allotE d (tp d 0) = r at *
  obtain ⟨d', L, t⟩ := r
  simp only at N M
  subst N
  generalize tp d 0 = x at *
  go_enter Tryz.func125, Tryz.ntmps125
  go_wp2_with (go_at_call 188; refine M.out.mono ?_; rintro e w' ⟨rfl, hb', hw', hk'⟩)
  go_ret2
  exact ⟨_, rfl, hb', ints_nil _, hw', hk'⟩

/-- Something said, behind a pointer. -/
theorem sayM_any (lo g : Nat) (d : Dt) (s : ByteArray) (w : World) (hb : BoxIs w lo g d) (hd : DtFine d) (hs : s.size ≤ 65536) :
    Calls Tryz.prog 189 #[.pointer (some ⟨g, 0, none⟩), .string s] w (MethOf w lo g (sayE d s).1 (.int .i64 (sayE d s).2.2)) := by
  unfold sayE
  by_cases h : 300 < d.o.size + s.size
  · rw [if_pos h]; exact say_full lo g d s w hb (fine_o hd) hs h
  · rw [if_neg h]; exact say_more lo g d s w hb (fine_o hd) hs (by omega)

theorem sayE_nil (d : Dt) (s : ByteArray) : (sayE d s).2.1 = [] := by unfold sayE; split <;> rfl

theorem byte_nat (x : Int) : ((UInt8.ofNat (x % 256).toNat).toNat : Int) = x % 256 := by
  rw [UInt8.toNat_ofNat']
  omega

set_option maxRecDepth 100000 in
set_option maxHeartbeats 1000000 in
theorem sayByte_eff (Tb : World → Prop) (w0 : World) : EffOf Tb w0 (.func (.func 127) #[] #[]) 45 := by
  refine ⟨_, [], rfl, enters_of Tryz.func127 (by kernel_rfl) rfl, fun w lo g d tv _ hb hd _ _ ht _ _ => ?_⟩
  obtain ⟨ad, c, rfl, ca⟩ := taken1 (a := tp d 0) ht
  have E : eff d 45 = sayE d (byteT (tp d 0)) := rfl
  rw [E]
  have HB := Lib.hid hb
  have M : Hid (∀ W, BoxIs W lo g d → Calls Tryz.prog 189 #[.pointer (some ⟨g, 0, none⟩), .string (byteT (tp d 0))] W (MethOf W lo g (sayE d (byteT (tp d 0))).1 (.int .i64 (sayE d (byteT (tp d 0))).2.2))) :=
    Lib.hid fun W h => sayM_any lo g d _ W h hd (by unfold byteT; show (1 : Nat) ≤ _; omega)
  have N := sayE_nil d (byteT (tp d 0))
  have hcv := conv_one w (UInt8.ofNat ((tp d 0) % 256).toNat)
  rw [byte_nat] at hcv
  have hT : (⟨#[UInt8.ofNat ((tp d 0) % 256).toNat]⟩ : ByteArray) = byteT (tp d 0) := rfl
  rw [hT] at hcv
  clear hb hd ht E hT
  generalize sayE d (byteT (tp d 0)) = r at *
  obtain ⟨d', L, t⟩ := r
  simp only at N M
  subst N
  generalize byteT (tp d 0) = T at *
  generalize tp d 0 = x at *
  go_enter Tryz.func127, Tryz.ntmps127
  go_wp2_with (go_at_call 189; refine (M.out _ (by exact box_below HB.out (below_alloc (Below.refl _ _) _))).mono ?_; rintro e w' ⟨rfl, hb', hw', hk'⟩)
  go_ret2
  exact ⟨_, rfl, hb', ints_nil _, (below_lo HB.out (below_alloc (Below.refl _ _) _)).trans (hw'.mono (Nat.le_refl _)), keep_after HB.out (below_alloc (Below.refl _ _) _) hk'⟩

/-- An append of numbers as one step of a statement in no fixed order. -/
theorem step_append_ints {w : World} {ops : Array Oper} {o : Oper} {a : Act} {K : Act → World → Prop} {Q : Exit → Act → World → Prop} {E : Prop} (hgd : o.guard = none) (s x : Operand)
    (ho : o.op = .call { callee := .builtin .append, args := #[s, x], argTypes := #[23, 23] }) (hty : o.type = 23)
    (base : Nat) (v : Value) (ys : List Int) (hs : a.eval s = v) (hown : Row w base v ys) (u : Value) (zs : List Int) (hx : a.eval x = u) (hz : Ints w u zs) (hl : ys.length + zs.length ≤ 1099511627776) (hbase : base ≤ w.heap.size)
    (h : ∀ v' w', Row w' base v' (ys ++ zs) → w.grownBy w' v.ownBlock → (v'.ownBlock = v.ownBlock ∨ v'.ownBlock = some w.heap.size) → K (a.put o.dst v') w') :
    if Region.wanted o (yielded ops a.tmps) = true then Oper.wp Tryz.prog o a w K Q else E := by
  have hw : Region.wanted o (yielded ops a.tmps) = true := by simp [Region.wanted, hgd]
  rw [if_pos hw]
  obtain ⟨v', w', hrun, h2, h3, h4⟩ := run_append_ints w base v ys hown u zs hz hl hbase
  unfold Oper.wp execOp
  simp only [ho, hty, resolve, invoke, builtin, Sem.run_bind, Sem.run_pure, Result.andThen_ok, List.map_toArray, List.map_cons, List.map_nil, hs, hx, hrun]
  exact h v' w' h2 h3 h4

set_option maxRecDepth 100000 in
set_option maxHeartbeats 1000000 in
theorem moveToBack_full (Tb : World → Prop) (w : World) (lo g : Nat) (d : Dt) (tv : Value) (hb : BoxIs w lo g d) (hd : DtFine d) (hf : ¬ d.b.length < 32) :
    Calls Tryz.prog 106 #[.pointer (some ⟨g, 0, none⟩), tv] w (EffR w lo g (d, [], -5)) := by
  obtain ⟨hg, A1, k1, A2, k2, A3, k3, hw, _⟩ := box_parts hb
  have c1 := (six_cells hw).2.1
  have HB := Lib.hid hb
  have hl := fine_bl hd
  have hf2 : 32 ≤ d.b.length := by omega
  clear hb hw hf
  go_enter Tryz.func106, Tryz.ntmps106
  go_wp2
  go_ret2
  exact effR_quiet HB.out (ints_nil _) (Below.refl _ _)

set_option maxRecDepth 100000 in
set_option maxHeartbeats 2000000 in
theorem moveToBack_more (Tb : World → Prop) (w : World) (lo g : Nat) (d : Dt) (x : Int) (ad : Addr) (c : Nat) (hb : BoxIs w lo g d) (hd : DtFine d) (hf : d.b.length < 32) (ca : w.cell? ad = some (.int .i64 x)) :
    Calls Tryz.prog 106 #[.pointer (some ⟨g, 0, none⟩), .slice (some ad) 1 c] w (EffR w lo g ({ d with b := d.b ++ [x] }, [], 0)) := by
  obtain ⟨hg, A1, k1, A2, k2, A3, k3, hw, r1, r2, r3, h4, p1, p2, p3⟩ := box_parts hb
  have HW := Lib.hid hw
  have c1 := (six_cells hw).2.1
  have hlt := whole_lt hw
  clear hb hw
  go_enter Tryz.func106, Tryz.ntmps106
  go_wp2
  go_region_law (first
      | (refine step_append_ints (w := (w.alloc (.cells #[.int .i64 x] 3)).drew) rfl (.tmp 16) (.tmp 20) rfl rfl lo (.slice A2 d.b.length k2) d.b rfl (by exact row_alloc r2 _) _ [x] rfl (by exact ints_one w x) (by simp; omega) (by simp; omega) ?_
         intro v2 w2 hr hg2 hat
         have hbk : Below lo w w2 := (below_drewN ((Below.refl _ _).alloc (by omega) _) 1).grown hg2 (by simp; omega) (fun k hk => (row_lt r2 k hk).1)
         have KP := keep_own (keep_second HW.out (w1 := (w.alloc (.cells #[.int .i64 x] 3)).drew) (below_drewN (below_alloc (Below.refl _ _) _) 1) hg2) 1
         have n2 := row_not_whole r2 HW.out
         have W2 : Whole w2 g 40 #[.slice A1 d.s.length k1, .slice A2 d.b.length k2, .slice A3 d.c.length k3, .int .i64 d.h, .int .i64 d.n, .string d.o] := whole_keep (whole_alloc HW.out _) (hg2.block _ (by simp; omega) (fun e => n2 e.symm))
         have X2 : Row w2 lo (.slice A1 d.s.length k1) d.s := row_mark (w := (w.alloc (.cells #[.int .i64 x] 3)).drew) (row_alloc r1 _) hg2 p1
         have Z2 : Row w2 lo (.slice A3 d.c.length k3) d.c := row_mark (w := (w.alloc (.cells #[.int .i64 x] 3)).drew) (row_alloc r3 _) hg2 (parted_sym p3)
         have q1 : Parted (.slice A1 d.s.length k1) v2 := fun k hk hk2 => by
           rcases hat with e | e
           · exact p1 k hk (e ▸ hk2)
           · rw [e] at hk2; have := (row_lt r1 k hk).2; simp at hk2; omega
         have q3 : Parted v2 (.slice A3 d.c.length k3) := fun k hk hk2 => by
           rcases hat with e | e
           · exact p3 k (e ▸ hk) hk2
           · rw [e] at hk; have := (row_lt r3 k hk2).2; simp at hk; omega
         obtain ⟨_, C1, j1, rfl, _⟩ := row_ints hr
         have hr' : Row w2 lo (.slice C1 (d.b.length + 1) j1) (d.b ++ [x]) := by
           have e : (d.b ++ [x]).length = d.b.length + 1 := by simp
           rw [← e]; exact hr
         rw [show (d.b ++ [x]).length = d.b.length + 1 by simp] at q1 q3
         have d1 := (six_cells W2).2.1
         have f1 := whole_free W2 1
         have V3 : Whole (w2.setCell ⟨g, 1, none⟩ (.slice C1 (d.b.length + 1) j1)) g 40 #[.slice A1 d.s.length k1, .slice C1 (d.b.length + 1) j1, .slice A3 d.c.length k3, .int .i64 d.h, .int .i64 d.n, .string d.o] := whole_set W2 1 _
         have x1 := row_not_whole X2 W2
         have x2 := row_not_whole hr' W2
         have x3 := row_not_whole Z2 W2
         clear hg2 hat))
  all_goals
    go_wp2
    go_ret2
    exact ⟨_, rfl, box_of hg V3 (row_apart X2 x1) (row_apart hr' x2) (row_apart Z2 x3) h4 q1 p2 q3, ints_nil _, hbk.setCell hg _, KP _⟩

theorem moveToBack_eff (Tb : World → Prop) (w0 : World) : EffOf Tb w0 (.func (.func 106) #[] #[]) 12 := by
  refine ⟨_, [], rfl, enters_of Tryz.func106 (by kernel_rfl) rfl, fun w lo g d tv _ hb hd _ _ ht _ _ => ?_⟩
  obtain ⟨ad, c, rfl, ca⟩ := taken1 (a := tp d 0) ht
  have E : eff d 12 = backE d (tp d 0) := rfl
  rw [E]
  unfold backE
  by_cases h : d.b.length < 32
  · rw [if_pos h]; exact moveToBack_more Tb w lo g d _ ad c hb hd h ca
  · rw [if_neg h]; exact moveToBack_full Tb w lo g d _ hb hd h

end Go.Proofs.YthnbaeamekolmaaGreatDoor

namespace Go.Proofs.YthnbaeamekolmaaGreatDoor
open Go.RowKit
set_option linter.unusedVariables false
set_option linter.unusedSimpArgs false

/-- The flags of a comparison: equal, unequal, less, greater. -/
def flV (t : Nat) (b c : Int) : Int := if t = 0 then flagI (b == c) else if t = 1 then flagI (b != c) else if t = 2 then flagI (decide (b < c)) else flagI (decide (c < b))

/-- The table of flags is laid. -/
def FlagsAt (w : World) : Prop := ∀ t j, t < 4 → j < 3 → w.cell? ⟨0, 3 * t + j, none⟩ = some (.int .i64 (flV t j 1))

theorem flagsAt_below {w w' : World} (h : FlagsAt w) (hb : Below w.heap.size w w') : FlagsAt w' := fun t j ht hj => by
  rw [hb.cell (World.block_lt_of_cell? w _ (h t j ht hj))]; exact h t j ht hj

/-- A function value on one cell. -/
def Num1 (Tb : World → Prop) (w0 : World) (fv : Value) (h : Int → Int) : Prop :=
  ∃ (f : FuncId) (cap : List Value), fv = .func (.func f) #[] cap.toArray ∧ Entered f ∧
    ∀ (w : World) (c : Int), Below w0.heap.size w0 w → -2147483648 ≤ c → c ≤ 2147483647 → Tb w → Calls Tryz.prog f (.int .i64 c :: cap).toArray w fun e w' => e = .returned (.int .i64 (h c)) ∧ ∃ n, w' = w.drewN n

/-- A function value on two cells. -/
def Num2 (Tb : World → Prop) (w0 : World) (fv : Value) (h : Int → Int → Int) : Prop :=
  ∃ (f : FuncId) (cap : List Value), fv = .func (.func f) #[] cap.toArray ∧ Entered f ∧
    ∀ (w : World) (b c : Int), Below w0.heap.size w0 w → -2147483648 ≤ b → b ≤ 2147483647 → -2147483648 ≤ c → c ≤ 2147483647 → Tb w → Calls Tryz.prog f (.int .i64 b :: .int .i64 c :: cap).toArray w fun e w' => e = .returned (.int .i64 (h b c)) ∧ ∃ n, w' = w.drewN n

set_option maxRecDepth 100000 in
set_option maxHeartbeats 1000000 in
theorem negate_num (Tb : World → Prop) (w0 : World) : Num1 Tb w0 (.func (.func 110) #[] #[]) fun c => -c := by
  refine ⟨_, [], rfl, enters_of Tryz.func110 (by kernel_rfl) rfl, fun w c _ c1 c2 _ => ?_⟩
  go_enter Tryz.func110, Tryz.ntmps110
  go_wp2
  go_ret
  exact ⟨rfl, 0, rfl⟩

set_option maxRecDepth 100000 in
set_option maxHeartbeats 1000000 in
theorem invert_num (Tb : World → Prop) (w0 : World) : Num1 Tb w0 (.func (.func 112) #[] #[]) fun c => -c - 1 := by
  refine ⟨_, [], rfl, enters_of Tryz.func112 (by kernel_rfl) rfl, fun w c _ c1 c2 _ => ?_⟩
  go_enter Tryz.func112, Tryz.ntmps112
  go_wp2
  go_ret
  exact ⟨rfl, 0, rfl⟩

set_option maxRecDepth 100000 in
set_option maxHeartbeats 1000000 in
theorem addOne_num (Tb : World → Prop) (w0 : World) : Num1 Tb w0 (.func (.func 113) #[] #[]) fun c => c + 1 := by
  refine ⟨_, [], rfl, enters_of Tryz.func113 (by kernel_rfl) rfl, fun w c _ c1 c2 _ => ?_⟩
  go_enter Tryz.func113, Tryz.ntmps113
  go_wp2
  go_ret
  exact ⟨rfl, 0, rfl⟩

set_option maxRecDepth 100000 in
set_option maxHeartbeats 1000000 in
theorem subtractOne_num (Tb : World → Prop) (w0 : World) : Num1 Tb w0 (.func (.func 114) #[] #[]) fun c => c - 1 := by
  refine ⟨_, [], rfl, enters_of Tryz.func114 (by kernel_rfl) rfl, fun w c _ c1 c2 _ => ?_⟩
  go_enter Tryz.func114, Tryz.ntmps114
  go_wp2
  go_ret
  exact ⟨rfl, 0, rfl⟩

set_option maxRecDepth 100000 in
set_option maxHeartbeats 1000000 in
theorem absolute_num (Tb : World → Prop) (w0 : World) : Num1 Tb w0 (.func (.func 111) #[] #[]) fun c => max c (-c) := by
  refine ⟨_, [], rfl, enters_of Tryz.func111 (by kernel_rfl) rfl, fun w c _ c1 c2 _ => ?_⟩
  rcases Int.lt_or_le c (-c) with h | h
  · have E := Lib.hid (show max c (-c) = -c by omega)
    go_enter Tryz.func111, Tryz.ntmps111
    go_wp2
    go_ret
    exact ⟨ret_int (by first | exact E.out.symm | (simp; done) | (simp; omega)), 0, rfl⟩
  · have E := Lib.hid (show max c (-c) = c by omega)
    go_enter Tryz.func111, Tryz.ntmps111
    go_wp2
    go_ret
    exact ⟨ret_int (by first | exact E.out.symm | (simp; done) | (simp; omega)), 0, rfl⟩

set_option maxRecDepth 100000 in
set_option maxHeartbeats 1000000 in
theorem lesser_num (Tb : World → Prop) (w0 : World) : Num2 Tb w0 (.func (.func 116) #[] #[]) fun b c => min b c := by
  refine ⟨_, [], rfl, enters_of Tryz.func116 (by kernel_rfl) rfl, fun w b c _ b1 b2 c1 c2 _ => ?_⟩
  go_enter Tryz.func116, Tryz.ntmps116
  go_wp2
  go_ret
  exact ⟨ret_int (by first | rfl | (split <;> omega) | (simp; omega)), 0, rfl⟩

set_option maxRecDepth 100000 in
set_option maxHeartbeats 1000000 in
theorem greater_num (Tb : World → Prop) (w0 : World) : Num2 Tb w0 (.func (.func 117) #[] #[]) fun b c => max b c := by
  refine ⟨_, [], rfl, enters_of Tryz.func117 (by kernel_rfl) rfl, fun w b c _ b1 b2 c1 c2 _ => ?_⟩
  go_enter Tryz.func117, Tryz.ntmps117
  go_wp2
  go_ret
  exact ⟨ret_int (by first | rfl | (split <;> omega) | (simp; omega)), 0, rfl⟩

theorem cmp3 (b c : Int) : ∃ j : Nat, j < 3 ∧ Lib.compareInt b c = (j : Int) - 1 ∧ ∀ t, flV t b c = flV t j 1 := by
  unfold Lib.compareInt
  rcases Int.lt_or_le b c with h | h
  · refine ⟨0, by decide, by rw [if_pos h]; rfl, fun t => ?_⟩
    have h1 : (b == c) = false := by rw [beq_eq_false_iff_ne]; omega
    have h2 : (b != c) = true := by rw [bne_iff_ne]; omega
    have h3 : decide (c < b) = false := by rw [decide_eq_false_iff_not]; omega
    unfold flV
    rw [h1, h2, h3, decide_eq_true h]
    rfl
  · rcases Int.lt_or_le c b with h' | h'
    · refine ⟨2, by decide, by rw [if_neg (by omega), if_pos h']; rfl, fun t => ?_⟩
      have h1 : (b == c) = false := by rw [beq_eq_false_iff_ne]; omega
      have h2 : (b != c) = true := by rw [bne_iff_ne]; omega
      have h3 : decide (b < c) = false := by rw [decide_eq_false_iff_not]; omega
      unfold flV
      rw [h1, h2, h3, decide_eq_true h']
      rfl
    · obtain rfl : b = c := by omega
      refine ⟨1, by decide, by rw [if_neg (by omega), if_neg (by omega)]; rfl, fun t => ?_⟩
      have h2 : (b != b) = false := by simp
      unfold flV
      rw [h2]
      simp

set_option maxRecDepth 100000 in
set_option maxHeartbeats 1000000 in
theorem flagOf_any (t : Nat) (b c : Int) (w : World) (ht : t < 4) (hf : FlagsAt w) :
    Calls Tryz.prog 183 #[.int .i64 t, .int .i64 b, .int .i64 c] w fun e w' => e = .returned (.int .i64 (flV t b c)) ∧ ∃ n, w' = w.drewN n := by
  obtain ⟨j, hj, hc, hv⟩ := cmp3 b c
  rw [hv]
  have F := hf t j ht hj
  have CT : Hid (∀ W, Calls Tryz.prog 225 #[.int .i64 b, .int .i64 c] W fun e w' => e = .returned (.int .i64 ((j : Int) - 1)) ∧ W = w') := Lib.hid fun W => (Tryz.cmp_Compare_int b c W).mono fun e w' h => ⟨by rw [h.1, hc], h.2.symm⟩
  generalize flV t j 1 = r at *
  have hj3 : j = 0 ∨ j = 1 ∨ j = 2 := by omega
  have ht4 : t = 0 ∨ t = 1 ∨ t = 2 ∨ t = 3 := by omega
  clear hc hv hf hj ht
  rcases ht4 with rfl | rfl | rfl | rfl
  all_goals rcases hj3 with rfl | rfl | rfl
  all_goals
    simp at F
    go_enter Tryz.func183, Tryz.ntmps183
    go_wp2
    go_region_with (go_at_call 225; refine (CT.out _).mono ?_; rintro e w' ⟨rfl, rfl⟩)
    go_wp2
    go_ret
    exact ⟨rfl, 1, rfl⟩

end Go.Proofs.YthnbaeamekolmaaGreatDoor

namespace Go.Proofs.YthnbaeamekolmaaGreatDoor
open Go.RowKit
set_option linter.unusedVariables false
set_option linter.unusedSimpArgs false

/-- What a maker of effects leaves. -/
def MadeOf (E : World → Value → Prop) (w : World) (e : Ending) (w' : World) : Prop := ∃ r, e = .returned r ∧ E w' r ∧ Below w.heap.size w w'

/-- What is asked of the tables' condition. -/
def Stable (Tb : World → Prop) : Prop := ∀ w w', Tb w → Below w.heap.size w w' → Tb w'

theorem stable_drew {Tb : World → Prop} (h : Stable Tb) {w : World} (hw : Tb w) : Tb w.drew := h w _ hw (Below.refl _ _).drew

/-- What an effect that only reads leaves. -/
def LeftOf (w : World) (L : List Int) (t : Int) (e : Ending) (w' : World) : Prop := ∃ lv, e = .returned (.tuple #[lv, .int .i64 t]) ∧ Ints w' lv L ∧ Below w.heap.size w w'

theorem left_eff {w w' : World} {lo g : Nat} {d : Dt} {L : List Int} {t : Int} {e : Ending} (hb : BoxIs w lo g d) (h : LeftOf w L t e w') : EffR w lo g (d, L, t) e w' := by
  obtain ⟨lv, rfl, hi, hl⟩ := h
  exact effR_quiet hb hi hl

/-- An effect whose function keeps one value in a block of its own. -/
theorem eff_kept {Tb : World → Prop} {f : FuncId} {w0 : World} {g0 p : Nat} (he : Entered f)
    (h : ∀ (w : World) (lo g : Nat) (d : Dt) (tv : Value), Below w0.heap.size w0 w → BoxIs w lo g d → DtFine d → takesP p ≤ d.s.length → needsP p ≤ d.b.length → Ints w tv (tkOf d (takesP p)) → Tb w → Away w g tv →
      Calls Tryz.prog f #[.pointer (some ⟨g, 0, none⟩), tv, .pointer (some ⟨g0, 0, none⟩)] w (EffR w lo g (eff d p))) : EffOf Tb w0 (.func (.func f) #[] #[.pointer (some ⟨g0, 0, none⟩)]) p :=
  ⟨f, [.pointer (some ⟨g0, 0, none⟩)], rfl, he, h⟩

set_option maxRecDepth 100000 in
set_option maxHeartbeats 1000000 in
theorem onOneF_any (Tb : World → Prop) (hS : Stable Tb) (w0 w : World) (ptr tv fv : Value) (g : Nat) (x : Int) (h : Int → Int) (hn : Num1 Tb w0 fv h) (hb : Below w0.heap.size w0 w) (hw : Whole w g 144 #[fv]) (ht : Ints w tv [x]) (x1 : -2147483648 ≤ x) (x2 : x ≤ 2147483647) (hT : Tb w) :
    Calls Tryz.prog 179 #[ptr, tv, .pointer (some ⟨g, 0, none⟩)] w (LeftOf w [wrap32 (h x)] 0) := by
  obtain ⟨ad, c, rfl, ca⟩ := taken1 ht
  obtain ⟨f, cap, rfl, he, hc⟩ := hn
  have C : Hid (Calls Tryz.prog f (.int .i64 x :: cap).toArray w.drew fun e w' => e = .returned (.int .i64 (h x)) ∧ ∃ n, w' = w.drewN n) := Lib.hid ((hc w.drew x hb.drew x1 x2 (stable_drew hS hT)).mono fun e w' h => ⟨h.1, by obtain ⟨m, hm⟩ := h.2; exact ⟨_, hm.trans (World.drewN_drewN w 1 m)⟩⟩)
  have c0 := whole_cell hw 0
  simp at c0
  unfold Entered at he
  clear hc hw ht hb hT
  go_enter Tryz.func179, Tryz.ntmps179
  go_wp2
  go_region_with (first | (go_at_fn f; refine C.out.mono ?_; rintro e w' ⟨rfl, n, rfl⟩) | (go_at_call 180; refine (wrapCell_any _ _).mono ?_; rintro e w' ⟨rfl, rfl⟩))
  all_goals
    go_wp2
    go_ret2
    exact ⟨_, rfl, ints_one (w.drewN n) _, below_alloc (below_drewN (Below.refl _ _) n) _⟩

set_option maxRecDepth 100000 in
set_option maxHeartbeats 1000000 in
theorem onTwoF_any (Tb : World → Prop) (hS : Stable Tb) (w0 w : World) (ptr tv fv : Value) (g : Nat) (b x : Int) (h : Int → Int → Int) (hn : Num2 Tb w0 fv h) (hb : Below w0.heap.size w0 w) (hw : Whole w g 151 #[fv]) (ht : Ints w tv [b, x]) (b1 : -2147483648 ≤ b) (b2 : b ≤ 2147483647) (x1 : -2147483648 ≤ x) (x2 : x ≤ 2147483647) (hT : Tb w) :
    Calls Tryz.prog 181 #[ptr, tv, .pointer (some ⟨g, 0, none⟩)] w (LeftOf w [h b x] 0) := by
  obtain ⟨ad, c, rfl, ca, cb⟩ := taken2 ht
  obtain ⟨f, cap, rfl, he, hc⟩ := hn
  have C : Hid (Calls Tryz.prog f (.int .i64 b :: .int .i64 x :: cap).toArray w.drew fun e w' => e = .returned (.int .i64 (h b x)) ∧ ∃ n, w' = w.drewN n) := Lib.hid ((hc w.drew b x hb.drew b1 b2 x1 x2 (stable_drew hS hT)).mono fun e w' h => ⟨h.1, by obtain ⟨m, hm⟩ := h.2; exact ⟨_, hm.trans (World.drewN_drewN w 1 m)⟩⟩)
  have c0 := whole_cell hw 0
  simp at c0
  unfold Entered at he
  clear hc hw ht hb hT
  go_enter Tryz.func181, Tryz.ntmps181
  go_wp2
  go_region_with (first | (go_at_fn f; refine C.out.mono ?_; rintro e w' ⟨rfl, n, rfl⟩))
  all_goals
    go_wp2
    go_ret2
    exact ⟨_, rfl, ints_one (w.drewN n) _, below_alloc (below_drewN (Below.refl _ _) n) _⟩

set_option maxRecDepth 100000 in
set_option maxHeartbeats 1000000 in
theorem onOne_any (Tb : World → Prop) (hS : Stable Tb) (w : World) (fv : Value) (h : Int → Int) (p : Nat) (hn : Num1 Tb w fv h) (hp : takesP p = 1) (hE : ∀ d, DtFine d → eff d p = (d, [wrap32 (h (tp d 0))], 0)) :
    Calls Tryz.prog 109 #[fv] w (MadeOf (fun w' r => EffOf Tb w' r p) w) := by
  have hn' := hn
  obtain ⟨f, cap, rfl, _, _⟩ := hn'
  have R : Hid (EffOf Tb (w.alloc (.cells #[.func (.func f) #[] cap.toArray] 144)) (.func (.func 179) #[] #[.pointer (some ⟨w.heap.size, 0, none⟩)]) p) := Lib.hid (eff_kept (enters_of Tryz.func179 (by kernel_rfl) rfl) fun w' lo g d tv hb hbox hd _ _ ht hT _ => by
    rw [hE d hd]
    rw [hp] at ht
    have c := tp_cell hd 0
    exact (onOneF_any Tb hS w w' _ tv _ w.heap.size (tp d 0) h hn (below_step (below_alloc (Below.refl _ _) _) hb) (whole_below (whole_new w _ _) hb) ht c.1 c.2 hT).mono fun e w2 hl => left_eff hbox hl)
  clear hE hn
  go_enter Tryz.func109, Tryz.ntmps109
  go_wp2
  go_ret
  exact ⟨_, rfl, R.out, below_alloc (Below.refl _ _) _⟩

set_option maxRecDepth 100000 in
set_option maxHeartbeats 1000000 in
theorem onTwo_any (Tb : World → Prop) (hS : Stable Tb) (w : World) (fv : Value) (h : Int → Int → Int) (p : Nat) (hn : Num2 Tb w fv h) (hp : takesP p = 2) (hE : ∀ d, DtFine d → eff d p = (d, [h (tp d 1) (tp d 0)], 0)) :
    Calls Tryz.prog 115 #[fv] w (MadeOf (fun w' r => EffOf Tb w' r p) w) := by
  have hn' := hn
  obtain ⟨f, cap, rfl, _, _⟩ := hn'
  have R : Hid (EffOf Tb (w.alloc (.cells #[.func (.func f) #[] cap.toArray] 151)) (.func (.func 181) #[] #[.pointer (some ⟨w.heap.size, 0, none⟩)]) p) := Lib.hid (eff_kept (enters_of Tryz.func181 (by kernel_rfl) rfl) fun w' lo g d tv hb hbox hd _ _ ht hT _ => by
    rw [hE d hd]
    rw [hp] at ht
    have c := tp_cell hd 0
    have b := tp_cell hd 1
    exact (onTwoF_any Tb hS w w' _ tv _ w.heap.size (tp d 1) (tp d 0) h hn (below_step (below_alloc (Below.refl _ _) _) hb) (whole_below (whole_new w _ _) hb) ht b.1 b.2 c.1 c.2 hT).mono fun e w2 hl => left_eff hbox hl)
  clear hE hn
  go_enter Tryz.func115, Tryz.ntmps115
  go_wp2
  go_ret
  exact ⟨_, rfl, R.out, below_alloc (Below.refl _ _) _⟩

set_option maxRecDepth 100000 in
set_option maxHeartbeats 1000000 in
theorem lessUnsigned_num (Tb : World → Prop) (hF : ∀ w, Tb w → FlagsAt w) (w0 : World) : Num2 Tb w0 (.func (.func 119) #[] #[]) fun b c => flV 2 (b % 4294967296) (c % 4294967296) := by
  refine ⟨_, [], rfl, enters_of Tryz.func119 (by kernel_rfl) rfl, fun w b c _ b1 b2 c1 c2 hT => ?_⟩
  have C := Lib.hid (flagOf_any 2 (b % 4294967296) (c % 4294967296) w (by decide) (hF w hT))
  clear hT
  go_enter Tryz.func119, Tryz.ntmps119
  go_wp2_with (go_at_call 183; refine C.out.mono ?_; rintro e w' ⟨rfl, n, rfl⟩)
  go_ret
  exact ⟨rfl, _, rfl⟩

set_option maxRecDepth 100000 in
set_option maxHeartbeats 1000000 in
theorem compareF_any (w : World) (g t : Nat) (b c : Int) (ht : t < 4) (hw : Whole w g 3 #[.int .i64 t]) (hf : FlagsAt w) :
    Calls Tryz.prog 182 #[.int .i64 b, .int .i64 c, .pointer (some ⟨g, 0, none⟩)] w fun e w' => e = .returned (.int .i64 (flV t b c)) ∧ ∃ n, w' = w.drewN n := by
  have C := Lib.hid (flagOf_any t b c w ht hf)
  have c0 := whole_cell hw 0
  simp at c0
  clear hf hw
  go_enter Tryz.func182, Tryz.ntmps182
  go_wp2_with (go_at_call 183; refine C.out.mono ?_; rintro e w' ⟨rfl, n, rfl⟩)
  go_ret
  exact ⟨rfl, _, rfl⟩

set_option maxRecDepth 100000 in
set_option maxHeartbeats 1000000 in
theorem compareZeroF_any (w : World) (g t : Nat) (c : Int) (ht : t < 4) (hw : Whole w g 3 #[.int .i64 t]) (hf : FlagsAt w) :
    Calls Tryz.prog 184 #[.int .i64 c, .pointer (some ⟨g, 0, none⟩)] w fun e w' => e = .returned (.int .i64 (flV t c 0)) ∧ ∃ n, w' = w.drewN n := by
  have C := Lib.hid (flagOf_any t c 0 w ht hf)
  have c0 := whole_cell hw 0
  simp at c0
  clear hf hw
  go_enter Tryz.func184, Tryz.ntmps184
  go_wp2_with (go_at_call 183; refine C.out.mono ?_; rintro e w' ⟨rfl, n, rfl⟩)
  go_ret
  exact ⟨rfl, _, rfl⟩

set_option maxRecDepth 100000 in
set_option maxHeartbeats 1000000 in
theorem compare_any (Tb : World → Prop) (hS : Stable Tb) (hF : ∀ w, Tb w → FlagsAt w) (w : World) (t p : Nat) (ht : t < 4) (hp : takesP p = 2) (hE : ∀ d, DtFine d → eff d p = (d, [flV t (tp d 1) (tp d 0)], 0)) :
    Calls Tryz.prog 118 #[.int .i64 t] w (MadeOf (fun w' r => EffOf Tb w' r p) w) := by
  have N : Hid (Num2 Tb (w.alloc (.cells #[.int .i64 t] 3)) (.func (.func 182) #[] #[.pointer (some ⟨w.heap.size, 0, none⟩)]) (flV t)) := Lib.hid
    ⟨_, [.pointer (some ⟨w.heap.size, 0, none⟩)], rfl, enters_of Tryz.func182 (by kernel_rfl) rfl, fun w' b c hb _ _ _ _ hT => compareF_any w' w.heap.size t b c ht (whole_below (whole_new w _ _) hb) (hF _ hT)⟩
  have O := Lib.hid (onTwo_any Tb hS (w.alloc (.cells #[.int .i64 t] 3)) _ (flV t) p N.out hp hE)
  clear hE
  go_enter Tryz.func118, Tryz.ntmps118
  go_wp2_with (go_at_call 115; refine O.out.mono ?_; rintro e w' ⟨r, rfl, hr, hb⟩)
  go_ret
  exact ⟨_, rfl, hr, below_step (below_alloc (Below.refl _ _) _) hb⟩

set_option maxRecDepth 100000 in
set_option maxHeartbeats 1000000 in
theorem compareZero_any (Tb : World → Prop) (hS : Stable Tb) (hF : ∀ w, Tb w → FlagsAt w) (w : World) (t p : Nat) (ht : t < 4) (hp : takesP p = 1) (hE : ∀ d, DtFine d → eff d p = (d, [wrap32 (flV t (tp d 0) 0)], 0)) :
    Calls Tryz.prog 120 #[.int .i64 t] w (MadeOf (fun w' r => EffOf Tb w' r p) w) := by
  have N : Hid (Num1 Tb (w.alloc (.cells #[.int .i64 t] 3)) (.func (.func 184) #[] #[.pointer (some ⟨w.heap.size, 0, none⟩)]) (fun c => flV t c 0)) := Lib.hid
    ⟨_, [.pointer (some ⟨w.heap.size, 0, none⟩)], rfl, enters_of Tryz.func184 (by kernel_rfl) rfl, fun w' c hb _ _ hT => compareZeroF_any w' w.heap.size t c ht (whole_below (whole_new w _ _) hb) (hF _ hT)⟩
  have O := Lib.hid (onOne_any Tb hS (w.alloc (.cells #[.int .i64 t] 3)) _ (fun c => flV t c 0) p N.out hp hE)
  clear hE
  go_enter Tryz.func120, Tryz.ntmps120
  go_wp2_with (go_at_call 109; refine O.out.mono ?_; rintro e w' ⟨r, rfl, hr, hb⟩)
  go_ret
  exact ⟨_, rfl, hr, below_step (below_alloc (Below.refl _ _) _) hb⟩

set_option maxRecDepth 100000 in
set_option maxHeartbeats 1000000 in
theorem pick_any (Tb : World → Prop) (w : World) (sv : Value) (Ps : List Int) (p : Nat) (hs : Ints w sv Ps) (hm : Ps.length ≤ 8) (hr : ∀ k (h : k < Ps.length), 0 ≤ Ps[k] ∧ Ps[k] < (takesP p : Int)) (hE : ∀ d, eff d p = (d, atP (tkOf d (takesP p)) Ps, 0)) :
    Calls Tryz.prog 103 #[sv] w (MadeOf (fun w' r => EffOf Tb w' r p) w) := by
  have hs' := hs
  obtain ⟨_, A, ca, rfl, _⟩ := hs'
  have R : Hid (EffOf Tb (w.alloc (.cells #[.slice A Ps.length ca] 23)) (.func (.func 176) #[] #[.pointer (some ⟨w.heap.size, 0, none⟩)]) p) := Lib.hid (eff_kept (enters_of Tryz.func176 (by kernel_rfl) rfl) fun w' lo g d tv hb hbox hd _ _ ht hT _ => by
    rw [hE d]
    have l3 := takes3 p
    have lt := tk_len d l3
    exact (pickF_any _ tv _ w.heap.size _ Ps w' (whole_below (whole_new w _ _) hb) (ints_below hs (below_step (below_alloc (Below.refl _ _) _) hb)) ht (by rw [lt]; exact hr) hm (by rw [lt]; omega)).mono fun e w2 hl => left_eff hbox hl)
  clear hE hr hs
  go_enter Tryz.func103, Tryz.ntmps103
  go_wp2
  go_ret
  exact ⟨_, rfl, R.out, below_alloc (Below.refl _ _) _⟩

end Go.Proofs.YthnbaeamekolmaaGreatDoor
