/- PkH: several of my texts, laid together: EffF, EffG, EffH. -/
import Derived.Test.YthnbaeamekolmaaGreatDoorPkG
import Derived.Test.YthnbaeamekolmaaGreatDoorPkE
namespace Go.Proofs.YthnbaeamekolmaaGreatDoor
open Go.RowKit
set_option linter.unusedVariables false
set_option linter.unusedSimpArgs false

set_option maxRecDepth 100000 in
set_option maxHeartbeats 1000000 in
theorem operateF_any (w : World) (ptr tv : Value) (g : Nat) (op b x : Int) (ho : 1 ≤ op) (ho' : op ≤ 10) (hw : Whole w g 3 #[.int .i64 op]) (ht : Ints w tv [b, x]) (hb : cellB b = true) (hx : cellB x = true) :
    Calls Tryz.prog 177 #[ptr, tv, .pointer (some ⟨g, 0, none⟩)] w (LeftOf w (if twoR op x = true then [twoW op b x] else []) (if twoR op x = true then 0 else -10)) := by
  obtain ⟨ad, c, rfl, ca, cb⟩ := taken2 ht
  have c0 := whole_cell hw 0
  simp at c0
  obtain ⟨e1, e2, e3⟩ := two_ok (op := op) (a := b) (b := x) (by omega) hb hx
  have T : Hid (∀ W, Calls Tryz.prog 178 #[.int .i64 op, .int .i64 b, .int .i64 x] W fun e w' => e = .returned (.tuple #[.int .i64 (twoW op b x), .bool (twoR op x), .int .i64 0]) ∧ ∃ n, w' = W.drewN n) := Lib.hid fun W => by
    have h := two_any op b x W
    rw [e1, e2, e3] at h
    exact h
  clear hw ht hb hx e1 e2 e3
  generalize twoW op b x = r at *
  cases hr : twoR op x
  · rw [if_neg (by decide), if_neg (by decide)]
    rw [hr] at T
    clear hr
    go_enter Tryz.func177, Tryz.ntmps177
    go_wp2
    go_region_with (go_at_call 178; refine (T.out _).mono ?_; rintro e w' ⟨rfl, n, rfl⟩)
    all_goals
      go_wp2
      go_ret2
      exact ⟨_, rfl, ints_nil _, below_drewN (Below.refl _ _) (1 + n)⟩
  · rw [if_pos rfl, if_pos rfl]
    rw [hr] at T
    clear hr
    go_enter Tryz.func177, Tryz.ntmps177
    go_wp2
    go_region_with (go_at_call 178; refine (T.out _).mono ?_; rintro e w' ⟨rfl, n, rfl⟩)
    all_goals
      go_wp2
      go_ret2
      exact ⟨_, rfl, ints_one (w.drewN (1 + n)) _, below_alloc (below_drewN (Below.refl _ _) (1 + n)) _⟩

theorem eff_op (d : Dt) (p : Nat) (h1 : 15 ≤ p) (h2 : p ≤ 24) : eff d p = opE d ((p : Int) - 14) (tp d 1) (tp d 0) := by
  have h : p = 15 ∨ p = 16 ∨ p = 17 ∨ p = 18 ∨ p = 19 ∨ p = 20 ∨ p = 21 ∨ p = 22 ∨ p = 23 ∨ p = 24 := by omega
  rcases h with rfl | rfl | rfl | rfl | rfl | rfl | rfl | rfl | rfl | rfl <;> rfl

theorem takes_op (p : Nat) (h1 : 15 ≤ p) (h2 : p ≤ 24) : takesP p = 2 := by
  have h : p = 15 ∨ p = 16 ∨ p = 17 ∨ p = 18 ∨ p = 19 ∨ p = 20 ∨ p = 21 ∨ p = 22 ∨ p = 23 ∨ p = 24 := by omega
  rcases h with rfl | rfl | rfl | rfl | rfl | rfl | rfl | rfl | rfl | rfl <;> rfl

set_option maxRecDepth 100000 in
set_option maxHeartbeats 1000000 in
theorem operate_any (Tb : World → Prop) (w : World) (op : Int) (p : Nat) (hp : op = (p : Int) - 14) (h1 : 15 ≤ p) (h2 : p ≤ 24) :
    Calls Tryz.prog 108 #[.int .i64 op] w (MadeOf (fun w' r => EffOf Tb w' r p) w) := by
  have R : Hid (EffOf Tb (w.alloc (.cells #[.int .i64 op] 3)) (.func (.func 177) #[] #[.pointer (some ⟨w.heap.size, 0, none⟩)]) p) := Lib.hid (eff_kept (enters_of Tryz.func177 (by kernel_rfl) rfl) fun w' lo g d tv hb hbox hd _ _ ht hT _ => by
    rw [eff_op d p h1 h2, ← hp]
    rw [takes_op p h1 h2] at ht
    have h := operateF_any w' (.pointer (some ⟨g, 0, none⟩)) tv w.heap.size op (tp d 1) (tp d 0) (by omega) (by omega) (whole_below (whole_new w _ _) hb) ht (cellB_true.2 (tp_cell hd 1)) (cellB_true.2 (tp_cell hd 0))
    refine h.mono fun e w2 hl => ?_
    have hl2 := left_eff (t := (if twoR op (tp d 0) = true then 0 else -10)) hbox hl
    unfold opE
    by_cases hc : twoR op (tp d 0) = true
    · simp only [hc, if_true] at hl2 ⊢; exact hl2
    · simp only [hc, if_false] at hl2 ⊢; exact hl2)
  clear h1 h2 hp
  go_enter Tryz.func108, Tryz.ntmps108
  go_wp2
  go_ret
  exact ⟨_, rfl, R.out, below_alloc (Below.refl _ _) _⟩

set_option maxRecDepth 100000 in
set_option maxHeartbeats 1000000 in
theorem sayTextF_any (w : World) (lo g g0 : Nat) (d : Dt) (s : ByteArray) (tv : Value) (hbox : BoxIs w lo g d) (hd : DtFine d) (hw : Whole w g0 9 #[.string s]) (hs : s.size ≤ 65536) :
    Calls Tryz.prog 191 #[.pointer (some ⟨g, 0, none⟩), tv, .pointer (some ⟨g0, 0, none⟩)] w (EffR w lo g (sayE d s)) := by
  have c0 := whole_cell hw 0
  simp at c0
  have M := Lib.hid (sayM_any lo g d s w hbox hd hs)
  have N := sayE_nil d s
  clear hw hbox hd hs
  generalize sayE d s = r at *
  obtain ⟨d', L, t⟩ := r
  simp only at N M
  subst N
  go_enter Tryz.func191, Tryz.ntmps191
  go_wp2_with (go_at_call 189; refine M.out.mono ?_; rintro e w' ⟨rfl, hb', hw', hk'⟩)
  go_ret2
  exact ⟨_, rfl, hb', ints_nil _, hw', hk'⟩

set_option maxRecDepth 100000 in
set_option maxHeartbeats 1000000 in
theorem sayText_any (Tb : World → Prop) (w : World) (s : ByteArray) (p : Nat) (hs : s.size ≤ 65536) (hE : ∀ d, eff d p = sayE d s) :
    Calls Tryz.prog 129 #[.string s] w (MadeOf (fun w' r => EffOf Tb w' r p) w) := by
  have R : Hid (EffOf Tb (w.alloc (.cells #[.string s] 9)) (.func (.func 191) #[] #[.pointer (some ⟨w.heap.size, 0, none⟩)]) p) := Lib.hid (eff_kept (enters_of Tryz.func191 (by kernel_rfl) rfl) fun w' lo g d tv hb hbox hd _ _ ht hT _ => by
    rw [hE d]
    exact sayTextF_any w' lo g w.heap.size d s tv hbox hd (whole_below (whole_new w _ _) hb) hs)
  clear hE hs
  go_enter Tryz.func129, Tryz.ntmps129
  go_wp2
  go_ret
  exact ⟨_, rfl, R.out, below_alloc (Below.refl _ _) _⟩

set_option maxRecDepth 100000 in
set_option maxHeartbeats 1000000 in
theorem setBaseF_any (w : World) (lo g g0 : Nat) (d : Dt) (n : Int) (tv : Value) (hbox : BoxIs w lo g d) (hw0 : Whole w g0 3 #[.int .i64 n]) :
    Calls Tryz.prog 192 #[.pointer (some ⟨g, 0, none⟩), tv, .pointer (some ⟨g0, 0, none⟩)] w (EffR w lo g ({ d with n := n }, [], 0)) := by
  have c0 := whole_cell hw0 0
  simp at c0
  obtain ⟨hg, A1, k1, A2, k2, A3, k3, hw, r1, r2, r3, h4, p1, p2, p3⟩ := box_parts hbox
  have c4 := (six_cells hw).2.2.2.2.1
  have f4 := whole_free hw 4
  have ST : Hid (BoxIs (w.setCell ⟨g, 4, none⟩ (.int .i64 n)) lo g { d with n := n }) := Lib.hid
    (box_of (d := { d with n := n }) hg (whole_set hw 4 _) (row_apart r1 (row_not_whole r1 hw)) (row_apart r2 (row_not_whole r2 hw)) (row_apart r3 (row_not_whole r3 hw)) h4 p1 p2 p3)
  clear hw0 hbox hw
  go_enter Tryz.func192, Tryz.ntmps192
  go_wp2
  go_ret2
  exact ⟨_, rfl, ST.out, ints_nil _, (Below.refl _ _).setCell hg _, keep_own (keep_refl _ _) _ _⟩

set_option maxRecDepth 100000 in
set_option maxHeartbeats 1000000 in
theorem setBase_any (Tb : World → Prop) (w : World) (n : Int) (p : Nat) (hE : ∀ d : Dt, eff d p = ({ d with n := n }, [], 0)) :
    Calls Tryz.prog 130 #[.int .i64 n] w (MadeOf (fun w' r => EffOf Tb w' r p) w) := by
  have R : Hid (EffOf Tb (w.alloc (.cells #[.int .i64 n] 3)) (.func (.func 192) #[] #[.pointer (some ⟨w.heap.size, 0, none⟩)]) p) := Lib.hid (eff_kept (enters_of Tryz.func192 (by kernel_rfl) rfl) fun w' lo g d tv hb hbox hd _ _ ht hT _ => by
    rw [hE d]
    exact setBaseF_any w' lo g w.heap.size d n tv hbox (whole_below (whole_new w _ _) hb))
  clear hE
  go_enter Tryz.func130, Tryz.ntmps130
  go_wp2
  go_ret
  exact ⟨_, rfl, R.out, below_alloc (Below.refl _ _) _⟩

end Go.Proofs.YthnbaeamekolmaaGreatDoor

namespace Go.Proofs.YthnbaeamekolmaaGreatDoor
open Go.RowKit
set_option linter.unusedVariables false
set_option linter.unusedSimpArgs false

theorem cellT_app (d : Dt) (c : Int) (h : baseB d.n = true) (hc : cellB c = true) : (⟨(ctL upD c d.n).toArray⟩ ++ ⟨#[32]⟩ : ByteArray) = cellT d c := by
  rw [app_one]
  unfold cellT
  rw [(ct_yes (D := upD) hc h).2]

theorem cellT_size (d : Dt) (c : Int) (h : baseB d.n = true) (hc : cellB c = true) : (cellT d c).size ≤ 65536 := by
  have hb : 2 ≤ d.n ∧ d.n ≤ 16 := of_inB h
  have hl := text_len (D := upD) (b := d.n.toNat) (by omega) (cellB_true.1 hc).1 (cellB_true.1 hc).2
  unfold cellT
  show ((textL upD d.n.toNat c ++ [32]).toArray).size ≤ 65536
  simp
  omega

set_option maxRecDepth 100000 in
set_option maxHeartbeats 1000000 in
theorem sayCell_eff (Tb : World → Prop) (hS : Stable Tb) (hF : ∀ w, Tb w → Tabs w) (w0 : World) : EffOf Tb w0 (.func (.func 128) #[] #[]) 46 := by
  refine ⟨_, [], rfl, enters_of Tryz.func128 (by kernel_rfl) rfl, fun w lo g d tv _ hb hd _ _ ht hT _ => ?_⟩
  obtain ⟨ad, c, rfl, ca⟩ := taken1 (a := tp d 0) ht
  have E : eff d 46 = sayE d (cellT d (tp d 0)) := rfl
  rw [E]
  have HB := Lib.hid hb
  have hc := cellB_true.2 (tp_cell hd 0)
  obtain ⟨hg, A1, k1, A2, k2, A3, k3, hw, _⟩ := box_parts hb
  have c4 := (six_cells hw).2.2.2.2.1
  have CT := Lib.hid (cellText_any (tp d 0) d.n w.drew (hF _ (stable_drew hS hT)))
  have AP := Lib.hid (cellT_app d (tp d 0) (fine_n hd) hc)
  have M : Hid (∀ W, BoxIs W lo g d → Calls Tryz.prog 189 #[.pointer (some ⟨g, 0, none⟩), .string (cellT d (tp d 0))] W (MethOf W lo g (sayE d (cellT d (tp d 0))).1 (.int .i64 (sayE d (cellT d (tp d 0))).2.2))) :=
    Lib.hid fun W h => sayM_any lo g d _ W h hd (cellT_size d _ (fine_n hd) hc)
  have N := sayE_nil d (cellT d (tp d 0))
  have SZ : (⟨(ctL upD (tp d 0) d.n).toArray⟩ : ByteArray).size ≤ 65536 := by
    have h1 := cellT_size d _ (fine_n hd) hc
    rw [← AP.out, ByteArray.size_append] at h1
    omega
  clear hb hd ht E hw hT hc
  generalize sayE d (cellT d (tp d 0)) = r at *
  obtain ⟨d', L, t⟩ := r
  simp only at N M
  subst N
  generalize cellT d (tp d 0) = T at *
  generalize (⟨(ctL upD (tp d 0) d.n).toArray⟩ : ByteArray) = s0 at *
  generalize tp d 0 = x at *
  go_enter Tryz.func128, Tryz.ntmps128
  go_wp2
  go_region_with (go_at_call 190; refine CT.out.mono ?_; rintro e w1 ⟨rfl, hb1⟩)
  all_goals
    go_wp2_with (go_at_call 189; rw [AP.out]; refine (M.out _ (by exact box_below HB.out (w := w) ⟨hb1.os, hb1.tape, hb1.output, hb1.size, hb1.block⟩)).mono ?_; rintro e w' ⟨rfl, hb', hw', hk'⟩)
    go_ret2
    exact ⟨_, rfl, hb', ints_nil _, (below_lo HB.out ⟨hb1.os, hb1.tape, hb1.output, hb1.size, hb1.block⟩).trans (hw'.mono (Nat.le_refl _)), keep_after HB.out (w1 := w1) ⟨hb1.os, hb1.tape, hb1.output, hb1.size, hb1.block⟩ hk'⟩

end Go.Proofs.YthnbaeamekolmaaGreatDoor

namespace Go.Proofs.YthnbaeamekolmaaGreatDoor
open Go.RowKit
set_option linter.unusedVariables false
set_option linter.unusedSimpArgs false

theorem cell_eq {w w' : World} {x : Addr} (h : w'.heap[x.block]? = w.heap[x.block]?) : w'.cell? x = w.cell? x := by simp [World.cell?, h]

set_option maxRecDepth 100000 in
set_option maxHeartbeats 2000000 in
theorem allot_third (lo g : Nat) (d : Dt) (n : Int) (w : World) (hb : BoxIs w lo g d) (hd : DtFine d) (hn : cellB n = true) (hg : goodMove d n) (hq : 0 < n.tdiv 4) :
    Calls Tryz.prog 188 #[.pointer (some ⟨g, 0, none⟩), .int .i64 n] w fun e w' => MethOf w lo g { d with c := zeroN d.c d.h.toNat (n.tdiv 4).toNat, h := d.h + n.tdiv 4 } (.int .i64 0) e w' ∧ w'.cell? ⟨g, 2, none⟩ = w.cell? ⟨g, 2, none⟩ := by
  obtain ⟨hlo, A1, k1, A2, k2, A3, k3, hw, r1, r2, r3, h4, p1, p2, p3⟩ := box_parts hb
  have q0 := fine_h0 hd
  have q1 := fine_h1 hd
  have hc32 := fine_cl hd
  obtain ⟨n0, n1⟩ := cellB_true.1 hn
  obtain ⟨h1, h2, h3⟩ := hg
  have t1 : (n.tmod 4 != 0) = false := by rw [h1]; rfl
  obtain ⟨s, b, c, h, bn, o⟩ := d
  simp only at *
  obtain ⟨a, rfl⟩ : ∃ a : Nat, h = a := ⟨h.toNat, by omega⟩
  obtain ⟨m, hm⟩ : ∃ m : Nat, n.tdiv 4 = m := ⟨(n.tdiv 4).toNat, by omega⟩
  rw [hm] at h2 h3 hq ⊢
  obtain ⟨g3, k3', hA, hg1, hg1', hlc, hcm⟩ := row_form r3 (by omega)
  simp only [Value.slice.injEq, true_and] at hA
  obtain ⟨rfl, rfl⟩ := hA
  have hcells : ∀ j, j < m → (w.cell? ⟨g3, a + j, none⟩).isSome = true := fun j hj => by rw [row_cell r3 (a + j) (by omega)]; rfl
  have hfree : ∀ j, j < m → w.frozen? ⟨g3, a + j, none⟩ = false := fun j hj => row_free r3 (a + j)
  have CL : Hid (∀ ty, (Builtin.clear_ #[23] ty #[.slice (some ⟨g3, a, none⟩) m (k3 - a)]).run Tryz.prog w.drew = .ok (.tuple #[]) (w.drew.setCells g3 a (List.replicate m (.int .i64 0)))) := Lib.hid
    (fun ty => Lib.run_clear_slice w.drew 23 3 ty (.int .i64 0) Tryz.underlying23 zero_int rfl rfl g3 a m (k3 - a) (by omega) hcells hfree)
  have n3 := row_not_whole r3 hw
  have n3' : g ≠ g3 := fun e => n3 (by rw [e]; rfl)
  have u1 : (Value.slice A1 s.length k1).ownBlock ≠ some g3 := fun e => p2 g3 e rfl
  have u2 : (Value.slice A2 b.length k2).ownBlock ≠ some g3 := fun e => p3 g3 e rfl
  have Z3 := setCells_row (cap := k3) m a c w.drew r3 (by omega)
  have x1 : Row (w.drew.setCells g3 a (List.replicate m (.int .i64 0))) lo (.slice A1 s.length k1) s := row_keep (w := w.drew) r1 fun k hk => setCells_heap g3 _ _ _ _ (by rintro rfl; exact u1 hk)
  have x2 : Row (w.drew.setCells g3 a (List.replicate m (.int .i64 0))) lo (.slice A2 b.length k2) b := row_keep (w := w.drew) r2 fun k hk => setCells_heap g3 _ _ _ _ (by rintro rfl; exact u2 hk)
  have xw : Whole (w.drew.setCells g3 a (List.replicate m (.int .i64 0))) g 40 _ := whole_keep (w := w.drew) hw (setCells_heap g3 _ _ _ _ n3')
  have KP0 : Keep w g (w.drew.setCells g3 a (List.replicate m (.int .i64 0))) := by
    intro x' y' z' a' b' e' hw' k hk hgk h2 h3
    have eq := Option.some.inj (hw'.symm.trans hw)
    simp only [Obj.cells.injEq, Array.mk.injEq, List.cons.injEq, and_true, true_and] at eq
    obtain ⟨rfl, rfl, rfl, rfl, rfl, rfl⟩ := eq
    exact setCells_heap g3 _ _ w.drew _ (fun hk3 => h3 (by rw [hk3]; rfl))
  have xb : Below lo w (w.drew.setCells g3 a (List.replicate m (.int .i64 0))) := setCells_below g3 _ _ _ _ _ (by omega) (Below.refl _ _).drew
  have cl := CL.out
  generalize w.drew.setCells g3 a (List.replicate m (.int .i64 0)) = w1 at *
  have zl := zeroN_len (c := c) (a := a) (k := m) (by omega)
  have ST : Hid (BoxIs (w1.setCell ⟨g, 3, none⟩ (.int .i64 ((a : Int) + m))) lo g ⟨s, b, zeroN c a m, (a : Int) + m, bn, o⟩) := Lib.hid
    (box_of (d := ⟨s, b, zeroN c a m, (a : Int) + m, bn, o⟩) hlo (whole_set xw 3 _) (row_apart x1 (row_not_whole x1 xw)) (row_apart x2 (row_not_whole x2 xw)) (row_apart Z3 (row_not_whole Z3 xw)) h4 p1 p2 p3)
  have KP := Lib.hid (keep_own KP0 3 (.int .i64 ((a : Int) + m)))
  clear KP0
  have KC : Hid ((w1.setCell ⟨g, 3, none⟩ (.int .i64 ((a : Int) + m))).cell? ⟨g, 2, none⟩ = w.cell? ⟨g, 2, none⟩) := Lib.hid ((six_cells (whole_set xw 3 (.int .i64 ((a : Int) + m)))).2.2.1.trans (six_cells hw).2.2.1.symm)
  have c2 := (six_cells hw).2.2.1
  have c3 := (six_cells hw).2.2.2.1
  have d3 := (six_cells xw).2.2.2.1
  have e3 := whole_free xw 3
  have TA : Hid ((a : Int).toNat = a ∧ (m : Int).toNat = m) := Lib.hid ⟨by omega, by omega⟩
  have ka : a ≤ k3 := by omega
  have kb : a + m ≤ k3 := by omega
  have kc : (k3 == a) = false := by rw [beq_eq_false_iff_ne]; omega
  have kd : ¬ (k3 = a) := by omega
  have hcl : c.length ≤ 32 := by omega
  unfold maxLen at hcm
  rw [TA.out.1, TA.out.2]
  clear hb hw hd hn h1 CL hcells hfree n3 n3' u1 u2 Z3 x1 x2 xw p1 p2 p3 zl TA hc32
  go_enter Tryz.func188, Tryz.ntmps188
  go_wp2
  go_region
  all_goals
    go_wp2
    go_ret
    exact ⟨⟨rfl, ST.out, xb.setCell hlo _, KP.out⟩, KC.out⟩

theorem addE_nil (d : Dt) (b x : Int) : (addE d b x).2.1 = [] := by unfold addE; split <;> rfl

set_option maxRecDepth 100000 in
set_option maxHeartbeats 1000000 in
theorem addToCell_none (w : World) (lo g : Nat) (d : Dt) (tv : Value) (b x : Int) (hb : BoxIs w lo g d) (hd : DtFine d) (ht : Ints w tv [b, x]) (hx : x ≤ 9223372036854775807) (hk : dPlace d x = none) :
    Calls Tryz.prog 123 #[.pointer (some ⟨g, 0, none⟩), tv] w (EffR w lo g (d, [], -9)) := by
  obtain ⟨ad, c, rfl, ca, cb⟩ := taken2 ht
  obtain ⟨hg, A1, k1, A2, k2, A3, k3, hw, _⟩ := box_parts hb
  have HB := Lib.hid hb
  have C := Lib.hid (cellAt_none g _ _ _ _ d x w hw (fine_h0 hd) (fine_h1 hd) hx hk)
  clear hb hw hk ht
  go_enter Tryz.func123, Tryz.ntmps123
  go_wp2_with (go_at_call 187; refine C.out.mono ?_; rintro e w' ⟨rfl, rfl⟩)
  go_ret2
  exact effR_quiet HB.out (ints_nil _) (Below.refl _ _)

set_option maxRecDepth 100000 in
set_option maxHeartbeats 1000000 in
theorem addToCell_some (w : World) (lo g : Nat) (d : Dt) (tv : Value) (b x : Int) (k : Nat) (hb : BoxIs w lo g d) (hd : DtFine d) (ht : Ints w tv [b, x]) (b1 : -2147483648 ≤ b) (b2 : b ≤ 2147483647) (hk : dPlace d x = some k) :
    Calls Tryz.prog 123 #[.pointer (some ⟨g, 0, none⟩), tv] w (EffR w lo g ({ d with c := d.c.set k (wrap32 (d.c.getD k 0 + b)) }, [], 0)) := by
  obtain ⟨ad, c, rfl, ca, cb⟩ := taken2 ht
  obtain ⟨hg, A1, k1, A2, k2, A3, k3, hw, r1, r2, r3, h4, p1, p2, p3⟩ := box_parts hb
  have hk2 := (place_lt hk hd).2
  obtain ⟨g3, k3', hA, hg1, hg1', hlc, hcm⟩ := row_form r3 (by omega)
  simp only [Value.slice.injEq, true_and] at hA
  obtain ⟨rfl, rfl⟩ := hA
  have ko := row_cell r3 k hk2
  have kf := row_free r3 k
  have n3 := row_not_whole r3 hw
  have n3' : g ≠ g3 := fun e => n3 (by rw [e]; rfl)
  have q1 : (Value.slice A1 d.s.length k1).ownBlock ≠ some g3 := fun e => p2 g3 e rfl
  have q2 : (Value.slice A2 d.b.length k2).ownBlock ≠ some g3 := fun e => p3 g3 e rfl
  have ce := cellB_true.1 (cellsB_at (fine_cc hd) (List.getElem_mem hk2))
  have e : d.c.getD k 0 = d.c[k] := by simp [hk2]
  rw [e]
  have ST : Hid (BoxIs (w.drew.setCell ⟨g3, k, none⟩ (.int .i64 (wrap32 (d.c[k] + b)))) lo g { d with c := d.c.set k (wrap32 (d.c[k] + b)) }) := Lib.hid (by
    have hl : (d.c.set k (wrap32 (d.c[k] + b))).length = d.c.length := List.length_set ..
    have := (row_set (w := w.drew) r3 k (wrap32 (d.c[k] + b))).1
    refine box_of (z := .slice (some ⟨g3, 0, none⟩) d.c.length k3) hg (whole_far (w := w.drew) hw (by exact n3') _) (row_apart (w := w.drew) r1 q1) (row_apart (w := w.drew) r2 q2) this h4 p1 p2 p3)
  have KP := Lib.hid (keep_third hw (g3 := g3) rfl (keep_below (w' := w.drew) (Below.refl _ _).drew) k (.int .i64 (wrap32 (d.c[k] + b))))
  have ea : (⟨g3, 0, none⟩ : Addr).add k = ⟨g3, k, none⟩ := by rw [Addr.add_lit, Nat.zero_add]
  have C := Lib.hid (cellAt_some g _ _ _ ⟨g3, 0, none⟩ k3 d x k w hw (fine_h0 hd) (fine_h1 hd) (fine_cl hd) hk)
  rw [ea] at C
  obtain ⟨e1, e2⟩ := ce
  clear hb hw hk ht n3 n3' q1 q2 p1 p2 p3 ea e r1 r2 r3 hcm
  generalize d.c[k] = old at *
  have sw : IntKind.i64.wrap (old + b) = old + b := IntWalk.i64_in _ (by omega)
  go_enter Tryz.func123, Tryz.ntmps123
  go_wp2_with (go_at_call 187; refine C.out.mono ?_; rintro e w' ⟨rfl, rfl⟩)
  go_region_with (go_at_call 180; refine (wrapCell_any _ _).mono ?_; rintro e w' ⟨rfl, rfl⟩)
  all_goals
    go_wp2
    go_ret2
    exact ⟨_, rfl, ST.out, ints_nil _, (Below.refl _ _).drew.setCell (show lo ≤ g3 by omega) _, KP.out⟩

theorem addToCell_eff (Tb : World → Prop) (w0 : World) : EffOf Tb w0 (.func (.func 123) #[] #[]) 41 := by
  refine ⟨_, [], rfl, enters_of Tryz.func123 (by kernel_rfl) rfl, fun w lo g d tv _ hb hd _ _ ht _ _ => ?_⟩
  have E : eff d 41 = addE d (tp d 1) (tp d 0) := rfl
  rw [E]
  have c1 := tp_cell hd 1
  have c0 := tp_cell hd 0
  unfold addE
  cases hk : dPlace d (tp d 0) with
  | none => exact addToCell_none w lo g d tv _ _ hb hd ht (by omega) hk
  | some k => exact addToCell_some w lo g d tv _ _ k hb hd ht c1.1 c1.2 hk

set_option maxRecDepth 100000 in
set_option maxHeartbeats 1000000 in
theorem appendCell_no (w : World) (lo g : Nat) (d : Dt) (tv : Value) (x : Int) (hb : BoxIs w lo g d) (hd : DtFine d) (ht : Ints w tv [x]) (hg : ¬ goodMove d 4) :
    Calls Tryz.prog 126 #[.pointer (some ⟨g, 0, none⟩), tv] w (EffR w lo g (d, [], -8)) := by
  obtain ⟨ad, c, rfl, ca⟩ := taken1 ht
  have M := Lib.hid (allot_no lo g d 4 w hb hd rfl hg)
  clear hb ht hg
  go_enter Tryz.func126, Tryz.ntmps126
  go_wp2_with (go_at_call 188; refine M.out.mono ?_; rintro e w' ⟨rfl, hb', hw', hk'⟩)
  go_ret2
  exact ⟨_, rfl, hb', ints_nil _, hw', hk'⟩

set_option maxRecDepth 100000 in
set_option maxHeartbeats 2000000 in
theorem appendCell_yes (w : World) (lo g : Nat) (d : Dt) (tv : Value) (x : Int) (hb : BoxIs w lo g d) (hd : DtFine d) (ht : Ints w tv [x]) (hg : goodMove d 4) (ha : Away w g tv) :
    Calls Tryz.prog 126 #[.pointer (some ⟨g, 0, none⟩), tv] w (EffR w lo g ({ d with c := (zeroN d.c d.h.toNat 1).set d.h.toNat x, h := d.h + 1 }, [], 0)) := by
  obtain ⟨ad, c, rfl, ca⟩ := taken1 ht
  obtain ⟨a1, a2⟩ := ha ad 1 c rfl
  have hb0 := hb
  obtain ⟨_, x0, y0, z0, hw0, _⟩ := hb0
  obtain ⟨ay, ap⟩ := a2 _ _ _ _ _ _ hw0
  have hq : (4 : Int).tdiv 4 = 1 := rfl
  have M := allot_third lo g d 4 w hb hd rfl hg (by rw [hq]; decide)
  rw [hq] at M
  have M2 : Hid (Calls Tryz.prog 188 #[.pointer (some ⟨g, 0, none⟩), .int .i64 4] w fun e w' => e = .returned (.int .i64 0) ∧ BoxIs w' lo g { d with c := zeroN d.c d.h.toNat 1, h := d.h + 1 } ∧ Below lo w w' ∧ w'.cell? ad = some (.int .i64 x) ∧ Keep w g w' ∧ w'.cell? ⟨g, 2, none⟩ = w.cell? ⟨g, 2, none⟩) :=
    Lib.hid (M.mono fun e w' h => ⟨h.1.1, h.1.2.1, h.1.2.2.1, by rw [cell_eq (h.1.2.2.2 _ _ _ _ _ _ hw0 ad.block (World.block_lt_of_cell? w _ ca) a1 ay ap)]; exact ca, h.1.2.2.2, h.2⟩)
  have q0 := fine_h0 hd
  have q1 : d.h < 32 := by have := hg.2.2; rw [hq] at this; omega
  have hcl := fine_cl hd
  clear M hb hd ht ap ay a1 a2 ca hq hg
  obtain ⟨s, b, cc, h, bn, o⟩ := d
  simp only at *
  obtain ⟨a, rfl⟩ : ∃ a : Nat, h = a := ⟨h.toNat, by omega⟩
  have zl := zeroN_len (c := cc) (a := a) (k := 1) (by omega)
  rw [show (a : Int).toNat = a by omega] at *
  generalize zeroN cc a 1 = zc at *
  have ha : a < zc.length := by omega
  have ZC := Lib.hid (show zc.length = 32 by omega)
  have z1 : zc.length ≤ 32 := by omega
  have q2 : (a : Int) < zc.length := by omega
  clear zl hcl
  go_enter Tryz.func126, Tryz.ntmps126
  go_wp2_with fail
  refine M2.out.mono ?_
  rintro e w1 ⟨rfl, hb1, hw1, c1, hk1, hk2⟩
  have HK2 := Lib.hid hk2
  clear hk2
  obtain ⟨hg, A1, k1, A2, k2, A3, k3, hw, r1, r2, r3, h4, p1, p2, p3⟩ := box_parts hb1
  simp only at hw r1 r2 r3 h4 p1 p2 p3
  obtain ⟨g3, k3', hA, hg1, hg1', hlc, hcm⟩ := row_form r3 (by omega)
  simp only [Value.slice.injEq, true_and] at hA
  obtain ⟨rfl, rfl⟩ := hA
  have ko := row_cell r3 a ha
  have kf := row_free r3 a
  have c2 := (six_cells hw).2.2.1
  have c3 := (six_cells hw).2.2.2.1
  have n3 := row_not_whole r3 hw
  have n3' : g ≠ g3 := fun e => n3 (by rw [e]; rfl)
  have u1 : (Value.slice A1 s.length k1).ownBlock ≠ some g3 := fun e => p2 g3 e rfl
  have u2 : (Value.slice A2 b.length k2).ownBlock ≠ some g3 := fun e => p3 g3 e rfl
  have ST : Hid (BoxIs (w1.drew.setCell ⟨g3, a, none⟩ (.int .i64 x)) lo g ⟨s, b, zc.set a x, (a : Int) + 1, bn, o⟩) := Lib.hid (by
    have := (row_set (w := w1.drew) r3 a x).1
    exact box_of (d := ⟨s, b, zc.set a x, (a : Int) + 1, bn, o⟩) (z := .slice (some ⟨g3, 0, none⟩) zc.length k3) hg (whole_far (w := w1.drew) hw (by exact n3') _) (row_apart (w := w1.drew) r1 u1) (row_apart (w := w1.drew) r2 u2) this h4 p1 p2 p3)
  have KP := Lib.hid (show Keep w g (w1.drew.setCell ⟨g3, a, none⟩ (.int .i64 x)) from fun x' y' z' a' b' e' hw' k hk hgk h2 h3 => (Below.heap_setCell w1.drew ⟨g3, a, none⟩ (.int .i64 x) k (fun hk3 => by
    have hz : some (Value.slice (some ⟨g3, 0, none⟩) zc.length k3) = some z' := ((six_cells hw).2.2.1.symm.trans HK2.out).trans (six_cells (show Whole w g _ _ from hw')).2.2.1
    exact h3 (by rw [← Option.some.inj hz]; exact congrArg some (show g3 = k from hk3.symm)))).trans (hk1 x' y' z' a' b' e' hw' k hk hgk h2 h3))
  have SB := Lib.hid (hw1.drew.setCell (p := ⟨g3, a, none⟩) (show lo ≤ g3 by omega) (.int .i64 x))
  have s1 : IntKind.i64.wrap ((a : Int) + 1 - 1) = a := by rw [show (a : Int) + 1 - 1 = a by omega]; exact IntWalk.i64_in _ (by omega)
  clear hw hb1 r1 r2 r3 n3 n3' u1 u2 p1 p2 p3 hw1 hcm
  generalize zc[a] = old at *
  go_wp2
  go_region
  all_goals
    go_wp2
    go_ret2
    exact ⟨_, rfl, ST.out, ints_nil _, SB.out, KP.out⟩

theorem appendCell_eff (Tb : World → Prop) (w0 : World) : EffOf Tb w0 (.func (.func 126) #[] #[]) 44 := by
  refine ⟨_, [], rfl, enters_of Tryz.func126 (by kernel_rfl) rfl, fun w lo g d tv _ hb hd _ _ ht _ ha => ?_⟩
  have E : eff d 44 = commaE d (tp d 0) := rfl
  rw [E]
  unfold commaE
  by_cases h : goodMove d 4
  · rw [if_pos h]; exact appendCell_yes w lo g d tv _ hb hd ht h ha
  · rw [if_neg h]; exact appendCell_no w lo g d tv _ hb hd ht h

end Go.Proofs.YthnbaeamekolmaaGreatDoor
