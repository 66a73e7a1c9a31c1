/- The given side's code in the making, item by item. -/
import Derived.Test.YthnbaeamekolmaaGreatDoorMaA
import Derived.Test.YthnbaeamekolmaaGreatDoorAsC
namespace Go.Proofs.YthnbaeamekolmaaGreatDoor
open Go.RowKit
set_option linter.unusedVariables false
set_option linter.unusedSimpArgs false

@[go_sem] theorem fieldM0 (x y : Value) (w : World) : Sem.run Tryz.prog (Instr.field 245 (.agg #[x, y]) 0) w = .ok x w := by kernel_rfl

@[go_sem] theorem fieldM1 (x y : Value) (w : World) : Sem.run Tryz.prog (Instr.field 245 (.agg #[x, y]) 1) w = .ok y w := by kernel_rfl

theorem its_whole {W : World} {g : Nat} {t : TypeId} {x : It} (h : Whole W g t #[.int .i64 x.k, .int .i64 x.v]) : Its W (.slice (some ⟨g, 0, none⟩) 1 1) [x] := by
  refine ⟨by unfold maxLen; simp, _, _, rfl, fun _ => ⟨_, rfl, fun k hk => ?_⟩⟩
  have : k = 0 := by simp at hk; omega
  subst this
  rw [Nat.zero_mul, Addr.add_zero']
  exact ⟨whole_cell h 0, whole_cell h 1⟩

theorem whole_newG {w : World} {g : Nat} {t : TypeId} {cs : Array Value} (hg : g = w.heap.size) : Whole (w.alloc (.cells cs t)) g t cs := by
  subst hg
  exact whole_new w t cs

/-- A mark appended, and laid down in its place. -/
theorem md_appended {W W1 w2 : World} {lo G c : Nat} {a : Int} {code : List Int} {m : List It} {vc v' : Value} {A : Option Addr} {x : It} (hw : Whole W G 225 #[.int .i64 a, vc, .slice A m.length c]) (hr : Row W lo vc code) (hm : PRow 245 W lo (.slice A m.length c) m)
    (hg : lo ≤ G) (hB : Below W.heap.size W W1) (hr2 : PRow 245 w2 lo v' (m ++ [x])) (hg2 : W1.grownBy w2 (Value.slice A m.length c).ownBlock) :
    (MdAt (w2.setCell ⟨G, 2, none⟩ v') lo G a code (m ++ [x]) ∧ Below lo W (w2.setCell ⟨G, 2, none⟩ v')) ∧ w2.cell? ⟨G, 2, none⟩ = some (.slice A m.length c) ∧ w2.frozen? ⟨G, 2, none⟩ = false ∧ G < w2.heap.size := by
  have hlt := whole_lt hw
  have hlo : lo ≤ W.heap.size := by omega
  have n2 := prow_off (by decide) hm hw
  have W2 := whole_keep (whole_below hw hB) (hg2.block _ (by have := hB.size; omega) (fun e => n2 e.symm))
  have R2 := row_keep (row_below hr hB) (fun g hv => hg2.block g (by have := (row_lt hr g hv).2; have := hB.size; omega) (fun e => prow_row_off (by decide) hm hr e.symm hv))
  have hbk : Below lo W w2 := (hB.mono hlo).grown hg2 (by have := hB.size; omega) (fun k hk => (prow_lt hm k hk).1)
  exact ⟨⟨⟨vc, _, whole_set W2 2 _, row_apart R2 (row_off (by decide) R2 W2), prow_apart hr2 (prow_off (by decide) hr2 W2), hg⟩, hbk.setCell hg _⟩, whole_cell W2 2, whole_free W2 2, whole_lt W2⟩

set_option maxRecDepth 100000 in
set_option maxHeartbeats 1000000 in
theorem item_1 (w : World) (lo G : Nat) (a s v : Int) (c : List Int) (m : List It) (h : MdAt w lo G a c m) (ha : 0 ≤ a ∧ a ≤ 400) (hc : c.length ≤ 200) (hm : m.length ≤ 100) (hn : NeedM 1 c.length m) :
    Calls Tryz.prog 230 #[.pointer (some ⟨G, 0, none⟩), .agg #[.int .i64 1, .int .i64 v], .int .i64 s] w (MdOf w lo G a (cStep a s ⟨1, v⟩ c m).1 (cStep a s ⟨1, v⟩ c m).2) := by
  have hlo := mdAt_lo h
  have A0 := Lib.hid (mdAt_alloc h (.cells #[.int .i64 1, .int .i64 v] 97))
  have B0 : Hid (Below lo w (w.alloc (.cells #[.int .i64 1, .int .i64 v] 97))) := Lib.hid ((Below.refl lo w).alloc hlo _)
  have z0 : lo ≤ (w.alloc (.cells #[.int .i64 1, .int .i64 v] 97)).heap.size := by simp; omega
  have E1 : Hid ((cStep a s ⟨1, v⟩ c m).1 = c ++ [v]) := Lib.hid (by simp [cStep])
  have E2 : Hid ((cStep a s ⟨1, v⟩ c m).2 = m) := Lib.hid (by simp [cStep])
  generalize hr : cStep a s ⟨1, v⟩ c m = r at *
  clear h hn hr
  go_enter Tryz.func230, Tryz.ntmps230
  go_wp2_with fail
  refine (sPut_any _ lo G a (c) (m) _ [v] (mdAt_alloc A0.out _) (lit1 _ (by simp)) (by first | omega | (simp; omega))).mono ?_
  rintro e w1 ⟨⟨rfl, ha, hb⟩, hk⟩
  have A1 := Lib.hid ha
  have B1 : Hid (Below lo w w1) := Lib.hid ((B0.out.alloc (by exact z0) _).trans hb)
  have z1 : lo ≤ w1.heap.size := mdAt_lo ha
  clear ha hb hk
  go_wp2
  go_end0
  exact ⟨rfl, by rw [E1.out, E2.out]; exact A1.out, B1.out⟩

set_option maxRecDepth 100000 in
set_option maxHeartbeats 1000000 in
theorem item_2 (w : World) (lo G : Nat) (a s v : Int) (c : List Int) (m : List It) (h : MdAt w lo G a c m) (ha : 0 ≤ a ∧ a ≤ 400) (hc : c.length ≤ 200) (hm : m.length ≤ 100) (hn : NeedM 2 c.length m) :
    Calls Tryz.prog 230 #[.pointer (some ⟨G, 0, none⟩), .agg #[.int .i64 2, .int .i64 v], .int .i64 s] w (MdOf w lo G a (cStep a s ⟨2, v⟩ c m).1 (cStep a s ⟨2, v⟩ c m).2) := by
  have hlo := mdAt_lo h
  have A0 := Lib.hid (mdAt_alloc h (.cells #[.int .i64 2, .int .i64 v] 97))
  have B0 : Hid (Below lo w (w.alloc (.cells #[.int .i64 2, .int .i64 v] 97))) := Lib.hid ((Below.refl lo w).alloc hlo _)
  have z0 : lo ≤ (w.alloc (.cells #[.int .i64 2, .int .i64 v] 97)).heap.size := by simp; omega
  have E1 : Hid ((cStep a s ⟨2, v⟩ c m).1 = c ++ [57, v]) := Lib.hid (by simp [cStep])
  have E2 : Hid ((cStep a s ⟨2, v⟩ c m).2 = m) := Lib.hid (by simp [cStep])
  generalize hr : cStep a s ⟨2, v⟩ c m = r at *
  clear h hn hr
  go_enter Tryz.func230, Tryz.ntmps230
  have K0 := Lib.hid (whole_new w 97 #[.int .i64 2, .int .i64 v])
  have y0 := whole_cell K0.out 1
  go_wp2
  go_region_held3 (fun W => W.cell? ⟨w.heap.size, 1, none⟩ = some (.int .i64 v)) (first | exact y2 | exact y1 | exact whole_cell (whole_alloc K1.out _) 1 | exact y0)
    (first
    | (go_at_call 232
       refine (sW_LIT _).mono ?_
       rintro e w1 ⟨rfl, hb⟩
       have A1 := Lib.hid (mdAt_below A0.out ((Below.refl _ _).drew.trans hb))
       have B1 : Hid (Below lo w w1) := Lib.hid (below_ge B0.out ((Below.refl _ _).drew.trans hb) z0)
       have z1 : lo ≤ w1.heap.size := mdAt_lo A1.out
       have K1 := Lib.hid (whole_below K0.out ((Below.refl _ _).drew.trans hb))
       have y1 := whole_cell K1.out 1
       have yz := whole_lt K1.out
       clear hb)
    | (go_at_call 231
       refine (sPut_any _ lo G a c m _ [57, v] (mdAt_alloc A1.out _) (lit2 _ _ (by simp)) (by simp; omega)).mono ?_
       rintro e w2 ⟨⟨rfl, ha, hb⟩, hk⟩
       have A2 := Lib.hid ha
       have B2 : Hid (Below lo w w2) := Lib.hid ((B1.out.alloc (by exact z1) _).trans hb)
       have y2 := whole_cell (hk _ _ _ (by decide) (by decide) (whole_alloc K1.out _)) 1
       clear ha hb hk))
  all_goals
    go_wp2
    go_end0
    exact ⟨rfl, by rw [E1.out, E2.out]; exact A2.out, B2.out⟩

set_option maxRecDepth 100000 in
set_option maxHeartbeats 1000000 in
theorem item_3 (w : World) (lo G : Nat) (a s v : Int) (c : List Int) (m : List It) (h : MdAt w lo G a c m) (ha : 0 ≤ a ∧ a ≤ 400) (hc : c.length ≤ 200) (hm : m.length ≤ 100) (hn : NeedM 3 c.length m) :
    Calls Tryz.prog 230 #[.pointer (some ⟨G, 0, none⟩), .agg #[.int .i64 3, .int .i64 v], .int .i64 s] w (MdOf w lo G a (cStep a s ⟨3, v⟩ c m).1 (cStep a s ⟨3, v⟩ c m).2) := by
  have hlo := mdAt_lo h
  have A0 := Lib.hid (mdAt_alloc h (.cells #[.int .i64 3, .int .i64 v] 97))
  have B0 : Hid (Below lo w (w.alloc (.cells #[.int .i64 3, .int .i64 v] 97))) := Lib.hid ((Below.refl lo w).alloc hlo _)
  have z0 : lo ≤ (w.alloc (.cells #[.int .i64 3, .int .i64 v] 97)).heap.size := by simp; omega
  have E1 : Hid ((cStep a s ⟨3, v⟩ c m).1 = c ++ [59, 0]) := Lib.hid (by simp [cStep])
  have E2 : Hid ((cStep a s ⟨3, v⟩ c m).2 = m ++ [⟨(c.length : Int) + 1, 0⟩]) := Lib.hid (by simp [cStep])
  generalize hr : cStep a s ⟨3, v⟩ c m = r at *
  clear h hn hr
  go_enter Tryz.func230, Tryz.ntmps230
  go_wp2_with fail
  refine (sW_ZERO _).mono ?_
  rintro e w1 ⟨rfl, hb⟩
  have A1 := Lib.hid (mdAt_below A0.out hb)
  have B1 : Hid (Below lo w w1) := Lib.hid (below_ge B0.out hb z0)
  have z1 : lo ≤ w1.heap.size := mdAt_lo A1.out
  clear hb
  go_wp2_with fail
  refine (sPut_any _ lo G a (c) (m) _ [59, 0] (mdAt_alloc A1.out _) (lit2 _ _ (by simp)) (by first | omega | (simp; omega))).mono ?_
  rintro e w2 ⟨⟨rfl, ha, hb⟩, hk⟩
  have A2 := Lib.hid ha
  have B2 : Hid (Below lo w w2) := Lib.hid ((B1.out.alloc (by exact z1) _).trans hb)
  have z2 : lo ≤ w2.heap.size := mdAt_lo ha
  clear ha hb hk
  have HL : Hid ((c ++ [59, 0]).length = c.length + 1 + 1) := Lib.hid (by simp)
  obtain ⟨vc, vm, hw, hr, hm, hg⟩ := A2.out
  obtain ⟨_, A, d, rfl, _⟩ := prow_its hm
  obtain ⟨_, C, e, rfl, _⟩ := row_ints hr
  have HW := Lib.hid hw
  have HR := Lib.hid hr
  have HM := Lib.hid hm
  have c1 := whole_cell hw 1
  have c2 := whole_cell hw 2
  have zg := whole_lt hw
  clear hw hr hm
  rw [HL.out] at c1
  have q1 : IntKind.i64.wrap ((c.length : Int) + 1) = (c.length : Int) + 1 := IntWalk.i64_in _ (by omega)
  have I2 : Hid (Its ((w2.alloc (.cells #[.int .i64 ((c.length : Int) + 1), .int .i64 (0)] 245)).drew) (.slice (some ⟨w2.heap.size, 0, none⟩) 1 1) [⟨(c.length : Int) + 1, 0⟩]) := Lib.hid (its_keep (its_one w2 ⟨(c.length : Int) + 1, 0⟩ 245) fun _ _ e => e)
  have BB : Hid (Below w2.heap.size w2 ((w2.alloc (.cells #[.int .i64 ((c.length : Int) + 1), .int .i64 (0)] 245)).drew)) := Lib.hid (by repeat (first | with_reducible exact Below.refl _ _ | with_reducible refine below_alloc ?_ _ | with_reducible refine below_drewN ?_ _ | with_reducible refine Below.drew ?_))
  go_wp2
  go_region_law (first
    | (refine step_append_marks (w := (w2.alloc (.cells #[.int .i64 ((c.length : Int) + 1), .int .i64 (0)] 245)).drew) rfl (.tmp 42) (.tmp 50) rfl rfl lo (.slice A (m).length d) (m) rfl (by exact prow_below HM.out BB.out) (.slice (some ⟨w2.heap.size, 0, none⟩) 1 1) [⟨(c.length : Int) + 1, 0⟩] rfl I2.out (by simp <;> omega) (by have := BB.out.size; omega) ?_
       intro v2 w2 hr2 hg2 _
       obtain ⟨hq, d2, f2, zz⟩ := md_appended HW.out HR.out HM.out hg BB.out hr2 hg2
       have HQ := Lib.hid hq
       obtain ⟨_, C2, j2, rfl, _⟩ := prow_its hr2
       rw [show ((m) ++ [(⟨(c.length : Int) + 1, 0⟩ : It)]).length = (m).length + 1 by simp] at HQ
       clear hq hr2 hg2))
  all_goals
    go_wp2
    go_end0
    exact ⟨rfl, by rw [E1.out, E2.out]; exact HQ.out.1, B2.out.trans HQ.out.2⟩

set_option maxRecDepth 100000 in
set_option maxHeartbeats 1000000 in
theorem item_4 (w : World) (lo G : Nat) (a s v : Int) (c : List Int) (m : List It) (h : MdAt w lo G a c m) (ha : 0 ≤ a ∧ a ≤ 400) (hc : c.length ≤ 200) (hm : m.length ≤ 100) (hn : NeedM 4 c.length m) :
    Calls Tryz.prog 230 #[.pointer (some ⟨G, 0, none⟩), .agg #[.int .i64 4, .int .i64 v], .int .i64 s] w (MdOf w lo G a (cStep a s ⟨4, v⟩ c m).1 (cStep a s ⟨4, v⟩ c m).2) := by
  have hlo := mdAt_lo h
  have A0 := Lib.hid (mdAt_alloc h (.cells #[.int .i64 4, .int .i64 v] 97))
  have B0 : Hid (Below lo w (w.alloc (.cells #[.int .i64 4, .int .i64 v] 97))) := Lib.hid ((Below.refl lo w).alloc hlo _)
  have z0 : lo ≤ (w.alloc (.cells #[.int .i64 4, .int .i64 v] 97)).heap.size := by simp; omega
  have hp := hn.1 (by omega)
  obtain ⟨j, hj, hjl⟩ := hn.2 (by omega)
  obtain ⟨tk, tv, ht⟩ : ∃ tk tv, topM m = ⟨tk, tv⟩ := ⟨(topM m).k, (topM m).v, rfl⟩
  rw [ht] at hj
  obtain rfl : tk = (j : Int) := hj
  have HP : Hid (∀ W code, MdAt W lo G a code m → Calls Tryz.prog 254 #[.pointer (some ⟨G, 0, none⟩)] W (MdPopOf W lo G a code m.dropLast ⟨(j : Int), tv⟩)) := Lib.hid fun W code hh => by
    have q := sPop_any W lo G a code m hh hp (by omega)
    rw [ht] at q
    exact q
  have E1 : Hid ((cStep a s ⟨4, v⟩ c m).1 = (c ++ [58, 0]).set j (a + (c ++ [58, 0]).length)) := Lib.hid (by simp [cStep, ht])
  have E2 : Hid ((cStep a s ⟨4, v⟩ c m).2 = m.dropLast ++ [⟨(c.length : Int) + 1, 0⟩]) := Lib.hid (by simp [cStep, ht])
  generalize hr : cStep a s ⟨4, v⟩ c m = r at *
  clear h hn hr ht
  have DL : m.dropLast.length ≤ 100 := by rw [List.length_dropLast]; omega
  generalize m.dropLast = md at *
  go_enter Tryz.func230, Tryz.ntmps230
  go_wp2_with fail
  refine (HP.out _ (c) A0.out).mono ?_
  rintro e w1 ⟨rfl, ha, hb⟩
  have A1 := Lib.hid ha
  have B1 : Hid (Below lo w w1) := Lib.hid (B0.out.trans hb)
  have z1 : lo ≤ w1.heap.size := mdAt_lo ha
  clear ha hb
  have zb : lo ≤ (w1.alloc (.cells #[.int .i64 ((j : Int)), .int .i64 tv] 245)).heap.size := by simp; omega
  go_wp2_with fail
  refine (sW_BRANCH _).mono ?_
  rintro e w2 ⟨rfl, hb⟩
  have A2 := Lib.hid (mdAt_below (mdAt_alloc A1.out (.cells #[.int .i64 ((j : Int)), .int .i64 tv] 245)) hb)
  have B2 : Hid (Below lo w w2) := Lib.hid (below_ge (B1.out.alloc (by exact z1) (.cells #[.int .i64 ((j : Int)), .int .i64 tv] 245)) hb zb)
  have z2 : lo ≤ w2.heap.size := mdAt_lo A2.out
  have K2 := Lib.hid (whole_below (whole_new w1 245 #[.int .i64 ((j : Int)), .int .i64 tv]) hb)
  clear hb
  go_wp2_with fail
  refine (sPut_any _ lo G a (c) (md) _ [58, 0] (mdAt_alloc A2.out _) (lit2 _ _ (by simp)) (by first | omega | (simp; omega))).mono ?_
  rintro e w3 ⟨⟨rfl, ha, hb⟩, hk⟩
  have K3 := Lib.hid (hk _ _ _ (by decide) (by decide) (whole_alloc K2.out _))
  have A3 := Lib.hid ha
  have B3 : Hid (Below lo w w3) := Lib.hid ((B2.out.alloc (by exact z2) _).trans hb)
  have z3 : lo ≤ w3.heap.size := mdAt_lo ha
  have y0 := whole_cell K3.out 0
  have y1 := whole_cell K3.out 1
  have yz := whole_lt K3.out
  clear ha hb hk
  go_wp2_with fail
  refine (sFill_any _ lo G a (c ++ [58, 0]) (md) j A3.out (by omega) (by first | omega | (simp; omega)) (by first | omega | (simp; omega))).mono ?_
  rintro e w4 ⟨rfl, ha, hb⟩
  have A4 := Lib.hid ha
  have B4 : Hid (Below lo w w4) := Lib.hid (B3.out.trans hb)
  have z4 : lo ≤ w4.heap.size := mdAt_lo ha
  clear ha hb
  have HL : Hid (((c ++ [58, 0]).set j (a + (c ++ [58, 0]).length)).length = c.length + 1 + 1) := Lib.hid (by simp)
  obtain ⟨vc, vm, hw, hr, hm, hg⟩ := A4.out
  obtain ⟨_, A, d, rfl, _⟩ := prow_its hm
  obtain ⟨_, C, e, rfl, _⟩ := row_ints hr
  have HW := Lib.hid hw
  have HR := Lib.hid hr
  have HM := Lib.hid hm
  have c1 := whole_cell hw 1
  have c2 := whole_cell hw 2
  have zg := whole_lt hw
  clear hw hr hm
  rw [HL.out] at c1
  have q1 : IntKind.i64.wrap ((c.length : Int) + 1) = (c.length : Int) + 1 := IntWalk.i64_in _ (by omega)
  have I2 : Hid (Its ((w4.alloc (.cells #[.int .i64 ((c.length : Int) + 1), .int .i64 0] 245)).drew) (.slice (some ⟨w4.heap.size, 0, none⟩) 1 1) [⟨(c.length : Int) + 1, 0⟩]) := Lib.hid (its_keep (its_one w4 ⟨(c.length : Int) + 1, 0⟩ 245) fun _ _ e => e)
  have BB : Hid (Below w4.heap.size w4 ((w4.alloc (.cells #[.int .i64 ((c.length : Int) + 1), .int .i64 0] 245)).drew)) := Lib.hid (by repeat (first | with_reducible exact Below.refl _ _ | with_reducible refine below_alloc ?_ _ | with_reducible refine below_drewN ?_ _ | with_reducible refine Below.drew ?_))
  go_wp2
  go_region_law (first
    | (refine step_append_marks (w := (w4.alloc (.cells #[.int .i64 ((c.length : Int) + 1), .int .i64 0] 245)).drew) rfl (.tmp 70) (.tmp 78) rfl rfl lo (.slice A (md).length d) (md) rfl (by exact prow_below HM.out BB.out) (.slice (some ⟨w4.heap.size, 0, none⟩) 1 1) [⟨(c.length : Int) + 1, 0⟩] rfl I2.out (by simp <;> omega) (by have := BB.out.size; omega) ?_
       intro v2 w2 hr2 hg2 _
       obtain ⟨hq, d2, f2, zz⟩ := md_appended HW.out HR.out HM.out hg BB.out hr2 hg2
       have HQ := Lib.hid hq
       obtain ⟨_, C2, j2, rfl, _⟩ := prow_its hr2
       rw [show ((md) ++ [(⟨(c.length : Int) + 1, 0⟩ : It)]).length = (md).length + 1 by simp] at HQ
       clear hq hr2 hg2))
  all_goals
    go_wp2
    go_end0
    exact ⟨rfl, by rw [E1.out, E2.out]; exact HQ.out.1, B4.out.trans HQ.out.2⟩

set_option maxRecDepth 100000 in
set_option maxHeartbeats 1000000 in
theorem item_5 (w : World) (lo G : Nat) (a s v : Int) (c : List Int) (m : List It) (h : MdAt w lo G a c m) (ha : 0 ≤ a ∧ a ≤ 400) (hc : c.length ≤ 200) (hm : m.length ≤ 100) (hn : NeedM 5 c.length m) :
    Calls Tryz.prog 230 #[.pointer (some ⟨G, 0, none⟩), .agg #[.int .i64 5, .int .i64 v], .int .i64 s] w (MdOf w lo G a (cStep a s ⟨5, v⟩ c m).1 (cStep a s ⟨5, v⟩ c m).2) := by
  have hlo := mdAt_lo h
  have A0 := Lib.hid (mdAt_alloc h (.cells #[.int .i64 5, .int .i64 v] 97))
  have B0 : Hid (Below lo w (w.alloc (.cells #[.int .i64 5, .int .i64 v] 97))) := Lib.hid ((Below.refl lo w).alloc hlo _)
  have z0 : lo ≤ (w.alloc (.cells #[.int .i64 5, .int .i64 v] 97)).heap.size := by simp; omega
  have hp := hn.1 (by omega)
  obtain ⟨j, hj, hjl⟩ := hn.2 (by omega)
  obtain ⟨tk, tv, ht⟩ : ∃ tk tv, topM m = ⟨tk, tv⟩ := ⟨(topM m).k, (topM m).v, rfl⟩
  rw [ht] at hj
  obtain rfl : tk = (j : Int) := hj
  have HP : Hid (∀ W code, MdAt W lo G a code m → Calls Tryz.prog 254 #[.pointer (some ⟨G, 0, none⟩)] W (MdPopOf W lo G a code m.dropLast ⟨(j : Int), tv⟩)) := Lib.hid fun W code hh => by
    have q := sPop_any W lo G a code m hh hp (by omega)
    rw [ht] at q
    exact q
  have E1 : Hid ((cStep a s ⟨5, v⟩ c m).1 = c.set j (a + c.length)) := Lib.hid (by simp [cStep, ht])
  have E2 : Hid ((cStep a s ⟨5, v⟩ c m).2 = m.dropLast) := Lib.hid (by simp [cStep, ht])
  generalize hr : cStep a s ⟨5, v⟩ c m = r at *
  clear h hn hr ht
  have DL : m.dropLast.length ≤ 100 := by rw [List.length_dropLast]; omega
  generalize m.dropLast = md at *
  go_enter Tryz.func230, Tryz.ntmps230
  go_wp2_with fail
  refine (HP.out _ (c) A0.out).mono ?_
  rintro e w1 ⟨rfl, ha, hb⟩
  have A1 := Lib.hid ha
  have B1 : Hid (Below lo w w1) := Lib.hid (B0.out.trans hb)
  have z1 : lo ≤ w1.heap.size := mdAt_lo ha
  clear ha hb
  go_wp2_with fail
  refine (sFill_any _ lo G a (c) (md) j A1.out (by omega) (by first | omega | (simp; omega)) (by first | omega | (simp; omega))).mono ?_
  rintro e w2 ⟨rfl, ha, hb⟩
  have A2 := Lib.hid ha
  have B2 : Hid (Below lo w w2) := Lib.hid (B1.out.trans hb)
  have z2 : lo ≤ w2.heap.size := mdAt_lo ha
  clear ha hb
  go_wp2
  go_end0
  exact ⟨rfl, by rw [E1.out, E2.out]; exact A2.out, B2.out⟩

set_option maxRecDepth 100000 in
set_option maxHeartbeats 1000000 in
theorem item_6 (w : World) (lo G : Nat) (a s v : Int) (c : List Int) (m : List It) (h : MdAt w lo G a c m) (ha : 0 ≤ a ∧ a ≤ 400) (hc : c.length ≤ 200) (hm : m.length ≤ 100) (hn : NeedM 6 c.length m) :
    Calls Tryz.prog 230 #[.pointer (some ⟨G, 0, none⟩), .agg #[.int .i64 6, .int .i64 v], .int .i64 s] w (MdOf w lo G a (cStep a s ⟨6, v⟩ c m).1 (cStep a s ⟨6, v⟩ c m).2) := by
  have hlo := mdAt_lo h
  have A0 := Lib.hid (mdAt_alloc h (.cells #[.int .i64 6, .int .i64 v] 97))
  have B0 : Hid (Below lo w (w.alloc (.cells #[.int .i64 6, .int .i64 v] 97))) := Lib.hid ((Below.refl lo w).alloc hlo _)
  have z0 : lo ≤ (w.alloc (.cells #[.int .i64 6, .int .i64 v] 97)).heap.size := by simp; omega
  have E1 : Hid ((cStep a s ⟨6, v⟩ c m).1 = c) := Lib.hid (by simp [cStep])
  have E2 : Hid ((cStep a s ⟨6, v⟩ c m).2 = m ++ [⟨0, a + c.length⟩]) := Lib.hid (by simp [cStep])
  generalize hr : cStep a s ⟨6, v⟩ c m = r at *
  clear h hn hr
  go_enter Tryz.func230, Tryz.ntmps230
  obtain ⟨vc, vm, hw, hr, hm, hg⟩ := A0.out
  obtain ⟨_, A, d, rfl, _⟩ := prow_its hm
  obtain ⟨_, C, e, rfl, _⟩ := row_ints hr
  have HW := Lib.hid hw
  have HR := Lib.hid hr
  have HM := Lib.hid hm
  have c1 := whole_cell hw 1
  have c2 := whole_cell hw 2
  have zg := whole_lt hw
  clear hw hr hm
  have HH := Lib.hid (sHere_any (w.alloc (.cells #[.int .i64 6, .int .i64 v] 97)).drew lo G a (c) (m) (mdAt_drew A0.out) (by omega) (by first | omega | (simp; omega)))
  go_wp2
  go_region_law (first
    | (go_simp; go_at_call 256; refine HH.out.mono ?_; rintro e wh ⟨n, rfl, rfl⟩
       have c2b := whole_cell (whole_alloc (whole_below HW.out (below_drewN (Below.refl _ _) (1 + n))) (.cells #[.int .i64 0, .int .i64 (a + (c.length : Int))] 245)) 2)
    | (refine step_append_marks rfl (.tmp 95) (.tmp 99) rfl rfl lo (.slice A (m).length d) (m) rfl (by exact prow_below HM.out (by first | exact below_drewN (below_alloc (Below.refl _ _) _) _ | exact below_alloc (below_drewN (Below.refl _ _) _) _)) (.slice (some ⟨(w.heap.size + 1), 0, none⟩) 1 1) [⟨0, a + (c.length : Int)⟩] rfl (its_whole (x := ⟨0, a + (c.length : Int)⟩) (by first | exact whole_newG (by first | rfl | simp) | exact whole_below (whole_newG (by first | rfl | simp)) (below_drewN (Below.refl _ _) _))) (by simp <;> omega) (by have : lo ≤ (w.alloc (.cells #[.int .i64 6, .int .i64 v] 97)).heap.size := z0; simp at this ⊢ <;> omega) ?_
       intro v2 w2 hr2 hg2 _
       obtain ⟨hq, d2, f2, zz⟩ := md_appended HW.out HR.out HM.out hg (by first | exact below_drewN (below_alloc (Below.refl _ _) _) _ | exact below_alloc (below_drewN (Below.refl _ _) _) _) hr2 hg2
       have HQ := Lib.hid hq
       obtain ⟨_, C2, j2, rfl, _⟩ := prow_its hr2
       rw [show ((m) ++ [(⟨0, a + (c.length : Int)⟩ : It)]).length = (m).length + 1 by simp] at HQ
       clear hq hr2 hg2))
  all_goals
    go_wp2
    go_end0
    exact ⟨rfl, by rw [E1.out, E2.out]; exact HQ.out.1, B0.out.trans HQ.out.2⟩

set_option maxRecDepth 100000 in
set_option maxHeartbeats 1000000 in
theorem item_7 (w : World) (lo G : Nat) (a s v : Int) (c : List Int) (m : List It) (h : MdAt w lo G a c m) (ha : 0 ≤ a ∧ a ≤ 400) (hc : c.length ≤ 200) (hm : m.length ≤ 100) (hn : NeedM 7 c.length m) :
    Calls Tryz.prog 230 #[.pointer (some ⟨G, 0, none⟩), .agg #[.int .i64 7, .int .i64 v], .int .i64 s] w (MdOf w lo G a (cStep a s ⟨7, v⟩ c m).1 (cStep a s ⟨7, v⟩ c m).2) := by
  have hlo := mdAt_lo h
  have A0 := Lib.hid (mdAt_alloc h (.cells #[.int .i64 7, .int .i64 v] 97))
  have B0 : Hid (Below lo w (w.alloc (.cells #[.int .i64 7, .int .i64 v] 97))) := Lib.hid ((Below.refl lo w).alloc hlo _)
  have z0 : lo ≤ (w.alloc (.cells #[.int .i64 7, .int .i64 v] 97)).heap.size := by simp; omega
  have hp := hn.1 (by omega)
  obtain ⟨tk, tv, ht⟩ : ∃ tk tv, topM m = ⟨tk, tv⟩ := ⟨(topM m).k, (topM m).v, rfl⟩
  have HP : Hid (∀ W code, MdAt W lo G a code m → Calls Tryz.prog 254 #[.pointer (some ⟨G, 0, none⟩)] W (MdPopOf W lo G a code m.dropLast ⟨tk, tv⟩)) := Lib.hid fun W code hh => by
    have q := sPop_any W lo G a code m hh hp (by omega)
    rw [ht] at q
    exact q
  have E1 : Hid ((cStep a s ⟨7, v⟩ c m).1 = c ++ [59, tv]) := Lib.hid (by simp [cStep, ht])
  have E2 : Hid ((cStep a s ⟨7, v⟩ c m).2 = m.dropLast) := Lib.hid (by simp [cStep, ht])
  generalize hr : cStep a s ⟨7, v⟩ c m = r at *
  clear h hn hr ht
  have DL : m.dropLast.length ≤ 100 := by rw [List.length_dropLast]; omega
  generalize m.dropLast = md at *
  go_enter Tryz.func230, Tryz.ntmps230
  go_wp2_with fail
  refine (sW_ZERO _).mono ?_
  rintro e w1 ⟨rfl, hb⟩
  have A1 := Lib.hid (mdAt_below A0.out hb)
  have B1 : Hid (Below lo w w1) := Lib.hid (below_ge B0.out hb z0)
  have z1 : lo ≤ w1.heap.size := mdAt_lo A1.out
  clear hb
  go_wp2_with fail
  refine (HP.out _ (c) A1.out).mono ?_
  rintro e w2 ⟨rfl, ha, hb⟩
  have A2 := Lib.hid ha
  have B2 : Hid (Below lo w w2) := Lib.hid (B1.out.trans hb)
  have z2 : lo ≤ w2.heap.size := mdAt_lo ha
  clear ha hb
  go_wp2_with fail
  refine (sPut_any _ lo G a (c) (md) _ [59, tv] (mdAt_alloc A2.out _) (lit2 _ _ (by simp)) (by first | omega | (simp; omega))).mono ?_
  rintro e w3 ⟨⟨rfl, ha, hb⟩, hk⟩
  have A3 := Lib.hid ha
  have B3 : Hid (Below lo w w3) := Lib.hid ((B2.out.alloc (by exact z2) _).trans hb)
  have z3 : lo ≤ w3.heap.size := mdAt_lo ha
  clear ha hb hk
  go_wp2
  go_end0
  exact ⟨rfl, by rw [E1.out, E2.out]; exact A3.out, B3.out⟩

set_option maxRecDepth 100000 in
set_option maxHeartbeats 1000000 in
theorem item_8 (w : World) (lo G : Nat) (a s v : Int) (c : List Int) (m : List It) (h : MdAt w lo G a c m) (ha : 0 ≤ a ∧ a ≤ 400) (hc : c.length ≤ 200) (hm : m.length ≤ 100) (hn : NeedM 8 c.length m) :
    Calls Tryz.prog 230 #[.pointer (some ⟨G, 0, none⟩), .agg #[.int .i64 8, .int .i64 v], .int .i64 s] w (MdOf w lo G a (cStep a s ⟨8, v⟩ c m).1 (cStep a s ⟨8, v⟩ c m).2) := by
  have hlo := mdAt_lo h
  have A0 := Lib.hid (mdAt_alloc h (.cells #[.int .i64 8, .int .i64 v] 97))
  have B0 : Hid (Below lo w (w.alloc (.cells #[.int .i64 8, .int .i64 v] 97))) := Lib.hid ((Below.refl lo w).alloc hlo _)
  have z0 : lo ≤ (w.alloc (.cells #[.int .i64 8, .int .i64 v] 97)).heap.size := by simp; omega
  have hp := hn.1 (by omega)
  obtain ⟨tk, tv, ht⟩ : ∃ tk tv, topM m = ⟨tk, tv⟩ := ⟨(topM m).k, (topM m).v, rfl⟩
  have HP : Hid (∀ W code, MdAt W lo G a code m → Calls Tryz.prog 254 #[.pointer (some ⟨G, 0, none⟩)] W (MdPopOf W lo G a code m.dropLast ⟨tk, tv⟩)) := Lib.hid fun W code hh => by
    have q := sPop_any W lo G a code m hh hp (by omega)
    rw [ht] at q
    exact q
  have E1 : Hid ((cStep a s ⟨8, v⟩ c m).1 = c ++ [59, 0]) := Lib.hid (by simp [cStep, ht])
  have E2 : Hid ((cStep a s ⟨8, v⟩ c m).2 = m.dropLast ++ [⟨(c.length : Int) + 1, tv⟩]) := Lib.hid (by simp [cStep, ht])
  generalize hr : cStep a s ⟨8, v⟩ c m = r at *
  clear h hn hr ht
  have DL : m.dropLast.length ≤ 100 := by rw [List.length_dropLast]; omega
  generalize m.dropLast = md at *
  go_enter Tryz.func230, Tryz.ntmps230
  go_wp2_with fail
  refine (HP.out _ (c) A0.out).mono ?_
  rintro e w1 ⟨rfl, ha, hb⟩
  have A1 := Lib.hid ha
  have B1 : Hid (Below lo w w1) := Lib.hid (B0.out.trans hb)
  have z1 : lo ≤ w1.heap.size := mdAt_lo ha
  clear ha hb
  have zb : lo ≤ (w1.alloc (.cells #[.int .i64 (tk), .int .i64 tv] 245)).heap.size := by simp; omega
  go_wp2_with fail
  refine (sW_ZERO _).mono ?_
  rintro e w2 ⟨rfl, hb⟩
  have A2 := Lib.hid (mdAt_below (mdAt_alloc A1.out (.cells #[.int .i64 (tk), .int .i64 tv] 245)) hb)
  have B2 : Hid (Below lo w w2) := Lib.hid (below_ge (B1.out.alloc (by exact z1) (.cells #[.int .i64 (tk), .int .i64 tv] 245)) hb zb)
  have z2 : lo ≤ w2.heap.size := mdAt_lo A2.out
  have K2 := Lib.hid (whole_below (whole_new w1 245 #[.int .i64 (tk), .int .i64 tv]) hb)
  clear hb
  go_wp2_with fail
  refine (sPut_any _ lo G a (c) (md) _ [59, 0] (mdAt_alloc A2.out _) (lit2 _ _ (by simp)) (by first | omega | (simp; omega))).mono ?_
  rintro e w3 ⟨⟨rfl, ha, hb⟩, hk⟩
  have K3 := Lib.hid (hk _ _ _ (by decide) (by decide) (whole_alloc K2.out _))
  have A3 := Lib.hid ha
  have B3 : Hid (Below lo w w3) := Lib.hid ((B2.out.alloc (by exact z2) _).trans hb)
  have z3 : lo ≤ w3.heap.size := mdAt_lo ha
  have y0 := whole_cell K3.out 0
  have y1 := whole_cell K3.out 1
  have yz := whole_lt K3.out
  clear ha hb hk
  have HL : Hid ((c ++ [59, 0]).length = c.length + 1 + 1) := Lib.hid (by simp)
  obtain ⟨vc, vm, hw, hr, hm, hg⟩ := A3.out
  obtain ⟨_, A, d, rfl, _⟩ := prow_its hm
  obtain ⟨_, C, e, rfl, _⟩ := row_ints hr
  have HW := Lib.hid hw
  have HR := Lib.hid hr
  have HM := Lib.hid hm
  have c1 := whole_cell hw 1
  have c2 := whole_cell hw 2
  have zg := whole_lt hw
  clear hw hr hm
  rw [HL.out] at c1
  have q1 : IntKind.i64.wrap ((c.length : Int) + 1) = (c.length : Int) + 1 := IntWalk.i64_in _ (by omega)
  have I2 : Hid (Its ((w3.alloc (.cells #[.int .i64 ((c.length : Int) + 1), .int .i64 (tv)] 245)).drew) (.slice (some ⟨w3.heap.size, 0, none⟩) 1 1) [⟨(c.length : Int) + 1, tv⟩]) := Lib.hid (its_keep (its_one w3 ⟨(c.length : Int) + 1, tv⟩ 245) fun _ _ e => e)
  have BB : Hid (Below w3.heap.size w3 ((w3.alloc (.cells #[.int .i64 ((c.length : Int) + 1), .int .i64 (tv)] 245)).drew)) := Lib.hid (by repeat (first | with_reducible exact Below.refl _ _ | with_reducible refine below_alloc ?_ _ | with_reducible refine below_drewN ?_ _ | with_reducible refine Below.drew ?_))
  go_wp2
  go_region_law (first
    | (refine step_append_marks (w := (w3.alloc (.cells #[.int .i64 ((c.length : Int) + 1), .int .i64 (tv)] 245)).drew) rfl (.tmp 124) (.tmp 134) rfl rfl lo (.slice A (md).length d) (md) rfl (by exact prow_below HM.out BB.out) (.slice (some ⟨w3.heap.size, 0, none⟩) 1 1) [⟨(c.length : Int) + 1, tv⟩] rfl I2.out (by simp <;> omega) (by have := BB.out.size; omega) ?_
       intro v2 w2 hr2 hg2 _
       obtain ⟨hq, d2, f2, zz⟩ := md_appended HW.out HR.out HM.out hg BB.out hr2 hg2
       have HQ := Lib.hid hq
       obtain ⟨_, C2, j2, rfl, _⟩ := prow_its hr2
       rw [show ((md) ++ [(⟨(c.length : Int) + 1, tv⟩ : It)]).length = (md).length + 1 by simp] at HQ
       clear hq hr2 hg2))
  all_goals
    go_wp2
    go_end0
    exact ⟨rfl, by rw [E1.out, E2.out]; exact HQ.out.1, B3.out.trans HQ.out.2⟩

set_option maxRecDepth 100000 in
set_option maxHeartbeats 1000000 in
theorem item_9 (w : World) (lo G : Nat) (a s v : Int) (c : List Int) (m : List It) (h : MdAt w lo G a c m) (ha : 0 ≤ a ∧ a ≤ 400) (hc : c.length ≤ 200) (hm : m.length ≤ 100) (hn : NeedM 9 c.length m) :
    Calls Tryz.prog 230 #[.pointer (some ⟨G, 0, none⟩), .agg #[.int .i64 9, .int .i64 v], .int .i64 s] w (MdOf w lo G a (cStep a s ⟨9, v⟩ c m).1 (cStep a s ⟨9, v⟩ c m).2) := by
  have hlo := mdAt_lo h
  have A0 := Lib.hid (mdAt_alloc h (.cells #[.int .i64 9, .int .i64 v] 97))
  have B0 : Hid (Below lo w (w.alloc (.cells #[.int .i64 9, .int .i64 v] 97))) := Lib.hid ((Below.refl lo w).alloc hlo _)
  have z0 : lo ≤ (w.alloc (.cells #[.int .i64 9, .int .i64 v] 97)).heap.size := by simp; omega
  have hp := hn.1 (by omega)
  obtain ⟨j, hj, hjl⟩ := hn.2 (by omega)
  obtain ⟨tk, tv, ht⟩ : ∃ tk tv, topM m = ⟨tk, tv⟩ := ⟨(topM m).k, (topM m).v, rfl⟩
  rw [ht] at hj
  obtain rfl : tk = (j : Int) := hj
  have HP : Hid (∀ W code, MdAt W lo G a code m → Calls Tryz.prog 254 #[.pointer (some ⟨G, 0, none⟩)] W (MdPopOf W lo G a code m.dropLast ⟨(j : Int), tv⟩)) := Lib.hid fun W code hh => by
    have q := sPop_any W lo G a code m hh hp (by omega)
    rw [ht] at q
    exact q
  have E1 : Hid ((cStep a s ⟨9, v⟩ c m).1 = (c ++ [58, tv]).set j (a + (c ++ [58, tv]).length)) := Lib.hid (by simp [cStep, ht])
  have E2 : Hid ((cStep a s ⟨9, v⟩ c m).2 = m.dropLast) := Lib.hid (by simp [cStep, ht])
  generalize hr : cStep a s ⟨9, v⟩ c m = r at *
  clear h hn hr ht
  have DL : m.dropLast.length ≤ 100 := by rw [List.length_dropLast]; omega
  generalize m.dropLast = md at *
  go_enter Tryz.func230, Tryz.ntmps230
  go_wp2_with fail
  refine (HP.out _ (c) A0.out).mono ?_
  rintro e w1 ⟨rfl, ha, hb⟩
  have A1 := Lib.hid ha
  have B1 : Hid (Below lo w w1) := Lib.hid (B0.out.trans hb)
  have z1 : lo ≤ w1.heap.size := mdAt_lo ha
  clear ha hb
  have zb : lo ≤ (w1.alloc (.cells #[.int .i64 ((j : Int)), .int .i64 tv] 245)).heap.size := by simp; omega
  have K1 := Lib.hid (whole_new w1 245 #[.int .i64 ((j : Int)), .int .i64 tv])
  have y1 := whole_cell K1.out 1
  go_wp2
  go_region_held3 (fun W => W.cell? ⟨w1.heap.size, 1, none⟩ = some (.int .i64 tv)) (first | exact x3 | exact x2 | exact whole_cell (whole_alloc K2.out _) 1 | exact y1)
    (first
    | (go_at_call 232
       refine (sW_BRANCH _).mono ?_
       rintro e w2 ⟨rfl, hb⟩
       have A2 := Lib.hid (mdAt_below (mdAt_alloc A1.out (.cells #[.int .i64 ((j : Int)), .int .i64 tv] 245)) ((Below.refl _ _).drew.trans hb))
       have B2 : Hid (Below lo w w2) := Lib.hid (below_ge (B1.out.alloc (by exact z1) (.cells #[.int .i64 ((j : Int)), .int .i64 tv] 245)) ((Below.refl _ _).drew.trans hb) zb)
       have z2 : lo ≤ w2.heap.size := mdAt_lo A2.out
       have K2 := Lib.hid (whole_below K1.out ((Below.refl _ _).drew.trans hb))
       have x2 := whole_cell K2.out 1
       have xz := whole_lt K2.out
       clear hb)
    | (go_at_call 231
       refine (sPut_any _ lo G a c md _ [58, tv] (mdAt_alloc A2.out _) (lit2 _ _ (by simp)) (by simp; omega)).mono ?_
       rintro e w3 ⟨⟨rfl, ha, hb⟩, hk⟩
       have A3 := Lib.hid ha
       have B3 : Hid (Below lo w w3) := Lib.hid ((B2.out.alloc (by exact z2) _).trans hb)
       have z3 : lo ≤ w3.heap.size := mdAt_lo ha
       have K3 := Lib.hid (hk _ _ _ (by decide) (by decide) (whole_alloc K2.out _))
       have x3 := whole_cell K3.out 1
       have x4 := whole_cell K3.out 0
       have xw := whole_lt K3.out
       clear ha hb hk))
  all_goals
    go_wp2_with fail
    refine (sFill_any _ lo G a (c ++ [58, tv]) (md) j A3.out (by omega) (by first | omega | (simp; omega)) (by first | omega | (simp; omega))).mono ?_
    rintro e w4 ⟨rfl, ha, hb⟩
    have A4 := Lib.hid ha
    have B4 : Hid (Below lo w w4) := Lib.hid (B3.out.trans hb)
    have z4 : lo ≤ w4.heap.size := mdAt_lo ha
    clear ha hb
    go_wp2
    go_end0
    exact ⟨rfl, by rw [E1.out, E2.out]; exact A4.out, B4.out⟩

set_option maxRecDepth 100000 in
set_option maxHeartbeats 1000000 in
theorem item_10 (w : World) (lo G : Nat) (a s v : Int) (c : List Int) (m : List It) (h : MdAt w lo G a c m) (ha : 0 ≤ a ∧ a ≤ 400) (hc : c.length ≤ 200) (hm : m.length ≤ 100) (hn : NeedM 10 c.length m) :
    Calls Tryz.prog 230 #[.pointer (some ⟨G, 0, none⟩), .agg #[.int .i64 10, .int .i64 v], .int .i64 s] w (MdOf w lo G a (cStep a s ⟨10, v⟩ c m).1 (cStep a s ⟨10, v⟩ c m).2) := by
  have hlo := mdAt_lo h
  have A0 := Lib.hid (mdAt_alloc h (.cells #[.int .i64 10, .int .i64 v] 97))
  have B0 : Hid (Below lo w (w.alloc (.cells #[.int .i64 10, .int .i64 v] 97))) := Lib.hid ((Below.refl lo w).alloc hlo _)
  have z0 : lo ≤ (w.alloc (.cells #[.int .i64 10, .int .i64 v] 97)).heap.size := by simp; omega
  have E1 : Hid ((cStep a s ⟨10, v⟩ c m).1 = c ++ [60]) := Lib.hid (by simp [cStep])
  have E2 : Hid ((cStep a s ⟨10, v⟩ c m).2 = m ++ [⟨0, a + ((c.length : Int) + 1)⟩]) := Lib.hid (by simp [cStep])
  generalize hr : cStep a s ⟨10, v⟩ c m = r at *
  clear h hn hr
  go_enter Tryz.func230, Tryz.ntmps230
  go_wp2_with fail
  refine (sW_DO _).mono ?_
  rintro e w1 ⟨rfl, hb⟩
  have A1 := Lib.hid (mdAt_below A0.out hb)
  have B1 : Hid (Below lo w w1) := Lib.hid (below_ge B0.out hb z0)
  have z1 : lo ≤ w1.heap.size := mdAt_lo A1.out
  clear hb
  go_wp2_with fail
  refine (sPut_any _ lo G a (c) (m) _ [60] (mdAt_alloc A1.out _) (lit1 _ (by simp)) (by first | omega | (simp; omega))).mono ?_
  rintro e w2 ⟨⟨rfl, ha, hb⟩, hk⟩
  have A2 := Lib.hid ha
  have B2 : Hid (Below lo w w2) := Lib.hid ((B1.out.alloc (by exact z1) _).trans hb)
  have z2 : lo ≤ w2.heap.size := mdAt_lo ha
  clear ha hb hk
  obtain ⟨vc, vm, hw, hr, hm, hg⟩ := A2.out
  obtain ⟨_, A, d, rfl, _⟩ := prow_its hm
  obtain ⟨_, C, e, rfl, _⟩ := row_ints hr
  have HW := Lib.hid hw
  have HR := Lib.hid hr
  have HM := Lib.hid hm
  have c1 := whole_cell hw 1
  have c2 := whole_cell hw 2
  have zg := whole_lt hw
  clear hw hr hm
  have HE : Hid ((c ++ [(60 : Int)]).length = c.length + 1) := Lib.hid (by simp)
  rw [HE.out] at c1
  have HH := Lib.hid (sHere_any w2.drew lo G a (c ++ [60]) (m) (mdAt_drew A2.out) (by omega) (by first | omega | (simp; omega)))
  go_wp2
  go_region_law (first
    | (go_simp; go_at_call 256; refine HH.out.mono ?_; rintro e wh ⟨n, rfl, rfl⟩
       have c2b := whole_cell (whole_alloc (whole_below HW.out (below_drewN (Below.refl _ _) (1 + n))) (.cells #[.int .i64 0, .int .i64 (a + ((c.length : Int) + 1))] 245)) 2)
    | (refine step_append_marks rfl (.tmp 162) (.tmp 166) rfl rfl lo (.slice A (m).length d) (m) rfl (by exact prow_below HM.out (by first | exact below_drewN (below_alloc (Below.refl _ _) _) _ | exact below_alloc (below_drewN (Below.refl _ _) _) _)) (.slice (some ⟨w2.heap.size, 0, none⟩) 1 1) [⟨0, a + ((c.length : Int) + 1)⟩] rfl (its_whole (x := ⟨0, a + ((c.length : Int) + 1)⟩) (by first | exact whole_newG (by first | rfl | simp) | exact whole_below (whole_newG (by first | rfl | simp)) (below_drewN (Below.refl _ _) _))) (by simp <;> omega) (by have : lo ≤ w2.heap.size := z2; simp at this ⊢ <;> omega) ?_
       intro v2 w5 hr2 hg2 _
       obtain ⟨hq, d2, f2, zz⟩ := md_appended HW.out HR.out HM.out hg (by first | exact below_drewN (below_alloc (Below.refl _ _) _) _ | exact below_alloc (below_drewN (Below.refl _ _) _) _) hr2 hg2
       have HQ := Lib.hid hq
       obtain ⟨_, C2, j2, rfl, _⟩ := prow_its hr2
       rw [show ((m) ++ [(⟨0, a + ((c.length : Int) + 1)⟩ : It)]).length = (m).length + 1 by simp] at HQ
       clear hq hr2 hg2))
  all_goals
    go_wp2
    go_end0
    exact ⟨rfl, by rw [E1.out, E2.out]; exact HQ.out.1, B2.out.trans HQ.out.2⟩

set_option maxRecDepth 100000 in
set_option maxHeartbeats 1000000 in
theorem item_11 (w : World) (lo G : Nat) (a s v : Int) (c : List Int) (m : List It) (h : MdAt w lo G a c m) (ha : 0 ≤ a ∧ a ≤ 400) (hc : c.length ≤ 200) (hm : m.length ≤ 100) (hn : NeedM 11 c.length m) :
    Calls Tryz.prog 230 #[.pointer (some ⟨G, 0, none⟩), .agg #[.int .i64 11, .int .i64 v], .int .i64 s] w (MdOf w lo G a (cStep a s ⟨11, v⟩ c m).1 (cStep a s ⟨11, v⟩ c m).2) := by
  have hlo := mdAt_lo h
  have A0 := Lib.hid (mdAt_alloc h (.cells #[.int .i64 11, .int .i64 v] 97))
  have B0 : Hid (Below lo w (w.alloc (.cells #[.int .i64 11, .int .i64 v] 97))) := Lib.hid ((Below.refl lo w).alloc hlo _)
  have z0 : lo ≤ (w.alloc (.cells #[.int .i64 11, .int .i64 v] 97)).heap.size := by simp; omega
  have hp := hn.1 (by omega)
  obtain ⟨tk, tv, ht⟩ : ∃ tk tv, topM m = ⟨tk, tv⟩ := ⟨(topM m).k, (topM m).v, rfl⟩
  have HP : Hid (∀ W code, MdAt W lo G a code m → Calls Tryz.prog 254 #[.pointer (some ⟨G, 0, none⟩)] W (MdPopOf W lo G a code m.dropLast ⟨tk, tv⟩)) := Lib.hid fun W code hh => by
    have q := sPop_any W lo G a code m hh hp (by omega)
    rw [ht] at q
    exact q
  have E1 : Hid ((cStep a s ⟨11, v⟩ c m).1 = c ++ [61, tv]) := Lib.hid (by simp [cStep, ht])
  have E2 : Hid ((cStep a s ⟨11, v⟩ c m).2 = m.dropLast) := Lib.hid (by simp [cStep, ht])
  generalize hr : cStep a s ⟨11, v⟩ c m = r at *
  clear h hn hr ht
  have DL : m.dropLast.length ≤ 100 := by rw [List.length_dropLast]; omega
  generalize m.dropLast = md at *
  go_enter Tryz.func230, Tryz.ntmps230
  go_wp2_with fail
  refine (sW_LOOP _).mono ?_
  rintro e w1 ⟨rfl, hb⟩
  have A1 := Lib.hid (mdAt_below A0.out hb)
  have B1 : Hid (Below lo w w1) := Lib.hid (below_ge B0.out hb z0)
  have z1 : lo ≤ w1.heap.size := mdAt_lo A1.out
  clear hb
  go_wp2_with fail
  refine (HP.out _ (c) A1.out).mono ?_
  rintro e w2 ⟨rfl, ha, hb⟩
  have A2 := Lib.hid ha
  have B2 : Hid (Below lo w w2) := Lib.hid (B1.out.trans hb)
  have z2 : lo ≤ w2.heap.size := mdAt_lo ha
  clear ha hb
  go_wp2_with fail
  refine (sPut_any _ lo G a (c) (md) _ [61, tv] (mdAt_alloc A2.out _) (lit2 _ _ (by simp)) (by first | omega | (simp; omega))).mono ?_
  rintro e w3 ⟨⟨rfl, ha, hb⟩, hk⟩
  have A3 := Lib.hid ha
  have B3 : Hid (Below lo w w3) := Lib.hid ((B2.out.alloc (by exact z2) _).trans hb)
  have z3 : lo ≤ w3.heap.size := mdAt_lo ha
  clear ha hb hk
  go_wp2
  go_end0
  exact ⟨rfl, by rw [E1.out, E2.out]; exact A3.out, B3.out⟩

set_option maxRecDepth 100000 in
set_option maxHeartbeats 1000000 in
theorem item_12 (w : World) (lo G : Nat) (a s v : Int) (c : List Int) (m : List It) (h : MdAt w lo G a c m) (ha : 0 ≤ a ∧ a ≤ 400) (hc : c.length ≤ 200) (hm : m.length ≤ 100) (hn : NeedM 12 c.length m) :
    Calls Tryz.prog 230 #[.pointer (some ⟨G, 0, none⟩), .agg #[.int .i64 12, .int .i64 v], .int .i64 s] w (MdOf w lo G a (cStep a s ⟨12, v⟩ c m).1 (cStep a s ⟨12, v⟩ c m).2) := by
  have hlo := mdAt_lo h
  have A0 := Lib.hid (mdAt_alloc h (.cells #[.int .i64 12, .int .i64 v] 97))
  have B0 : Hid (Below lo w (w.alloc (.cells #[.int .i64 12, .int .i64 v] 97))) := Lib.hid ((Below.refl lo w).alloc hlo _)
  have z0 : lo ≤ (w.alloc (.cells #[.int .i64 12, .int .i64 v] 97)).heap.size := by simp; omega
  have hp := hn.1 (by omega)
  obtain ⟨tk, tv, ht⟩ : ∃ tk tv, topM m = ⟨tk, tv⟩ := ⟨(topM m).k, (topM m).v, rfl⟩
  have HP : Hid (∀ W code, MdAt W lo G a code m → Calls Tryz.prog 254 #[.pointer (some ⟨G, 0, none⟩)] W (MdPopOf W lo G a code m.dropLast ⟨tk, tv⟩)) := Lib.hid fun W code hh => by
    have q := sPop_any W lo G a code m hh hp (by omega)
    rw [ht] at q
    exact q
  have E1 : Hid ((cStep a s ⟨12, v⟩ c m).1 = c ++ [62, tv]) := Lib.hid (by simp [cStep, ht])
  have E2 : Hid ((cStep a s ⟨12, v⟩ c m).2 = m.dropLast) := Lib.hid (by simp [cStep, ht])
  generalize hr : cStep a s ⟨12, v⟩ c m = r at *
  clear h hn hr ht
  have DL : m.dropLast.length ≤ 100 := by rw [List.length_dropLast]; omega
  generalize m.dropLast = md at *
  go_enter Tryz.func230, Tryz.ntmps230
  go_wp2_with fail
  refine (sW_PLUS _).mono ?_
  rintro e w1 ⟨rfl, hb⟩
  have A1 := Lib.hid (mdAt_below A0.out hb)
  have B1 : Hid (Below lo w w1) := Lib.hid (below_ge B0.out hb z0)
  have z1 : lo ≤ w1.heap.size := mdAt_lo A1.out
  clear hb
  go_wp2_with fail
  refine (HP.out _ (c) A1.out).mono ?_
  rintro e w2 ⟨rfl, ha, hb⟩
  have A2 := Lib.hid ha
  have B2 : Hid (Below lo w w2) := Lib.hid (B1.out.trans hb)
  have z2 : lo ≤ w2.heap.size := mdAt_lo ha
  clear ha hb
  go_wp2_with fail
  refine (sPut_any _ lo G a (c) (md) _ [62, tv] (mdAt_alloc A2.out _) (lit2 _ _ (by simp)) (by first | omega | (simp; omega))).mono ?_
  rintro e w3 ⟨⟨rfl, ha, hb⟩, hk⟩
  have A3 := Lib.hid ha
  have B3 : Hid (Below lo w w3) := Lib.hid ((B2.out.alloc (by exact z2) _).trans hb)
  have z3 : lo ≤ w3.heap.size := mdAt_lo ha
  clear ha hb hk
  go_wp2
  go_end0
  exact ⟨rfl, by rw [E1.out, E2.out]; exact A3.out, B3.out⟩

set_option maxRecDepth 100000 in
set_option maxHeartbeats 1000000 in
theorem item_13 (w : World) (lo G : Nat) (a s v : Int) (c : List Int) (m : List It) (h : MdAt w lo G a c m) (ha : 0 ≤ a ∧ a ≤ 400) (hc : c.length ≤ 200) (hm : m.length ≤ 100) (hn : NeedM 13 c.length m) :
    Calls Tryz.prog 230 #[.pointer (some ⟨G, 0, none⟩), .agg #[.int .i64 13, .int .i64 v], .int .i64 s] w (MdOf w lo G a (cStep a s ⟨13, v⟩ c m).1 (cStep a s ⟨13, v⟩ c m).2) := by
  have hlo := mdAt_lo h
  have A0 := Lib.hid (mdAt_alloc h (.cells #[.int .i64 13, .int .i64 v] 97))
  have B0 : Hid (Below lo w (w.alloc (.cells #[.int .i64 13, .int .i64 v] 97))) := Lib.hid ((Below.refl lo w).alloc hlo _)
  have z0 : lo ≤ (w.alloc (.cells #[.int .i64 13, .int .i64 v] 97)).heap.size := by simp; omega
  have E1 : Hid ((cStep a s ⟨13, v⟩ c m).1 = c ++ [s]) := Lib.hid (by simp [cStep])
  have E2 : Hid ((cStep a s ⟨13, v⟩ c m).2 = m) := Lib.hid (by simp [cStep])
  generalize hr : cStep a s ⟨13, v⟩ c m = r at *
  clear h hn hr
  go_enter Tryz.func230, Tryz.ntmps230
  go_wp2_with fail
  refine (sPut_any _ lo G a (c) (m) _ [s] (mdAt_alloc A0.out _) (lit1 _ (by simp)) (by first | omega | (simp; omega))).mono ?_
  rintro e w1 ⟨⟨rfl, ha, hb⟩, hk⟩
  have A1 := Lib.hid ha
  have B1 : Hid (Below lo w w1) := Lib.hid ((B0.out.alloc (by exact z0) _).trans hb)
  have z1 : lo ≤ w1.heap.size := mdAt_lo ha
  clear ha hb hk
  go_wp2
  go_end0
  exact ⟨rfl, by rw [E1.out, E2.out]; exact A1.out, B1.out⟩

theorem item_any (w : World) (lo G : Nat) (a s : Int) (x : It) (c : List Int) (m : List It) (h : MdAt w lo G a c m) (ha : 0 ≤ a ∧ a ≤ 400) (hc : c.length ≤ 200) (hm : m.length ≤ 100) (hk : 1 ≤ x.k ∧ x.k ≤ 13) (hn : NeedM x.k c.length m) :
    Calls Tryz.prog 230 #[.pointer (some ⟨G, 0, none⟩), .agg #[.int .i64 x.k, .int .i64 x.v], .int .i64 s] w (MdOf w lo G a (cStep a s x c m).1 (cStep a s x c m).2) := by
  obtain ⟨k, v⟩ := x
  simp only at hk hn ⊢
  rcases (by omega : k = 1 ∨ k = 2 ∨ k = 3 ∨ k = 4 ∨ k = 5 ∨ k = 6 ∨ k = 7 ∨ k = 8 ∨ k = 9 ∨ k = 10 ∨ k = 11 ∨ k = 12 ∨ k = 13) with rfl | rfl | rfl | rfl | rfl | rfl | rfl | rfl | rfl | rfl | rfl | rfl | rfl
  · exact item_1 w lo G a s v c m h ha hc hm hn
  · exact item_2 w lo G a s v c m h ha hc hm hn
  · exact item_3 w lo G a s v c m h ha hc hm hn
  · exact item_4 w lo G a s v c m h ha hc hm hn
  · exact item_5 w lo G a s v c m h ha hc hm hn
  · exact item_6 w lo G a s v c m h ha hc hm hn
  · exact item_7 w lo G a s v c m h ha hc hm hn
  · exact item_8 w lo G a s v c m h ha hc hm hn
  · exact item_9 w lo G a s v c m h ha hc hm hn
  · exact item_10 w lo G a s v c m h ha hc hm hn
  · exact item_11 w lo G a s v c m h ha hc hm hn
  · exact item_12 w lo G a s v c m h ha hc hm hn
  · exact item_13 w lo G a s v c m h ha hc hm hn

end Go.Proofs.YthnbaeamekolmaaGreatDoor
