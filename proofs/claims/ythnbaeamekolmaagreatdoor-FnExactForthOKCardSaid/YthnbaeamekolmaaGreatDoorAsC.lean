/- impl's assembler, item by item. -/
import Derived.Test.YthnbaeamekolmaaGreatDoorAsB
import Derived.Test.YthnbaeamekolmaaGreatDoorCmM
import Derived.Deep.RegionWith
namespace Go.Proofs.YthnbaeamekolmaaGreatDoor
open Go.RowKit
set_option linter.unusedVariables false
set_option linter.unusedSimpArgs false

@[go_sem] theorem fieldJ0 (x y : Value) (w : World) : Sem.run Tryz.prog (Instr.field 253 (.agg #[x, y]) 0) w = .ok x w := by kernel_rfl

@[go_sem] theorem fieldJ1 (x y : Value) (w : World) : Sem.run Tryz.prog (Instr.field 253 (.agg #[x, y]) 1) w = .ok y w := by kernel_rfl

theorem lit1 {w : World} (x : Int) {g : Nat} (hg : g = w.heap.size) : Ints (w.alloc (.cells #[.int .i64 x] 3)) (.slice (some ⟨g, 0, none⟩) 1 1) [x] := by subst hg; exact ints_one w x

theorem lit2 {w : World} (x y : Int) {g : Nat} (hg : g = w.heap.size) : Ints (w.alloc (.cells #[.int .i64 x, .int .i64 y] 3)) (.slice (some ⟨g, 0, none⟩) 2 2) [x, y] := by subst hg; exact ints_two w x y

theorem asAt_drew {w : World} {lo G : Nat} {a s : Int} {code : List Int} {marks : List It} (h : AsAt w lo G a s code marks) : AsAt w.drew lo G a s code marks := asAt_below h (Below.refl _ _).drew

theorem asAt_alloc {w : World} {lo G : Nat} {a s : Int} {code : List Int} {marks : List It} (h : AsAt w lo G a s code marks) (ob : Obj) : AsAt (w.alloc ob) lo G a s code marks := asAt_below h (below_alloc (Below.refl _ _) ob)

set_option maxRecDepth 100000 in
set_option maxHeartbeats 1000000 in
theorem part_3 (w : World) (lo G : Nat) (a s v : Int) (c : List Int) (m : List It) (h : AsAt w lo G a s c m) (ha : 0 ≤ a ∧ a ≤ 400) (hc : c.length ≤ 200) (hm : m.length ≤ 100) (hn : NeedM 3 c.length m) :
    Calls Tryz.prog 237 #[.pointer (some ⟨G, 0, none⟩), .int .i64 3] w (AsOf w lo G a s (cStep a s ⟨3, v⟩ c m).1 (cStep a s ⟨3, v⟩ c m).2) := by
  have hlo := asAt_lo h
  have A0 := Lib.hid h
  have E1 : Hid ((cStep a s ⟨3, v⟩ c m).1 = c ++ [59, 0]) := Lib.hid (by simp [cStep])
  have E2 : Hid ((cStep a s ⟨3, v⟩ c m).2 = m ++ [⟨((c.length + 1 : Nat) : Int), 0⟩]) := Lib.hid (by simp [cStep])
  generalize hr : cStep a s ⟨3, v⟩ c m = r at *
  clear h hn hr
  go_enter Tryz.func237, Tryz.ntmps237
  go_wp2
  go_region_with (first
    | (go_at_call 259
       refine (emitHole_any _ lo G a s 59 (c) (m) (asAt_drew A0.out) (by omega)).mono ?_
       rintro e w1 ⟨rfl, ha, hb⟩
       have A1 := Lib.hid ha
       have B1 : Hid (Below lo w w1) := Lib.hid ((Below.refl lo w).drew.trans hb)
       have z1 : lo ≤ w1.heap.size := asAt_lo ha
       clear ha hb)
    | (go_at_call 258
       refine (pushJ_any _ lo G a s (c ++ [59, 0]) (m) ⟨((c.length + 1 : Nat) : Int), 0⟩ A1.out (by first | omega | (simp; omega))).mono ?_
       rintro e w2 ⟨rfl, ha, hb⟩
       have A2 := Lib.hid ha
       have B2 : Hid (Below lo w w2) := Lib.hid (B1.out.trans hb)
       have z2 : lo ≤ w2.heap.size := asAt_lo ha
       clear ha hb))
  all_goals
    go_wp2
    go_end0
    exact ⟨rfl, by rw [E1.out, E2.out]; exact A2.out, B2.out⟩

set_option maxRecDepth 100000 in
set_option maxHeartbeats 1000000 in
theorem part_4 (w : World) (lo G : Nat) (a s v : Int) (c : List Int) (m : List It) (h : AsAt w lo G a s c m) (ha : 0 ≤ a ∧ a ≤ 400) (hc : c.length ≤ 200) (hm : m.length ≤ 100) (hn : NeedM 4 c.length m) :
    Calls Tryz.prog 237 #[.pointer (some ⟨G, 0, none⟩), .int .i64 4] w (AsOf w lo G a s (cStep a s ⟨4, v⟩ c m).1 (cStep a s ⟨4, v⟩ c m).2) := by
  have hlo := asAt_lo h
  have A0 := Lib.hid h
  have hp := hn.1 (by omega)
  obtain ⟨j, hj, hjl⟩ := hn.2 (by omega)
  obtain ⟨tk, tv, ht⟩ : ∃ tk tv, topM m = ⟨tk, tv⟩ := ⟨(topM m).k, (topM m).v, rfl⟩
  rw [ht] at hj
  obtain rfl : tk = (j : Int) := hj
  have HP : Hid (∀ W code, AsAt W lo G a s code m → Calls Tryz.prog 261 #[.pointer (some ⟨G, 3, none⟩)] W (AsPopOf W lo G a s code m.dropLast ⟨tv, (j : Int)⟩)) := Lib.hid fun W code hh => by
    have q := popJ_any W lo G a s code m hh hp (by omega)
    rw [ht] at q
    exact q
  have E1 : Hid ((cStep a s ⟨4, v⟩ c m).1 = (c ++ [58, 0]).set j (a + (c ++ [58, 0]).length)) := Lib.hid (by simp [cStep, ht])
  have E2 : Hid ((cStep a s ⟨4, v⟩ c m).2 = m.dropLast ++ [⟨((c.length + 1 : Nat) : Int), 0⟩]) := Lib.hid (by simp [cStep, ht])
  generalize hr : cStep a s ⟨4, v⟩ c m = r at *
  clear h hn hr ht
  have DL : m.dropLast.length ≤ 100 := by rw [List.length_dropLast]; omega
  go_enter Tryz.func237, Tryz.ntmps237
  go_wp2_with fail
  refine (emitHole_any _ lo G a s 58 (c) (m) A0.out (by omega)).mono ?_
  rintro e w1 ⟨rfl, ha, hb⟩
  have A1 := Lib.hid ha
  have B1 : Hid (Below lo w w1) := Lib.hid ((Below.refl lo w).trans hb)
  have z1 : lo ≤ w1.heap.size := asAt_lo ha
  clear ha hb
  go_wp2_with fail
  refine (HP.out _ (c ++ [58, 0]) A1.out).mono ?_
  rintro e w2 ⟨rfl, ha, hb⟩
  have A2 := Lib.hid ha
  have B2 : Hid (Below lo w w2) := Lib.hid (B1.out.trans hb)
  have z2 : lo ≤ w2.heap.size := asAt_lo ha
  clear ha hb
  go_wp2_with fail
  refine (fill_any _ lo G a s (c ++ [58, 0]) (m.dropLast) j A2.out (by omega) (by first | omega | (simp; omega)) (by first | omega | (simp; omega))).mono ?_
  rintro e w3 ⟨rfl, ha, hb⟩
  have A3 := Lib.hid ha
  have B3 : Hid (Below lo w w3) := Lib.hid (B2.out.trans hb)
  have z3 : lo ≤ w3.heap.size := asAt_lo ha
  clear ha hb
  go_wp2_with fail
  refine (pushJ_any _ lo G a s ((c ++ [58, 0]).set j (a + (c ++ [58, 0]).length)) (m.dropLast) ⟨((c.length + 1 : Nat) : Int), 0⟩ A3.out (by first | omega | (simp; omega))).mono ?_
  rintro e w4 ⟨rfl, ha, hb⟩
  have A4 := Lib.hid ha
  have B4 : Hid (Below lo w w4) := Lib.hid (B3.out.trans hb)
  have z4 : lo ≤ w4.heap.size := asAt_lo ha
  clear ha hb
  go_wp2
  go_end0
  exact ⟨rfl, by rw [E1.out, E2.out]; exact A4.out, B4.out⟩

set_option maxRecDepth 100000 in
set_option maxHeartbeats 1000000 in
theorem part_5 (w : World) (lo G : Nat) (a s v : Int) (c : List Int) (m : List It) (h : AsAt w lo G a s c m) (ha : 0 ≤ a ∧ a ≤ 400) (hc : c.length ≤ 200) (hm : m.length ≤ 100) (hn : NeedM 5 c.length m) :
    Calls Tryz.prog 237 #[.pointer (some ⟨G, 0, none⟩), .int .i64 5] w (AsOf w lo G a s (cStep a s ⟨5, v⟩ c m).1 (cStep a s ⟨5, v⟩ c m).2) := by
  have hlo := asAt_lo h
  have A0 := Lib.hid h
  have hp := hn.1 (by omega)
  obtain ⟨j, hj, hjl⟩ := hn.2 (by omega)
  obtain ⟨tk, tv, ht⟩ : ∃ tk tv, topM m = ⟨tk, tv⟩ := ⟨(topM m).k, (topM m).v, rfl⟩
  rw [ht] at hj
  obtain rfl : tk = (j : Int) := hj
  have HP : Hid (∀ W code, AsAt W lo G a s code m → Calls Tryz.prog 261 #[.pointer (some ⟨G, 3, none⟩)] W (AsPopOf W lo G a s code m.dropLast ⟨tv, (j : Int)⟩)) := Lib.hid fun W code hh => by
    have q := popJ_any W lo G a s code m hh hp (by omega)
    rw [ht] at q
    exact q
  have E1 : Hid ((cStep a s ⟨5, v⟩ c m).1 = c.set j (a + c.length)) := Lib.hid (by simp [cStep, ht])
  have E2 : Hid ((cStep a s ⟨5, v⟩ c m).2 = m.dropLast) := Lib.hid (by simp [cStep, ht])
  generalize hr : cStep a s ⟨5, v⟩ c m = r at *
  clear h hn hr ht
  have DL : m.dropLast.length ≤ 100 := by rw [List.length_dropLast]; omega
  go_enter Tryz.func237, Tryz.ntmps237
  go_wp2_with fail
  refine (HP.out _ (c) A0.out).mono ?_
  rintro e w1 ⟨rfl, ha, hb⟩
  have A1 := Lib.hid ha
  have B1 : Hid (Below lo w w1) := Lib.hid ((Below.refl lo w).trans hb)
  have z1 : lo ≤ w1.heap.size := asAt_lo ha
  clear ha hb
  go_wp2_with fail
  refine (fill_any _ lo G a s (c) (m.dropLast) j A1.out (by omega) (by first | omega | (simp; omega)) (by first | omega | (simp; omega))).mono ?_
  rintro e w2 ⟨rfl, ha, hb⟩
  have A2 := Lib.hid ha
  have B2 : Hid (Below lo w w2) := Lib.hid (B1.out.trans hb)
  have z2 : lo ≤ w2.heap.size := asAt_lo ha
  clear ha hb
  go_wp2
  go_end0
  exact ⟨rfl, by rw [E1.out, E2.out]; exact A2.out, B2.out⟩

set_option maxRecDepth 100000 in
set_option maxHeartbeats 1000000 in
theorem part_6 (w : World) (lo G : Nat) (a s v : Int) (c : List Int) (m : List It) (h : AsAt w lo G a s c m) (ha : 0 ≤ a ∧ a ≤ 400) (hc : c.length ≤ 200) (hm : m.length ≤ 100) (hn : NeedM 6 c.length m) :
    Calls Tryz.prog 238 #[.pointer (some ⟨G, 0, none⟩), .int .i64 6] w (AsOf w lo G a s (cStep a s ⟨6, v⟩ c m).1 (cStep a s ⟨6, v⟩ c m).2) := by
  have hlo := asAt_lo h
  have A0 := Lib.hid h
  have E1 : Hid ((cStep a s ⟨6, v⟩ c m).1 = c) := Lib.hid (by simp [cStep])
  have E2 : Hid ((cStep a s ⟨6, v⟩ c m).2 = m ++ [⟨0, a + c.length⟩]) := Lib.hid (by simp [cStep])
  generalize hr : cStep a s ⟨6, v⟩ c m = r at *
  clear h hn hr
  go_enter Tryz.func238, Tryz.ntmps238
  go_wp2
  go_region_with (first
    | (go_at_call 262
       refine (here_any _ lo G a s (c) (m) (asAt_drew A0.out) (by omega) (by first | omega | (simp; omega))).mono ?_
       rintro e w1 ⟨n1, rfl, rfl⟩)
    | (go_at_call 258
       refine (pushJ_any _ lo G a s (c) (m) ⟨0, a + c.length⟩ (asAt_below A0.out (below_drewN (Below.refl _ _) _)) (by first | omega | (simp; omega))).mono ?_
       rintro e w1 ⟨rfl, ha, hb⟩
       have A1 := Lib.hid ha
       have B1 : Hid (Below lo w w1) := Lib.hid ((below_drewN (Below.refl lo w) _).trans hb)
       have z1 : lo ≤ w1.heap.size := asAt_lo ha
       clear ha hb))
  all_goals
    go_wp2
    go_end0
    exact ⟨rfl, by rw [E1.out, E2.out]; exact A1.out, B1.out⟩

set_option maxRecDepth 100000 in
set_option maxHeartbeats 1000000 in
theorem part_7 (w : World) (lo G : Nat) (a s v : Int) (c : List Int) (m : List It) (h : AsAt w lo G a s c m) (ha : 0 ≤ a ∧ a ≤ 400) (hc : c.length ≤ 200) (hm : m.length ≤ 100) (hn : NeedM 7 c.length m) :
    Calls Tryz.prog 238 #[.pointer (some ⟨G, 0, none⟩), .int .i64 7] w (AsOf w lo G a s (cStep a s ⟨7, v⟩ c m).1 (cStep a s ⟨7, v⟩ c m).2) := by
  have hlo := asAt_lo h
  have A0 := Lib.hid h
  have hp := hn.1 (by omega)
  obtain ⟨tk, tv, ht⟩ : ∃ tk tv, topM m = ⟨tk, tv⟩ := ⟨(topM m).k, (topM m).v, rfl⟩
  have HP : Hid (∀ W code, AsAt W lo G a s code m → Calls Tryz.prog 261 #[.pointer (some ⟨G, 3, none⟩)] W (AsPopOf W lo G a s code m.dropLast ⟨tv, tk⟩)) := Lib.hid fun W code hh => by
    have q := popJ_any W lo G a s code m hh hp (by omega)
    rw [ht] at q
    exact q
  have E1 : Hid ((cStep a s ⟨7, v⟩ c m).1 = c ++ [59, tv]) := Lib.hid (by simp [cStep, ht])
  have E2 : Hid ((cStep a s ⟨7, v⟩ c m).2 = m.dropLast) := Lib.hid (by simp [cStep, ht])
  generalize hr : cStep a s ⟨7, v⟩ c m = r at *
  clear h hn hr ht
  have DL : m.dropLast.length ≤ 100 := by rw [List.length_dropLast]; omega
  go_enter Tryz.func238, Tryz.ntmps238
  go_wp2_with fail
  refine (HP.out _ (c) A0.out).mono ?_
  rintro e w1 ⟨rfl, ha, hb⟩
  have A1 := Lib.hid ha
  have B1 : Hid (Below lo w w1) := Lib.hid ((Below.refl lo w).trans hb)
  have z1 : lo ≤ w1.heap.size := asAt_lo ha
  clear ha hb
  go_wp2_with fail
  refine (emit_any _ lo G a s (c) (m.dropLast) _ [59, tv] (asAt_alloc A1.out _) (lit2 _ _ (by simp)) (by first | omega | (simp; omega))).mono ?_
  rintro e w2 ⟨rfl, ha, hb⟩
  have A2 := Lib.hid ha
  have B2 : Hid (Below lo w w2) := Lib.hid ((B1.out.alloc (by first | exact hlo | (have := z1; simp; omega)) _).trans hb)
  have z2 : lo ≤ w2.heap.size := asAt_lo ha
  clear ha hb
  go_wp2
  go_end0
  exact ⟨rfl, by rw [E1.out, E2.out]; exact A2.out, B2.out⟩

set_option maxRecDepth 100000 in
set_option maxHeartbeats 1000000 in
theorem part_8 (w : World) (lo G : Nat) (a s v : Int) (c : List Int) (m : List It) (h : AsAt w lo G a s c m) (ha : 0 ≤ a ∧ a ≤ 400) (hc : c.length ≤ 200) (hm : m.length ≤ 100) (hn : NeedM 8 c.length m) :
    Calls Tryz.prog 238 #[.pointer (some ⟨G, 0, none⟩), .int .i64 8] w (AsOf w lo G a s (cStep a s ⟨8, v⟩ c m).1 (cStep a s ⟨8, v⟩ c m).2) := by
  have hlo := asAt_lo h
  have A0 := Lib.hid h
  have hp := hn.1 (by omega)
  obtain ⟨tk, tv, ht⟩ : ∃ tk tv, topM m = ⟨tk, tv⟩ := ⟨(topM m).k, (topM m).v, rfl⟩
  have HP : Hid (∀ W code, AsAt W lo G a s code m → Calls Tryz.prog 261 #[.pointer (some ⟨G, 3, none⟩)] W (AsPopOf W lo G a s code m.dropLast ⟨tv, tk⟩)) := Lib.hid fun W code hh => by
    have q := popJ_any W lo G a s code m hh hp (by omega)
    rw [ht] at q
    exact q
  have E1 : Hid ((cStep a s ⟨8, v⟩ c m).1 = c ++ [59, 0]) := Lib.hid (by simp [cStep, ht])
  have E2 : Hid ((cStep a s ⟨8, v⟩ c m).2 = m.dropLast ++ [⟨((c.length + 1 : Nat) : Int), tv⟩]) := Lib.hid (by simp [cStep, ht])
  generalize hr : cStep a s ⟨8, v⟩ c m = r at *
  clear h hn hr ht
  have DL : m.dropLast.length ≤ 100 := by rw [List.length_dropLast]; omega
  go_enter Tryz.func238, Tryz.ntmps238
  go_wp2_with fail
  refine (HP.out _ (c) A0.out).mono ?_
  rintro e w1 ⟨rfl, ha, hb⟩
  have A1 := Lib.hid ha
  have B1 : Hid (Below lo w w1) := Lib.hid ((Below.refl lo w).trans hb)
  have z1 : lo ≤ w1.heap.size := asAt_lo ha
  clear ha hb
  go_wp2
  go_region_with (first
    | (go_at_call 259
       refine (emitHole_any _ lo G a s 59 (c) (m.dropLast) (asAt_drew A1.out) (by omega)).mono ?_
       rintro e w2 ⟨rfl, ha, hb⟩
       have A2 := Lib.hid ha
       have B2 : Hid (Below lo w w2) := Lib.hid (B1.out.drew.trans hb)
       have z2 : lo ≤ w2.heap.size := asAt_lo ha
       clear ha hb)
    | (go_at_call 258
       refine (pushJ_any _ lo G a s (c ++ [59, 0]) (m.dropLast) ⟨((c.length + 1 : Nat) : Int), tv⟩ A2.out (by first | omega | (simp; omega))).mono ?_
       rintro e w3 ⟨rfl, ha, hb⟩
       have A3 := Lib.hid ha
       have B3 : Hid (Below lo w w3) := Lib.hid (B2.out.trans hb)
       have z3 : lo ≤ w3.heap.size := asAt_lo ha
       clear ha hb))
  all_goals
    go_wp2
    go_end0
    exact ⟨rfl, by rw [E1.out, E2.out]; exact A3.out, B3.out⟩

set_option maxRecDepth 100000 in
set_option maxHeartbeats 1000000 in
theorem part_9 (w : World) (lo G : Nat) (a s v : Int) (c : List Int) (m : List It) (h : AsAt w lo G a s c m) (ha : 0 ≤ a ∧ a ≤ 400) (hc : c.length ≤ 200) (hm : m.length ≤ 100) (hn : NeedM 9 c.length m) :
    Calls Tryz.prog 238 #[.pointer (some ⟨G, 0, none⟩), .int .i64 9] w (AsOf w lo G a s (cStep a s ⟨9, v⟩ c m).1 (cStep a s ⟨9, v⟩ c m).2) := by
  have hlo := asAt_lo h
  have A0 := Lib.hid h
  have hp := hn.1 (by omega)
  obtain ⟨j, hj, hjl⟩ := hn.2 (by omega)
  obtain ⟨tk, tv, ht⟩ : ∃ tk tv, topM m = ⟨tk, tv⟩ := ⟨(topM m).k, (topM m).v, rfl⟩
  rw [ht] at hj
  obtain rfl : tk = (j : Int) := hj
  have HP : Hid (∀ W code, AsAt W lo G a s code m → Calls Tryz.prog 261 #[.pointer (some ⟨G, 3, none⟩)] W (AsPopOf W lo G a s code m.dropLast ⟨tv, (j : Int)⟩)) := Lib.hid fun W code hh => by
    have q := popJ_any W lo G a s code m hh hp (by omega)
    rw [ht] at q
    exact q
  have E1 : Hid ((cStep a s ⟨9, v⟩ c m).1 = (c ++ [58, tv]).set j (a + (c ++ [58, tv]).length)) := Lib.hid (by simp [cStep, ht])
  have E2 : Hid ((cStep a s ⟨9, v⟩ c m).2 = m.dropLast) := Lib.hid (by simp [cStep, ht])
  generalize hr : cStep a s ⟨9, v⟩ c m = r at *
  clear h hn hr ht
  have DL : m.dropLast.length ≤ 100 := by rw [List.length_dropLast]; omega
  go_enter Tryz.func238, Tryz.ntmps238
  go_wp2_with fail
  refine (HP.out _ (c) A0.out).mono ?_
  rintro e w1 ⟨rfl, ha, hb⟩
  have A1 := Lib.hid ha
  have B1 : Hid (Below lo w w1) := Lib.hid ((Below.refl lo w).trans hb)
  have z1 : lo ≤ w1.heap.size := asAt_lo ha
  clear ha hb
  go_wp2_with fail
  refine (emit2_any _ lo G a s (c) (m.dropLast) _ [58, tv] (asAt_alloc (asAt_alloc A1.out _) _) (lit2 _ _ (by simp)) (by first | omega | (simp; omega))).mono ?_
  rintro e w2 ⟨⟨rfl, ha, hb⟩, hk⟩
  have K2 := hk _ _ _ (by decide) (by decide) (whole_alloc (whole_new w1 253 #[.int .i64 tv, .int .i64 (j : Int)]) _)
  have y1 := whole_cell K2 1
  have y2 := whole_lt K2
  clear hk K2
  have A2 := Lib.hid ha
  have B2 : Hid (Below lo w w2) := Lib.hid (((B1.out.alloc (by first | exact hlo | (have := z1; simp; omega)) _).alloc (by first | exact hlo | (have := z1; simp; omega)) _).trans hb)
  have z2 : lo ≤ w2.heap.size := asAt_lo ha
  clear ha hb
  go_wp2_with fail
  refine (fill_any _ lo G a s (c ++ [58, tv]) (m.dropLast) j A2.out (by omega) (by first | omega | (simp; omega)) (by first | omega | (simp; omega))).mono ?_
  rintro e w3 ⟨rfl, ha, hb⟩
  have A3 := Lib.hid ha
  have B3 : Hid (Below lo w w3) := Lib.hid (B2.out.trans hb)
  have z3 : lo ≤ w3.heap.size := asAt_lo ha
  clear ha hb
  go_wp2
  go_end0
  exact ⟨rfl, by rw [E1.out, E2.out]; exact A3.out, B3.out⟩

set_option maxRecDepth 100000 in
set_option maxHeartbeats 1000000 in
theorem part_10 (w : World) (lo G : Nat) (a s v : Int) (c : List Int) (m : List It) (h : AsAt w lo G a s c m) (ha : 0 ≤ a ∧ a ≤ 400) (hc : c.length ≤ 200) (hm : m.length ≤ 100) (hn : NeedM 10 c.length m) :
    Calls Tryz.prog 238 #[.pointer (some ⟨G, 0, none⟩), .int .i64 10] w (AsOf w lo G a s (cStep a s ⟨10, v⟩ c m).1 (cStep a s ⟨10, v⟩ c m).2) := by
  have hlo := asAt_lo h
  have A0 := Lib.hid h
  have E1 : Hid ((cStep a s ⟨10, v⟩ c m).1 = c ++ [60]) := Lib.hid (by simp [cStep])
  have E2 : Hid ((cStep a s ⟨10, v⟩ c m).2 = m ++ [⟨0, a + ((c.length : Int) + 1)⟩]) := Lib.hid (by simp [cStep])
  generalize hr : cStep a s ⟨10, v⟩ c m = r at *
  clear h hn hr
  go_enter Tryz.func238, Tryz.ntmps238
  go_wp2_with fail
  refine (emit_any _ lo G a s (c) (m) _ [60] (asAt_alloc A0.out _) (lit1 _ (by simp)) (by first | omega | (simp; omega))).mono ?_
  rintro e w1 ⟨rfl, ha, hb⟩
  have A1 := Lib.hid ha
  have B1 : Hid (Below lo w w1) := Lib.hid (((Below.refl lo w).alloc (by first | exact hlo | (simp; omega)) _).trans hb)
  have z1 : lo ≤ w1.heap.size := asAt_lo ha
  clear ha hb
  go_wp2
  go_region_with (first
    | (go_at_call 262
       refine (here_any _ lo G a s (c ++ [60]) (m) (asAt_drew A1.out) (by omega) (by first | omega | (simp; omega))).mono ?_
       rintro e w2 ⟨n2, rfl, rfl⟩)
    | (go_at_call 258
       refine (pushJ_any _ lo G a s (c ++ [60]) (m) ⟨0, a + ((c.length : Int) + 1)⟩ (asAt_below A1.out (below_drewN (Below.refl _ _) _)) (by first | omega | (simp; omega))).mono ?_
       rintro e w2 ⟨rfl, ha, hb⟩
       have A2 := Lib.hid ha
       have B2 : Hid (Below lo w w2) := Lib.hid ((below_drewN B1.out _).trans hb)
       have z2 : lo ≤ w2.heap.size := asAt_lo ha
       clear ha hb))
  all_goals
    go_wp2
    go_end0
    exact ⟨rfl, by rw [E1.out, E2.out]; exact A2.out, B2.out⟩

set_option maxRecDepth 100000 in
set_option maxHeartbeats 1000000 in
theorem part_11 (w : World) (lo G : Nat) (a s v : Int) (c : List Int) (m : List It) (h : AsAt w lo G a s c m) (ha : 0 ≤ a ∧ a ≤ 400) (hc : c.length ≤ 200) (hm : m.length ≤ 100) (hn : NeedM 11 c.length m) :
    Calls Tryz.prog 238 #[.pointer (some ⟨G, 0, none⟩), .int .i64 11] w (AsOf w lo G a s (cStep a s ⟨11, v⟩ c m).1 (cStep a s ⟨11, v⟩ c m).2) := by
  have hlo := asAt_lo h
  have A0 := Lib.hid h
  have hp := hn.1 (by omega)
  obtain ⟨tk, tv, ht⟩ : ∃ tk tv, topM m = ⟨tk, tv⟩ := ⟨(topM m).k, (topM m).v, rfl⟩
  have HP : Hid (∀ W code, AsAt W lo G a s code m → Calls Tryz.prog 261 #[.pointer (some ⟨G, 3, none⟩)] W (AsPopOf W lo G a s code m.dropLast ⟨tv, tk⟩)) := Lib.hid fun W code hh => by
    have q := popJ_any W lo G a s code m hh hp (by omega)
    rw [ht] at q
    exact q
  have E1 : Hid ((cStep a s ⟨11, v⟩ c m).1 = c ++ [61, tv]) := Lib.hid (by simp [cStep, ht])
  have E2 : Hid ((cStep a s ⟨11, v⟩ c m).2 = m.dropLast) := Lib.hid (by simp [cStep, ht])
  generalize hr : cStep a s ⟨11, v⟩ c m = r at *
  clear h hn hr ht
  have DL : m.dropLast.length ≤ 100 := by rw [List.length_dropLast]; omega
  go_enter Tryz.func238, Tryz.ntmps238
  go_wp2_with fail
  refine (HP.out _ (c) A0.out).mono ?_
  rintro e w1 ⟨rfl, ha, hb⟩
  have A1 := Lib.hid ha
  have B1 : Hid (Below lo w w1) := Lib.hid ((Below.refl lo w).trans hb)
  have z1 : lo ≤ w1.heap.size := asAt_lo ha
  clear ha hb
  go_wp2_with fail
  refine (emit_any _ lo G a s (c) (m.dropLast) _ [61, tv] (asAt_alloc A1.out _) (lit2 _ _ (by simp)) (by first | omega | (simp; omega))).mono ?_
  rintro e w2 ⟨rfl, ha, hb⟩
  have A2 := Lib.hid ha
  have B2 : Hid (Below lo w w2) := Lib.hid ((B1.out.alloc (by first | exact hlo | (have := z1; simp; omega)) _).trans hb)
  have z2 : lo ≤ w2.heap.size := asAt_lo ha
  clear ha hb
  go_wp2
  go_end0
  exact ⟨rfl, by rw [E1.out, E2.out]; exact A2.out, B2.out⟩

set_option maxRecDepth 100000 in
set_option maxHeartbeats 1000000 in
theorem part_12 (w : World) (lo G : Nat) (a s v : Int) (c : List Int) (m : List It) (h : AsAt w lo G a s c m) (ha : 0 ≤ a ∧ a ≤ 400) (hc : c.length ≤ 200) (hm : m.length ≤ 100) (hn : NeedM 12 c.length m) :
    Calls Tryz.prog 238 #[.pointer (some ⟨G, 0, none⟩), .int .i64 12] w (AsOf w lo G a s (cStep a s ⟨12, v⟩ c m).1 (cStep a s ⟨12, v⟩ c m).2) := by
  have hlo := asAt_lo h
  have A0 := Lib.hid h
  have hp := hn.1 (by omega)
  obtain ⟨tk, tv, ht⟩ : ∃ tk tv, topM m = ⟨tk, tv⟩ := ⟨(topM m).k, (topM m).v, rfl⟩
  have HP : Hid (∀ W code, AsAt W lo G a s code m → Calls Tryz.prog 261 #[.pointer (some ⟨G, 3, none⟩)] W (AsPopOf W lo G a s code m.dropLast ⟨tv, tk⟩)) := Lib.hid fun W code hh => by
    have q := popJ_any W lo G a s code m hh hp (by omega)
    rw [ht] at q
    exact q
  have E1 : Hid ((cStep a s ⟨12, v⟩ c m).1 = c ++ [62, tv]) := Lib.hid (by simp [cStep, ht])
  have E2 : Hid ((cStep a s ⟨12, v⟩ c m).2 = m.dropLast) := Lib.hid (by simp [cStep, ht])
  generalize hr : cStep a s ⟨12, v⟩ c m = r at *
  clear h hn hr ht
  have DL : m.dropLast.length ≤ 100 := by rw [List.length_dropLast]; omega
  go_enter Tryz.func238, Tryz.ntmps238
  go_wp2_with fail
  refine (HP.out _ (c) A0.out).mono ?_
  rintro e w1 ⟨rfl, ha, hb⟩
  have A1 := Lib.hid ha
  have B1 : Hid (Below lo w w1) := Lib.hid ((Below.refl lo w).trans hb)
  have z1 : lo ≤ w1.heap.size := asAt_lo ha
  clear ha hb
  go_wp2_with fail
  refine (emit_any _ lo G a s (c) (m.dropLast) _ [62, tv] (asAt_alloc A1.out _) (lit2 _ _ (by simp)) (by first | omega | (simp; omega))).mono ?_
  rintro e w2 ⟨rfl, ha, hb⟩
  have A2 := Lib.hid ha
  have B2 : Hid (Below lo w w2) := Lib.hid ((B1.out.alloc (by first | exact hlo | (have := z1; simp; omega)) _).trans hb)
  have z2 : lo ≤ w2.heap.size := asAt_lo ha
  clear ha hb
  go_wp2
  go_end0
  exact ⟨rfl, by rw [E1.out, E2.out]; exact A2.out, B2.out⟩

set_option maxRecDepth 100000 in
set_option maxHeartbeats 400000 in
theorem add_1 (w : World) (lo G : Nat) (a s v : Int) (c : List Int) (m : List It) (h : AsAt w lo G a s c m) (ha : 0 ≤ a ∧ a ≤ 400) (hc : c.length ≤ 200) (hm : m.length ≤ 100) (hn : NeedM 1 c.length m) :
    Calls Tryz.prog 217 #[.pointer (some ⟨G, 0, none⟩), .agg #[.int .i64 1, .int .i64 v]] w (AsOf w lo G a s (cStep a s ⟨1, v⟩ c m).1 (cStep a s ⟨1, v⟩ c m).2) := by
  have hlo := asAt_lo h
  have A0 := Lib.hid h
  have A1 := Lib.hid (asAt_alloc h (.cells #[.int .i64 1, .int .i64 v] 97))
  have E1 : Hid ((cStep a s ⟨1, v⟩ c m).1 = c ++ [v]) := Lib.hid (by simp [cStep])
  have E2 : Hid ((cStep a s ⟨1, v⟩ c m).2 = m) := Lib.hid (by simp [cStep])
  generalize hr : cStep a s ⟨1, v⟩ c m = r at *
  clear h hn hr
  go_enter Tryz.func217, Tryz.ntmps217
  go_wp2_with fail
  refine (emit_any _ lo G a s c m _ [v] (asAt_alloc A1.out _) (lit1 _ (by simp)) (by first | omega | (simp; omega))).mono ?_
  rintro e w1 ⟨rfl, hq, hb⟩
  go_wp2
  go_end0
  exact ⟨rfl, by rw [E1.out, E2.out]; exact hq, (((Below.refl lo w).alloc hlo _).alloc (by simp; omega) _).trans hb⟩

set_option maxRecDepth 100000 in
set_option maxHeartbeats 400000 in
theorem add_2 (w : World) (lo G : Nat) (a s v : Int) (c : List Int) (m : List It) (h : AsAt w lo G a s c m) (ha : 0 ≤ a ∧ a ≤ 400) (hc : c.length ≤ 200) (hm : m.length ≤ 100) (hn : NeedM 2 c.length m) :
    Calls Tryz.prog 217 #[.pointer (some ⟨G, 0, none⟩), .agg #[.int .i64 2, .int .i64 v]] w (AsOf w lo G a s (cStep a s ⟨2, v⟩ c m).1 (cStep a s ⟨2, v⟩ c m).2) := by
  have hlo := asAt_lo h
  have A0 := Lib.hid h
  have A1 := Lib.hid (asAt_alloc h (.cells #[.int .i64 2, .int .i64 v] 97))
  have E1 : Hid ((cStep a s ⟨2, v⟩ c m).1 = c ++ [57, v]) := Lib.hid (by simp [cStep])
  have E2 : Hid ((cStep a s ⟨2, v⟩ c m).2 = m) := Lib.hid (by simp [cStep])
  generalize hr : cStep a s ⟨2, v⟩ c m = r at *
  clear h hn hr
  go_enter Tryz.func217, Tryz.ntmps217
  go_wp2_with fail
  refine (emit_any _ lo G a s c m _ [57, v] (asAt_alloc A1.out _) (lit2 _ _ (by simp)) (by first | omega | (simp; omega))).mono ?_
  rintro e w1 ⟨rfl, hq, hb⟩
  go_wp2
  go_end0
  exact ⟨rfl, by rw [E1.out, E2.out]; exact hq, (((Below.refl lo w).alloc hlo _).alloc (by simp; omega) _).trans hb⟩

set_option maxRecDepth 100000 in
set_option maxHeartbeats 400000 in
theorem add_3 (w : World) (lo G : Nat) (a s v : Int) (c : List Int) (m : List It) (h : AsAt w lo G a s c m) (ha : 0 ≤ a ∧ a ≤ 400) (hc : c.length ≤ 200) (hm : m.length ≤ 100) (hn : NeedM 3 c.length m) :
    Calls Tryz.prog 217 #[.pointer (some ⟨G, 0, none⟩), .agg #[.int .i64 3, .int .i64 v]] w (AsOf w lo G a s (cStep a s ⟨3, v⟩ c m).1 (cStep a s ⟨3, v⟩ c m).2) := by
  have hlo := asAt_lo h
  have A0 := Lib.hid h
  have A1 := Lib.hid (asAt_alloc h (.cells #[.int .i64 3, .int .i64 v] 97))
  have HN := Lib.hid hn
  clear h hn
  have HP := Lib.hid (part_3 _ lo G a s v c m A1.out ha hc hm HN.out)
  generalize cStep a s ⟨3, v⟩ c m = r at *
  go_enter Tryz.func217, Tryz.ntmps217
  go_wp2_with fail
  refine HP.out.mono ?_
  rintro e w1 ⟨rfl, hq, hb⟩
  go_wp2
  go_end0
  exact ⟨rfl, hq, ((Below.refl lo w).alloc hlo _).trans hb⟩

set_option maxRecDepth 100000 in
set_option maxHeartbeats 400000 in
theorem add_4 (w : World) (lo G : Nat) (a s v : Int) (c : List Int) (m : List It) (h : AsAt w lo G a s c m) (ha : 0 ≤ a ∧ a ≤ 400) (hc : c.length ≤ 200) (hm : m.length ≤ 100) (hn : NeedM 4 c.length m) :
    Calls Tryz.prog 217 #[.pointer (some ⟨G, 0, none⟩), .agg #[.int .i64 4, .int .i64 v]] w (AsOf w lo G a s (cStep a s ⟨4, v⟩ c m).1 (cStep a s ⟨4, v⟩ c m).2) := by
  have hlo := asAt_lo h
  have A0 := Lib.hid h
  have A1 := Lib.hid (asAt_alloc h (.cells #[.int .i64 4, .int .i64 v] 97))
  have HN := Lib.hid hn
  clear h hn
  have HP := Lib.hid (part_4 _ lo G a s v c m A1.out ha hc hm HN.out)
  generalize cStep a s ⟨4, v⟩ c m = r at *
  go_enter Tryz.func217, Tryz.ntmps217
  go_wp2_with fail
  refine HP.out.mono ?_
  rintro e w1 ⟨rfl, hq, hb⟩
  go_wp2
  go_end0
  exact ⟨rfl, hq, ((Below.refl lo w).alloc hlo _).trans hb⟩

set_option maxRecDepth 100000 in
set_option maxHeartbeats 400000 in
theorem add_5 (w : World) (lo G : Nat) (a s v : Int) (c : List Int) (m : List It) (h : AsAt w lo G a s c m) (ha : 0 ≤ a ∧ a ≤ 400) (hc : c.length ≤ 200) (hm : m.length ≤ 100) (hn : NeedM 5 c.length m) :
    Calls Tryz.prog 217 #[.pointer (some ⟨G, 0, none⟩), .agg #[.int .i64 5, .int .i64 v]] w (AsOf w lo G a s (cStep a s ⟨5, v⟩ c m).1 (cStep a s ⟨5, v⟩ c m).2) := by
  have hlo := asAt_lo h
  have A0 := Lib.hid h
  have A1 := Lib.hid (asAt_alloc h (.cells #[.int .i64 5, .int .i64 v] 97))
  have HN := Lib.hid hn
  clear h hn
  have HP := Lib.hid (part_5 _ lo G a s v c m A1.out ha hc hm HN.out)
  generalize cStep a s ⟨5, v⟩ c m = r at *
  go_enter Tryz.func217, Tryz.ntmps217
  go_wp2_with fail
  refine HP.out.mono ?_
  rintro e w1 ⟨rfl, hq, hb⟩
  go_wp2
  go_end0
  exact ⟨rfl, hq, ((Below.refl lo w).alloc hlo _).trans hb⟩

set_option maxRecDepth 100000 in
set_option maxHeartbeats 400000 in
theorem add_6 (w : World) (lo G : Nat) (a s v : Int) (c : List Int) (m : List It) (h : AsAt w lo G a s c m) (ha : 0 ≤ a ∧ a ≤ 400) (hc : c.length ≤ 200) (hm : m.length ≤ 100) (hn : NeedM 6 c.length m) :
    Calls Tryz.prog 217 #[.pointer (some ⟨G, 0, none⟩), .agg #[.int .i64 6, .int .i64 v]] w (AsOf w lo G a s (cStep a s ⟨6, v⟩ c m).1 (cStep a s ⟨6, v⟩ c m).2) := by
  have hlo := asAt_lo h
  have A0 := Lib.hid h
  have A1 := Lib.hid (asAt_alloc h (.cells #[.int .i64 6, .int .i64 v] 97))
  have HN := Lib.hid hn
  clear h hn
  have HP := Lib.hid (part_6 _ lo G a s v c m A1.out ha hc hm HN.out)
  generalize cStep a s ⟨6, v⟩ c m = r at *
  go_enter Tryz.func217, Tryz.ntmps217
  go_wp2_with fail
  refine HP.out.mono ?_
  rintro e w1 ⟨rfl, hq, hb⟩
  go_wp2
  go_end0
  exact ⟨rfl, hq, ((Below.refl lo w).alloc hlo _).trans hb⟩

set_option maxRecDepth 100000 in
set_option maxHeartbeats 400000 in
theorem add_7 (w : World) (lo G : Nat) (a s v : Int) (c : List Int) (m : List It) (h : AsAt w lo G a s c m) (ha : 0 ≤ a ∧ a ≤ 400) (hc : c.length ≤ 200) (hm : m.length ≤ 100) (hn : NeedM 7 c.length m) :
    Calls Tryz.prog 217 #[.pointer (some ⟨G, 0, none⟩), .agg #[.int .i64 7, .int .i64 v]] w (AsOf w lo G a s (cStep a s ⟨7, v⟩ c m).1 (cStep a s ⟨7, v⟩ c m).2) := by
  have hlo := asAt_lo h
  have A0 := Lib.hid h
  have A1 := Lib.hid (asAt_alloc h (.cells #[.int .i64 7, .int .i64 v] 97))
  have HN := Lib.hid hn
  clear h hn
  have HP := Lib.hid (part_7 _ lo G a s v c m A1.out ha hc hm HN.out)
  generalize cStep a s ⟨7, v⟩ c m = r at *
  go_enter Tryz.func217, Tryz.ntmps217
  go_wp2_with fail
  refine HP.out.mono ?_
  rintro e w1 ⟨rfl, hq, hb⟩
  go_wp2
  go_end0
  exact ⟨rfl, hq, ((Below.refl lo w).alloc hlo _).trans hb⟩

set_option maxRecDepth 100000 in
set_option maxHeartbeats 400000 in
theorem add_8 (w : World) (lo G : Nat) (a s v : Int) (c : List Int) (m : List It) (h : AsAt w lo G a s c m) (ha : 0 ≤ a ∧ a ≤ 400) (hc : c.length ≤ 200) (hm : m.length ≤ 100) (hn : NeedM 8 c.length m) :
    Calls Tryz.prog 217 #[.pointer (some ⟨G, 0, none⟩), .agg #[.int .i64 8, .int .i64 v]] w (AsOf w lo G a s (cStep a s ⟨8, v⟩ c m).1 (cStep a s ⟨8, v⟩ c m).2) := by
  have hlo := asAt_lo h
  have A0 := Lib.hid h
  have A1 := Lib.hid (asAt_alloc h (.cells #[.int .i64 8, .int .i64 v] 97))
  have HN := Lib.hid hn
  clear h hn
  have HP := Lib.hid (part_8 _ lo G a s v c m A1.out ha hc hm HN.out)
  generalize cStep a s ⟨8, v⟩ c m = r at *
  go_enter Tryz.func217, Tryz.ntmps217
  go_wp2_with fail
  refine HP.out.mono ?_
  rintro e w1 ⟨rfl, hq, hb⟩
  go_wp2
  go_end0
  exact ⟨rfl, hq, ((Below.refl lo w).alloc hlo _).trans hb⟩

set_option maxRecDepth 100000 in
set_option maxHeartbeats 400000 in
theorem add_9 (w : World) (lo G : Nat) (a s v : Int) (c : List Int) (m : List It) (h : AsAt w lo G a s c m) (ha : 0 ≤ a ∧ a ≤ 400) (hc : c.length ≤ 200) (hm : m.length ≤ 100) (hn : NeedM 9 c.length m) :
    Calls Tryz.prog 217 #[.pointer (some ⟨G, 0, none⟩), .agg #[.int .i64 9, .int .i64 v]] w (AsOf w lo G a s (cStep a s ⟨9, v⟩ c m).1 (cStep a s ⟨9, v⟩ c m).2) := by
  have hlo := asAt_lo h
  have A0 := Lib.hid h
  have A1 := Lib.hid (asAt_alloc h (.cells #[.int .i64 9, .int .i64 v] 97))
  have HN := Lib.hid hn
  clear h hn
  have HP := Lib.hid (part_9 _ lo G a s v c m A1.out ha hc hm HN.out)
  generalize cStep a s ⟨9, v⟩ c m = r at *
  go_enter Tryz.func217, Tryz.ntmps217
  go_wp2_with fail
  refine HP.out.mono ?_
  rintro e w1 ⟨rfl, hq, hb⟩
  go_wp2
  go_end0
  exact ⟨rfl, hq, ((Below.refl lo w).alloc hlo _).trans hb⟩

set_option maxRecDepth 100000 in
set_option maxHeartbeats 400000 in
theorem add_10 (w : World) (lo G : Nat) (a s v : Int) (c : List Int) (m : List It) (h : AsAt w lo G a s c m) (ha : 0 ≤ a ∧ a ≤ 400) (hc : c.length ≤ 200) (hm : m.length ≤ 100) (hn : NeedM 10 c.length m) :
    Calls Tryz.prog 217 #[.pointer (some ⟨G, 0, none⟩), .agg #[.int .i64 10, .int .i64 v]] w (AsOf w lo G a s (cStep a s ⟨10, v⟩ c m).1 (cStep a s ⟨10, v⟩ c m).2) := by
  have hlo := asAt_lo h
  have A0 := Lib.hid h
  have A1 := Lib.hid (asAt_alloc h (.cells #[.int .i64 10, .int .i64 v] 97))
  have HN := Lib.hid hn
  clear h hn
  have HP := Lib.hid (part_10 _ lo G a s v c m A1.out ha hc hm HN.out)
  generalize cStep a s ⟨10, v⟩ c m = r at *
  go_enter Tryz.func217, Tryz.ntmps217
  go_wp2_with fail
  refine HP.out.mono ?_
  rintro e w1 ⟨rfl, hq, hb⟩
  go_wp2
  go_end0
  exact ⟨rfl, hq, ((Below.refl lo w).alloc hlo _).trans hb⟩

set_option maxRecDepth 100000 in
set_option maxHeartbeats 400000 in
theorem add_11 (w : World) (lo G : Nat) (a s v : Int) (c : List Int) (m : List It) (h : AsAt w lo G a s c m) (ha : 0 ≤ a ∧ a ≤ 400) (hc : c.length ≤ 200) (hm : m.length ≤ 100) (hn : NeedM 11 c.length m) :
    Calls Tryz.prog 217 #[.pointer (some ⟨G, 0, none⟩), .agg #[.int .i64 11, .int .i64 v]] w (AsOf w lo G a s (cStep a s ⟨11, v⟩ c m).1 (cStep a s ⟨11, v⟩ c m).2) := by
  have hlo := asAt_lo h
  have A0 := Lib.hid h
  have A1 := Lib.hid (asAt_alloc h (.cells #[.int .i64 11, .int .i64 v] 97))
  have HN := Lib.hid hn
  clear h hn
  have HP := Lib.hid (part_11 _ lo G a s v c m A1.out ha hc hm HN.out)
  generalize cStep a s ⟨11, v⟩ c m = r at *
  go_enter Tryz.func217, Tryz.ntmps217
  go_wp2_with fail
  refine HP.out.mono ?_
  rintro e w1 ⟨rfl, hq, hb⟩
  go_wp2
  go_end0
  exact ⟨rfl, hq, ((Below.refl lo w).alloc hlo _).trans hb⟩

set_option maxRecDepth 100000 in
set_option maxHeartbeats 400000 in
theorem add_12 (w : World) (lo G : Nat) (a s v : Int) (c : List Int) (m : List It) (h : AsAt w lo G a s c m) (ha : 0 ≤ a ∧ a ≤ 400) (hc : c.length ≤ 200) (hm : m.length ≤ 100) (hn : NeedM 12 c.length m) :
    Calls Tryz.prog 217 #[.pointer (some ⟨G, 0, none⟩), .agg #[.int .i64 12, .int .i64 v]] w (AsOf w lo G a s (cStep a s ⟨12, v⟩ c m).1 (cStep a s ⟨12, v⟩ c m).2) := by
  have hlo := asAt_lo h
  have A0 := Lib.hid h
  have A1 := Lib.hid (asAt_alloc h (.cells #[.int .i64 12, .int .i64 v] 97))
  have HN := Lib.hid hn
  clear h hn
  have HP := Lib.hid (part_12 _ lo G a s v c m A1.out ha hc hm HN.out)
  generalize cStep a s ⟨12, v⟩ c m = r at *
  go_enter Tryz.func217, Tryz.ntmps217
  go_wp2_with fail
  refine HP.out.mono ?_
  rintro e w1 ⟨rfl, hq, hb⟩
  go_wp2
  go_end0
  exact ⟨rfl, hq, ((Below.refl lo w).alloc hlo _).trans hb⟩

set_option maxRecDepth 100000 in
set_option maxHeartbeats 400000 in
theorem add_13 (w : World) (lo G : Nat) (a s v : Int) (c : List Int) (m : List It) (h : AsAt w lo G a s c m) (ha : 0 ≤ a ∧ a ≤ 400) (hc : c.length ≤ 200) (hm : m.length ≤ 100) (hn : NeedM 13 c.length m) :
    Calls Tryz.prog 217 #[.pointer (some ⟨G, 0, none⟩), .agg #[.int .i64 13, .int .i64 v]] w (AsOf w lo G a s (cStep a s ⟨13, v⟩ c m).1 (cStep a s ⟨13, v⟩ c m).2) := by
  have hlo := asAt_lo h
  have A0 := Lib.hid h
  have A1 := Lib.hid (asAt_alloc h (.cells #[.int .i64 13, .int .i64 v] 97))
  have E1 : Hid ((cStep a s ⟨13, v⟩ c m).1 = c ++ [s]) := Lib.hid (by simp [cStep])
  have E2 : Hid ((cStep a s ⟨13, v⟩ c m).2 = m) := Lib.hid (by simp [cStep])
  generalize hr : cStep a s ⟨13, v⟩ c m = r at *
  clear h hn hr
  obtain ⟨vc, vm, hw, _⟩ := A1.out
  have c2 := whole_cell hw 2
  have zg := whole_lt hw
  clear hw
  go_enter Tryz.func217, Tryz.ntmps217
  go_wp2_with fail
  refine (emit_any _ lo G a s c m _ [s] (asAt_alloc A1.out _) (lit1 _ (by simp)) (by first | omega | (simp; omega))).mono ?_
  rintro e w1 ⟨rfl, hq, hb⟩
  go_wp2
  go_end0
  exact ⟨rfl, by rw [E1.out, E2.out]; exact hq, (((Below.refl lo w).alloc hlo _).alloc (by simp; omega) _).trans hb⟩

theorem add_any (w : World) (lo G : Nat) (a s : Int) (x : It) (c : List Int) (m : List It) (h : AsAt w lo G a s c m) (ha : 0 ≤ a ∧ a ≤ 400) (hc : c.length ≤ 200) (hm : m.length ≤ 100) (hk : 1 ≤ x.k ∧ x.k ≤ 13) (hn : NeedM x.k c.length m) :
    Calls Tryz.prog 217 #[.pointer (some ⟨G, 0, none⟩), .agg #[.int .i64 x.k, .int .i64 x.v]] w (AsOf w lo G a s (cStep a s x c m).1 (cStep a s x c m).2) := by
  obtain ⟨k, v⟩ := x
  simp only at hk hn ⊢
  rcases (by omega : k = 1 ∨ k = 2 ∨ k = 3 ∨ k = 4 ∨ k = 5 ∨ k = 6 ∨ k = 7 ∨ k = 8 ∨ k = 9 ∨ k = 10 ∨ k = 11 ∨ k = 12 ∨ k = 13) with rfl | rfl | rfl | rfl | rfl | rfl | rfl | rfl | rfl | rfl | rfl | rfl | rfl
  · exact add_1 w lo G a s v c m h ha hc hm hn
  · exact add_2 w lo G a s v c m h ha hc hm hn
  · exact add_3 w lo G a s v c m h ha hc hm hn
  · exact add_4 w lo G a s v c m h ha hc hm hn
  · exact add_5 w lo G a s v c m h ha hc hm hn
  · exact add_6 w lo G a s v c m h ha hc hm hn
  · exact add_7 w lo G a s v c m h ha hc hm hn
  · exact add_8 w lo G a s v c m h ha hc hm hn
  · exact add_9 w lo G a s v c m h ha hc hm hn
  · exact add_10 w lo G a s v c m h ha hc hm hn
  · exact add_11 w lo G a s v c m h ha hc hm hn
  · exact add_12 w lo G a s v c m h ha hc hm hn
  · exact add_13 w lo G a s v c m h ha hc hm hn

end Go.Proofs.YthnbaeamekolmaaGreatDoor
