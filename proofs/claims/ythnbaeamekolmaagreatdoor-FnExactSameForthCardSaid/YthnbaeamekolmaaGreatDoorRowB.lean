/- Walks over slices of numbers: alike, cells all, marks laid and found, copies. -/
import Derived.Test.YthnbaeamekolmaaGreatDoorRowA
namespace Go.Proofs.YthnbaeamekolmaaGreatDoor
open Go.RowKit
set_option linter.unusedVariables false
set_option linter.unusedSimpArgs false

set_option maxRecDepth 100000 in
set_option maxHeartbeats 1000000 in
theorem eqInts_any (u v : Value) (P Q : List Int) (w : World) (hu : Ints w u P) (hv : Ints w v Q) :
    Calls Tryz.prog 34 #[u, v] w (BoolOf w (P == Q)) := by
  obtain ⟨pm, A, ca, rfl, ha⟩ := hu
  obtain ⟨qm, B, cb, rfl, hb⟩ := hv
  unfold maxLen at pm qm
  by_cases hl : P.length = Q.length
  · have z0 : ((P.length : Int) != (Q.length : Int)) = false := by simp [hl]
    have LE := Lib.hid hl
    have hlq : P.length ≤ Q.length := by omega
    have HA := Lib.hid ha
    have HB := Lib.hid hb
    clear hl ha hb
    go_enter Tryz.func34, Tryz.ntmps34
    go_wp2
    clear z0
    go_loopw [5] (fun i wr => ∃ k n : Nat, k ≤ P.length ∧ i = .int .i64 k ∧ SameTo P Q k ∧ wr = w.drewN n) (fun i _ => P.length - (intOf i).toNat)
    case atStart => exact ⟨0, 0, Nat.zero_le _, rfl, sameTo_zero _ _, rfl⟩
    case round =>
      obtain ⟨k, n, hk, rfl, hat, rfl⟩ := hrel
      have AT := Lib.hid hat
      clear hat
      by_cases hlt : k < P.length
      · have hlt2 : k < Q.length := by omega
        obtain ⟨ga, rfl, hca⟩ := HA.out (by omega)
        obtain ⟨gb, rfl, hcb⟩ := HB.out (by omega)
        have ka := hca k hlt
        have kb := hcb k hlt2
        clear hca hcb
        by_cases e : P[k] = Q[k]
        · have t1 : (P[k] == Q[k]) = true := by rw [beq_iff_eq]; exact e
          have NX := Lib.hid (sameTo_next AT.out hlt hlt2 e)
          clear e
          generalize P[k] = x at *
          generalize Q[k] = y at *
          go_wp2
          go_quiet (fail)
          go_wp2
          go_roundw
          case rel => exact ⟨k + 1, _, by omega, by go_num, NX.out, rfl⟩
          case measure => simp [intOf]; omega
        · have t1 : (P[k] == Q[k]) = false := by rw [beq_eq_false_iff_ne]; exact e
          have NO := Lib.hid (same_not hlt hlt2 e)
          clear e
          generalize P[k] = x at *
          generalize Q[k] = y at *
          go_wp2
          go_quiet (fail)
          go_wp2
          go_ret
          exact ⟨_, ret_bool NO.out.symm, by rw [World.drewN_drewN]⟩
      · obtain rfl : k = P.length := by omega
        have E := Lib.hid (sameTo_end LE.out AT.out)
        go_wp2
        go_ret
        exact ⟨_, ret_bool E.out.symm, rfl⟩
  · have z0 : ((P.length : Int) != (Q.length : Int)) = true := by rw [bne_iff_ne]; omega
    have E := Lib.hid (same_len hl)
    clear hl ha hb
    go_enter Tryz.func34, Tryz.ntmps34
    go_wp2
    go_ret
    exact ⟨0, ret_bool E.out.symm, rfl⟩

set_option maxRecDepth 100000 in
set_option maxHeartbeats 1000000 in
theorem sSame_any (u v : Value) (P Q : List Int) (w : World) (hu : Ints w u P) (hv : Ints w v Q) :
    Calls Tryz.prog 171 #[u, v] w (BoolOf w (P == Q)) := by
  obtain ⟨pm, A, ca, rfl, ha⟩ := hu
  obtain ⟨qm, B, cb, rfl, hb⟩ := hv
  unfold maxLen at pm qm
  by_cases hl : P.length = Q.length
  · have z0 : ((P.length : Int) != (Q.length : Int)) = false := by simp [hl]
    have LE := Lib.hid hl
    have hlq : P.length ≤ Q.length := by omega
    have HA := Lib.hid ha
    have HB := Lib.hid hb
    clear hl ha hb
    go_enter Tryz.func171, Tryz.ntmps171
    go_wp2
    clear z0
    go_loopw [5] (fun i wr => ∃ k n : Nat, k ≤ P.length ∧ i = .int .i64 k ∧ SameTo P Q k ∧ wr = w.drewN n) (fun i _ => P.length - (intOf i).toNat)
    case atStart => exact ⟨0, 0, Nat.zero_le _, rfl, sameTo_zero _ _, rfl⟩
    case round =>
      obtain ⟨k, n, hk, rfl, hat, rfl⟩ := hrel
      have AT := Lib.hid hat
      clear hat
      by_cases hlt : k < P.length
      · have hlt2 : k < Q.length := by omega
        obtain ⟨ga, rfl, hca⟩ := HA.out (by omega)
        obtain ⟨gb, rfl, hcb⟩ := HB.out (by omega)
        have ka := hca k hlt
        have kb := hcb k hlt2
        clear hca hcb
        by_cases e : P[k] = Q[k]
        · have t1 : (P[k] == Q[k]) = true := by rw [beq_iff_eq]; exact e
          have NX := Lib.hid (sameTo_next AT.out hlt hlt2 e)
          clear e
          generalize P[k] = x at *
          generalize Q[k] = y at *
          go_wp2
          go_quiet (fail)
          go_wp2
          go_roundw
          case rel => exact ⟨k + 1, _, by omega, by go_num, NX.out, rfl⟩
          case measure => simp [intOf]; omega
        · have t1 : (P[k] == Q[k]) = false := by rw [beq_eq_false_iff_ne]; exact e
          have NO := Lib.hid (same_not hlt hlt2 e)
          clear e
          generalize P[k] = x at *
          generalize Q[k] = y at *
          go_wp2
          go_quiet (fail)
          go_wp2
          go_ret
          exact ⟨_, ret_bool NO.out.symm, by rw [World.drewN_drewN]⟩
      · obtain rfl : k = P.length := by omega
        have E := Lib.hid (sameTo_end LE.out AT.out)
        go_wp2
        go_ret
        exact ⟨_, ret_bool E.out.symm, rfl⟩
  · have z0 : ((P.length : Int) != (Q.length : Int)) = true := by rw [bne_iff_ne]; omega
    have E := Lib.hid (same_len hl)
    clear hl ha hb
    go_enter Tryz.func171, Tryz.ntmps171
    go_wp2
    go_ret
    exact ⟨0, ret_bool E.out.symm, rfl⟩

set_option maxRecDepth 100000 in
set_option maxHeartbeats 1000000 in
theorem sameInts_any (u v : Value) (P Q : List Int) (w : World) (hu : Ints w u P) (hv : Ints w v Q) :
    Calls Tryz.prog 23 #[u, v] w (BoolOf w (P == Q)) := by
  obtain ⟨pm, A, ca, rfl, ha⟩ := hu
  obtain ⟨qm, B, cb, rfl, hb⟩ := hv
  unfold maxLen at pm qm
  by_cases hl : P.length = Q.length
  · have z0 : ((P.length : Int) != (Q.length : Int)) = false := by simp [hl]
    have LE := Lib.hid hl
    have hlq : P.length ≤ Q.length := by omega
    have HA := Lib.hid ha
    have HB := Lib.hid hb
    clear hl ha hb
    go_enter Tryz.func23, Tryz.ntmps23
    go_wp2
    clear z0
    go_loopw [5] (fun i wr => ∃ k n : Nat, k ≤ P.length ∧ i = .int .i64 k ∧ SameTo P Q k ∧ wr = w.drewN n) (fun i _ => P.length - (intOf i).toNat)
    case atStart => exact ⟨0, 0, Nat.zero_le _, rfl, sameTo_zero _ _, rfl⟩
    case round =>
      obtain ⟨k, n, hk, rfl, hat, rfl⟩ := hrel
      have AT := Lib.hid hat
      clear hat
      by_cases hlt : k < P.length
      · have hlt2 : k < Q.length := by omega
        obtain ⟨ga, rfl, hca⟩ := HA.out (by omega)
        obtain ⟨gb, rfl, hcb⟩ := HB.out (by omega)
        have ka := hca k hlt
        have kb := hcb k hlt2
        clear hca hcb
        by_cases e : P[k] = Q[k]
        · have t1 : (P[k] == Q[k]) = true := by rw [beq_iff_eq]; exact e
          have NX := Lib.hid (sameTo_next AT.out hlt hlt2 e)
          clear e
          generalize P[k] = x at *
          generalize Q[k] = y at *
          go_wp2
          go_quiet (fail)
          go_wp2
          go_roundw
          case rel => exact ⟨k + 1, _, by omega, by go_num, NX.out, rfl⟩
          case measure => simp [intOf]; omega
        · have t1 : (P[k] == Q[k]) = false := by rw [beq_eq_false_iff_ne]; exact e
          have NO := Lib.hid (same_not hlt hlt2 e)
          clear e
          generalize P[k] = x at *
          generalize Q[k] = y at *
          go_wp2
          go_quiet (fail)
          go_wp2
          go_ret
          exact ⟨_, ret_bool NO.out.symm, by rw [World.drewN_drewN]⟩
      · obtain rfl : k = P.length := by omega
        have E := Lib.hid (sameTo_end LE.out AT.out)
        go_wp2
        go_ret
        exact ⟨_, ret_bool E.out.symm, rfl⟩
  · have z0 : ((P.length : Int) != (Q.length : Int)) = true := by rw [bne_iff_ne]; omega
    have E := Lib.hid (same_len hl)
    clear hl ha hb
    go_enter Tryz.func23, Tryz.ntmps23
    go_wp2
    go_ret
    exact ⟨0, ret_bool E.out.symm, rfl⟩

set_option maxRecDepth 100000 in
set_option maxHeartbeats 1000000 in
theorem slEqual_any (u v : Value) (P Q : List Int) (w : World) (hu : Ints w u P) (hv : Ints w v Q) :
    Calls Tryz.prog 67 #[u, v] w (BoolOf w (P == Q)) := by
  obtain ⟨pm, A, ca, rfl, ha⟩ := hu
  obtain ⟨qm, B, cb, rfl, hb⟩ := hv
  unfold maxLen at pm qm
  by_cases hl : P.length = Q.length
  · have z0 : ((P.length : Int) != (Q.length : Int)) = false := by simp [hl]
    have LE := Lib.hid hl
    have hlq : P.length ≤ Q.length := by omega
    have HA := Lib.hid ha
    have HB := Lib.hid hb
    clear hl ha hb
    go_enter Tryz.func67, Tryz.ntmps67
    go_wp2
    clear z0
    go_loopw [5, 13] (fun _ i wr => ∃ k n : Nat, k ≤ P.length ∧ i = .int .i64 k ∧ SameTo P Q k ∧ wr = w.drewN n) (fun _ i _ => P.length - (intOf i).toNat)
    case atStart => exact ⟨0, 0, Nat.zero_le _, rfl, sameTo_zero _ _, rfl⟩
    case round =>
      obtain ⟨k, n, hk, rfl, hat, rfl⟩ := hrel
      have AT := Lib.hid hat
      clear hat
      by_cases hlt : k < P.length
      · have hlt2 : k < Q.length := by omega
        obtain ⟨ga, rfl, hca⟩ := HA.out (by omega)
        obtain ⟨gb, rfl, hcb⟩ := HB.out (by omega)
        have ka := hca k hlt
        have kb := hcb k hlt2
        clear hca hcb
        by_cases e : P[k] = Q[k]
        · have t1 : (P[k] == Q[k]) = true := by rw [beq_iff_eq]; exact e
          have NX := Lib.hid (sameTo_next AT.out hlt hlt2 e)
          clear e
          generalize P[k] = x at *
          generalize Q[k] = y at *
          go_wp2
          go_quiet (fail)
          go_wp2
          go_roundw
          case rel => exact ⟨k + 1, _, by omega, by go_num, NX.out, rfl⟩
          case measure => simp [intOf]; omega
        · have t1 : (P[k] == Q[k]) = false := by rw [beq_eq_false_iff_ne]; exact e
          have NO := Lib.hid (same_not hlt hlt2 e)
          clear e
          generalize P[k] = x at *
          generalize Q[k] = y at *
          go_wp2
          go_quiet (fail)
          go_wp2
          go_ret
          exact ⟨_, ret_bool NO.out.symm, by rw [World.drewN_drewN]⟩
      · obtain rfl : k = P.length := by omega
        have E := Lib.hid (sameTo_end LE.out AT.out)
        go_wp2
        go_ret
        exact ⟨_, ret_bool E.out.symm, rfl⟩
  · have z0 : ((P.length : Int) != (Q.length : Int)) = true := by rw [bne_iff_ne]; omega
    have E := Lib.hid (same_len hl)
    clear hl ha hb
    go_enter Tryz.func67, Tryz.ntmps67
    go_wp2
    go_ret
    exact ⟨0, ret_bool E.out.symm, rfl⟩

/-- Are all the numbers cells? -/
def cellsB (l : List Int) : Bool := l.all cellB

theorem cellsB_at {l : List Int} (h : cellsB l = true) {n : Int} (hn : n ∈ l) : cellB n = true := List.all_eq_true.1 h n hn

/-- The first k are cells. -/
def CellsTo (l : List Int) (k : Nat) : Prop := ∀ n ∈ l.take k, cellB n = true

theorem cellsTo_zero (l : List Int) : CellsTo l 0 := by intro n hn; simp at hn

theorem cellsTo_next {l : List Int} {k : Nat} (h : CellsTo l k) (hk : k < l.length) (e : cellB l[k] = true) : CellsTo l (k + 1) := by
  intro n hn
  rw [List.take_succ_eq_append_getElem hk] at hn
  rcases List.mem_append.1 hn with hn | hn
  · exact h n hn
  · rw [List.mem_singleton.1 hn]; exact e

theorem cells_end {l : List Int} (h : CellsTo l l.length) : cellsB l = true := by
  unfold CellsTo at h; rw [List.take_length] at h; exact List.all_eq_true.2 h

theorem cells_not {l : List Int} {k : Nat} (hk : k < l.length) (e : cellB l[k] = false) : cellsB l = false := by
  cases h : cellsB l
  · rfl
  · rw [cellsB_at h (List.getElem_mem hk)] at e; cases e

set_option maxRecDepth 100000 in
set_option maxHeartbeats 1000000 in
theorem allCells_any (v : Value) (Q : List Int) (w : World) (hv : Ints w v Q) :
    Calls Tryz.prog 68 #[v] w fun e w' => e = .returned (.bool (cellsB Q)) ∧ w = w' := by
  obtain ⟨qm, B, cb, rfl, hb⟩ := hv
  unfold maxLen at qm
  have HB := Lib.hid hb
  clear hb
  go_enter Tryz.func68, Tryz.ntmps68
  go_wp2
  go_loop [4, 7] (fun _ i => ∃ k : Nat, k ≤ Q.length ∧ i = .int .i64 k ∧ CellsTo Q k) (fun _ i => Q.length - (intOf i).toNat)
  case atStart => exact ⟨0, Nat.zero_le _, rfl, cellsTo_zero _⟩
  case round =>
    obtain ⟨k, hk, rfl, hat⟩ := hrel
    have AT := Lib.hid hat
    clear hat
    by_cases hlt : k < Q.length
    · obtain ⟨gb, rfl, hcb⟩ := HB.out (by omega)
      have kb := hcb k hlt
      clear hcb
      cases e : cellB Q[k]
      · have NO := Lib.hid (cells_not hlt e)
        generalize Q[k] = y at *
        go_wp2_with (go_at_call 140; refine (cellOK_any _ _).mono ?_; rintro e w' ⟨rfl, rfl⟩)
        go_ret
        exact ⟨ret_bool NO.out.symm, rfl⟩
      · have NX := Lib.hid (cellsTo_next AT.out hlt e)
        generalize Q[k] = y at *
        go_wp2_with (go_at_call 140; refine (cellOK_any _ _).mono ?_; rintro e w' ⟨rfl, rfl⟩)
        go_round
        case rel => exact ⟨k + 1, by omega, by go_num, NX.out⟩
        case measure => simp [intOf]; omega
    · obtain rfl : k = Q.length := by omega
      have E := Lib.hid (cells_end AT.out)
      go_wp2
      go_ret
      exact ⟨ret_bool E.out.symm, rfl⟩

set_option maxRecDepth 100000 in
set_option maxHeartbeats 1000000 in
theorem sCells_any (v : Value) (Q : List Int) (w : World) (hv : Ints w v Q) :
    Calls Tryz.prog 132 #[v] w fun e w' => e = .returned (.bool (cellsB Q)) ∧ w = w' := by
  obtain ⟨qm, B, cb, rfl, hb⟩ := hv
  unfold maxLen at qm
  have HB := Lib.hid hb
  clear hb
  go_enter Tryz.func132, Tryz.ntmps132
  go_wp2
  go_loop [3] (fun i => ∃ k : Nat, k ≤ Q.length ∧ i = .int .i64 k ∧ CellsTo Q k) (fun i => Q.length - (intOf i).toNat)
  case atStart => exact ⟨0, Nat.zero_le _, rfl, cellsTo_zero _⟩
  case round =>
    obtain ⟨k, hk, rfl, hat⟩ := hrel
    have AT := Lib.hid hat
    clear hat
    by_cases hlt : k < Q.length
    · obtain ⟨gb, rfl, hcb⟩ := HB.out (by omega)
      have kb := hcb k hlt
      clear hcb
      cases e : cellB Q[k]
      · have NO := Lib.hid (cells_not hlt e)
        generalize Q[k] = y at *
        go_wp2_with (go_at_call 193; refine (sCell_any _ _).mono ?_; rintro e w' ⟨rfl, rfl⟩)
        go_ret
        exact ⟨ret_bool NO.out.symm, rfl⟩
      · have NX := Lib.hid (cellsTo_next AT.out hlt e)
        generalize Q[k] = y at *
        go_wp2_with (go_at_call 193; refine (sCell_any _ _).mono ?_; rintro e w' ⟨rfl, rfl⟩)
        go_round
        case rel => exact ⟨k + 1, by omega, by go_num, NX.out⟩
        case measure => simp [intOf]; omega
    · obtain rfl : k = Q.length := by omega
      have E := Lib.hid (cells_end AT.out)
      go_wp2
      go_ret
      exact ⟨ret_bool E.out.symm, rfl⟩

/-- What is left of a size. -/
def leftOf (left : Int) (n : Nat) : Int := if left - n < 0 then -1 else left - n

set_option maxHeartbeats 400000 in
theorem szInts_any (A : Option Addr) (n cap : Nat) (left : Int) (w : World) (hn : n ≤ maxLen) (h0 : 0 ≤ left) (h1 : left ≤ 1048576) :
    Calls Tryz.prog 72 #[.slice A n cap, .int .i64 left] w fun e w' => e = .returned (.int .i64 (leftOf left n)) ∧ w = w' := by
  unfold maxLen at hn
  by_cases h : left - n < 0
  · have E : Hid (leftOf left n = -1) := Lib.hid (by unfold leftOf; rw [if_pos h])
    go_enter Tryz.func72, Tryz.ntmps72
    go_wp2
    go_ret
    exact ⟨ret_int E.out.symm, rfl⟩
  · have E : Hid (leftOf left n = left - n) := Lib.hid (by unfold leftOf; rw [if_neg h])
    go_enter Tryz.func72, Tryz.ntmps72
    go_wp2
    go_ret
    exact ⟨ret_int E.out.symm, rfl⟩

/-- A slice handed back, of the call's own, of these numbers. -/
def RowOf (w : World) (zs : List Int) (e : Ending) (w' : World) : Prop := ∃ v, e = .returned v ∧ Row w' w.heap.size v zs ∧ v.ownBlock ≠ none ∧ Below w.heap.size w w'

/-- The first k numbers, then zeros. -/
def partI (zs : List Int) (k : Nat) : List Int := zs.take k ++ List.replicate (zs.length - k) 0

theorem partI_len {zs : List Int} {k : Nat} (h : k ≤ zs.length) : (partI zs k).length = zs.length := by unfold partI; simp; omega

theorem partI_next {zs : List Int} {k : Nat} (h : k < zs.length) : (partI zs k).set k zs[k] = partI zs (k + 1) := by
  unfold partI
  rw [List.set_append_right _ _ (by simp; omega)]
  rw [List.length_take, Nat.min_eq_left (by omega), Nat.sub_self, show zs.length - k = (zs.length - (k + 1)) + 1 by omega, List.replicate_succ, List.set_cons_zero, List.take_succ_eq_append_getElem h, List.append_assoc]
  rfl

theorem partI_end (zs : List Int) : partI zs zs.length = zs := by unfold partI; simp

theorem zeros_cells (n : Nat) : (madeCells (Value.int .i64 0).cells (n * 1)).toList = (List.replicate n (0 : Int)).map (Value.int .i64) := by
  rw [Nat.mul_one, show (Value.int .i64 0).cells = #[Value.int .i64 0] from rfl, toList_madeCells_one]; simp

theorem zeros_row {w' : World} {base g n : Nat} (h : w'.ownsRow base 3 1 (.slice (some ⟨g, 0, none⟩) n n) n (madeCells (Value.int .i64 0).cells (n * 1)).toList) : Row w' base (.slice (some ⟨g, 0, none⟩) n n) (List.replicate n 0) := by
  unfold Row
  rw [List.length_replicate, ← zeros_cells]; exact h

set_option maxRecDepth 100000 in
set_option maxHeartbeats 1000000 in
theorem toInts_any (v : Value) (zs : List Int) (w : World) (hv : Ints w v zs) (hl : zs.length ≤ 1099511627776) :
    Calls Tryz.prog 33 #[v] w (RowOf w zs) := by
  obtain ⟨i0, hi0, hz0, hz1, hz2⟩ := info_parts own_info3
  have hv0 := Lib.hid hv
  obtain ⟨qm, A, ca, rfl, ha⟩ := hv
  clear ha qm
  have I0 := Lib.hid hi0
  have Z0 := Lib.hid hz0
  have Z1 := Lib.hid hz1
  have Z2 := Lib.hid hz2
  have B8 : Hid (i0.bytes * zs.length ≤ 281474976710656) := Lib.hid (by rw [hz2]; omega)
  clear hi0 hz0 hz1 hz2
  go_enter Tryz.func33, Tryz.ntmps33
  go_wp2_with (at_make; refine wpList_make_full _ rfl _ _ 23 rfl w.heap.size 3 i0 _ 1 Tryz.underlying23 I0.out Z0.out Z1.out .i64 .i64 _ _ zs.length rfl rfl rfl rfl B8.out (by unfold maxLen; omega) (Nat.le_refl _) ?_; intro w1 ho1 hg1; have R1 := Lib.hid (zeros_row ho1); have B1 : Hid (Below w.heap.size w w1) := Lib.hid ((Below.refl _ _).grown hg1 (Nat.le_refl _) (by simp)); clear ho1 hg1)
  go_loopw [4] (fun i wr => ∃ k : Nat, k ≤ zs.length ∧ i = .int .i64 k ∧ Row wr w.heap.size (.slice (some ⟨w.heap.size, 0, none⟩) zs.length zs.length) (partI zs k) ∧ Below w.heap.size w wr) (fun i _ => zs.length - (intOf i).toNat)
  case atStart => exact ⟨0, Nat.zero_le _, rfl, by unfold partI; exact R1.out, B1.out⟩
  case round =>
    obtain ⟨k, hk, rfl, hr, hb⟩ := hrel
    have HR := Lib.hid hr
    have HB := Lib.hid hb
    clear hr hb
    by_cases hlt : k < zs.length
    · have pl := partI_len (Nat.le_of_lt hlt)
      have HI := ints_below hv0.out HB.out
      obtain ⟨_, A', ca', hv', hc⟩ := HI
      simp only [Value.slice.injEq, true_and] at hv'
      obtain ⟨rfl, rfl⟩ := hv'
      obtain ⟨ad, rfl, hc'⟩ := hc (by omega)
      have kc := hc' k hlt
      clear hc'
      have HR' := HR.out
      rw [← pl] at HR'
      have ko := row_cell HR' k (by omega)
      have kf := row_free HR' k
      have ST := row_set HR' k zs[k]
      rw [partI_next hlt, pl] at ST
      have SR := Lib.hid ST.1
      have SB : Hid (Below w.heap.size w (wr.setCell ⟨w.heap.size, k, none⟩ (.int .i64 zs[k]))) := Lib.hid (HB.out.setCell (Nat.le_refl _) _)
      clear hc ST HR'
      generalize (partI zs k)[k]'_ = old at *
      generalize zs[k] = x at *
      go_wp2
      go_roundw
      case rel => exact ⟨k + 1, by omega, by go_num, SR.out, SB.out⟩
      case measure => simp [intOf]; omega
    · obtain rfl : k = zs.length := by omega
      rw [partI_end] at HR
      go_wp2
      go_ret
      exact ⟨_, rfl, HR.out, by simp [Value.ownBlock], HB.out⟩

theorem copy_parts {w w1 : World} {A : Option Addr} {ca : Nat} {zs : List Int} (hv : Ints w (.slice A zs.length ca) zs) (ho : w1.ownsRow w.heap.size 3 1 (.slice (some ⟨w.heap.size, 0, none⟩) zs.length zs.length) zs.length (madeCells (Value.int .i64 0).cells (zs.length * 1)).toList) (hg : w.grownBy w1 none) (hl : zs.length ≤ 1099511627776) :
    w1.heap[w.heap.size]? = some (.cells ((List.replicate zs.length (0 : Int)).map (Value.int .i64)).toArray 3 (0, 0)) ∧ (zs.map (Value.int .i64)).length = Nat.min zs.length zs.length ∧
    (0 < (zs.map (Value.int .i64)).length → some (⟨w.heap.size, 0, none⟩ : Addr) = some ⟨w.heap.size, 0, none⟩ ∧ ∃ ad, A = some ad ∧ ∀ j v, (zs.map (Value.int .i64))[j]? = some v → w1.cell? (ad.add j) = some v) ∧
    0 + (zs.map (Value.int .i64)).length ≤ ((List.replicate zs.length (0 : Int)).map (Value.int .i64)).length ∧ Below w.heap.size w w1 := by
  have B1 : Below w.heap.size w w1 := (Below.refl _ _).grown hg (Nat.le_refl _) (by simp)
  refine ⟨?_, by simp [Nat.min_def], fun hp => ⟨rfl, ?_⟩, by simp, B1⟩
  · have R1 := zeros_row ho
    rw [show (Value.slice (some ⟨w.heap.size, 0, none⟩) zs.length zs.length) = .slice (some ⟨w.heap.size, 0, none⟩) (List.replicate zs.length (0 : Int)).length (List.replicate zs.length (0 : Int)).length by simp] at R1
    exact row_full R1
  · obtain ⟨_, A', ca', hv', hc⟩ := ints_below hv B1
    simp only [Value.slice.injEq, true_and] at hv'
    obtain ⟨rfl, rfl⟩ := hv'
    obtain ⟨ad, rfl, hc'⟩ := hc (by simpa using hp)
    refine ⟨ad, rfl, fun j u hu => ?_⟩
    rcases Nat.lt_or_ge j zs.length with hj | hj
    · rw [hc' j hj]; simpa [hj] using hu
    · simp [hj] at hu

theorem splice_all (zs : List Int) : Go.splice ((List.replicate zs.length (0 : Int)).map (Value.int .i64)) 0 (zs.map (Value.int .i64)) = zs.map (Value.int .i64) := by
  unfold Go.splice; simp

set_option maxRecDepth 100000 in
set_option maxHeartbeats 1000000 in
theorem copyCells_any (v : Value) (zs : List Int) (w : World) (hv : Ints w v zs) (hl : zs.length ≤ 1099511627776) :
    Calls Tryz.prog 131 #[v] w (RowOf w zs) := by
  obtain ⟨i0, hi0, hz0, hz1, hz2⟩ := info_parts own_info3
  have hv0 := Lib.hid hv
  obtain ⟨qm, A, ca, rfl, ha⟩ := hv
  clear ha qm
  have I0 := Lib.hid hi0
  have Z0 := Lib.hid hz0
  have Z1 := Lib.hid hz1
  have B8 : Hid (i0.bytes * zs.length ≤ 281474976710656) := Lib.hid (by rw [hz2]; omega)
  clear hi0 hz0 hz1 hz2
  go_enter Tryz.func131, Tryz.ntmps131
  go_wp2_with (first
    | (at_make; refine wpList_make_full _ rfl _ _ 23 rfl w.heap.size 3 i0 _ 1 Tryz.underlying23 I0.out Z0.out Z1.out .i64 .i64 _ _ zs.length rfl rfl rfl rfl B8.out (by unfold maxLen; omega) (Nat.le_refl _) ?_
       intro w1 ho1 hg1
       have CP := Lib.hid (copy_parts hv0.out ho1 hg1 hl)
       clear ho1 hg1)
    | (with_reducible refine wpList_copy_splice rfl _ _ 23 23 rfl 3 Tryz.underlying23 own_size3 _ _ _ _ _ _ rfl rfl w.heap.size 0 _ 3 CP.out.1 (zs.map (Value.int .i64)) CP.out.2.1 CP.out.2.2.1 CP.out.2.2.2.1 (ints_oneCell _ _) w.heap.size w CP.out.2.2.2.2 (Nat.le_refl _) ?_
       intro w2 H2 hb2
       have R2 : Hid (Row w2 w.heap.size (.slice (some ⟨w.heap.size, 0, none⟩) zs.length zs.length) zs) := Lib.hid (by
         have h := H2.out
         rw [splice_all] at h
         exact row_whole h (Nat.le_refl _) (by unfold maxLen; omega))
       have B2 := Lib.hid hb2
       clear hb2))
  go_ret
  exact ⟨_, rfl, R2.out, by simp [Value.ownBlock], B2.out⟩

/-- Marks from K on. -/
def marksI (K n : Nat) : List Int := (List.range n).map fun j => ((K + j : Nat) : Int)

theorem marksI_len (K n : Nat) : (marksI K n).length = n := by unfold marksI; simp

theorem marksI_at {K n k : Nat} (h : k < (marksI K n).length) : (marksI K n)[k] = ((K + k : Nat) : Int) := by unfold marksI; simp

/-- Marks at the first k places. -/
def markToI (K k : Nat) (Q : List Int) : List Int := marksI K k ++ Q.drop k

theorem markToI_len {K k : Nat} {Q : List Int} (h : k ≤ Q.length) : (markToI K k Q).length = Q.length := by unfold markToI; simp [marksI_len]; omega

theorem markToI_zero (K : Nat) (Q : List Int) : markToI K 0 Q = Q := by unfold markToI marksI; simp

theorem markToI_end (K : Nat) (Q : List Int) : markToI K Q.length Q = marksI K Q.length := by unfold markToI; simp

theorem markToI_next {K k : Nat} {Q : List Int} (h : k < Q.length) : (markToI K k Q).set k ((K + k : Nat) : Int) = markToI K (k + 1) Q := by
  unfold markToI
  rw [show marksI K (k + 1) = marksI K k ++ [((K + k : Nat) : Int)] by unfold marksI; rw [List.range_succ]; simp, List.drop_eq_getElem_cons h, List.set_append_right _ _ (by rw [marksI_len]; exact Nat.le_refl _), marksI_len, Nat.sub_self, List.set_cons_zero]
  simp

theorem gb_comp {a b c : World} {row : Option Nat} (h : a.grownBy b row) (k : b.grownBy c row) : a.grownBy c row :=
  ⟨k.os.trans h.os, k.tape.trans h.tape, k.output.trans h.output, Nat.le_trans h.size k.size, fun i hi hr => (k.block i (Nat.lt_of_lt_of_le hi h.size) hr).trans (h.block i hi hr)⟩

/-- What laying marks leaves: the row bears them; no other block has turned. -/
def MarkIOf (w : World) (base : Nat) (v : Value) (n K : Nat) (e : Ending) (w' : World) : Prop := e = .returned (.int .i64 ((K : Int) + n)) ∧ Row w' base v (marksI K n) ∧ w.grownBy w' v.ownBlock

set_option maxRecDepth 100000 in
set_option maxHeartbeats 1000000 in
theorem markInts_any (v : Value) (base K : Nat) (Q : List Int) (w : World) (h : Row w base v Q) (hQ : Q.length ≤ 1099511627776) (hK : K ≤ 1099511627776) :
    Calls Tryz.prog 35 #[v, .int .i64 K] w (MarkIOf w base v Q.length K) := by
  obtain ⟨_, A, cap, rfl, _⟩ := row_ints h
  have H := Lib.hid h
  clear h
  go_enter Tryz.func35, Tryz.ntmps35
  go_wp2
  go_loopw [5, 1] (fun i m wr => ∃ k : Nat, k ≤ Q.length ∧ i = .int .i64 k ∧ m = .int .i64 ((K : Int) + k) ∧ Row wr base (.slice A Q.length cap) (markToI K k Q) ∧ w.grownBy wr (Value.ownBlock (.slice A Q.length cap))) (fun i _ _ => Q.length - (intOf i).toNat)
  case atStart => exact ⟨0, Nat.zero_le _, rfl, by simp, by rw [markToI_zero]; exact H.out, World.grownBy.refl w _⟩
  case round =>
    obtain ⟨k, hk, rfl, rfl, hr, hg⟩ := hrel
    have HG := Lib.hid hg
    have HR := Lib.hid hr
    clear hg hr
    by_cases hlt : k < Q.length
    · have pl := markToI_len (K := K) (Nat.le_of_lt hlt)
      have HR' := HR.out
      rw [← pl] at HR'
      obtain ⟨g, cap', hv, _, hglt, _⟩ := row_form HR' (by omega)
      simp only [Value.slice.injEq, true_and] at hv
      obtain ⟨rfl, rfl⟩ := hv
      have ko := row_cell HR' k (by omega)
      have kf := row_free HR' k
      have ST := row_set HR' k ((K + k : Nat) : Int)
      rw [markToI_next hlt, pl, show (((K + k : Nat) : Int)) = (K : Int) + k by omega] at ST
      have SR := Lib.hid ST.1
      have SG := Lib.hid (gb_comp HG.out ST.2)
      clear ST HR'
      generalize (markToI K k Q)[k]'_ = old at *
      go_wp2
      go_roundw
      case rel => exact ⟨k + 1, by omega, by go_num, by go_num, SR.out, SG.out⟩
      case measure => simp [intOf]; omega
    · obtain rfl : k = Q.length := by omega
      rw [markToI_end] at HR
      go_wp2
      go_ret
      exact ⟨rfl, HR.out, HG.out⟩

set_option maxRecDepth 100000 in
set_option maxHeartbeats 1000000 in
theorem heldInts_any (v : Value) (n K : Nat) (w : World) (h : Ints w v (marksI K n)) (hn : n ≤ 1099511627776) (hK : K ≤ 1099511627776) :
    Calls Tryz.prog 73 #[v, .int .i64 K] w fun e w' => e = .returned (.int .i64 ((K : Int) + n)) ∧ w = w' := by
  obtain ⟨_, A, cap, rfl, hc⟩ := h
  have HC : Hid (0 < n → ∃ ad, A = some ad ∧ ∀ k, k < n → w.cell? (ad.add k) = some (.int .i64 ((K : Int) + k))) := Lib.hid fun hp => by
    obtain ⟨ad, ha, hc⟩ := hc (by rw [marksI_len]; exact hp)
    refine ⟨ad, ha, fun k hk => ?_⟩
    rw [hc k (by rw [marksI_len]; exact hk), marksI_at, show (((K + k : Nat) : Int)) = (K : Int) + k by omega]
  clear hc
  rw [marksI_len]
  go_enter Tryz.func73, Tryz.ntmps73
  go_wp2
  go_loop [5, 1] (fun i m => ∃ k : Nat, k ≤ n ∧ i = .int .i64 k ∧ m = .int .i64 ((K : Int) + k)) (fun i _ => n - (intOf i).toNat)
  case atStart => exact ⟨0, Nat.zero_le _, rfl, by simp⟩
  case round =>
    obtain ⟨k, hk, rfl, rfl⟩ := hrel
    by_cases hlt : k < n
    · obtain ⟨ad, rfl, hc⟩ := HC.out (by omega)
      have kc := hc k hlt
      clear hc
      have t1 : (((K : Int) + k) != ((K : Int) + k)) = false := by simp
      go_wp2
      go_round
      case rel => exact ⟨k + 1, by omega, by go_num, by go_num⟩
      case measure => simp [intOf]; omega
    · obtain rfl : k = n := by omega
      go_wp2
      go_ret
      exact ⟨rfl, rfl⟩

end Go.Proofs.YthnbaeamekolmaaGreatDoor
