/- The laws' helpers on slices of bools. -/
import Derived.Test.YtkcogfgjabemfaaGreatDoorBoA
namespace Go.Proofs.YtkcogfgjabemfaaGreatDoor
open Go.RowKit
set_option linter.unusedVariables false
set_option linter.unusedSimpArgs false

def BSameTo (P Q : List Bool) (k : Nat) : Prop := P.take k = Q.take k

theorem bsameTo_next {P Q : List Bool} {k : Nat} (h : BSameTo P Q k) (hp : k < P.length) (hq : k < Q.length) (e : P[k] = Q[k]) : BSameTo P Q (k + 1) := by
  unfold BSameTo at *
  rw [List.take_succ_eq_append_getElem hp, List.take_succ_eq_append_getElem hq, h, e]

theorem bsameTo_end {P Q : List Bool} (hl : P.length = Q.length) (h : BSameTo P Q P.length) : (P == Q) = true := by
  unfold BSameTo at h
  rw [List.take_length, hl, List.take_length] at h
  simpa using h

theorem bsame_len {P Q : List Bool} (hl : P.length ≠ Q.length) : (P == Q) = false := by
  rw [beq_eq_false_iff_ne]; intro e; rw [e] at hl; exact hl rfl

theorem bsame_not {P Q : List Bool} {k : Nat} (hp : k < P.length) (hq : k < Q.length) (e : P[k] ≠ Q[k]) : (P == Q) = false := by
  rw [beq_eq_false_iff_ne]; intro h; subst h; exact e rfl

set_option maxRecDepth 100000 in
set_option maxHeartbeats 1000000 in
theorem eqBools_any (u v : Value) (P Q : List Bool) (w : World) (hu : Bols w u P) (hv : Bols w v Q) :
    Calls Tryz.prog 59 #[u, v] w (BoolOf w (P == Q)) := by
  obtain ⟨pm, A, ca, rfl, ha⟩ := hu
  obtain ⟨qm, B, cb, rfl, hb⟩ := hv
  unfold maxLen at pm qm
  by_cases hl : P.length = Q.length
  · have z0 : ((P.length : Int) != (Q.length : Int)) = false := by simp [hl]
    have LE := Lib.hid hl
    have hlq : P.length ≤ Q.length := by omega
    have HA := Lib.hid ha
    have HB := Lib.hid hb
    clear hl ha hb
    go_enter Tryz.func59, Tryz.ntmps59
    go_wp2
    clear z0
    go_loopw [5] (fun i wr => ∃ k n : Nat, k ≤ P.length ∧ i = .int .i64 k ∧ BSameTo P Q k ∧ wr = w.drewN n) (fun i _ => P.length - (intOf i).toNat)
    case atStart => exact ⟨0, 0, Nat.zero_le _, rfl, by unfold BSameTo; simp, rfl⟩
    case round =>
      obtain ⟨k, n, hk, rfl, hat, rfl⟩ := hrel
      have AT := Lib.hid hat
      clear hat
      by_cases hlt : k < P.length
      · have hlt2 : k < Q.length := by omega
        obtain ⟨ga, rfl, hca⟩ := HA.out (by omega)
        obtain ⟨gb, rfl, hcb⟩ := HB.out (by omega)
        have ka := hca k hlt
        have kb := hcb k hlt2
        clear hca hcb
        by_cases e : P[k] = Q[k]
        · have NX := Lib.hid (bsameTo_next AT.out hlt hlt2 e)
          rw [← e] at kb
          clear e
          generalize P[k] = x at *
          cases x
          all_goals
            go_wp2
            go_quiet (fail)
            go_wp2
            go_roundw
            case rel => exact ⟨k + 1, _, by omega, by go_num, NX.out, rfl⟩
            case measure => simp [intOf]; omega
        · have NO := Lib.hid (bsame_not hlt hlt2 e)
          have e2 : Q[k] = !P[k] := by cases h : P[k] <;> cases h2 : Q[k] <;> simp_all
          rw [e2] at kb
          clear e e2
          generalize P[k] = x at *
          cases x
          all_goals
            simp only [Bool.not_true, Bool.not_false] at kb
            go_wp2
            go_quiet (fail)
            go_wp2
            go_ret
            exact ⟨_, ret_bool NO.out.symm, by rw [World.drewN_drewN]⟩
      · obtain rfl : k = P.length := by omega
        have E := Lib.hid (bsameTo_end LE.out AT.out)
        go_wp2
        go_ret
        exact ⟨_, ret_bool E.out.symm, rfl⟩
  · have z0 : ((P.length : Int) != (Q.length : Int)) = true := by rw [bne_iff_ne]; omega
    have E := Lib.hid (bsame_len hl)
    clear hl ha hb
    go_enter Tryz.func59, Tryz.ntmps59
    go_wp2
    go_ret
    exact ⟨0, ret_bool E.out.symm, rfl⟩

set_option maxHeartbeats 400000 in
theorem szBools_any (A : Option Addr) (n cap : Nat) (left : Int) (w : World) (hn : n ≤ maxLen) (h0 : 0 ≤ left) (h1 : left ≤ 1048576) :
    Calls Tryz.prog 35 #[.slice A n cap, .int .i64 left] w fun e w' => e = .returned (.int .i64 (leftOf left n)) ∧ w = w' := by
  unfold maxLen at hn
  by_cases h : left - n < 0
  · have E : Hid (leftOf left n = -1) := Lib.hid (by unfold leftOf; rw [if_pos h])
    go_enter Tryz.func35, Tryz.ntmps35
    go_wp2
    go_ret
    exact ⟨ret_int E.out.symm, rfl⟩
  · have E : Hid (leftOf left n = left - n) := Lib.hid (by unfold leftOf; rw [if_neg h])
    go_enter Tryz.func35, Tryz.ntmps35
    go_wp2
    go_ret
    exact ⟨ret_int E.out.symm, rfl⟩

/-- A slice handed back, of the call's own, of these numbers. -/
def BoRowOf (w : World) (zs : List Bool) (e : Ending) (w' : World) : Prop := ∃ v, e = .returned v ∧ BoRow w' w.heap.size v zs ∧ v.ownBlock ≠ none ∧ Below w.heap.size w w'

/-- The first k numbers, then zeros. -/
def partB (zs : List Bool) (k : Nat) : List Bool := zs.take k ++ List.replicate (zs.length - k) false

theorem partB_len {zs : List Bool} {k : Nat} (h : k ≤ zs.length) : (partB zs k).length = zs.length := by unfold partB; simp; omega

theorem partB_next {zs : List Bool} {k : Nat} (h : k < zs.length) : (partB zs k).set k zs[k] = partB zs (k + 1) := by
  unfold partB
  rw [List.set_append_right _ _ (by simp; omega)]
  rw [List.length_take, Nat.min_eq_left (by omega), Nat.sub_self, show zs.length - k = (zs.length - (k + 1)) + 1 by omega, List.replicate_succ, List.set_cons_zero, List.take_succ_eq_append_getElem h, List.append_assoc]
  rfl

theorem partB_end (zs : List Bool) : partB zs zs.length = zs := by unfold partB; simp

theorem bzeros_cells (n : Nat) : (madeCells (Value.bool false).cells (n * 1)).toList = (List.replicate n false).map Value.bool := by
  rw [Nat.mul_one, show (Value.bool false).cells = #[Value.bool false] from rfl, toList_madeCells_one]; simp

theorem bzeros_row {w' : World} {base g n : Nat} (h : w'.ownsRow base 4 1 (.slice (some ⟨g, 0, none⟩) n n) n (madeCells (Value.bool false).cells (n * 1)).toList) : BoRow w' base (.slice (some ⟨g, 0, none⟩) n n) (List.replicate n false) := by
  unfold BoRow
  rw [List.length_replicate, ← bzeros_cells]; exact h

set_option maxRecDepth 100000 in
set_option maxHeartbeats 1000000 in
theorem toBools_any (v : Value) (zs : List Bool) (w : World) (hv : Bols w v zs) (hl : zs.length ≤ 1099511627776) :
    Calls Tryz.prog 46 #[v] w (BoRowOf w zs) := by
  obtain ⟨i0, hi0, hz0, hz1, hz2⟩ := info_parts own_infoB
  have hv0 := Lib.hid hv
  obtain ⟨qm, A, ca, rfl, ha⟩ := hv
  clear ha qm
  have I0 := Lib.hid hi0
  have Z0 := Lib.hid hz0
  have Z1 := Lib.hid hz1
  have Z2 := Lib.hid hz2
  have B8 : Hid (i0.bytes * zs.length ≤ 281474976710656) := Lib.hid (by rw [hz2]; omega)
  clear hi0 hz0 hz1 hz2
  go_enter Tryz.func46, Tryz.ntmps46
  go_wp2_with (at_make; refine wpList_make_full _ rfl _ _ 26 rfl w.heap.size 4 i0 _ 1 Tryz.underlying26 I0.out Z0.out Z1.out .i64 .i64 _ _ zs.length rfl rfl rfl rfl B8.out (by unfold maxLen; omega) (Nat.le_refl _) ?_; intro w1 ho1 hg1; have R1 := Lib.hid (bzeros_row ho1); have B1 : Hid (Below w.heap.size w w1) := Lib.hid ((Below.refl _ _).grown hg1 (Nat.le_refl _) (by simp)); clear ho1 hg1)
  go_loopw [4] (fun i wr => ∃ k : Nat, k ≤ zs.length ∧ i = .int .i64 k ∧ BoRow wr w.heap.size (.slice (some ⟨w.heap.size, 0, none⟩) zs.length zs.length) (partB zs k) ∧ Below w.heap.size w wr) (fun i _ => zs.length - (intOf i).toNat)
  case atStart => exact ⟨0, Nat.zero_le _, rfl, by unfold partB; exact R1.out, B1.out⟩
  case round =>
    obtain ⟨k, hk, rfl, hr, hb⟩ := hrel
    have HR := Lib.hid hr
    have HB := Lib.hid hb
    clear hr hb
    by_cases hlt : k < zs.length
    · have pl := partB_len (Nat.le_of_lt hlt)
      have HI := bols_below hv0.out HB.out
      obtain ⟨_, A', ca', hv', hc⟩ := HI
      simp only [Value.slice.injEq, true_and] at hv'
      obtain ⟨rfl, rfl⟩ := hv'
      obtain ⟨ad, rfl, hc'⟩ := hc (by omega)
      have kc := hc' k hlt
      clear hc'
      have HR' := HR.out
      rw [← pl] at HR'
      have ko := borow_cell HR' k (by omega)
      have kf := borow_free HR' k
      have ST := borow_set HR' k zs[k]
      rw [partB_next hlt, pl] at ST
      have SR := Lib.hid ST.1
      have SB : Hid (Below w.heap.size w (wr.setCell ⟨w.heap.size, k, none⟩ (.bool zs[k]))) := Lib.hid (HB.out.setCell (Nat.le_refl _) _)
      clear hc ST HR'
      generalize (partB zs k)[k]'_ = old at *
      generalize zs[k] = x at *
      go_wp2
      go_roundw
      case rel => exact ⟨k + 1, by omega, by go_num, SR.out, SB.out⟩
      case measure => simp [intOf]; omega
    · obtain rfl : k = zs.length := by omega
      rw [partB_end] at HR
      go_wp2
      go_ret
      exact ⟨_, rfl, HR.out, by simp [Value.ownBlock], HB.out⟩

/-- A mark. -/
def mkB (n : Nat) : Bool := n % 3 == 0

/-- Marks from K on. -/
def marksB (K n : Nat) : List Bool := (List.range n).map fun j => mkB (K + j)

theorem marksB_len (K n : Nat) : (marksB K n).length = n := by unfold marksB; simp

theorem marksB_at {K n k : Nat} (h : k < (marksB K n).length) : (marksB K n)[k] = mkB (K + k) := by
  have e : (marksB K n)[k]? = some (mkB (K + k)) := by
    unfold marksB
    rw [List.getElem?_map, List.getElem?_range (by rwa [marksB_len] at h)]; rfl
  exact (List.getElem?_eq_some_iff.1 e).2

theorem mkB_eq (K k : Nat) : ((((K : Int) + k).tmod 3) == 0) = mkB (K + k) := by
  unfold mkB
  have e : ((K : Int) + k).tmod 3 = (((K + k) % 3 : Nat) : Int) := by rw [Int.tmod_eq_emod_of_nonneg (by omega)]; omega
  rw [e]
  by_cases h : (K + k) % 3 = 0
  · rw [h]; rfl
  · have h2 : ((((K + k) % 3 : Nat) : Int) == 0) = false := by rw [beq_eq_false_iff_ne]; omega
    have h3 : ((K + k) % 3 == 0) = false := by rw [beq_eq_false_iff_ne]; exact h
    rw [h2, h3]

theorem mkB_eq2 (K k : Nat) : ((((K : Int) + k) % 3) == 0) = mkB (K + k) := by
  rw [← mkB_eq, Int.tmod_eq_emod_of_nonneg (by omega)]

/-- Marks at the first k places. -/
def markToB (K k : Nat) (Q : List Bool) : List Bool := marksB K k ++ Q.drop k

theorem markToB_len {K k : Nat} {Q : List Bool} (h : k ≤ Q.length) : (markToB K k Q).length = Q.length := by unfold markToB; simp [marksB_len]; omega

theorem markToB_zero (K : Nat) (Q : List Bool) : markToB K 0 Q = Q := by unfold markToB marksB; simp

theorem markToB_end (K : Nat) (Q : List Bool) : markToB K Q.length Q = marksB K Q.length := by unfold markToB; simp

theorem markToB_next {K k : Nat} {Q : List Bool} (h : k < Q.length) : (markToB K k Q).set k (mkB (K + k)) = markToB K (k + 1) Q := by
  unfold markToB
  rw [show marksB K (k + 1) = marksB K k ++ [mkB (K + k)] by unfold marksB; rw [List.range_succ]; simp, List.drop_eq_getElem_cons h, List.set_append_right _ _ (by rw [marksB_len]; exact Nat.le_refl _), marksB_len, Nat.sub_self, List.set_cons_zero]
  simp

/-- What laying marks leaves: the row bears them; no other block has turned. -/
def MarkBOf (w : World) (base : Nat) (v : Value) (n K : Nat) (e : Ending) (w' : World) : Prop := e = .returned (.int .i64 ((K : Int) + n)) ∧ BoRow w' base v (marksB K n) ∧ w.grownBy w' v.ownBlock

end Go.Proofs.YtkcogfgjabemfaaGreatDoor
