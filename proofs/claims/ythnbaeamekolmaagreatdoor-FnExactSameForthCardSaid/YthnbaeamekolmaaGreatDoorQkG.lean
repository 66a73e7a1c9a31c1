/- QkG: several of my texts, laid together: HiH, McS, DatJ, McT. -/
import Derived.Test.YthnbaeamekolmaaGreatDoorQkE
import Derived.Test.YthnbaeamekolmaaGreatDoorQkB
import Derived.BigQuiet
import Derived.Test.YthnbaeamekolmaaGreatDoorDatD
import Derived.Test.YthnbaeamekolmaaGreatDoorDatL
import Derived.Test.YthnbaeamekolmaaGreatDoorQkD
namespace Go.Proofs.YthnbaeamekolmaaGreatDoor
open Go.RowKit
set_option linter.unusedVariables false
set_option linter.unusedSimpArgs false

instance : DecidableEq Dd := fun x y => if h : x.p = y.p ∧ x.a = y.a ∧ x.b = y.b ∧ x.r = y.r then isTrue (by cases x; cases y; simp_all) else isFalse (fun e => h (by subst e; simp))

/-- The first k deeds are alike. -/
def DSameTo (P Q : List Dd) (k : Nat) : Prop := P.take k = Q.take k

theorem dsameTo_next {P Q : List Dd} {k : Nat} (h : DSameTo P Q k) (hp : k < P.length) (hq : k < Q.length) (e : P[k] = Q[k]) : DSameTo P Q (k + 1) := by
  unfold DSameTo at *
  rw [List.take_succ_eq_append_getElem hp, List.take_succ_eq_append_getElem hq, h, e]

theorem dsameTo_end {P Q : List Dd} (hl : P.length = Q.length) (h : DSameTo P Q P.length) : (P == Q) = true := by
  unfold DSameTo at h
  rw [List.take_length, hl, List.take_length] at h
  rw [beq_iff_eq]; exact h

theorem dsame_len {P Q : List Dd} (hl : P.length ≠ Q.length) : (P == Q) = false := by
  rw [beq_eq_false_iff_ne]; exact fun e => hl (by rw [e])

theorem dsame_not {P Q : List Dd} {k : Nat} (hp : k < P.length) (hq : k < Q.length) (e : P[k] ≠ Q[k]) : (P == Q) = false := by
  rw [beq_eq_false_iff_ne]; exact fun h => e (by subst h; rfl)

theorem dd_ne {x y : Dd} (h : x ≠ y) : x.p ≠ y.p ∨ (x.p = y.p ∧ x.a ≠ y.a) ∨ (x.p = y.p ∧ x.a = y.a ∧ x.b ≠ y.b) ∨ (x.p = y.p ∧ x.a = y.a ∧ x.b = y.b ∧ x.r ≠ y.r) := by
  by_cases h1 : x.p = y.p
  · by_cases h2 : x.a = y.a
    · by_cases h3 : x.b = y.b
      · by_cases h4 : x.r = y.r
        · exact absurd (by cases x; cases y; simp_all) h
        · exact .inr (.inr (.inr ⟨h1, h2, h3, h4⟩))
      · exact .inr (.inr (.inl ⟨h1, h2, h3⟩))
    · exact .inr (.inl ⟨h1, h2⟩)
  · exact .inl h1

set_option maxRecDepth 100000 in
set_option maxHeartbeats 1000000 in
theorem slEqualB_any (u v : Value) (P Q : List Bool) (w : World) (hu : Bols w u P) (hv : Bols w v Q) :
    Calls Tryz.prog 174 #[u, v] w (BoolOf w (P == Q)) := by
  obtain ⟨pm, A, ca, rfl, ha⟩ := hu
  obtain ⟨qm, B, cb, rfl, hb⟩ := hv
  unfold maxLen at pm qm
  by_cases hl : P.length = Q.length
  · have z0 : ((P.length : Int) != (Q.length : Int)) = false := by simp [hl]
    have LE := Lib.hid hl
    have hlq : P.length ≤ Q.length := by omega
    have HA := Lib.hid ha
    have HB := Lib.hid hb
    clear hl ha hb
    go_enter Tryz.func174, Tryz.ntmps174
    go_wp2
    clear z0
    go_loopw [5, 13] (fun _ i wr => ∃ k n : Nat, k ≤ P.length ∧ i = .int .i64 k ∧ BSameTo P Q k ∧ wr = w.drewN n) (fun _ i _ => P.length - (intOf i).toNat)
    case atStart => exact ⟨0, 0, Nat.zero_le _, rfl, by unfold BSameTo; simp, rfl⟩
    case round =>
      obtain ⟨k, n, hk, rfl, hat, rfl⟩ := hrel
      have AT := Lib.hid hat
      clear hat
      by_cases hlt : k < P.length
      · have hlt2 : k < Q.length := by omega
        obtain ⟨ga, rfl, hca⟩ := HA.out (by omega)
        obtain ⟨gb, rfl, hcb⟩ := HB.out (by omega)
        have ka := hca k hlt
        have kb := hcb k hlt2
        clear hca hcb
        by_cases e : P[k] = Q[k]
        · have NX := Lib.hid (bsameTo_next AT.out hlt hlt2 e)
          rw [← e] at kb
          clear e
          generalize P[k] = x at *
          cases x
          all_goals
            go_wp2
            go_quiet (fail)
            go_wp2
            go_roundw
            case rel => exact ⟨k + 1, _, by omega, by go_num, NX.out, rfl⟩
            case measure => simp [intOf]; omega
        · have NO := Lib.hid (bsame_not hlt hlt2 e)
          have e2 : Q[k] = !P[k] := by cases h : P[k] <;> cases h2 : Q[k] <;> simp_all
          rw [e2] at kb
          clear e e2
          generalize P[k] = x at *
          cases x
          all_goals
            simp only [Bool.not_true, Bool.not_false] at kb
            go_wp2
            go_quiet (fail)
            go_wp2
            go_ret
            exact ⟨_, ret_bool NO.out.symm, by rw [World.drewN_drewN]⟩
      · obtain rfl : k = P.length := by omega
        have E := Lib.hid (bsameTo_end LE.out AT.out)
        go_wp2
        go_ret
        exact ⟨_, ret_bool E.out.symm, rfl⟩
  · have z0 : ((P.length : Int) != (Q.length : Int)) = true := by rw [bne_iff_ne]; omega
    have E := Lib.hid (bsame_len hl)
    clear hl ha hb
    go_enter Tryz.func174, Tryz.ntmps174
    go_wp2
    go_ret
    exact ⟨0, ret_bool E.out.symm, rfl⟩

set_option maxRecDepth 100000 in
set_option maxHeartbeats 1000000 in
theorem slEqualD_any (u v : Value) (P Q : List Dd) (w : World) (hu : Dds w u P) (hv : Dds w v Q) :
    Calls Tryz.prog 175 #[u, v] w (BoolOf w (P == Q)) := by
  obtain ⟨pm, A, ca, rfl, ha⟩ := hu
  obtain ⟨qm, B, cb, rfl, hb⟩ := hv
  unfold maxLen at pm qm
  by_cases hl : P.length = Q.length
  · have z0 : ((P.length : Int) != (Q.length : Int)) = false := by simp [hl]
    have LE := Lib.hid hl
    have hlq : P.length ≤ Q.length := by omega
    have HA := Lib.hid ha
    have HB := Lib.hid hb
    clear hl ha hb
    go_enter Tryz.func175, Tryz.ntmps175
    go_wp2
    clear z0
    go_loopw [5, 13] (fun _ i wr => ∃ k n : Nat, k ≤ P.length ∧ i = .int .i64 k ∧ DSameTo P Q k ∧ wr = w.drewN n) (fun _ i _ => P.length - (intOf i).toNat)
    case atStart => exact ⟨0, 0, Nat.zero_le _, rfl, by unfold DSameTo; simp, rfl⟩
    case round =>
      obtain ⟨k, n, hk, rfl, hat, rfl⟩ := hrel
      have AT := Lib.hid hat
      clear hat
      by_cases hlt : k < P.length
      · have hlt2 : k < Q.length := by omega
        obtain ⟨ga, rfl, hca2⟩ := HA.out (by omega)
        obtain ⟨gb, rfl, hcb2⟩ := HB.out (by omega)
        have ka := hca2 k hlt
        have kb := hcb2 k hlt2
        clear hca2 hcb2
        by_cases e : P[k] = Q[k]
        · have NX := Lib.hid (dsameTo_next AT.out hlt hlt2 e)
          rw [← e] at kb
          clear e
          generalize P[k] = x at *
          obtain ⟨a0, a1, a2, a3⟩ := ka
          obtain ⟨b0, b1, b2, b3⟩ := kb
          have t0 : (x.p == x.p) = true := by simp
          have t1 : (x.a == x.a) = true := by simp
          have t2 : (x.b == x.b) = true := by simp
          have t3 : (x.r == x.r) = true := by simp
          go_wp2
          go_quiet (fail)
          go_wp2
          go_roundw
          case rel => exact ⟨k + 1, _, by omega, by go_num, NX.out, rfl⟩
          case measure => simp [intOf]; omega
        · have NO := Lib.hid (dsame_not hlt hlt2 e)
          have hne := dd_ne e
          clear e
          generalize P[k] = x at *
          generalize Q[k] = y at *
          obtain ⟨a0, a1, a2, a3⟩ := ka
          obtain ⟨b0, b1, b2, b3⟩ := kb
          rcases hne with q0 | ⟨q0, q1⟩ | ⟨q0, q1, q2⟩ | ⟨q0, q1, q2, q3⟩
          · have t0 : (x.p == y.p) = false := by rw [beq_eq_false_iff_ne]; exact q0
            clear q0
            go_wp2
            go_quiet (fail)
            go_wp2
            go_ret
            exact ⟨_, ret_bool NO.out.symm, by rw [World.drewN_drewN]⟩
          · have t0 : (x.p == y.p) = true := by rw [beq_iff_eq]; exact q0
            have t1 : (x.a == y.a) = false := by rw [beq_eq_false_iff_ne]; exact q1
            clear q0 q1
            go_wp2
            go_quiet (fail)
            go_wp2
            go_ret
            exact ⟨_, ret_bool NO.out.symm, by rw [World.drewN_drewN]⟩
          · have t0 : (x.p == y.p) = true := by rw [beq_iff_eq]; exact q0
            have t1 : (x.a == y.a) = true := by rw [beq_iff_eq]; exact q1
            have t2 : (x.b == y.b) = false := by rw [beq_eq_false_iff_ne]; exact q2
            clear q0 q1 q2
            go_wp2
            go_quiet (fail)
            go_wp2
            go_ret
            exact ⟨_, ret_bool NO.out.symm, by rw [World.drewN_drewN]⟩
          · have t0 : (x.p == y.p) = true := by rw [beq_iff_eq]; exact q0
            have t1 : (x.a == y.a) = true := by rw [beq_iff_eq]; exact q1
            have t2 : (x.b == y.b) = true := by rw [beq_iff_eq]; exact q2
            have t3 : (x.r == y.r) = false := by rw [beq_eq_false_iff_ne]; exact q3
            clear q0 q1 q2 q3
            go_wp2
            go_quiet (fail)
            go_wp2
            go_ret
            exact ⟨_, ret_bool NO.out.symm, by rw [World.drewN_drewN]⟩
      · obtain rfl : k = P.length := by omega
        have E := Lib.hid (dsameTo_end LE.out AT.out)
        go_wp2
        go_ret
        exact ⟨_, ret_bool E.out.symm, rfl⟩
  · have z0 : ((P.length : Int) != (Q.length : Int)) = true := by rw [bne_iff_ne]; omega
    have E := Lib.hid (dsame_len hl)
    clear hl ha hb
    go_enter Tryz.func175, Tryz.ntmps175
    go_wp2
    go_ret
    exact ⟨0, ret_bool E.out.symm, rfl⟩

/-- Alike in every field. -/
def hEq (a b : Ht) : Bool := a.s == b.s && a.n == b.n && a.c == b.c && a.g == b.g && a.d == b.d

/-- Both valid, and alike. -/
def hSame (a b : Ht) : Bool := hOK a && (hOK b && hEq a b)

theorem hSame_self {h : Ht} (q : hOK h = true) : hSame h h = true := by unfold hSame hEq; simp [q]

set_option maxRecDepth 100000 in
set_option maxHeartbeats 1000000 in
theorem sSameH_0 (u v : Value) (a b : Ht) (w : World) (hu : HostIn w u a) (hv : HostIn w v b) (E0 : (a.s == b.s) = false) :
    Calls Tryz.prog 173 #[u, v] w fun e w' => e = .returned (.bool false) ∧ Below w.heap.size w w' := by
  obtain ⟨x, y, z, q, rfl, hx, hy, hz, hq⟩ := hu
  obtain ⟨x', y', z', q', rfl, hx', hy', hz', hq'⟩ := hv
  have KX : Hid (∀ W, Below w.heap.size w W → Bols W x a.g ∧ Bols W x' b.g) := Lib.hid fun W h => ⟨bols_below hx h, bols_below hx' h⟩
  have KY : Hid (∀ W, Below w.heap.size w W → Ints W y a.s ∧ Ints W y' b.s) := Lib.hid fun W h => ⟨ints_below hy h, ints_below hy' h⟩
  have KZ : Hid (∀ W, Below w.heap.size w W → Ints W z a.n ∧ Ints W z' b.n) := Lib.hid fun W h => ⟨ints_below hz h, ints_below hz' h⟩
  have KQ : Hid (∀ W, Below w.heap.size w W → Dds W q a.d ∧ Dds W q' b.d) := Lib.hid fun W h => ⟨dds_below hq h, dds_below hq' h⟩
  obtain ⟨l1, A1, k1, rfl, _⟩ := hx
  obtain ⟨l2, A2, k2, rfl, _⟩ := hy
  obtain ⟨l3, A3, k3, rfl, _⟩ := hz
  obtain ⟨l4, A4, k4, rfl, _⟩ := hq
  obtain ⟨l5, B1, j1, rfl, _⟩ := hx'
  obtain ⟨l6, B2, j2, rfl, _⟩ := hy'
  obtain ⟨l7, B3, j3, rfl, _⟩ := hz'
  obtain ⟨l8, B4, j4, rfl, _⟩ := hq'
  unfold maxLen at l1 l2 l3 l4 l5 l6 l7 l8
  go_enter Tryz.func173, Tryz.ntmps173
  go_wp2_with (first | (go_at_call 171; first | ((with_reducible refine (sSame_any _ _ a.s b.s _ ?hA ?hB).mono ?_); (case hA => exact (KY.out _ (by repeat (first | with_reducible exact Below.refl _ _ | with_reducible refine below_drewN ?_ _ | with_reducible refine below_alloc ?_ _))).1); (case hB => exact (KY.out _ (by repeat (first | with_reducible exact Below.refl _ _ | with_reducible refine below_drewN ?_ _ | with_reducible refine below_alloc ?_ _))).2); rintro e w' ⟨n, rfl, rfl⟩; rw [E0]) | ((with_reducible refine (sSame_any _ _ a.n b.n _ ?hA ?hB).mono ?_); (case hA => exact (KZ.out _ (by repeat (first | with_reducible exact Below.refl _ _ | with_reducible refine below_drewN ?_ _ | with_reducible refine below_alloc ?_ _))).1); (case hB => exact (KZ.out _ (by repeat (first | with_reducible exact Below.refl _ _ | with_reducible refine below_drewN ?_ _ | with_reducible refine below_alloc ?_ _))).2); rintro e w' ⟨n, rfl, rfl⟩; rw [E1])))
  go_ret
  exact ⟨rfl, (by repeat (first | with_reducible exact Below.refl _ _ | with_reducible refine below_drewN ?_ _ | with_reducible refine below_alloc ?_ _))⟩

set_option maxRecDepth 100000 in
set_option maxHeartbeats 1000000 in
theorem sSameH_1 (u v : Value) (a b : Ht) (w : World) (hu : HostIn w u a) (hv : HostIn w v b) (E0 : (a.s == b.s) = true) (E1 : (a.n == b.n) = false) :
    Calls Tryz.prog 173 #[u, v] w fun e w' => e = .returned (.bool false) ∧ Below w.heap.size w w' := by
  obtain ⟨x, y, z, q, rfl, hx, hy, hz, hq⟩ := hu
  obtain ⟨x', y', z', q', rfl, hx', hy', hz', hq'⟩ := hv
  have KX : Hid (∀ W, Below w.heap.size w W → Bols W x a.g ∧ Bols W x' b.g) := Lib.hid fun W h => ⟨bols_below hx h, bols_below hx' h⟩
  have KY : Hid (∀ W, Below w.heap.size w W → Ints W y a.s ∧ Ints W y' b.s) := Lib.hid fun W h => ⟨ints_below hy h, ints_below hy' h⟩
  have KZ : Hid (∀ W, Below w.heap.size w W → Ints W z a.n ∧ Ints W z' b.n) := Lib.hid fun W h => ⟨ints_below hz h, ints_below hz' h⟩
  have KQ : Hid (∀ W, Below w.heap.size w W → Dds W q a.d ∧ Dds W q' b.d) := Lib.hid fun W h => ⟨dds_below hq h, dds_below hq' h⟩
  obtain ⟨l1, A1, k1, rfl, _⟩ := hx
  obtain ⟨l2, A2, k2, rfl, _⟩ := hy
  obtain ⟨l3, A3, k3, rfl, _⟩ := hz
  obtain ⟨l4, A4, k4, rfl, _⟩ := hq
  obtain ⟨l5, B1, j1, rfl, _⟩ := hx'
  obtain ⟨l6, B2, j2, rfl, _⟩ := hy'
  obtain ⟨l7, B3, j3, rfl, _⟩ := hz'
  obtain ⟨l8, B4, j4, rfl, _⟩ := hq'
  unfold maxLen at l1 l2 l3 l4 l5 l6 l7 l8
  go_enter Tryz.func173, Tryz.ntmps173
  go_wp2_with (first | (go_at_call 171; first | ((with_reducible refine (sSame_any _ _ a.s b.s _ ?hA ?hB).mono ?_); (case hA => exact (KY.out _ (by repeat (first | with_reducible exact Below.refl _ _ | with_reducible refine below_drewN ?_ _ | with_reducible refine below_alloc ?_ _))).1); (case hB => exact (KY.out _ (by repeat (first | with_reducible exact Below.refl _ _ | with_reducible refine below_drewN ?_ _ | with_reducible refine below_alloc ?_ _))).2); rintro e w' ⟨n, rfl, rfl⟩; rw [E0]) | ((with_reducible refine (sSame_any _ _ a.n b.n _ ?hA ?hB).mono ?_); (case hA => exact (KZ.out _ (by repeat (first | with_reducible exact Below.refl _ _ | with_reducible refine below_drewN ?_ _ | with_reducible refine below_alloc ?_ _))).1); (case hB => exact (KZ.out _ (by repeat (first | with_reducible exact Below.refl _ _ | with_reducible refine below_drewN ?_ _ | with_reducible refine below_alloc ?_ _))).2); rintro e w' ⟨n, rfl, rfl⟩; rw [E1])))
  go_ret
  exact ⟨rfl, (by repeat (first | with_reducible exact Below.refl _ _ | with_reducible refine below_drewN ?_ _ | with_reducible refine below_alloc ?_ _))⟩

set_option maxRecDepth 100000 in
set_option maxHeartbeats 1000000 in
theorem sSameH_2 (u v : Value) (a b : Ht) (w : World) (hu : HostIn w u a) (hv : HostIn w v b) (E0 : (a.s == b.s) = true) (E1 : (a.n == b.n) = true) (h2 : ¬ a.c = b.c) :
    Calls Tryz.prog 173 #[u, v] w fun e w' => e = .returned (.bool false) ∧ Below w.heap.size w w' := by
  obtain ⟨x, y, z, q, rfl, hx, hy, hz, hq⟩ := hu
  obtain ⟨x', y', z', q', rfl, hx', hy', hz', hq'⟩ := hv
  have KX : Hid (∀ W, Below w.heap.size w W → Bols W x a.g ∧ Bols W x' b.g) := Lib.hid fun W h => ⟨bols_below hx h, bols_below hx' h⟩
  have KY : Hid (∀ W, Below w.heap.size w W → Ints W y a.s ∧ Ints W y' b.s) := Lib.hid fun W h => ⟨ints_below hy h, ints_below hy' h⟩
  have KZ : Hid (∀ W, Below w.heap.size w W → Ints W z a.n ∧ Ints W z' b.n) := Lib.hid fun W h => ⟨ints_below hz h, ints_below hz' h⟩
  have KQ : Hid (∀ W, Below w.heap.size w W → Dds W q a.d ∧ Dds W q' b.d) := Lib.hid fun W h => ⟨dds_below hq h, dds_below hq' h⟩
  obtain ⟨l1, A1, k1, rfl, _⟩ := hx
  obtain ⟨l2, A2, k2, rfl, _⟩ := hy
  obtain ⟨l3, A3, k3, rfl, _⟩ := hz
  obtain ⟨l4, A4, k4, rfl, _⟩ := hq
  obtain ⟨l5, B1, j1, rfl, _⟩ := hx'
  obtain ⟨l6, B2, j2, rfl, _⟩ := hy'
  obtain ⟨l7, B3, j3, rfl, _⟩ := hz'
  obtain ⟨l8, B4, j4, rfl, _⟩ := hq'
  unfold maxLen at l1 l2 l3 l4 l5 l6 l7 l8
  have t2 : (a.c != b.c) = true := by rw [bne_iff_ne]; exact h2
  have u2 : (a.c == b.c) = false := by rw [beq_eq_false_iff_ne]; exact h2
  clear h2
  go_enter Tryz.func173, Tryz.ntmps173
  go_wp2_with (first | (go_at_call 171; first | ((with_reducible refine (sSame_any _ _ a.s b.s _ ?hA ?hB).mono ?_); (case hA => exact (KY.out _ (by repeat (first | with_reducible exact Below.refl _ _ | with_reducible refine below_drewN ?_ _ | with_reducible refine below_alloc ?_ _))).1); (case hB => exact (KY.out _ (by repeat (first | with_reducible exact Below.refl _ _ | with_reducible refine below_drewN ?_ _ | with_reducible refine below_alloc ?_ _))).2); rintro e w' ⟨n, rfl, rfl⟩; rw [E0]) | ((with_reducible refine (sSame_any _ _ a.n b.n _ ?hA ?hB).mono ?_); (case hA => exact (KZ.out _ (by repeat (first | with_reducible exact Below.refl _ _ | with_reducible refine below_drewN ?_ _ | with_reducible refine below_alloc ?_ _))).1); (case hB => exact (KZ.out _ (by repeat (first | with_reducible exact Below.refl _ _ | with_reducible refine below_drewN ?_ _ | with_reducible refine below_alloc ?_ _))).2); rintro e w' ⟨n, rfl, rfl⟩; rw [E1])))
  go_ret
  exact ⟨rfl, (by repeat (first | with_reducible exact Below.refl _ _ | with_reducible refine below_drewN ?_ _ | with_reducible refine below_alloc ?_ _))⟩

set_option maxRecDepth 100000 in
set_option maxHeartbeats 1000000 in
theorem sSameH_3 (u v : Value) (a b : Ht) (w : World) (hu : HostIn w u a) (hv : HostIn w v b) (E0 : (a.s == b.s) = true) (E1 : (a.n == b.n) = true) (h2 : a.c = b.c) (h3 : ¬ a.g.length = b.g.length) :
    Calls Tryz.prog 173 #[u, v] w fun e w' => e = .returned (.bool false) ∧ Below w.heap.size w w' := by
  obtain ⟨x, y, z, q, rfl, hx, hy, hz, hq⟩ := hu
  obtain ⟨x', y', z', q', rfl, hx', hy', hz', hq'⟩ := hv
  have KX : Hid (∀ W, Below w.heap.size w W → Bols W x a.g ∧ Bols W x' b.g) := Lib.hid fun W h => ⟨bols_below hx h, bols_below hx' h⟩
  have KY : Hid (∀ W, Below w.heap.size w W → Ints W y a.s ∧ Ints W y' b.s) := Lib.hid fun W h => ⟨ints_below hy h, ints_below hy' h⟩
  have KZ : Hid (∀ W, Below w.heap.size w W → Ints W z a.n ∧ Ints W z' b.n) := Lib.hid fun W h => ⟨ints_below hz h, ints_below hz' h⟩
  have KQ : Hid (∀ W, Below w.heap.size w W → Dds W q a.d ∧ Dds W q' b.d) := Lib.hid fun W h => ⟨dds_below hq h, dds_below hq' h⟩
  obtain ⟨l1, A1, k1, rfl, _⟩ := hx
  obtain ⟨l2, A2, k2, rfl, _⟩ := hy
  obtain ⟨l3, A3, k3, rfl, _⟩ := hz
  obtain ⟨l4, A4, k4, rfl, _⟩ := hq
  obtain ⟨l5, B1, j1, rfl, _⟩ := hx'
  obtain ⟨l6, B2, j2, rfl, _⟩ := hy'
  obtain ⟨l7, B3, j3, rfl, _⟩ := hz'
  obtain ⟨l8, B4, j4, rfl, _⟩ := hq'
  unfold maxLen at l1 l2 l3 l4 l5 l6 l7 l8
  have t2 : (a.c != b.c) = false := by rw [bne_eq_false_iff_eq]; exact h2
  have u2 : (a.c == b.c) = true := by rw [beq_iff_eq]; exact h2
  clear h2
  have t3 : ((a.g.length : Int) != b.g.length) = true := by rw [bne_iff_ne]; omega
  clear h3
  go_enter Tryz.func173, Tryz.ntmps173
  go_wp2_with (first | (go_at_call 171; first | ((with_reducible refine (sSame_any _ _ a.s b.s _ ?hA ?hB).mono ?_); (case hA => exact (KY.out _ (by repeat (first | with_reducible exact Below.refl _ _ | with_reducible refine below_drewN ?_ _ | with_reducible refine below_alloc ?_ _))).1); (case hB => exact (KY.out _ (by repeat (first | with_reducible exact Below.refl _ _ | with_reducible refine below_drewN ?_ _ | with_reducible refine below_alloc ?_ _))).2); rintro e w' ⟨n, rfl, rfl⟩; rw [E0]) | ((with_reducible refine (sSame_any _ _ a.n b.n _ ?hA ?hB).mono ?_); (case hA => exact (KZ.out _ (by repeat (first | with_reducible exact Below.refl _ _ | with_reducible refine below_drewN ?_ _ | with_reducible refine below_alloc ?_ _))).1); (case hB => exact (KZ.out _ (by repeat (first | with_reducible exact Below.refl _ _ | with_reducible refine below_drewN ?_ _ | with_reducible refine below_alloc ?_ _))).2); rintro e w' ⟨n, rfl, rfl⟩; rw [E1])))
  go_ret
  exact ⟨rfl, (by repeat (first | with_reducible exact Below.refl _ _ | with_reducible refine below_drewN ?_ _ | with_reducible refine below_alloc ?_ _))⟩

set_option maxRecDepth 100000 in
set_option maxHeartbeats 1000000 in
theorem sSameH_4 (u v : Value) (a b : Ht) (w : World) (hu : HostIn w u a) (hv : HostIn w v b) (E0 : (a.s == b.s) = true) (E1 : (a.n == b.n) = true) (h2 : a.c = b.c) (h3 : a.g.length = b.g.length) (h4 : ¬ a.d.length = b.d.length) :
    Calls Tryz.prog 173 #[u, v] w fun e w' => e = .returned (.bool false) ∧ Below w.heap.size w w' := by
  obtain ⟨x, y, z, q, rfl, hx, hy, hz, hq⟩ := hu
  obtain ⟨x', y', z', q', rfl, hx', hy', hz', hq'⟩ := hv
  have KX : Hid (∀ W, Below w.heap.size w W → Bols W x a.g ∧ Bols W x' b.g) := Lib.hid fun W h => ⟨bols_below hx h, bols_below hx' h⟩
  have KY : Hid (∀ W, Below w.heap.size w W → Ints W y a.s ∧ Ints W y' b.s) := Lib.hid fun W h => ⟨ints_below hy h, ints_below hy' h⟩
  have KZ : Hid (∀ W, Below w.heap.size w W → Ints W z a.n ∧ Ints W z' b.n) := Lib.hid fun W h => ⟨ints_below hz h, ints_below hz' h⟩
  have KQ : Hid (∀ W, Below w.heap.size w W → Dds W q a.d ∧ Dds W q' b.d) := Lib.hid fun W h => ⟨dds_below hq h, dds_below hq' h⟩
  obtain ⟨l1, A1, k1, rfl, _⟩ := hx
  obtain ⟨l2, A2, k2, rfl, _⟩ := hy
  obtain ⟨l3, A3, k3, rfl, _⟩ := hz
  obtain ⟨l4, A4, k4, rfl, _⟩ := hq
  obtain ⟨l5, B1, j1, rfl, _⟩ := hx'
  obtain ⟨l6, B2, j2, rfl, _⟩ := hy'
  obtain ⟨l7, B3, j3, rfl, _⟩ := hz'
  obtain ⟨l8, B4, j4, rfl, _⟩ := hq'
  unfold maxLen at l1 l2 l3 l4 l5 l6 l7 l8
  have t2 : (a.c != b.c) = false := by rw [bne_eq_false_iff_eq]; exact h2
  have u2 : (a.c == b.c) = true := by rw [beq_iff_eq]; exact h2
  clear h2
  have t3 : ((a.g.length : Int) != b.g.length) = false := by rw [bne_eq_false_iff_eq]; omega
  have t4 : ((a.d.length : Int) != b.d.length) = true := by rw [bne_iff_ne]; omega
  clear h3
  clear h4
  go_enter Tryz.func173, Tryz.ntmps173
  go_wp2_with (first | (go_at_call 171; first | ((with_reducible refine (sSame_any _ _ a.s b.s _ ?hA ?hB).mono ?_); (case hA => exact (KY.out _ (by repeat (first | with_reducible exact Below.refl _ _ | with_reducible refine below_drewN ?_ _ | with_reducible refine below_alloc ?_ _))).1); (case hB => exact (KY.out _ (by repeat (first | with_reducible exact Below.refl _ _ | with_reducible refine below_drewN ?_ _ | with_reducible refine below_alloc ?_ _))).2); rintro e w' ⟨n, rfl, rfl⟩; rw [E0]) | ((with_reducible refine (sSame_any _ _ a.n b.n _ ?hA ?hB).mono ?_); (case hA => exact (KZ.out _ (by repeat (first | with_reducible exact Below.refl _ _ | with_reducible refine below_drewN ?_ _ | with_reducible refine below_alloc ?_ _))).1); (case hB => exact (KZ.out _ (by repeat (first | with_reducible exact Below.refl _ _ | with_reducible refine below_drewN ?_ _ | with_reducible refine below_alloc ?_ _))).2); rintro e w' ⟨n, rfl, rfl⟩; rw [E1])))
  go_ret
  exact ⟨rfl, (by repeat (first | with_reducible exact Below.refl _ _ | with_reducible refine below_drewN ?_ _ | with_reducible refine below_alloc ?_ _))⟩

set_option maxRecDepth 100000 in
set_option maxHeartbeats 1000000 in
theorem sSameH_5 (u v : Value) (a b : Ht) (w : World) (hu : HostIn w u a) (hv : HostIn w v b) (E0 : (a.s == b.s) = true) (E1 : (a.n == b.n) = true) (h2 : a.c = b.c) (h3 : a.g.length = b.g.length) (h4 : a.d.length = b.d.length) :
    Calls Tryz.prog 173 #[u, v] w fun e w' => e = .returned (.bool (a.g == b.g && a.d == b.d)) ∧ Below w.heap.size w w' := by
  obtain ⟨x, y, z, q, rfl, hx, hy, hz, hq⟩ := hu
  obtain ⟨x', y', z', q', rfl, hx', hy', hz', hq'⟩ := hv
  have KX : Hid (∀ W, Below w.heap.size w W → Bols W x a.g ∧ Bols W x' b.g) := Lib.hid fun W h => ⟨bols_below hx h, bols_below hx' h⟩
  have KY : Hid (∀ W, Below w.heap.size w W → Ints W y a.s ∧ Ints W y' b.s) := Lib.hid fun W h => ⟨ints_below hy h, ints_below hy' h⟩
  have KZ : Hid (∀ W, Below w.heap.size w W → Ints W z a.n ∧ Ints W z' b.n) := Lib.hid fun W h => ⟨ints_below hz h, ints_below hz' h⟩
  have KQ : Hid (∀ W, Below w.heap.size w W → Dds W q a.d ∧ Dds W q' b.d) := Lib.hid fun W h => ⟨dds_below hq h, dds_below hq' h⟩
  obtain ⟨l1, A1, k1, rfl, _⟩ := hx
  obtain ⟨l2, A2, k2, rfl, _⟩ := hy
  obtain ⟨l3, A3, k3, rfl, _⟩ := hz
  obtain ⟨l4, A4, k4, rfl, _⟩ := hq
  obtain ⟨l5, B1, j1, rfl, _⟩ := hx'
  obtain ⟨l6, B2, j2, rfl, _⟩ := hy'
  obtain ⟨l7, B3, j3, rfl, _⟩ := hz'
  obtain ⟨l8, B4, j4, rfl, _⟩ := hq'
  unfold maxLen at l1 l2 l3 l4 l5 l6 l7 l8
  have t2 : (a.c != b.c) = false := by rw [bne_eq_false_iff_eq]; exact h2
  have u2 : (a.c == b.c) = true := by rw [beq_iff_eq]; exact h2
  clear h2
  have t3 : ((a.g.length : Int) != b.g.length) = false := by rw [bne_eq_false_iff_eq]; omega
  have t4 : ((a.d.length : Int) != b.d.length) = false := by rw [bne_eq_false_iff_eq]; omega
  have LG := Lib.hid h3
  have LD := Lib.hid h4
  have g3 : a.g.length ≤ b.g.length := by omega
  have g4 : a.d.length ≤ b.d.length := by omega
  clear h3 h4
  have WA := Lib.hid (whole_alloc (whole_new w 43 #[.slice A1 a.g.length k1, .slice A2 a.s.length k2, .slice A3 a.n.length k3, .int .i64 a.c, .slice A4 a.d.length k4]) (.cells #[.slice B1 b.g.length j1, .slice B2 b.s.length j2, .slice B3 b.n.length j3, .int .i64 b.c, .slice B4 b.d.length j4] 43))
  have WB := Lib.hid (whole_new1 w (.cells #[.slice A1 a.g.length k1, .slice A2 a.s.length k2, .slice A3 a.n.length k3, .int .i64 a.c, .slice A4 a.d.length k4] 43) 43 #[.slice B1 b.g.length j1, .slice B2 b.s.length j2, .slice B3 b.n.length j3, .int .i64 b.c, .slice B4 b.d.length j4])
  have WD : Hid (∀ n : Nat, ∀ g cs, Whole ((w.alloc (.cells #[.slice A1 a.g.length k1, .slice A2 a.s.length k2, .slice A3 a.n.length k3, .int .i64 a.c, .slice A4 a.d.length k4] 43)).alloc (.cells #[.slice B1 b.g.length j1, .slice B2 b.s.length j2, .slice B3 b.n.length j3, .int .i64 b.c, .slice B4 b.d.length j4] 43)) g 43 cs → Whole (((w.alloc (.cells #[.slice A1 a.g.length k1, .slice A2 a.s.length k2, .slice A3 a.n.length k3, .int .i64 a.c, .slice A4 a.d.length k4] 43)).alloc (.cells #[.slice B1 b.g.length j1, .slice B2 b.s.length j2, .slice B3 b.n.length j3, .int .i64 b.c, .slice B4 b.d.length j4] 43)).drewN n) g 43 cs) := Lib.hid fun n g cs h => h
  go_enter Tryz.func173, Tryz.ntmps173
  go_wp2_with (first | (go_at_call 171; first | ((with_reducible refine (sSame_any _ _ a.s b.s _ ?hA ?hB).mono ?_); (case hA => exact (KY.out _ (by repeat (first | with_reducible exact Below.refl _ _ | with_reducible refine below_drewN ?_ _ | with_reducible refine below_alloc ?_ _))).1); (case hB => exact (KY.out _ (by repeat (first | with_reducible exact Below.refl _ _ | with_reducible refine below_drewN ?_ _ | with_reducible refine below_alloc ?_ _))).2); rintro e w' ⟨n, rfl, rfl⟩; rw [E0]) | ((with_reducible refine (sSame_any _ _ a.n b.n _ ?hA ?hB).mono ?_); (case hA => exact (KZ.out _ (by repeat (first | with_reducible exact Below.refl _ _ | with_reducible refine below_drewN ?_ _ | with_reducible refine below_alloc ?_ _))).1); (case hB => exact (KZ.out _ (by repeat (first | with_reducible exact Below.refl _ _ | with_reducible refine below_drewN ?_ _ | with_reducible refine below_alloc ?_ _))).2); rintro e w' ⟨n, rfl, rfl⟩; rw [E1])))
  go_loopw [5] (fun i wr => ∃ k : Nat, k ≤ a.g.length ∧ i = .int .i64 k ∧ BSameTo a.g b.g k ∧ Below w.heap.size w wr ∧ Whole wr w.heap.size 43 #[.slice A1 a.g.length k1, .slice A2 a.s.length k2, .slice A3 a.n.length k3, .int .i64 a.c, .slice A4 a.d.length k4] ∧ Whole wr (w.heap.size + 1) 43 #[.slice B1 b.g.length j1, .slice B2 b.s.length j2, .slice B3 b.n.length j3, .int .i64 b.c, .slice B4 b.d.length j4]) (fun i _ => a.g.length - (intOf i).toNat)
  case atStart => exact ⟨0, Nat.zero_le _, rfl, by unfold BSameTo; simp, (by repeat (first | with_reducible exact Below.refl _ _ | with_reducible refine below_drewN ?_ _ | with_reducible refine below_alloc ?_ _)), WD.out _ _ _ WA.out, WD.out _ _ _ WB.out⟩
  case round =>
    obtain ⟨k, hk, rfl, hat, hb, hwa, hwb⟩ := hrel
    have AT := Lib.hid hat
    have B := Lib.hid hb
    have VA := Lib.hid hwa
    have VB := Lib.hid hwb
    obtain ⟨c0, c1, c2, c3, c4⟩ := five_cells hwa
    obtain ⟨e0, e1, e2, e3, e4⟩ := five_cells hwb
    clear hat hb hwa hwb WA WB WD
    by_cases hlt : k < a.g.length
    · have hlt2 : k < b.g.length := by omega
      obtain ⟨⟨_, A', ca', he, hca⟩, ⟨_, B', cb', he', hcb⟩⟩ := KX.out _ B.out
      simp only [Value.slice.injEq, true_and] at he he'
      obtain ⟨rfl, rfl⟩ := he
      obtain ⟨rfl, rfl⟩ := he'
      obtain ⟨ga, rfl, hca2⟩ := hca (by omega)
      obtain ⟨gb, rfl, hcb2⟩ := hcb (by omega)
      have ka := hca2 k hlt
      have kb := hcb2 k hlt2
      clear hca hcb hca2 hcb2
      by_cases e : a.g[k] = b.g[k]
      · have NX := Lib.hid (bsameTo_next AT.out hlt hlt2 e)
        rw [← e] at kb
        clear e
        generalize a.g[k] = x at *
        cases x
        all_goals
          go_wp2
          go_quiet (fail)
          go_wp2
          go_roundw
          case rel => exact ⟨k + 1, by omega, by go_num, NX.out, below_drewN B.out _, VA.out, VB.out⟩
          case measure => simp [intOf]; omega
      · have NO := Lib.hid (show (a.g == b.g && a.d == b.d) = false by rw [bsame_not hlt hlt2 e]; rfl)
        have e2 : b.g[k] = !a.g[k] := by cases h : a.g[k] <;> cases h2 : b.g[k] <;> simp_all
        rw [e2] at kb
        clear e e2
        generalize a.g[k] = x at *
        cases x
        all_goals
          simp only [Bool.not_true, Bool.not_false] at kb
          go_wp2
          go_quiet (fail)
          go_wp2
          go_ret
          exact ⟨ret_bool NO.out.symm, below_drewN B.out _⟩
    · obtain rfl : k = a.g.length := by omega
      have EG := Lib.hid (bsameTo_end LG.out AT.out)
      go_wp2
      go_loopw [6] (fun i wr => ∃ k : Nat, k ≤ a.d.length ∧ i = .int .i64 k ∧ DSameTo a.d b.d k ∧ Below w.heap.size w wr ∧ Whole wr w.heap.size 43 #[.slice A1 a.g.length k1, .slice A2 a.s.length k2, .slice A3 a.n.length k3, .int .i64 a.c, .slice A4 a.d.length k4] ∧ Whole wr (w.heap.size + 1) 43 #[.slice B1 b.g.length j1, .slice B2 b.s.length j2, .slice B3 b.n.length j3, .int .i64 b.c, .slice B4 b.d.length j4]) (fun i _ => a.d.length - (intOf i).toNat)
      case atStart => exact ⟨0, Nat.zero_le _, rfl, by unfold DSameTo; simp, B.out, VA.out, VB.out⟩
      case round =>
        clear c0 c1 c2 c3 c4 e0 e1 e2 e3 e4
        obtain ⟨k, hk2, rfl, hat, hb, hwa, hwb⟩ := hrel
        have AT := Lib.hid hat
        have B := Lib.hid hb
        have VA := Lib.hid hwa
        have VB := Lib.hid hwb
        obtain ⟨c0, c1, c2, c3, c4⟩ := five_cells hwa
        obtain ⟨e0, e1, e2, e3, e4⟩ := five_cells hwb
        clear hat hb hwa hwb
        by_cases hlt : k < a.d.length
        · have hlt2 : k < b.d.length := by omega
          obtain ⟨⟨_, A', ca', he, hca⟩, ⟨_, B', cb', he', hcb⟩⟩ := KQ.out _ B.out
          simp only [Value.slice.injEq, true_and] at he he'
          obtain ⟨rfl, rfl⟩ := he
          obtain ⟨rfl, rfl⟩ := he'
          obtain ⟨ga, rfl, hca2⟩ := hca (by omega)
          obtain ⟨gb, rfl, hcb2⟩ := hcb (by omega)
          have ka := hca2 k hlt
          have kb := hcb2 k hlt2
          clear hca hcb hca2 hcb2
          by_cases e : a.d[k] = b.d[k]
          · have NX := Lib.hid (dsameTo_next AT.out hlt hlt2 e)
            rw [← e] at kb
            clear e
            generalize a.d[k] = x at *
            obtain ⟨a0, a1, a2, a3⟩ := ka
            obtain ⟨b0, b1, b2, b3⟩ := kb
            have t0 : (x.p == x.p) = true := by simp
            have t1 : (x.a == x.a) = true := by simp
            have t2 : (x.b == x.b) = true := by simp
            have t3 : (x.r == x.r) = true := by simp
            go_wp2
            go_quiet (fail)
            go_wp2
            go_roundw
            case rel => exact ⟨k + 1, by omega, by go_num, NX.out, below_drewN B.out _, VA.out, VB.out⟩
            case measure => simp [intOf]; omega
          · have NO := Lib.hid (dsame_not hlt hlt2 e)
            have hne := dd_ne e
            clear e
            generalize a.d[k] = x at *
            generalize b.d[k] = y at *
            obtain ⟨a0, a1, a2, a3⟩ := ka
            obtain ⟨b0, b1, b2, b3⟩ := kb
            rcases hne with q0 | ⟨q0, q1⟩ | ⟨q0, q1, q2⟩ | ⟨q0, q1, q2, q3⟩
            · have t0 : (x.p == y.p) = false := by rw [beq_eq_false_iff_ne]; exact q0
              clear q0
              go_wp2
              go_quiet (fail)
              go_wp2
              have N2 := Lib.hid (show (a.g == b.g && a.d == b.d) = false by rw [EG.out, NO.out]; rfl)
              go_ret
              exact ⟨ret_bool N2.out.symm, below_drewN B.out _⟩
            · have t0 : (x.p == y.p) = true := by rw [beq_iff_eq]; exact q0
              have t1 : (x.a == y.a) = false := by rw [beq_eq_false_iff_ne]; exact q1
              clear q0 q1
              go_wp2
              go_quiet (fail)
              go_wp2
              have N2 := Lib.hid (show (a.g == b.g && a.d == b.d) = false by rw [EG.out, NO.out]; rfl)
              go_ret
              exact ⟨ret_bool N2.out.symm, below_drewN B.out _⟩
            · have t0 : (x.p == y.p) = true := by rw [beq_iff_eq]; exact q0
              have t1 : (x.a == y.a) = true := by rw [beq_iff_eq]; exact q1
              have t2 : (x.b == y.b) = false := by rw [beq_eq_false_iff_ne]; exact q2
              clear q0 q1 q2
              go_wp2
              go_quiet (fail)
              go_wp2
              have N2 := Lib.hid (show (a.g == b.g && a.d == b.d) = false by rw [EG.out, NO.out]; rfl)
              go_ret
              exact ⟨ret_bool N2.out.symm, below_drewN B.out _⟩
            · have t0 : (x.p == y.p) = true := by rw [beq_iff_eq]; exact q0
              have t1 : (x.a == y.a) = true := by rw [beq_iff_eq]; exact q1
              have t2 : (x.b == y.b) = true := by rw [beq_iff_eq]; exact q2
              have t3 : (x.r == y.r) = false := by rw [beq_eq_false_iff_ne]; exact q3
              clear q0 q1 q2 q3
              go_wp2
              go_quiet (fail)
              go_wp2
              have N2 := Lib.hid (show (a.g == b.g && a.d == b.d) = false by rw [EG.out, NO.out]; rfl)
              go_ret
              exact ⟨ret_bool N2.out.symm, below_drewN B.out _⟩
        · obtain rfl : k = a.d.length := by omega
          have E := Lib.hid (show (a.g == b.g && a.d == b.d) = true by rw [EG.out, dsameTo_end LD.out AT.out]; rfl)
          go_wp2
          go_ret
          exact ⟨ret_bool E.out.symm, B.out⟩

theorem sSameH_any (u v : Value) (a b : Ht) (w : World) (hu : HostIn w u a) (hv : HostIn w v b) :
    Calls Tryz.prog 173 #[u, v] w fun e w' => e = .returned (.bool (hEq a b)) ∧ Below w.heap.size w w' := by
  unfold hEq
  cases h0 : a.s == b.s
  · exact sSameH_0 u v a b w hu hv h0
  cases h1 : a.n == b.n
  · exact sSameH_1 u v a b w hu hv h0 h1
  by_cases h2 : a.c = b.c
  rotate_left
  · rw [show (a.c == b.c) = false by rw [beq_eq_false_iff_ne]; exact h2]; exact sSameH_2 u v a b w hu hv h0 h1 h2
  rw [show (a.c == b.c) = true by rw [beq_iff_eq]; exact h2]
  by_cases h3 : a.g.length = b.g.length
  rotate_left
  · rw [bsame_len h3]; exact sSameH_3 u v a b w hu hv h0 h1 h2 h3
  by_cases h4 : a.d.length = b.d.length
  rotate_left
  · rw [dsame_len h4, Bool.and_false]; exact sSameH_4 u v a b w hu hv h0 h1 h2 h3 h4
  exact sSameH_5 u v a b w hu hv h0 h1 h2 h3 h4

set_option maxRecDepth 100000 in
set_option maxHeartbeats 1000000 in
theorem iSameHost_any (u v : Value) (a b : Ht) (w : World) (hu : HostIn w u a) (hv : HostIn w v b) :
    Calls Tryz.prog 98 #[u, v] w fun e w' => e = .returned (.bool (hSame a b)) ∧ Below w.heap.size w w' := by
  have HU := Lib.hid hu
  have HV := Lib.hid hv
  obtain ⟨x, y, z, q, rfl, hx, hy, hz, hq⟩ := hu
  obtain ⟨x', y', z', q', rfl, hx', hy', hz', hq'⟩ := hv
  have KX : Hid (∀ W, Below w.heap.size w W → Bols W x a.g ∧ Bols W x' b.g) := Lib.hid fun W h => ⟨bols_below hx h, bols_below hx' h⟩
  have KY : Hid (∀ W, Below w.heap.size w W → Ints W y a.s ∧ Ints W y' b.s) := Lib.hid fun W h => ⟨ints_below hy h, ints_below hy' h⟩
  have KZ : Hid (∀ W, Below w.heap.size w W → Ints W z a.n ∧ Ints W z' b.n) := Lib.hid fun W h => ⟨ints_below hz h, ints_below hz' h⟩
  have KQ : Hid (∀ W, Below w.heap.size w W → Dds W q a.d ∧ Dds W q' b.d) := Lib.hid fun W h => ⟨dds_below hq h, dds_below hq' h⟩
  obtain ⟨l1, A1, k1, rfl, _⟩ := hx
  obtain ⟨l2, A2, k2, rfl, _⟩ := hy
  obtain ⟨l3, A3, k3, rfl, _⟩ := hz
  obtain ⟨l4, A4, k4, rfl, _⟩ := hq
  obtain ⟨l5, B1, j1, rfl, _⟩ := hx'
  obtain ⟨l6, B2, j2, rfl, _⟩ := hy'
  obtain ⟨l7, B3, j3, rfl, _⟩ := hz'
  obtain ⟨l8, B4, j4, rfl, _⟩ := hq'
  unfold maxLen at l1 l2 l3 l4 l5 l6 l7 l8
  clear l1 l2 l3 l4 l5 l6 l7 l8
  cases o1 : hOK a
  · have R : Hid (hSame a b = false) := Lib.hid (by unfold hSame; rw [o1]; rfl)
    go_enter Tryz.func98, Tryz.ntmps98
    go_wp2_with (first | (go_at_call 159; first | ((with_reducible refine (iHOK_any (.agg #[.slice A1 a.g.length k1, .slice A2 a.s.length k2, .slice A3 a.n.length k3, .int .i64 a.c, .slice A4 a.d.length k4]) a _ (hostIn_below HU.out (below_alloc (below_alloc (Below.refl _ _) _) _))).mono ?_); rintro e w1 ⟨rfl, hb⟩; have BX := Lib.hid (below_step (below_alloc (below_alloc (Below.refl _ _) _) _) hb); have T1 := whole_b hb (whole_alloc (whole_new w _ _) _); have T2 := whole_b hb (whole_new1 w _ _ _); obtain ⟨c0, c1, c2, c3, c4⟩ := five_cells T1; obtain ⟨d0, d1, d2, d3, d4⟩ := five_cells T2; clear hb; rw [o1]) | ((with_reducible refine (iHOK_any (.agg #[.slice B1 b.g.length j1, .slice B2 b.s.length j2, .slice B3 b.n.length j3, .int .i64 b.c, .slice B4 b.d.length j4]) b _ (hostIn_below HV.out BX.out)).mono ?_); rintro e w2 ⟨rfl, hb⟩; have BY := Lib.hid (below_step BX.out hb); clear c0 c1 c2 c3 c4 d0 d1 d2 d3 d4; have U1 := whole_b hb T1; have U2 := whole_b hb T2; obtain ⟨c0, c1, c2, c3, c4⟩ := five_cells U1; obtain ⟨d0, d1, d2, d3, d4⟩ := five_cells U2; clear hb; rw [o2])))
    go_ret
    exact ⟨ret_bool R.out.symm, BX.out⟩
  cases o2 : hOK b
  · have R : Hid (hSame a b = false) := Lib.hid (by unfold hSame; rw [o1, o2]; rfl)
    go_enter Tryz.func98, Tryz.ntmps98
    go_wp2_with (first | (go_at_call 159; first | ((with_reducible refine (iHOK_any (.agg #[.slice A1 a.g.length k1, .slice A2 a.s.length k2, .slice A3 a.n.length k3, .int .i64 a.c, .slice A4 a.d.length k4]) a _ (hostIn_below HU.out (below_alloc (below_alloc (Below.refl _ _) _) _))).mono ?_); rintro e w1 ⟨rfl, hb⟩; have BX := Lib.hid (below_step (below_alloc (below_alloc (Below.refl _ _) _) _) hb); have T1 := whole_b hb (whole_alloc (whole_new w _ _) _); have T2 := whole_b hb (whole_new1 w _ _ _); obtain ⟨c0, c1, c2, c3, c4⟩ := five_cells T1; obtain ⟨d0, d1, d2, d3, d4⟩ := five_cells T2; clear hb; rw [o1]) | ((with_reducible refine (iHOK_any (.agg #[.slice B1 b.g.length j1, .slice B2 b.s.length j2, .slice B3 b.n.length j3, .int .i64 b.c, .slice B4 b.d.length j4]) b _ (hostIn_below HV.out BX.out)).mono ?_); rintro e w2 ⟨rfl, hb⟩; have BY := Lib.hid (below_step BX.out hb); clear c0 c1 c2 c3 c4 d0 d1 d2 d3 d4; have U1 := whole_b hb T1; have U2 := whole_b hb T2; obtain ⟨c0, c1, c2, c3, c4⟩ := five_cells U1; obtain ⟨d0, d1, d2, d3, d4⟩ := five_cells U2; clear hb; rw [o2])))
    go_ret
    exact ⟨ret_bool R.out.symm, BY.out⟩
  cases E3 : a.g == b.g
  · have R : Hid (hSame a b = false) := Lib.hid (by unfold hSame hEq; rw [E3]; simp)
    go_enter Tryz.func98, Tryz.ntmps98
    go_wp2_with (first | (go_at_call 159; first | ((with_reducible refine (iHOK_any (.agg #[.slice A1 a.g.length k1, .slice A2 a.s.length k2, .slice A3 a.n.length k3, .int .i64 a.c, .slice A4 a.d.length k4]) a _ (hostIn_below HU.out (below_alloc (below_alloc (Below.refl _ _) _) _))).mono ?_); rintro e w1 ⟨rfl, hb⟩; have BX := Lib.hid (below_step (below_alloc (below_alloc (Below.refl _ _) _) _) hb); have T1 := whole_b hb (whole_alloc (whole_new w _ _) _); have T2 := whole_b hb (whole_new1 w _ _ _); obtain ⟨c0, c1, c2, c3, c4⟩ := five_cells T1; obtain ⟨d0, d1, d2, d3, d4⟩ := five_cells T2; clear hb; rw [o1]) | ((with_reducible refine (iHOK_any (.agg #[.slice B1 b.g.length j1, .slice B2 b.s.length j2, .slice B3 b.n.length j3, .int .i64 b.c, .slice B4 b.d.length j4]) b _ (hostIn_below HV.out BX.out)).mono ?_); rintro e w2 ⟨rfl, hb⟩; have BY := Lib.hid (below_step BX.out hb); clear c0 c1 c2 c3 c4 d0 d1 d2 d3 d4; have U1 := whole_b hb T1; have U2 := whole_b hb T2; obtain ⟨c0, c1, c2, c3, c4⟩ := five_cells U1; obtain ⟨d0, d1, d2, d3, d4⟩ := five_cells U2; clear hb; rw [o2])) | (go_at_call 174; first | ((with_reducible refine (slEqualB_any _ _ a.g b.g _ ?hA ?hB).mono ?_); (case hA => exact (KX.out _ (by repeat (first | with_reducible exact BY.out | with_reducible refine below_drewN ?_ _))).1); (case hB => exact (KX.out _ (by repeat (first | with_reducible exact BY.out | with_reducible refine below_drewN ?_ _))).2); rintro e w' ⟨n, rfl, rfl⟩; rw [E3])) | (go_at_call 67; first | ((with_reducible refine (slEqual_any _ _ a.s b.s _ ?hA ?hB).mono ?_); (case hA => exact (KY.out _ (by repeat (first | with_reducible exact BY.out | with_reducible refine below_drewN ?_ _))).1); (case hB => exact (KY.out _ (by repeat (first | with_reducible exact BY.out | with_reducible refine below_drewN ?_ _))).2); rintro e w' ⟨n, rfl, rfl⟩; rw [E0]) | ((with_reducible refine (slEqual_any _ _ a.n b.n _ ?hA ?hB).mono ?_); (case hA => exact (KZ.out _ (by repeat (first | with_reducible exact BY.out | with_reducible refine below_drewN ?_ _))).1); (case hB => exact (KZ.out _ (by repeat (first | with_reducible exact BY.out | with_reducible refine below_drewN ?_ _))).2); rintro e w' ⟨n, rfl, rfl⟩; rw [E1])) | (go_at_call 175; first | ((with_reducible refine (slEqualD_any _ _ a.d b.d _ ?hA ?hB).mono ?_); (case hA => exact (KQ.out _ (by repeat (first | with_reducible exact BY.out | with_reducible refine below_drewN ?_ _))).1); (case hB => exact (KQ.out _ (by repeat (first | with_reducible exact BY.out | with_reducible refine below_drewN ?_ _))).2); rintro e w' ⟨n, rfl, rfl⟩; rw [E4])))
    go_ret
    exact ⟨ret_bool R.out.symm, (by repeat (first | with_reducible exact BY.out | with_reducible refine below_drewN ?_ _))⟩
  cases E0 : a.s == b.s
  · have R : Hid (hSame a b = false) := Lib.hid (by unfold hSame hEq; rw [E0]; simp)
    go_enter Tryz.func98, Tryz.ntmps98
    go_wp2_with (first | (go_at_call 159; first | ((with_reducible refine (iHOK_any (.agg #[.slice A1 a.g.length k1, .slice A2 a.s.length k2, .slice A3 a.n.length k3, .int .i64 a.c, .slice A4 a.d.length k4]) a _ (hostIn_below HU.out (below_alloc (below_alloc (Below.refl _ _) _) _))).mono ?_); rintro e w1 ⟨rfl, hb⟩; have BX := Lib.hid (below_step (below_alloc (below_alloc (Below.refl _ _) _) _) hb); have T1 := whole_b hb (whole_alloc (whole_new w _ _) _); have T2 := whole_b hb (whole_new1 w _ _ _); obtain ⟨c0, c1, c2, c3, c4⟩ := five_cells T1; obtain ⟨d0, d1, d2, d3, d4⟩ := five_cells T2; clear hb; rw [o1]) | ((with_reducible refine (iHOK_any (.agg #[.slice B1 b.g.length j1, .slice B2 b.s.length j2, .slice B3 b.n.length j3, .int .i64 b.c, .slice B4 b.d.length j4]) b _ (hostIn_below HV.out BX.out)).mono ?_); rintro e w2 ⟨rfl, hb⟩; have BY := Lib.hid (below_step BX.out hb); clear c0 c1 c2 c3 c4 d0 d1 d2 d3 d4; have U1 := whole_b hb T1; have U2 := whole_b hb T2; obtain ⟨c0, c1, c2, c3, c4⟩ := five_cells U1; obtain ⟨d0, d1, d2, d3, d4⟩ := five_cells U2; clear hb; rw [o2])) | (go_at_call 174; first | ((with_reducible refine (slEqualB_any _ _ a.g b.g _ ?hA ?hB).mono ?_); (case hA => exact (KX.out _ (by repeat (first | with_reducible exact BY.out | with_reducible refine below_drewN ?_ _))).1); (case hB => exact (KX.out _ (by repeat (first | with_reducible exact BY.out | with_reducible refine below_drewN ?_ _))).2); rintro e w' ⟨n, rfl, rfl⟩; rw [E3])) | (go_at_call 67; first | ((with_reducible refine (slEqual_any _ _ a.s b.s _ ?hA ?hB).mono ?_); (case hA => exact (KY.out _ (by repeat (first | with_reducible exact BY.out | with_reducible refine below_drewN ?_ _))).1); (case hB => exact (KY.out _ (by repeat (first | with_reducible exact BY.out | with_reducible refine below_drewN ?_ _))).2); rintro e w' ⟨n, rfl, rfl⟩; rw [E0]) | ((with_reducible refine (slEqual_any _ _ a.n b.n _ ?hA ?hB).mono ?_); (case hA => exact (KZ.out _ (by repeat (first | with_reducible exact BY.out | with_reducible refine below_drewN ?_ _))).1); (case hB => exact (KZ.out _ (by repeat (first | with_reducible exact BY.out | with_reducible refine below_drewN ?_ _))).2); rintro e w' ⟨n, rfl, rfl⟩; rw [E1])) | (go_at_call 175; first | ((with_reducible refine (slEqualD_any _ _ a.d b.d _ ?hA ?hB).mono ?_); (case hA => exact (KQ.out _ (by repeat (first | with_reducible exact BY.out | with_reducible refine below_drewN ?_ _))).1); (case hB => exact (KQ.out _ (by repeat (first | with_reducible exact BY.out | with_reducible refine below_drewN ?_ _))).2); rintro e w' ⟨n, rfl, rfl⟩; rw [E4])))
    go_ret
    exact ⟨ret_bool R.out.symm, (by repeat (first | with_reducible exact BY.out | with_reducible refine below_drewN ?_ _))⟩
  cases E1 : a.n == b.n
  · have R : Hid (hSame a b = false) := Lib.hid (by unfold hSame hEq; rw [E1]; simp)
    go_enter Tryz.func98, Tryz.ntmps98
    go_wp2_with (first | (go_at_call 159; first | ((with_reducible refine (iHOK_any (.agg #[.slice A1 a.g.length k1, .slice A2 a.s.length k2, .slice A3 a.n.length k3, .int .i64 a.c, .slice A4 a.d.length k4]) a _ (hostIn_below HU.out (below_alloc (below_alloc (Below.refl _ _) _) _))).mono ?_); rintro e w1 ⟨rfl, hb⟩; have BX := Lib.hid (below_step (below_alloc (below_alloc (Below.refl _ _) _) _) hb); have T1 := whole_b hb (whole_alloc (whole_new w _ _) _); have T2 := whole_b hb (whole_new1 w _ _ _); obtain ⟨c0, c1, c2, c3, c4⟩ := five_cells T1; obtain ⟨d0, d1, d2, d3, d4⟩ := five_cells T2; clear hb; rw [o1]) | ((with_reducible refine (iHOK_any (.agg #[.slice B1 b.g.length j1, .slice B2 b.s.length j2, .slice B3 b.n.length j3, .int .i64 b.c, .slice B4 b.d.length j4]) b _ (hostIn_below HV.out BX.out)).mono ?_); rintro e w2 ⟨rfl, hb⟩; have BY := Lib.hid (below_step BX.out hb); clear c0 c1 c2 c3 c4 d0 d1 d2 d3 d4; have U1 := whole_b hb T1; have U2 := whole_b hb T2; obtain ⟨c0, c1, c2, c3, c4⟩ := five_cells U1; obtain ⟨d0, d1, d2, d3, d4⟩ := five_cells U2; clear hb; rw [o2])) | (go_at_call 174; first | ((with_reducible refine (slEqualB_any _ _ a.g b.g _ ?hA ?hB).mono ?_); (case hA => exact (KX.out _ (by repeat (first | with_reducible exact BY.out | with_reducible refine below_drewN ?_ _))).1); (case hB => exact (KX.out _ (by repeat (first | with_reducible exact BY.out | with_reducible refine below_drewN ?_ _))).2); rintro e w' ⟨n, rfl, rfl⟩; rw [E3])) | (go_at_call 67; first | ((with_reducible refine (slEqual_any _ _ a.s b.s _ ?hA ?hB).mono ?_); (case hA => exact (KY.out _ (by repeat (first | with_reducible exact BY.out | with_reducible refine below_drewN ?_ _))).1); (case hB => exact (KY.out _ (by repeat (first | with_reducible exact BY.out | with_reducible refine below_drewN ?_ _))).2); rintro e w' ⟨n, rfl, rfl⟩; rw [E0]) | ((with_reducible refine (slEqual_any _ _ a.n b.n _ ?hA ?hB).mono ?_); (case hA => exact (KZ.out _ (by repeat (first | with_reducible exact BY.out | with_reducible refine below_drewN ?_ _))).1); (case hB => exact (KZ.out _ (by repeat (first | with_reducible exact BY.out | with_reducible refine below_drewN ?_ _))).2); rintro e w' ⟨n, rfl, rfl⟩; rw [E1])) | (go_at_call 175; first | ((with_reducible refine (slEqualD_any _ _ a.d b.d _ ?hA ?hB).mono ?_); (case hA => exact (KQ.out _ (by repeat (first | with_reducible exact BY.out | with_reducible refine below_drewN ?_ _))).1); (case hB => exact (KQ.out _ (by repeat (first | with_reducible exact BY.out | with_reducible refine below_drewN ?_ _))).2); rintro e w' ⟨n, rfl, rfl⟩; rw [E4])))
    go_ret
    exact ⟨ret_bool R.out.symm, (by repeat (first | with_reducible exact BY.out | with_reducible refine below_drewN ?_ _))⟩
  by_cases h2 : a.c = b.c
  rotate_left
  · have R : Hid (hSame a b = false) := Lib.hid (by unfold hSame hEq; rw [show (a.c == b.c) = false by rw [beq_eq_false_iff_ne]; exact h2]; simp)
    have u2 : (a.c == b.c) = false := by rw [beq_eq_false_iff_ne]; exact h2
    clear h2
    go_enter Tryz.func98, Tryz.ntmps98
    go_wp2_with (first | (go_at_call 159; first | ((with_reducible refine (iHOK_any (.agg #[.slice A1 a.g.length k1, .slice A2 a.s.length k2, .slice A3 a.n.length k3, .int .i64 a.c, .slice A4 a.d.length k4]) a _ (hostIn_below HU.out (below_alloc (below_alloc (Below.refl _ _) _) _))).mono ?_); rintro e w1 ⟨rfl, hb⟩; have BX := Lib.hid (below_step (below_alloc (below_alloc (Below.refl _ _) _) _) hb); have T1 := whole_b hb (whole_alloc (whole_new w _ _) _); have T2 := whole_b hb (whole_new1 w _ _ _); obtain ⟨c0, c1, c2, c3, c4⟩ := five_cells T1; obtain ⟨d0, d1, d2, d3, d4⟩ := five_cells T2; clear hb; rw [o1]) | ((with_reducible refine (iHOK_any (.agg #[.slice B1 b.g.length j1, .slice B2 b.s.length j2, .slice B3 b.n.length j3, .int .i64 b.c, .slice B4 b.d.length j4]) b _ (hostIn_below HV.out BX.out)).mono ?_); rintro e w2 ⟨rfl, hb⟩; have BY := Lib.hid (below_step BX.out hb); clear c0 c1 c2 c3 c4 d0 d1 d2 d3 d4; have U1 := whole_b hb T1; have U2 := whole_b hb T2; obtain ⟨c0, c1, c2, c3, c4⟩ := five_cells U1; obtain ⟨d0, d1, d2, d3, d4⟩ := five_cells U2; clear hb; rw [o2])) | (go_at_call 174; first | ((with_reducible refine (slEqualB_any _ _ a.g b.g _ ?hA ?hB).mono ?_); (case hA => exact (KX.out _ (by repeat (first | with_reducible exact BY.out | with_reducible refine below_drewN ?_ _))).1); (case hB => exact (KX.out _ (by repeat (first | with_reducible exact BY.out | with_reducible refine below_drewN ?_ _))).2); rintro e w' ⟨n, rfl, rfl⟩; rw [E3])) | (go_at_call 67; first | ((with_reducible refine (slEqual_any _ _ a.s b.s _ ?hA ?hB).mono ?_); (case hA => exact (KY.out _ (by repeat (first | with_reducible exact BY.out | with_reducible refine below_drewN ?_ _))).1); (case hB => exact (KY.out _ (by repeat (first | with_reducible exact BY.out | with_reducible refine below_drewN ?_ _))).2); rintro e w' ⟨n, rfl, rfl⟩; rw [E0]) | ((with_reducible refine (slEqual_any _ _ a.n b.n _ ?hA ?hB).mono ?_); (case hA => exact (KZ.out _ (by repeat (first | with_reducible exact BY.out | with_reducible refine below_drewN ?_ _))).1); (case hB => exact (KZ.out _ (by repeat (first | with_reducible exact BY.out | with_reducible refine below_drewN ?_ _))).2); rintro e w' ⟨n, rfl, rfl⟩; rw [E1])) | (go_at_call 175; first | ((with_reducible refine (slEqualD_any _ _ a.d b.d _ ?hA ?hB).mono ?_); (case hA => exact (KQ.out _ (by repeat (first | with_reducible exact BY.out | with_reducible refine below_drewN ?_ _))).1); (case hB => exact (KQ.out _ (by repeat (first | with_reducible exact BY.out | with_reducible refine below_drewN ?_ _))).2); rintro e w' ⟨n, rfl, rfl⟩; rw [E4])))
    go_ret
    exact ⟨ret_bool R.out.symm, (by repeat (first | with_reducible exact BY.out | with_reducible refine below_drewN ?_ _))⟩
  have u2 : (a.c == b.c) = true := by rw [beq_iff_eq]; exact h2
  clear h2
  cases E4 : a.d == b.d
  · have R : Hid (hSame a b = false) := Lib.hid (by unfold hSame hEq; rw [E4]; simp)
    go_enter Tryz.func98, Tryz.ntmps98
    go_wp2_with (first | (go_at_call 159; first | ((with_reducible refine (iHOK_any (.agg #[.slice A1 a.g.length k1, .slice A2 a.s.length k2, .slice A3 a.n.length k3, .int .i64 a.c, .slice A4 a.d.length k4]) a _ (hostIn_below HU.out (below_alloc (below_alloc (Below.refl _ _) _) _))).mono ?_); rintro e w1 ⟨rfl, hb⟩; have BX := Lib.hid (below_step (below_alloc (below_alloc (Below.refl _ _) _) _) hb); have T1 := whole_b hb (whole_alloc (whole_new w _ _) _); have T2 := whole_b hb (whole_new1 w _ _ _); obtain ⟨c0, c1, c2, c3, c4⟩ := five_cells T1; obtain ⟨d0, d1, d2, d3, d4⟩ := five_cells T2; clear hb; rw [o1]) | ((with_reducible refine (iHOK_any (.agg #[.slice B1 b.g.length j1, .slice B2 b.s.length j2, .slice B3 b.n.length j3, .int .i64 b.c, .slice B4 b.d.length j4]) b _ (hostIn_below HV.out BX.out)).mono ?_); rintro e w2 ⟨rfl, hb⟩; have BY := Lib.hid (below_step BX.out hb); clear c0 c1 c2 c3 c4 d0 d1 d2 d3 d4; have U1 := whole_b hb T1; have U2 := whole_b hb T2; obtain ⟨c0, c1, c2, c3, c4⟩ := five_cells U1; obtain ⟨d0, d1, d2, d3, d4⟩ := five_cells U2; clear hb; rw [o2])) | (go_at_call 174; first | ((with_reducible refine (slEqualB_any _ _ a.g b.g _ ?hA ?hB).mono ?_); (case hA => exact (KX.out _ (by repeat (first | with_reducible exact BY.out | with_reducible refine below_drewN ?_ _))).1); (case hB => exact (KX.out _ (by repeat (first | with_reducible exact BY.out | with_reducible refine below_drewN ?_ _))).2); rintro e w' ⟨n, rfl, rfl⟩; rw [E3])) | (go_at_call 67; first | ((with_reducible refine (slEqual_any _ _ a.s b.s _ ?hA ?hB).mono ?_); (case hA => exact (KY.out _ (by repeat (first | with_reducible exact BY.out | with_reducible refine below_drewN ?_ _))).1); (case hB => exact (KY.out _ (by repeat (first | with_reducible exact BY.out | with_reducible refine below_drewN ?_ _))).2); rintro e w' ⟨n, rfl, rfl⟩; rw [E0]) | ((with_reducible refine (slEqual_any _ _ a.n b.n _ ?hA ?hB).mono ?_); (case hA => exact (KZ.out _ (by repeat (first | with_reducible exact BY.out | with_reducible refine below_drewN ?_ _))).1); (case hB => exact (KZ.out _ (by repeat (first | with_reducible exact BY.out | with_reducible refine below_drewN ?_ _))).2); rintro e w' ⟨n, rfl, rfl⟩; rw [E1])) | (go_at_call 175; first | ((with_reducible refine (slEqualD_any _ _ a.d b.d _ ?hA ?hB).mono ?_); (case hA => exact (KQ.out _ (by repeat (first | with_reducible exact BY.out | with_reducible refine below_drewN ?_ _))).1); (case hB => exact (KQ.out _ (by repeat (first | with_reducible exact BY.out | with_reducible refine below_drewN ?_ _))).2); rintro e w' ⟨n, rfl, rfl⟩; rw [E4])))
    go_ret
    exact ⟨ret_bool R.out.symm, (by repeat (first | with_reducible exact BY.out | with_reducible refine below_drewN ?_ _))⟩
  have R : Hid (hSame a b = true) := Lib.hid (by unfold hSame hEq; rw [o1, o2, E0, E1, E3, E4, u2]; rfl)
  go_enter Tryz.func98, Tryz.ntmps98
  go_wp2_with (first | (go_at_call 159; first | ((with_reducible refine (iHOK_any (.agg #[.slice A1 a.g.length k1, .slice A2 a.s.length k2, .slice A3 a.n.length k3, .int .i64 a.c, .slice A4 a.d.length k4]) a _ (hostIn_below HU.out (below_alloc (below_alloc (Below.refl _ _) _) _))).mono ?_); rintro e w1 ⟨rfl, hb⟩; have BX := Lib.hid (below_step (below_alloc (below_alloc (Below.refl _ _) _) _) hb); have T1 := whole_b hb (whole_alloc (whole_new w _ _) _); have T2 := whole_b hb (whole_new1 w _ _ _); obtain ⟨c0, c1, c2, c3, c4⟩ := five_cells T1; obtain ⟨d0, d1, d2, d3, d4⟩ := five_cells T2; clear hb; rw [o1]) | ((with_reducible refine (iHOK_any (.agg #[.slice B1 b.g.length j1, .slice B2 b.s.length j2, .slice B3 b.n.length j3, .int .i64 b.c, .slice B4 b.d.length j4]) b _ (hostIn_below HV.out BX.out)).mono ?_); rintro e w2 ⟨rfl, hb⟩; have BY := Lib.hid (below_step BX.out hb); clear c0 c1 c2 c3 c4 d0 d1 d2 d3 d4; have U1 := whole_b hb T1; have U2 := whole_b hb T2; obtain ⟨c0, c1, c2, c3, c4⟩ := five_cells U1; obtain ⟨d0, d1, d2, d3, d4⟩ := five_cells U2; clear hb; rw [o2])) | (go_at_call 174; first | ((with_reducible refine (slEqualB_any _ _ a.g b.g _ ?hA ?hB).mono ?_); (case hA => exact (KX.out _ (by repeat (first | with_reducible exact BY.out | with_reducible refine below_drewN ?_ _))).1); (case hB => exact (KX.out _ (by repeat (first | with_reducible exact BY.out | with_reducible refine below_drewN ?_ _))).2); rintro e w' ⟨n, rfl, rfl⟩; rw [E3])) | (go_at_call 67; first | ((with_reducible refine (slEqual_any _ _ a.s b.s _ ?hA ?hB).mono ?_); (case hA => exact (KY.out _ (by repeat (first | with_reducible exact BY.out | with_reducible refine below_drewN ?_ _))).1); (case hB => exact (KY.out _ (by repeat (first | with_reducible exact BY.out | with_reducible refine below_drewN ?_ _))).2); rintro e w' ⟨n, rfl, rfl⟩; rw [E0]) | ((with_reducible refine (slEqual_any _ _ a.n b.n _ ?hA ?hB).mono ?_); (case hA => exact (KZ.out _ (by repeat (first | with_reducible exact BY.out | with_reducible refine below_drewN ?_ _))).1); (case hB => exact (KZ.out _ (by repeat (first | with_reducible exact BY.out | with_reducible refine below_drewN ?_ _))).2); rintro e w' ⟨n, rfl, rfl⟩; rw [E1])) | (go_at_call 175; first | ((with_reducible refine (slEqualD_any _ _ a.d b.d _ ?hA ?hB).mono ?_); (case hA => exact (KQ.out _ (by repeat (first | with_reducible exact BY.out | with_reducible refine below_drewN ?_ _))).1); (case hB => exact (KQ.out _ (by repeat (first | with_reducible exact BY.out | with_reducible refine below_drewN ?_ _))).2); rintro e w' ⟨n, rfl, rfl⟩; rw [E4])))
  go_ret
  exact ⟨ret_bool R.out.symm, (by repeat (first | with_reducible exact BY.out | with_reducible refine below_drewN ?_ _))⟩

end Go.Proofs.YthnbaeamekolmaaGreatDoor

namespace Go.Proofs.YthnbaeamekolmaaGreatDoor
open Go.RowKit
set_option linter.unusedVariables false
set_option linter.unusedSimpArgs false

theorem wd_ne {x y : Wd} (h : x ≠ y) : (x.n ≠ y.n) ∨ (x.n = y.n ∧ x.k ≠ y.k) ∨ (x.n = y.n ∧ x.k = y.k ∧ x.v ≠ y.v) := by
  obtain ⟨a0, a1, a2⟩ := x
  obtain ⟨b0, b1, b2⟩ := y
  simp only at *
  by_cases h0 : a0 = b0
  rotate_left
  · exact .inl h0
  by_cases h1 : a1 = b1
  rotate_left
  · exact .inr (.inl ⟨h0, h1⟩)
  refine .inr (.inr (⟨h0, h1, fun e => h ?_⟩))
  subst h0 h1 e
  rfl

theorem cl_ne {x y : Cl} (h : x ≠ y) : (x.i ≠ y.i) ∨ (x.i = y.i ∧ x.f ≠ y.f) ∨ (x.i = y.i ∧ x.f = y.f ∧ x.d ≠ y.d) ∨ (x.i = y.i ∧ x.f = y.f ∧ x.d = y.d ∧ x.c ≠ y.c) := by
  obtain ⟨a0, a1, a2, a3⟩ := x
  obtain ⟨b0, b1, b2, b3⟩ := y
  simp only at *
  by_cases h0 : a0 = b0
  rotate_left
  · exact .inl h0
  by_cases h1 : a1 = b1
  rotate_left
  · exact .inr (.inl ⟨h0, h1⟩)
  by_cases h2 : a2 = b2
  rotate_left
  · exact .inr (.inr (.inl ⟨h0, h1, h2⟩))
  refine .inr (.inr (.inr (⟨h0, h1, h2, fun e => h ?_⟩)))
  subst h0 h1 h2 e
  rfl

/-- The first ones are alike. -/
def wSameTo (P Q : List Wd) (k : Nat) : Prop := P.take k = Q.take k

theorem wsame_next {P Q : List Wd} {k : Nat} (h : wSameTo P Q k) (hp : k < P.length) (hq : k < Q.length) (e : P[k] = Q[k]) : wSameTo P Q (k + 1) := by
  unfold wSameTo at *
  rw [List.take_succ_eq_append_getElem hp, List.take_succ_eq_append_getElem hq, h, e]

theorem wsame_end {P Q : List Wd} (hl : P.length = Q.length) (h : wSameTo P Q P.length) : (P == Q) = true := by
  unfold wSameTo at h
  rw [List.take_of_length_le (Nat.le_refl _), List.take_of_length_le (by omega)] at h
  simp [h]

theorem wsame_len {P Q : List Wd} (hl : P.length ≠ Q.length) : (P == Q) = false := by
  rw [beq_eq_false_iff_ne]
  exact fun e => hl (by rw [e])

theorem wsame_not {P Q : List Wd} {k : Nat} (hp : k < P.length) (hq : k < Q.length) (e : P[k] ≠ Q[k]) : (P == Q) = false := by
  rw [beq_eq_false_iff_ne]
  intro h
  subst h
  exact e rfl

/-- The first ones are alike. -/
def cSameTo (P Q : List Cl) (k : Nat) : Prop := P.take k = Q.take k

theorem csame_next {P Q : List Cl} {k : Nat} (h : cSameTo P Q k) (hp : k < P.length) (hq : k < Q.length) (e : P[k] = Q[k]) : cSameTo P Q (k + 1) := by
  unfold cSameTo at *
  rw [List.take_succ_eq_append_getElem hp, List.take_succ_eq_append_getElem hq, h, e]

theorem csame_end {P Q : List Cl} (hl : P.length = Q.length) (h : cSameTo P Q P.length) : (P == Q) = true := by
  unfold cSameTo at h
  rw [List.take_of_length_le (Nat.le_refl _), List.take_of_length_le (by omega)] at h
  simp [h]

theorem csame_len {P Q : List Cl} (hl : P.length ≠ Q.length) : (P == Q) = false := by
  rw [beq_eq_false_iff_ne]
  exact fun e => hl (by rw [e])

theorem csame_not {P Q : List Cl} {k : Nat} (hp : k < P.length) (hq : k < Q.length) (e : P[k] ≠ Q[k]) : (P == Q) = false := by
  rw [beq_eq_false_iff_ne]
  intro h
  subst h
  exact e rfl

set_option maxRecDepth 100000 in
set_option maxHeartbeats 2000000 in
theorem slEqualW_any (u v : Value) (P Q : List Wd) (w : World) (hu : Wds w u P) (hv : Wds w v Q) :
    Calls Tryz.prog 97 #[u, v] w (BoolOf w (P == Q)) := by
  obtain ⟨pm, -, A, ca, rfl, -, ha⟩ := hu
  obtain ⟨qm, -, B, cb, rfl, -, hb⟩ := hv
  unfold maxLen at pm qm
  by_cases hl : P.length = Q.length
  · have z0 : ((P.length : Int) != (Q.length : Int)) = false := by simp [hl]
    have LE := Lib.hid hl
    have hlq : P.length ≤ Q.length := by omega
    have HA := Lib.hid ha
    have HB := Lib.hid hb
    clear hl ha hb
    go_enter Tryz.func97, Tryz.ntmps97
    go_wp2
    clear z0
    go_loopw [5, 13] (fun _ i wr => ∃ k n : Nat, k ≤ P.length ∧ i = .int .i64 k ∧ wSameTo P Q k ∧ wr = w.drewN n) (fun _ i _ => P.length - (intOf i).toNat)
    case atStart => exact ⟨0, 0, Nat.zero_le _, rfl, by unfold wSameTo; simp, rfl⟩
    case round =>
      obtain ⟨k, n, hk, rfl, hat, rfl⟩ := hrel
      have AT := Lib.hid hat
      clear hat
      by_cases hlt : k < P.length
      · have hlt2 : k < Q.length := by omega
        obtain ⟨ga, rfl, hca2⟩ := HA.out (by omega)
        obtain ⟨gb, rfl, hcb2⟩ := HB.out (by omega)
        have ka := hca2 k hlt
        have kb := hcb2 k hlt2
        clear hca2 hcb2
        by_cases e : P[k] = Q[k]
        · have NX := Lib.hid (wsame_next AT.out hlt hlt2 e)
          rw [← e] at kb
          clear e
          generalize P[k] = x at *
          obtain ⟨a0, a1, a2⟩ := ka
          obtain ⟨b0, b1, b2⟩ := kb
          simp only [] at a0 a1 a2 b0 b1 b2
          have t0 : (x.n.toList == x.n.toList) = true := by simp
          have t1 : (x.k == x.k) = true := by simp
          have t2 : (x.v == x.v) = true := by simp
          go_wp2
          go_quiet (fail)
          go_wp2
          go_roundw
          case rel => exact ⟨k + 1, _, by omega, by go_num, NX.out, by first | rfl | (rw [World.drewN_drewN])⟩
          case measure => simp [intOf]; omega
        · have NO := Lib.hid (wsame_not hlt hlt2 e)
          have hne := wd_ne e
          clear e
          generalize P[k] = x at *
          generalize Q[k] = y at *
          obtain ⟨a0, a1, a2⟩ := ka
          obtain ⟨b0, b1, b2⟩ := kb
          simp only [] at a0 a1 a2 b0 b1 b2
          rcases hne with q0 | ⟨q0, q1⟩ | ⟨q0, q1, q2⟩
          · have t0 : (x.n.toList == y.n.toList) = false := by rw [text_same]; exact decide_eq_false q0
            clear q0
            go_wp2
            go_quiet (fail)
            go_wp2
            go_ret
            exact ⟨_, ret_bool NO.out.symm, by rw [World.drewN_drewN]⟩
          · have t0 : (x.n.toList == y.n.toList) = true := by rw [text_same]; exact decide_eq_true q0
            have t1 : (x.k == y.k) = false := by rw [beq_eq_false_iff_ne]; exact q1
            clear q0 q1
            go_wp2
            go_quiet (fail)
            go_wp2
            go_ret
            exact ⟨_, ret_bool NO.out.symm, by rw [World.drewN_drewN]⟩
          · have t0 : (x.n.toList == y.n.toList) = true := by rw [text_same]; exact decide_eq_true q0
            have t1 : (x.k == y.k) = true := by rw [beq_iff_eq]; exact q1
            have t2 : (x.v == y.v) = false := by rw [beq_eq_false_iff_ne]; exact q2
            clear q0 q1 q2
            go_wp2
            go_quiet (fail)
            go_wp2
            go_ret
            exact ⟨_, ret_bool NO.out.symm, by rw [World.drewN_drewN]⟩
      · obtain rfl : k = P.length := by omega
        have E := Lib.hid (wsame_end LE.out AT.out)
        go_wp2
        go_ret
        exact ⟨n, ret_bool E.out.symm, rfl⟩
  · have z0 : ((P.length : Int) != (Q.length : Int)) = true := by rw [bne_iff_ne]; omega
    have E := Lib.hid (wsame_len hl)
    clear hl
    go_enter Tryz.func97, Tryz.ntmps97
    go_wp2
    go_ret
    exact ⟨0, ret_bool E.out.symm, rfl⟩

set_option maxRecDepth 100000 in
set_option maxHeartbeats 2000000 in
theorem slEqualC_any (u v : Value) (P Q : List Cl) (w : World) (hu : Cls w u P) (hv : Cls w v Q) :
    Calls Tryz.prog 99 #[u, v] w (BoolOf w (P == Q)) := by
  obtain ⟨pm, A, ca, rfl, ha⟩ := hu
  obtain ⟨qm, B, cb, rfl, hb⟩ := hv
  unfold maxLen at pm qm
  by_cases hl : P.length = Q.length
  · have z0 : ((P.length : Int) != (Q.length : Int)) = false := by simp [hl]
    have LE := Lib.hid hl
    have hlq : P.length ≤ Q.length := by omega
    have HA := Lib.hid ha
    have HB := Lib.hid hb
    clear hl ha hb
    go_enter Tryz.func99, Tryz.ntmps99
    go_wp2
    clear z0
    go_loopw [5, 13] (fun _ i wr => ∃ k n : Nat, k ≤ P.length ∧ i = .int .i64 k ∧ cSameTo P Q k ∧ wr = w.drewN n) (fun _ i _ => P.length - (intOf i).toNat)
    case atStart => exact ⟨0, 0, Nat.zero_le _, rfl, by unfold cSameTo; simp, rfl⟩
    case round =>
      obtain ⟨k, n, hk, rfl, hat, rfl⟩ := hrel
      have AT := Lib.hid hat
      clear hat
      by_cases hlt : k < P.length
      · have hlt2 : k < Q.length := by omega
        obtain ⟨ga, rfl, hca2⟩ := HA.out (by omega)
        obtain ⟨gb, rfl, hcb2⟩ := HB.out (by omega)
        have ka := hca2 k hlt
        have kb := hcb2 k hlt2
        clear hca2 hcb2
        by_cases e : P[k] = Q[k]
        · have NX := Lib.hid (csame_next AT.out hlt hlt2 e)
          rw [← e] at kb
          clear e
          generalize P[k] = x at *
          obtain ⟨a0, a1, a2, a3⟩ := ka
          obtain ⟨b0, b1, b2, b3⟩ := kb
          have t0 : (x.i == x.i) = true := by simp
          have t1 : (x.f == x.f) = true := by simp
          have t2 : (x.d == x.d) = true := by simp
          have t3 : (x.c == x.c) = true := by simp
          go_wp2
          go_quiet (fail)
          go_wp2
          go_roundw
          case rel => exact ⟨k + 1, _, by omega, by go_num, NX.out, by first | rfl | (rw [World.drewN_drewN])⟩
          case measure => simp [intOf]; omega
        · have NO := Lib.hid (csame_not hlt hlt2 e)
          have hne := cl_ne e
          clear e
          generalize P[k] = x at *
          generalize Q[k] = y at *
          obtain ⟨a0, a1, a2, a3⟩ := ka
          obtain ⟨b0, b1, b2, b3⟩ := kb
          rcases hne with q0 | ⟨q0, q1⟩ | ⟨q0, q1, q2⟩ | ⟨q0, q1, q2, q3⟩
          · have t0 : (x.i == y.i) = false := by rw [beq_eq_false_iff_ne]; exact q0
            clear q0
            go_wp2
            go_quiet (fail)
            go_wp2
            go_ret
            exact ⟨_, ret_bool NO.out.symm, by rw [World.drewN_drewN]⟩
          · have t0 : (x.i == y.i) = true := by rw [beq_iff_eq]; exact q0
            have t1 : (x.f == y.f) = false := by rw [beq_eq_false_iff_ne]; exact q1
            clear q0 q1
            go_wp2
            go_quiet (fail)
            go_wp2
            go_ret
            exact ⟨_, ret_bool NO.out.symm, by rw [World.drewN_drewN]⟩
          · have t0 : (x.i == y.i) = true := by rw [beq_iff_eq]; exact q0
            have t1 : (x.f == y.f) = true := by rw [beq_iff_eq]; exact q1
            have t2 : (x.d == y.d) = false := by rw [beq_eq_false_iff_ne]; exact q2
            clear q0 q1 q2
            go_wp2
            go_quiet (fail)
            go_wp2
            go_ret
            exact ⟨_, ret_bool NO.out.symm, by rw [World.drewN_drewN]⟩
          · have t0 : (x.i == y.i) = true := by rw [beq_iff_eq]; exact q0
            have t1 : (x.f == y.f) = true := by rw [beq_iff_eq]; exact q1
            have t2 : (x.d == y.d) = true := by rw [beq_iff_eq]; exact q2
            have t3 : (x.c == y.c) = false := by rw [beq_eq_false_iff_ne]; exact q3
            clear q0 q1 q2 q3
            go_wp2
            go_quiet (fail)
            go_wp2
            go_ret
            exact ⟨_, ret_bool NO.out.symm, by rw [World.drewN_drewN]⟩
      · obtain rfl : k = P.length := by omega
        have E := Lib.hid (csame_end LE.out AT.out)
        go_wp2
        go_ret
        exact ⟨n, ret_bool E.out.symm, rfl⟩
  · have z0 : ((P.length : Int) != (Q.length : Int)) = true := by rw [bne_iff_ne]; omega
    have E := Lib.hid (csame_len hl)
    clear hl
    go_enter Tryz.func99, Tryz.ntmps99
    go_wp2
    go_ret
    exact ⟨0, ret_bool E.out.symm, rfl⟩

set_option maxRecDepth 100000 in
set_option maxHeartbeats 2000000 in
theorem sSameWords_any (u v : Value) (P Q : List Wd) (w : World) (hu : Wds w u P) (hv : Wds w v Q) :
    Calls Tryz.prog 170 #[u, v] w (BoolOf w (P == Q)) := by
  obtain ⟨pm, -, A, ca, rfl, -, ha⟩ := hu
  obtain ⟨qm, -, B, cb, rfl, -, hb⟩ := hv
  unfold maxLen at pm qm
  by_cases hl : P.length = Q.length
  · have z0 : ((P.length : Int) != (Q.length : Int)) = false := by simp [hl]
    have LE := Lib.hid hl
    have hlq : P.length ≤ Q.length := by omega
    have HA := Lib.hid ha
    have HB := Lib.hid hb
    clear hl ha hb
    go_enter Tryz.func170, Tryz.ntmps170
    go_wp2
    clear z0
    go_loopw [5] (fun i wr => ∃ k n : Nat, k ≤ P.length ∧ i = .int .i64 k ∧ wSameTo P Q k ∧ wr = w.drewN n) (fun i _ => P.length - (intOf i).toNat)
    case atStart => exact ⟨0, 0, Nat.zero_le _, rfl, by unfold wSameTo; simp, rfl⟩
    case round =>
      obtain ⟨k, n, hk, rfl, hat, rfl⟩ := hrel
      have AT := Lib.hid hat
      clear hat
      by_cases hlt : k < P.length
      · have hlt2 : k < Q.length := by omega
        obtain ⟨ga, rfl, hca2⟩ := HA.out (by omega)
        obtain ⟨gb, rfl, hcb2⟩ := HB.out (by omega)
        have ka := hca2 k hlt
        have kb := hcb2 k hlt2
        clear hca2 hcb2
        by_cases e : P[k] = Q[k]
        · have NX := Lib.hid (wsame_next AT.out hlt hlt2 e)
          rw [← e] at kb
          clear e
          generalize P[k] = x at *
          obtain ⟨a0, a1, a2⟩ := ka
          obtain ⟨b0, b1, b2⟩ := kb
          simp only [] at a0 a1 a2 b0 b1 b2
          have t0 : (x.n.toList == x.n.toList) = true := by simp
          have t1 : (x.k == x.k) = true := by simp
          have t2 : (x.v == x.v) = true := by simp
          go_wp2
          go_quiet (fail)
          go_wp2
          go_roundw
          case rel => exact ⟨k + 1, _, by omega, by go_num, NX.out, by first | rfl | (rw [World.drewN_drewN])⟩
          case measure => simp [intOf]; omega
        · have NO := Lib.hid (wsame_not hlt hlt2 e)
          have hne := wd_ne e
          clear e
          generalize P[k] = x at *
          generalize Q[k] = y at *
          obtain ⟨a0, a1, a2⟩ := ka
          obtain ⟨b0, b1, b2⟩ := kb
          simp only [] at a0 a1 a2 b0 b1 b2
          rcases hne with q0 | ⟨q0, q1⟩ | ⟨q0, q1, q2⟩
          · have t0 : (x.n.toList == y.n.toList) = false := by rw [text_same]; exact decide_eq_false q0
            clear q0
            go_wp2
            go_quiet (fail)
            go_wp2
            go_ret
            exact ⟨_, ret_bool NO.out.symm, by rw [World.drewN_drewN]⟩
          · have t0 : (x.n.toList == y.n.toList) = true := by rw [text_same]; exact decide_eq_true q0
            have t1 : (x.k == y.k) = false := by rw [beq_eq_false_iff_ne]; exact q1
            clear q0 q1
            go_wp2
            go_quiet (fail)
            go_wp2
            go_ret
            exact ⟨_, ret_bool NO.out.symm, by rw [World.drewN_drewN]⟩
          · have t0 : (x.n.toList == y.n.toList) = true := by rw [text_same]; exact decide_eq_true q0
            have t1 : (x.k == y.k) = true := by rw [beq_iff_eq]; exact q1
            have t2 : (x.v == y.v) = false := by rw [beq_eq_false_iff_ne]; exact q2
            clear q0 q1 q2
            go_wp2
            go_quiet (fail)
            go_wp2
            go_ret
            exact ⟨_, ret_bool NO.out.symm, by rw [World.drewN_drewN]⟩
      · obtain rfl : k = P.length := by omega
        have E := Lib.hid (wsame_end LE.out AT.out)
        go_wp2
        go_ret
        exact ⟨n, ret_bool E.out.symm, rfl⟩
  · have z0 : ((P.length : Int) != (Q.length : Int)) = true := by rw [bne_iff_ne]; omega
    have E := Lib.hid (wsame_len hl)
    clear hl
    go_enter Tryz.func170, Tryz.ntmps170
    go_wp2
    go_ret
    exact ⟨0, ret_bool E.out.symm, rfl⟩

end Go.Proofs.YthnbaeamekolmaaGreatDoor

namespace Go.Proofs.YthnbaeamekolmaaGreatDoor
open Go.RowKit
set_option linter.unusedVariables false
set_option linter.unusedSimpArgs false

/-- Alike in every field. -/
def SameP (p q : Dt) : Prop := p.s = q.s ∧ p.b = q.b ∧ p.c = q.c ∧ p.h = q.h ∧ p.n = q.n ∧ p.o.toList = q.o.toList
instance (p q : Dt) : Decidable (SameP p q) := by unfold SameP; infer_instance
def sameD (p q : Dt) : Bool := decide (SameP p q)
/-- Both valid, and alike. -/
def sameV (p q : Dt) : Bool := dOK p && (dOK q && sameD p q)

theorem sameD_of {p q : Dt} (h0 : p.s = q.s) (h1 : p.b = q.b) (h2 : p.c = q.c) (h3 : p.h = q.h) (h4 : p.n = q.n) (h5 : p.o.toList = q.o.toList) : sameD p q = true := decide_eq_true ⟨h0, h1, h2, h3, h4, h5⟩
theorem sameD_not {p q : Dt} (h : ¬ SameP p q) : sameD p q = false := decide_eq_false h

set_option maxRecDepth 100000 in
set_option maxHeartbeats 2000000 in
theorem sSameD_0 (u v : Value) (p q : Dt) (w : World) (hu : DatIn w u p) (hv : DatIn w v q) (h0 : ¬ p.s = q.s) :
    Calls Tryz.prog 172 #[u, v] w fun e w' => e = .returned (.bool false) ∧ Below w.heap.size w w' := by
  have HU := hu
  have HV := hv
  obtain ⟨x, y, z, rfl, hx, hy, hz, _⟩ := hu
  obtain ⟨x', y', z', rfl, hx', hy', hz', _⟩ := hv
  have BB : Hid (∀ (o o' : Obj) (n : Nat), Below w.heap.size w (((w.alloc o).alloc o').drewN n)) := Lib.hid fun o o' n => below_drewN (below_alloc (below_alloc (Below.refl _ _) _) _) n
  have B0 : Hid (∀ (o o' : Obj), Below w.heap.size w ((w.alloc o).alloc o')) := Lib.hid fun o o' => below_alloc (below_alloc (Below.refl _ _) _) _
  have HX : Hid (∀ o o' : Obj, Ints ((w.alloc o).alloc o') x p.s) := Lib.hid fun o o' => (ints_below hx (B0.out o o'))
  have NX : Hid (∀ o o' : Obj, ∀ m : Nat, Ints (((w.alloc o).alloc o').drewN m) x p.s) := Lib.hid fun o o' => (fun m => ints_draws (ints_below hx (B0.out o o')) m)
  have HY : Hid (∀ o o' : Obj, Ints ((w.alloc o).alloc o') y p.b) := Lib.hid fun o o' => (ints_below hy (B0.out o o'))
  have NY : Hid (∀ o o' : Obj, ∀ m : Nat, Ints (((w.alloc o).alloc o').drewN m) y p.b) := Lib.hid fun o o' => (fun m => ints_draws (ints_below hy (B0.out o o')) m)
  have HZ : Hid (∀ o o' : Obj, Ints ((w.alloc o).alloc o') z p.c) := Lib.hid fun o o' => (ints_below hz (B0.out o o'))
  have NZ : Hid (∀ o o' : Obj, ∀ m : Nat, Ints (((w.alloc o).alloc o').drewN m) z p.c) := Lib.hid fun o o' => (fun m => ints_draws (ints_below hz (B0.out o o')) m)
  have HX' : Hid (∀ o o' : Obj, Ints ((w.alloc o).alloc o') x' q.s) := Lib.hid fun o o' => (ints_below hx' (B0.out o o'))
  have NX' : Hid (∀ o o' : Obj, ∀ m : Nat, Ints (((w.alloc o).alloc o').drewN m) x' q.s) := Lib.hid fun o o' => (fun m => ints_draws (ints_below hx' (B0.out o o')) m)
  have HY' : Hid (∀ o o' : Obj, Ints ((w.alloc o).alloc o') y' q.b) := Lib.hid fun o o' => (ints_below hy' (B0.out o o'))
  have NY' : Hid (∀ o o' : Obj, ∀ m : Nat, Ints (((w.alloc o).alloc o').drewN m) y' q.b) := Lib.hid fun o o' => (fun m => ints_draws (ints_below hy' (B0.out o o')) m)
  have HZ' : Hid (∀ o o' : Obj, Ints ((w.alloc o).alloc o') z' q.c) := Lib.hid fun o o' => (ints_below hz' (B0.out o o'))
  have NZ' : Hid (∀ o o' : Obj, ∀ m : Nat, Ints (((w.alloc o).alloc o').drewN m) z' q.c) := Lib.hid fun o o' => (fun m => ints_draws (ints_below hz' (B0.out o o')) m)
  have t0 : (p.s == q.s) = false := by rw [beq_eq_false_iff_ne]; exact h0
  clear h0
  clear hx hy hz hx' hy' hz' HU HV
  go_enter Tryz.func172, Tryz.ntmps172
  go_wp2_with (first | (go_at_call 171; (first | (with_reducible refine (sSame_any _ _ p.s q.s _ (by first | exact HX.out _ _ | exact NX.out _ _ _) (by first | exact HX'.out _ _ | exact NX'.out _ _ _)).mono ?_) | (with_reducible refine (sSame_any _ _ p.b q.b _ (by first | exact HY.out _ _ | exact NY.out _ _ _) (by first | exact HY'.out _ _ | exact NY'.out _ _ _)).mono ?_) | (with_reducible refine (sSame_any _ _ p.c q.c _ (by first | exact HZ.out _ _ | exact NZ.out _ _ _) (by first | exact HZ'.out _ _ | exact NZ'.out _ _ _)).mono ?_)); rintro e w' ⟨nn, rfl, rfl⟩; (try simp only [World.drewN_drewN])))
  go_ret
  exact ⟨ret_bool (by simp [*]), by first | exact BB.out _ _ _ | exact B0.out _ _⟩

set_option maxRecDepth 100000 in
set_option maxHeartbeats 2000000 in
theorem sSameD_1 (u v : Value) (p q : Dt) (w : World) (hu : DatIn w u p) (hv : DatIn w v q) (h0 : p.s = q.s) (h1 : ¬ p.b = q.b) :
    Calls Tryz.prog 172 #[u, v] w fun e w' => e = .returned (.bool false) ∧ Below w.heap.size w w' := by
  have HU := hu
  have HV := hv
  obtain ⟨x, y, z, rfl, hx, hy, hz, _⟩ := hu
  obtain ⟨x', y', z', rfl, hx', hy', hz', _⟩ := hv
  have BB : Hid (∀ (o o' : Obj) (n : Nat), Below w.heap.size w (((w.alloc o).alloc o').drewN n)) := Lib.hid fun o o' n => below_drewN (below_alloc (below_alloc (Below.refl _ _) _) _) n
  have B0 : Hid (∀ (o o' : Obj), Below w.heap.size w ((w.alloc o).alloc o')) := Lib.hid fun o o' => below_alloc (below_alloc (Below.refl _ _) _) _
  have HX : Hid (∀ o o' : Obj, Ints ((w.alloc o).alloc o') x p.s) := Lib.hid fun o o' => (ints_below hx (B0.out o o'))
  have NX : Hid (∀ o o' : Obj, ∀ m : Nat, Ints (((w.alloc o).alloc o').drewN m) x p.s) := Lib.hid fun o o' => (fun m => ints_draws (ints_below hx (B0.out o o')) m)
  have HY : Hid (∀ o o' : Obj, Ints ((w.alloc o).alloc o') y p.b) := Lib.hid fun o o' => (ints_below hy (B0.out o o'))
  have NY : Hid (∀ o o' : Obj, ∀ m : Nat, Ints (((w.alloc o).alloc o').drewN m) y p.b) := Lib.hid fun o o' => (fun m => ints_draws (ints_below hy (B0.out o o')) m)
  have HZ : Hid (∀ o o' : Obj, Ints ((w.alloc o).alloc o') z p.c) := Lib.hid fun o o' => (ints_below hz (B0.out o o'))
  have NZ : Hid (∀ o o' : Obj, ∀ m : Nat, Ints (((w.alloc o).alloc o').drewN m) z p.c) := Lib.hid fun o o' => (fun m => ints_draws (ints_below hz (B0.out o o')) m)
  have HX' : Hid (∀ o o' : Obj, Ints ((w.alloc o).alloc o') x' q.s) := Lib.hid fun o o' => (ints_below hx' (B0.out o o'))
  have NX' : Hid (∀ o o' : Obj, ∀ m : Nat, Ints (((w.alloc o).alloc o').drewN m) x' q.s) := Lib.hid fun o o' => (fun m => ints_draws (ints_below hx' (B0.out o o')) m)
  have HY' : Hid (∀ o o' : Obj, Ints ((w.alloc o).alloc o') y' q.b) := Lib.hid fun o o' => (ints_below hy' (B0.out o o'))
  have NY' : Hid (∀ o o' : Obj, ∀ m : Nat, Ints (((w.alloc o).alloc o').drewN m) y' q.b) := Lib.hid fun o o' => (fun m => ints_draws (ints_below hy' (B0.out o o')) m)
  have HZ' : Hid (∀ o o' : Obj, Ints ((w.alloc o).alloc o') z' q.c) := Lib.hid fun o o' => (ints_below hz' (B0.out o o'))
  have NZ' : Hid (∀ o o' : Obj, ∀ m : Nat, Ints (((w.alloc o).alloc o').drewN m) z' q.c) := Lib.hid fun o o' => (fun m => ints_draws (ints_below hz' (B0.out o o')) m)
  have t0 : (p.s == q.s) = true := by rw [beq_iff_eq]; exact h0
  have t1 : (p.b == q.b) = false := by rw [beq_eq_false_iff_ne]; exact h1
  clear h0
  clear h1
  clear hx hy hz hx' hy' hz' HU HV
  go_enter Tryz.func172, Tryz.ntmps172
  go_wp2_with (first | (go_at_call 171; (first | (with_reducible refine (sSame_any _ _ p.s q.s _ (by first | exact HX.out _ _ | exact NX.out _ _ _) (by first | exact HX'.out _ _ | exact NX'.out _ _ _)).mono ?_) | (with_reducible refine (sSame_any _ _ p.b q.b _ (by first | exact HY.out _ _ | exact NY.out _ _ _) (by first | exact HY'.out _ _ | exact NY'.out _ _ _)).mono ?_) | (with_reducible refine (sSame_any _ _ p.c q.c _ (by first | exact HZ.out _ _ | exact NZ.out _ _ _) (by first | exact HZ'.out _ _ | exact NZ'.out _ _ _)).mono ?_)); rintro e w' ⟨nn, rfl, rfl⟩; (try simp only [World.drewN_drewN])))
  go_ret
  exact ⟨ret_bool (by simp [*]), by first | exact BB.out _ _ _ | exact B0.out _ _⟩

set_option maxRecDepth 100000 in
set_option maxHeartbeats 2000000 in
theorem sSameD_2 (u v : Value) (p q : Dt) (w : World) (hu : DatIn w u p) (hv : DatIn w v q) (h0 : p.s = q.s) (h1 : p.b = q.b) (h2 : ¬ p.c = q.c) :
    Calls Tryz.prog 172 #[u, v] w fun e w' => e = .returned (.bool false) ∧ Below w.heap.size w w' := by
  have HU := hu
  have HV := hv
  obtain ⟨x, y, z, rfl, hx, hy, hz, _⟩ := hu
  obtain ⟨x', y', z', rfl, hx', hy', hz', _⟩ := hv
  have BB : Hid (∀ (o o' : Obj) (n : Nat), Below w.heap.size w (((w.alloc o).alloc o').drewN n)) := Lib.hid fun o o' n => below_drewN (below_alloc (below_alloc (Below.refl _ _) _) _) n
  have B0 : Hid (∀ (o o' : Obj), Below w.heap.size w ((w.alloc o).alloc o')) := Lib.hid fun o o' => below_alloc (below_alloc (Below.refl _ _) _) _
  have HX : Hid (∀ o o' : Obj, Ints ((w.alloc o).alloc o') x p.s) := Lib.hid fun o o' => (ints_below hx (B0.out o o'))
  have NX : Hid (∀ o o' : Obj, ∀ m : Nat, Ints (((w.alloc o).alloc o').drewN m) x p.s) := Lib.hid fun o o' => (fun m => ints_draws (ints_below hx (B0.out o o')) m)
  have HY : Hid (∀ o o' : Obj, Ints ((w.alloc o).alloc o') y p.b) := Lib.hid fun o o' => (ints_below hy (B0.out o o'))
  have NY : Hid (∀ o o' : Obj, ∀ m : Nat, Ints (((w.alloc o).alloc o').drewN m) y p.b) := Lib.hid fun o o' => (fun m => ints_draws (ints_below hy (B0.out o o')) m)
  have HZ : Hid (∀ o o' : Obj, Ints ((w.alloc o).alloc o') z p.c) := Lib.hid fun o o' => (ints_below hz (B0.out o o'))
  have NZ : Hid (∀ o o' : Obj, ∀ m : Nat, Ints (((w.alloc o).alloc o').drewN m) z p.c) := Lib.hid fun o o' => (fun m => ints_draws (ints_below hz (B0.out o o')) m)
  have HX' : Hid (∀ o o' : Obj, Ints ((w.alloc o).alloc o') x' q.s) := Lib.hid fun o o' => (ints_below hx' (B0.out o o'))
  have NX' : Hid (∀ o o' : Obj, ∀ m : Nat, Ints (((w.alloc o).alloc o').drewN m) x' q.s) := Lib.hid fun o o' => (fun m => ints_draws (ints_below hx' (B0.out o o')) m)
  have HY' : Hid (∀ o o' : Obj, Ints ((w.alloc o).alloc o') y' q.b) := Lib.hid fun o o' => (ints_below hy' (B0.out o o'))
  have NY' : Hid (∀ o o' : Obj, ∀ m : Nat, Ints (((w.alloc o).alloc o').drewN m) y' q.b) := Lib.hid fun o o' => (fun m => ints_draws (ints_below hy' (B0.out o o')) m)
  have HZ' : Hid (∀ o o' : Obj, Ints ((w.alloc o).alloc o') z' q.c) := Lib.hid fun o o' => (ints_below hz' (B0.out o o'))
  have NZ' : Hid (∀ o o' : Obj, ∀ m : Nat, Ints (((w.alloc o).alloc o').drewN m) z' q.c) := Lib.hid fun o o' => (fun m => ints_draws (ints_below hz' (B0.out o o')) m)
  have t0 : (p.s == q.s) = true := by rw [beq_iff_eq]; exact h0
  have t1 : (p.b == q.b) = true := by rw [beq_iff_eq]; exact h1
  have t2 : (p.c == q.c) = false := by rw [beq_eq_false_iff_ne]; exact h2
  clear h0
  clear h1
  clear h2
  clear hx hy hz hx' hy' hz' HU HV
  go_enter Tryz.func172, Tryz.ntmps172
  go_wp2_with (first | (go_at_call 171; (first | (with_reducible refine (sSame_any _ _ p.s q.s _ (by first | exact HX.out _ _ | exact NX.out _ _ _) (by first | exact HX'.out _ _ | exact NX'.out _ _ _)).mono ?_) | (with_reducible refine (sSame_any _ _ p.b q.b _ (by first | exact HY.out _ _ | exact NY.out _ _ _) (by first | exact HY'.out _ _ | exact NY'.out _ _ _)).mono ?_) | (with_reducible refine (sSame_any _ _ p.c q.c _ (by first | exact HZ.out _ _ | exact NZ.out _ _ _) (by first | exact HZ'.out _ _ | exact NZ'.out _ _ _)).mono ?_)); rintro e w' ⟨nn, rfl, rfl⟩; (try simp only [World.drewN_drewN])))
  go_ret
  exact ⟨ret_bool (by simp [*]), by first | exact BB.out _ _ _ | exact B0.out _ _⟩

set_option maxRecDepth 100000 in
set_option maxHeartbeats 2000000 in
theorem sSameD_3 (u v : Value) (p q : Dt) (w : World) (hu : DatIn w u p) (hv : DatIn w v q) (h0 : p.s = q.s) (h1 : p.b = q.b) (h2 : p.c = q.c) (h3 : ¬ p.h = q.h) :
    Calls Tryz.prog 172 #[u, v] w fun e w' => e = .returned (.bool false) ∧ Below w.heap.size w w' := by
  have HU := hu
  have HV := hv
  obtain ⟨x, y, z, rfl, hx, hy, hz, _⟩ := hu
  obtain ⟨x', y', z', rfl, hx', hy', hz', _⟩ := hv
  have BB : Hid (∀ (o o' : Obj) (n : Nat), Below w.heap.size w (((w.alloc o).alloc o').drewN n)) := Lib.hid fun o o' n => below_drewN (below_alloc (below_alloc (Below.refl _ _) _) _) n
  have B0 : Hid (∀ (o o' : Obj), Below w.heap.size w ((w.alloc o).alloc o')) := Lib.hid fun o o' => below_alloc (below_alloc (Below.refl _ _) _) _
  have HX : Hid (∀ o o' : Obj, Ints ((w.alloc o).alloc o') x p.s) := Lib.hid fun o o' => (ints_below hx (B0.out o o'))
  have NX : Hid (∀ o o' : Obj, ∀ m : Nat, Ints (((w.alloc o).alloc o').drewN m) x p.s) := Lib.hid fun o o' => (fun m => ints_draws (ints_below hx (B0.out o o')) m)
  have HY : Hid (∀ o o' : Obj, Ints ((w.alloc o).alloc o') y p.b) := Lib.hid fun o o' => (ints_below hy (B0.out o o'))
  have NY : Hid (∀ o o' : Obj, ∀ m : Nat, Ints (((w.alloc o).alloc o').drewN m) y p.b) := Lib.hid fun o o' => (fun m => ints_draws (ints_below hy (B0.out o o')) m)
  have HZ : Hid (∀ o o' : Obj, Ints ((w.alloc o).alloc o') z p.c) := Lib.hid fun o o' => (ints_below hz (B0.out o o'))
  have NZ : Hid (∀ o o' : Obj, ∀ m : Nat, Ints (((w.alloc o).alloc o').drewN m) z p.c) := Lib.hid fun o o' => (fun m => ints_draws (ints_below hz (B0.out o o')) m)
  have HX' : Hid (∀ o o' : Obj, Ints ((w.alloc o).alloc o') x' q.s) := Lib.hid fun o o' => (ints_below hx' (B0.out o o'))
  have NX' : Hid (∀ o o' : Obj, ∀ m : Nat, Ints (((w.alloc o).alloc o').drewN m) x' q.s) := Lib.hid fun o o' => (fun m => ints_draws (ints_below hx' (B0.out o o')) m)
  have HY' : Hid (∀ o o' : Obj, Ints ((w.alloc o).alloc o') y' q.b) := Lib.hid fun o o' => (ints_below hy' (B0.out o o'))
  have NY' : Hid (∀ o o' : Obj, ∀ m : Nat, Ints (((w.alloc o).alloc o').drewN m) y' q.b) := Lib.hid fun o o' => (fun m => ints_draws (ints_below hy' (B0.out o o')) m)
  have HZ' : Hid (∀ o o' : Obj, Ints ((w.alloc o).alloc o') z' q.c) := Lib.hid fun o o' => (ints_below hz' (B0.out o o'))
  have NZ' : Hid (∀ o o' : Obj, ∀ m : Nat, Ints (((w.alloc o).alloc o').drewN m) z' q.c) := Lib.hid fun o o' => (fun m => ints_draws (ints_below hz' (B0.out o o')) m)
  have t0 : (p.s == q.s) = true := by rw [beq_iff_eq]; exact h0
  have t1 : (p.b == q.b) = true := by rw [beq_iff_eq]; exact h1
  have t2 : (p.c == q.c) = true := by rw [beq_iff_eq]; exact h2
  have t3 : (p.h == q.h) = false := by rw [beq_eq_false_iff_ne]; exact h3
  clear h0
  clear h1
  clear h2
  clear h3
  clear hx hy hz hx' hy' hz' HU HV
  go_enter Tryz.func172, Tryz.ntmps172
  go_wp2_with (first | (go_at_call 171; (first | (with_reducible refine (sSame_any _ _ p.s q.s _ (by first | exact HX.out _ _ | exact NX.out _ _ _) (by first | exact HX'.out _ _ | exact NX'.out _ _ _)).mono ?_) | (with_reducible refine (sSame_any _ _ p.b q.b _ (by first | exact HY.out _ _ | exact NY.out _ _ _) (by first | exact HY'.out _ _ | exact NY'.out _ _ _)).mono ?_) | (with_reducible refine (sSame_any _ _ p.c q.c _ (by first | exact HZ.out _ _ | exact NZ.out _ _ _) (by first | exact HZ'.out _ _ | exact NZ'.out _ _ _)).mono ?_)); rintro e w' ⟨nn, rfl, rfl⟩; (try simp only [World.drewN_drewN])))
  go_ret
  exact ⟨ret_bool (by simp [*]), by first | exact BB.out _ _ _ | exact B0.out _ _⟩

set_option maxRecDepth 100000 in
set_option maxHeartbeats 2000000 in
theorem sSameD_4 (u v : Value) (p q : Dt) (w : World) (hu : DatIn w u p) (hv : DatIn w v q) (h0 : p.s = q.s) (h1 : p.b = q.b) (h2 : p.c = q.c) (h3 : p.h = q.h) (h4 : ¬ p.n = q.n) :
    Calls Tryz.prog 172 #[u, v] w fun e w' => e = .returned (.bool false) ∧ Below w.heap.size w w' := by
  have HU := hu
  have HV := hv
  obtain ⟨x, y, z, rfl, hx, hy, hz, _⟩ := hu
  obtain ⟨x', y', z', rfl, hx', hy', hz', _⟩ := hv
  have BB : Hid (∀ (o o' : Obj) (n : Nat), Below w.heap.size w (((w.alloc o).alloc o').drewN n)) := Lib.hid fun o o' n => below_drewN (below_alloc (below_alloc (Below.refl _ _) _) _) n
  have B0 : Hid (∀ (o o' : Obj), Below w.heap.size w ((w.alloc o).alloc o')) := Lib.hid fun o o' => below_alloc (below_alloc (Below.refl _ _) _) _
  have HX : Hid (∀ o o' : Obj, Ints ((w.alloc o).alloc o') x p.s) := Lib.hid fun o o' => (ints_below hx (B0.out o o'))
  have NX : Hid (∀ o o' : Obj, ∀ m : Nat, Ints (((w.alloc o).alloc o').drewN m) x p.s) := Lib.hid fun o o' => (fun m => ints_draws (ints_below hx (B0.out o o')) m)
  have HY : Hid (∀ o o' : Obj, Ints ((w.alloc o).alloc o') y p.b) := Lib.hid fun o o' => (ints_below hy (B0.out o o'))
  have NY : Hid (∀ o o' : Obj, ∀ m : Nat, Ints (((w.alloc o).alloc o').drewN m) y p.b) := Lib.hid fun o o' => (fun m => ints_draws (ints_below hy (B0.out o o')) m)
  have HZ : Hid (∀ o o' : Obj, Ints ((w.alloc o).alloc o') z p.c) := Lib.hid fun o o' => (ints_below hz (B0.out o o'))
  have NZ : Hid (∀ o o' : Obj, ∀ m : Nat, Ints (((w.alloc o).alloc o').drewN m) z p.c) := Lib.hid fun o o' => (fun m => ints_draws (ints_below hz (B0.out o o')) m)
  have HX' : Hid (∀ o o' : Obj, Ints ((w.alloc o).alloc o') x' q.s) := Lib.hid fun o o' => (ints_below hx' (B0.out o o'))
  have NX' : Hid (∀ o o' : Obj, ∀ m : Nat, Ints (((w.alloc o).alloc o').drewN m) x' q.s) := Lib.hid fun o o' => (fun m => ints_draws (ints_below hx' (B0.out o o')) m)
  have HY' : Hid (∀ o o' : Obj, Ints ((w.alloc o).alloc o') y' q.b) := Lib.hid fun o o' => (ints_below hy' (B0.out o o'))
  have NY' : Hid (∀ o o' : Obj, ∀ m : Nat, Ints (((w.alloc o).alloc o').drewN m) y' q.b) := Lib.hid fun o o' => (fun m => ints_draws (ints_below hy' (B0.out o o')) m)
  have HZ' : Hid (∀ o o' : Obj, Ints ((w.alloc o).alloc o') z' q.c) := Lib.hid fun o o' => (ints_below hz' (B0.out o o'))
  have NZ' : Hid (∀ o o' : Obj, ∀ m : Nat, Ints (((w.alloc o).alloc o').drewN m) z' q.c) := Lib.hid fun o o' => (fun m => ints_draws (ints_below hz' (B0.out o o')) m)
  have t0 : (p.s == q.s) = true := by rw [beq_iff_eq]; exact h0
  have t1 : (p.b == q.b) = true := by rw [beq_iff_eq]; exact h1
  have t2 : (p.c == q.c) = true := by rw [beq_iff_eq]; exact h2
  have t3 : (p.h == q.h) = true := by rw [beq_iff_eq]; exact h3
  have t4 : (p.n == q.n) = false := by rw [beq_eq_false_iff_ne]; exact h4
  clear h0
  clear h1
  clear h2
  clear h3
  clear h4
  clear hx hy hz hx' hy' hz' HU HV
  go_enter Tryz.func172, Tryz.ntmps172
  go_wp2_with (first | (go_at_call 171; (first | (with_reducible refine (sSame_any _ _ p.s q.s _ (by first | exact HX.out _ _ | exact NX.out _ _ _) (by first | exact HX'.out _ _ | exact NX'.out _ _ _)).mono ?_) | (with_reducible refine (sSame_any _ _ p.b q.b _ (by first | exact HY.out _ _ | exact NY.out _ _ _) (by first | exact HY'.out _ _ | exact NY'.out _ _ _)).mono ?_) | (with_reducible refine (sSame_any _ _ p.c q.c _ (by first | exact HZ.out _ _ | exact NZ.out _ _ _) (by first | exact HZ'.out _ _ | exact NZ'.out _ _ _)).mono ?_)); rintro e w' ⟨nn, rfl, rfl⟩; (try simp only [World.drewN_drewN])))
  go_ret
  exact ⟨ret_bool (by simp [*]), by first | exact BB.out _ _ _ | exact B0.out _ _⟩

set_option maxRecDepth 100000 in
set_option maxHeartbeats 2000000 in
theorem sSameD_5 (u v : Value) (p q : Dt) (w : World) (hu : DatIn w u p) (hv : DatIn w v q) (h0 : p.s = q.s) (h1 : p.b = q.b) (h2 : p.c = q.c) (h3 : p.h = q.h) (h4 : p.n = q.n) (h5 : ¬ p.o.toList = q.o.toList) :
    Calls Tryz.prog 172 #[u, v] w fun e w' => e = .returned (.bool false) ∧ Below w.heap.size w w' := by
  have HU := hu
  have HV := hv
  obtain ⟨x, y, z, rfl, hx, hy, hz, _⟩ := hu
  obtain ⟨x', y', z', rfl, hx', hy', hz', _⟩ := hv
  have BB : Hid (∀ (o o' : Obj) (n : Nat), Below w.heap.size w (((w.alloc o).alloc o').drewN n)) := Lib.hid fun o o' n => below_drewN (below_alloc (below_alloc (Below.refl _ _) _) _) n
  have B0 : Hid (∀ (o o' : Obj), Below w.heap.size w ((w.alloc o).alloc o')) := Lib.hid fun o o' => below_alloc (below_alloc (Below.refl _ _) _) _
  have HX : Hid (∀ o o' : Obj, Ints ((w.alloc o).alloc o') x p.s) := Lib.hid fun o o' => (ints_below hx (B0.out o o'))
  have NX : Hid (∀ o o' : Obj, ∀ m : Nat, Ints (((w.alloc o).alloc o').drewN m) x p.s) := Lib.hid fun o o' => (fun m => ints_draws (ints_below hx (B0.out o o')) m)
  have HY : Hid (∀ o o' : Obj, Ints ((w.alloc o).alloc o') y p.b) := Lib.hid fun o o' => (ints_below hy (B0.out o o'))
  have NY : Hid (∀ o o' : Obj, ∀ m : Nat, Ints (((w.alloc o).alloc o').drewN m) y p.b) := Lib.hid fun o o' => (fun m => ints_draws (ints_below hy (B0.out o o')) m)
  have HZ : Hid (∀ o o' : Obj, Ints ((w.alloc o).alloc o') z p.c) := Lib.hid fun o o' => (ints_below hz (B0.out o o'))
  have NZ : Hid (∀ o o' : Obj, ∀ m : Nat, Ints (((w.alloc o).alloc o').drewN m) z p.c) := Lib.hid fun o o' => (fun m => ints_draws (ints_below hz (B0.out o o')) m)
  have HX' : Hid (∀ o o' : Obj, Ints ((w.alloc o).alloc o') x' q.s) := Lib.hid fun o o' => (ints_below hx' (B0.out o o'))
  have NX' : Hid (∀ o o' : Obj, ∀ m : Nat, Ints (((w.alloc o).alloc o').drewN m) x' q.s) := Lib.hid fun o o' => (fun m => ints_draws (ints_below hx' (B0.out o o')) m)
  have HY' : Hid (∀ o o' : Obj, Ints ((w.alloc o).alloc o') y' q.b) := Lib.hid fun o o' => (ints_below hy' (B0.out o o'))
  have NY' : Hid (∀ o o' : Obj, ∀ m : Nat, Ints (((w.alloc o).alloc o').drewN m) y' q.b) := Lib.hid fun o o' => (fun m => ints_draws (ints_below hy' (B0.out o o')) m)
  have HZ' : Hid (∀ o o' : Obj, Ints ((w.alloc o).alloc o') z' q.c) := Lib.hid fun o o' => (ints_below hz' (B0.out o o'))
  have NZ' : Hid (∀ o o' : Obj, ∀ m : Nat, Ints (((w.alloc o).alloc o').drewN m) z' q.c) := Lib.hid fun o o' => (fun m => ints_draws (ints_below hz' (B0.out o o')) m)
  have t0 : (p.s == q.s) = true := by rw [beq_iff_eq]; exact h0
  have t1 : (p.b == q.b) = true := by rw [beq_iff_eq]; exact h1
  have t2 : (p.c == q.c) = true := by rw [beq_iff_eq]; exact h2
  have t3 : (p.h == q.h) = true := by rw [beq_iff_eq]; exact h3
  have t4 : (p.n == q.n) = true := by rw [beq_iff_eq]; exact h4
  have t5 : (p.o.toList == q.o.toList) = false := by rw [beq_eq_false_iff_ne]; exact h5
  clear h0
  clear h1
  clear h2
  clear h3
  clear h4
  clear h5
  clear hx hy hz hx' hy' hz' HU HV
  go_enter Tryz.func172, Tryz.ntmps172
  go_wp2_with (first | (go_at_call 171; (first | (with_reducible refine (sSame_any _ _ p.s q.s _ (by first | exact HX.out _ _ | exact NX.out _ _ _) (by first | exact HX'.out _ _ | exact NX'.out _ _ _)).mono ?_) | (with_reducible refine (sSame_any _ _ p.b q.b _ (by first | exact HY.out _ _ | exact NY.out _ _ _) (by first | exact HY'.out _ _ | exact NY'.out _ _ _)).mono ?_) | (with_reducible refine (sSame_any _ _ p.c q.c _ (by first | exact HZ.out _ _ | exact NZ.out _ _ _) (by first | exact HZ'.out _ _ | exact NZ'.out _ _ _)).mono ?_)); rintro e w' ⟨nn, rfl, rfl⟩; (try simp only [World.drewN_drewN])))
  go_ret
  exact ⟨ret_bool (by simp [*]), by first | exact BB.out _ _ _ | exact B0.out _ _⟩

set_option maxRecDepth 100000 in
set_option maxHeartbeats 2000000 in
theorem sSameD_6 (u v : Value) (p q : Dt) (w : World) (hu : DatIn w u p) (hv : DatIn w v q) (h0 : p.s = q.s) (h1 : p.b = q.b) (h2 : p.c = q.c) (h3 : p.h = q.h) (h4 : p.n = q.n) (h5 : p.o.toList = q.o.toList) :
    Calls Tryz.prog 172 #[u, v] w fun e w' => e = .returned (.bool true) ∧ Below w.heap.size w w' := by
  have HU := hu
  have HV := hv
  obtain ⟨x, y, z, rfl, hx, hy, hz, _⟩ := hu
  obtain ⟨x', y', z', rfl, hx', hy', hz', _⟩ := hv
  have BB : Hid (∀ (o o' : Obj) (n : Nat), Below w.heap.size w (((w.alloc o).alloc o').drewN n)) := Lib.hid fun o o' n => below_drewN (below_alloc (below_alloc (Below.refl _ _) _) _) n
  have B0 : Hid (∀ (o o' : Obj), Below w.heap.size w ((w.alloc o).alloc o')) := Lib.hid fun o o' => below_alloc (below_alloc (Below.refl _ _) _) _
  have HX : Hid (∀ o o' : Obj, Ints ((w.alloc o).alloc o') x p.s) := Lib.hid fun o o' => (ints_below hx (B0.out o o'))
  have NX : Hid (∀ o o' : Obj, ∀ m : Nat, Ints (((w.alloc o).alloc o').drewN m) x p.s) := Lib.hid fun o o' => (fun m => ints_draws (ints_below hx (B0.out o o')) m)
  have HY : Hid (∀ o o' : Obj, Ints ((w.alloc o).alloc o') y p.b) := Lib.hid fun o o' => (ints_below hy (B0.out o o'))
  have NY : Hid (∀ o o' : Obj, ∀ m : Nat, Ints (((w.alloc o).alloc o').drewN m) y p.b) := Lib.hid fun o o' => (fun m => ints_draws (ints_below hy (B0.out o o')) m)
  have HZ : Hid (∀ o o' : Obj, Ints ((w.alloc o).alloc o') z p.c) := Lib.hid fun o o' => (ints_below hz (B0.out o o'))
  have NZ : Hid (∀ o o' : Obj, ∀ m : Nat, Ints (((w.alloc o).alloc o').drewN m) z p.c) := Lib.hid fun o o' => (fun m => ints_draws (ints_below hz (B0.out o o')) m)
  have HX' : Hid (∀ o o' : Obj, Ints ((w.alloc o).alloc o') x' q.s) := Lib.hid fun o o' => (ints_below hx' (B0.out o o'))
  have NX' : Hid (∀ o o' : Obj, ∀ m : Nat, Ints (((w.alloc o).alloc o').drewN m) x' q.s) := Lib.hid fun o o' => (fun m => ints_draws (ints_below hx' (B0.out o o')) m)
  have HY' : Hid (∀ o o' : Obj, Ints ((w.alloc o).alloc o') y' q.b) := Lib.hid fun o o' => (ints_below hy' (B0.out o o'))
  have NY' : Hid (∀ o o' : Obj, ∀ m : Nat, Ints (((w.alloc o).alloc o').drewN m) y' q.b) := Lib.hid fun o o' => (fun m => ints_draws (ints_below hy' (B0.out o o')) m)
  have HZ' : Hid (∀ o o' : Obj, Ints ((w.alloc o).alloc o') z' q.c) := Lib.hid fun o o' => (ints_below hz' (B0.out o o'))
  have NZ' : Hid (∀ o o' : Obj, ∀ m : Nat, Ints (((w.alloc o).alloc o').drewN m) z' q.c) := Lib.hid fun o o' => (fun m => ints_draws (ints_below hz' (B0.out o o')) m)
  have t0 : (p.s == q.s) = true := by rw [beq_iff_eq]; exact h0
  have t1 : (p.b == q.b) = true := by rw [beq_iff_eq]; exact h1
  have t2 : (p.c == q.c) = true := by rw [beq_iff_eq]; exact h2
  have t3 : (p.h == q.h) = true := by rw [beq_iff_eq]; exact h3
  have t4 : (p.n == q.n) = true := by rw [beq_iff_eq]; exact h4
  have t5 : (p.o.toList == q.o.toList) = true := by rw [beq_iff_eq]; exact h5
  clear h0
  clear h1
  clear h2
  clear h3
  clear h4
  clear h5
  clear hx hy hz hx' hy' hz' HU HV
  go_enter Tryz.func172, Tryz.ntmps172
  go_wp2_with (first | (go_at_call 171; (first | (with_reducible refine (sSame_any _ _ p.s q.s _ (by first | exact HX.out _ _ | exact NX.out _ _ _) (by first | exact HX'.out _ _ | exact NX'.out _ _ _)).mono ?_) | (with_reducible refine (sSame_any _ _ p.b q.b _ (by first | exact HY.out _ _ | exact NY.out _ _ _) (by first | exact HY'.out _ _ | exact NY'.out _ _ _)).mono ?_) | (with_reducible refine (sSame_any _ _ p.c q.c _ (by first | exact HZ.out _ _ | exact NZ.out _ _ _) (by first | exact HZ'.out _ _ | exact NZ'.out _ _ _)).mono ?_)); rintro e w' ⟨nn, rfl, rfl⟩; (try simp only [World.drewN_drewN])))
  go_ret
  exact ⟨ret_bool (by simp [*]), by first | exact BB.out _ _ _ | exact B0.out _ _⟩

theorem sSameD_any (u v : Value) (p q : Dt) (w : World) (hu : DatIn w u p) (hv : DatIn w v q) :
    Calls Tryz.prog 172 #[u, v] w fun e w' => e = .returned (.bool (sameD p q)) ∧ Below w.heap.size w w' := by
  by_cases h0 : p.s = q.s
  rotate_left
  · rw [sameD_not (fun h => h0 h.1)]; exact sSameD_0 u v p q w hu hv h0
  by_cases h1 : p.b = q.b
  rotate_left
  · rw [sameD_not (fun h => h1 h.2.1)]; exact sSameD_1 u v p q w hu hv h0 h1
  by_cases h2 : p.c = q.c
  rotate_left
  · rw [sameD_not (fun h => h2 h.2.2.1)]; exact sSameD_2 u v p q w hu hv h0 h1 h2
  by_cases h3 : p.h = q.h
  rotate_left
  · rw [sameD_not (fun h => h3 h.2.2.2.1)]; exact sSameD_3 u v p q w hu hv h0 h1 h2 h3
  by_cases h4 : p.n = q.n
  rotate_left
  · rw [sameD_not (fun h => h4 h.2.2.2.2.1)]; exact sSameD_4 u v p q w hu hv h0 h1 h2 h3 h4
  by_cases h5 : p.o.toList = q.o.toList
  rotate_left
  · rw [sameD_not (fun h => h5 h.2.2.2.2.2)]; exact sSameD_5 u v p q w hu hv h0 h1 h2 h3 h4 h5
  rw [sameD_of h0 h1 h2 h3 h4 h5]; exact sSameD_6 u v p q w hu hv h0 h1 h2 h3 h4 h5

set_option maxRecDepth 100000 in
set_option maxHeartbeats 2000000 in
theorem iSameV_a (u v : Value) (p q : Dt) (w : World) (hu : DatIn w u p) (hv : DatIn w v q) (hp : dOK p = false) :
    Calls Tryz.prog 21 #[u, v] w fun e w' => e = .returned (.bool false) ∧ Below w.heap.size w w' := by
  have HU := hu
  have HV := hv
  obtain ⟨A1, k1, A2, k2, A3, k3, rfl⟩ := datIn_form hu
  obtain ⟨C1, j1, C2, j2, C3, j3, rfl⟩ := datIn_form hv
  clear hu hv
  go_enter Tryz.func21, Tryz.ntmps21
  go_wp2_with fail
  refine (dataOK_any _ p _ (datIn_below HU (below_alloc (below_alloc (Below.refl _ _) _) _))).mono ?_
  rintro e w1 ⟨rfl, hb⟩
  have B1 : Below w.heap.size w w1 := below_step (below_alloc (below_alloc (Below.refl _ _) _) _) hb
  have Y1 := whole_b hb (whole_new1 w _ _ _)
  clear hb
  go_wp2
  go_ret
  exact ⟨rfl, B1⟩

set_option maxRecDepth 100000 in
set_option maxHeartbeats 2000000 in
theorem iSameV_b (u v : Value) (p q : Dt) (w : World) (hu : DatIn w u p) (hv : DatIn w v q) (hp : dOK p = true) (hq : dOK q = false) :
    Calls Tryz.prog 21 #[u, v] w fun e w' => e = .returned (.bool false) ∧ Below w.heap.size w w' := by
  have HU := hu
  have HV := hv
  obtain ⟨A1, k1, A2, k2, A3, k3, rfl⟩ := datIn_form hu
  obtain ⟨C1, j1, C2, j2, C3, j3, rfl⟩ := datIn_form hv
  clear hu hv
  go_enter Tryz.func21, Tryz.ntmps21
  go_wp2_with fail
  refine (dataOK_any _ p _ (datIn_below HU (below_alloc (below_alloc (Below.refl _ _) _) _))).mono ?_
  rintro e w1 ⟨rfl, hb⟩
  have B1 : Below w.heap.size w w1 := below_step (below_alloc (below_alloc (Below.refl _ _) _) _) hb
  have Y1 := whole_b hb (whole_new1 w _ _ _)
  clear hb
  obtain ⟨c0, c1, c2, c3, c4, c5⟩ := six_cells Y1
  go_wp2_with fail
  clear c0 c1 c2 c3 c4 c5
  refine (dataOK_any _ q _ (datIn_below HV B1)).mono ?_
  rintro e w2 ⟨rfl, hb⟩
  have B2 := below_step B1 hb
  clear hb
  go_wp2
  go_ret
  exact ⟨rfl, B2⟩

set_option maxRecDepth 100000 in
set_option maxHeartbeats 2000000 in
theorem iSameD_0 (u v : Value) (p q : Dt) (w : World) (hu : DatIn w u p) (hv : DatIn w v q) (hp : dOK p = true) (hq : dOK q = true) (h0 : ¬ p.s = q.s) :
    Calls Tryz.prog 21 #[u, v] w fun e w' => e = .returned (.bool false) ∧ Below w.heap.size w w' := by
  have HU := hu
  have HV := hv
  obtain ⟨A1, k1, A2, k2, A3, k3, rfl⟩ := datIn_form hu
  obtain ⟨C1, j1, C2, j2, C3, j3, rfl⟩ := datIn_form hv
  clear hu hv
  have t0 : (p.s == q.s) = false := by rw [beq_eq_false_iff_ne]; exact h0
  clear h0
  go_enter Tryz.func21, Tryz.ntmps21
  go_wp2_with fail
  refine (dataOK_any _ p _ (datIn_below HU (below_alloc (below_alloc (Below.refl _ _) _) _))).mono ?_
  rintro e w1 ⟨rfl, hb⟩
  have B1 : Below w.heap.size w w1 := below_step (below_alloc (below_alloc (Below.refl _ _) _) _) hb
  have V1 := whole_b hb (whole_alloc (whole_new w _ _) _)
  have Y1 := whole_b hb (whole_new1 w _ _ _)
  clear hb
  obtain ⟨c0, c1, c2, c3, c4, c5⟩ := six_cells Y1
  go_wp2_with fail
  clear c0 c1 c2 c3 c4 c5
  refine (dataOK_any _ q _ (datIn_below HV B1)).mono ?_
  rintro e w2 ⟨rfl, hb⟩
  have B2 := below_step B1 hb
  have V2 := whole_b hb V1
  have Y2 := whole_b hb Y1
  clear hb V1 Y1 B1
  have BB : Hid (∀ n, Below w.heap.size w (w2.drewN n)) := Lib.hid fun n => below_drewN B2 n
  obtain ⟨x, y, z, he, hx, hy, hz, _⟩ := datIn_below HU B2
  simp only [Value.agg.injEq, Array.mk.injEq, List.cons.injEq, and_true, true_and] at he
  obtain ⟨rfl, rfl, rfl⟩ := he
  obtain ⟨x', y', z', he, hx', hy', hz', _⟩ := datIn_below HV B2
  simp only [Value.agg.injEq, Array.mk.injEq, List.cons.injEq, and_true, true_and] at he
  obtain ⟨rfl, rfl, rfl⟩ := he
  have HX := Lib.hid hx
  have NX : Hid (∀ m : Nat, Ints (w2.drewN m) _ p.s) := Lib.hid fun m => ints_draws hx m
  have HY := Lib.hid hy
  have NY : Hid (∀ m : Nat, Ints (w2.drewN m) _ p.b) := Lib.hid fun m => ints_draws hy m
  have HZ := Lib.hid hz
  have NZ : Hid (∀ m : Nat, Ints (w2.drewN m) _ p.c) := Lib.hid fun m => ints_draws hz m
  have HX' := Lib.hid hx'
  have NX' : Hid (∀ m : Nat, Ints (w2.drewN m) _ q.s) := Lib.hid fun m => ints_draws hx' m
  have HY' := Lib.hid hy'
  have NY' : Hid (∀ m : Nat, Ints (w2.drewN m) _ q.b) := Lib.hid fun m => ints_draws hy' m
  have HZ' := Lib.hid hz'
  have NZ' : Hid (∀ m : Nat, Ints (w2.drewN m) _ q.c) := Lib.hid fun m => ints_draws hz' m
  clear hx hy hz hx' hy' hz'
  obtain ⟨c0, c1, c2, c3, c4, c5⟩ := six_cells Y2
  obtain ⟨d0, d1, d2, d3, d4, d5⟩ := six_cells V2
  go_wp2_with (first | (go_at_call 67; (first | (with_reducible refine (slEqual_any _ _ p.s q.s _ (by first | exact HX.out | exact NX.out _) (by first | exact HX'.out | exact NX'.out _)).mono ?_) | (with_reducible refine (slEqual_any _ _ p.b q.b _ (by first | exact HY.out | exact NY.out _) (by first | exact HY'.out | exact NY'.out _)).mono ?_) | (with_reducible refine (slEqual_any _ _ p.c q.c _ (by first | exact HZ.out | exact NZ.out _) (by first | exact HZ'.out | exact NZ'.out _)).mono ?_)); rintro e w' ⟨nn, rfl, rfl⟩; (try simp only [World.drewN_drewN])))
  go_ret
  exact ⟨ret_bool (by simp [*]), by first | exact BB.out _ | exact B2⟩

set_option maxRecDepth 100000 in
set_option maxHeartbeats 2000000 in
theorem iSameD_1 (u v : Value) (p q : Dt) (w : World) (hu : DatIn w u p) (hv : DatIn w v q) (hp : dOK p = true) (hq : dOK q = true) (h0 : p.s = q.s) (h1 : ¬ p.b = q.b) :
    Calls Tryz.prog 21 #[u, v] w fun e w' => e = .returned (.bool false) ∧ Below w.heap.size w w' := by
  have HU := hu
  have HV := hv
  obtain ⟨A1, k1, A2, k2, A3, k3, rfl⟩ := datIn_form hu
  obtain ⟨C1, j1, C2, j2, C3, j3, rfl⟩ := datIn_form hv
  clear hu hv
  have t0 : (p.s == q.s) = true := by rw [beq_iff_eq]; exact h0
  have t1 : (p.b == q.b) = false := by rw [beq_eq_false_iff_ne]; exact h1
  clear h0
  clear h1
  go_enter Tryz.func21, Tryz.ntmps21
  go_wp2_with fail
  refine (dataOK_any _ p _ (datIn_below HU (below_alloc (below_alloc (Below.refl _ _) _) _))).mono ?_
  rintro e w1 ⟨rfl, hb⟩
  have B1 : Below w.heap.size w w1 := below_step (below_alloc (below_alloc (Below.refl _ _) _) _) hb
  have V1 := whole_b hb (whole_alloc (whole_new w _ _) _)
  have Y1 := whole_b hb (whole_new1 w _ _ _)
  clear hb
  obtain ⟨c0, c1, c2, c3, c4, c5⟩ := six_cells Y1
  go_wp2_with fail
  clear c0 c1 c2 c3 c4 c5
  refine (dataOK_any _ q _ (datIn_below HV B1)).mono ?_
  rintro e w2 ⟨rfl, hb⟩
  have B2 := below_step B1 hb
  have V2 := whole_b hb V1
  have Y2 := whole_b hb Y1
  clear hb V1 Y1 B1
  have BB : Hid (∀ n, Below w.heap.size w (w2.drewN n)) := Lib.hid fun n => below_drewN B2 n
  obtain ⟨x, y, z, he, hx, hy, hz, _⟩ := datIn_below HU B2
  simp only [Value.agg.injEq, Array.mk.injEq, List.cons.injEq, and_true, true_and] at he
  obtain ⟨rfl, rfl, rfl⟩ := he
  obtain ⟨x', y', z', he, hx', hy', hz', _⟩ := datIn_below HV B2
  simp only [Value.agg.injEq, Array.mk.injEq, List.cons.injEq, and_true, true_and] at he
  obtain ⟨rfl, rfl, rfl⟩ := he
  have HX := Lib.hid hx
  have NX : Hid (∀ m : Nat, Ints (w2.drewN m) _ p.s) := Lib.hid fun m => ints_draws hx m
  have HY := Lib.hid hy
  have NY : Hid (∀ m : Nat, Ints (w2.drewN m) _ p.b) := Lib.hid fun m => ints_draws hy m
  have HZ := Lib.hid hz
  have NZ : Hid (∀ m : Nat, Ints (w2.drewN m) _ p.c) := Lib.hid fun m => ints_draws hz m
  have HX' := Lib.hid hx'
  have NX' : Hid (∀ m : Nat, Ints (w2.drewN m) _ q.s) := Lib.hid fun m => ints_draws hx' m
  have HY' := Lib.hid hy'
  have NY' : Hid (∀ m : Nat, Ints (w2.drewN m) _ q.b) := Lib.hid fun m => ints_draws hy' m
  have HZ' := Lib.hid hz'
  have NZ' : Hid (∀ m : Nat, Ints (w2.drewN m) _ q.c) := Lib.hid fun m => ints_draws hz' m
  clear hx hy hz hx' hy' hz'
  obtain ⟨c0, c1, c2, c3, c4, c5⟩ := six_cells Y2
  obtain ⟨d0, d1, d2, d3, d4, d5⟩ := six_cells V2
  go_wp2_with (first | (go_at_call 67; (first | (with_reducible refine (slEqual_any _ _ p.s q.s _ (by first | exact HX.out | exact NX.out _) (by first | exact HX'.out | exact NX'.out _)).mono ?_) | (with_reducible refine (slEqual_any _ _ p.b q.b _ (by first | exact HY.out | exact NY.out _) (by first | exact HY'.out | exact NY'.out _)).mono ?_) | (with_reducible refine (slEqual_any _ _ p.c q.c _ (by first | exact HZ.out | exact NZ.out _) (by first | exact HZ'.out | exact NZ'.out _)).mono ?_)); rintro e w' ⟨nn, rfl, rfl⟩; (try simp only [World.drewN_drewN])))
  go_ret
  exact ⟨ret_bool (by simp [*]), by first | exact BB.out _ | exact B2⟩

set_option maxRecDepth 100000 in
set_option maxHeartbeats 2000000 in
theorem iSameD_2 (u v : Value) (p q : Dt) (w : World) (hu : DatIn w u p) (hv : DatIn w v q) (hp : dOK p = true) (hq : dOK q = true) (h0 : p.s = q.s) (h1 : p.b = q.b) (h2 : ¬ p.c = q.c) :
    Calls Tryz.prog 21 #[u, v] w fun e w' => e = .returned (.bool false) ∧ Below w.heap.size w w' := by
  have HU := hu
  have HV := hv
  obtain ⟨A1, k1, A2, k2, A3, k3, rfl⟩ := datIn_form hu
  obtain ⟨C1, j1, C2, j2, C3, j3, rfl⟩ := datIn_form hv
  clear hu hv
  have t0 : (p.s == q.s) = true := by rw [beq_iff_eq]; exact h0
  have t1 : (p.b == q.b) = true := by rw [beq_iff_eq]; exact h1
  have t2 : (p.c == q.c) = false := by rw [beq_eq_false_iff_ne]; exact h2
  clear h0
  clear h1
  clear h2
  go_enter Tryz.func21, Tryz.ntmps21
  go_wp2_with fail
  refine (dataOK_any _ p _ (datIn_below HU (below_alloc (below_alloc (Below.refl _ _) _) _))).mono ?_
  rintro e w1 ⟨rfl, hb⟩
  have B1 : Below w.heap.size w w1 := below_step (below_alloc (below_alloc (Below.refl _ _) _) _) hb
  have V1 := whole_b hb (whole_alloc (whole_new w _ _) _)
  have Y1 := whole_b hb (whole_new1 w _ _ _)
  clear hb
  obtain ⟨c0, c1, c2, c3, c4, c5⟩ := six_cells Y1
  go_wp2_with fail
  clear c0 c1 c2 c3 c4 c5
  refine (dataOK_any _ q _ (datIn_below HV B1)).mono ?_
  rintro e w2 ⟨rfl, hb⟩
  have B2 := below_step B1 hb
  have V2 := whole_b hb V1
  have Y2 := whole_b hb Y1
  clear hb V1 Y1 B1
  have BB : Hid (∀ n, Below w.heap.size w (w2.drewN n)) := Lib.hid fun n => below_drewN B2 n
  obtain ⟨x, y, z, he, hx, hy, hz, _⟩ := datIn_below HU B2
  simp only [Value.agg.injEq, Array.mk.injEq, List.cons.injEq, and_true, true_and] at he
  obtain ⟨rfl, rfl, rfl⟩ := he
  obtain ⟨x', y', z', he, hx', hy', hz', _⟩ := datIn_below HV B2
  simp only [Value.agg.injEq, Array.mk.injEq, List.cons.injEq, and_true, true_and] at he
  obtain ⟨rfl, rfl, rfl⟩ := he
  have HX := Lib.hid hx
  have NX : Hid (∀ m : Nat, Ints (w2.drewN m) _ p.s) := Lib.hid fun m => ints_draws hx m
  have HY := Lib.hid hy
  have NY : Hid (∀ m : Nat, Ints (w2.drewN m) _ p.b) := Lib.hid fun m => ints_draws hy m
  have HZ := Lib.hid hz
  have NZ : Hid (∀ m : Nat, Ints (w2.drewN m) _ p.c) := Lib.hid fun m => ints_draws hz m
  have HX' := Lib.hid hx'
  have NX' : Hid (∀ m : Nat, Ints (w2.drewN m) _ q.s) := Lib.hid fun m => ints_draws hx' m
  have HY' := Lib.hid hy'
  have NY' : Hid (∀ m : Nat, Ints (w2.drewN m) _ q.b) := Lib.hid fun m => ints_draws hy' m
  have HZ' := Lib.hid hz'
  have NZ' : Hid (∀ m : Nat, Ints (w2.drewN m) _ q.c) := Lib.hid fun m => ints_draws hz' m
  clear hx hy hz hx' hy' hz'
  obtain ⟨c0, c1, c2, c3, c4, c5⟩ := six_cells Y2
  obtain ⟨d0, d1, d2, d3, d4, d5⟩ := six_cells V2
  go_wp2_with (first | (go_at_call 67; (first | (with_reducible refine (slEqual_any _ _ p.s q.s _ (by first | exact HX.out | exact NX.out _) (by first | exact HX'.out | exact NX'.out _)).mono ?_) | (with_reducible refine (slEqual_any _ _ p.b q.b _ (by first | exact HY.out | exact NY.out _) (by first | exact HY'.out | exact NY'.out _)).mono ?_) | (with_reducible refine (slEqual_any _ _ p.c q.c _ (by first | exact HZ.out | exact NZ.out _) (by first | exact HZ'.out | exact NZ'.out _)).mono ?_)); rintro e w' ⟨nn, rfl, rfl⟩; (try simp only [World.drewN_drewN])))
  go_ret
  exact ⟨ret_bool (by simp [*]), by first | exact BB.out _ | exact B2⟩

set_option maxRecDepth 100000 in
set_option maxHeartbeats 2000000 in
theorem iSameD_3 (u v : Value) (p q : Dt) (w : World) (hu : DatIn w u p) (hv : DatIn w v q) (hp : dOK p = true) (hq : dOK q = true) (h0 : p.s = q.s) (h1 : p.b = q.b) (h2 : p.c = q.c) (h3 : ¬ p.h = q.h) :
    Calls Tryz.prog 21 #[u, v] w fun e w' => e = .returned (.bool false) ∧ Below w.heap.size w w' := by
  have HU := hu
  have HV := hv
  obtain ⟨A1, k1, A2, k2, A3, k3, rfl⟩ := datIn_form hu
  obtain ⟨C1, j1, C2, j2, C3, j3, rfl⟩ := datIn_form hv
  clear hu hv
  have t0 : (p.s == q.s) = true := by rw [beq_iff_eq]; exact h0
  have t1 : (p.b == q.b) = true := by rw [beq_iff_eq]; exact h1
  have t2 : (p.c == q.c) = true := by rw [beq_iff_eq]; exact h2
  have t3 : (p.h == q.h) = false := by rw [beq_eq_false_iff_ne]; exact h3
  clear h0
  clear h1
  clear h2
  clear h3
  go_enter Tryz.func21, Tryz.ntmps21
  go_wp2_with fail
  refine (dataOK_any _ p _ (datIn_below HU (below_alloc (below_alloc (Below.refl _ _) _) _))).mono ?_
  rintro e w1 ⟨rfl, hb⟩
  have B1 : Below w.heap.size w w1 := below_step (below_alloc (below_alloc (Below.refl _ _) _) _) hb
  have V1 := whole_b hb (whole_alloc (whole_new w _ _) _)
  have Y1 := whole_b hb (whole_new1 w _ _ _)
  clear hb
  obtain ⟨c0, c1, c2, c3, c4, c5⟩ := six_cells Y1
  go_wp2_with fail
  clear c0 c1 c2 c3 c4 c5
  refine (dataOK_any _ q _ (datIn_below HV B1)).mono ?_
  rintro e w2 ⟨rfl, hb⟩
  have B2 := below_step B1 hb
  have V2 := whole_b hb V1
  have Y2 := whole_b hb Y1
  clear hb V1 Y1 B1
  have BB : Hid (∀ n, Below w.heap.size w (w2.drewN n)) := Lib.hid fun n => below_drewN B2 n
  obtain ⟨x, y, z, he, hx, hy, hz, _⟩ := datIn_below HU B2
  simp only [Value.agg.injEq, Array.mk.injEq, List.cons.injEq, and_true, true_and] at he
  obtain ⟨rfl, rfl, rfl⟩ := he
  obtain ⟨x', y', z', he, hx', hy', hz', _⟩ := datIn_below HV B2
  simp only [Value.agg.injEq, Array.mk.injEq, List.cons.injEq, and_true, true_and] at he
  obtain ⟨rfl, rfl, rfl⟩ := he
  have HX := Lib.hid hx
  have NX : Hid (∀ m : Nat, Ints (w2.drewN m) _ p.s) := Lib.hid fun m => ints_draws hx m
  have HY := Lib.hid hy
  have NY : Hid (∀ m : Nat, Ints (w2.drewN m) _ p.b) := Lib.hid fun m => ints_draws hy m
  have HZ := Lib.hid hz
  have NZ : Hid (∀ m : Nat, Ints (w2.drewN m) _ p.c) := Lib.hid fun m => ints_draws hz m
  have HX' := Lib.hid hx'
  have NX' : Hid (∀ m : Nat, Ints (w2.drewN m) _ q.s) := Lib.hid fun m => ints_draws hx' m
  have HY' := Lib.hid hy'
  have NY' : Hid (∀ m : Nat, Ints (w2.drewN m) _ q.b) := Lib.hid fun m => ints_draws hy' m
  have HZ' := Lib.hid hz'
  have NZ' : Hid (∀ m : Nat, Ints (w2.drewN m) _ q.c) := Lib.hid fun m => ints_draws hz' m
  clear hx hy hz hx' hy' hz'
  obtain ⟨c0, c1, c2, c3, c4, c5⟩ := six_cells Y2
  obtain ⟨d0, d1, d2, d3, d4, d5⟩ := six_cells V2
  go_wp2_with (first | (go_at_call 67; (first | (with_reducible refine (slEqual_any _ _ p.s q.s _ (by first | exact HX.out | exact NX.out _) (by first | exact HX'.out | exact NX'.out _)).mono ?_) | (with_reducible refine (slEqual_any _ _ p.b q.b _ (by first | exact HY.out | exact NY.out _) (by first | exact HY'.out | exact NY'.out _)).mono ?_) | (with_reducible refine (slEqual_any _ _ p.c q.c _ (by first | exact HZ.out | exact NZ.out _) (by first | exact HZ'.out | exact NZ'.out _)).mono ?_)); rintro e w' ⟨nn, rfl, rfl⟩; (try simp only [World.drewN_drewN])))
  go_ret
  exact ⟨ret_bool (by simp [*]), by first | exact BB.out _ | exact B2⟩

set_option maxRecDepth 100000 in
set_option maxHeartbeats 2000000 in
theorem iSameD_4 (u v : Value) (p q : Dt) (w : World) (hu : DatIn w u p) (hv : DatIn w v q) (hp : dOK p = true) (hq : dOK q = true) (h0 : p.s = q.s) (h1 : p.b = q.b) (h2 : p.c = q.c) (h3 : p.h = q.h) (h4 : ¬ p.n = q.n) :
    Calls Tryz.prog 21 #[u, v] w fun e w' => e = .returned (.bool false) ∧ Below w.heap.size w w' := by
  have HU := hu
  have HV := hv
  obtain ⟨A1, k1, A2, k2, A3, k3, rfl⟩ := datIn_form hu
  obtain ⟨C1, j1, C2, j2, C3, j3, rfl⟩ := datIn_form hv
  clear hu hv
  have t0 : (p.s == q.s) = true := by rw [beq_iff_eq]; exact h0
  have t1 : (p.b == q.b) = true := by rw [beq_iff_eq]; exact h1
  have t2 : (p.c == q.c) = true := by rw [beq_iff_eq]; exact h2
  have t3 : (p.h == q.h) = true := by rw [beq_iff_eq]; exact h3
  have t4 : (p.n == q.n) = false := by rw [beq_eq_false_iff_ne]; exact h4
  clear h0
  clear h1
  clear h2
  clear h3
  clear h4
  go_enter Tryz.func21, Tryz.ntmps21
  go_wp2_with fail
  refine (dataOK_any _ p _ (datIn_below HU (below_alloc (below_alloc (Below.refl _ _) _) _))).mono ?_
  rintro e w1 ⟨rfl, hb⟩
  have B1 : Below w.heap.size w w1 := below_step (below_alloc (below_alloc (Below.refl _ _) _) _) hb
  have V1 := whole_b hb (whole_alloc (whole_new w _ _) _)
  have Y1 := whole_b hb (whole_new1 w _ _ _)
  clear hb
  obtain ⟨c0, c1, c2, c3, c4, c5⟩ := six_cells Y1
  go_wp2_with fail
  clear c0 c1 c2 c3 c4 c5
  refine (dataOK_any _ q _ (datIn_below HV B1)).mono ?_
  rintro e w2 ⟨rfl, hb⟩
  have B2 := below_step B1 hb
  have V2 := whole_b hb V1
  have Y2 := whole_b hb Y1
  clear hb V1 Y1 B1
  have BB : Hid (∀ n, Below w.heap.size w (w2.drewN n)) := Lib.hid fun n => below_drewN B2 n
  obtain ⟨x, y, z, he, hx, hy, hz, _⟩ := datIn_below HU B2
  simp only [Value.agg.injEq, Array.mk.injEq, List.cons.injEq, and_true, true_and] at he
  obtain ⟨rfl, rfl, rfl⟩ := he
  obtain ⟨x', y', z', he, hx', hy', hz', _⟩ := datIn_below HV B2
  simp only [Value.agg.injEq, Array.mk.injEq, List.cons.injEq, and_true, true_and] at he
  obtain ⟨rfl, rfl, rfl⟩ := he
  have HX := Lib.hid hx
  have NX : Hid (∀ m : Nat, Ints (w2.drewN m) _ p.s) := Lib.hid fun m => ints_draws hx m
  have HY := Lib.hid hy
  have NY : Hid (∀ m : Nat, Ints (w2.drewN m) _ p.b) := Lib.hid fun m => ints_draws hy m
  have HZ := Lib.hid hz
  have NZ : Hid (∀ m : Nat, Ints (w2.drewN m) _ p.c) := Lib.hid fun m => ints_draws hz m
  have HX' := Lib.hid hx'
  have NX' : Hid (∀ m : Nat, Ints (w2.drewN m) _ q.s) := Lib.hid fun m => ints_draws hx' m
  have HY' := Lib.hid hy'
  have NY' : Hid (∀ m : Nat, Ints (w2.drewN m) _ q.b) := Lib.hid fun m => ints_draws hy' m
  have HZ' := Lib.hid hz'
  have NZ' : Hid (∀ m : Nat, Ints (w2.drewN m) _ q.c) := Lib.hid fun m => ints_draws hz' m
  clear hx hy hz hx' hy' hz'
  obtain ⟨c0, c1, c2, c3, c4, c5⟩ := six_cells Y2
  obtain ⟨d0, d1, d2, d3, d4, d5⟩ := six_cells V2
  go_wp2_with (first | (go_at_call 67; (first | (with_reducible refine (slEqual_any _ _ p.s q.s _ (by first | exact HX.out | exact NX.out _) (by first | exact HX'.out | exact NX'.out _)).mono ?_) | (with_reducible refine (slEqual_any _ _ p.b q.b _ (by first | exact HY.out | exact NY.out _) (by first | exact HY'.out | exact NY'.out _)).mono ?_) | (with_reducible refine (slEqual_any _ _ p.c q.c _ (by first | exact HZ.out | exact NZ.out _) (by first | exact HZ'.out | exact NZ'.out _)).mono ?_)); rintro e w' ⟨nn, rfl, rfl⟩; (try simp only [World.drewN_drewN])))
  go_ret
  exact ⟨ret_bool (by simp [*]), by first | exact BB.out _ | exact B2⟩

set_option maxRecDepth 100000 in
set_option maxHeartbeats 2000000 in
theorem iSameD_5 (u v : Value) (p q : Dt) (w : World) (hu : DatIn w u p) (hv : DatIn w v q) (hp : dOK p = true) (hq : dOK q = true) (h0 : p.s = q.s) (h1 : p.b = q.b) (h2 : p.c = q.c) (h3 : p.h = q.h) (h4 : p.n = q.n) (h5 : ¬ p.o.toList = q.o.toList) :
    Calls Tryz.prog 21 #[u, v] w fun e w' => e = .returned (.bool false) ∧ Below w.heap.size w w' := by
  have HU := hu
  have HV := hv
  obtain ⟨A1, k1, A2, k2, A3, k3, rfl⟩ := datIn_form hu
  obtain ⟨C1, j1, C2, j2, C3, j3, rfl⟩ := datIn_form hv
  clear hu hv
  have t0 : (p.s == q.s) = true := by rw [beq_iff_eq]; exact h0
  have t1 : (p.b == q.b) = true := by rw [beq_iff_eq]; exact h1
  have t2 : (p.c == q.c) = true := by rw [beq_iff_eq]; exact h2
  have t3 : (p.h == q.h) = true := by rw [beq_iff_eq]; exact h3
  have t4 : (p.n == q.n) = true := by rw [beq_iff_eq]; exact h4
  have t5 : (p.o.toList == q.o.toList) = false := by rw [beq_eq_false_iff_ne]; exact h5
  clear h0
  clear h1
  clear h2
  clear h3
  clear h4
  clear h5
  go_enter Tryz.func21, Tryz.ntmps21
  go_wp2_with fail
  refine (dataOK_any _ p _ (datIn_below HU (below_alloc (below_alloc (Below.refl _ _) _) _))).mono ?_
  rintro e w1 ⟨rfl, hb⟩
  have B1 : Below w.heap.size w w1 := below_step (below_alloc (below_alloc (Below.refl _ _) _) _) hb
  have V1 := whole_b hb (whole_alloc (whole_new w _ _) _)
  have Y1 := whole_b hb (whole_new1 w _ _ _)
  clear hb
  obtain ⟨c0, c1, c2, c3, c4, c5⟩ := six_cells Y1
  go_wp2_with fail
  clear c0 c1 c2 c3 c4 c5
  refine (dataOK_any _ q _ (datIn_below HV B1)).mono ?_
  rintro e w2 ⟨rfl, hb⟩
  have B2 := below_step B1 hb
  have V2 := whole_b hb V1
  have Y2 := whole_b hb Y1
  clear hb V1 Y1 B1
  have BB : Hid (∀ n, Below w.heap.size w (w2.drewN n)) := Lib.hid fun n => below_drewN B2 n
  obtain ⟨x, y, z, he, hx, hy, hz, _⟩ := datIn_below HU B2
  simp only [Value.agg.injEq, Array.mk.injEq, List.cons.injEq, and_true, true_and] at he
  obtain ⟨rfl, rfl, rfl⟩ := he
  obtain ⟨x', y', z', he, hx', hy', hz', _⟩ := datIn_below HV B2
  simp only [Value.agg.injEq, Array.mk.injEq, List.cons.injEq, and_true, true_and] at he
  obtain ⟨rfl, rfl, rfl⟩ := he
  have HX := Lib.hid hx
  have NX : Hid (∀ m : Nat, Ints (w2.drewN m) _ p.s) := Lib.hid fun m => ints_draws hx m
  have HY := Lib.hid hy
  have NY : Hid (∀ m : Nat, Ints (w2.drewN m) _ p.b) := Lib.hid fun m => ints_draws hy m
  have HZ := Lib.hid hz
  have NZ : Hid (∀ m : Nat, Ints (w2.drewN m) _ p.c) := Lib.hid fun m => ints_draws hz m
  have HX' := Lib.hid hx'
  have NX' : Hid (∀ m : Nat, Ints (w2.drewN m) _ q.s) := Lib.hid fun m => ints_draws hx' m
  have HY' := Lib.hid hy'
  have NY' : Hid (∀ m : Nat, Ints (w2.drewN m) _ q.b) := Lib.hid fun m => ints_draws hy' m
  have HZ' := Lib.hid hz'
  have NZ' : Hid (∀ m : Nat, Ints (w2.drewN m) _ q.c) := Lib.hid fun m => ints_draws hz' m
  clear hx hy hz hx' hy' hz'
  obtain ⟨c0, c1, c2, c3, c4, c5⟩ := six_cells Y2
  obtain ⟨d0, d1, d2, d3, d4, d5⟩ := six_cells V2
  go_wp2_with (first | (go_at_call 67; (first | (with_reducible refine (slEqual_any _ _ p.s q.s _ (by first | exact HX.out | exact NX.out _) (by first | exact HX'.out | exact NX'.out _)).mono ?_) | (with_reducible refine (slEqual_any _ _ p.b q.b _ (by first | exact HY.out | exact NY.out _) (by first | exact HY'.out | exact NY'.out _)).mono ?_) | (with_reducible refine (slEqual_any _ _ p.c q.c _ (by first | exact HZ.out | exact NZ.out _) (by first | exact HZ'.out | exact NZ'.out _)).mono ?_)); rintro e w' ⟨nn, rfl, rfl⟩; (try simp only [World.drewN_drewN])))
  go_ret
  exact ⟨ret_bool (by simp [*]), by first | exact BB.out _ | exact B2⟩

set_option maxRecDepth 100000 in
set_option maxHeartbeats 2000000 in
theorem iSameD_6 (u v : Value) (p q : Dt) (w : World) (hu : DatIn w u p) (hv : DatIn w v q) (hp : dOK p = true) (hq : dOK q = true) (h0 : p.s = q.s) (h1 : p.b = q.b) (h2 : p.c = q.c) (h3 : p.h = q.h) (h4 : p.n = q.n) (h5 : p.o.toList = q.o.toList) :
    Calls Tryz.prog 21 #[u, v] w fun e w' => e = .returned (.bool true) ∧ Below w.heap.size w w' := by
  have HU := hu
  have HV := hv
  obtain ⟨A1, k1, A2, k2, A3, k3, rfl⟩ := datIn_form hu
  obtain ⟨C1, j1, C2, j2, C3, j3, rfl⟩ := datIn_form hv
  clear hu hv
  have t0 : (p.s == q.s) = true := by rw [beq_iff_eq]; exact h0
  have t1 : (p.b == q.b) = true := by rw [beq_iff_eq]; exact h1
  have t2 : (p.c == q.c) = true := by rw [beq_iff_eq]; exact h2
  have t3 : (p.h == q.h) = true := by rw [beq_iff_eq]; exact h3
  have t4 : (p.n == q.n) = true := by rw [beq_iff_eq]; exact h4
  have t5 : (p.o.toList == q.o.toList) = true := by rw [beq_iff_eq]; exact h5
  clear h0
  clear h1
  clear h2
  clear h3
  clear h4
  clear h5
  go_enter Tryz.func21, Tryz.ntmps21
  go_wp2_with fail
  refine (dataOK_any _ p _ (datIn_below HU (below_alloc (below_alloc (Below.refl _ _) _) _))).mono ?_
  rintro e w1 ⟨rfl, hb⟩
  have B1 : Below w.heap.size w w1 := below_step (below_alloc (below_alloc (Below.refl _ _) _) _) hb
  have V1 := whole_b hb (whole_alloc (whole_new w _ _) _)
  have Y1 := whole_b hb (whole_new1 w _ _ _)
  clear hb
  obtain ⟨c0, c1, c2, c3, c4, c5⟩ := six_cells Y1
  go_wp2_with fail
  clear c0 c1 c2 c3 c4 c5
  refine (dataOK_any _ q _ (datIn_below HV B1)).mono ?_
  rintro e w2 ⟨rfl, hb⟩
  have B2 := below_step B1 hb
  have V2 := whole_b hb V1
  have Y2 := whole_b hb Y1
  clear hb V1 Y1 B1
  have BB : Hid (∀ n, Below w.heap.size w (w2.drewN n)) := Lib.hid fun n => below_drewN B2 n
  obtain ⟨x, y, z, he, hx, hy, hz, _⟩ := datIn_below HU B2
  simp only [Value.agg.injEq, Array.mk.injEq, List.cons.injEq, and_true, true_and] at he
  obtain ⟨rfl, rfl, rfl⟩ := he
  obtain ⟨x', y', z', he, hx', hy', hz', _⟩ := datIn_below HV B2
  simp only [Value.agg.injEq, Array.mk.injEq, List.cons.injEq, and_true, true_and] at he
  obtain ⟨rfl, rfl, rfl⟩ := he
  have HX := Lib.hid hx
  have NX : Hid (∀ m : Nat, Ints (w2.drewN m) _ p.s) := Lib.hid fun m => ints_draws hx m
  have HY := Lib.hid hy
  have NY : Hid (∀ m : Nat, Ints (w2.drewN m) _ p.b) := Lib.hid fun m => ints_draws hy m
  have HZ := Lib.hid hz
  have NZ : Hid (∀ m : Nat, Ints (w2.drewN m) _ p.c) := Lib.hid fun m => ints_draws hz m
  have HX' := Lib.hid hx'
  have NX' : Hid (∀ m : Nat, Ints (w2.drewN m) _ q.s) := Lib.hid fun m => ints_draws hx' m
  have HY' := Lib.hid hy'
  have NY' : Hid (∀ m : Nat, Ints (w2.drewN m) _ q.b) := Lib.hid fun m => ints_draws hy' m
  have HZ' := Lib.hid hz'
  have NZ' : Hid (∀ m : Nat, Ints (w2.drewN m) _ q.c) := Lib.hid fun m => ints_draws hz' m
  clear hx hy hz hx' hy' hz'
  obtain ⟨c0, c1, c2, c3, c4, c5⟩ := six_cells Y2
  obtain ⟨d0, d1, d2, d3, d4, d5⟩ := six_cells V2
  go_wp2_with (first | (go_at_call 67; (first | (with_reducible refine (slEqual_any _ _ p.s q.s _ (by first | exact HX.out | exact NX.out _) (by first | exact HX'.out | exact NX'.out _)).mono ?_) | (with_reducible refine (slEqual_any _ _ p.b q.b _ (by first | exact HY.out | exact NY.out _) (by first | exact HY'.out | exact NY'.out _)).mono ?_) | (with_reducible refine (slEqual_any _ _ p.c q.c _ (by first | exact HZ.out | exact NZ.out _) (by first | exact HZ'.out | exact NZ'.out _)).mono ?_)); rintro e w' ⟨nn, rfl, rfl⟩; (try simp only [World.drewN_drewN])))
  go_ret
  exact ⟨ret_bool (by simp [*]), by first | exact BB.out _ | exact B2⟩

theorem iSameData_any (u v : Value) (p q : Dt) (w : World) (hu : DatIn w u p) (hv : DatIn w v q) :
    Calls Tryz.prog 21 #[u, v] w fun e w' => e = .returned (.bool (sameV p q)) ∧ Below w.heap.size w w' := by
  cases hp : dOK p
  · have e : sameV p q = false := by unfold sameV; rw [hp]; rfl
    rw [e]; exact iSameV_a u v p q w hu hv hp
  cases hq : dOK q
  · have e : sameV p q = false := by unfold sameV; rw [hp, hq]; rfl
    rw [e]; exact iSameV_b u v p q w hu hv hp hq
  have e : sameV p q = sameD p q := by unfold sameV; rw [hp, hq]; rfl
  rw [e]
  clear e
  by_cases h0 : p.s = q.s
  rotate_left
  · rw [sameD_not (fun h => h0 h.1)]; exact iSameD_0 u v p q w hu hv hp hq h0
  by_cases h1 : p.b = q.b
  rotate_left
  · rw [sameD_not (fun h => h1 h.2.1)]; exact iSameD_1 u v p q w hu hv hp hq h0 h1
  by_cases h2 : p.c = q.c
  rotate_left
  · rw [sameD_not (fun h => h2 h.2.2.1)]; exact iSameD_2 u v p q w hu hv hp hq h0 h1 h2
  by_cases h3 : p.h = q.h
  rotate_left
  · rw [sameD_not (fun h => h3 h.2.2.2.1)]; exact iSameD_3 u v p q w hu hv hp hq h0 h1 h2 h3
  by_cases h4 : p.n = q.n
  rotate_left
  · rw [sameD_not (fun h => h4 h.2.2.2.2.1)]; exact iSameD_4 u v p q w hu hv hp hq h0 h1 h2 h3 h4
  by_cases h5 : p.o.toList = q.o.toList
  rotate_left
  · rw [sameD_not (fun h => h5 h.2.2.2.2.2)]; exact iSameD_5 u v p q w hu hv hp hq h0 h1 h2 h3 h4 h5
  rw [sameD_of h0 h1 h2 h3 h4 h5]; exact iSameD_6 u v p q w hu hv hp hq h0 h1 h2 h3 h4 h5

end Go.Proofs.YthnbaeamekolmaaGreatDoor

namespace Go.Proofs.YthnbaeamekolmaaGreatDoor
open Go.RowKit
set_option linter.unusedVariables false
set_option linter.unusedSimpArgs false

/-- Two machines are alike. -/
def mEq (a b : Mc) : Bool := a.w == b.w && (a.k == b.k && (sameD a.d b.d && (hEq a.h b.h && (a.i == b.i && (a.f == b.f && a.c == b.c)))))

/-- Two machines are valid and alike. -/
def mSame (a b : Mc) : Bool := mOK a && (mOK b && mEq a b)

theorem mOK_data {m : Mc} (h : mOK m = true) : dOK m.d = true := (mOK_is h).2.2.2.1
theorem mOK_host {m : Mc} (h : mOK m = true) : hOK m.h = true := (mOK_is h).2.2.2.2.1

theorem mchIn_bb {w w' : World} {v : Value} {m : Mc} (hb : Below w.heap.size w w') (h : MchIn w v m) : MchIn w' v m := mchIn_below h hb

set_option maxRecDepth 100000 in
set_option maxHeartbeats 4000000 in
theorem sSameM_any (u v : Value) (a b : Mc) (w : World) (hu : MchIn w u a) (hv : MchIn w v b) :
    Calls Tryz.prog 96 #[u, v] w fun e w' => e = .returned (.bool (mEq a b)) ∧ Below w.heap.size w w' := by
  have HE : Hid (mEq a b = (a.w == b.w && (a.k == b.k && (sameD a.d b.d && (hEq a.h b.h && (a.i == b.i && (a.f == b.f && a.c == b.c))))))) := Lib.hid rfl
  obtain ⟨A1, k1, A2, k2, A3, k3, A4, k4, A5, k5, A6, k6, A7, k7, A8, k8, A9, k9, A0, k0, ea⟩ := mchIn_form hu
  obtain ⟨E1, j1, E2, j2, E3, j3, E4, j4, E5, j5, E6, j6, E7, j7, E8, j8, E9, j9, E0, j0, eb⟩ := mchIn_form hv
  subst ea
  subst eb
  obtain ⟨x, k, a', b', c, g, s, n, q, z, e, hx, hk, hd, hh, hz⟩ := hu
  simp only [Value.agg.injEq, Array.mk.injEq, List.cons.injEq, and_true, true_and] at e
  obtain ⟨rfl, rfl, rfl, rfl, rfl, rfl, rfl, rfl, rfl, rfl⟩ := e
  have UX := Lib.hid hx
  have UK := Lib.hid hk
  have UD := Lib.hid hd
  have UH := Lib.hid hh
  have UZ := Lib.hid hz
  clear hx hk hd hh hz
  obtain ⟨x, k, a', b', c, g, s, n, q, z, e, hx, hk, hd, hh, hz⟩ := hv
  simp only [Value.agg.injEq, Array.mk.injEq, List.cons.injEq, and_true, true_and] at e
  obtain ⟨rfl, rfl, rfl, rfl, rfl, rfl, rfl, rfl, rfl, rfl⟩ := e
  have VX := Lib.hid hx
  have VK := Lib.hid hk
  have VD := Lib.hid hd
  have VH := Lib.hid hh
  have VZ := Lib.hid hz
  clear hx hk hd hh hz
  have lz := UZ.out.1
  have ly := VZ.out.1
  unfold maxLen at lz ly
  have B0 : Below w.heap.size w ((w.alloc (.cells #[.slice A1 a.w.length k1, .slice A2 a.k.length k2, .slice A3 a.d.s.length k3, .slice A4 a.d.b.length k4, .slice A5 a.d.c.length k5, .int .i64 a.d.h, .int .i64 a.d.n, .string a.d.o, .slice A6 a.h.g.length k6, .slice A7 a.h.s.length k7, .slice A8 a.h.n.length k8, .int .i64 a.h.c, .slice A9 a.h.d.length k9, .slice A0 a.c.length k0, .int .i64 a.i, .int .i64 a.f] 46)).alloc (.cells #[.slice E1 b.w.length j1, .slice E2 b.k.length j2, .slice E3 b.d.s.length j3, .slice E4 b.d.b.length j4, .slice E5 b.d.c.length j5, .int .i64 b.d.h, .int .i64 b.d.n, .string b.d.o, .slice E6 b.h.g.length j6, .slice E7 b.h.s.length j7, .slice E8 b.h.n.length j8, .int .i64 b.h.c, .slice E9 b.h.d.length j9, .slice E0 b.c.length j0, .int .i64 b.i, .int .i64 b.f] 46)) := below_alloc (below_alloc (Below.refl _ _) _) _
  have W0 := Lib.hid (whole_alloc (whole_new w 46 #[.slice A1 a.w.length k1, .slice A2 a.k.length k2, .slice A3 a.d.s.length k3, .slice A4 a.d.b.length k4, .slice A5 a.d.c.length k5, .int .i64 a.d.h, .int .i64 a.d.n, .string a.d.o, .slice A6 a.h.g.length k6, .slice A7 a.h.s.length k7, .slice A8 a.h.n.length k8, .int .i64 a.h.c, .slice A9 a.h.d.length k9, .slice A0 a.c.length k0, .int .i64 a.i, .int .i64 a.f]) (.cells #[.slice E1 b.w.length j1, .slice E2 b.k.length j2, .slice E3 b.d.s.length j3, .slice E4 b.d.b.length j4, .slice E5 b.d.c.length j5, .int .i64 b.d.h, .int .i64 b.d.n, .string b.d.o, .slice E6 b.h.g.length j6, .slice E7 b.h.s.length j7, .slice E8 b.h.n.length j8, .int .i64 b.h.c, .slice E9 b.h.d.length j9, .slice E0 b.c.length j0, .int .i64 b.i, .int .i64 b.f] 46))
  have Y0 := Lib.hid (whole_new1 w (.cells #[.slice A1 a.w.length k1, .slice A2 a.k.length k2, .slice A3 a.d.s.length k3, .slice A4 a.d.b.length k4, .slice A5 a.d.c.length k5, .int .i64 a.d.h, .int .i64 a.d.n, .string a.d.o, .slice A6 a.h.g.length k6, .slice A7 a.h.s.length k7, .slice A8 a.h.n.length k8, .int .i64 a.h.c, .slice A9 a.h.d.length k9, .slice A0 a.c.length k0, .int .i64 a.i, .int .i64 a.f] 46) 46 #[.slice E1 b.w.length j1, .slice E2 b.k.length j2, .slice E3 b.d.s.length j3, .slice E4 b.d.b.length j4, .slice E5 b.d.c.length j5, .int .i64 b.d.h, .int .i64 b.d.n, .string b.d.o, .slice E6 b.h.g.length j6, .slice E7 b.h.s.length j7, .slice E8 b.h.n.length j8, .int .i64 b.h.c, .slice E9 b.h.d.length j9, .slice E0 b.c.length j0, .int .i64 b.i, .int .i64 b.f])
  go_enter Tryz.func96, Tryz.ntmps96
  go_wp2_with fail
  refine (sSameWords_any _ _ a.w b.w _ (wds_below UX.out B0) (wds_below VX.out B0)).mono ?_
  rintro e w1 ⟨n1, rfl, rfl⟩
  have B1 : Hid (Below w.heap.size w _) := Lib.hid (below_drewN B0 n1)
  have W1 : Hid (Whole (((w.alloc (.cells #[.slice A1 a.w.length k1, .slice A2 a.k.length k2, .slice A3 a.d.s.length k3, .slice A4 a.d.b.length k4, .slice A5 a.d.c.length k5, .int .i64 a.d.h, .int .i64 a.d.n, .string a.d.o, .slice A6 a.h.g.length k6, .slice A7 a.h.s.length k7, .slice A8 a.h.n.length k8, .int .i64 a.h.c, .slice A9 a.h.d.length k9, .slice A0 a.c.length k0, .int .i64 a.i, .int .i64 a.f] 46)).alloc (.cells #[.slice E1 b.w.length j1, .slice E2 b.k.length j2, .slice E3 b.d.s.length j3, .slice E4 b.d.b.length j4, .slice E5 b.d.c.length j5, .int .i64 b.d.h, .int .i64 b.d.n, .string b.d.o, .slice E6 b.h.g.length j6, .slice E7 b.h.s.length j7, .slice E8 b.h.n.length j8, .int .i64 b.h.c, .slice E9 b.h.d.length j9, .slice E0 b.c.length j0, .int .i64 b.i, .int .i64 b.f] 46)).drewN n1) _ _ _) := W0
  have Y1 : Hid (Whole (((w.alloc (.cells #[.slice A1 a.w.length k1, .slice A2 a.k.length k2, .slice A3 a.d.s.length k3, .slice A4 a.d.b.length k4, .slice A5 a.d.c.length k5, .int .i64 a.d.h, .int .i64 a.d.n, .string a.d.o, .slice A6 a.h.g.length k6, .slice A7 a.h.s.length k7, .slice A8 a.h.n.length k8, .int .i64 a.h.c, .slice A9 a.h.d.length k9, .slice A0 a.c.length k0, .int .i64 a.i, .int .i64 a.f] 46)).alloc (.cells #[.slice E1 b.w.length j1, .slice E2 b.k.length j2, .slice E3 b.d.s.length j3, .slice E4 b.d.b.length j4, .slice E5 b.d.c.length j5, .int .i64 b.d.h, .int .i64 b.d.n, .string b.d.o, .slice E6 b.h.g.length j6, .slice E7 b.h.s.length j7, .slice E8 b.h.n.length j8, .int .i64 b.h.c, .slice E9 b.h.d.length j9, .slice E0 b.c.length j0, .int .i64 b.i, .int .i64 b.f] 46)).drewN n1) _ _ _) := Y0
  generalize ((w.alloc (.cells #[.slice A1 a.w.length k1, .slice A2 a.k.length k2, .slice A3 a.d.s.length k3, .slice A4 a.d.b.length k4, .slice A5 a.d.c.length k5, .int .i64 a.d.h, .int .i64 a.d.n, .string a.d.o, .slice A6 a.h.g.length k6, .slice A7 a.h.s.length k7, .slice A8 a.h.n.length k8, .int .i64 a.h.c, .slice A9 a.h.d.length k9, .slice A0 a.c.length k0, .int .i64 a.i, .int .i64 a.f] 46)).alloc (.cells #[.slice E1 b.w.length j1, .slice E2 b.k.length j2, .slice E3 b.d.s.length j3, .slice E4 b.d.b.length j4, .slice E5 b.d.c.length j5, .int .i64 b.d.h, .int .i64 b.d.n, .string b.d.o, .slice E6 b.h.g.length j6, .slice E7 b.h.s.length j7, .slice E8 b.h.n.length j8, .int .i64 b.h.c, .slice E9 b.h.d.length j9, .slice E0 b.c.length j0, .int .i64 b.i, .int .i64 b.f] 46)).drewN n1 = w1 at *
  clear W0 Y0 B0
  cases t1 : a.w == b.w
  · go_wp2
    go_ret
    exact ⟨ret_bool (by rw [HE.out, t1]; rfl), B1.out⟩
  have zw := whole_lt W1.out
  have zy := whole_lt Y1.out
  obtain ⟨c0, c1, c2, c3, c4, c5, c6, c7, c8, c9, c10, c11, c12, c13, c14, c15⟩ := cells_sixteen W1.out
  obtain ⟨d0, d1, d2, d3, d4, d5, d6, d7, d8, d9, d10, d11, d12, d13, d14, d15⟩ := cells_sixteen Y1.out
  go_wp2_with fail
  clear zw zy c0 c1 c2 c3 c4 c5 c6 c7 c8 c9 c10 c11 c12 c13 c14 c15 d0 d1 d2 d3 d4 d5 d6 d7 d8 d9 d10 d11 d12 d13 d14 d15
  refine (sSame_any _ _ a.k b.k _ (ints_below UK.out B1.out) (ints_below VK.out B1.out)).mono ?_
  rintro e w2 ⟨n2, rfl, rfl⟩
  have B2 : Hid (Below w.heap.size w _) := Lib.hid (below_drewN B1.out n2)
  have W2 : Hid (Whole (w1.drewN n2) _ _ _) := W1
  have Y2 : Hid (Whole (w1.drewN n2) _ _ _) := Y1
  generalize w1.drewN n2 = w2 at *
  cases t2 : a.k == b.k
  · go_wp2
    go_ret
    exact ⟨ret_bool (by rw [HE.out, t1, t2]; rfl), B2.out⟩
  have zw := whole_lt W2.out
  have zy := whole_lt Y2.out
  obtain ⟨c0, c1, c2, c3, c4, c5, c6, c7, c8, c9, c10, c11, c12, c13, c14, c15⟩ := cells_sixteen W2.out
  obtain ⟨d0, d1, d2, d3, d4, d5, d6, d7, d8, d9, d10, d11, d12, d13, d14, d15⟩ := cells_sixteen Y2.out
  go_wp2_with fail
  clear zw zy c0 c1 c2 c3 c4 c5 c6 c7 c8 c9 c10 c11 c12 c13 c14 c15 d0 d1 d2 d3 d4 d5 d6 d7 d8 d9 d10 d11 d12 d13 d14 d15
  refine (sSameD_any _ _ a.d b.d _ (datIn_below UD.out B2.out) (datIn_below VD.out B2.out)).mono ?_
  rintro e w3 ⟨rfl, hb⟩
  have B3 := Lib.hid (below_step B2.out hb)
  have W3 := Lib.hid (whole_b hb W2.out)
  have Y3 := Lib.hid (whole_b hb Y2.out)
  clear hb
  cases t3 : sameD a.d b.d
  · go_wp2
    go_ret
    exact ⟨ret_bool (by rw [HE.out, t1, t2, t3]; rfl), B3.out⟩
  have zw := whole_lt W3.out
  have zy := whole_lt Y3.out
  obtain ⟨c0, c1, c2, c3, c4, c5, c6, c7, c8, c9, c10, c11, c12, c13, c14, c15⟩ := cells_sixteen W3.out
  obtain ⟨d0, d1, d2, d3, d4, d5, d6, d7, d8, d9, d10, d11, d12, d13, d14, d15⟩ := cells_sixteen Y3.out
  go_wp2_with fail
  clear zw zy c0 c1 c2 c3 c4 c5 c6 c7 c8 c9 c10 c11 c12 c13 c14 c15 d0 d1 d2 d3 d4 d5 d6 d7 d8 d9 d10 d11 d12 d13 d14 d15
  refine (sSameH_any _ _ a.h b.h _ (hostIn_below UH.out B3.out) (hostIn_below VH.out B3.out)).mono ?_
  rintro e w4 ⟨rfl, hb⟩
  have B4 := Lib.hid (below_step B3.out hb)
  have W4 := Lib.hid (whole_b hb W3.out)
  have Y4 := Lib.hid (whole_b hb Y3.out)
  clear hb
  cases t4 : hEq a.h b.h
  · go_wp2
    go_ret
    exact ⟨ret_bool (by rw [HE.out, t1, t2, t3, t4]; rfl), B4.out⟩
  have zw := whole_lt W4.out
  have zy := whole_lt Y4.out
  obtain ⟨c0, c1, c2, c3, c4, c5, c6, c7, c8, c9, c10, c11, c12, c13, c14, c15⟩ := cells_sixteen W4.out
  obtain ⟨d0, d1, d2, d3, d4, d5, d6, d7, d8, d9, d10, d11, d12, d13, d14, d15⟩ := cells_sixteen Y4.out
  cases t5 : a.i == b.i
  · have t5' : (a.i != b.i) = true := by simp only [bne, t5]; rfl
    go_wp2
    go_ret
    exact ⟨ret_bool (by rw [HE.out, t1, t2, t3, t4, t5]; rfl), B4.out⟩
  have t5' : (a.i != b.i) = false := by simp only [bne, t5]; rfl
  cases t6 : a.f == b.f
  · have t6' : (a.f != b.f) = true := by simp only [bne, t6]; rfl
    go_wp2
    go_ret
    exact ⟨ret_bool (by rw [HE.out, t1, t2, t3, t4, t5, t6]; rfl), B4.out⟩
  have t6' : (a.f != b.f) = false := by simp only [bne, t6]; rfl
  have HF : Hid (mEq a b = (a.c == b.c)) := Lib.hid (by rw [HE.out, t1, t2, t3, t4, t5, t6]; simp)
  by_cases hl : a.c.length = b.c.length
  rotate_left
  · have t7 : ((a.c.length : Int) != (b.c.length : Int)) = true := by rw [bne_iff_ne]; omega
    have E := Lib.hid (csame_len hl)
    go_wp2
    go_ret
    exact ⟨ret_bool (by rw [HF.out, E.out]), B4.out⟩
  have t7 : ((a.c.length : Int) != (b.c.length : Int)) = false := by simp [hl]
  have LE := Lib.hid hl
  have hlq : a.c.length ≤ b.c.length := by omega
  clear hl
  go_wp2
  clear zw zy c0 c1 c2 c3 c4 c5 c6 c7 c8 c9 c10 c11 c12 c13 c14 c15 d0 d1 d2 d3 d4 d5 d6 d7 d8 d9 d10 d11 d12 d13 d14 d15
  go_loopw [5] (fun i wr => ∃ k : Nat, k ≤ a.c.length ∧ i = .int .i64 k ∧ cSameTo a.c b.c k ∧ Below w.heap.size w wr ∧ Whole wr w.heap.size 46 #[.slice A1 a.w.length k1, .slice A2 a.k.length k2, .slice A3 a.d.s.length k3, .slice A4 a.d.b.length k4, .slice A5 a.d.c.length k5, .int .i64 a.d.h, .int .i64 a.d.n, .string a.d.o, .slice A6 a.h.g.length k6, .slice A7 a.h.s.length k7, .slice A8 a.h.n.length k8, .int .i64 a.h.c, .slice A9 a.h.d.length k9, .slice A0 a.c.length k0, .int .i64 a.i, .int .i64 a.f] ∧ Whole wr (w.heap.size + 1) 46 #[.slice E1 b.w.length j1, .slice E2 b.k.length j2, .slice E3 b.d.s.length j3, .slice E4 b.d.b.length j4, .slice E5 b.d.c.length j5, .int .i64 b.d.h, .int .i64 b.d.n, .string b.d.o, .slice E6 b.h.g.length j6, .slice E7 b.h.s.length j7, .slice E8 b.h.n.length j8, .int .i64 b.h.c, .slice E9 b.h.d.length j9, .slice E0 b.c.length j0, .int .i64 b.i, .int .i64 b.f]) (fun i _ => a.c.length - (intOf i).toNat)
  case atStart => exact ⟨0, Nat.zero_le _, rfl, by unfold cSameTo; simp, B4.out, W4.out, Y4.out⟩
  case round =>
    obtain ⟨k, hk2, rfl, hat, hb, hwa, hwb⟩ := hrel
    have AT := Lib.hid hat
    have B5 := Lib.hid hb
    have W5 := Lib.hid hwa
    have Y5 := Lib.hid hwb
    clear hat hb hwa hwb
    have zw := whole_lt W5.out
    have zy := whole_lt Y5.out
    obtain ⟨c0, c1, c2, c3, c4, c5, c6, c7, c8, c9, c10, c11, c12, c13, c14, c15⟩ := cells_sixteen W5.out
    obtain ⟨d0, d1, d2, d3, d4, d5, d6, d7, d8, d9, d10, d11, d12, d13, d14, d15⟩ := cells_sixteen Y5.out
    by_cases hlt : k < a.c.length
    · have hlt2 : k < b.c.length := by omega
      obtain ⟨_, A', ca', he, hca⟩ := cls_below UZ.out B5.out
      obtain ⟨_, B', cb', he', hcb⟩ := cls_below VZ.out B5.out
      simp only [Value.slice.injEq, true_and] at he he'
      obtain ⟨rfl, rfl⟩ := he
      obtain ⟨rfl, rfl⟩ := he'
      obtain ⟨ga, rfl, hca2⟩ := hca (by omega)
      obtain ⟨gb, rfl, hcb2⟩ := hcb (by omega)
      have ka := hca2 k hlt
      have kb := hcb2 k hlt2
      clear hca hcb hca2 hcb2
      by_cases e : a.c[k] = b.c[k]
      · have NX := Lib.hid (csame_next AT.out hlt hlt2 e)
        rw [← e] at kb
        clear e
        generalize a.c[k] = x at *
        obtain ⟨a0, a1, a2, a3⟩ := ka
        obtain ⟨b0, b1, b2, b3⟩ := kb
        have t0 : (x.i == x.i) = true := by simp
        have t1 : (x.f == x.f) = true := by simp
        have t2 : (x.d == x.d) = true := by simp
        have t3 : (x.c == x.c) = true := by simp
        go_wp2
        go_quiet (fail)
        go_wp2
        go_roundw
        case rel => exact ⟨k + 1, by omega, by go_num, NX.out, below_drewN B5.out _, W5.out, Y5.out⟩
        case measure => simp [intOf]; omega
      · have NO := Lib.hid (csame_not hlt hlt2 e)
        have hne := cl_ne e
        clear e
        generalize a.c[k] = x at *
        generalize b.c[k] = y at *
        obtain ⟨a0, a1, a2, a3⟩ := ka
        obtain ⟨b0, b1, b2, b3⟩ := kb
        rcases hne with q0 | ⟨q0, q1⟩ | ⟨q0, q1, q2⟩ | ⟨q0, q1, q2, q3⟩
        · have t0 : (x.i == y.i) = false := by rw [beq_eq_false_iff_ne]; exact q0
          clear q0
          go_wp2
          go_quiet (fail)
          go_wp2
          go_ret
          exact ⟨ret_bool (by rw [HF.out, NO.out]), below_drewN B5.out _⟩
        · have t0 : (x.i == y.i) = true := by rw [beq_iff_eq]; exact q0
          have t1 : (x.f == y.f) = false := by rw [beq_eq_false_iff_ne]; exact q1
          clear q0 q1
          go_wp2
          go_quiet (fail)
          go_wp2
          go_ret
          exact ⟨ret_bool (by rw [HF.out, NO.out]), below_drewN B5.out _⟩
        · have t0 : (x.i == y.i) = true := by rw [beq_iff_eq]; exact q0
          have t1 : (x.f == y.f) = true := by rw [beq_iff_eq]; exact q1
          have t2 : (x.d == y.d) = false := by rw [beq_eq_false_iff_ne]; exact q2
          clear q0 q1 q2
          go_wp2
          go_quiet (fail)
          go_wp2
          go_ret
          exact ⟨ret_bool (by rw [HF.out, NO.out]), below_drewN B5.out _⟩
        · have t0 : (x.i == y.i) = true := by rw [beq_iff_eq]; exact q0
          have t1 : (x.f == y.f) = true := by rw [beq_iff_eq]; exact q1
          have t2 : (x.d == y.d) = true := by rw [beq_iff_eq]; exact q2
          have t3 : (x.c == y.c) = false := by rw [beq_eq_false_iff_ne]; exact q3
          clear q0 q1 q2 q3
          go_wp2
          go_quiet (fail)
          go_wp2
          go_ret
          exact ⟨ret_bool (by rw [HF.out, NO.out]), below_drewN B5.out _⟩
    · obtain rfl : k = a.c.length := by omega
      have E := Lib.hid (csame_end LE.out AT.out)
      go_wp2
      go_ret
      exact ⟨ret_bool (by rw [HF.out, E.out]), B5.out⟩

set_option maxRecDepth 100000 in
set_option maxHeartbeats 4000000 in
theorem iSameMachine_any (u v : Value) (a b : Mc) (w : World) (hu : MchIn w u a) (hv : MchIn w v b) (ht : Tabs w) :
    Calls Tryz.prog 52 #[u, v] w fun e w' => e = .returned (.bool (mSame a b)) ∧ Below w.heap.size w w' := by
  have HT := Lib.hid ht
  clear ht
  have HS : Hid (mSame a b = (mOK a && (mOK b && mEq a b))) := Lib.hid rfl
  obtain ⟨ca, rfl, hca⟩ := mchIn_cells hu
  obtain ⟨cb, rfl, hcb⟩ := mchIn_cells hv
  have HU := Lib.hid hu
  have HV := Lib.hid hv
  clear hu hv
  have W0 := whole_alloc (whole_new w 46 ca) (.cells cb 46)
  have Y0 := whole_new1 w (.cells ca 46) 46 cb
  have B0 : Below w.heap.size w ((w.alloc (.cells ca 46)).alloc (.cells cb 46)) := below_alloc (below_alloc (Below.refl _ _) _) _
  go_enter Tryz.func52, Tryz.ntmps52
  go_wp2_with (first | (refine wpList_load_mI rfl _ rfl _ rfl (by assumption) (by assumption) ?_) | (refine wpList_load_mIw (by rfl) _ rfl _ rfl (by assumption) (by assumption) ?_) | fail)
  refine (iMachineOK_any _ a _ (mchIn_bb B0 HU.out) (tabs_below HT.out B0)).mono ?_
  rintro e w1 ⟨rfl, hb⟩
  have B1 := Lib.hid (below_step B0 hb)
  have W1 := whole_b hb W0
  have Y1 := whole_b hb Y0
  clear hb B0 W0 Y0
  cases ta : mOK a
  · go_wp2
    go_ret
    exact ⟨ret_bool (by rw [HS.out, ta]; rfl), B1.out⟩
  have zw := whole_lt W1
  have zy := whole_lt Y1
  go_wp2_with (first | (refine wpList_load_mI rfl _ rfl _ rfl (by assumption) (by assumption) ?_) | (refine wpList_load_mIw (by rfl) _ rfl _ rfl (by assumption) (by assumption) ?_) | fail)
  clear zw zy
  refine (iMachineOK_any _ b _ (mchIn_bb B1.out HV.out) (tabs_below HT.out B1.out)).mono ?_
  rintro e w2 ⟨rfl, hb⟩
  have B2 := Lib.hid (below_step B1.out hb)
  have W2 := whole_b hb W1
  have Y2 := whole_b hb Y1
  clear hb W1 Y1 B1
  cases tb : mOK b
  · go_wp2
    go_ret
    exact ⟨ret_bool (by rw [HS.out, ta, tb]; rfl), B2.out⟩
  have HE : Hid (mSame a b = (a.w == b.w && (a.k == b.k && (sameD a.d b.d && (hEq a.h b.h && (a.i == b.i && (a.f == b.f && a.c == b.c))))))) := Lib.hid (by rw [HS.out, ta, tb]; rfl)
  have SD : Hid (sameV a.d b.d = sameD a.d b.d) := Lib.hid (by unfold sameV; rw [mOK_data ta, mOK_data tb]; rfl)
  have SH : Hid (hSame a.h b.h = hEq a.h b.h) := Lib.hid (by unfold hSame; rw [mOK_host ta, mOK_host tb]; rfl)
  have hu := HU.out
  have hv := HV.out
  obtain ⟨A1, k1, A2, k2, A3, k3, A4, k4, A5, k5, A6, k6, A7, k7, A8, k8, A9, k9, A0, k0, ea⟩ := mchIn_form hu
  obtain ⟨E1, j1, E2, j2, E3, j3, E4, j4, E5, j5, E6, j6, E7, j7, E8, j8, E9, j9, E0, j0, eb⟩ := mchIn_form hv
  injection ea with ea
  injection eb with eb
  subst ea
  subst eb
  obtain ⟨x, k, a', b', c, g, s, n, q, z, e, hx, hk, hd, hh, hz⟩ := hu
  simp only [Value.agg.injEq, Array.mk.injEq, List.cons.injEq, and_true, true_and] at e
  obtain ⟨rfl, rfl, rfl, rfl, rfl, rfl, rfl, rfl, rfl, rfl⟩ := e
  have UX := Lib.hid hx
  have UK := Lib.hid hk
  have UD := Lib.hid hd
  have UH := Lib.hid hh
  have UZ := Lib.hid hz
  clear hx hk hd hh hz
  obtain ⟨x, k, a', b', c, g, s, n, q, z, e, hx, hk, hd, hh, hz⟩ := hv
  simp only [Value.agg.injEq, Array.mk.injEq, List.cons.injEq, and_true, true_and] at e
  obtain ⟨rfl, rfl, rfl, rfl, rfl, rfl, rfl, rfl, rfl, rfl⟩ := e
  have VX := Lib.hid hx
  have VK := Lib.hid hk
  have VD := Lib.hid hd
  have VH := Lib.hid hh
  have VZ := Lib.hid hz
  clear hx hk hd hh hz
  have W2 := Lib.hid W2
  have Y2 := Lib.hid Y2
  have zw := whole_lt W2.out
  have zy := whole_lt Y2.out
  obtain ⟨c0, c1, c2, c3, c4, c5, c6, c7, c8, c9, c10, c11, c12, c13, c14, c15⟩ := cells_sixteen W2.out
  obtain ⟨d0, d1, d2, d3, d4, d5, d6, d7, d8, d9, d10, d11, d12, d13, d14, d15⟩ := cells_sixteen Y2.out
  go_wp2_with fail
  clear zw zy c0 c1 c2 c3 c4 c5 c6 c7 c8 c9 c10 c11 c12 c13 c14 c15 d0 d1 d2 d3 d4 d5 d6 d7 d8 d9 d10 d11 d12 d13 d14 d15
  refine (slEqualW_any _ _ a.w b.w _ (wds_below UX.out B2.out) (wds_below VX.out B2.out)).mono ?_
  rintro e w3 ⟨n3, rfl, rfl⟩
  have B3 : Hid (Below w.heap.size w _) := Lib.hid (below_drewN B2.out n3)
  have W3 : Hid (Whole (w2.drewN n3) _ _ _) := W2
  have Y3 : Hid (Whole (w2.drewN n3) _ _ _) := Y2
  generalize w2.drewN n3 = w3 at *
  cases t1 : a.w == b.w
  · go_wp2
    go_ret
    exact ⟨ret_bool (by rw [HE.out, t1]; rfl), B3.out⟩
  have zw := whole_lt W3.out
  have zy := whole_lt Y3.out
  obtain ⟨c0, c1, c2, c3, c4, c5, c6, c7, c8, c9, c10, c11, c12, c13, c14, c15⟩ := cells_sixteen W3.out
  obtain ⟨d0, d1, d2, d3, d4, d5, d6, d7, d8, d9, d10, d11, d12, d13, d14, d15⟩ := cells_sixteen Y3.out
  go_wp2_with fail
  clear zw zy c0 c1 c2 c3 c4 c5 c6 c7 c8 c9 c10 c11 c12 c13 c14 c15 d0 d1 d2 d3 d4 d5 d6 d7 d8 d9 d10 d11 d12 d13 d14 d15
  refine (slEqual_any _ _ a.k b.k _ (ints_below UK.out B3.out) (ints_below VK.out B3.out)).mono ?_
  rintro e w4 ⟨n4, rfl, rfl⟩
  have B4 : Hid (Below w.heap.size w _) := Lib.hid (below_drewN B3.out n4)
  have W4 : Hid (Whole (w3.drewN n4) _ _ _) := W3
  have Y4 : Hid (Whole (w3.drewN n4) _ _ _) := Y3
  generalize w3.drewN n4 = w4 at *
  cases t2 : a.k == b.k
  · go_wp2
    go_ret
    exact ⟨ret_bool (by rw [HE.out, t1, t2]; rfl), B4.out⟩
  have zw := whole_lt W4.out
  have zy := whole_lt Y4.out
  obtain ⟨c0, c1, c2, c3, c4, c5, c6, c7, c8, c9, c10, c11, c12, c13, c14, c15⟩ := cells_sixteen W4.out
  obtain ⟨d0, d1, d2, d3, d4, d5, d6, d7, d8, d9, d10, d11, d12, d13, d14, d15⟩ := cells_sixteen Y4.out
  go_wp2_with fail
  clear zw zy c0 c1 c2 c3 c4 c5 c6 c7 c8 c9 c10 c11 c12 c13 c14 c15 d0 d1 d2 d3 d4 d5 d6 d7 d8 d9 d10 d11 d12 d13 d14 d15
  refine (iSameData_any _ _ a.d b.d _ (datIn_below UD.out B4.out) (datIn_below VD.out B4.out)).mono ?_
  rintro e w5 ⟨rfl, hb⟩
  have B5 := Lib.hid (below_step B4.out hb)
  have W5 := Lib.hid (whole_b hb W4.out)
  have Y5 := Lib.hid (whole_b hb Y4.out)
  clear hb
  rw [SD.out]
  cases t3 : sameD a.d b.d
  · go_wp2
    go_ret
    exact ⟨ret_bool (by rw [HE.out, t1, t2, t3]; rfl), B5.out⟩
  have zw := whole_lt W5.out
  have zy := whole_lt Y5.out
  obtain ⟨c0, c1, c2, c3, c4, c5, c6, c7, c8, c9, c10, c11, c12, c13, c14, c15⟩ := cells_sixteen W5.out
  obtain ⟨d0, d1, d2, d3, d4, d5, d6, d7, d8, d9, d10, d11, d12, d13, d14, d15⟩ := cells_sixteen Y5.out
  go_wp2_with fail
  clear zw zy c0 c1 c2 c3 c4 c5 c6 c7 c8 c9 c10 c11 c12 c13 c14 c15 d0 d1 d2 d3 d4 d5 d6 d7 d8 d9 d10 d11 d12 d13 d14 d15
  refine (iSameHost_any _ _ a.h b.h _ (hostIn_below UH.out B5.out) (hostIn_below VH.out B5.out)).mono ?_
  rintro e w6 ⟨rfl, hb⟩
  have B6 := Lib.hid (below_step B5.out hb)
  have W6 := Lib.hid (whole_b hb W5.out)
  have Y6 := Lib.hid (whole_b hb Y5.out)
  clear hb
  rw [SH.out]
  cases t4 : hEq a.h b.h
  · go_wp2
    go_ret
    exact ⟨ret_bool (by rw [HE.out, t1, t2, t3, t4]; rfl), B6.out⟩
  have zw := whole_lt W6.out
  have zy := whole_lt Y6.out
  obtain ⟨c0, c1, c2, c3, c4, c5, c6, c7, c8, c9, c10, c11, c12, c13, c14, c15⟩ := cells_sixteen W6.out
  obtain ⟨d0, d1, d2, d3, d4, d5, d6, d7, d8, d9, d10, d11, d12, d13, d14, d15⟩ := cells_sixteen Y6.out
  go_wp2_with fail
  clear zw zy c0 c1 c2 c3 c4 c5 c6 c7 c8 c9 c10 c11 c12 c13 c14 c15 d0 d1 d2 d3 d4 d5 d6 d7 d8 d9 d10 d11 d12 d13 d14 d15
  refine (slEqualC_any _ _ a.c b.c _ (cls_below UZ.out B6.out) (cls_below VZ.out B6.out)).mono ?_
  rintro e w7 ⟨n7, rfl, rfl⟩
  have B7 : Hid (Below w.heap.size w _) := Lib.hid (below_drewN B6.out n7)
  have W7 : Hid (Whole (w6.drewN n7) _ _ _) := W6
  have Y7 : Hid (Whole (w6.drewN n7) _ _ _) := Y6
  generalize w6.drewN n7 = w7 at *
  cases t7 : a.c == b.c
  · go_wp2
    go_ret
    exact ⟨ret_bool (by rw [HE.out, t1, t2, t3, t4, t7]; simp), B7.out⟩
  have zw := whole_lt W7.out
  have zy := whole_lt Y7.out
  obtain ⟨c0, c1, c2, c3, c4, c5, c6, c7, c8, c9, c10, c11, c12, c13, c14, c15⟩ := cells_sixteen W7.out
  obtain ⟨d0, d1, d2, d3, d4, d5, d6, d7, d8, d9, d10, d11, d12, d13, d14, d15⟩ := cells_sixteen Y7.out
  cases t5 : a.i == b.i
  · go_wp2
    go_ret
    exact ⟨ret_bool (by rw [HE.out, t1, t2, t3, t4, t5]; rfl), B7.out⟩
  cases t6 : a.f == b.f
  all_goals
    go_wp2
    go_ret
    exact ⟨ret_bool (by rw [HE.out, t1, t2, t3, t4, t5, t6, t7]; rfl), B7.out⟩

end Go.Proofs.YthnbaeamekolmaaGreatDoor
