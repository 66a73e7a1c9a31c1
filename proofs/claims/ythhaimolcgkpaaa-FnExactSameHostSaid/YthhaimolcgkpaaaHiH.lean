/- Are two hosts the same: both sides. -/
import Derived.Test.YthhaimolcgkpaaaHiA
import Derived.Test.YthhaimolcgkpaaaHsA
namespace Go.Proofs.Ythhaimolcgkpaaa
open Go.RowKit
set_option linter.unusedVariables false
set_option linter.unusedSimpArgs false

instance : DecidableEq Dd := fun x y => if h : x.p = y.p ∧ x.a = y.a ∧ x.b = y.b ∧ x.r = y.r then isTrue (by cases x; cases y; simp_all) else isFalse (fun e => h (by subst e; simp))

/-- The first k deeds are alike. -/
def DSameTo (P Q : List Dd) (k : Nat) : Prop := P.take k = Q.take k

theorem dsameTo_next {P Q : List Dd} {k : Nat} (h : DSameTo P Q k) (hp : k < P.length) (hq : k < Q.length) (e : P[k] = Q[k]) : DSameTo P Q (k + 1) := by
  unfold DSameTo at *
  rw [List.take_succ_eq_append_getElem hp, List.take_succ_eq_append_getElem hq, h, e]

theorem dsameTo_end {P Q : List Dd} (hl : P.length = Q.length) (h : DSameTo P Q P.length) : (P == Q) = true := by
  unfold DSameTo at h
  rw [List.take_length, hl, List.take_length] at h
  rw [beq_iff_eq]; exact h

theorem dsame_len {P Q : List Dd} (hl : P.length ≠ Q.length) : (P == Q) = false := by
  rw [beq_eq_false_iff_ne]; exact fun e => hl (by rw [e])

theorem dsame_not {P Q : List Dd} {k : Nat} (hp : k < P.length) (hq : k < Q.length) (e : P[k] ≠ Q[k]) : (P == Q) = false := by
  rw [beq_eq_false_iff_ne]; exact fun h => e (by subst h; rfl)

theorem dd_ne {x y : Dd} (h : x ≠ y) : x.p ≠ y.p ∨ (x.p = y.p ∧ x.a ≠ y.a) ∨ (x.p = y.p ∧ x.a = y.a ∧ x.b ≠ y.b) ∨ (x.p = y.p ∧ x.a = y.a ∧ x.b = y.b ∧ x.r ≠ y.r) := by
  by_cases h1 : x.p = y.p
  · by_cases h2 : x.a = y.a
    · by_cases h3 : x.b = y.b
      · by_cases h4 : x.r = y.r
        · exact absurd (by cases x; cases y; simp_all) h
        · exact .inr (.inr (.inr ⟨h1, h2, h3, h4⟩))
      · exact .inr (.inr (.inl ⟨h1, h2, h3⟩))
    · exact .inr (.inl ⟨h1, h2⟩)
  · exact .inl h1

set_option maxRecDepth 100000 in
set_option maxHeartbeats 1000000 in
theorem slEqualB_any (u v : Value) (P Q : List Bool) (w : World) (hu : Bols w u P) (hv : Bols w v Q) :
    Calls Try.prog 61 #[u, v] w (BoolOf w (P == Q)) := by
  obtain ⟨pm, A, ca, rfl, ha⟩ := hu
  obtain ⟨qm, B, cb, rfl, hb⟩ := hv
  unfold maxLen at pm qm
  by_cases hl : P.length = Q.length
  · have z0 : ((P.length : Int) != (Q.length : Int)) = false := by simp [hl]
    have LE := Lib.hid hl
    have hlq : P.length ≤ Q.length := by omega
    have HA := Lib.hid ha
    have HB := Lib.hid hb
    clear hl ha hb
    go_enter Try.func61, Try.ntmps61
    go_wp2
    clear z0
    go_loopw [5, 13] (fun _ i wr => ∃ k n : Nat, k ≤ P.length ∧ i = .int .i64 k ∧ BSameTo P Q k ∧ wr = w.drewN n) (fun _ i _ => P.length - (intOf i).toNat)
    case atStart => exact ⟨0, 0, Nat.zero_le _, rfl, by unfold BSameTo; simp, rfl⟩
    case round =>
      obtain ⟨k, n, hk, rfl, hat, rfl⟩ := hrel
      have AT := Lib.hid hat
      clear hat
      by_cases hlt : k < P.length
      · have hlt2 : k < Q.length := by omega
        obtain ⟨ga, rfl, hca⟩ := HA.out (by omega)
        obtain ⟨gb, rfl, hcb⟩ := HB.out (by omega)
        have ka := hca k hlt
        have kb := hcb k hlt2
        clear hca hcb
        by_cases e : P[k] = Q[k]
        · have NX := Lib.hid (bsameTo_next AT.out hlt hlt2 e)
          rw [← e] at kb
          clear e
          generalize P[k] = x at *
          cases x
          all_goals
            go_wp2
            go_quiet (fail)
            go_wp2
            go_roundw
            case rel => exact ⟨k + 1, _, by omega, by go_num, NX.out, rfl⟩
            case measure => simp [intOf]; omega
        · have NO := Lib.hid (bsame_not hlt hlt2 e)
          have e2 : Q[k] = !P[k] := by cases h : P[k] <;> cases h2 : Q[k] <;> simp_all
          rw [e2] at kb
          clear e e2
          generalize P[k] = x at *
          cases x
          all_goals
            simp only [Bool.not_true, Bool.not_false] at kb
            go_wp2
            go_quiet (fail)
            go_wp2
            go_ret
            exact ⟨_, ret_bool NO.out.symm, by rw [World.drewN_drewN]⟩
      · obtain rfl : k = P.length := by omega
        have E := Lib.hid (bsameTo_end LE.out AT.out)
        go_wp2
        go_ret
        exact ⟨_, ret_bool E.out.symm, rfl⟩
  · have z0 : ((P.length : Int) != (Q.length : Int)) = true := by rw [bne_iff_ne]; omega
    have E := Lib.hid (bsame_len hl)
    clear hl ha hb
    go_enter Try.func61, Try.ntmps61
    go_wp2
    go_ret
    exact ⟨0, ret_bool E.out.symm, rfl⟩

set_option maxRecDepth 100000 in
set_option maxHeartbeats 1000000 in
theorem slEqualD_any (u v : Value) (P Q : List Dd) (w : World) (hu : Dds w u P) (hv : Dds w v Q) :
    Calls Try.prog 63 #[u, v] w (BoolOf w (P == Q)) := by
  obtain ⟨pm, A, ca, rfl, ha⟩ := hu
  obtain ⟨qm, B, cb, rfl, hb⟩ := hv
  unfold maxLen at pm qm
  by_cases hl : P.length = Q.length
  · have z0 : ((P.length : Int) != (Q.length : Int)) = false := by simp [hl]
    have LE := Lib.hid hl
    have hlq : P.length ≤ Q.length := by omega
    have HA := Lib.hid ha
    have HB := Lib.hid hb
    clear hl ha hb
    go_enter Try.func63, Try.ntmps63
    go_wp2
    clear z0
    go_loopw [5, 13] (fun _ i wr => ∃ k n : Nat, k ≤ P.length ∧ i = .int .i64 k ∧ DSameTo P Q k ∧ wr = w.drewN n) (fun _ i _ => P.length - (intOf i).toNat)
    case atStart => exact ⟨0, 0, Nat.zero_le _, rfl, by unfold DSameTo; simp, rfl⟩
    case round =>
      obtain ⟨k, n, hk, rfl, hat, rfl⟩ := hrel
      have AT := Lib.hid hat
      clear hat
      by_cases hlt : k < P.length
      · have hlt2 : k < Q.length := by omega
        obtain ⟨ga, rfl, hca2⟩ := HA.out (by omega)
        obtain ⟨gb, rfl, hcb2⟩ := HB.out (by omega)
        have ka := hca2 k hlt
        have kb := hcb2 k hlt2
        clear hca2 hcb2
        by_cases e : P[k] = Q[k]
        · have NX := Lib.hid (dsameTo_next AT.out hlt hlt2 e)
          rw [← e] at kb
          clear e
          generalize P[k] = x at *
          obtain ⟨a0, a1, a2, a3⟩ := ka
          obtain ⟨b0, b1, b2, b3⟩ := kb
          have t0 : (x.p == x.p) = true := by simp
          have t1 : (x.a == x.a) = true := by simp
          have t2 : (x.b == x.b) = true := by simp
          have t3 : (x.r == x.r) = true := by simp
          go_wp2
          go_quiet (fail)
          go_wp2
          go_roundw
          case rel => exact ⟨k + 1, _, by omega, by go_num, NX.out, rfl⟩
          case measure => simp [intOf]; omega
        · have NO := Lib.hid (dsame_not hlt hlt2 e)
          have hne := dd_ne e
          clear e
          generalize P[k] = x at *
          generalize Q[k] = y at *
          obtain ⟨a0, a1, a2, a3⟩ := ka
          obtain ⟨b0, b1, b2, b3⟩ := kb
          rcases hne with q0 | ⟨q0, q1⟩ | ⟨q0, q1, q2⟩ | ⟨q0, q1, q2, q3⟩
          · have t0 : (x.p == y.p) = false := by rw [beq_eq_false_iff_ne]; exact q0
            clear q0
            go_wp2
            go_quiet (fail)
            go_wp2
            go_ret
            exact ⟨_, ret_bool NO.out.symm, by rw [World.drewN_drewN]⟩
          · have t0 : (x.p == y.p) = true := by rw [beq_iff_eq]; exact q0
            have t1 : (x.a == y.a) = false := by rw [beq_eq_false_iff_ne]; exact q1
            clear q0 q1
            go_wp2
            go_quiet (fail)
            go_wp2
            go_ret
            exact ⟨_, ret_bool NO.out.symm, by rw [World.drewN_drewN]⟩
          · have t0 : (x.p == y.p) = true := by rw [beq_iff_eq]; exact q0
            have t1 : (x.a == y.a) = true := by rw [beq_iff_eq]; exact q1
            have t2 : (x.b == y.b) = false := by rw [beq_eq_false_iff_ne]; exact q2
            clear q0 q1 q2
            go_wp2
            go_quiet (fail)
            go_wp2
            go_ret
            exact ⟨_, ret_bool NO.out.symm, by rw [World.drewN_drewN]⟩
          · have t0 : (x.p == y.p) = true := by rw [beq_iff_eq]; exact q0
            have t1 : (x.a == y.a) = true := by rw [beq_iff_eq]; exact q1
            have t2 : (x.b == y.b) = true := by rw [beq_iff_eq]; exact q2
            have t3 : (x.r == y.r) = false := by rw [beq_eq_false_iff_ne]; exact q3
            clear q0 q1 q2 q3
            go_wp2
            go_quiet (fail)
            go_wp2
            go_ret
            exact ⟨_, ret_bool NO.out.symm, by rw [World.drewN_drewN]⟩
      · obtain rfl : k = P.length := by omega
        have E := Lib.hid (dsameTo_end LE.out AT.out)
        go_wp2
        go_ret
        exact ⟨_, ret_bool E.out.symm, rfl⟩
  · have z0 : ((P.length : Int) != (Q.length : Int)) = true := by rw [bne_iff_ne]; omega
    have E := Lib.hid (dsame_len hl)
    clear hl ha hb
    go_enter Try.func63, Try.ntmps63
    go_wp2
    go_ret
    exact ⟨0, ret_bool E.out.symm, rfl⟩

/-- Alike in every field. -/
def hEq (a b : Ht) : Bool := a.s == b.s && a.n == b.n && a.c == b.c && a.g == b.g && a.d == b.d

/-- Both valid, and alike. -/
def hSame (a b : Ht) : Bool := hOK a && (hOK b && hEq a b)

theorem hSame_self {h : Ht} (q : hOK h = true) : hSame h h = true := by unfold hSame hEq; simp [q]

set_option maxRecDepth 100000 in
set_option maxHeartbeats 1000000 in
theorem sSameH_0 (u v : Value) (a b : Ht) (w : World) (hu : HostIn w u a) (hv : HostIn w v b) (E0 : (a.s == b.s) = false) :
    Calls Try.prog 85 #[u, v] w fun e w' => e = .returned (.bool false) ∧ Below w.heap.size w w' := by
  obtain ⟨x, y, z, q, rfl, hx, hy, hz, hq⟩ := hu
  obtain ⟨x', y', z', q', rfl, hx', hy', hz', hq'⟩ := hv
  have KX : Hid (∀ W, Below w.heap.size w W → Bols W x a.g ∧ Bols W x' b.g) := Lib.hid fun W h => ⟨bols_below hx h, bols_below hx' h⟩
  have KY : Hid (∀ W, Below w.heap.size w W → Ints W y a.s ∧ Ints W y' b.s) := Lib.hid fun W h => ⟨ints_below hy h, ints_below hy' h⟩
  have KZ : Hid (∀ W, Below w.heap.size w W → Ints W z a.n ∧ Ints W z' b.n) := Lib.hid fun W h => ⟨ints_below hz h, ints_below hz' h⟩
  have KQ : Hid (∀ W, Below w.heap.size w W → Dds W q a.d ∧ Dds W q' b.d) := Lib.hid fun W h => ⟨dds_below hq h, dds_below hq' h⟩
  obtain ⟨l1, A1, k1, rfl, _⟩ := hx
  obtain ⟨l2, A2, k2, rfl, _⟩ := hy
  obtain ⟨l3, A3, k3, rfl, _⟩ := hz
  obtain ⟨l4, A4, k4, rfl, _⟩ := hq
  obtain ⟨l5, B1, j1, rfl, _⟩ := hx'
  obtain ⟨l6, B2, j2, rfl, _⟩ := hy'
  obtain ⟨l7, B3, j3, rfl, _⟩ := hz'
  obtain ⟨l8, B4, j4, rfl, _⟩ := hq'
  unfold maxLen at l1 l2 l3 l4 l5 l6 l7 l8
  go_enter Try.func85, Try.ntmps85
  go_wp2_with (first | (go_at_call 102; first | ((with_reducible refine (sSame_any _ _ a.s b.s _ ?hA ?hB).mono ?_); (case hA => exact (KY.out _ (by repeat (first | with_reducible exact Below.refl _ _ | with_reducible refine below_drewN ?_ _ | with_reducible refine below_alloc ?_ _))).1); (case hB => exact (KY.out _ (by repeat (first | with_reducible exact Below.refl _ _ | with_reducible refine below_drewN ?_ _ | with_reducible refine below_alloc ?_ _))).2); rintro e w' ⟨n, rfl, rfl⟩; rw [E0]) | ((with_reducible refine (sSame_any _ _ a.n b.n _ ?hA ?hB).mono ?_); (case hA => exact (KZ.out _ (by repeat (first | with_reducible exact Below.refl _ _ | with_reducible refine below_drewN ?_ _ | with_reducible refine below_alloc ?_ _))).1); (case hB => exact (KZ.out _ (by repeat (first | with_reducible exact Below.refl _ _ | with_reducible refine below_drewN ?_ _ | with_reducible refine below_alloc ?_ _))).2); rintro e w' ⟨n, rfl, rfl⟩; rw [E1])))
  go_ret
  exact ⟨rfl, (by repeat (first | with_reducible exact Below.refl _ _ | with_reducible refine below_drewN ?_ _ | with_reducible refine below_alloc ?_ _))⟩

set_option maxRecDepth 100000 in
set_option maxHeartbeats 1000000 in
theorem sSameH_1 (u v : Value) (a b : Ht) (w : World) (hu : HostIn w u a) (hv : HostIn w v b) (E0 : (a.s == b.s) = true) (E1 : (a.n == b.n) = false) :
    Calls Try.prog 85 #[u, v] w fun e w' => e = .returned (.bool false) ∧ Below w.heap.size w w' := by
  obtain ⟨x, y, z, q, rfl, hx, hy, hz, hq⟩ := hu
  obtain ⟨x', y', z', q', rfl, hx', hy', hz', hq'⟩ := hv
  have KX : Hid (∀ W, Below w.heap.size w W → Bols W x a.g ∧ Bols W x' b.g) := Lib.hid fun W h => ⟨bols_below hx h, bols_below hx' h⟩
  have KY : Hid (∀ W, Below w.heap.size w W → Ints W y a.s ∧ Ints W y' b.s) := Lib.hid fun W h => ⟨ints_below hy h, ints_below hy' h⟩
  have KZ : Hid (∀ W, Below w.heap.size w W → Ints W z a.n ∧ Ints W z' b.n) := Lib.hid fun W h => ⟨ints_below hz h, ints_below hz' h⟩
  have KQ : Hid (∀ W, Below w.heap.size w W → Dds W q a.d ∧ Dds W q' b.d) := Lib.hid fun W h => ⟨dds_below hq h, dds_below hq' h⟩
  obtain ⟨l1, A1, k1, rfl, _⟩ := hx
  obtain ⟨l2, A2, k2, rfl, _⟩ := hy
  obtain ⟨l3, A3, k3, rfl, _⟩ := hz
  obtain ⟨l4, A4, k4, rfl, _⟩ := hq
  obtain ⟨l5, B1, j1, rfl, _⟩ := hx'
  obtain ⟨l6, B2, j2, rfl, _⟩ := hy'
  obtain ⟨l7, B3, j3, rfl, _⟩ := hz'
  obtain ⟨l8, B4, j4, rfl, _⟩ := hq'
  unfold maxLen at l1 l2 l3 l4 l5 l6 l7 l8
  go_enter Try.func85, Try.ntmps85
  go_wp2_with (first | (go_at_call 102; first | ((with_reducible refine (sSame_any _ _ a.s b.s _ ?hA ?hB).mono ?_); (case hA => exact (KY.out _ (by repeat (first | with_reducible exact Below.refl _ _ | with_reducible refine below_drewN ?_ _ | with_reducible refine below_alloc ?_ _))).1); (case hB => exact (KY.out _ (by repeat (first | with_reducible exact Below.refl _ _ | with_reducible refine below_drewN ?_ _ | with_reducible refine below_alloc ?_ _))).2); rintro e w' ⟨n, rfl, rfl⟩; rw [E0]) | ((with_reducible refine (sSame_any _ _ a.n b.n _ ?hA ?hB).mono ?_); (case hA => exact (KZ.out _ (by repeat (first | with_reducible exact Below.refl _ _ | with_reducible refine below_drewN ?_ _ | with_reducible refine below_alloc ?_ _))).1); (case hB => exact (KZ.out _ (by repeat (first | with_reducible exact Below.refl _ _ | with_reducible refine below_drewN ?_ _ | with_reducible refine below_alloc ?_ _))).2); rintro e w' ⟨n, rfl, rfl⟩; rw [E1])))
  go_ret
  exact ⟨rfl, (by repeat (first | with_reducible exact Below.refl _ _ | with_reducible refine below_drewN ?_ _ | with_reducible refine below_alloc ?_ _))⟩

set_option maxRecDepth 100000 in
set_option maxHeartbeats 1000000 in
theorem sSameH_2 (u v : Value) (a b : Ht) (w : World) (hu : HostIn w u a) (hv : HostIn w v b) (E0 : (a.s == b.s) = true) (E1 : (a.n == b.n) = true) (h2 : ¬ a.c = b.c) :
    Calls Try.prog 85 #[u, v] w fun e w' => e = .returned (.bool false) ∧ Below w.heap.size w w' := by
  obtain ⟨x, y, z, q, rfl, hx, hy, hz, hq⟩ := hu
  obtain ⟨x', y', z', q', rfl, hx', hy', hz', hq'⟩ := hv
  have KX : Hid (∀ W, Below w.heap.size w W → Bols W x a.g ∧ Bols W x' b.g) := Lib.hid fun W h => ⟨bols_below hx h, bols_below hx' h⟩
  have KY : Hid (∀ W, Below w.heap.size w W → Ints W y a.s ∧ Ints W y' b.s) := Lib.hid fun W h => ⟨ints_below hy h, ints_below hy' h⟩
  have KZ : Hid (∀ W, Below w.heap.size w W → Ints W z a.n ∧ Ints W z' b.n) := Lib.hid fun W h => ⟨ints_below hz h, ints_below hz' h⟩
  have KQ : Hid (∀ W, Below w.heap.size w W → Dds W q a.d ∧ Dds W q' b.d) := Lib.hid fun W h => ⟨dds_below hq h, dds_below hq' h⟩
  obtain ⟨l1, A1, k1, rfl, _⟩ := hx
  obtain ⟨l2, A2, k2, rfl, _⟩ := hy
  obtain ⟨l3, A3, k3, rfl, _⟩ := hz
  obtain ⟨l4, A4, k4, rfl, _⟩ := hq
  obtain ⟨l5, B1, j1, rfl, _⟩ := hx'
  obtain ⟨l6, B2, j2, rfl, _⟩ := hy'
  obtain ⟨l7, B3, j3, rfl, _⟩ := hz'
  obtain ⟨l8, B4, j4, rfl, _⟩ := hq'
  unfold maxLen at l1 l2 l3 l4 l5 l6 l7 l8
  have t2 : (a.c != b.c) = true := by rw [bne_iff_ne]; exact h2
  have u2 : (a.c == b.c) = false := by rw [beq_eq_false_iff_ne]; exact h2
  clear h2
  go_enter Try.func85, Try.ntmps85
  go_wp2_with (first | (go_at_call 102; first | ((with_reducible refine (sSame_any _ _ a.s b.s _ ?hA ?hB).mono ?_); (case hA => exact (KY.out _ (by repeat (first | with_reducible exact Below.refl _ _ | with_reducible refine below_drewN ?_ _ | with_reducible refine below_alloc ?_ _))).1); (case hB => exact (KY.out _ (by repeat (first | with_reducible exact Below.refl _ _ | with_reducible refine below_drewN ?_ _ | with_reducible refine below_alloc ?_ _))).2); rintro e w' ⟨n, rfl, rfl⟩; rw [E0]) | ((with_reducible refine (sSame_any _ _ a.n b.n _ ?hA ?hB).mono ?_); (case hA => exact (KZ.out _ (by repeat (first | with_reducible exact Below.refl _ _ | with_reducible refine below_drewN ?_ _ | with_reducible refine below_alloc ?_ _))).1); (case hB => exact (KZ.out _ (by repeat (first | with_reducible exact Below.refl _ _ | with_reducible refine below_drewN ?_ _ | with_reducible refine below_alloc ?_ _))).2); rintro e w' ⟨n, rfl, rfl⟩; rw [E1])))
  go_ret
  exact ⟨rfl, (by repeat (first | with_reducible exact Below.refl _ _ | with_reducible refine below_drewN ?_ _ | with_reducible refine below_alloc ?_ _))⟩

set_option maxRecDepth 100000 in
set_option maxHeartbeats 1000000 in
theorem sSameH_3 (u v : Value) (a b : Ht) (w : World) (hu : HostIn w u a) (hv : HostIn w v b) (E0 : (a.s == b.s) = true) (E1 : (a.n == b.n) = true) (h2 : a.c = b.c) (h3 : ¬ a.g.length = b.g.length) :
    Calls Try.prog 85 #[u, v] w fun e w' => e = .returned (.bool false) ∧ Below w.heap.size w w' := by
  obtain ⟨x, y, z, q, rfl, hx, hy, hz, hq⟩ := hu
  obtain ⟨x', y', z', q', rfl, hx', hy', hz', hq'⟩ := hv
  have KX : Hid (∀ W, Below w.heap.size w W → Bols W x a.g ∧ Bols W x' b.g) := Lib.hid fun W h => ⟨bols_below hx h, bols_below hx' h⟩
  have KY : Hid (∀ W, Below w.heap.size w W → Ints W y a.s ∧ Ints W y' b.s) := Lib.hid fun W h => ⟨ints_below hy h, ints_below hy' h⟩
  have KZ : Hid (∀ W, Below w.heap.size w W → Ints W z a.n ∧ Ints W z' b.n) := Lib.hid fun W h => ⟨ints_below hz h, ints_below hz' h⟩
  have KQ : Hid (∀ W, Below w.heap.size w W → Dds W q a.d ∧ Dds W q' b.d) := Lib.hid fun W h => ⟨dds_below hq h, dds_below hq' h⟩
  obtain ⟨l1, A1, k1, rfl, _⟩ := hx
  obtain ⟨l2, A2, k2, rfl, _⟩ := hy
  obtain ⟨l3, A3, k3, rfl, _⟩ := hz
  obtain ⟨l4, A4, k4, rfl, _⟩ := hq
  obtain ⟨l5, B1, j1, rfl, _⟩ := hx'
  obtain ⟨l6, B2, j2, rfl, _⟩ := hy'
  obtain ⟨l7, B3, j3, rfl, _⟩ := hz'
  obtain ⟨l8, B4, j4, rfl, _⟩ := hq'
  unfold maxLen at l1 l2 l3 l4 l5 l6 l7 l8
  have t2 : (a.c != b.c) = false := by rw [bne_eq_false_iff_eq]; exact h2
  have u2 : (a.c == b.c) = true := by rw [beq_iff_eq]; exact h2
  clear h2
  have t3 : ((a.g.length : Int) != b.g.length) = true := by rw [bne_iff_ne]; omega
  clear h3
  go_enter Try.func85, Try.ntmps85
  go_wp2_with (first | (go_at_call 102; first | ((with_reducible refine (sSame_any _ _ a.s b.s _ ?hA ?hB).mono ?_); (case hA => exact (KY.out _ (by repeat (first | with_reducible exact Below.refl _ _ | with_reducible refine below_drewN ?_ _ | with_reducible refine below_alloc ?_ _))).1); (case hB => exact (KY.out _ (by repeat (first | with_reducible exact Below.refl _ _ | with_reducible refine below_drewN ?_ _ | with_reducible refine below_alloc ?_ _))).2); rintro e w' ⟨n, rfl, rfl⟩; rw [E0]) | ((with_reducible refine (sSame_any _ _ a.n b.n _ ?hA ?hB).mono ?_); (case hA => exact (KZ.out _ (by repeat (first | with_reducible exact Below.refl _ _ | with_reducible refine below_drewN ?_ _ | with_reducible refine below_alloc ?_ _))).1); (case hB => exact (KZ.out _ (by repeat (first | with_reducible exact Below.refl _ _ | with_reducible refine below_drewN ?_ _ | with_reducible refine below_alloc ?_ _))).2); rintro e w' ⟨n, rfl, rfl⟩; rw [E1])))
  go_ret
  exact ⟨rfl, (by repeat (first | with_reducible exact Below.refl _ _ | with_reducible refine below_drewN ?_ _ | with_reducible refine below_alloc ?_ _))⟩

set_option maxRecDepth 100000 in
set_option maxHeartbeats 1000000 in
theorem sSameH_4 (u v : Value) (a b : Ht) (w : World) (hu : HostIn w u a) (hv : HostIn w v b) (E0 : (a.s == b.s) = true) (E1 : (a.n == b.n) = true) (h2 : a.c = b.c) (h3 : a.g.length = b.g.length) (h4 : ¬ a.d.length = b.d.length) :
    Calls Try.prog 85 #[u, v] w fun e w' => e = .returned (.bool false) ∧ Below w.heap.size w w' := by
  obtain ⟨x, y, z, q, rfl, hx, hy, hz, hq⟩ := hu
  obtain ⟨x', y', z', q', rfl, hx', hy', hz', hq'⟩ := hv
  have KX : Hid (∀ W, Below w.heap.size w W → Bols W x a.g ∧ Bols W x' b.g) := Lib.hid fun W h => ⟨bols_below hx h, bols_below hx' h⟩
  have KY : Hid (∀ W, Below w.heap.size w W → Ints W y a.s ∧ Ints W y' b.s) := Lib.hid fun W h => ⟨ints_below hy h, ints_below hy' h⟩
  have KZ : Hid (∀ W, Below w.heap.size w W → Ints W z a.n ∧ Ints W z' b.n) := Lib.hid fun W h => ⟨ints_below hz h, ints_below hz' h⟩
  have KQ : Hid (∀ W, Below w.heap.size w W → Dds W q a.d ∧ Dds W q' b.d) := Lib.hid fun W h => ⟨dds_below hq h, dds_below hq' h⟩
  obtain ⟨l1, A1, k1, rfl, _⟩ := hx
  obtain ⟨l2, A2, k2, rfl, _⟩ := hy
  obtain ⟨l3, A3, k3, rfl, _⟩ := hz
  obtain ⟨l4, A4, k4, rfl, _⟩ := hq
  obtain ⟨l5, B1, j1, rfl, _⟩ := hx'
  obtain ⟨l6, B2, j2, rfl, _⟩ := hy'
  obtain ⟨l7, B3, j3, rfl, _⟩ := hz'
  obtain ⟨l8, B4, j4, rfl, _⟩ := hq'
  unfold maxLen at l1 l2 l3 l4 l5 l6 l7 l8
  have t2 : (a.c != b.c) = false := by rw [bne_eq_false_iff_eq]; exact h2
  have u2 : (a.c == b.c) = true := by rw [beq_iff_eq]; exact h2
  clear h2
  have t3 : ((a.g.length : Int) != b.g.length) = false := by rw [bne_eq_false_iff_eq]; omega
  have t4 : ((a.d.length : Int) != b.d.length) = true := by rw [bne_iff_ne]; omega
  clear h3
  clear h4
  go_enter Try.func85, Try.ntmps85
  go_wp2_with (first | (go_at_call 102; first | ((with_reducible refine (sSame_any _ _ a.s b.s _ ?hA ?hB).mono ?_); (case hA => exact (KY.out _ (by repeat (first | with_reducible exact Below.refl _ _ | with_reducible refine below_drewN ?_ _ | with_reducible refine below_alloc ?_ _))).1); (case hB => exact (KY.out _ (by repeat (first | with_reducible exact Below.refl _ _ | with_reducible refine below_drewN ?_ _ | with_reducible refine below_alloc ?_ _))).2); rintro e w' ⟨n, rfl, rfl⟩; rw [E0]) | ((with_reducible refine (sSame_any _ _ a.n b.n _ ?hA ?hB).mono ?_); (case hA => exact (KZ.out _ (by repeat (first | with_reducible exact Below.refl _ _ | with_reducible refine below_drewN ?_ _ | with_reducible refine below_alloc ?_ _))).1); (case hB => exact (KZ.out _ (by repeat (first | with_reducible exact Below.refl _ _ | with_reducible refine below_drewN ?_ _ | with_reducible refine below_alloc ?_ _))).2); rintro e w' ⟨n, rfl, rfl⟩; rw [E1])))
  go_ret
  exact ⟨rfl, (by repeat (first | with_reducible exact Below.refl _ _ | with_reducible refine below_drewN ?_ _ | with_reducible refine below_alloc ?_ _))⟩

set_option maxRecDepth 100000 in
set_option maxHeartbeats 1000000 in
theorem sSameH_5 (u v : Value) (a b : Ht) (w : World) (hu : HostIn w u a) (hv : HostIn w v b) (E0 : (a.s == b.s) = true) (E1 : (a.n == b.n) = true) (h2 : a.c = b.c) (h3 : a.g.length = b.g.length) (h4 : a.d.length = b.d.length) :
    Calls Try.prog 85 #[u, v] w fun e w' => e = .returned (.bool (a.g == b.g && a.d == b.d)) ∧ Below w.heap.size w w' := by
  obtain ⟨x, y, z, q, rfl, hx, hy, hz, hq⟩ := hu
  obtain ⟨x', y', z', q', rfl, hx', hy', hz', hq'⟩ := hv
  have KX : Hid (∀ W, Below w.heap.size w W → Bols W x a.g ∧ Bols W x' b.g) := Lib.hid fun W h => ⟨bols_below hx h, bols_below hx' h⟩
  have KY : Hid (∀ W, Below w.heap.size w W → Ints W y a.s ∧ Ints W y' b.s) := Lib.hid fun W h => ⟨ints_below hy h, ints_below hy' h⟩
  have KZ : Hid (∀ W, Below w.heap.size w W → Ints W z a.n ∧ Ints W z' b.n) := Lib.hid fun W h => ⟨ints_below hz h, ints_below hz' h⟩
  have KQ : Hid (∀ W, Below w.heap.size w W → Dds W q a.d ∧ Dds W q' b.d) := Lib.hid fun W h => ⟨dds_below hq h, dds_below hq' h⟩
  obtain ⟨l1, A1, k1, rfl, _⟩ := hx
  obtain ⟨l2, A2, k2, rfl, _⟩ := hy
  obtain ⟨l3, A3, k3, rfl, _⟩ := hz
  obtain ⟨l4, A4, k4, rfl, _⟩ := hq
  obtain ⟨l5, B1, j1, rfl, _⟩ := hx'
  obtain ⟨l6, B2, j2, rfl, _⟩ := hy'
  obtain ⟨l7, B3, j3, rfl, _⟩ := hz'
  obtain ⟨l8, B4, j4, rfl, _⟩ := hq'
  unfold maxLen at l1 l2 l3 l4 l5 l6 l7 l8
  have t2 : (a.c != b.c) = false := by rw [bne_eq_false_iff_eq]; exact h2
  have u2 : (a.c == b.c) = true := by rw [beq_iff_eq]; exact h2
  clear h2
  have t3 : ((a.g.length : Int) != b.g.length) = false := by rw [bne_eq_false_iff_eq]; omega
  have t4 : ((a.d.length : Int) != b.d.length) = false := by rw [bne_eq_false_iff_eq]; omega
  have LG := Lib.hid h3
  have LD := Lib.hid h4
  have g3 : a.g.length ≤ b.g.length := by omega
  have g4 : a.d.length ≤ b.d.length := by omega
  clear h3 h4
  have WA := Lib.hid (whole_alloc (whole_new w 27 #[.slice A1 a.g.length k1, .slice A2 a.s.length k2, .slice A3 a.n.length k3, .int .i64 a.c, .slice A4 a.d.length k4]) (.cells #[.slice B1 b.g.length j1, .slice B2 b.s.length j2, .slice B3 b.n.length j3, .int .i64 b.c, .slice B4 b.d.length j4] 27))
  have WB := Lib.hid (whole_new1 w (.cells #[.slice A1 a.g.length k1, .slice A2 a.s.length k2, .slice A3 a.n.length k3, .int .i64 a.c, .slice A4 a.d.length k4] 27) 27 #[.slice B1 b.g.length j1, .slice B2 b.s.length j2, .slice B3 b.n.length j3, .int .i64 b.c, .slice B4 b.d.length j4])
  have WD : Hid (∀ n : Nat, ∀ g cs, Whole ((w.alloc (.cells #[.slice A1 a.g.length k1, .slice A2 a.s.length k2, .slice A3 a.n.length k3, .int .i64 a.c, .slice A4 a.d.length k4] 27)).alloc (.cells #[.slice B1 b.g.length j1, .slice B2 b.s.length j2, .slice B3 b.n.length j3, .int .i64 b.c, .slice B4 b.d.length j4] 27)) g 27 cs → Whole (((w.alloc (.cells #[.slice A1 a.g.length k1, .slice A2 a.s.length k2, .slice A3 a.n.length k3, .int .i64 a.c, .slice A4 a.d.length k4] 27)).alloc (.cells #[.slice B1 b.g.length j1, .slice B2 b.s.length j2, .slice B3 b.n.length j3, .int .i64 b.c, .slice B4 b.d.length j4] 27)).drewN n) g 27 cs) := Lib.hid fun n g cs h => h
  go_enter Try.func85, Try.ntmps85
  go_wp2_with (first | (go_at_call 102; first | ((with_reducible refine (sSame_any _ _ a.s b.s _ ?hA ?hB).mono ?_); (case hA => exact (KY.out _ (by repeat (first | with_reducible exact Below.refl _ _ | with_reducible refine below_drewN ?_ _ | with_reducible refine below_alloc ?_ _))).1); (case hB => exact (KY.out _ (by repeat (first | with_reducible exact Below.refl _ _ | with_reducible refine below_drewN ?_ _ | with_reducible refine below_alloc ?_ _))).2); rintro e w' ⟨n, rfl, rfl⟩; rw [E0]) | ((with_reducible refine (sSame_any _ _ a.n b.n _ ?hA ?hB).mono ?_); (case hA => exact (KZ.out _ (by repeat (first | with_reducible exact Below.refl _ _ | with_reducible refine below_drewN ?_ _ | with_reducible refine below_alloc ?_ _))).1); (case hB => exact (KZ.out _ (by repeat (first | with_reducible exact Below.refl _ _ | with_reducible refine below_drewN ?_ _ | with_reducible refine below_alloc ?_ _))).2); rintro e w' ⟨n, rfl, rfl⟩; rw [E1])))
  go_loopw [5] (fun i wr => ∃ k : Nat, k ≤ a.g.length ∧ i = .int .i64 k ∧ BSameTo a.g b.g k ∧ Below w.heap.size w wr ∧ Whole wr w.heap.size 27 #[.slice A1 a.g.length k1, .slice A2 a.s.length k2, .slice A3 a.n.length k3, .int .i64 a.c, .slice A4 a.d.length k4] ∧ Whole wr (w.heap.size + 1) 27 #[.slice B1 b.g.length j1, .slice B2 b.s.length j2, .slice B3 b.n.length j3, .int .i64 b.c, .slice B4 b.d.length j4]) (fun i _ => a.g.length - (intOf i).toNat)
  case atStart => exact ⟨0, Nat.zero_le _, rfl, by unfold BSameTo; simp, (by repeat (first | with_reducible exact Below.refl _ _ | with_reducible refine below_drewN ?_ _ | with_reducible refine below_alloc ?_ _)), WD.out _ _ _ WA.out, WD.out _ _ _ WB.out⟩
  case round =>
    obtain ⟨k, hk, rfl, hat, hb, hwa, hwb⟩ := hrel
    have AT := Lib.hid hat
    have B := Lib.hid hb
    have VA := Lib.hid hwa
    have VB := Lib.hid hwb
    obtain ⟨c0, c1, c2, c3, c4⟩ := five_cells hwa
    obtain ⟨e0, e1, e2, e3, e4⟩ := five_cells hwb
    clear hat hb hwa hwb WA WB WD
    by_cases hlt : k < a.g.length
    · have hlt2 : k < b.g.length := by omega
      obtain ⟨⟨_, A', ca', he, hca⟩, ⟨_, B', cb', he', hcb⟩⟩ := KX.out _ B.out
      simp only [Value.slice.injEq, true_and] at he he'
      obtain ⟨rfl, rfl⟩ := he
      obtain ⟨rfl, rfl⟩ := he'
      obtain ⟨ga, rfl, hca2⟩ := hca (by omega)
      obtain ⟨gb, rfl, hcb2⟩ := hcb (by omega)
      have ka := hca2 k hlt
      have kb := hcb2 k hlt2
      clear hca hcb hca2 hcb2
      by_cases e : a.g[k] = b.g[k]
      · have NX := Lib.hid (bsameTo_next AT.out hlt hlt2 e)
        rw [← e] at kb
        clear e
        generalize a.g[k] = x at *
        cases x
        all_goals
          go_wp2
          go_quiet (fail)
          go_wp2
          go_roundw
          case rel => exact ⟨k + 1, by omega, by go_num, NX.out, below_drewN B.out _, VA.out, VB.out⟩
          case measure => simp [intOf]; omega
      · have NO := Lib.hid (show (a.g == b.g && a.d == b.d) = false by rw [bsame_not hlt hlt2 e]; rfl)
        have e2 : b.g[k] = !a.g[k] := by cases h : a.g[k] <;> cases h2 : b.g[k] <;> simp_all
        rw [e2] at kb
        clear e e2
        generalize a.g[k] = x at *
        cases x
        all_goals
          simp only [Bool.not_true, Bool.not_false] at kb
          go_wp2
          go_quiet (fail)
          go_wp2
          go_ret
          exact ⟨ret_bool NO.out.symm, below_drewN B.out _⟩
    · obtain rfl : k = a.g.length := by omega
      have EG := Lib.hid (bsameTo_end LG.out AT.out)
      go_wp2
      go_loopw [6] (fun i wr => ∃ k : Nat, k ≤ a.d.length ∧ i = .int .i64 k ∧ DSameTo a.d b.d k ∧ Below w.heap.size w wr ∧ Whole wr w.heap.size 27 #[.slice A1 a.g.length k1, .slice A2 a.s.length k2, .slice A3 a.n.length k3, .int .i64 a.c, .slice A4 a.d.length k4] ∧ Whole wr (w.heap.size + 1) 27 #[.slice B1 b.g.length j1, .slice B2 b.s.length j2, .slice B3 b.n.length j3, .int .i64 b.c, .slice B4 b.d.length j4]) (fun i _ => a.d.length - (intOf i).toNat)
      case atStart => exact ⟨0, Nat.zero_le _, rfl, by unfold DSameTo; simp, B.out, VA.out, VB.out⟩
      case round =>
        clear c0 c1 c2 c3 c4 e0 e1 e2 e3 e4
        obtain ⟨k, hk2, rfl, hat, hb, hwa, hwb⟩ := hrel
        have AT := Lib.hid hat
        have B := Lib.hid hb
        have VA := Lib.hid hwa
        have VB := Lib.hid hwb
        obtain ⟨c0, c1, c2, c3, c4⟩ := five_cells hwa
        obtain ⟨e0, e1, e2, e3, e4⟩ := five_cells hwb
        clear hat hb hwa hwb
        by_cases hlt : k < a.d.length
        · have hlt2 : k < b.d.length := by omega
          obtain ⟨⟨_, A', ca', he, hca⟩, ⟨_, B', cb', he', hcb⟩⟩ := KQ.out _ B.out
          simp only [Value.slice.injEq, true_and] at he he'
          obtain ⟨rfl, rfl⟩ := he
          obtain ⟨rfl, rfl⟩ := he'
          obtain ⟨ga, rfl, hca2⟩ := hca (by omega)
          obtain ⟨gb, rfl, hcb2⟩ := hcb (by omega)
          have ka := hca2 k hlt
          have kb := hcb2 k hlt2
          clear hca hcb hca2 hcb2
          by_cases e : a.d[k] = b.d[k]
          · have NX := Lib.hid (dsameTo_next AT.out hlt hlt2 e)
            rw [← e] at kb
            clear e
            generalize a.d[k] = x at *
            obtain ⟨a0, a1, a2, a3⟩ := ka
            obtain ⟨b0, b1, b2, b3⟩ := kb
            have t0 : (x.p == x.p) = true := by simp
            have t1 : (x.a == x.a) = true := by simp
            have t2 : (x.b == x.b) = true := by simp
            have t3 : (x.r == x.r) = true := by simp
            go_wp2
            go_quiet (fail)
            go_wp2
            go_roundw
            case rel => exact ⟨k + 1, by omega, by go_num, NX.out, below_drewN B.out _, VA.out, VB.out⟩
            case measure => simp [intOf]; omega
          · have NO := Lib.hid (dsame_not hlt hlt2 e)
            have hne := dd_ne e
            clear e
            generalize a.d[k] = x at *
            generalize b.d[k] = y at *
            obtain ⟨a0, a1, a2, a3⟩ := ka
            obtain ⟨b0, b1, b2, b3⟩ := kb
            rcases hne with q0 | ⟨q0, q1⟩ | ⟨q0, q1, q2⟩ | ⟨q0, q1, q2, q3⟩
            · have t0 : (x.p == y.p) = false := by rw [beq_eq_false_iff_ne]; exact q0
              clear q0
              go_wp2
              go_quiet (fail)
              go_wp2
              have N2 := Lib.hid (show (a.g == b.g && a.d == b.d) = false by rw [EG.out, NO.out]; rfl)
              go_ret
              exact ⟨ret_bool N2.out.symm, below_drewN B.out _⟩
            · have t0 : (x.p == y.p) = true := by rw [beq_iff_eq]; exact q0
              have t1 : (x.a == y.a) = false := by rw [beq_eq_false_iff_ne]; exact q1
              clear q0 q1
              go_wp2
              go_quiet (fail)
              go_wp2
              have N2 := Lib.hid (show (a.g == b.g && a.d == b.d) = false by rw [EG.out, NO.out]; rfl)
              go_ret
              exact ⟨ret_bool N2.out.symm, below_drewN B.out _⟩
            · have t0 : (x.p == y.p) = true := by rw [beq_iff_eq]; exact q0
              have t1 : (x.a == y.a) = true := by rw [beq_iff_eq]; exact q1
              have t2 : (x.b == y.b) = false := by rw [beq_eq_false_iff_ne]; exact q2
              clear q0 q1 q2
              go_wp2
              go_quiet (fail)
              go_wp2
              have N2 := Lib.hid (show (a.g == b.g && a.d == b.d) = false by rw [EG.out, NO.out]; rfl)
              go_ret
              exact ⟨ret_bool N2.out.symm, below_drewN B.out _⟩
            · have t0 : (x.p == y.p) = true := by rw [beq_iff_eq]; exact q0
              have t1 : (x.a == y.a) = true := by rw [beq_iff_eq]; exact q1
              have t2 : (x.b == y.b) = true := by rw [beq_iff_eq]; exact q2
              have t3 : (x.r == y.r) = false := by rw [beq_eq_false_iff_ne]; exact q3
              clear q0 q1 q2 q3
              go_wp2
              go_quiet (fail)
              go_wp2
              have N2 := Lib.hid (show (a.g == b.g && a.d == b.d) = false by rw [EG.out, NO.out]; rfl)
              go_ret
              exact ⟨ret_bool N2.out.symm, below_drewN B.out _⟩
        · obtain rfl : k = a.d.length := by omega
          have E := Lib.hid (show (a.g == b.g && a.d == b.d) = true by rw [EG.out, dsameTo_end LD.out AT.out]; rfl)
          go_wp2
          go_ret
          exact ⟨ret_bool E.out.symm, B.out⟩

theorem sSameH_any (u v : Value) (a b : Ht) (w : World) (hu : HostIn w u a) (hv : HostIn w v b) :
    Calls Try.prog 85 #[u, v] w fun e w' => e = .returned (.bool (hEq a b)) ∧ Below w.heap.size w w' := by
  unfold hEq
  cases h0 : a.s == b.s
  · exact sSameH_0 u v a b w hu hv h0
  cases h1 : a.n == b.n
  · exact sSameH_1 u v a b w hu hv h0 h1
  by_cases h2 : a.c = b.c
  rotate_left
  · rw [show (a.c == b.c) = false by rw [beq_eq_false_iff_ne]; exact h2]; exact sSameH_2 u v a b w hu hv h0 h1 h2
  rw [show (a.c == b.c) = true by rw [beq_iff_eq]; exact h2]
  by_cases h3 : a.g.length = b.g.length
  rotate_left
  · rw [bsame_len h3]; exact sSameH_3 u v a b w hu hv h0 h1 h2 h3
  by_cases h4 : a.d.length = b.d.length
  rotate_left
  · rw [dsame_len h4, Bool.and_false]; exact sSameH_4 u v a b w hu hv h0 h1 h2 h3 h4
  exact sSameH_5 u v a b w hu hv h0 h1 h2 h3 h4

set_option maxRecDepth 100000 in
set_option maxHeartbeats 1000000 in
theorem sSameHost_any (u v : Value) (a b : Ht) (w : World) (hu : HostIn w u a) (hv : HostIn w v b) :
    Calls Try.prog 46 #[u, v] w fun e w' => e = .returned (.bool (hSame a b)) ∧ Below w.heap.size w w' := by
  have HU := Lib.hid hu
  have HV := Lib.hid hv
  obtain ⟨A1, k1, A2, k2, A3, k3, A4, k4, rfl⟩ := hostIn_form hu
  obtain ⟨B1, j1, B2, j2, B3, j3, B4, j4, rfl⟩ := hostIn_form hv
  clear hu hv
  cases o1 : hOK a
  · have R : Hid (hSame a b = false) := Lib.hid (by unfold hSame; rw [o1]; rfl)
    go_enter Try.func46, Try.ntmps46
    go_wp2_with (first | (go_at_call 55; first | ((with_reducible refine (sHOK_any (.agg #[.slice A1 a.g.length k1, .slice A2 a.s.length k2, .slice A3 a.n.length k3, .int .i64 a.c, .slice A4 a.d.length k4]) a _ (hostIn_below HU.out (below_alloc (below_alloc (Below.refl _ _) _) _))).mono ?_); rintro e w1 ⟨rfl, hb⟩; have BX := Lib.hid (below_step (below_alloc (below_alloc (Below.refl _ _) _) _) hb); have T1 := whole_b hb (whole_alloc (whole_new w _ _) _); have T2 := whole_b hb (whole_new1 w _ _ _); obtain ⟨c0, c1, c2, c3, c4⟩ := five_cells T1; obtain ⟨d0, d1, d2, d3, d4⟩ := five_cells T2; clear hb; rw [o1]) | ((with_reducible refine (sHOK_any (.agg #[.slice B1 b.g.length j1, .slice B2 b.s.length j2, .slice B3 b.n.length j3, .int .i64 b.c, .slice B4 b.d.length j4]) b _ (hostIn_below HV.out BX.out)).mono ?_); rintro e w2 ⟨rfl, hb⟩; have BY := Lib.hid (below_step BX.out hb); clear c0 c1 c2 c3 c4 d0 d1 d2 d3 d4; have U1 := whole_b hb T1; have U2 := whole_b hb T2; obtain ⟨c0, c1, c2, c3, c4⟩ := five_cells U1; obtain ⟨d0, d1, d2, d3, d4⟩ := five_cells U2; clear hb; rw [o2])))
    go_ret
    exact ⟨ret_bool R.out.symm, BX.out⟩
  cases o2 : hOK b
  · have R : Hid (hSame a b = false) := Lib.hid (by unfold hSame; rw [o1, o2]; rfl)
    go_enter Try.func46, Try.ntmps46
    go_wp2_with (first | (go_at_call 55; first | ((with_reducible refine (sHOK_any (.agg #[.slice A1 a.g.length k1, .slice A2 a.s.length k2, .slice A3 a.n.length k3, .int .i64 a.c, .slice A4 a.d.length k4]) a _ (hostIn_below HU.out (below_alloc (below_alloc (Below.refl _ _) _) _))).mono ?_); rintro e w1 ⟨rfl, hb⟩; have BX := Lib.hid (below_step (below_alloc (below_alloc (Below.refl _ _) _) _) hb); have T1 := whole_b hb (whole_alloc (whole_new w _ _) _); have T2 := whole_b hb (whole_new1 w _ _ _); obtain ⟨c0, c1, c2, c3, c4⟩ := five_cells T1; obtain ⟨d0, d1, d2, d3, d4⟩ := five_cells T2; clear hb; rw [o1]) | ((with_reducible refine (sHOK_any (.agg #[.slice B1 b.g.length j1, .slice B2 b.s.length j2, .slice B3 b.n.length j3, .int .i64 b.c, .slice B4 b.d.length j4]) b _ (hostIn_below HV.out BX.out)).mono ?_); rintro e w2 ⟨rfl, hb⟩; have BY := Lib.hid (below_step BX.out hb); clear c0 c1 c2 c3 c4 d0 d1 d2 d3 d4; have U1 := whole_b hb T1; have U2 := whole_b hb T2; obtain ⟨c0, c1, c2, c3, c4⟩ := five_cells U1; obtain ⟨d0, d1, d2, d3, d4⟩ := five_cells U2; clear hb; rw [o2])))
    go_ret
    exact ⟨ret_bool R.out.symm, BY.out⟩
  have R : Hid (hSame a b = hEq a b) := Lib.hid (by unfold hSame; rw [o1, o2]; rfl)
  go_enter Try.func46, Try.ntmps46
  go_wp2_with (first | (go_at_call 55; first | ((with_reducible refine (sHOK_any (.agg #[.slice A1 a.g.length k1, .slice A2 a.s.length k2, .slice A3 a.n.length k3, .int .i64 a.c, .slice A4 a.d.length k4]) a _ (hostIn_below HU.out (below_alloc (below_alloc (Below.refl _ _) _) _))).mono ?_); rintro e w1 ⟨rfl, hb⟩; have BX := Lib.hid (below_step (below_alloc (below_alloc (Below.refl _ _) _) _) hb); have T1 := whole_b hb (whole_alloc (whole_new w _ _) _); have T2 := whole_b hb (whole_new1 w _ _ _); obtain ⟨c0, c1, c2, c3, c4⟩ := five_cells T1; obtain ⟨d0, d1, d2, d3, d4⟩ := five_cells T2; clear hb; rw [o1]) | ((with_reducible refine (sHOK_any (.agg #[.slice B1 b.g.length j1, .slice B2 b.s.length j2, .slice B3 b.n.length j3, .int .i64 b.c, .slice B4 b.d.length j4]) b _ (hostIn_below HV.out BX.out)).mono ?_); rintro e w2 ⟨rfl, hb⟩; have BY := Lib.hid (below_step BX.out hb); clear c0 c1 c2 c3 c4 d0 d1 d2 d3 d4; have U1 := whole_b hb T1; have U2 := whole_b hb T2; obtain ⟨c0, c1, c2, c3, c4⟩ := five_cells U1; obtain ⟨d0, d1, d2, d3, d4⟩ := five_cells U2; clear hb; rw [o2])) | (go_at_call 85; refine (sSameH_any _ _ a b _ (hostIn_below HU.out BY.out) (hostIn_below HV.out BY.out)).mono ?_; rintro e w3 ⟨rfl, hb⟩; have BZ := Lib.hid (below_step BY.out hb); clear hb))
  go_ret
  exact ⟨ret_bool R.out.symm, BZ.out⟩

set_option maxRecDepth 100000 in
set_option maxHeartbeats 1000000 in
theorem iSameHost_any (u v : Value) (a b : Ht) (w : World) (hu : HostIn w u a) (hv : HostIn w v b) :
    Calls Try.prog 15 #[u, v] w fun e w' => e = .returned (.bool (hSame a b)) ∧ Below w.heap.size w w' := by
  have HU := Lib.hid hu
  have HV := Lib.hid hv
  obtain ⟨x, y, z, q, rfl, hx, hy, hz, hq⟩ := hu
  obtain ⟨x', y', z', q', rfl, hx', hy', hz', hq'⟩ := hv
  have KX : Hid (∀ W, Below w.heap.size w W → Bols W x a.g ∧ Bols W x' b.g) := Lib.hid fun W h => ⟨bols_below hx h, bols_below hx' h⟩
  have KY : Hid (∀ W, Below w.heap.size w W → Ints W y a.s ∧ Ints W y' b.s) := Lib.hid fun W h => ⟨ints_below hy h, ints_below hy' h⟩
  have KZ : Hid (∀ W, Below w.heap.size w W → Ints W z a.n ∧ Ints W z' b.n) := Lib.hid fun W h => ⟨ints_below hz h, ints_below hz' h⟩
  have KQ : Hid (∀ W, Below w.heap.size w W → Dds W q a.d ∧ Dds W q' b.d) := Lib.hid fun W h => ⟨dds_below hq h, dds_below hq' h⟩
  obtain ⟨l1, A1, k1, rfl, _⟩ := hx
  obtain ⟨l2, A2, k2, rfl, _⟩ := hy
  obtain ⟨l3, A3, k3, rfl, _⟩ := hz
  obtain ⟨l4, A4, k4, rfl, _⟩ := hq
  obtain ⟨l5, B1, j1, rfl, _⟩ := hx'
  obtain ⟨l6, B2, j2, rfl, _⟩ := hy'
  obtain ⟨l7, B3, j3, rfl, _⟩ := hz'
  obtain ⟨l8, B4, j4, rfl, _⟩ := hq'
  unfold maxLen at l1 l2 l3 l4 l5 l6 l7 l8
  clear l1 l2 l3 l4 l5 l6 l7 l8
  cases o1 : hOK a
  · have R : Hid (hSame a b = false) := Lib.hid (by unfold hSame; rw [o1]; rfl)
    go_enter Try.func15, Try.ntmps15
    go_wp2_with (first | (go_at_call 28; first | ((with_reducible refine (iHOK_any (.agg #[.slice A1 a.g.length k1, .slice A2 a.s.length k2, .slice A3 a.n.length k3, .int .i64 a.c, .slice A4 a.d.length k4]) a _ (hostIn_below HU.out (below_alloc (below_alloc (Below.refl _ _) _) _))).mono ?_); rintro e w1 ⟨rfl, hb⟩; have BX := Lib.hid (below_step (below_alloc (below_alloc (Below.refl _ _) _) _) hb); have T1 := whole_b hb (whole_alloc (whole_new w _ _) _); have T2 := whole_b hb (whole_new1 w _ _ _); obtain ⟨c0, c1, c2, c3, c4⟩ := five_cells T1; obtain ⟨d0, d1, d2, d3, d4⟩ := five_cells T2; clear hb; rw [o1]) | ((with_reducible refine (iHOK_any (.agg #[.slice B1 b.g.length j1, .slice B2 b.s.length j2, .slice B3 b.n.length j3, .int .i64 b.c, .slice B4 b.d.length j4]) b _ (hostIn_below HV.out BX.out)).mono ?_); rintro e w2 ⟨rfl, hb⟩; have BY := Lib.hid (below_step BX.out hb); clear c0 c1 c2 c3 c4 d0 d1 d2 d3 d4; have U1 := whole_b hb T1; have U2 := whole_b hb T2; obtain ⟨c0, c1, c2, c3, c4⟩ := five_cells U1; obtain ⟨d0, d1, d2, d3, d4⟩ := five_cells U2; clear hb; rw [o2])))
    go_ret
    exact ⟨ret_bool R.out.symm, BX.out⟩
  cases o2 : hOK b
  · have R : Hid (hSame a b = false) := Lib.hid (by unfold hSame; rw [o1, o2]; rfl)
    go_enter Try.func15, Try.ntmps15
    go_wp2_with (first | (go_at_call 28; first | ((with_reducible refine (iHOK_any (.agg #[.slice A1 a.g.length k1, .slice A2 a.s.length k2, .slice A3 a.n.length k3, .int .i64 a.c, .slice A4 a.d.length k4]) a _ (hostIn_below HU.out (below_alloc (below_alloc (Below.refl _ _) _) _))).mono ?_); rintro e w1 ⟨rfl, hb⟩; have BX := Lib.hid (below_step (below_alloc (below_alloc (Below.refl _ _) _) _) hb); have T1 := whole_b hb (whole_alloc (whole_new w _ _) _); have T2 := whole_b hb (whole_new1 w _ _ _); obtain ⟨c0, c1, c2, c3, c4⟩ := five_cells T1; obtain ⟨d0, d1, d2, d3, d4⟩ := five_cells T2; clear hb; rw [o1]) | ((with_reducible refine (iHOK_any (.agg #[.slice B1 b.g.length j1, .slice B2 b.s.length j2, .slice B3 b.n.length j3, .int .i64 b.c, .slice B4 b.d.length j4]) b _ (hostIn_below HV.out BX.out)).mono ?_); rintro e w2 ⟨rfl, hb⟩; have BY := Lib.hid (below_step BX.out hb); clear c0 c1 c2 c3 c4 d0 d1 d2 d3 d4; have U1 := whole_b hb T1; have U2 := whole_b hb T2; obtain ⟨c0, c1, c2, c3, c4⟩ := five_cells U1; obtain ⟨d0, d1, d2, d3, d4⟩ := five_cells U2; clear hb; rw [o2])))
    go_ret
    exact ⟨ret_bool R.out.symm, BY.out⟩
  cases E3 : a.g == b.g
  · have R : Hid (hSame a b = false) := Lib.hid (by unfold hSame hEq; rw [E3]; simp)
    go_enter Try.func15, Try.ntmps15
    go_wp2_with (first | (go_at_call 28; first | ((with_reducible refine (iHOK_any (.agg #[.slice A1 a.g.length k1, .slice A2 a.s.length k2, .slice A3 a.n.length k3, .int .i64 a.c, .slice A4 a.d.length k4]) a _ (hostIn_below HU.out (below_alloc (below_alloc (Below.refl _ _) _) _))).mono ?_); rintro e w1 ⟨rfl, hb⟩; have BX := Lib.hid (below_step (below_alloc (below_alloc (Below.refl _ _) _) _) hb); have T1 := whole_b hb (whole_alloc (whole_new w _ _) _); have T2 := whole_b hb (whole_new1 w _ _ _); obtain ⟨c0, c1, c2, c3, c4⟩ := five_cells T1; obtain ⟨d0, d1, d2, d3, d4⟩ := five_cells T2; clear hb; rw [o1]) | ((with_reducible refine (iHOK_any (.agg #[.slice B1 b.g.length j1, .slice B2 b.s.length j2, .slice B3 b.n.length j3, .int .i64 b.c, .slice B4 b.d.length j4]) b _ (hostIn_below HV.out BX.out)).mono ?_); rintro e w2 ⟨rfl, hb⟩; have BY := Lib.hid (below_step BX.out hb); clear c0 c1 c2 c3 c4 d0 d1 d2 d3 d4; have U1 := whole_b hb T1; have U2 := whole_b hb T2; obtain ⟨c0, c1, c2, c3, c4⟩ := five_cells U1; obtain ⟨d0, d1, d2, d3, d4⟩ := five_cells U2; clear hb; rw [o2])) | (go_at_call 61; first | ((with_reducible refine (slEqualB_any _ _ a.g b.g _ ?hA ?hB).mono ?_); (case hA => exact (KX.out _ (by repeat (first | with_reducible exact BY.out | with_reducible refine below_drewN ?_ _))).1); (case hB => exact (KX.out _ (by repeat (first | with_reducible exact BY.out | with_reducible refine below_drewN ?_ _))).2); rintro e w' ⟨n, rfl, rfl⟩; rw [E3])) | (go_at_call 62; first | ((with_reducible refine (slEqual_any _ _ a.s b.s _ ?hA ?hB).mono ?_); (case hA => exact (KY.out _ (by repeat (first | with_reducible exact BY.out | with_reducible refine below_drewN ?_ _))).1); (case hB => exact (KY.out _ (by repeat (first | with_reducible exact BY.out | with_reducible refine below_drewN ?_ _))).2); rintro e w' ⟨n, rfl, rfl⟩; rw [E0]) | ((with_reducible refine (slEqual_any _ _ a.n b.n _ ?hA ?hB).mono ?_); (case hA => exact (KZ.out _ (by repeat (first | with_reducible exact BY.out | with_reducible refine below_drewN ?_ _))).1); (case hB => exact (KZ.out _ (by repeat (first | with_reducible exact BY.out | with_reducible refine below_drewN ?_ _))).2); rintro e w' ⟨n, rfl, rfl⟩; rw [E1])) | (go_at_call 63; first | ((with_reducible refine (slEqualD_any _ _ a.d b.d _ ?hA ?hB).mono ?_); (case hA => exact (KQ.out _ (by repeat (first | with_reducible exact BY.out | with_reducible refine below_drewN ?_ _))).1); (case hB => exact (KQ.out _ (by repeat (first | with_reducible exact BY.out | with_reducible refine below_drewN ?_ _))).2); rintro e w' ⟨n, rfl, rfl⟩; rw [E4])))
    go_ret
    exact ⟨ret_bool R.out.symm, (by repeat (first | with_reducible exact BY.out | with_reducible refine below_drewN ?_ _))⟩
  cases E0 : a.s == b.s
  · have R : Hid (hSame a b = false) := Lib.hid (by unfold hSame hEq; rw [E0]; simp)
    go_enter Try.func15, Try.ntmps15
    go_wp2_with (first | (go_at_call 28; first | ((with_reducible refine (iHOK_any (.agg #[.slice A1 a.g.length k1, .slice A2 a.s.length k2, .slice A3 a.n.length k3, .int .i64 a.c, .slice A4 a.d.length k4]) a _ (hostIn_below HU.out (below_alloc (below_alloc (Below.refl _ _) _) _))).mono ?_); rintro e w1 ⟨rfl, hb⟩; have BX := Lib.hid (below_step (below_alloc (below_alloc (Below.refl _ _) _) _) hb); have T1 := whole_b hb (whole_alloc (whole_new w _ _) _); have T2 := whole_b hb (whole_new1 w _ _ _); obtain ⟨c0, c1, c2, c3, c4⟩ := five_cells T1; obtain ⟨d0, d1, d2, d3, d4⟩ := five_cells T2; clear hb; rw [o1]) | ((with_reducible refine (iHOK_any (.agg #[.slice B1 b.g.length j1, .slice B2 b.s.length j2, .slice B3 b.n.length j3, .int .i64 b.c, .slice B4 b.d.length j4]) b _ (hostIn_below HV.out BX.out)).mono ?_); rintro e w2 ⟨rfl, hb⟩; have BY := Lib.hid (below_step BX.out hb); clear c0 c1 c2 c3 c4 d0 d1 d2 d3 d4; have U1 := whole_b hb T1; have U2 := whole_b hb T2; obtain ⟨c0, c1, c2, c3, c4⟩ := five_cells U1; obtain ⟨d0, d1, d2, d3, d4⟩ := five_cells U2; clear hb; rw [o2])) | (go_at_call 61; first | ((with_reducible refine (slEqualB_any _ _ a.g b.g _ ?hA ?hB).mono ?_); (case hA => exact (KX.out _ (by repeat (first | with_reducible exact BY.out | with_reducible refine below_drewN ?_ _))).1); (case hB => exact (KX.out _ (by repeat (first | with_reducible exact BY.out | with_reducible refine below_drewN ?_ _))).2); rintro e w' ⟨n, rfl, rfl⟩; rw [E3])) | (go_at_call 62; first | ((with_reducible refine (slEqual_any _ _ a.s b.s _ ?hA ?hB).mono ?_); (case hA => exact (KY.out _ (by repeat (first | with_reducible exact BY.out | with_reducible refine below_drewN ?_ _))).1); (case hB => exact (KY.out _ (by repeat (first | with_reducible exact BY.out | with_reducible refine below_drewN ?_ _))).2); rintro e w' ⟨n, rfl, rfl⟩; rw [E0]) | ((with_reducible refine (slEqual_any _ _ a.n b.n _ ?hA ?hB).mono ?_); (case hA => exact (KZ.out _ (by repeat (first | with_reducible exact BY.out | with_reducible refine below_drewN ?_ _))).1); (case hB => exact (KZ.out _ (by repeat (first | with_reducible exact BY.out | with_reducible refine below_drewN ?_ _))).2); rintro e w' ⟨n, rfl, rfl⟩; rw [E1])) | (go_at_call 63; first | ((with_reducible refine (slEqualD_any _ _ a.d b.d _ ?hA ?hB).mono ?_); (case hA => exact (KQ.out _ (by repeat (first | with_reducible exact BY.out | with_reducible refine below_drewN ?_ _))).1); (case hB => exact (KQ.out _ (by repeat (first | with_reducible exact BY.out | with_reducible refine below_drewN ?_ _))).2); rintro e w' ⟨n, rfl, rfl⟩; rw [E4])))
    go_ret
    exact ⟨ret_bool R.out.symm, (by repeat (first | with_reducible exact BY.out | with_reducible refine below_drewN ?_ _))⟩
  cases E1 : a.n == b.n
  · have R : Hid (hSame a b = false) := Lib.hid (by unfold hSame hEq; rw [E1]; simp)
    go_enter Try.func15, Try.ntmps15
    go_wp2_with (first | (go_at_call 28; first | ((with_reducible refine (iHOK_any (.agg #[.slice A1 a.g.length k1, .slice A2 a.s.length k2, .slice A3 a.n.length k3, .int .i64 a.c, .slice A4 a.d.length k4]) a _ (hostIn_below HU.out (below_alloc (below_alloc (Below.refl _ _) _) _))).mono ?_); rintro e w1 ⟨rfl, hb⟩; have BX := Lib.hid (below_step (below_alloc (below_alloc (Below.refl _ _) _) _) hb); have T1 := whole_b hb (whole_alloc (whole_new w _ _) _); have T2 := whole_b hb (whole_new1 w _ _ _); obtain ⟨c0, c1, c2, c3, c4⟩ := five_cells T1; obtain ⟨d0, d1, d2, d3, d4⟩ := five_cells T2; clear hb; rw [o1]) | ((with_reducible refine (iHOK_any (.agg #[.slice B1 b.g.length j1, .slice B2 b.s.length j2, .slice B3 b.n.length j3, .int .i64 b.c, .slice B4 b.d.length j4]) b _ (hostIn_below HV.out BX.out)).mono ?_); rintro e w2 ⟨rfl, hb⟩; have BY := Lib.hid (below_step BX.out hb); clear c0 c1 c2 c3 c4 d0 d1 d2 d3 d4; have U1 := whole_b hb T1; have U2 := whole_b hb T2; obtain ⟨c0, c1, c2, c3, c4⟩ := five_cells U1; obtain ⟨d0, d1, d2, d3, d4⟩ := five_cells U2; clear hb; rw [o2])) | (go_at_call 61; first | ((with_reducible refine (slEqualB_any _ _ a.g b.g _ ?hA ?hB).mono ?_); (case hA => exact (KX.out _ (by repeat (first | with_reducible exact BY.out | with_reducible refine below_drewN ?_ _))).1); (case hB => exact (KX.out _ (by repeat (first | with_reducible exact BY.out | with_reducible refine below_drewN ?_ _))).2); rintro e w' ⟨n, rfl, rfl⟩; rw [E3])) | (go_at_call 62; first | ((with_reducible refine (slEqual_any _ _ a.s b.s _ ?hA ?hB).mono ?_); (case hA => exact (KY.out _ (by repeat (first | with_reducible exact BY.out | with_reducible refine below_drewN ?_ _))).1); (case hB => exact (KY.out _ (by repeat (first | with_reducible exact BY.out | with_reducible refine below_drewN ?_ _))).2); rintro e w' ⟨n, rfl, rfl⟩; rw [E0]) | ((with_reducible refine (slEqual_any _ _ a.n b.n _ ?hA ?hB).mono ?_); (case hA => exact (KZ.out _ (by repeat (first | with_reducible exact BY.out | with_reducible refine below_drewN ?_ _))).1); (case hB => exact (KZ.out _ (by repeat (first | with_reducible exact BY.out | with_reducible refine below_drewN ?_ _))).2); rintro e w' ⟨n, rfl, rfl⟩; rw [E1])) | (go_at_call 63; first | ((with_reducible refine (slEqualD_any _ _ a.d b.d _ ?hA ?hB).mono ?_); (case hA => exact (KQ.out _ (by repeat (first | with_reducible exact BY.out | with_reducible refine below_drewN ?_ _))).1); (case hB => exact (KQ.out _ (by repeat (first | with_reducible exact BY.out | with_reducible refine below_drewN ?_ _))).2); rintro e w' ⟨n, rfl, rfl⟩; rw [E4])))
    go_ret
    exact ⟨ret_bool R.out.symm, (by repeat (first | with_reducible exact BY.out | with_reducible refine below_drewN ?_ _))⟩
  by_cases h2 : a.c = b.c
  rotate_left
  · have R : Hid (hSame a b = false) := Lib.hid (by unfold hSame hEq; rw [show (a.c == b.c) = false by rw [beq_eq_false_iff_ne]; exact h2]; simp)
    have u2 : (a.c == b.c) = false := by rw [beq_eq_false_iff_ne]; exact h2
    clear h2
    go_enter Try.func15, Try.ntmps15
    go_wp2_with (first | (go_at_call 28; first | ((with_reducible refine (iHOK_any (.agg #[.slice A1 a.g.length k1, .slice A2 a.s.length k2, .slice A3 a.n.length k3, .int .i64 a.c, .slice A4 a.d.length k4]) a _ (hostIn_below HU.out (below_alloc (below_alloc (Below.refl _ _) _) _))).mono ?_); rintro e w1 ⟨rfl, hb⟩; have BX := Lib.hid (below_step (below_alloc (below_alloc (Below.refl _ _) _) _) hb); have T1 := whole_b hb (whole_alloc (whole_new w _ _) _); have T2 := whole_b hb (whole_new1 w _ _ _); obtain ⟨c0, c1, c2, c3, c4⟩ := five_cells T1; obtain ⟨d0, d1, d2, d3, d4⟩ := five_cells T2; clear hb; rw [o1]) | ((with_reducible refine (iHOK_any (.agg #[.slice B1 b.g.length j1, .slice B2 b.s.length j2, .slice B3 b.n.length j3, .int .i64 b.c, .slice B4 b.d.length j4]) b _ (hostIn_below HV.out BX.out)).mono ?_); rintro e w2 ⟨rfl, hb⟩; have BY := Lib.hid (below_step BX.out hb); clear c0 c1 c2 c3 c4 d0 d1 d2 d3 d4; have U1 := whole_b hb T1; have U2 := whole_b hb T2; obtain ⟨c0, c1, c2, c3, c4⟩ := five_cells U1; obtain ⟨d0, d1, d2, d3, d4⟩ := five_cells U2; clear hb; rw [o2])) | (go_at_call 61; first | ((with_reducible refine (slEqualB_any _ _ a.g b.g _ ?hA ?hB).mono ?_); (case hA => exact (KX.out _ (by repeat (first | with_reducible exact BY.out | with_reducible refine below_drewN ?_ _))).1); (case hB => exact (KX.out _ (by repeat (first | with_reducible exact BY.out | with_reducible refine below_drewN ?_ _))).2); rintro e w' ⟨n, rfl, rfl⟩; rw [E3])) | (go_at_call 62; first | ((with_reducible refine (slEqual_any _ _ a.s b.s _ ?hA ?hB).mono ?_); (case hA => exact (KY.out _ (by repeat (first | with_reducible exact BY.out | with_reducible refine below_drewN ?_ _))).1); (case hB => exact (KY.out _ (by repeat (first | with_reducible exact BY.out | with_reducible refine below_drewN ?_ _))).2); rintro e w' ⟨n, rfl, rfl⟩; rw [E0]) | ((with_reducible refine (slEqual_any _ _ a.n b.n _ ?hA ?hB).mono ?_); (case hA => exact (KZ.out _ (by repeat (first | with_reducible exact BY.out | with_reducible refine below_drewN ?_ _))).1); (case hB => exact (KZ.out _ (by repeat (first | with_reducible exact BY.out | with_reducible refine below_drewN ?_ _))).2); rintro e w' ⟨n, rfl, rfl⟩; rw [E1])) | (go_at_call 63; first | ((with_reducible refine (slEqualD_any _ _ a.d b.d _ ?hA ?hB).mono ?_); (case hA => exact (KQ.out _ (by repeat (first | with_reducible exact BY.out | with_reducible refine below_drewN ?_ _))).1); (case hB => exact (KQ.out _ (by repeat (first | with_reducible exact BY.out | with_reducible refine below_drewN ?_ _))).2); rintro e w' ⟨n, rfl, rfl⟩; rw [E4])))
    go_ret
    exact ⟨ret_bool R.out.symm, (by repeat (first | with_reducible exact BY.out | with_reducible refine below_drewN ?_ _))⟩
  have u2 : (a.c == b.c) = true := by rw [beq_iff_eq]; exact h2
  clear h2
  cases E4 : a.d == b.d
  · have R : Hid (hSame a b = false) := Lib.hid (by unfold hSame hEq; rw [E4]; simp)
    go_enter Try.func15, Try.ntmps15
    go_wp2_with (first | (go_at_call 28; first | ((with_reducible refine (iHOK_any (.agg #[.slice A1 a.g.length k1, .slice A2 a.s.length k2, .slice A3 a.n.length k3, .int .i64 a.c, .slice A4 a.d.length k4]) a _ (hostIn_below HU.out (below_alloc (below_alloc (Below.refl _ _) _) _))).mono ?_); rintro e w1 ⟨rfl, hb⟩; have BX := Lib.hid (below_step (below_alloc (below_alloc (Below.refl _ _) _) _) hb); have T1 := whole_b hb (whole_alloc (whole_new w _ _) _); have T2 := whole_b hb (whole_new1 w _ _ _); obtain ⟨c0, c1, c2, c3, c4⟩ := five_cells T1; obtain ⟨d0, d1, d2, d3, d4⟩ := five_cells T2; clear hb; rw [o1]) | ((with_reducible refine (iHOK_any (.agg #[.slice B1 b.g.length j1, .slice B2 b.s.length j2, .slice B3 b.n.length j3, .int .i64 b.c, .slice B4 b.d.length j4]) b _ (hostIn_below HV.out BX.out)).mono ?_); rintro e w2 ⟨rfl, hb⟩; have BY := Lib.hid (below_step BX.out hb); clear c0 c1 c2 c3 c4 d0 d1 d2 d3 d4; have U1 := whole_b hb T1; have U2 := whole_b hb T2; obtain ⟨c0, c1, c2, c3, c4⟩ := five_cells U1; obtain ⟨d0, d1, d2, d3, d4⟩ := five_cells U2; clear hb; rw [o2])) | (go_at_call 61; first | ((with_reducible refine (slEqualB_any _ _ a.g b.g _ ?hA ?hB).mono ?_); (case hA => exact (KX.out _ (by repeat (first | with_reducible exact BY.out | with_reducible refine below_drewN ?_ _))).1); (case hB => exact (KX.out _ (by repeat (first | with_reducible exact BY.out | with_reducible refine below_drewN ?_ _))).2); rintro e w' ⟨n, rfl, rfl⟩; rw [E3])) | (go_at_call 62; first | ((with_reducible refine (slEqual_any _ _ a.s b.s _ ?hA ?hB).mono ?_); (case hA => exact (KY.out _ (by repeat (first | with_reducible exact BY.out | with_reducible refine below_drewN ?_ _))).1); (case hB => exact (KY.out _ (by repeat (first | with_reducible exact BY.out | with_reducible refine below_drewN ?_ _))).2); rintro e w' ⟨n, rfl, rfl⟩; rw [E0]) | ((with_reducible refine (slEqual_any _ _ a.n b.n _ ?hA ?hB).mono ?_); (case hA => exact (KZ.out _ (by repeat (first | with_reducible exact BY.out | with_reducible refine below_drewN ?_ _))).1); (case hB => exact (KZ.out _ (by repeat (first | with_reducible exact BY.out | with_reducible refine below_drewN ?_ _))).2); rintro e w' ⟨n, rfl, rfl⟩; rw [E1])) | (go_at_call 63; first | ((with_reducible refine (slEqualD_any _ _ a.d b.d _ ?hA ?hB).mono ?_); (case hA => exact (KQ.out _ (by repeat (first | with_reducible exact BY.out | with_reducible refine below_drewN ?_ _))).1); (case hB => exact (KQ.out _ (by repeat (first | with_reducible exact BY.out | with_reducible refine below_drewN ?_ _))).2); rintro e w' ⟨n, rfl, rfl⟩; rw [E4])))
    go_ret
    exact ⟨ret_bool R.out.symm, (by repeat (first | with_reducible exact BY.out | with_reducible refine below_drewN ?_ _))⟩
  have R : Hid (hSame a b = true) := Lib.hid (by unfold hSame hEq; rw [o1, o2, E0, E1, E3, E4, u2]; rfl)
  go_enter Try.func15, Try.ntmps15
  go_wp2_with (first | (go_at_call 28; first | ((with_reducible refine (iHOK_any (.agg #[.slice A1 a.g.length k1, .slice A2 a.s.length k2, .slice A3 a.n.length k3, .int .i64 a.c, .slice A4 a.d.length k4]) a _ (hostIn_below HU.out (below_alloc (below_alloc (Below.refl _ _) _) _))).mono ?_); rintro e w1 ⟨rfl, hb⟩; have BX := Lib.hid (below_step (below_alloc (below_alloc (Below.refl _ _) _) _) hb); have T1 := whole_b hb (whole_alloc (whole_new w _ _) _); have T2 := whole_b hb (whole_new1 w _ _ _); obtain ⟨c0, c1, c2, c3, c4⟩ := five_cells T1; obtain ⟨d0, d1, d2, d3, d4⟩ := five_cells T2; clear hb; rw [o1]) | ((with_reducible refine (iHOK_any (.agg #[.slice B1 b.g.length j1, .slice B2 b.s.length j2, .slice B3 b.n.length j3, .int .i64 b.c, .slice B4 b.d.length j4]) b _ (hostIn_below HV.out BX.out)).mono ?_); rintro e w2 ⟨rfl, hb⟩; have BY := Lib.hid (below_step BX.out hb); clear c0 c1 c2 c3 c4 d0 d1 d2 d3 d4; have U1 := whole_b hb T1; have U2 := whole_b hb T2; obtain ⟨c0, c1, c2, c3, c4⟩ := five_cells U1; obtain ⟨d0, d1, d2, d3, d4⟩ := five_cells U2; clear hb; rw [o2])) | (go_at_call 61; first | ((with_reducible refine (slEqualB_any _ _ a.g b.g _ ?hA ?hB).mono ?_); (case hA => exact (KX.out _ (by repeat (first | with_reducible exact BY.out | with_reducible refine below_drewN ?_ _))).1); (case hB => exact (KX.out _ (by repeat (first | with_reducible exact BY.out | with_reducible refine below_drewN ?_ _))).2); rintro e w' ⟨n, rfl, rfl⟩; rw [E3])) | (go_at_call 62; first | ((with_reducible refine (slEqual_any _ _ a.s b.s _ ?hA ?hB).mono ?_); (case hA => exact (KY.out _ (by repeat (first | with_reducible exact BY.out | with_reducible refine below_drewN ?_ _))).1); (case hB => exact (KY.out _ (by repeat (first | with_reducible exact BY.out | with_reducible refine below_drewN ?_ _))).2); rintro e w' ⟨n, rfl, rfl⟩; rw [E0]) | ((with_reducible refine (slEqual_any _ _ a.n b.n _ ?hA ?hB).mono ?_); (case hA => exact (KZ.out _ (by repeat (first | with_reducible exact BY.out | with_reducible refine below_drewN ?_ _))).1); (case hB => exact (KZ.out _ (by repeat (first | with_reducible exact BY.out | with_reducible refine below_drewN ?_ _))).2); rintro e w' ⟨n, rfl, rfl⟩; rw [E1])) | (go_at_call 63; first | ((with_reducible refine (slEqualD_any _ _ a.d b.d _ ?hA ?hB).mono ?_); (case hA => exact (KQ.out _ (by repeat (first | with_reducible exact BY.out | with_reducible refine below_drewN ?_ _))).1); (case hB => exact (KQ.out _ (by repeat (first | with_reducible exact BY.out | with_reducible refine below_drewN ?_ _))).2); rintro e w' ⟨n, rfl, rfl⟩; rw [E4])))
  go_ret
  exact ⟨ret_bool R.out.symm, (by repeat (first | with_reducible exact BY.out | with_reducible refine below_drewN ?_ _))⟩

end Go.Proofs.Ythhaimolcgkpaaa
