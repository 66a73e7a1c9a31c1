/- Marks in a tree, read; trees in blocks of their own. -/
import Derived.Test.YtafhmajnkicifaaTrA
namespace Go.Proofs.Ytafhmajnkicifaa
open Go.RowKit
set_option linter.unusedVariables false
set_option linter.unusedSimpArgs false

/-- How many nodes these nodes and their parts have, by what the parts have. -/
def szL (f : List Nd → Nat) : List Nd → Nat
  | [] => 0
  | x :: r => 1 + f x.a + f x.b + szL f r

/-- How many nodes a tree has, d levels deep. -/
def szT : Nat → List Nd → Nat
  | 0 => fun _ => 0
  | d + 1 => szL (szT d)

theorem szT_nil (d : Nat) : szT d [] = 0 := by cases d <;> rfl

theorem szT_cons (d : Nat) (x : Nd) (r : List Nd) : szT (d + 1) (x :: r) = 1 + szT d x.a + szT d x.b + szT (d + 1) r := rfl

/-- Nodes that are marked from a number on, by how their parts are. -/
def mkL (f : List Nd → Nat) (p : Nat → List Nd → Prop) : Nat → List Nd → Prop
  | _, [] => True
  | K, x :: r => x.k = K ∧ x.v = K + 1 ∧ p (K + 2) x.a ∧ p (K + 2 + 2 * f x.a) x.b ∧ mkL f p (K + 2 + 2 * f x.a + 2 * f x.b) r

/-- A tree that is marked from a number on. -/
def Mkd : Nat → Nat → List Nd → Prop
  | 0 => fun _ L => L = []
  | d + 1 => mkL (szT d) (Mkd d)

theorem mkd_cons (d K : Nat) (x : Nd) (r : List Nd) : Mkd (d + 1) K (x :: r) ↔ (x.k = K ∧ x.v = K + 1 ∧ Mkd d (K + 2) x.a ∧ Mkd d (K + 2 + 2 * szT d x.a) x.b ∧ Mkd (d + 1) (K + 2 + 2 * szT d x.a + 2 * szT d x.b) r) := Iff.rfl

/-- Marks are read as they were laid. -/
def HeldN (d : Nat) : Prop := ∀ (v : Value) (L : List Nd) (K : Nat) (w : World), Nds d w v L → Mkd d K L → K + 2 * szT d L ≤ 1099511627776 →
  Calls Try.prog 20 #[v, .int .i64 (K : Nat)] w fun e w' => e = .returned (.int .i64 ((K + 2 * szT d L : Nat) : Int)) ∧ Below w.heap.size w w'

set_option maxRecDepth 100000 in
set_option maxHeartbeats 400000 in
theorem held_zero : HeldN 0 := by
  intro v L K w hv hm hk
  obtain ⟨rfl, A, ca, rfl⟩ := hv
  have e0 : szT 0 [] = 0 := szT_nil _
  rw [e0]
  go_enter Try.func20, Try.ntmps20
  go_wp2
  go_loopw [1, 5] (fun q i wr => q = .int .i64 (K : Nat) ∧ i = .int .i64 0 ∧ wr = w) (fun _ i _ => 0)
  case atStart => exact ⟨rfl, rfl, rfl⟩
  case round =>
    obtain ⟨rfl, rfl, rfl⟩ := hrel
    go_wp2
    go_ret
    exact ⟨by first | rfl | simp, Below.refl _ _⟩

set_option maxRecDepth 100000 in
set_option maxHeartbeats 4000000 in
theorem held_step (d : Nat) (ih : HeldN d) : HeldN (d + 1) := by
  intro v L K w hv hm hk
  have HV := Lib.hid hv
  obtain ⟨hl, A, ca, rfl, _⟩ := hv
  unfold maxLen at hl
  have IH := Lib.hid ih
  have HM := Lib.hid hm
  clear ih hm
  go_enter Try.func20, Try.ntmps20
  go_wp2
  go_loopw [1, 5] (fun q i wr => ∃ (k Q : Nat), k ≤ L.length ∧ i = .int .i64 k ∧ q = .int .i64 Q ∧ Mkd (d + 1) Q (L.drop k) ∧ Q + 2 * szT (d + 1) (L.drop k) = K + 2 * szT (d + 1) L ∧ Below w.heap.size w wr) (fun _ i _ => L.length - (intOf i).toNat)
  case atStart => exact ⟨0, K, Nat.zero_le _, rfl, rfl, by simpa using HM.out, by simp, Below.refl _ _⟩
  case round =>
    obtain ⟨k, Q, hk', rfl, rfl, hm, hq, hb⟩ := hrel
    have HB := Lib.hid hb
    clear hb
    by_cases hlt : k < L.length
    · rw [List.drop_eq_getElem_cons hlt] at hm hq
      rw [mkd_cons] at hm
      rw [szT_cons] at hq
      obtain ⟨_, A', ca', e', hc⟩ := nds_below HV.out HB.out
      simp only [Value.slice.injEq, true_and] at e'
      obtain ⟨rfl, rfl⟩ := e'
      obtain ⟨ga, hA, ha⟩ := hc (by omega)
      subst hA
      obtain ⟨a0, a1, A1, n1, e1, B1, m1, f1, a2, a3, ra, rb⟩ := ha k hlt
      clear ha hc
      generalize L[k] = x at *
      obtain ⟨h1, h2, h3, h4, h5⟩ := hm
      rw [h1] at a0
      rw [h2] at a1
      have HR := Lib.hid (And.intro h5 hq)
      have RA := Lib.hid ra
      have RB := Lib.hid rb
      have M3 := Lib.hid h3
      have M4 := Lib.hid h4
      have bq : Q + 2 + 2 * szT d x.a + 2 * szT d x.b ≤ 1099511627776 := by omega
      clear h1 h2 h3 h4 h5 hq ra rb
      obtain ⟨sa, hsa⟩ : ∃ sa, szT d x.a = sa := ⟨_, rfl⟩
      obtain ⟨sb, hsb⟩ : ∃ sb, szT d x.b = sb := ⟨_, rfl⟩
      rw [hsa, hsb] at HR bq
      rw [hsa] at M4
      have SA := Lib.hid hsa
      have SB := Lib.hid hsb
      clear hsa hsb
      have tk : (((Q : Nat) : Int) != (Q : Int)) = false := by simp
      have tv : (((Q : Nat) : Int) + 1 != (Q : Int) + 1) = false := by simp
      have w1 : IntKind.i64.wrap ((Q : Int) + 1) = (Q : Int) + 1 := IntWalk.i64_in _ (by omega)
      have w2 : IntKind.i64.wrap ((Q : Int) + 1 + 1) = ((Q + 2 : Nat) : Int) := by rw [show (Q : Int) + 1 + 1 = ((Q + 2 : Nat) : Int) by omega]; exact IntWalk.i64_in _ (by omega)
      have t1 : ¬ ((Q + 2 + 2 * sa : Nat) : Int) < 0 := by omega
      have t2 : ¬ ((Q + 2 + 2 * sa + 2 * sb : Nat) : Int) < 0 := by omega
      have ik0 : (0 : Int) ≤ (k : Int) := by omega
      have ik1 : (k : Int) < (L.length : Int) := by omega
      have IA : Hid (∀ W, Below wr.heap.size wr W → Calls Try.prog 20 #[.slice A1 n1 e1, .int .i64 ((Q + 2 : Nat) : Int)] W fun e w' => e = .returned (.int .i64 ((Q + 2 + 2 * sa : Nat) : Int)) ∧ Below W.heap.size W w') := Lib.hid fun W B => by
        have h := IH.out _ x.a (Q + 2) W (nds_below RA.out B) M3.out (by rw [SA.out]; omega)
        rwa [SA.out] at h
      have IB : Hid (∀ W, Below wr.heap.size wr W → Calls Try.prog 20 #[.slice B1 m1 f1, .int .i64 ((Q + 2 + 2 * sa : Nat) : Int)] W fun e w' => e = .returned (.int .i64 ((Q + 2 + 2 * sa + 2 * sb : Nat) : Int)) ∧ Below W.heap.size W w') := Lib.hid fun W B => by
        have h := IH.out _ x.b (Q + 2 + 2 * sa) W (nds_below RB.out B) M4.out (by rw [SB.out]; omega)
        rwa [SB.out] at h
      clear RA RB M3 M4 SA SB
      go_wp2_with fail
      refine (IA.out _ (Below.refl _ _)).mono ?_
      rintro e w3 ⟨rfl, hb⟩
      have B3 := Lib.hid hb
      have a3 := cell_keptI hb _ _ a3
      clear hb a0 a1 a2
      go_wp2_with fail
      refine (IB.out _ B3.out).mono ?_
      rintro e w4 ⟨rfl, hb⟩
      have B4 := Lib.hid (below_step HB.out (below_step B3.out hb))
      clear hb
      go_wp2
      go_roundw
      case rel => exact ⟨k + 1, Q + 2 + 2 * sa + 2 * sb, by omega, by go_num, rfl, HR.out.1, by have := HR.out.2; omega, B4.out⟩
      case measure => simp [intOf]; omega
    · obtain rfl : k = L.length := by omega
      rw [List.drop_length] at hq
      have e0 : szT (d + 1) [] = 0 := szT_nil _
      rw [e0] at hq
      have EQ : Hid (Q = K + 2 * szT (d + 1) L) := Lib.hid (by omega)
      clear hlt hq hm
      go_wp2
      go_ret
      exact ⟨by first | rfl | (rw [EQ.out]; rfl) | (rw [← EQ.out]; rfl), HB.out⟩

theorem heldNodeS_any (d : Nat) : HeldN d := by
  induction d with
  | zero => exact held_zero
  | succ d ih => exact held_step d ih

end Go.Proofs.Ytafhmajnkicifaa
