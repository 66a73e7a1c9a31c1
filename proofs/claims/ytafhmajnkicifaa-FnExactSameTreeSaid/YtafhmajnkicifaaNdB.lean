/- An argument's nodes, counted. -/
import Derived.Test.YtafhmajnkicifaaTrB
namespace Go.Proofs.Ytafhmajnkicifaa
open Go.RowKit
set_option linter.unusedVariables false
set_option linter.unusedSimpArgs false

/-- What is left behind a count: -1 where it does not suffice. -/
def cutOf (left n : Nat) : Int := if n ≤ left then ((left - n : Nat) : Int) else -1

/-- Nodes are counted. -/
def SzN (d : Nat) : Prop := ∀ (v : Value) (L : List Nd) (left : Nat) (w : World), Nds d w v L → left ≤ 1048576 →
  Calls Try.prog 21 #[v, .int .i64 (left : Nat)] w fun e w' => e = .returned (.int .i64 (cutOf left (szT d L))) ∧ Below w.heap.size w w'

set_option maxRecDepth 100000 in
set_option maxHeartbeats 2000000 in
theorem sz_zero : SzN 0 := by
  intro v L left w hv hl
  obtain ⟨rfl, A, c, rfl⟩ := hv
  have e0 : cutOf left (szT 0 []) = (left : Int) := by rw [szT_nil]; unfold cutOf; rw [if_pos (by omega)]; omega
  have t0 : ¬ (left : Int) < 0 := by omega
  rw [e0]
  go_enter Try.func21, Try.ntmps21
  go_wp2
  go_loopw [1, 5] (fun q i wr => q = .int .i64 (left : Nat) ∧ i = .int .i64 0 ∧ wr = w) (fun _ i _ => 0)
  case atStart => exact ⟨by simp, rfl, rfl⟩
  case round =>
    obtain ⟨rfl, rfl, rfl⟩ := hrel
    go_wp2
    go_ret
    exact ⟨rfl, Below.refl _ _⟩

set_option maxRecDepth 100000 in
set_option maxHeartbeats 2000000 in
theorem szNode_any (d : Nat) (ih : SzN d) (k v : Int) (A B : Option Addr) (n c n2 c2 : Nat) (a b : List Nd) (left : Nat) (w : World) (ha : Nds d w (.slice A n c) a) (hb : Nds d w (.slice B n2 c2) b) (hl : left ≤ 1048576) :
    Calls Try.prog 39 #[.agg #[.int .i64 k, .int .i64 v, .slice A n c, .slice B n2 c2], .int .i64 (left : Nat)] w fun e w' => e = .returned (.int .i64 (cutOf left (szT d a + szT d b))) ∧ Below w.heap.size w w' := by
  have B0 : Hid (Below w.heap.size w (w.alloc (.cells #[.int .i64 k, .int .i64 v, .slice A n c, .slice B n2 c2] 68))) := Lib.hid (below_alloc (Below.refl _ _) _)
  have HA := Lib.hid ha
  have HB := Lib.hid hb
  have X0 := Lib.hid (whole_new w 68 #[.int .i64 k, .int .i64 v, .slice A n c, .slice B n2 c2])
  have C1 := Lib.hid (ih (.slice A n c) a left _ (nds_below ha B0.out) hl)
  have IH := Lib.hid ih
  clear ha hb ih
  go_enter Try.func39, Try.ntmps39
  go_wp2_with fail
  refine C1.out.mono ?_
  rintro e w1 ⟨rfl, h1⟩
  have B1 := Lib.hid (below_step B0.out h1)
  have X1 := whole_below X0.out h1
  have x3 := whole_cell X1 3
  simp at x3
  clear h1 X1 X0 C1
  by_cases hs : szT d a ≤ left
  · have e1 : cutOf left (szT d a) = ((left - szT d a : Nat) : Int) := by unfold cutOf; rw [if_pos hs]
    have e2 : cutOf left (szT d a + szT d b) = cutOf (left - szT d a) (szT d b) := by
      unfold cutOf
      by_cases q : szT d b ≤ left - szT d a
      · rw [if_pos q, if_pos (by omega)]; congr 1; omega
      · rw [if_neg q, if_neg (by omega)]
    rw [e1]
    obtain ⟨l2, hl2⟩ : ∃ l2, left - szT d a = l2 := ⟨_, rfl⟩
    rw [hl2] at e2 ⊢
    have E2 := Lib.hid e2
    have t1 : ¬ ((l2 : Nat) : Int) < 0 := by omega
    have C2 : Hid (∀ W, Below w.heap.size w W → Calls Try.prog 21 #[.slice B n2 c2, .int .i64 (l2 : Nat)] W fun e w' => e = .returned (.int .i64 (cutOf l2 (szT d b))) ∧ Below W.heap.size W w') := Lib.hid fun W hW => IH.out _ b l2 W (nds_below HB.out hW) (by omega)
    clear e1 e2 hl2 hs
    go_wp2_with fail
    refine (C2.out _ B1.out).mono ?_
    rintro e w2 ⟨rfl, h2⟩
    have B2 := Lib.hid (below_step B1.out h2)
    clear h2 C2
    by_cases q : szT d b ≤ l2
    · have e1 : cutOf l2 (szT d b) = ((l2 - szT d b : Nat) : Int) := by unfold cutOf; rw [if_pos q]
      have t2 : ¬ ((l2 - szT d b : Nat) : Int) < 0 := by omega
      have E3 := Lib.hid e1
      rw [e1]
      clear e1 q
      go_wp2
      go_ret
      exact ⟨by rw [E2.out, E3.out]; rfl, B2.out⟩
    · have e1 : cutOf l2 (szT d b) = -1 := by unfold cutOf; rw [if_neg q]
      have E3 := Lib.hid e1
      rw [e1]
      clear e1 q
      go_wp2
      go_ret
      exact ⟨by rw [E2.out, E3.out]; rfl, B2.out⟩
  · have e1 : cutOf left (szT d a) = -1 := by unfold cutOf; rw [if_neg hs]
    have e2 : cutOf left (szT d a + szT d b) = -1 := by unfold cutOf; rw [if_neg (by omega)]
    have E2 := Lib.hid e2
    rw [e1]
    clear e1 e2 hs
    go_wp2
    go_ret
    exact ⟨by rw [E2.out]; rfl, B1.out⟩

theorem szL_drop (d : Nat) (L : List Nd) {k : Nat} (hk : k < L.length) : szT (d + 1) (L.drop k) = 1 + szT d L[k].a + szT d L[k].b + szT (d + 1) (L.drop (k + 1)) := by
  rw [List.drop_eq_getElem_cons hk, szT_cons]

theorem szT_ge (d : Nat) (L : List Nd) : L.length ≤ szT (d + 1) L := by
  induction L with
  | nil => simp
  | cons x r ih => rw [szT_cons, List.length_cons]; omega

set_option maxRecDepth 100000 in
set_option maxHeartbeats 2000000 in
theorem sz_step (d : Nat) (ih : SzN d) : SzN (d + 1) := by
  intro v L left w hv hl
  have HV := Lib.hid hv
  have IH := Lib.hid ih
  obtain ⟨hm, A, ca, rfl, _⟩ := hv
  unfold maxLen at hm
  clear ih
  have ge := szT_ge d L
  by_cases h0 : L.length ≤ left
  · have t0 : ¬ (left : Int) - (L.length : Int) < 0 := by omega
    go_enter Try.func21, Try.ntmps21
    go_wp2
    go_loopw [1, 5] (fun q i wr => ∃ (k r : Nat), k ≤ L.length ∧ i = .int .i64 k ∧ q = .int .i64 r ∧ r ≤ left ∧ (szT (d + 1) L ≤ left ↔ szT (d + 1) (L.drop k) ≤ r + (L.length - k)) ∧ (szT (d + 1) L ≤ left → left - szT (d + 1) L = r + (L.length - k) - szT (d + 1) (L.drop k)) ∧ Below w.heap.size w wr) (fun _ i _ => L.length - (intOf i).toNat)
    case atStart => exact ⟨0, left - L.length, Nat.zero_le _, rfl, by rw [show (left : Int) - (L.length : Int) = ((left - L.length : Nat) : Int) by omega], by omega, by rw [List.drop_zero]; omega, fun h => by rw [List.drop_zero]; omega, Below.refl _ _⟩
    case round =>
      obtain ⟨k, r, hk, rfl, rfl, hr, h1, h2, hb⟩ := hrel
      have HB := Lib.hid hb
      clear hb
      have tr : ¬ (r : Int) < 0 := by omega
      by_cases hlt : k < L.length
      · rw [szL_drop d L hlt] at h1 h2
        obtain ⟨_, A', ca', e', hc⟩ := nds_below HV.out HB.out
        simp only [Value.slice.injEq, true_and] at e'
        obtain ⟨rfl, rfl⟩ := e'
        obtain ⟨ga, hA, ha⟩ := hc (by omega)
        subst hA
        obtain ⟨a0, a1, A1, n1, e1, B1, m1, f1, a2, a3, ra, rb⟩ := ha k hlt
        have C1 : Hid (Calls Try.prog 39 #[.agg #[.int .i64 L[k].k, .int .i64 L[k].v, .slice A1 n1 e1, .slice B1 m1 f1], .int .i64 (r : Nat)] wr fun e w' => e = .returned (.int .i64 (cutOf r (szT d L[k].a + szT d L[k].b))) ∧ Below wr.heap.size wr w') := Lib.hid (szNode_any d IH.out _ _ _ _ _ _ _ _ _ _ r wr ra rb (by omega))
        have H1 := Lib.hid h1
        have H2 := Lib.hid h2
        clear ha hc ra rb h1 h2
        go_wp2_with fail
        refine C1.out.mono ?_
        rintro e w1 ⟨rfl, b1⟩
        have HB1 := Lib.hid (below_step HB.out b1)
        clear b1 C1 a0 a1 a2 a3
        have g2 := szT_ge d (L.drop (k + 1))
        rw [List.length_drop] at g2
        by_cases q : szT d L[k].a + szT d L[k].b ≤ r
        · have e1 : cutOf r (szT d L[k].a + szT d L[k].b) = ((r - (szT d L[k].a + szT d L[k].b) : Nat) : Int) := by unfold cutOf; rw [if_pos q]
          have t2 : ¬ ((r - (szT d L[k].a + szT d L[k].b) : Nat) : Int) < 0 := by omega
          have N1 : Hid ((szT (d + 1) L ≤ left ↔ szT (d + 1) (L.drop (k + 1)) ≤ (r - (szT d L[k].a + szT d L[k].b)) + (L.length - (k + 1))) ∧ (szT (d + 1) L ≤ left → left - szT (d + 1) L = (r - (szT d L[k].a + szT d L[k].b)) + (L.length - (k + 1)) - szT (d + 1) (L.drop (k + 1)))) := Lib.hid (by
            have p1 := H1.out
            have p2 := H2.out
            refine ⟨?_, fun h => ?_⟩
            · rw [p1]; omega
            · have := p2 h; omega)
          rw [e1]
          have r2l : r - (szT d L[k].a + szT d L[k].b) ≤ left := by omega
          generalize r - (szT d L[k].a + szT d L[k].b) = r2 at *
          clear e1 H1 H2
          go_wp2
          go_roundw
          case rel => exact ⟨k + 1, r2, by omega, by go_num, rfl, r2l, N1.out.1, N1.out.2, HB1.out⟩
          case measure => simp [intOf]; omega
        · have e1 : cutOf r (szT d L[k].a + szT d L[k].b) = -1 := by unfold cutOf; rw [if_neg q]
          have EN : Hid (cutOf left (szT (d + 1) L) = -1) := Lib.hid (by unfold cutOf; rw [if_neg (by rw [H1.out]; omega)])
          rw [e1]
          clear e1 H1 H2 q g2 ge
          go_wp2
          go_ret
          exact ⟨by rw [EN.out]; rfl, HB1.out⟩
      · obtain rfl : k = L.length := by omega
        rw [List.drop_length, szT_nil] at h1 h2
        have EN : Hid (cutOf left (szT (d + 1) L) = (r : Int)) := Lib.hid (by unfold cutOf; rw [if_pos (by omega)]; have := h2 (by omega); omega)
        clear hlt h1 h2 ge
        go_wp2
        go_ret
        exact ⟨by rw [EN.out]; rfl, HB.out⟩
  · have t0 : (left : Int) - (L.length : Int) < 0 := by omega
    have EN : Hid (cutOf left (szT (d + 1) L) = -1) := Lib.hid (by unfold cutOf; rw [if_neg (by omega)])
    clear h0 ge
    go_enter Try.func21, Try.ntmps21
    go_wp2
    go_ret
    exact ⟨by rw [EN.out]; rfl, Below.refl _ _⟩

/-- All of them. -/
theorem szNodeS_any (d : Nat) : SzN d := by
  induction d with
  | zero => exact sz_zero
  | succ d ih => exact sz_step d ih

end Go.Proofs.Ytafhmajnkicifaa
