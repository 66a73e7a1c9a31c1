/- Marks in a row of items, read. -/
import Derived.Test.YtafhmajnkicifaaItB
namespace Go.Proofs.Ytafhmajnkicifaa
open Go.RowKit
set_option linter.unusedVariables false
set_option linter.unusedSimpArgs false

theorem imarks_at (K n : Nat) {k : Nat} (h : k < (imarks K n).length) : (imarks K n)[k] = ⟨((K + 2 * k : Nat) : Int), ((K + 2 * k : Nat) : Int) + 1⟩ := by
  unfold imarks
  simp [markIt]

set_option maxRecDepth 100000 in
set_option maxHeartbeats 1000000 in
theorem heldItems_any (v : Value) (n K : Nat) (w : World) (hv : Its w v (imarks K n)) (hK : K + 2 * n ≤ 1099511627776) :
    Calls Try.prog 24 #[v, .int .i64 (K : Nat)] w fun e w' => e = .returned (.int .i64 ((K + 2 * n : Nat) : Int)) ∧ w = w' := by
  obtain ⟨hl, A, cap, rfl, hc⟩ := hv
  have HC : Hid (0 < n → ∃ ad, A = some ad ∧ ∀ k (h : k < (imarks K n).length), ItAt w (ad.add (k * 2)) (imarks K n)[k]) := Lib.hid (fun h => hc (by rw [imarks_len]; exact h))
  clear hc
  rw [imarks_len] at hl ⊢
  unfold maxLen at hl
  go_enter Try.func24, Try.ntmps24
  go_wp2
  go_loopw [1, 5] (fun q i wr => ∃ k : Nat, k ≤ n ∧ i = .int .i64 k ∧ q = .int .i64 ((K + 2 * k : Nat) : Int) ∧ w = wr) (fun _ i _ => n - (intOf i).toNat)
  case atStart => exact ⟨0, Nat.zero_le _, rfl, by simp, rfl⟩
  case round =>
    obtain ⟨k, hk, rfl, rfl, rfl⟩ := hrel
    by_cases hlt : k < n
    · obtain ⟨ad, rfl, hd⟩ := HC.out (by omega)
      obtain ⟨c0, c1⟩ := hd k (by rw [imarks_len]; exact hlt)
      rw [imarks_at] at c0 c1
      simp only at c0 c1
      obtain ⟨u, hu⟩ : ∃ u, K + 2 * k = u := ⟨_, rfl⟩
      rw [hu] at c0 c1
      have NX : Hid (((u + 2 : Nat) : Int) = ((K + 2 * (k + 1) : Nat) : Int)) := Lib.hid (by omega)
      rw [hu]
      have t0 : ((u : Int) != (u : Int)) = false := by simp
      have t1 : ((u : Int) + 1 != (u : Int) + 1) = false := by simp
      have w1 : IntKind.i64.wrap ((u : Int) + 1) = (u : Int) + 1 := IntWalk.i64_in _ (by omega)
      have w2 : IntKind.i64.wrap ((u : Int) + 1 + 1) = ((u + 2 : Nat) : Int) := by rw [show (u : Int) + 1 + 1 = ((u + 2 : Nat) : Int) by omega]; exact IntWalk.i64_in _ (by omega)
      clear hd hu
      go_wp2
      go_roundw
      case rel => exact ⟨k + 1, by omega, by go_num, by rw [← NX.out]; simp, by first | trivial | rfl⟩
      case measure => simp [intOf]; omega
    · obtain rfl : k = n := by omega
      clear hlt
      go_wp2
      go_ret
      exact ⟨rfl, rfl⟩

end Go.Proofs.Ytafhmajnkicifaa
