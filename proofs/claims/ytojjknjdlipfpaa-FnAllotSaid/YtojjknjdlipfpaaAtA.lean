/- What laws.at gives: a number below the bound; nothing is written. -/
import Derived.Test.YtojjknjdlipfpaaSrcA
namespace Go.Proofs.Ytojjknjdlipfpaa
open Go.RowKit
set_option linter.unusedVariables false
set_option linter.unusedSimpArgs false

/-- What 'at' leaves: a number from 0 on, below the bound; draws alone. -/
def AtPost (w : World) (n : Int) (e : Ending) (w' : World) : Prop := ∃ (v : Int) (k : Nat), (0 ≤ v ∧ v < n) ∧ e = .returned (.int .i64 v) ∧ w' = w.drewN k

set_option maxRecDepth 100000 in
set_option maxHeartbeats 1000000 in
theorem at_row (bc off len cap : Nat) (zs : List Int) (i n : Nat) (w : World) (h : BRow w (some ⟨bc, off, none⟩) len cap zs) (hl : 0 < len) (hlx : len ≤ 1048576) (hi : i ≤ 1000000) (h1 : 1 < n) (h2 : n ≤ 1000000000) :
    Calls Try.prog 16 #[.slice (some ⟨bc, off, none⟩) len cap, .int .i64 i, .int .i64 n] w (AtPost w n) := by
  rcases h with ⟨h, _⟩ | ⟨x, hx, g1, g2, hz, h4, h5⟩
  · cases h
  obtain rfl := Option.some.inj hx
  unfold maxLen at g2
  obtain ⟨r1, hr1⟩ : ∃ r : Nat, r = i % len := ⟨_, rfl⟩
  obtain ⟨r2, hr2⟩ : ∃ r : Nat, r = (i + 1) % len := ⟨_, rfl⟩
  obtain ⟨q, hq⟩ : ∃ q : Nat, q = i / len := ⟨_, rfl⟩
  have l1 : r1 < len := by rw [hr1]; exact Nat.mod_lt _ hl
  have l2 : r2 < len := by rw [hr2]; exact Nat.mod_lt _ hl
  have l3 : q ≤ i := by rw [hq]; exact Nat.div_le_self _ _
  have e1 : ((i : Int) % (len : Int)) = r1 := by rw [hr1]; omega
  have e2 : (((i : Int) + 1) % (len : Int)) = r2 := by rw [hr2]; simp
  have e3 : ((i : Int) / (len : Int)) = q := by rw [hq]; omega
  have c1 : w.cell? ⟨bc, off + r1, none⟩ = some (.int .u8 (zs.getD r1 0)) := by have := h4 r1 (by omega); rwa [Addr.add_lit] at this
  have c2 : w.cell? ⟨bc, off + r2, none⟩ = some (.int .u8 (zs.getD r2 0)) := by have := h4 r2 (by omega); rwa [Addr.add_lit] at this
  have b1 := range_u8 h5 r1
  have b2 := range_u8 h5 r2
  rw [← List.getD_eq_getElem?_getD] at b1 b2
  generalize zs.getD r1 0 = x1 at *
  generalize zs.getD r2 0 = x2 at *
  obtain ⟨x1a, x1b⟩ := b1
  obtain ⟨x2a, x2b⟩ := b2
  have z0 : ((len : Int) == 0) = false := by simp; omega
  have P := Lib.hid (show 0 < n by omega)
  clear h4 h5 hr1 hr2 hq hx hz
  go_enter Try.func16, Try.ntmps16
  go_wp2
  go_quiet (fail)
  go_wp2
  go_ret
  exact ⟨_, _, ⟨Int.emod_nonneg _ (by have := P.out; omega), Int.emod_lt_of_pos _ (by have := P.out; omega)⟩, rfl, rfl⟩

set_option maxRecDepth 100000 in
set_option maxHeartbeats 1000000 in
theorem at_none (a : Option Addr) (cap : Nat) (i n : Nat) (w : World) (hi : i ≤ 1000000) (h1 : 1 < n) (h2 : n ≤ 1000000000) :
    Calls Try.prog 16 #[.slice a 0 cap, .int .i64 i, .int .i64 n] w (AtPost w n) := by
  have P := Lib.hid (show 0 < n by omega)
  go_enter Try.func16, Try.ntmps16
  go_wp2
  go_ret
  exact ⟨_, 0, ⟨Int.emod_nonneg _ (by have := P.out; omega), Int.emod_lt_of_pos _ (by have := P.out; omega)⟩, rfl, rfl⟩

theorem at_any (a : Option Addr) (len cap : Nat) (zs : List Int) (i n : Nat) (w : World) (h : BRow w a len cap zs) (hlx : len ≤ 1048576) (hi : i ≤ 1000000) (h1 : 1 < n) (h2 : n ≤ 1000000000) :
    Calls Try.prog 16 #[.slice a len cap, .int .i64 i, .int .i64 n] w (AtPost w n) := by
  by_cases hl : 0 < len
  · rcases h with ⟨_, h0, _⟩ | ⟨x, rfl, g1, g2, hz, h4, h5⟩
    · omega
    · have hx : w.cell? (x.add 0) = some (.int .u8 (zs.getD 0 0)) := h4 0 (by omega)
      obtain ⟨bc, off, spot⟩ := x
      have hspot : spot = none := by simpa [Addr.add] using World.cell?_spot hx
      subst hspot
      exact at_row bc off len cap zs i n w (.inr ⟨_, rfl, g1, g2, hz, h4, h5⟩) hl hlx hi h1 h2
  · obtain rfl : len = 0 := by omega
    exact at_none a cap i n w hi h1 h2

end Go.Proofs.Ytojjknjdlipfpaa
