/- spec's inner operations on data: pop, say, allot. -/
import Derived.Test.YtafhmajnkicifaaDatR
namespace Go.Proofs.Ytafhmajnkicifaa
open Go.RowKit
set_option linter.unusedVariables false
set_option linter.unusedSimpArgs false

/-- The stack's slice is no longer than its capacity. -/
def CapS (v : Value) : Prop := ∃ A n k y z a b c, v = .agg #[.slice A n k, y, z, a, b, c] ∧ n ≤ k ∧ k ≤ maxLen

theorem row_cap {w : World} {base : Nat} {A : Option Addr} {n k : Nat} {zs : List Int} (h : Row w base (.slice A n k) zs) : n ≤ k ∧ k ≤ maxLen := by
  rcases h.2 with ⟨hv, _⟩ | ⟨g, cap, cur, hv, hb, hg, h1, h2, _⟩
  · simp only [Value.slice.injEq] at hv; obtain ⟨_, rfl, rfl⟩ := hv; exact ⟨Nat.le_refl _, Nat.zero_le _⟩
  · simp only [Value.slice.injEq] at hv; obtain ⟨_, rfl, rfl⟩ := hv; exact ⟨h1, h2⟩

theorem datOf_cap {w : World} {lo hi : Nat} {v : Value} {d : Dt} (h : DatOf w lo hi v d) : CapS v := by
  obtain ⟨x, y, z, rfl, h1, _⟩ := h
  obtain ⟨_, A, k, rfl, _⟩ := row_ints h1
  exact ⟨_, _, _, _, _, _, _, _, rfl, row_cap h1⟩

/-- The first numbers of a slice. -/
theorem ints_take {w : World} {A : Option Addr} {n c k : Nat} {zs : List Int} (h : Ints w (.slice A n c) zs) (hk : k ≤ zs.length) : Ints w (.slice A k c) (zs.take k) := by
  obtain ⟨h1, A', c', hv, hc⟩ := h
  simp only [Value.slice.injEq] at hv
  obtain ⟨rfl, hn, rfl⟩ := hv
  have hl : (zs.take k).length = k := by rw [List.length_take]; omega
  refine ⟨by rw [hl]; omega, A, c, by rw [hl], fun hp => ?_⟩
  rw [hl] at hp
  obtain ⟨ad, ha, hc⟩ := hc (by omega)
  refine ⟨ad, ha, fun j hj => ?_⟩
  rw [hc j (by omega)]
  simp

end Go.Proofs.Ytafhmajnkicifaa
