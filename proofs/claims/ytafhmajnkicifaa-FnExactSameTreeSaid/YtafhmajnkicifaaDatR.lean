/- spec's inner operations on data: the place of an address, store, pop, say. -/
import Derived.Test.YtafhmajnkicifaaDatQ
namespace Go.Proofs.Ytafhmajnkicifaa
open Go.RowKit
set_option linter.unusedVariables false
set_option linter.unusedSimpArgs false

theorem place_some {d : Dt} {x : Int} {k : Nat} (h : dPlace d x = some k) : 4096 ≤ x ∧ x < 4096 + 4 * d.h ∧ x % 4 = 0 ∧ (x - 4096) / 4 = k := by
  unfold dPlace at h
  split at h
  · rename_i hc; simp only [Option.some.injEq] at h; refine ⟨hc.1, hc.2.1, hc.2.2, ?_⟩; omega
  · cases h

theorem place_none {d : Dt} {x : Int} (h : dPlace d x = none) : ¬ (4096 ≤ x ∧ x < 4096 + 4 * d.h ∧ x % 4 = 0) := by
  unfold dPlace at h
  split at h
  · cases h
  · assumption

theorem place_lt {d : Dt} {x : Int} {k : Nat} (h : dPlace d x = some k) (hd : DtFine d) : k < 32 ∧ k < d.c.length := by
  have := place_some h
  have h1 := fine_h1 hd
  have h2 := fine_cl hd
  omega

theorem datIn_third {w : World} {A1 A2 A3 : Option Addr} {k1 k2 k3 : Nat} {d : Dt} (h : DatIn w (.agg #[.slice A1 d.s.length k1, .slice A2 d.b.length k2, .slice A3 d.c.length k3, .int .i64 d.h, .int .i64 d.n, .string d.o]) d) : Ints w (.slice A3 d.c.length k3) d.c := by
  obtain ⟨x0, y0, z0, hv, h1, h2, h3, _⟩ := h
  simp only [Value.agg.injEq, Array.mk.injEq, List.cons.injEq, and_true, true_and] at hv
  obtain ⟨rfl, rfl, rfl⟩ := hv
  exact h3

theorem datIn_first {w : World} {A1 A2 A3 : Option Addr} {k1 k2 k3 : Nat} {d : Dt} (h : DatIn w (.agg #[.slice A1 d.s.length k1, .slice A2 d.b.length k2, .slice A3 d.c.length k3, .int .i64 d.h, .int .i64 d.n, .string d.o]) d) : Ints w (.slice A1 d.s.length k1) d.s := by
  obtain ⟨x0, y0, z0, hv, h1, h2, h3, _⟩ := h
  simp only [Value.agg.injEq, Array.mk.injEq, List.cons.injEq, and_true, true_and] at hv
  obtain ⟨rfl, rfl, rfl⟩ := hv
  exact h1

end Go.Proofs.Ytafhmajnkicifaa
