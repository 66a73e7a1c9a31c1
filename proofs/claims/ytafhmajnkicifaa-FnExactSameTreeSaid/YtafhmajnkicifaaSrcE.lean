/- The source of draws, where nothing below a bound turns. -/
import Derived.Test.YtafhmajnkicifaaSrcB
import Derived.Test.YtafhmajnkicifaaGbA
namespace Go.Proofs.Ytafhmajnkicifaa
open Go.RowKit
set_option linter.unusedVariables false
set_option linter.unusedSimpArgs false

theorem brow_lo {w w' : World} {B : Nat} {a : Option Addr} {len cap : Nat} {zs : List Int} (h : BRow w a len cap zs) (ha : ∀ x, a = some x → 0 < cap → x.block < B) (k : Below B w w') : BRow w' a len cap zs := by
  rcases h with h | ⟨x, rfl, h1, h2, h3, h4, h5⟩
  · exact .inl h
  · exact .inr ⟨x, rfl, h1, h2, h3, fun i hi => by rw [k.cell (by rw [add_block]; exact ha x rfl (by omega))]; exact h4 i hi, h5⟩

/-- The source stays where nothing below a bound turns. -/
theorem src_lo {w w' : World} {B b : Nat} {a : Option Addr} {len cap : Nat} {zs : List Int} {N : Nat} (h : Src w b a len cap zs N) (hb : b < B) (ha : ∀ x, a = some x → 0 < cap → x.block < B) (k : Below B w w') : Src w' b a len cap zs N := by
  obtain ⟨i, seed, hi, c0, c1, c2, f1, f2, row, ap, s0, s1⟩ := h
  exact ⟨i, seed, hi, by rw [k.cell (p := ⟨b, 0, none⟩) hb]; exact c0, by rw [k.cell (p := ⟨b, 1, none⟩) hb]; exact c1, by rw [k.cell (p := ⟨b, 2, none⟩) hb]; exact c2,
    by rw [k.frozen (p := ⟨b, 1, none⟩) hb]; exact f1, by rw [k.frozen (p := ⟨b, 2, none⟩) hb]; exact f2, brow_lo row ha k, ap, s0, s1⟩

theorem src_lt {w : World} {b : Nat} {a : Option Addr} {len cap : Nat} {zs : List Int} {N : Nat} (h : Src w b a len cap zs N) : b < w.heap.size := by
  obtain ⟨i, seed, hi, h⟩ := h
  exact lt_of_cell h.c0

theorem src_code_lt {w : World} {b : Nat} {a : Option Addr} {len cap : Nat} {zs : List Int} {N : Nat} (h : Src w b a len cap zs N) : ∀ x, a = some x → 0 < cap → x.block < w.heap.size := by
  obtain ⟨i, seed, hi, h⟩ := h
  exact brow_lt h.row

theorem src_alloc {w : World} {b : Nat} {a : Option Addr} {len cap : Nat} {zs : List Int} {N : Nat} (h : Src w b a len cap zs N) (o : Obj) : Src (w.alloc o) b a len cap zs N :=
  src_lo h (src_lt h) (src_code_lt h) ((Below.refl _ _).alloc (Nat.le_refl _) _)

theorem src_draws' {w : World} {b : Nat} {a : Option Addr} {len cap : Nat} {zs : List Int} {N : Nat} (h : Src w b a len cap zs N) : Src w.drew b a len cap zs N :=
  src_lo h (src_lt h) (src_code_lt h) (Below.refl _ _).drew

end Go.Proofs.Ytafhmajnkicifaa
