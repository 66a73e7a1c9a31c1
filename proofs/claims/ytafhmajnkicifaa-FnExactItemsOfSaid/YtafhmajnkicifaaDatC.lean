/- The laws' helpers on data: alike, marks laid, marks found. -/
import Derived.Test.YtafhmajnkicifaaDatB
namespace Go.Proofs.Ytafhmajnkicifaa
open Go.RowKit
set_option linter.unusedVariables false
set_option linter.unusedSimpArgs false

theorem ints_draws {w : World} {v : Value} {zs : List Int} (h : Ints w v zs) (n : Nat) : Ints (w.drewN n) v zs := h

theorem boolOf_true {w : World} {zs : List Int} {e : Ending} {w' : World} (h : BoolOf w (zs == zs) e w') : ∃ n : Nat, e = .returned (.bool true) ∧ w' = w.drewN n := by
  obtain ⟨n, he, hw⟩ := h
  exact ⟨n, by rw [he]; simp, hw⟩

/-- The data with marks from K on in its rows. -/
def markD (K : Nat) (d : Dt) : Dt := ⟨marksI K d.s.length, marksI (K + d.s.length) d.b.length, marksI (K + d.s.length + d.b.length) d.c.length, d.h, d.n, d.o⟩

/-- How many numbers its rows have. -/
def numD (d : Dt) : Nat := d.s.length + d.b.length + d.c.length

theorem row_mark {w w' : World} {lo : Nat} {v u : Value} {zs : List Int} (h : Row w lo v zs) (hg : w.grownBy w' u.ownBlock) (hp : Parted v u) : Row w' lo v zs :=
  row_keep h fun g hv => hg.block g (row_lt h g hv).2 (fun e => hp g hv e.symm)

/-- What laying marks leaves. -/
def MarkDOf (w : World) (lo hi : Nat) (v : Value) (d : Dt) (K : Nat) (e : Ending) (w' : World) : Prop := e = .returned (.int .i64 ((K + numD d : Nat) : Int)) ∧ DatOf w' lo hi v (markD K d) ∧ Within lo hi w w'

end Go.Proofs.Ytafhmajnkicifaa
