/- The laws' helpers on hosts: alike, marks laid, marks found. -/
import Derived.Test.YtkcogfgjabemfaaHoA
namespace Go.Proofs.Ytkcogfgjabemfaa
open Go.RowKit
set_option linter.unusedVariables false
set_option linter.unusedSimpArgs false

theorem boolOfB_true {w : World} {zs : List Bool} {e : Ending} {w' : World} (h : BoolOf w (zs == zs) e w') : ∃ n : Nat, e = .returned (.bool true) ∧ w' = w.drewN n := by
  obtain ⟨n, he, hw⟩ := h
  exact ⟨n, by rw [he]; simp, hw⟩

/-- The host with marks from K on in its rows. -/
def markH (K : Nat) (h : Ht) : Ht := ⟨marksB K h.g.length, marksI (K + h.g.length) h.s.length, marksI (K + h.g.length + h.s.length) h.n.length, h.c, marksD (K + h.g.length + h.s.length + h.n.length) h.d.length⟩

/-- How many numbers its rows have. -/
def numH (h : Ht) : Nat := h.g.length + h.s.length + h.n.length + 4 * h.d.length

theorem borow_mark {w w' : World} {lo : Nat} {v u : Value} {zs : List Bool} (h : BoRow w lo v zs) (hg : w.grownBy w' u.ownBlock) (hp : Parted v u) : BoRow w' lo v zs :=
  borow_keep h fun g hv => hg.block g (borow_lt h g hv).2 (fun e => hp g hv e.symm)

theorem drow_mark {w w' : World} {lo : Nat} {v u : Value} {zs : List Dd} (h : DRow w lo v zs) (hg : w.grownBy w' u.ownBlock) (hp : Parted v u) : DRow w' lo v zs :=
  drow_keep h fun g hv => hg.block g (drow_lt h g hv).2 (fun e => hp g hv e.symm)

/-- What laying marks leaves. -/
def MarkHOf (w : World) (lo hi : Nat) (v : Value) (h : Ht) (K : Nat) (e : Ending) (w' : World) : Prop := e = .returned (.int .i64 ((K + numH h : Nat) : Int)) ∧ HostOf w' lo hi v (markH K h) ∧ Within lo hi w w'

end Go.Proofs.Ytkcogfgjabemfaa
