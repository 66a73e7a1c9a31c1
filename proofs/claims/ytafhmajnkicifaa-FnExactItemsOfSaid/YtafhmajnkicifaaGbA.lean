/- A grown world that grows on. -/
import Derived.Test.YtafhmajnkicifaaSrcA
import Derived.Test.YtafhmajnkicifaaOwnA
namespace Go.Proofs.Ytafhmajnkicifaa
open Go.RowKit
set_option linter.unusedVariables false
set_option linter.unusedSimpArgs false

theorem gb_alloc {a w : World} {b : Nat} (h : a.grownBy w (some b)) (o : Obj) : a.grownBy (w.alloc o) (some b) := grown_trans h (World.grownBy_alloc w o _)

theorem gb_of_lo {a w w' : World} {b : Nat} (h : a.grownBy w (some b)) (hb : Below a.heap.size w w') : a.grownBy w' (some b) :=
  ⟨hb.os.trans h.os, hb.tape.trans h.tape, hb.output.trans h.output, Nat.le_trans h.size hb.size, fun k hk hr => (hb.block k hk).trans (h.block k hk hr)⟩

theorem gb_drew {a w : World} {r : Option Nat} (h : a.grownBy w r) : a.grownBy w.drew r := ⟨h.os, h.tape, h.output, h.size, h.block⟩

theorem gb_set {a w : World} {b : Nat} (h : a.grownBy w (some b)) {p : Addr} (hp : a.heap.size ≤ p.block) (u : Value) : a.grownBy (w.setCell p u) (some b) :=
  gb_of_lo h ((Below.refl _ _).setCell hp u)

end Go.Proofs.Ytafhmajnkicifaa
