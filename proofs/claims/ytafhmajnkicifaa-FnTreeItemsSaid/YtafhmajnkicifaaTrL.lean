/- Trees between two blocks: what an exact law's walk carries. -/
import Derived.Test.YtafhmajnkicifaaTrK
import Derived.Test.YtafhmajnkicifaaTrD
namespace Go.Proofs.Ytafhmajnkicifaa
open Go.RowKit
set_option linter.unusedVariables false
set_option linter.unusedSimpArgs false

/-- A tree that is read in every world that agrees with this one between two blocks. -/
def TIn (d lo hi : Nat) (w : World) (v : Value) (L : List Nd) : Prop := ∀ w' : World, (∀ b, lo ≤ b → b < hi → w'.heap[b]? = w.heap[b]?) → Nds d w' v L

theorem tin_of {d lo : Nat} {w : World} {v : Value} {L : List Nd} (h : SPart d lo w none v L) : TIn d lo w.heap.size w v L := fun w' hw => h w' fun b h1 h2 _ => hw b h1 h2

theorem tin_keep {d lo hi : Nat} {w w' : World} {v : Value} {L : List Nd} (h : TIn d lo hi w v L) (hk : ∀ b, lo ≤ b → b < hi → w'.heap[b]? = w.heap[b]?) : TIn d lo hi w' v L :=
  fun w2 h2 => h w2 fun b h1 h3 => (h2 b h1 h3).trans (hk b h1 h3)

theorem tin_nds {d lo hi : Nat} {w : World} {v : Value} {L : List Nd} (h : TIn d lo hi w v L) : Nds d w v L := h w fun _ _ _ => rfl

end Go.Proofs.Ytafhmajnkicifaa
