/- The program's reader of items: all lists. -/
import Derived.Test.YtafhmajnkicifaaTrI
namespace Go.Proofs.Ytafhmajnkicifaa
open Go.RowKit
set_option linter.unusedVariables false
set_option linter.unusedSimpArgs false

theorem nodes_all (N : Nat) (hN : N ≤ 1000001) : ∀ m, m ≤ N → NodesN N m := by
  intro m
  induction m with
  | zero => intro _ Q o w G ib h; omega
  | succ m ih => intro h; exact nodes_succ N m (by omega) (by omega) (ih (by omega))

/-- The nodes of items, read with one more fuel than there are items. -/
theorem nodes_any (Q : List It) (o : List Int) (w : World) (G ib : Nat) (hQ : Q.length ≤ 1000000) (hg : Good Q o) (ho : o.length ≤ 8) (hr : RdAt w G ib Q) (hi : ib < w.heap.size) (hne : ib ≠ G) :
    Calls Try.prog 29 #[.pointer (some ⟨G, 0, none⟩)] w (NodesOf (Q.length + 1) Q o w G ib) :=
  nodes_all (Q.length + 1) (by omega) (Q.length + 1) (Nat.le_refl _) Q o w G ib (by omega) hg ho hr hi hne

end Go.Proofs.Ytafhmajnkicifaa
