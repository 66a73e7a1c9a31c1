/- Grant, the given side: a capability granted, an answer laid by. -/
import Derived.Test.YtkcogfgjabemfaaHsC
import Derived.Test.YtkcogfgjabemfaaDatP
namespace Go.Proofs.Ytkcogfgjabemfaa
open Go.RowKit
set_option linter.unusedVariables false
set_option linter.unusedSimpArgs false

theorem hostOf_store {w : World} {lo hi g i : Nat} {v u : Value} {h : Ht} (H : HostOf w lo hi v h) (hg : g < lo) : HostOf (w.setCell ⟨g, i, none⟩ u) lo hi v h :=
  hostOf_keep H fun k _ h1 _ => Below.heap_setCell w _ u k (by show k ≠ g; omega)

theorem row_far {w : World} {lo g i : Nat} {v u : Value} {zs : List Int} (h : Row w lo v zs) (hp : ∀ k, v.ownBlock = some k → k ≠ g) : Row (w.setCell ⟨g, i, none⟩ u) lo v zs := row_keep h fun k hk => Below.heap_setCell w _ u k (hp k hk)

theorem borow_far {w : World} {lo g i : Nat} {v u : Value} {zs : List Bool} (h : BoRow w lo v zs) (hp : ∀ k, v.ownBlock = some k → k ≠ g) : BoRow (w.setCell ⟨g, i, none⟩ u) lo v zs := borow_keep h fun k hk => Below.heap_setCell w _ u k (hp k hk)

theorem drow_far {w : World} {lo g i : Nat} {v u : Value} {zs : List Dd} (h : DRow w lo v zs) (hp : ∀ k, v.ownBlock = some k → k ≠ g) : DRow (w.setCell ⟨g, i, none⟩ u) lo v zs := drow_keep h fun k hk => Below.heap_setCell w _ u k (hp k hk)

theorem parted_ne {x : Value} {g : Nat} {n m : Nat} (h : Parted (.slice (some ⟨g, 0, none⟩) n m) x) : ∀ k, x.ownBlock = some k → k ≠ g := fun k hk e => h g rfl (by rw [hk, e])

theorem hostOf_grant {w : World} {lo hi g m k : Nat} {y z q : Value} {h : Ht} (yes : Bool) (H : HostOf w lo hi (.agg #[.slice (some ⟨g, 0, none⟩) h.g.length m, y, z, .int .i64 h.c, q]) h) :
    HostOf (w.setCell ⟨g, k, none⟩ (.bool yes)) lo hi (.agg #[.slice (some ⟨g, 0, none⟩) h.g.length m, y, z, .int .i64 h.c, q]) { h with g := h.g.set k yes } := by
  obtain ⟨x', y', z', q', e, h1, h2, h3, h4, p1, p2, p3, p4, p5, p6, hh⟩ := H
  simp only [Value.agg.injEq, Array.mk.injEq, List.cons.injEq, and_true, true_and] at e
  obtain ⟨rfl, rfl, rfl, rfl⟩ := e
  exact ⟨_, _, _, _, rfl, (borow_set h1 k yes).1, row_far h2 (parted_ne p1), row_far h3 (parted_ne p2), drow_far h4 (parted_ne p3), p1, p2, p3, p4, p5, p6, hh⟩

end Go.Proofs.Ytkcogfgjabemfaa
