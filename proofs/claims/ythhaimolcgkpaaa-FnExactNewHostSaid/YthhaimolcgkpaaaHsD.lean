/- Grant, the given side: a capability granted, an answer laid by. -/
import Derived.Test.YthhaimolcgkpaaaHsC
import Derived.Test.YthhaimolcgkpaaaDatP
namespace Go.Proofs.Ythhaimolcgkpaaa
open Go.RowKit
set_option linter.unusedVariables false
set_option linter.unusedSimpArgs false

theorem hostOf_store {w : World} {lo hi g i : Nat} {v u : Value} {h : Ht} (H : HostOf w lo hi v h) (hg : g < lo) : HostOf (w.setCell ⟨g, i, none⟩ u) lo hi v h :=
  hostOf_keep H fun k _ h1 _ => Below.heap_setCell w _ u k (by show k ≠ g; omega)

theorem row_far {w : World} {lo g i : Nat} {v u : Value} {zs : List Int} (h : Row w lo v zs) (hp : ∀ k, v.ownBlock = some k → k ≠ g) : Row (w.setCell ⟨g, i, none⟩ u) lo v zs := row_keep h fun k hk => Below.heap_setCell w _ u k (hp k hk)

theorem borow_far {w : World} {lo g i : Nat} {v u : Value} {zs : List Bool} (h : BoRow w lo v zs) (hp : ∀ k, v.ownBlock = some k → k ≠ g) : BoRow (w.setCell ⟨g, i, none⟩ u) lo v zs := borow_keep h fun k hk => Below.heap_setCell w _ u k (hp k hk)

theorem drow_far {w : World} {lo g i : Nat} {v u : Value} {zs : List Dd} (h : DRow w lo v zs) (hp : ∀ k, v.ownBlock = some k → k ≠ g) : DRow (w.setCell ⟨g, i, none⟩ u) lo v zs := drow_keep h fun k hk => Below.heap_setCell w _ u k (hp k hk)

theorem parted_ne {x : Value} {g : Nat} {n m : Nat} (h : Parted (.slice (some ⟨g, 0, none⟩) n m) x) : ∀ k, x.ownBlock = some k → k ≠ g := fun k hk e => h g rfl (by rw [hk, e])

theorem hostOf_grant {w : World} {lo hi g m k : Nat} {y z q : Value} {h : Ht} (yes : Bool) (H : HostOf w lo hi (.agg #[.slice (some ⟨g, 0, none⟩) h.g.length m, y, z, .int .i64 h.c, q]) h) :
    HostOf (w.setCell ⟨g, k, none⟩ (.bool yes)) lo hi (.agg #[.slice (some ⟨g, 0, none⟩) h.g.length m, y, z, .int .i64 h.c, q]) { h with g := h.g.set k yes } := by
  obtain ⟨x', y', z', q', e, h1, h2, h3, h4, p1, p2, p3, p4, p5, p6, hh⟩ := H
  simp only [Value.agg.injEq, Array.mk.injEq, List.cons.injEq, and_true, true_and] at e
  obtain ⟨rfl, rfl, rfl, rfl⟩ := e
  exact ⟨_, _, _, _, rfl, (borow_set h1 k yes).1, row_far h2 (parted_ne p1), row_far h3 (parted_ne p2), drow_far h4 (parted_ne p3), p1, p2, p3, p4, p5, p6, hh⟩

set_option maxRecDepth 100000 in
set_option maxHeartbeats 2000000 in
theorem sHGrant_any (v : Value) (h : Ht) (k : Nat) (yes : Bool) (w : World) (hv : HostIn w v h) (hs : SmallH h) (hk : k < h.g.length) :
    Calls Try.prog 77 #[v, .int .i64 k, .bool yes] w (HCopyOf w { h with g := h.g.set k yes }) := by
  have HH := Lib.hid hv
  obtain ⟨A1, k1, A2, k2, A3, k3, A4, k4, rfl⟩ := hostIn_form hv
  clear hv
  have zl : h.g.length ≤ 1048576 := hs.1
  go_enter Try.func77, Try.ntmps77
  go_wp2_with fail
  refine (sHOwn_any _ h _ (hostIn_below HH.out (below_alloc (below_alloc (Below.refl _ _) _) _)) hs).mono ?_
  rintro e w1 ⟨u, rfl, hu, hb⟩
  have B1 : Below w.heap.size w w1 := below_step (below_alloc (below_alloc (Below.refl _ _) _) _) hb
  have V1 := whole_b hb (whole_alloc (whole_new w _ _) _)
  have T1 := whole_b hb (whole_new1 w _ _ _)
  have HU : HostOf w1 (w.heap.size + 1 + 1) w1.heap.size u h := by simpa using hu
  clear hb hu
  have HU' := HU
  obtain ⟨x', y', z', q', rfl, hx, hy, hz, hq, _⟩ := HU'
  obtain ⟨g, m, rfl, hg1, hg2, _⟩ := borow_form hx (by omega)
  have ko := borow_cell hx k hk
  have kf := borow_free hx k
  obtain ⟨_, B2, m2, rfl, _⟩ := row_ints hy
  obtain ⟨_, B3, m3, rfl, _⟩ := row_ints hz
  obtain ⟨_, B4, m4, rfl, _⟩ := drow_dds hq
  clear hx hy hz hq
  have ne0 : g ≠ w.heap.size := by omega
  have ne1 : g ≠ w.heap.size + 1 := by omega
  have ne2 : w.heap.size ≠ g := by omega
  have ne3 : w.heap.size + 1 ≠ g := by omega
  obtain ⟨c0, c1, c2, c3, c4⟩ := five_cells V1
  obtain ⟨r0, r1, r2, r3, r4⟩ := five_cells T1
  have fv := whole_free V1
  have fr := whole_free T1
  have HU2 := Lib.hid HU
  clear HU
  go_wp2
  refine bodyPost_ret (v := .agg #[.slice (some ⟨g, 0, none⟩) h.g.length m, .slice B2 h.s.length m2, .slice B3 h.n.length m3, .int .i64 h.c, .slice B4 h.d.length m4]) (by simp [results, Try.results77, go_sem, *]) rfl ⟨_, rfl, hostOf_top (hi := w1.heap.size) (hostOf_base (lo := w.heap.size + 1 + 1) ?_ (by omega)) (by simp), ?_⟩
  · repeat ((with_reducible refine hostOf_store ?_ ?hh); case hh => omega)
    refine hostOf_grant yes ?_
    repeat (first | with_reducible exact HU2.out | ((with_reducible refine hostOf_store ?_ ?hh); case hh => omega))
  · repeat (first | with_reducible exact B1 | with_reducible refine Below.setCell ?_ (by simp; try omega) _)

end Go.Proofs.Ythhaimolcgkpaaa
