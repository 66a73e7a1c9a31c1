/- A row of the call's own that may have lost its first cell; a host whose answers are such a row; marks laid in it. -/
import Derived.Test.YtkcogfgjabemfaaOnl
import Derived.Test.YtkcogfgjabemfaaHsK
namespace Go.Proofs.Ytkcogfgjabemfaa
open Go.RowKit
set_option linter.unusedVariables false
set_option linter.unusedSimpArgs false

/-- A row of the call's own, or what is left of one behind its first cell. -/
def TRow (w : World) (base : Nat) (v : Value) (zs : List Int) : Prop :=
  Row w base v zs ∨ (∃ g cap a, v = .slice (some ⟨g, 1, none⟩) zs.length cap ∧ Row w base (.slice (some ⟨g, 0, none⟩) (a :: zs).length (cap + 1)) (a :: zs)) ∨ (zs = [] ∧ ∃ g, v = .slice (some ⟨g, 0, none⟩) 0 0 ∧ base ≤ g ∧ g < w.heap.size)

theorem trow_row {w : World} {base : Nat} {v : Value} {zs : List Int} (h : Row w base v zs) : TRow w base v zs := .inl h

theorem trow_lt {w : World} {base : Nat} {v : Value} {zs : List Int} (h : TRow w base v zs) : ∀ g, v.ownBlock = some g → base ≤ g ∧ g < w.heap.size := by
  rcases h with h | ⟨g, cap, a, rfl, h⟩ | ⟨rfl, g, rfl, h1, h2⟩
  · exact row_lt h
  · intro k hk
    exact row_lt h k (by simpa [Value.ownBlock] using hk)
  · intro k hk
    have : g = k := by simpa [Value.ownBlock] using hk
    subst this
    exact ⟨h1, h2⟩

theorem trow_keep {w w' : World} {base : Nat} {v : Value} {zs : List Int} (h : TRow w base v zs) (hs : w.heap.size ≤ w'.heap.size) (hk : ∀ g, v.ownBlock = some g → w'.heap[g]? = w.heap[g]?) : TRow w' base v zs := by
  rcases h with h | ⟨g, cap, a, rfl, h⟩ | ⟨rfl, g, rfl, h1, h2⟩
  · exact .inl (row_keep h hk)
  · exact .inr (.inl ⟨g, cap, a, rfl, row_keep h fun k hq => hk k (by simpa [Value.ownBlock] using hq)⟩)
  · exact .inr (.inr ⟨rfl, g, rfl, h1, by omega⟩)

theorem trow_base {w : World} {base base' : Nat} {v : Value} {zs : List Int} (h : TRow w base v zs) (hb : base' ≤ base) : TRow w base' v zs := by
  rcases h with h | ⟨g, cap, a, rfl, h⟩ | ⟨rfl, g, rfl, h1, h2⟩
  · exact .inl (row_base h hb)
  · exact .inr (.inl ⟨g, cap, a, rfl, row_base h hb⟩)
  · exact .inr (.inr ⟨rfl, g, rfl, by omega, h2⟩)

theorem ints_tail1 {w : World} {g cap : Nat} {a : Int} {zs : List Int} (h : Ints w (.slice (some ⟨g, 0, none⟩) (a :: zs).length (cap + 1)) (a :: zs)) : Ints w (.slice (some ⟨g, 1, none⟩) zs.length cap) zs :=
  ints_tail (ad := ⟨g, 0, none⟩) (p := cap) rfl h

theorem trow_ints {w : World} {base : Nat} {v : Value} {zs : List Int} (h : TRow w base v zs) : Ints w v zs := by
  rcases h with h | ⟨g, cap, a, rfl, h⟩ | ⟨rfl, g, rfl, h1, h2⟩
  · exact row_ints h
  · exact ints_tail1 (row_ints h)
  · exact ⟨Nat.zero_le _, _, _, rfl, fun h => absurd h (by simp)⟩

/-- What laying marks leaves. -/
def MarkTOf (w : World) (base : Nat) (v : Value) (n K : Nat) (e : Ending) (w' : World) : Prop := e = .returned (.int .i64 ((K : Int) + n)) ∧ TRow w' base v (marksI K n) ∧ w.grownBy w' v.ownBlock

/-- The value is this host, its rows in blocks of their own from lo on; of the answers' row the first cell may be gone. -/
def HostT (w : World) (lo : Nat) (v : Value) (h : Ht) : Prop :=
  ∃ x y z q, v = .agg #[x, y, z, .int .i64 h.c, q] ∧ BoRow w lo x h.g ∧ Row w lo y h.s ∧ TRow w lo z h.n ∧ DRow w lo q h.d ∧ Parted x y ∧ Parted x z ∧ Parted x q ∧ Parted y z ∧ Parted y q ∧ Parted z q

theorem hostT_of {w : World} {lo hi : Nat} {v : Value} {h : Ht} (H : HostOf w lo hi v h) : HostT w lo v h := by
  obtain ⟨x, y, z, q, e, h1, h2, h3, h4, p1, p2, p3, p4, p5, p6, _⟩ := H
  exact ⟨x, y, z, q, e, h1, h2, .inl h3, h4, p1, p2, p3, p4, p5, p6⟩

theorem hostT_in {w : World} {lo : Nat} {v : Value} {h : Ht} (H : HostT w lo v h) : HostIn w v h := by
  obtain ⟨x, y, z, q, e, h1, h2, h3, h4, _⟩ := H
  exact ⟨x, y, z, q, e, borow_bols h1, row_ints h2, trow_ints h3, drow_dds h4⟩

theorem hostT_keep {w w' : World} {lo : Nat} {v : Value} {h : Ht} (H : HostT w lo v h) (hs : w.heap.size ≤ w'.heap.size) (hk : ∀ g, Mine v g → w'.heap[g]? = w.heap[g]?) : HostT w' lo v h := by
  obtain ⟨x, y, z, q, rfl, h1, h2, h3, h4, p⟩ := H
  have hm : ∀ u ∈ [x, y, z, .int .i64 h.c, q], ∀ g, u.ownBlock = some g → w'.heap[g]? = w.heap[g]? := fun u hu g e => hk g (mine_agg.2 ⟨u, hu, e⟩)
  exact ⟨x, y, z, q, rfl, borow_keep h1 (hm x (by simp)), row_keep h2 (hm y (by simp)), trow_keep h3 hs (hm z (by simp)), drow_keep h4 (hm q (by simp)), p⟩

theorem hostT_mine {w : World} {lo : Nat} {v : Value} {h : Ht} (H : HostT w lo v h) {g : Nat} (hg : Mine v g) : lo ≤ g ∧ g < w.heap.size := by
  obtain ⟨x, y, z, q, rfl, h1, h2, h3, h4, _⟩ := H
  obtain ⟨u, hu, e⟩ := mine_agg.1 hg
  simp only [List.mem_cons, List.not_mem_nil, or_false] at hu
  rcases hu with rfl | rfl | rfl | rfl | rfl
  · exact borow_lt h1 g e
  · exact row_lt h2 g e
  · exact trow_lt h3 g e
  · simp [Value.ownBlock] at e
  · exact drow_lt h4 g e

theorem hostT_below {w w' : World} {lo : Nat} {v : Value} {h : Ht} (H : HostT w lo v h) (hb : Below w.heap.size w w') : HostT w' lo v h := hostT_keep H hb.size fun g hg => hb.block g (hostT_mine H hg).2

theorem hostT_only {S : Nat → Prop} {w w' : World} {lo : Nat} {v : Value} {h : Ht} (H : HostT w lo v h) (hb : Only S w w') (hs : ∀ g, Mine v g → ¬ S g) : HostT w' lo v h := hostT_keep H hb.size fun g hg => hb.block g (hostT_mine H hg).2 (hs g hg)

theorem hostT_base {w : World} {lo lo' : Nat} {v : Value} {h : Ht} (H : HostT w lo v h) (hl : lo' ≤ lo) : HostT w lo' v h := by
  obtain ⟨x, y, z, q, e, h1, h2, h3, h4, p⟩ := H
  exact ⟨x, y, z, q, e, borow_base h1 hl, row_base h2 hl, trow_base h3 hl, drow_base h4 hl, p⟩

theorem hostT_store {w : World} {lo g i : Nat} {v u : Value} {h : Ht} (H : HostT w lo v h) (hg : ∀ k, Mine v k → k ≠ g) : HostT (w.setCell ⟨g, i, none⟩ u) lo v h :=
  hostT_keep H (by simp [World.setCell]) fun k hk => Below.heap_setCell w _ u k (hg k hk)

theorem trow_mark {w w' : World} {lo : Nat} {v u : Value} {zs : List Int} (h : TRow w lo v zs) (hg : w.grownBy w' u.ownBlock) (hp : Parted v u) : TRow w' lo v zs :=
  trow_keep h hg.size fun g hv => hg.block g (trow_lt h g hv).2 (fun e => hp g hv e.symm)

theorem trow_alloc {w : World} {base : Nat} {v : Value} {zs : List Int} (h : TRow w base v zs) (o : Obj) : TRow (w.alloc o) base v zs := trow_keep h (by simp) fun g hg => Below.heap_alloc w o g (trow_lt h g hg).2

end Go.Proofs.Ytkcogfgjabemfaa
