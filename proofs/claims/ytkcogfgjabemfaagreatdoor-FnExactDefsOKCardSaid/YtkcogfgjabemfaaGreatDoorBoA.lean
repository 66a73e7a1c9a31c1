/- Rows of bools: what reads as a list of bools, what is owned as one; an append of such a row; the laws' helpers on them. -/
import Derived.Test.YtkcogfgjabemfaaGreatDoorRowB
namespace Go.Proofs.YtkcogfgjabemfaaGreatDoor
open Go.RowKit
set_option linter.unusedVariables false
set_option linter.unusedSimpArgs false

theorem own_infoB : (Tryz.prog.info? 4).map (fun i => (i.zero, i.size, i.bytes)) = some (some (.bool false), 1, 1) := by kernel_rfl

theorem bols_oneCell : ∀ (zs : List Bool) (v : Value), v ∈ zs.map Value.bool → v.cells = #[v] := by
  intro zs v hv
  obtain ⟨z, _, rfl⟩ := List.mem_map.1 hv
  rfl

/-- A slice, nil or not, that reads as these numbers. -/
def Bols (w : World) (v : Value) (zs : List Bool) : Prop :=
  zs.length ≤ maxLen ∧ ∃ A cap, v = .slice A zs.length cap ∧ (0 < zs.length → ∃ ad, A = some ad ∧ ∀ k (h : k < zs.length), w.cell? (ad.add k) = some (.bool zs[k]))

/-- A slice of the call's own, perhaps nil, of these numbers. -/
def BoRow (w : World) (base : Nat) (v : Value) (zs : List Bool) : Prop := w.ownsRow base 4 1 v zs.length (zs.map (Value.bool))

theorem bols_keep {w w' : World} {v : Value} {zs : List Bool} (h : Bols w v zs) (hk : ∀ (x : Addr) (u : Value), w.cell? x = some u → w'.cell? x = some u) : Bols w' v zs := by
  obtain ⟨h1, A, cap, hv, hc⟩ := h
  refine ⟨h1, A, cap, hv, fun hp => ?_⟩
  obtain ⟨ad, ha, hc⟩ := hc hp
  exact ⟨ad, ha, fun k hk' => hk _ _ (hc k hk')⟩

theorem bols_below {w w' : World} {v : Value} {zs : List Bool} (h : Bols w v zs) (hb : Below w.heap.size w w') : Bols w' v zs :=
  bols_keep h fun x u hx => by rw [hb.cell (World.block_lt_of_cell? w x hx)]; exact hx

theorem bols_nil (w : World) : Bols w (.slice none 0 0) [] := ⟨Nat.zero_le _, none, 0, rfl, fun h => absurd h (by simp)⟩

theorem borow_nil (w : World) (base : Nat) : BoRow w base (.slice none 0 0) [] := World.ownsRow_nil w base _ 1

theorem borow_bols {w : World} {base : Nat} {v : Value} {zs : List Bool} (h : BoRow w base v zs) : Bols w v zs := by
  rcases h.2 with ⟨hv, h0⟩ | ⟨g, cap, cur, hv, hb, hg, h1, h2, h3, h4⟩
  · exact ⟨by rw [h0]; exact Nat.zero_le _, none, 0, by rw [hv, h0], fun hp => absurd hp (by omega)⟩
  · refine ⟨Nat.le_trans h1 h2, some ⟨g, 0, none⟩, cap, hv, fun _ => ⟨_, rfl, fun k hk => ?_⟩⟩
    subst hv
    have hc := h.cellAt k (by omega)
    rw [show (⟨g, 0, none⟩ : Addr).add k = ⟨g, k, none⟩ by rw [Addr.add_lit, Nat.zero_add], hc]
    simp [hk]

theorem borow_form {w : World} {base : Nat} {v : Value} {zs : List Bool} (h : BoRow w base v zs) (hp : 0 < zs.length) : ∃ g cap, v = .slice (some ⟨g, 0, none⟩) zs.length cap ∧ base ≤ g ∧ g < w.heap.size ∧ zs.length ≤ cap ∧ cap ≤ maxLen := by
  rcases h.2 with ⟨_, h0⟩ | ⟨g, cap, cur, hv, hb, hg, h1, h2, _⟩
  · omega
  · exact ⟨g, cap, hv, hb, (Array.getElem?_eq_some_iff.1 hg).1, h1, h2⟩

theorem borow_len {w : World} {base : Nat} {v : Value} {zs : List Bool} (h : BoRow w base v zs) : zs.length ≤ maxLen := (borow_bols h).1

theorem borow_lt {w : World} {base : Nat} {v : Value} {zs : List Bool} (h : BoRow w base v zs) : ∀ g, v.ownBlock = some g → base ≤ g ∧ g < w.heap.size := h.lt

theorem borow_keep {w w' : World} {base : Nat} {v : Value} {zs : List Bool} (h : BoRow w base v zs) (hk : ∀ g, v.ownBlock = some g → w'.heap[g]? = w.heap[g]?) : BoRow w' base v zs := by
  obtain ⟨h1, h2⟩ := h
  refine ⟨h1, ?_⟩
  rcases h2 with h2 | ⟨g, cap, cur, hv, hb, hg, r⟩
  · exact .inl h2
  · exact .inr ⟨g, cap, cur, hv, hb, by rw [hk g (by rw [hv]; rfl)]; exact hg, r⟩

theorem borow_below {w w' : World} {base : Nat} {v : Value} {zs : List Bool} (h : BoRow w base v zs) (hb : Below w.heap.size w w') : BoRow w' base v zs := borow_keep h fun g hg => hb.block g (borow_lt h g hg).2

theorem borow_alloc {w : World} {base : Nat} {v : Value} {zs : List Bool} (h : BoRow w base v zs) (o : Obj) : BoRow (w.alloc o) base v zs := borow_keep h fun g hg => Below.heap_alloc w o g (borow_lt h g hg).2

theorem borow_base {w : World} {base base' : Nat} {v : Value} {zs : List Bool} (h : BoRow w base v zs) (hb : base' ≤ base) : BoRow w base' v zs := own_base h hb

theorem borow_whole {w : World} {base g : Nat} {zs : List Bool} (h : Whole w g 4 (zs.map (Value.bool)).toArray) (hb : base ≤ g) (hl : zs.length ≤ maxLen) : BoRow w base (.slice (some ⟨g, 0, none⟩) zs.length zs.length) zs :=
  ⟨by simp, .inr ⟨g, zs.length, _, rfl, hb, h, Nat.le_refl _, hl, by simp, by rw [Nat.mul_one, List.toList_toArray, List.take_of_length_le (by simp)]⟩⟩

theorem borow_full {w : World} {base g : Nat} {zs : List Bool} (h : BoRow w base (.slice (some ⟨g, 0, none⟩) zs.length zs.length) zs) : Whole w g 4 (zs.map (Value.bool)).toArray := by
  rcases h.2 with ⟨hv, _⟩ | ⟨g', cap, cur, hv, hb, hg, h1, h2, h3, h4⟩
  · cases hv
  · simp only [Value.slice.injEq, Option.some.injEq, Addr.mk.injEq, true_and, and_true] at hv
    obtain ⟨rfl, rfl⟩ := hv
    unfold Whole
    rw [hg, ← h4, List.take_of_length_le (by simp [h3]), Array.toArray_toList]

/-- The row of a slice that is written at one place. -/
theorem borow_set {w : World} {base g cap : Nat} {zs : List Bool} (h : BoRow w base (.slice (some ⟨g, 0, none⟩) zs.length cap) zs) (k : Nat) (n : Bool) :
    BoRow (w.setCell ⟨g, k, none⟩ (.bool n)) base (.slice (some ⟨g, 0, none⟩) zs.length cap) (zs.set k n) ∧ w.grownBy (w.setCell ⟨g, k, none⟩ (.bool n)) (some g) := by
  have h2 := World.ownsRow.stored h k (.bool n)
  refine ⟨?_, h2.2⟩
  have := h2.1
  rw [← List.map_set] at this
  unfold BoRow
  rw [List.length_set]
  exact this

theorem borow_cell {w : World} {base g cap : Nat} {zs : List Bool} (h : BoRow w base (.slice (some ⟨g, 0, none⟩) zs.length cap) zs) (k : Nat) (hk : k < zs.length) : w.cell? ⟨g, k, none⟩ = some (.bool zs[k]) := by
  rw [World.ownsRow.cellAt h k (by omega)]; simp [hk]

theorem borow_free {w : World} {base g cap n : Nat} {zs : List Bool} (h : BoRow w base (.slice (some ⟨g, 0, none⟩) n cap) zs) (k : Nat) : w.frozen? ⟨g, k, none⟩ = false := by
  have h' := h
  rcases h'.2 with ⟨hv, _⟩ | ⟨g', cap, cur, hv, hb, hg, _⟩
  · cases hv
  · simp only [Value.slice.injEq, Option.some.injEq, Addr.mk.injEq, true_and, and_true] at hv
    obtain ⟨rfl, _⟩ := hv
    simp [World.frozen?, hg]

end Go.Proofs.YtkcogfgjabemfaaGreatDoor
