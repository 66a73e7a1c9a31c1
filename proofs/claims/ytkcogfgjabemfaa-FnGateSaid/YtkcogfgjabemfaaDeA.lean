/- Deeds as values: what reads as a list of deeds, what is owned as one; the laws' copies out of an argument. -/
import Derived.Test.YtkcogfgjabemfaaDatC
import Derived.Laws.StructEq
import Derived.Laws.CopyOwn
import Derived.Laws.Tables
namespace Go.Proofs.Ytkcogfgjabemfaa
open Go.RowKit
set_option linter.unusedVariables false
set_option linter.unusedSimpArgs false

/-- A deed: its capability, its two operands, its result. -/
structure Dd where
  p : Int
  a : Int
  b : Int
  r : Int
deriving DecidableEq

/-- Its cells. -/
def dcs (x : Dd) : List Value := [.int .i64 x.p, .int .i64 x.a, .int .i64 x.b, .int .i64 x.r]

/-- The cells of a list of deeds. -/
def dcells (Q : List Dd) : List Value := Q.flatMap dcs

theorem dcells_len (Q : List Dd) : (dcells Q).length = Q.length * 4 := by
  induction Q with
  | nil => rfl
  | cons q r ih => unfold dcells at *; rw [List.flatMap_cons, List.length_append, ih]; simp [dcs]; omega

theorem dcells_at (Q : List Dd) (k j : Nat) (hk : k < Q.length) (hj : j < 4) : (dcells Q)[k * 4 + j]? = (dcs Q[k])[j]? := by
  induction Q generalizing k with
  | nil => simp at hk
  | cons q r ih =>
    unfold dcells at *
    rw [List.flatMap_cons]
    match k with
    | 0 => rw [List.getElem?_append_left (by simp [dcs]; omega)]; simp
    | k + 1 =>
      rw [List.getElem?_append_right (by simp [dcs]; omega), show (k + 1) * 4 + j - (dcs q).length = k * 4 + j by simp [dcs]; omega]
      simp at hk
      rw [ih k (by omega)]
      simp

/-- The four cells of a deed, from an address on. -/
def DdAt (w : World) (a : Addr) (x : Dd) : Prop := w.cell? a = some (.int .i64 x.p) ∧ w.cell? ⟨a.block, a.off + 1, none⟩ = some (.int .i64 x.a) ∧ w.cell? ⟨a.block, a.off + 2, none⟩ = some (.int .i64 x.b) ∧ w.cell? ⟨a.block, a.off + 3, none⟩ = some (.int .i64 x.r)

/-- A slice, nil or not, that reads as these deeds. -/
def Dds (w : World) (v : Value) (Q : List Dd) : Prop :=
  Q.length ≤ maxLen ∧ ∃ A cap, v = .slice A Q.length cap ∧ (0 < Q.length → ∃ ad, A = some ad ∧ ∀ k (h : k < Q.length), DdAt w (ad.add (k * 4)) Q[k])

/-- A slice of the call's own, perhaps nil, of these deeds. -/
def DRow (w : World) (base : Nat) (v : Value) (Q : List Dd) : Prop := w.ownsRow base 37 4 v Q.length (dcells Q)

theorem ddAt_keep {w w' : World} {a : Addr} {x : Dd} (h : DdAt w a x) (hk : ∀ (x : Addr) (u : Value), w.cell? x = some u → w'.cell? x = some u) : DdAt w' a x := ⟨hk _ _ h.1, hk _ _ h.2.1, hk _ _ h.2.2.1, hk _ _ h.2.2.2⟩

theorem dds_keep {w w' : World} {v : Value} {Q : List Dd} (h : Dds w v Q) (hk : ∀ (x : Addr) (u : Value), w.cell? x = some u → w'.cell? x = some u) : Dds w' v Q := by
  obtain ⟨h1, A, cap, hv, hc⟩ := h
  refine ⟨h1, A, cap, hv, fun hp => ?_⟩
  obtain ⟨ad, ha, hc⟩ := hc hp
  exact ⟨ad, ha, fun k hk' => ddAt_keep (hc k hk') hk⟩

theorem cell_kept {w w' : World} (hb : Below w.heap.size w w') (x : Addr) (u : Value) (hx : w.cell? x = some u) : w'.cell? x = some u := by rw [hb.cell (World.block_lt_of_cell? w x hx)]; exact hx

theorem ddAt_below {w w' : World} (hb : Below w.heap.size w w') {a : Addr} {x : Dd} (h : DdAt w a x) : DdAt w' a x := ddAt_keep h (cell_kept hb)

theorem dds_below {w w' : World} {v : Value} {Q : List Dd} (h : Dds w v Q) (hb : Below w.heap.size w w') : Dds w' v Q := dds_keep h (cell_kept hb)

theorem dds_nil (w : World) : Dds w (.slice none 0 0) [] := ⟨Nat.zero_le _, none, 0, rfl, fun h => absurd h (by simp)⟩

theorem drow_nil (w : World) (base : Nat) : DRow w base (.slice none 0 0) [] := World.ownsRow_nil w base _ 4

theorem drow_at {w : World} {base g cap : Nat} {Q : List Dd} (h : DRow w base (.slice (some ⟨g, 0, none⟩) Q.length cap) Q) (k : Nat) (hk : k < Q.length) : DdAt w ⟨g, k * 4, none⟩ Q[k] := by
  have c : ∀ j, j < 4 → w.cell? ⟨g, k * 4 + j, none⟩ = (dcs Q[k])[j]? := fun j hj => by rw [World.ownsRow.cellAt h (k * 4 + j) (by omega), dcells_at Q k j hk hj]
  exact ⟨c 0 (by omega), c 1 (by omega), c 2 (by omega), c 3 (by omega)⟩

theorem drow_dds {w : World} {base : Nat} {v : Value} {Q : List Dd} (h : DRow w base v Q) : Dds w v Q := by
  rcases h.2 with ⟨hv, h0⟩ | ⟨g, cap, cur, hv, hb, hg, h1, h2, h3, h4⟩
  · exact ⟨by rw [h0]; exact Nat.zero_le _, none, 0, by rw [hv, h0], fun hp => absurd hp (by omega)⟩
  · refine ⟨Nat.le_trans h1 h2, some ⟨g, 0, none⟩, cap, hv, fun _ => ⟨_, rfl, fun k hk => ?_⟩⟩
    subst hv
    have := drow_at h k hk
    rwa [show (⟨g, 0, none⟩ : Addr).add (k * 4) = ⟨g, k * 4, none⟩ by rw [Addr.add_lit, Nat.zero_add]]

theorem drow_lt {w : World} {base : Nat} {v : Value} {Q : List Dd} (h : DRow w base v Q) : ∀ g, v.ownBlock = some g → base ≤ g ∧ g < w.heap.size := h.lt

theorem drow_free {w : World} {base g cap n : Nat} {Q : List Dd} (h : DRow w base (.slice (some ⟨g, 0, none⟩) n cap) Q) (j : Nat) : w.frozen? ⟨g, j, none⟩ = false := by
  rcases h.2 with ⟨h', _⟩ | ⟨g', cap', cur, h', _, hg, _⟩
  · cases h'
  · simp only [Value.slice.injEq, Option.some.injEq, Addr.mk.injEq, and_true, true_and] at h'
    obtain ⟨rfl, _⟩ := h'
    simp [World.frozen?, hg]

theorem drow_keep {w w' : World} {base : Nat} {v : Value} {Q : List Dd} (h : DRow w base v Q) (hk : ∀ g, v.ownBlock = some g → w'.heap[g]? = w.heap[g]?) : DRow w' base v Q := by
  obtain ⟨h1, h2⟩ := h
  refine ⟨h1, ?_⟩
  rcases h2 with h2 | ⟨g, cap, cur, hv, hb, hg, r⟩
  · exact .inl h2
  · exact .inr ⟨g, cap, cur, hv, hb, by rw [hk g (by rw [hv]; rfl)]; exact hg, r⟩

theorem drow_below {w w' : World} {base : Nat} {v : Value} {Q : List Dd} (h : DRow w base v Q) (hb : Below w.heap.size w w') : DRow w' base v Q := drow_keep h fun g hg => hb.block g (drow_lt h g hg).2

theorem drow_alloc {w : World} {base : Nat} {v : Value} {Q : List Dd} (h : DRow w base v Q) (o : Obj) : DRow (w.alloc o) base v Q := drow_keep h fun g hg => Below.heap_alloc w o g (drow_lt h g hg).2

theorem drow_base {w : World} {base base' : Nat} {v : Value} {Q : List Dd} (h : DRow w base v Q) (hb : base' ≤ base) : DRow w base' v Q := by
  obtain ⟨h1, h2⟩ := h
  refine ⟨h1, ?_⟩
  rcases h2 with h2 | ⟨g, cap, cur, a1, a2, a3⟩
  · exact .inl h2
  · exact .inr ⟨g, cap, cur, a1, by omega, a3⟩

/-- No deed. -/
def noDd : Dd := ⟨0, 0, 0, 0⟩

theorem own_infoDd : (Try.prog.info? 37).map (fun i => (i.zero, i.size, i.bytes)) = some (some (.agg #[.int .i64 0, .int .i64 0, .int .i64 0, .int .i64 0]), 4, 32) := by kernel_rfl

theorem dcells_set (Q : List Dd) (k : Nat) (x : Dd) (hk : k < Q.length) : dcells (Q.set k x) = ((((dcells Q).set (k * 4) (.int .i64 x.p)).set (k * 4 + 1) (.int .i64 x.a)).set (k * 4 + 2) (.int .i64 x.b)).set (k * 4 + 3) (.int .i64 x.r) := by
  induction Q generalizing k with
  | nil => simp at hk
  | cons q r ih =>
    match k with
    | 0 => simp [dcells, dcs]
    | k + 1 =>
      simp at hk
      have := ih k (by omega)
      unfold dcells at *
      rw [List.set_cons_succ, List.flatMap_cons, List.flatMap_cons, this, show (k + 1) * 4 = k * 4 + 1 + 1 + 1 + 1 by omega]
      simp [dcs]

theorem dmade_cells (n : Nat) : (madeCells (Value.agg #[.int .i64 0, .int .i64 0, .int .i64 0, .int .i64 0]).cells (n * 4)).toList = dcells (List.replicate n noDd) := by
  apply List.ext_getElem?
  intro j
  by_cases hj : j < n * 4
  · have hk : j / 4 < (List.replicate n noDd).length := by simp; omega
    have h := dcells_at (List.replicate n noDd) (j / 4) (j % 4) hk (by omega)
    rw [show j / 4 * 4 + j % 4 = j by omega] at h
    rw [h]
    have : j % 4 = 0 ∨ j % 4 = 1 ∨ j % 4 = 2 ∨ j % 4 = 3 := by omega
    rcases this with e | e | e | e <;> simp [madeCells, hj, Value.cells, dcs, noDd, e]
  · rw [(List.getElem?_eq_none (by rw [dcells_len]; simp; omega) : (dcells (List.replicate n noDd))[j]? = none)]
    simp [madeCells, hj]

/-- A deed's four cells written. -/
def set4 (w : World) (g k : Nat) (x : Dd) : World := (((w.setCell ⟨g, k * 4, none⟩ (.int .i64 x.p)).setCell ⟨g, k * 4 + 1, none⟩ (.int .i64 x.a)).setCell ⟨g, k * 4 + 2, none⟩ (.int .i64 x.b)).setCell ⟨g, k * 4 + 3, none⟩ (.int .i64 x.r)

theorem drow_set {w : World} {base g cap : Nat} {Q : List Dd} (h : DRow w base (.slice (some ⟨g, 0, none⟩) Q.length cap) Q) (k : Nat) (hk : k < Q.length) (x : Dd) :
    DRow (set4 w g k x) base (.slice (some ⟨g, 0, none⟩) Q.length cap) (Q.set k x) := by
  have h1 := (World.ownsRow.stored h (k * 4) (.int .i64 x.p)).1
  have h2 := (h1.stored (k * 4 + 1) (.int .i64 x.a)).1
  have h3 := (h2.stored (k * 4 + 2) (.int .i64 x.b)).1
  have h4 := (h3.stored (k * 4 + 3) (.int .i64 x.r)).1
  rw [← dcells_set Q k x hk] at h4
  unfold DRow set4
  rw [List.length_set]
  exact h4

theorem below_set4 {B : Nat} {w0 w : World} (hb : Below B w0 w) {g : Nat} (hg : B ≤ g) (k : Nat) (x : Dd) : Below B w0 (set4 w g k x) :=
  (((hb.setCell (p := ⟨g, k * 4, none⟩) hg _).setCell (p := ⟨g, k * 4 + 1, none⟩) hg _).setCell (p := ⟨g, k * 4 + 2, none⟩) hg _).setCell (p := ⟨g, k * 4 + 3, none⟩) hg _

theorem grown_set4 (w : World) (g k : Nat) (x : Dd) : w.grownBy (set4 w g k x) (some g) :=
  ⟨rfl, rfl, rfl, by simp [set4], fun i hi hne => by
    have h : i ≠ g := fun e => hne (by rw [e])
    unfold set4
    rw [Below.heap_setCell _ _ _ _ h, Below.heap_setCell _ _ _ _ h, Below.heap_setCell _ _ _ _ h, Below.heap_setCell _ _ _ _ h]⟩

/-- The first k deeds, no deeds behind them. -/
def dTo (Q : List Dd) (k : Nat) : List Dd := Q.take k ++ List.replicate (Q.length - k) noDd

theorem dTo_len (Q : List Dd) {k : Nat} (h : k ≤ Q.length) : (dTo Q k).length = Q.length := by unfold dTo; rw [List.length_append, List.length_take, List.length_replicate]; omega

theorem dTo_zero (Q : List Dd) : dTo Q 0 = List.replicate Q.length noDd := by unfold dTo; simp

theorem dTo_end (Q : List Dd) : dTo Q Q.length = Q := by unfold dTo; simp

theorem dTo_next (Q : List Dd) {k : Nat} (h : k < Q.length) : (dTo Q k).set k Q[k] = dTo Q (k + 1) := by
  unfold dTo
  rw [List.set_append_right _ _ (by rw [List.length_take]; omega), List.length_take, Nat.min_eq_left (by omega), Nat.sub_self, List.take_succ_eq_append_getElem h, show Q.length - k = (Q.length - (k + 1)) + 1 by omega, List.replicate_succ, List.set_cons_zero, List.append_assoc]
  rfl

/-- What makes a list of deeds leaves: the list, in memory of its own. -/
def DListOf (w : World) (Q : List Dd) (e : Ending) (w' : World) : Prop := ∃ v, e = .returned v ∧ DRow w' w.heap.size v Q ∧ v.ownBlock ≠ none ∧ Below w.heap.size w w'

end Go.Proofs.Ytkcogfgjabemfaa
