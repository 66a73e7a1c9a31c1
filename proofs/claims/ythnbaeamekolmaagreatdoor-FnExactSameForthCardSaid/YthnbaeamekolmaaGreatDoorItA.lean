/- Items as values: what reads as a list of items, what is owned as one; the laws' copies out of an argument. -/
import Derived.Test.YthnbaeamekolmaaGreatDoorRowA
import Derived.Test.YthnbaeamekolmaaGreatDoorRowB
import Derived.Test.YthnbaeamekolmaaGreatDoorDatA
import Derived.Laws.StructEq
import Derived.Laws.CopyOwn
import Derived.Laws.Tables
namespace Go.Proofs.YthnbaeamekolmaaGreatDoor
open Go.RowKit
set_option linter.unusedVariables false
set_option linter.unusedSimpArgs false

/-- An item: its kind, its value. -/
structure It where
  k : Int
  v : Int
deriving DecidableEq

/-- Its cells. -/
def ics (x : It) : List Value := [.int .i64 x.k, .int .i64 x.v]

/-- The cells of a list of items. -/
def icells (Q : List It) : List Value := Q.flatMap ics

theorem icells_len (Q : List It) : (icells Q).length = Q.length * 2 := by
  induction Q with
  | nil => rfl
  | cons q r ih => unfold icells at *; rw [List.flatMap_cons, List.length_append, ih]; simp [ics]; omega

theorem icells_at (Q : List It) (k j : Nat) (hk : k < Q.length) (hj : j < 2) : (icells Q)[k * 2 + j]? = (ics Q[k])[j]? := by
  induction Q generalizing k with
  | nil => simp at hk
  | cons q r ih =>
    unfold icells at *
    rw [List.flatMap_cons]
    match k with
    | 0 => rw [List.getElem?_append_left (by simp [ics]; omega)]; simp
    | k + 1 =>
      rw [List.getElem?_append_right (by simp [ics]; omega), show (k + 1) * 2 + j - (ics q).length = k * 2 + j by simp [ics]; omega]
      simp at hk
      rw [ih k (by omega)]
      simp

theorem icells_append (P Q : List It) : icells (P ++ Q) = icells P ++ icells Q := by unfold icells; rw [List.flatMap_append]

/-- The two cells of an item, from an address on. -/
def ItAt (w : World) (a : Addr) (x : It) : Prop := w.cell? a = some (.int .i64 x.k) ∧ w.cell? ⟨a.block, a.off + 1, none⟩ = some (.int .i64 x.v)

/-- A slice, nil or not, that reads as these items. -/
def Its (w : World) (v : Value) (Q : List It) : Prop :=
  Q.length ≤ maxLen ∧ ∃ A cap, v = .slice A Q.length cap ∧ (0 < Q.length → ∃ ad, A = some ad ∧ ∀ k (h : k < Q.length), ItAt w (ad.add (k * 2)) Q[k])

/-- A slice of the call's own, perhaps nil, of these items. -/
def IRow (w : World) (base : Nat) (v : Value) (Q : List It) : Prop := w.ownsRow base 97 2 v Q.length (icells Q)

theorem itAt_keep {w w' : World} {a : Addr} {x : It} (h : ItAt w a x) (hk : ∀ (x : Addr) (u : Value), w.cell? x = some u → w'.cell? x = some u) : ItAt w' a x := ⟨hk _ _ h.1, hk _ _ h.2⟩

theorem its_keep {w w' : World} {v : Value} {Q : List It} (h : Its w v Q) (hk : ∀ (x : Addr) (u : Value), w.cell? x = some u → w'.cell? x = some u) : Its w' v Q := by
  obtain ⟨h1, A, cap, hv, hc⟩ := h
  refine ⟨h1, A, cap, hv, fun hp => ?_⟩
  obtain ⟨ad, ha, hc⟩ := hc hp
  exact ⟨ad, ha, fun k hk' => itAt_keep (hc k hk') hk⟩

theorem cell_keptI {w w' : World} (hb : Below w.heap.size w w') (x : Addr) (u : Value) (hx : w.cell? x = some u) : w'.cell? x = some u := by rw [hb.cell (World.block_lt_of_cell? w x hx)]; exact hx

theorem itAt_below {w w' : World} (hb : Below w.heap.size w w') {a : Addr} {x : It} (h : ItAt w a x) : ItAt w' a x := itAt_keep h (cell_keptI hb)

theorem its_below {w w' : World} {v : Value} {Q : List It} (h : Its w v Q) (hb : Below w.heap.size w w') : Its w' v Q := its_keep h (cell_keptI hb)

theorem its_nil (w : World) : Its w (.slice none 0 0) [] := ⟨Nat.zero_le _, none, 0, rfl, fun h => absurd h (by simp)⟩

theorem irow_nil (w : World) (base : Nat) : IRow w base (.slice none 0 0) [] := World.ownsRow_nil w base _ 2

theorem irow_at {w : World} {base g cap : Nat} {Q : List It} (h : IRow w base (.slice (some ⟨g, 0, none⟩) Q.length cap) Q) (k : Nat) (hk : k < Q.length) : ItAt w ⟨g, k * 2, none⟩ Q[k] := by
  have c : ∀ j, j < 2 → w.cell? ⟨g, k * 2 + j, none⟩ = (ics Q[k])[j]? := fun j hj => by rw [World.ownsRow.cellAt h (k * 2 + j) (by omega), icells_at Q k j hk hj]
  exact ⟨c 0 (by omega), c 1 (by omega)⟩

theorem irow_its {w : World} {base : Nat} {v : Value} {Q : List It} (h : IRow w base v Q) : Its w v Q := by
  rcases h.2 with ⟨hv, h0⟩ | ⟨g, cap, cur, hv, hb, hg, h1, h2, h3, h4⟩
  · exact ⟨by rw [h0]; exact Nat.zero_le _, none, 0, by rw [hv, h0], fun hp => absurd hp (by omega)⟩
  · refine ⟨Nat.le_trans h1 h2, some ⟨g, 0, none⟩, cap, hv, fun _ => ⟨_, rfl, fun k hk => ?_⟩⟩
    subst hv
    have := irow_at h k hk
    rwa [show (⟨g, 0, none⟩ : Addr).add (k * 2) = ⟨g, k * 2, none⟩ by rw [Addr.add_lit, Nat.zero_add]]

theorem irow_lt {w : World} {base : Nat} {v : Value} {Q : List It} (h : IRow w base v Q) : ∀ g, v.ownBlock = some g → base ≤ g ∧ g < w.heap.size := h.lt

theorem irow_free {w : World} {base g cap n : Nat} {Q : List It} (h : IRow w base (.slice (some ⟨g, 0, none⟩) n cap) Q) (j : Nat) : w.frozen? ⟨g, j, none⟩ = false := by
  rcases h.2 with ⟨h', _⟩ | ⟨g', cap', cur, h', _, hg, _⟩
  · cases h'
  · simp only [Value.slice.injEq, Option.some.injEq, Addr.mk.injEq, and_true, true_and] at h'
    obtain ⟨rfl, _⟩ := h'
    simp [World.frozen?, hg]

theorem irow_keep {w w' : World} {base : Nat} {v : Value} {Q : List It} (h : IRow w base v Q) (hk : ∀ g, v.ownBlock = some g → w'.heap[g]? = w.heap[g]?) : IRow w' base v Q := by
  obtain ⟨h1, h2⟩ := h
  refine ⟨h1, ?_⟩
  rcases h2 with h2 | ⟨g, cap, cur, hv, hb, hg, r⟩
  · exact .inl h2
  · exact .inr ⟨g, cap, cur, hv, hb, by rw [hk g (by rw [hv]; rfl)]; exact hg, r⟩

theorem irow_below {w w' : World} {base : Nat} {v : Value} {Q : List It} (h : IRow w base v Q) (hb : Below w.heap.size w w') : IRow w' base v Q := irow_keep h fun g hg => hb.block g (irow_lt h g hg).2

theorem irow_alloc {w : World} {base : Nat} {v : Value} {Q : List It} (h : IRow w base v Q) (o : Obj) : IRow (w.alloc o) base v Q := irow_keep h fun g hg => Below.heap_alloc w o g (irow_lt h g hg).2

theorem irow_base {w : World} {base base' : Nat} {v : Value} {Q : List It} (h : IRow w base v Q) (hb : base' ≤ base) : IRow w base' v Q := by
  obtain ⟨h1, h2⟩ := h
  refine ⟨h1, ?_⟩
  rcases h2 with h2 | ⟨g, cap, cur, a1, a2, a3⟩
  · exact .inl h2
  · exact .inr ⟨g, cap, cur, a1, by omega, a3⟩

set_option maxRecDepth 100000 in
set_option maxHeartbeats 1000000 in
theorem toItem_any (x : It) (w : World) :
    Calls Tryz.prog 85 #[.agg #[.int .i64 x.k, .int .i64 x.v]] w fun e w' => e = .returned (.agg #[.int .i64 x.k, .int .i64 x.v]) ∧ Below w.heap.size w w' := by
  go_enter Tryz.func85, Tryz.ntmps85
  go_wp2
  refine bodyPost_ret (v := .agg #[.int .i64 x.k, .int .i64 x.v]) (by simp [results, Tryz.results85, go_sem, *]) rfl ⟨rfl, ?_⟩
  repeat (first | with_reducible exact Below.refl _ _ | with_reducible refine Below.setCell ?_ (by simp; try omega) _ | with_reducible refine Below.alloc ?_ (by simp; try omega) _)

/-- No item. -/
def noIt : It := ⟨0, 0⟩

theorem own_infoIt : (Tryz.prog.info? 97).map (fun i => (i.zero, i.size, i.bytes)) = some (some (.agg #[.int .i64 0, .int .i64 0]), 2, 16) := by kernel_rfl

theorem icells_set (Q : List It) (k : Nat) (x : It) (hk : k < Q.length) : icells (Q.set k x) = ((icells Q).set (k * 2) (.int .i64 x.k)).set (k * 2 + 1) (.int .i64 x.v) := by
  induction Q generalizing k with
  | nil => simp at hk
  | cons q r ih =>
    match k with
    | 0 => simp [icells, ics]
    | k + 1 =>
      simp at hk
      have := ih k (by omega)
      unfold icells at *
      rw [List.set_cons_succ, List.flatMap_cons, List.flatMap_cons, this, show (k + 1) * 2 = k * 2 + 1 + 1 by omega]
      simp [ics]

theorem imade_cells (n : Nat) : (madeCells (Value.agg #[.int .i64 0, .int .i64 0]).cells (n * 2)).toList = icells (List.replicate n noIt) := by
  apply List.ext_getElem?
  intro j
  by_cases hj : j < n * 2
  · have hk : j / 2 < (List.replicate n noIt).length := by simp; omega
    have h := icells_at (List.replicate n noIt) (j / 2) (j % 2) hk (by omega)
    rw [show j / 2 * 2 + j % 2 = j by omega] at h
    rw [h]
    have : j % 2 = 0 ∨ j % 2 = 1 := by omega
    rcases this with e | e <;> simp [madeCells, hj, Value.cells, ics, noIt, e]
  · rw [(List.getElem?_eq_none (by rw [icells_len]; simp; omega) : (icells (List.replicate n noIt))[j]? = none)]
    simp [madeCells, hj]

/-- An item's two cells written. -/
def set2 (w : World) (g k : Nat) (x : It) : World := (w.setCell ⟨g, k * 2, none⟩ (.int .i64 x.k)).setCell ⟨g, k * 2 + 1, none⟩ (.int .i64 x.v)

theorem irow_set {w : World} {base g cap : Nat} {Q : List It} (h : IRow w base (.slice (some ⟨g, 0, none⟩) Q.length cap) Q) (k : Nat) (hk : k < Q.length) (x : It) :
    IRow (set2 w g k x) base (.slice (some ⟨g, 0, none⟩) Q.length cap) (Q.set k x) := by
  have h1 := (World.ownsRow.stored h (k * 2) (.int .i64 x.k)).1
  have h2 := (h1.stored (k * 2 + 1) (.int .i64 x.v)).1
  rw [← icells_set Q k x hk] at h2
  unfold IRow set2
  rw [List.length_set]
  exact h2

theorem below_set2 {B : Nat} {w0 w : World} (hb : Below B w0 w) {g : Nat} (hg : B ≤ g) (k : Nat) (x : It) : Below B w0 (set2 w g k x) :=
  (hb.setCell (p := ⟨g, k * 2, none⟩) hg _).setCell (p := ⟨g, k * 2 + 1, none⟩) hg _

theorem grown_set2 (w : World) (g k : Nat) (x : It) : w.grownBy (set2 w g k x) (some g) :=
  ⟨rfl, rfl, rfl, by simp [set2], fun i hi hne => by
    have h : i ≠ g := fun e => hne (by rw [e])
    unfold set2
    rw [Below.heap_setCell _ _ _ _ h, Below.heap_setCell _ _ _ _ h]⟩

/-- The first k items, no items behind them. -/
def iTo (Q : List It) (k : Nat) : List It := Q.take k ++ List.replicate (Q.length - k) noIt

theorem iTo_len (Q : List It) {k : Nat} (h : k ≤ Q.length) : (iTo Q k).length = Q.length := by unfold iTo; rw [List.length_append, List.length_take, List.length_replicate]; omega

theorem iTo_zero (Q : List It) : iTo Q 0 = List.replicate Q.length noIt := by unfold iTo; simp

theorem iTo_end (Q : List It) : iTo Q Q.length = Q := by unfold iTo; simp

theorem iTo_next (Q : List It) {k : Nat} (h : k < Q.length) : (iTo Q k).set k Q[k] = iTo Q (k + 1) := by
  unfold iTo
  rw [List.set_append_right _ _ (by rw [List.length_take]; omega), List.length_take, Nat.min_eq_left (by omega), Nat.sub_self, List.take_succ_eq_append_getElem h, show Q.length - k = (Q.length - (k + 1)) + 1 by omega, List.replicate_succ, List.set_cons_zero, List.append_assoc]
  rfl

/-- What makes a list of items leaves: the list, in memory of its own. -/
def IListOf (w : World) (Q : List It) (e : Ending) (w' : World) : Prop := ∃ v, e = .returned v ∧ IRow w' w.heap.size v Q ∧ v.ownBlock ≠ none ∧ Below w.heap.size w w'

set_option maxRecDepth 100000 in
set_option maxHeartbeats 2000000 in
theorem toItemS_any (v : Value) (Q : List It) (w : World) (hv : Its w v Q) (hs : Q.length ≤ 1048576) :
    Calls Tryz.prog 42 #[v] w (IListOf w Q) := by
  obtain ⟨i0, hi0, hz0, hz1, hz2⟩ := info_parts own_infoIt
  have I0 := Lib.hid hi0
  have Z0 := Lib.hid hz0
  have Z1 := Lib.hid hz1
  have B8 : Hid (i0.bytes * Q.length ≤ 281474976710656) := Lib.hid (by rw [hz2]; omega)
  have HV := Lib.hid hv
  obtain ⟨hl, A, cap, rfl, hc⟩ := hv
  clear hc hi0 hz0 hz1 hz2 hl
  go_enter Tryz.func42, Tryz.ntmps42
  go_wp2_with (first
    | (at_make; refine wpList_make_full _ rfl _ _ 48 rfl w.heap.size 97 i0 _ 2 Tryz.underlying48 I0.out Z0.out Z1.out .i64 .i64 _ _ Q.length rfl rfl rfl rfl B8.out (by unfold maxLen; omega) (by simp) ?_
       intro w1 ho1 hg1
       rw [imade_cells] at ho1
       have R1 : Hid (IRow w1 w.heap.size (.slice (some ⟨w.heap.size, 0, none⟩) Q.length Q.length) (iTo Q 0)) := Lib.hid (by unfold IRow; rw [iTo_zero]; simpa using ho1)
       have B1 : Hid (Below w.heap.size w w1) := Lib.hid ((Below.refl _ _).grown hg1 (Nat.le_refl _) (by simp))
       clear ho1 hg1))
  go_loopw [4] (fun i wr => ∃ k : Nat, k ≤ Q.length ∧ i = .int .i64 k ∧ IRow wr w.heap.size (.slice (some ⟨w.heap.size, 0, none⟩) Q.length Q.length) (iTo Q k) ∧ Below w.heap.size w wr) (fun i _ => Q.length - (intOf i).toNat)
  case atStart => exact ⟨0, Nat.zero_le _, rfl, R1.out, B1.out⟩
  case round =>
    obtain ⟨k, hk, rfl, hr, hb⟩ := hrel
    have HR := Lib.hid hr
    have HB := Lib.hid hb
    clear hr hb
    by_cases hlt : k < Q.length
    · obtain ⟨_, A', cap', e', hc⟩ := its_below HV.out HB.out
      simp only [Value.slice.injEq, true_and] at e'
      obtain ⟨rfl, rfl⟩ := e'
      obtain ⟨ad, rfl, hd⟩ := hc (by omega)
      obtain ⟨c0, c1⟩ := hd k hlt
      clear hc hd
      go_wp2_with fail
      refine (toItem_any _ _).mono ?_
      rintro e w2 ⟨rfl, hb2⟩
      have B2 := Lib.hid (below_step HB.out hb2)
      have R2 := Lib.hid (irow_below HR.out hb2)
      clear hb2 c0 c1
      have R3 : IRow w2 w.heap.size (.slice (some ⟨w.heap.size, 0, none⟩) (iTo Q k).length Q.length) (iTo Q k) := by rw [iTo_len Q hk]; exact R2.out
      have ST : Hid (IRow (set2 w2 w.heap.size k Q[k]) w.heap.size (.slice (some ⟨w.heap.size, 0, none⟩) Q.length Q.length) (iTo Q (k + 1))) := Lib.hid (by
        have h3 := irow_set R3 k (by rw [iTo_len Q hk]; exact hlt) Q[k]
        rw [iTo_next Q hlt, iTo_len Q hk] at h3
        exact h3)
      have SB := Lib.hid (below_set2 B2.out (g := w.heap.size) (Nat.le_refl _) k Q[k])
      have zl : w.heap.size < w2.heap.size := (irow_lt R2.out _ rfl).2
      obtain ⟨o0, o1⟩ := irow_at R3 k (by rw [iTo_len Q hk]; exact hlt)
      have f0 := irow_free R2.out (k * 2)
      have f1 := irow_free R2.out (k * 2 + 1)
      clear R3
      unfold set2 at ST SB
      generalize ((iTo Q k)[k]'(by rw [iTo_len Q hk]; exact hlt)) = old at *
      simp only at o0 o1
      go_wp2
      go_roundw
      case rel => exact ⟨k + 1, by omega, by go_num, ST.out, SB.out⟩
      case measure => simp [intOf]; omega
    · obtain rfl : k = Q.length := by omega
      clear hlt
      go_wp2
      go_ret
      exact ⟨_, rfl, by have h := HR.out; rwa [iTo_end] at h, by simp [Value.ownBlock], HB.out⟩

set_option maxHeartbeats 400000 in
theorem szItems_any (A : Option Addr) (n cap : Nat) (left : Int) (w : World) (hn : n ≤ maxLen) (h0 : 0 ≤ left) (h1 : left ≤ 1048576) :
    Calls Tryz.prog 38 #[.slice A n cap, .int .i64 left] w fun e w' => e = .returned (.int .i64 (leftOf left n)) ∧ w = w' := by
  unfold maxLen at hn
  by_cases h : left - n < 0
  · have E : Hid (leftOf left n = -1) := Lib.hid (by unfold leftOf; rw [if_pos h])
    go_enter Tryz.func38, Tryz.ntmps38
    go_wp2
    go_ret
    exact ⟨ret_int E.out.symm, rfl⟩
  · have E : Hid (leftOf left n = left - n) := Lib.hid (by unfold leftOf; rw [if_neg h])
    go_enter Tryz.func38, Tryz.ntmps38
    go_wp2
    go_ret
    exact ⟨ret_int E.out.symm, rfl⟩

end Go.Proofs.YthnbaeamekolmaaGreatDoor
