/- QkB: several of my texts, laid together: DeA, DeB, BoA, BoB, SrcA, OnA, HoA, HoB, Onl, HsA, HsB, HsC, HsD, HsE, HsF, HsJ, HsK, HcA, HoL. -/
import Derived.Test.YthnbaeamekolmaaGreatDoorDatC
import Derived.Laws.StructEq
import Derived.Laws.CopyOwn
import Derived.Laws.Tables
import Derived.WalkSmall
import Derived.Deep.RegionHeld3
import Derived.Test.YthnbaeamekolmaaGreatDoorRowB
import Derived.Test.YthnbaeamekolmaaGreatDoorCellsA
import Derived.BigRegion
import Derived.Laws.AppendOwn
import Derived.OwnWalk
import Derived.OpenShut
import Derived.Test.YthnbaeamekolmaaGreatDoorDatD
import Derived.Test.YthnbaeamekolmaaGreatDoorDatO
import Derived.Test.YthnbaeamekolmaaGreatDoorDatP
import Derived.RegionTactic
import Derived.Test.YthnbaeamekolmaaGreatDoorDatL
import Derived.Deep.Slices
import Derived.Deep.Grids
namespace Go.Proofs.YthnbaeamekolmaaGreatDoor
open Go.RowKit
set_option linter.unusedVariables false
set_option linter.unusedSimpArgs false

/-- A deed: its capability, its two operands, its result. -/
structure Dd where
  p : Int
  a : Int
  b : Int
  r : Int
deriving DecidableEq

/-- Its cells. -/
def dcs (x : Dd) : List Value := [.int .i64 x.p, .int .i64 x.a, .int .i64 x.b, .int .i64 x.r]

/-- The cells of a list of deeds. -/
def dcells (Q : List Dd) : List Value := Q.flatMap dcs

theorem dcells_len (Q : List Dd) : (dcells Q).length = Q.length * 4 := by
  induction Q with
  | nil => rfl
  | cons q r ih => unfold dcells at *; rw [List.flatMap_cons, List.length_append, ih]; simp [dcs]; omega

theorem dcells_at (Q : List Dd) (k j : Nat) (hk : k < Q.length) (hj : j < 4) : (dcells Q)[k * 4 + j]? = (dcs Q[k])[j]? := by
  induction Q generalizing k with
  | nil => simp at hk
  | cons q r ih =>
    unfold dcells at *
    rw [List.flatMap_cons]
    match k with
    | 0 => rw [List.getElem?_append_left (by simp [dcs]; omega)]; simp
    | k + 1 =>
      rw [List.getElem?_append_right (by simp [dcs]; omega), show (k + 1) * 4 + j - (dcs q).length = k * 4 + j by simp [dcs]; omega]
      simp at hk
      rw [ih k (by omega)]
      simp

/-- The four cells of a deed, from an address on. -/
def DdAt (w : World) (a : Addr) (x : Dd) : Prop := w.cell? a = some (.int .i64 x.p) ∧ w.cell? ⟨a.block, a.off + 1, none⟩ = some (.int .i64 x.a) ∧ w.cell? ⟨a.block, a.off + 2, none⟩ = some (.int .i64 x.b) ∧ w.cell? ⟨a.block, a.off + 3, none⟩ = some (.int .i64 x.r)

/-- A slice, nil or not, that reads as these deeds. -/
def Dds (w : World) (v : Value) (Q : List Dd) : Prop :=
  Q.length ≤ maxLen ∧ ∃ A cap, v = .slice A Q.length cap ∧ (0 < Q.length → ∃ ad, A = some ad ∧ ∀ k (h : k < Q.length), DdAt w (ad.add (k * 4)) Q[k])

/-- A slice of the call's own, perhaps nil, of these deeds. -/
def DRow (w : World) (base : Nat) (v : Value) (Q : List Dd) : Prop := w.ownsRow base 181 4 v Q.length (dcells Q)

theorem ddAt_keep {w w' : World} {a : Addr} {x : Dd} (h : DdAt w a x) (hk : ∀ (x : Addr) (u : Value), w.cell? x = some u → w'.cell? x = some u) : DdAt w' a x := ⟨hk _ _ h.1, hk _ _ h.2.1, hk _ _ h.2.2.1, hk _ _ h.2.2.2⟩

theorem dds_keep {w w' : World} {v : Value} {Q : List Dd} (h : Dds w v Q) (hk : ∀ (x : Addr) (u : Value), w.cell? x = some u → w'.cell? x = some u) : Dds w' v Q := by
  obtain ⟨h1, A, cap, hv, hc⟩ := h
  refine ⟨h1, A, cap, hv, fun hp => ?_⟩
  obtain ⟨ad, ha, hc⟩ := hc hp
  exact ⟨ad, ha, fun k hk' => ddAt_keep (hc k hk') hk⟩

theorem cell_kept {w w' : World} (hb : Below w.heap.size w w') (x : Addr) (u : Value) (hx : w.cell? x = some u) : w'.cell? x = some u := by rw [hb.cell (World.block_lt_of_cell? w x hx)]; exact hx

theorem ddAt_below {w w' : World} (hb : Below w.heap.size w w') {a : Addr} {x : Dd} (h : DdAt w a x) : DdAt w' a x := ddAt_keep h (cell_kept hb)

theorem dds_below {w w' : World} {v : Value} {Q : List Dd} (h : Dds w v Q) (hb : Below w.heap.size w w') : Dds w' v Q := dds_keep h (cell_kept hb)

theorem dds_nil (w : World) : Dds w (.slice none 0 0) [] := ⟨Nat.zero_le _, none, 0, rfl, fun h => absurd h (by simp)⟩

theorem drow_nil (w : World) (base : Nat) : DRow w base (.slice none 0 0) [] := World.ownsRow_nil w base _ 4

theorem drow_at {w : World} {base g cap : Nat} {Q : List Dd} (h : DRow w base (.slice (some ⟨g, 0, none⟩) Q.length cap) Q) (k : Nat) (hk : k < Q.length) : DdAt w ⟨g, k * 4, none⟩ Q[k] := by
  have c : ∀ j, j < 4 → w.cell? ⟨g, k * 4 + j, none⟩ = (dcs Q[k])[j]? := fun j hj => by rw [World.ownsRow.cellAt h (k * 4 + j) (by omega), dcells_at Q k j hk hj]
  exact ⟨c 0 (by omega), c 1 (by omega), c 2 (by omega), c 3 (by omega)⟩

theorem drow_dds {w : World} {base : Nat} {v : Value} {Q : List Dd} (h : DRow w base v Q) : Dds w v Q := by
  rcases h.2 with ⟨hv, h0⟩ | ⟨g, cap, cur, hv, hb, hg, h1, h2, h3, h4⟩
  · exact ⟨by rw [h0]; exact Nat.zero_le _, none, 0, by rw [hv, h0], fun hp => absurd hp (by omega)⟩
  · refine ⟨Nat.le_trans h1 h2, some ⟨g, 0, none⟩, cap, hv, fun _ => ⟨_, rfl, fun k hk => ?_⟩⟩
    subst hv
    have := drow_at h k hk
    rwa [show (⟨g, 0, none⟩ : Addr).add (k * 4) = ⟨g, k * 4, none⟩ by rw [Addr.add_lit, Nat.zero_add]]

theorem drow_lt {w : World} {base : Nat} {v : Value} {Q : List Dd} (h : DRow w base v Q) : ∀ g, v.ownBlock = some g → base ≤ g ∧ g < w.heap.size := h.lt

theorem drow_free {w : World} {base g cap n : Nat} {Q : List Dd} (h : DRow w base (.slice (some ⟨g, 0, none⟩) n cap) Q) (j : Nat) : w.frozen? ⟨g, j, none⟩ = false := by
  rcases h.2 with ⟨h', _⟩ | ⟨g', cap', cur, h', _, hg, _⟩
  · cases h'
  · simp only [Value.slice.injEq, Option.some.injEq, Addr.mk.injEq, and_true, true_and] at h'
    obtain ⟨rfl, _⟩ := h'
    simp [World.frozen?, hg]

theorem drow_keep {w w' : World} {base : Nat} {v : Value} {Q : List Dd} (h : DRow w base v Q) (hk : ∀ g, v.ownBlock = some g → w'.heap[g]? = w.heap[g]?) : DRow w' base v Q := by
  obtain ⟨h1, h2⟩ := h
  refine ⟨h1, ?_⟩
  rcases h2 with h2 | ⟨g, cap, cur, hv, hb, hg, r⟩
  · exact .inl h2
  · exact .inr ⟨g, cap, cur, hv, hb, by rw [hk g (by rw [hv]; rfl)]; exact hg, r⟩

theorem drow_below {w w' : World} {base : Nat} {v : Value} {Q : List Dd} (h : DRow w base v Q) (hb : Below w.heap.size w w') : DRow w' base v Q := drow_keep h fun g hg => hb.block g (drow_lt h g hg).2

theorem drow_alloc {w : World} {base : Nat} {v : Value} {Q : List Dd} (h : DRow w base v Q) (o : Obj) : DRow (w.alloc o) base v Q := drow_keep h fun g hg => Below.heap_alloc w o g (drow_lt h g hg).2

theorem drow_base {w : World} {base base' : Nat} {v : Value} {Q : List Dd} (h : DRow w base v Q) (hb : base' ≤ base) : DRow w base' v Q := by
  obtain ⟨h1, h2⟩ := h
  refine ⟨h1, ?_⟩
  rcases h2 with h2 | ⟨g, cap, cur, a1, a2, a3⟩
  · exact .inl h2
  · exact .inr ⟨g, cap, cur, a1, by omega, a3⟩

set_option maxRecDepth 100000 in
set_option maxHeartbeats 1000000 in
theorem toDeed_any (x : Dd) (w : World) :
    Calls Tryz.prog 209 #[.agg #[.int .i64 x.p, .int .i64 x.a, .int .i64 x.b, .int .i64 x.r]] w fun e w' => e = .returned (.agg #[.int .i64 x.p, .int .i64 x.a, .int .i64 x.b, .int .i64 x.r]) ∧ Below w.heap.size w w' := by
  go_enter Tryz.func209, Tryz.ntmps209
  go_wp2
  refine bodyPost_ret (v := .agg #[.int .i64 x.p, .int .i64 x.a, .int .i64 x.b, .int .i64 x.r]) (by simp [results, Tryz.results209, go_sem, *]) rfl ⟨rfl, ?_⟩
  repeat (first | with_reducible exact Below.refl _ _ | with_reducible refine Below.setCell ?_ (by simp; try omega) _ | with_reducible refine Below.alloc ?_ (by simp; try omega) _)

/-- No deed. -/
def noDd : Dd := ⟨0, 0, 0, 0⟩

theorem own_infoDd : (Tryz.prog.info? 181).map (fun i => (i.zero, i.size, i.bytes)) = some (some (.agg #[.int .i64 0, .int .i64 0, .int .i64 0, .int .i64 0]), 4, 32) := by kernel_rfl

theorem dcells_set (Q : List Dd) (k : Nat) (x : Dd) (hk : k < Q.length) : dcells (Q.set k x) = ((((dcells Q).set (k * 4) (.int .i64 x.p)).set (k * 4 + 1) (.int .i64 x.a)).set (k * 4 + 2) (.int .i64 x.b)).set (k * 4 + 3) (.int .i64 x.r) := by
  induction Q generalizing k with
  | nil => simp at hk
  | cons q r ih =>
    match k with
    | 0 => simp [dcells, dcs]
    | k + 1 =>
      simp at hk
      have := ih k (by omega)
      unfold dcells at *
      rw [List.set_cons_succ, List.flatMap_cons, List.flatMap_cons, this, show (k + 1) * 4 = k * 4 + 1 + 1 + 1 + 1 by omega]
      simp [dcs]

theorem dmade_cells (n : Nat) : (madeCells (Value.agg #[.int .i64 0, .int .i64 0, .int .i64 0, .int .i64 0]).cells (n * 4)).toList = dcells (List.replicate n noDd) := by
  apply List.ext_getElem?
  intro j
  by_cases hj : j < n * 4
  · have hk : j / 4 < (List.replicate n noDd).length := by simp; omega
    have h := dcells_at (List.replicate n noDd) (j / 4) (j % 4) hk (by omega)
    rw [show j / 4 * 4 + j % 4 = j by omega] at h
    rw [h]
    have : j % 4 = 0 ∨ j % 4 = 1 ∨ j % 4 = 2 ∨ j % 4 = 3 := by omega
    rcases this with e | e | e | e <;> simp [madeCells, hj, Value.cells, dcs, noDd, e]
  · rw [(List.getElem?_eq_none (by rw [dcells_len]; simp; omega) : (dcells (List.replicate n noDd))[j]? = none)]
    simp [madeCells, hj]

/-- A deed's four cells written. -/
def set4 (w : World) (g k : Nat) (x : Dd) : World := (((w.setCell ⟨g, k * 4, none⟩ (.int .i64 x.p)).setCell ⟨g, k * 4 + 1, none⟩ (.int .i64 x.a)).setCell ⟨g, k * 4 + 2, none⟩ (.int .i64 x.b)).setCell ⟨g, k * 4 + 3, none⟩ (.int .i64 x.r)

theorem drow_set {w : World} {base g cap : Nat} {Q : List Dd} (h : DRow w base (.slice (some ⟨g, 0, none⟩) Q.length cap) Q) (k : Nat) (hk : k < Q.length) (x : Dd) :
    DRow (set4 w g k x) base (.slice (some ⟨g, 0, none⟩) Q.length cap) (Q.set k x) := by
  have h1 := (World.ownsRow.stored h (k * 4) (.int .i64 x.p)).1
  have h2 := (h1.stored (k * 4 + 1) (.int .i64 x.a)).1
  have h3 := (h2.stored (k * 4 + 2) (.int .i64 x.b)).1
  have h4 := (h3.stored (k * 4 + 3) (.int .i64 x.r)).1
  rw [← dcells_set Q k x hk] at h4
  unfold DRow set4
  rw [List.length_set]
  exact h4

theorem below_set4 {B : Nat} {w0 w : World} (hb : Below B w0 w) {g : Nat} (hg : B ≤ g) (k : Nat) (x : Dd) : Below B w0 (set4 w g k x) :=
  (((hb.setCell (p := ⟨g, k * 4, none⟩) hg _).setCell (p := ⟨g, k * 4 + 1, none⟩) hg _).setCell (p := ⟨g, k * 4 + 2, none⟩) hg _).setCell (p := ⟨g, k * 4 + 3, none⟩) hg _

theorem grown_set4 (w : World) (g k : Nat) (x : Dd) : w.grownBy (set4 w g k x) (some g) :=
  ⟨rfl, rfl, rfl, by simp [set4], fun i hi hne => by
    have h : i ≠ g := fun e => hne (by rw [e])
    unfold set4
    rw [Below.heap_setCell _ _ _ _ h, Below.heap_setCell _ _ _ _ h, Below.heap_setCell _ _ _ _ h, Below.heap_setCell _ _ _ _ h]⟩

/-- The first k deeds, no deeds behind them. -/
def dTo (Q : List Dd) (k : Nat) : List Dd := Q.take k ++ List.replicate (Q.length - k) noDd

theorem dTo_len (Q : List Dd) {k : Nat} (h : k ≤ Q.length) : (dTo Q k).length = Q.length := by unfold dTo; rw [List.length_append, List.length_take, List.length_replicate]; omega

theorem dTo_zero (Q : List Dd) : dTo Q 0 = List.replicate Q.length noDd := by unfold dTo; simp

theorem dTo_end (Q : List Dd) : dTo Q Q.length = Q := by unfold dTo; simp

theorem dTo_next (Q : List Dd) {k : Nat} (h : k < Q.length) : (dTo Q k).set k Q[k] = dTo Q (k + 1) := by
  unfold dTo
  rw [List.set_append_right _ _ (by rw [List.length_take]; omega), List.length_take, Nat.min_eq_left (by omega), Nat.sub_self, List.take_succ_eq_append_getElem h, show Q.length - k = (Q.length - (k + 1)) + 1 by omega, List.replicate_succ, List.set_cons_zero, List.append_assoc]
  rfl

/-- What makes a list of deeds leaves: the list, in memory of its own. -/
def DListOf (w : World) (Q : List Dd) (e : Ending) (w' : World) : Prop := ∃ v, e = .returned v ∧ DRow w' w.heap.size v Q ∧ v.ownBlock ≠ none ∧ Below w.heap.size w w'

set_option maxRecDepth 100000 in
set_option maxHeartbeats 2000000 in
theorem toDeedS_any (v : Value) (Q : List Dd) (w : World) (hv : Dds w v Q) (hs : Q.length ≤ 1048576) :
    Calls Tryz.prog 156 #[v] w (DListOf w Q) := by
  obtain ⟨i0, hi0, hz0, hz1, hz2⟩ := info_parts own_infoDd
  have I0 := Lib.hid hi0
  have Z0 := Lib.hid hz0
  have Z1 := Lib.hid hz1
  have B8 : Hid (i0.bytes * Q.length ≤ 281474976710656) := Lib.hid (by rw [hz2]; omega)
  have HV := Lib.hid hv
  obtain ⟨hl, A, cap, rfl, hc⟩ := hv
  clear hc hi0 hz0 hz1 hz2 hl
  go_enter Tryz.func156, Tryz.ntmps156
  go_wp2_with (first
    | (at_make; refine wpList_make_full _ rfl _ _ 41 rfl w.heap.size 181 i0 _ 4 Tryz.underlying41 I0.out Z0.out Z1.out .i64 .i64 _ _ Q.length rfl rfl rfl rfl B8.out (by unfold maxLen; omega) (by simp) ?_
       intro w1 ho1 hg1
       rw [dmade_cells] at ho1
       have R1 : Hid (DRow w1 w.heap.size (.slice (some ⟨w.heap.size, 0, none⟩) Q.length Q.length) (dTo Q 0)) := Lib.hid (by unfold DRow; rw [dTo_zero]; simpa using ho1)
       have B1 : Hid (Below w.heap.size w w1) := Lib.hid ((Below.refl _ _).grown hg1 (Nat.le_refl _) (by simp))
       clear ho1 hg1))
  go_loopw [4] (fun i wr => ∃ k : Nat, k ≤ Q.length ∧ i = .int .i64 k ∧ DRow wr w.heap.size (.slice (some ⟨w.heap.size, 0, none⟩) Q.length Q.length) (dTo Q k) ∧ Below w.heap.size w wr) (fun i _ => Q.length - (intOf i).toNat)
  case atStart => exact ⟨0, Nat.zero_le _, rfl, R1.out, B1.out⟩
  case round =>
    obtain ⟨k, hk, rfl, hr, hb⟩ := hrel
    have HR := Lib.hid hr
    have HB := Lib.hid hb
    clear hr hb
    by_cases hlt : k < Q.length
    · obtain ⟨_, A', cap', e', hc⟩ := dds_below HV.out HB.out
      simp only [Value.slice.injEq, true_and] at e'
      obtain ⟨rfl, rfl⟩ := e'
      obtain ⟨ad, rfl, hd⟩ := hc (by omega)
      obtain ⟨c0, c1, c2, c3⟩ := hd k hlt
      clear hc hd
      go_wp2_with fail
      refine (toDeed_any _ _).mono ?_
      rintro e w2 ⟨rfl, hb2⟩
      have B2 := Lib.hid (below_step HB.out hb2)
      have R2 := Lib.hid (drow_below HR.out hb2)
      clear hb2 c0 c1 c2 c3
      have R3 : DRow w2 w.heap.size (.slice (some ⟨w.heap.size, 0, none⟩) (dTo Q k).length Q.length) (dTo Q k) := by rw [dTo_len Q hk]; exact R2.out
      have ST : Hid (DRow (set4 w2 w.heap.size k Q[k]) w.heap.size (.slice (some ⟨w.heap.size, 0, none⟩) Q.length Q.length) (dTo Q (k + 1))) := Lib.hid (by
        have h3 := drow_set R3 k (by rw [dTo_len Q hk]; exact hlt) Q[k]
        rw [dTo_next Q hlt, dTo_len Q hk] at h3
        exact h3)
      have SB := Lib.hid (below_set4 B2.out (g := w.heap.size) (Nat.le_refl _) k Q[k])
      have zl : w.heap.size < w2.heap.size := (drow_lt R2.out _ rfl).2
      obtain ⟨o0, o1, o2, o3⟩ := drow_at R3 k (by rw [dTo_len Q hk]; exact hlt)
      have f0 := drow_free R2.out (k * 4)
      have f1 := drow_free R2.out (k * 4 + 1)
      have f2 := drow_free R2.out (k * 4 + 2)
      have f3 := drow_free R2.out (k * 4 + 3)
      clear R3
      unfold set4 at ST SB
      generalize ((dTo Q k)[k]'(by rw [dTo_len Q hk]; exact hlt)) = old at *
      simp only at o0 o1 o2 o3
      go_wp2
      go_roundw
      case rel => exact ⟨k + 1, by omega, by go_num, ST.out, SB.out⟩
      case measure => simp [intOf]; omega
    · obtain rfl : k = Q.length := by omega
      clear hlt
      go_wp2
      go_ret
      exact ⟨_, rfl, by have h := HR.out; rwa [dTo_end] at h, by simp [Value.ownBlock], HB.out⟩

set_option maxHeartbeats 400000 in
theorem szDeeds_any (A : Option Addr) (n cap : Nat) (left : Int) (w : World) (hn : n ≤ maxLen) (h0 : 0 ≤ left) (h1 : left ≤ 1048576) :
    Calls Tryz.prog 145 #[.slice A n cap, .int .i64 left] w fun e w' => e = .returned (.int .i64 (leftOf left n)) ∧ w = w' := by
  unfold maxLen at hn
  by_cases h : left - n < 0
  · have E : Hid (leftOf left n = -1) := Lib.hid (by unfold leftOf; rw [if_pos h])
    go_enter Tryz.func145, Tryz.ntmps145
    go_wp2
    go_ret
    exact ⟨ret_int E.out.symm, rfl⟩
  · have E : Hid (leftOf left n = left - n) := Lib.hid (by unfold leftOf; rw [if_neg h])
    go_enter Tryz.func145, Tryz.ntmps145
    go_wp2
    go_ret
    exact ⟨ret_int E.out.symm, rfl⟩

end Go.Proofs.YthnbaeamekolmaaGreatDoor

namespace Go.Proofs.YthnbaeamekolmaaGreatDoor
open Go.RowKit
set_option linter.unusedVariables false
set_option linter.unusedSimpArgs false

set_option maxRecDepth 100000 in
set_option maxHeartbeats 1000000 in
theorem eqDeed_same (x : Dd) (w : World) :
    Calls Tryz.prog 222 #[.agg #[.int .i64 x.p, .int .i64 x.a, .int .i64 x.b, .int .i64 x.r], .agg #[.int .i64 x.p, .int .i64 x.a, .int .i64 x.b, .int .i64 x.r]] w fun e w' => e = .returned (.bool true) ∧ Below w.heap.size w w' := by
  have tp : (x.p != x.p) = false := by simp
  have ta : (x.a != x.a) = false := by simp
  have tb : (x.b != x.b) = false := by simp
  have tr : (x.r != x.r) = false := by simp
  go_enter Tryz.func222, Tryz.ntmps222
  go_wp2
  go_ret
  exact ⟨rfl, below_alloc (below_alloc (Below.refl _ _) _) _⟩

set_option maxRecDepth 100000 in
set_option maxHeartbeats 2000000 in
theorem eqDeedS_same (u v : Value) (Q : List Dd) (w : World) (hu : Dds w u Q) (hv : Dds w v Q) :
    Calls Tryz.prog 168 #[u, v] w fun e w' => e = .returned (.bool true) ∧ Below w.heap.size w w' := by
  have HU := Lib.hid hu
  have HV := Lib.hid hv
  obtain ⟨hl, A, ca, rfl, _⟩ := hu
  obtain ⟨_, B, cb, rfl, _⟩ := hv
  unfold maxLen at hl
  have z0 : ((Q.length : Int) != (Q.length : Int)) = false := by simp
  go_enter Tryz.func168, Tryz.ntmps168
  go_wp2
  clear z0
  go_loopw [5] (fun i wr => ∃ k : Nat, k ≤ Q.length ∧ i = .int .i64 k ∧ Below w.heap.size w wr) (fun i _ => Q.length - (intOf i).toNat)
  case atStart => exact ⟨0, Nat.zero_le _, rfl, Below.refl _ _⟩
  case round =>
    obtain ⟨k, hk, rfl, hb⟩ := hrel
    have HB := Lib.hid hb
    clear hb
    by_cases hlt : k < Q.length
    · obtain ⟨_, A', ca', e', hc⟩ := dds_below HU.out HB.out
      simp only [Value.slice.injEq, true_and] at e'
      obtain ⟨rfl, rfl⟩ := e'
      obtain ⟨ga, rfl, ha⟩ := hc (by omega)
      obtain ⟨_, B', cb', e', hc⟩ := dds_below HV.out HB.out
      simp only [Value.slice.injEq, true_and] at e'
      obtain ⟨rfl, rfl⟩ := e'
      obtain ⟨gb, rfl, hb⟩ := hc (by omega)
      have WA := ha k hlt
      have WB := hb k hlt
      clear ha hb hc
      generalize Q[k] = x at *
      have KA := Lib.hid WA
      have KB := Lib.hid WB
      obtain ⟨a0, a1, a2, a3⟩ := WA
      obtain ⟨b0, b1, b2, b3⟩ := WB
      go_wp2
      go_region_held3 (fun w' => (w'.cell? (ga.add (k * 4)) = some (.int .i64 x.p) ∧ w'.cell? ⟨(ga.add (k * 4)).block, (ga.add (k * 4)).off + 1, none⟩ = some (.int .i64 x.a) ∧ w'.cell? ⟨(ga.add (k * 4)).block, (ga.add (k * 4)).off + 2, none⟩ = some (.int .i64 x.b) ∧ w'.cell? ⟨(ga.add (k * 4)).block, (ga.add (k * 4)).off + 3, none⟩ = some (.int .i64 x.r)) ∧ (w'.cell? (gb.add (k * 4)) = some (.int .i64 x.p) ∧ w'.cell? ⟨(gb.add (k * 4)).block, (gb.add (k * 4)).off + 1, none⟩ = some (.int .i64 x.a) ∧ w'.cell? ⟨(gb.add (k * 4)).block, (gb.add (k * 4)).off + 2, none⟩ = some (.int .i64 x.b) ∧ w'.cell? ⟨(gb.add (k * 4)).block, (gb.add (k * 4)).off + 3, none⟩ = some (.int .i64 x.r))) (first | exact ⟨K1, K2⟩ | exact ⟨KA.out, KB.out⟩)
        (first | (go_at_call 222; refine (eqDeed_same x _).mono ?_; rintro e w1 ⟨rfl, hb1⟩; have K1 := ddAt_below hb1 KA.out; have K2 := ddAt_below hb1 KB.out))
      have HB2 := Lib.hid (HB.out.drew.trans (hb1.mono HB.out.drew.size))
      clear hb1 K1 K2 a0 a1 a2 a3 b0 b1 b2 b3
      go_wp2
      go_roundw
      case rel => exact ⟨k + 1, by omega, by go_num, HB2.out⟩
      case measure => simp [intOf]; omega
    · obtain rfl : k = Q.length := by omega
      clear hlt
      go_wp2
      go_ret
      exact ⟨rfl, HB.out⟩

/-- The deed with marks from K on. -/
def markDd (K : Nat) : Dd := ⟨(K : Int), (K : Int) + 1, (K : Int) + 1 + 1, (K : Int) + 1 + 1 + 1⟩

/-- The deeds with marks from K on. -/
def marksD (K n : Nat) : List Dd := (List.range n).map fun j => markDd (K + 4 * j)

theorem marksD_len (K n : Nat) : (marksD K n).length = n := by unfold marksD; simp

theorem marksD_at {K n k : Nat} (h : k < (marksD K n).length) : (marksD K n)[k] = markDd (K + 4 * k) := by
  have e : (marksD K n)[k]? = some (markDd (K + 4 * k)) := by
    unfold marksD
    rw [List.getElem?_map, List.getElem?_range (by rwa [marksD_len] at h)]; rfl
  exact (List.getElem?_eq_some_iff.1 e).2

theorem marksD_succ (K n : Nat) : marksD K (n + 1) = marksD K n ++ [markDd (K + 4 * n)] := by unfold marksD; rw [List.range_succ]; simp

/-- Marks at the first k places. -/
def markedD (K k : Nat) (Q : List Dd) : List Dd := marksD K k ++ Q.drop k

theorem markedD_len {K k : Nat} {Q : List Dd} (h : k ≤ Q.length) : (markedD K k Q).length = Q.length := by unfold markedD; rw [List.length_append, marksD_len, List.length_drop]; omega

theorem markedD_zero (K : Nat) (Q : List Dd) : markedD K 0 Q = Q := by unfold markedD marksD; simp

theorem markedD_end (K : Nat) (Q : List Dd) : markedD K Q.length Q = marksD K Q.length := by unfold markedD; simp

theorem markedD_next {K k : Nat} {Q : List Dd} (h : k < Q.length) : (markedD K k Q).set k (markDd (K + 4 * k)) = markedD K (k + 1) Q := by
  unfold markedD
  rw [marksD_succ, List.drop_eq_getElem_cons h, List.set_append_right _ _ (by rw [marksD_len]; exact Nat.le_refl _), marksD_len, Nat.sub_self, List.set_cons_zero]
  simp

/-- What laying marks leaves: the deeds bear them; no other block that was there has turned. -/
def MarkedDOf (w : World) (base : Nat) (v : Value) (n K : Nat) (e : Ending) (w' : World) : Prop := e = .returned (.int .i64 ((K + 4 * n : Nat) : Int)) ∧ DRow w' base v (marksD K n) ∧ w.grownBy w' v.ownBlock

end Go.Proofs.YthnbaeamekolmaaGreatDoor

namespace Go.Proofs.YthnbaeamekolmaaGreatDoor
open Go.RowKit
set_option linter.unusedVariables false
set_option linter.unusedSimpArgs false

theorem own_infoB : (Tryz.prog.info? 4).map (fun i => (i.zero, i.size, i.bytes)) = some (some (.bool false), 1, 1) := by kernel_rfl

theorem bols_oneCell : ∀ (zs : List Bool) (v : Value), v ∈ zs.map Value.bool → v.cells = #[v] := by
  intro zs v hv
  obtain ⟨z, _, rfl⟩ := List.mem_map.1 hv
  rfl

/-- A slice, nil or not, that reads as these numbers. -/
def Bols (w : World) (v : Value) (zs : List Bool) : Prop :=
  zs.length ≤ maxLen ∧ ∃ A cap, v = .slice A zs.length cap ∧ (0 < zs.length → ∃ ad, A = some ad ∧ ∀ k (h : k < zs.length), w.cell? (ad.add k) = some (.bool zs[k]))

/-- A slice of the call's own, perhaps nil, of these numbers. -/
def BoRow (w : World) (base : Nat) (v : Value) (zs : List Bool) : Prop := w.ownsRow base 4 1 v zs.length (zs.map (Value.bool))

theorem bols_keep {w w' : World} {v : Value} {zs : List Bool} (h : Bols w v zs) (hk : ∀ (x : Addr) (u : Value), w.cell? x = some u → w'.cell? x = some u) : Bols w' v zs := by
  obtain ⟨h1, A, cap, hv, hc⟩ := h
  refine ⟨h1, A, cap, hv, fun hp => ?_⟩
  obtain ⟨ad, ha, hc⟩ := hc hp
  exact ⟨ad, ha, fun k hk' => hk _ _ (hc k hk')⟩

theorem bols_below {w w' : World} {v : Value} {zs : List Bool} (h : Bols w v zs) (hb : Below w.heap.size w w') : Bols w' v zs :=
  bols_keep h fun x u hx => by rw [hb.cell (World.block_lt_of_cell? w x hx)]; exact hx

theorem bols_nil (w : World) : Bols w (.slice none 0 0) [] := ⟨Nat.zero_le _, none, 0, rfl, fun h => absurd h (by simp)⟩

theorem borow_nil (w : World) (base : Nat) : BoRow w base (.slice none 0 0) [] := World.ownsRow_nil w base _ 1

theorem borow_bols {w : World} {base : Nat} {v : Value} {zs : List Bool} (h : BoRow w base v zs) : Bols w v zs := by
  rcases h.2 with ⟨hv, h0⟩ | ⟨g, cap, cur, hv, hb, hg, h1, h2, h3, h4⟩
  · exact ⟨by rw [h0]; exact Nat.zero_le _, none, 0, by rw [hv, h0], fun hp => absurd hp (by omega)⟩
  · refine ⟨Nat.le_trans h1 h2, some ⟨g, 0, none⟩, cap, hv, fun _ => ⟨_, rfl, fun k hk => ?_⟩⟩
    subst hv
    have hc := h.cellAt k (by omega)
    rw [show (⟨g, 0, none⟩ : Addr).add k = ⟨g, k, none⟩ by rw [Addr.add_lit, Nat.zero_add], hc]
    simp [hk]

theorem borow_form {w : World} {base : Nat} {v : Value} {zs : List Bool} (h : BoRow w base v zs) (hp : 0 < zs.length) : ∃ g cap, v = .slice (some ⟨g, 0, none⟩) zs.length cap ∧ base ≤ g ∧ g < w.heap.size ∧ zs.length ≤ cap ∧ cap ≤ maxLen := by
  rcases h.2 with ⟨_, h0⟩ | ⟨g, cap, cur, hv, hb, hg, h1, h2, _⟩
  · omega
  · exact ⟨g, cap, hv, hb, (Array.getElem?_eq_some_iff.1 hg).1, h1, h2⟩

theorem borow_len {w : World} {base : Nat} {v : Value} {zs : List Bool} (h : BoRow w base v zs) : zs.length ≤ maxLen := (borow_bols h).1

theorem borow_lt {w : World} {base : Nat} {v : Value} {zs : List Bool} (h : BoRow w base v zs) : ∀ g, v.ownBlock = some g → base ≤ g ∧ g < w.heap.size := h.lt

theorem borow_keep {w w' : World} {base : Nat} {v : Value} {zs : List Bool} (h : BoRow w base v zs) (hk : ∀ g, v.ownBlock = some g → w'.heap[g]? = w.heap[g]?) : BoRow w' base v zs := by
  obtain ⟨h1, h2⟩ := h
  refine ⟨h1, ?_⟩
  rcases h2 with h2 | ⟨g, cap, cur, hv, hb, hg, r⟩
  · exact .inl h2
  · exact .inr ⟨g, cap, cur, hv, hb, by rw [hk g (by rw [hv]; rfl)]; exact hg, r⟩

theorem borow_below {w w' : World} {base : Nat} {v : Value} {zs : List Bool} (h : BoRow w base v zs) (hb : Below w.heap.size w w') : BoRow w' base v zs := borow_keep h fun g hg => hb.block g (borow_lt h g hg).2

theorem borow_alloc {w : World} {base : Nat} {v : Value} {zs : List Bool} (h : BoRow w base v zs) (o : Obj) : BoRow (w.alloc o) base v zs := borow_keep h fun g hg => Below.heap_alloc w o g (borow_lt h g hg).2

theorem borow_base {w : World} {base base' : Nat} {v : Value} {zs : List Bool} (h : BoRow w base v zs) (hb : base' ≤ base) : BoRow w base' v zs := own_base h hb

theorem borow_whole {w : World} {base g : Nat} {zs : List Bool} (h : Whole w g 4 (zs.map (Value.bool)).toArray) (hb : base ≤ g) (hl : zs.length ≤ maxLen) : BoRow w base (.slice (some ⟨g, 0, none⟩) zs.length zs.length) zs :=
  ⟨by simp, .inr ⟨g, zs.length, _, rfl, hb, h, Nat.le_refl _, hl, by simp, by rw [Nat.mul_one, List.toList_toArray, List.take_of_length_le (by simp)]⟩⟩

theorem borow_full {w : World} {base g : Nat} {zs : List Bool} (h : BoRow w base (.slice (some ⟨g, 0, none⟩) zs.length zs.length) zs) : Whole w g 4 (zs.map (Value.bool)).toArray := by
  rcases h.2 with ⟨hv, _⟩ | ⟨g', cap, cur, hv, hb, hg, h1, h2, h3, h4⟩
  · cases hv
  · simp only [Value.slice.injEq, Option.some.injEq, Addr.mk.injEq, true_and, and_true] at hv
    obtain ⟨rfl, rfl⟩ := hv
    unfold Whole
    rw [hg, ← h4, List.take_of_length_le (by simp [h3]), Array.toArray_toList]

/-- The row of a slice that is written at one place. -/
theorem borow_set {w : World} {base g cap : Nat} {zs : List Bool} (h : BoRow w base (.slice (some ⟨g, 0, none⟩) zs.length cap) zs) (k : Nat) (n : Bool) :
    BoRow (w.setCell ⟨g, k, none⟩ (.bool n)) base (.slice (some ⟨g, 0, none⟩) zs.length cap) (zs.set k n) ∧ w.grownBy (w.setCell ⟨g, k, none⟩ (.bool n)) (some g) := by
  have h2 := World.ownsRow.stored h k (.bool n)
  refine ⟨?_, h2.2⟩
  have := h2.1
  rw [← List.map_set] at this
  unfold BoRow
  rw [List.length_set]
  exact this

theorem borow_cell {w : World} {base g cap : Nat} {zs : List Bool} (h : BoRow w base (.slice (some ⟨g, 0, none⟩) zs.length cap) zs) (k : Nat) (hk : k < zs.length) : w.cell? ⟨g, k, none⟩ = some (.bool zs[k]) := by
  rw [World.ownsRow.cellAt h k (by omega)]; simp [hk]

theorem borow_free {w : World} {base g cap n : Nat} {zs : List Bool} (h : BoRow w base (.slice (some ⟨g, 0, none⟩) n cap) zs) (k : Nat) : w.frozen? ⟨g, k, none⟩ = false := by
  have h' := h
  rcases h'.2 with ⟨hv, _⟩ | ⟨g', cap, cur, hv, hb, hg, _⟩
  · cases hv
  · simp only [Value.slice.injEq, Option.some.injEq, Addr.mk.injEq, true_and, and_true] at hv
    obtain ⟨rfl, _⟩ := hv
    simp [World.frozen?, hg]

end Go.Proofs.YthnbaeamekolmaaGreatDoor

namespace Go.Proofs.YthnbaeamekolmaaGreatDoor
open Go.RowKit
set_option linter.unusedVariables false
set_option linter.unusedSimpArgs false

def BSameTo (P Q : List Bool) (k : Nat) : Prop := P.take k = Q.take k

theorem bsameTo_next {P Q : List Bool} {k : Nat} (h : BSameTo P Q k) (hp : k < P.length) (hq : k < Q.length) (e : P[k] = Q[k]) : BSameTo P Q (k + 1) := by
  unfold BSameTo at *
  rw [List.take_succ_eq_append_getElem hp, List.take_succ_eq_append_getElem hq, h, e]

theorem bsameTo_end {P Q : List Bool} (hl : P.length = Q.length) (h : BSameTo P Q P.length) : (P == Q) = true := by
  unfold BSameTo at h
  rw [List.take_length, hl, List.take_length] at h
  simpa using h

theorem bsame_len {P Q : List Bool} (hl : P.length ≠ Q.length) : (P == Q) = false := by
  rw [beq_eq_false_iff_ne]; intro e; rw [e] at hl; exact hl rfl

theorem bsame_not {P Q : List Bool} {k : Nat} (hp : k < P.length) (hq : k < Q.length) (e : P[k] ≠ Q[k]) : (P == Q) = false := by
  rw [beq_eq_false_iff_ne]; intro h; subst h; exact e rfl

set_option maxRecDepth 100000 in
set_option maxHeartbeats 1000000 in
theorem eqBools_any (u v : Value) (P Q : List Bool) (w : World) (hu : Bols w u P) (hv : Bols w v Q) :
    Calls Tryz.prog 167 #[u, v] w (BoolOf w (P == Q)) := by
  obtain ⟨pm, A, ca, rfl, ha⟩ := hu
  obtain ⟨qm, B, cb, rfl, hb⟩ := hv
  unfold maxLen at pm qm
  by_cases hl : P.length = Q.length
  · have z0 : ((P.length : Int) != (Q.length : Int)) = false := by simp [hl]
    have LE := Lib.hid hl
    have hlq : P.length ≤ Q.length := by omega
    have HA := Lib.hid ha
    have HB := Lib.hid hb
    clear hl ha hb
    go_enter Tryz.func167, Tryz.ntmps167
    go_wp2
    clear z0
    go_loopw [5] (fun i wr => ∃ k n : Nat, k ≤ P.length ∧ i = .int .i64 k ∧ BSameTo P Q k ∧ wr = w.drewN n) (fun i _ => P.length - (intOf i).toNat)
    case atStart => exact ⟨0, 0, Nat.zero_le _, rfl, by unfold BSameTo; simp, rfl⟩
    case round =>
      obtain ⟨k, n, hk, rfl, hat, rfl⟩ := hrel
      have AT := Lib.hid hat
      clear hat
      by_cases hlt : k < P.length
      · have hlt2 : k < Q.length := by omega
        obtain ⟨ga, rfl, hca⟩ := HA.out (by omega)
        obtain ⟨gb, rfl, hcb⟩ := HB.out (by omega)
        have ka := hca k hlt
        have kb := hcb k hlt2
        clear hca hcb
        by_cases e : P[k] = Q[k]
        · have NX := Lib.hid (bsameTo_next AT.out hlt hlt2 e)
          rw [← e] at kb
          clear e
          generalize P[k] = x at *
          cases x
          all_goals
            go_wp2
            go_quiet (fail)
            go_wp2
            go_roundw
            case rel => exact ⟨k + 1, _, by omega, by go_num, NX.out, rfl⟩
            case measure => simp [intOf]; omega
        · have NO := Lib.hid (bsame_not hlt hlt2 e)
          have e2 : Q[k] = !P[k] := by cases h : P[k] <;> cases h2 : Q[k] <;> simp_all
          rw [e2] at kb
          clear e e2
          generalize P[k] = x at *
          cases x
          all_goals
            simp only [Bool.not_true, Bool.not_false] at kb
            go_wp2
            go_quiet (fail)
            go_wp2
            go_ret
            exact ⟨_, ret_bool NO.out.symm, by rw [World.drewN_drewN]⟩
      · obtain rfl : k = P.length := by omega
        have E := Lib.hid (bsameTo_end LE.out AT.out)
        go_wp2
        go_ret
        exact ⟨_, ret_bool E.out.symm, rfl⟩
  · have z0 : ((P.length : Int) != (Q.length : Int)) = true := by rw [bne_iff_ne]; omega
    have E := Lib.hid (bsame_len hl)
    clear hl ha hb
    go_enter Tryz.func167, Tryz.ntmps167
    go_wp2
    go_ret
    exact ⟨0, ret_bool E.out.symm, rfl⟩

set_option maxHeartbeats 400000 in
theorem szBools_any (A : Option Addr) (n cap : Nat) (left : Int) (w : World) (hn : n ≤ maxLen) (h0 : 0 ≤ left) (h1 : left ≤ 1048576) :
    Calls Tryz.prog 144 #[.slice A n cap, .int .i64 left] w fun e w' => e = .returned (.int .i64 (leftOf left n)) ∧ w = w' := by
  unfold maxLen at hn
  by_cases h : left - n < 0
  · have E : Hid (leftOf left n = -1) := Lib.hid (by unfold leftOf; rw [if_pos h])
    go_enter Tryz.func144, Tryz.ntmps144
    go_wp2
    go_ret
    exact ⟨ret_int E.out.symm, rfl⟩
  · have E : Hid (leftOf left n = left - n) := Lib.hid (by unfold leftOf; rw [if_neg h])
    go_enter Tryz.func144, Tryz.ntmps144
    go_wp2
    go_ret
    exact ⟨ret_int E.out.symm, rfl⟩

/-- A slice handed back, of the call's own, of these numbers. -/
def BoRowOf (w : World) (zs : List Bool) (e : Ending) (w' : World) : Prop := ∃ v, e = .returned v ∧ BoRow w' w.heap.size v zs ∧ v.ownBlock ≠ none ∧ Below w.heap.size w w'

/-- The first k numbers, then zeros. -/
def partB (zs : List Bool) (k : Nat) : List Bool := zs.take k ++ List.replicate (zs.length - k) false

theorem partB_len {zs : List Bool} {k : Nat} (h : k ≤ zs.length) : (partB zs k).length = zs.length := by unfold partB; simp; omega

theorem partB_next {zs : List Bool} {k : Nat} (h : k < zs.length) : (partB zs k).set k zs[k] = partB zs (k + 1) := by
  unfold partB
  rw [List.set_append_right _ _ (by simp; omega)]
  rw [List.length_take, Nat.min_eq_left (by omega), Nat.sub_self, show zs.length - k = (zs.length - (k + 1)) + 1 by omega, List.replicate_succ, List.set_cons_zero, List.take_succ_eq_append_getElem h, List.append_assoc]
  rfl

theorem partB_end (zs : List Bool) : partB zs zs.length = zs := by unfold partB; simp

theorem bzeros_cells (n : Nat) : (madeCells (Value.bool false).cells (n * 1)).toList = (List.replicate n false).map Value.bool := by
  rw [Nat.mul_one, show (Value.bool false).cells = #[Value.bool false] from rfl, toList_madeCells_one]; simp

theorem bzeros_row {w' : World} {base g n : Nat} (h : w'.ownsRow base 4 1 (.slice (some ⟨g, 0, none⟩) n n) n (madeCells (Value.bool false).cells (n * 1)).toList) : BoRow w' base (.slice (some ⟨g, 0, none⟩) n n) (List.replicate n false) := by
  unfold BoRow
  rw [List.length_replicate, ← bzeros_cells]; exact h

set_option maxRecDepth 100000 in
set_option maxHeartbeats 1000000 in
theorem toBools_any (v : Value) (zs : List Bool) (w : World) (hv : Bols w v zs) (hl : zs.length ≤ 1099511627776) :
    Calls Tryz.prog 155 #[v] w (BoRowOf w zs) := by
  obtain ⟨i0, hi0, hz0, hz1, hz2⟩ := info_parts own_infoB
  have hv0 := Lib.hid hv
  obtain ⟨qm, A, ca, rfl, ha⟩ := hv
  clear ha qm
  have I0 := Lib.hid hi0
  have Z0 := Lib.hid hz0
  have Z1 := Lib.hid hz1
  have Z2 := Lib.hid hz2
  have B8 : Hid (i0.bytes * zs.length ≤ 281474976710656) := Lib.hid (by rw [hz2]; omega)
  clear hi0 hz0 hz1 hz2
  go_enter Tryz.func155, Tryz.ntmps155
  go_wp2_with (at_make; refine wpList_make_full _ rfl _ _ 26 rfl w.heap.size 4 i0 _ 1 Tryz.underlying26 I0.out Z0.out Z1.out .i64 .i64 _ _ zs.length rfl rfl rfl rfl B8.out (by unfold maxLen; omega) (Nat.le_refl _) ?_; intro w1 ho1 hg1; have R1 := Lib.hid (bzeros_row ho1); have B1 : Hid (Below w.heap.size w w1) := Lib.hid ((Below.refl _ _).grown hg1 (Nat.le_refl _) (by simp)); clear ho1 hg1)
  go_loopw [4] (fun i wr => ∃ k : Nat, k ≤ zs.length ∧ i = .int .i64 k ∧ BoRow wr w.heap.size (.slice (some ⟨w.heap.size, 0, none⟩) zs.length zs.length) (partB zs k) ∧ Below w.heap.size w wr) (fun i _ => zs.length - (intOf i).toNat)
  case atStart => exact ⟨0, Nat.zero_le _, rfl, by unfold partB; exact R1.out, B1.out⟩
  case round =>
    obtain ⟨k, hk, rfl, hr, hb⟩ := hrel
    have HR := Lib.hid hr
    have HB := Lib.hid hb
    clear hr hb
    by_cases hlt : k < zs.length
    · have pl := partB_len (Nat.le_of_lt hlt)
      have HI := bols_below hv0.out HB.out
      obtain ⟨_, A', ca', hv', hc⟩ := HI
      simp only [Value.slice.injEq, true_and] at hv'
      obtain ⟨rfl, rfl⟩ := hv'
      obtain ⟨ad, rfl, hc'⟩ := hc (by omega)
      have kc := hc' k hlt
      clear hc'
      have HR' := HR.out
      rw [← pl] at HR'
      have ko := borow_cell HR' k (by omega)
      have kf := borow_free HR' k
      have ST := borow_set HR' k zs[k]
      rw [partB_next hlt, pl] at ST
      have SR := Lib.hid ST.1
      have SB : Hid (Below w.heap.size w (wr.setCell ⟨w.heap.size, k, none⟩ (.bool zs[k]))) := Lib.hid (HB.out.setCell (Nat.le_refl _) _)
      clear hc ST HR'
      generalize (partB zs k)[k]'_ = old at *
      generalize zs[k] = x at *
      go_wp2
      go_roundw
      case rel => exact ⟨k + 1, by omega, by go_num, SR.out, SB.out⟩
      case measure => simp [intOf]; omega
    · obtain rfl : k = zs.length := by omega
      rw [partB_end] at HR
      go_wp2
      go_ret
      exact ⟨_, rfl, HR.out, by simp [Value.ownBlock], HB.out⟩

/-- A mark. -/
def mkB (n : Nat) : Bool := n % 3 == 0

/-- Marks from K on. -/
def marksB (K n : Nat) : List Bool := (List.range n).map fun j => mkB (K + j)

theorem marksB_len (K n : Nat) : (marksB K n).length = n := by unfold marksB; simp

theorem marksB_at {K n k : Nat} (h : k < (marksB K n).length) : (marksB K n)[k] = mkB (K + k) := by
  have e : (marksB K n)[k]? = some (mkB (K + k)) := by
    unfold marksB
    rw [List.getElem?_map, List.getElem?_range (by rwa [marksB_len] at h)]; rfl
  exact (List.getElem?_eq_some_iff.1 e).2

theorem mkB_eq (K k : Nat) : ((((K : Int) + k).tmod 3) == 0) = mkB (K + k) := by
  unfold mkB
  have e : ((K : Int) + k).tmod 3 = (((K + k) % 3 : Nat) : Int) := by rw [Int.tmod_eq_emod_of_nonneg (by omega)]; omega
  rw [e]
  by_cases h : (K + k) % 3 = 0
  · rw [h]; rfl
  · have h2 : ((((K + k) % 3 : Nat) : Int) == 0) = false := by rw [beq_eq_false_iff_ne]; omega
    have h3 : ((K + k) % 3 == 0) = false := by rw [beq_eq_false_iff_ne]; exact h
    rw [h2, h3]

theorem mkB_eq2 (K k : Nat) : ((((K : Int) + k) % 3) == 0) = mkB (K + k) := by
  rw [← mkB_eq, Int.tmod_eq_emod_of_nonneg (by omega)]

/-- Marks at the first k places. -/
def markToB (K k : Nat) (Q : List Bool) : List Bool := marksB K k ++ Q.drop k

theorem markToB_len {K k : Nat} {Q : List Bool} (h : k ≤ Q.length) : (markToB K k Q).length = Q.length := by unfold markToB; simp [marksB_len]; omega

theorem markToB_zero (K : Nat) (Q : List Bool) : markToB K 0 Q = Q := by unfold markToB marksB; simp

theorem markToB_end (K : Nat) (Q : List Bool) : markToB K Q.length Q = marksB K Q.length := by unfold markToB; simp

theorem markToB_next {K k : Nat} {Q : List Bool} (h : k < Q.length) : (markToB K k Q).set k (mkB (K + k)) = markToB K (k + 1) Q := by
  unfold markToB
  rw [show marksB K (k + 1) = marksB K k ++ [mkB (K + k)] by unfold marksB; rw [List.range_succ]; simp, List.drop_eq_getElem_cons h, List.set_append_right _ _ (by rw [marksB_len]; exact Nat.le_refl _), marksB_len, Nat.sub_self, List.set_cons_zero]
  simp

/-- What laying marks leaves: the row bears them; no other block has turned. -/
def MarkBOf (w : World) (base : Nat) (v : Value) (n K : Nat) (e : Ending) (w' : World) : Prop := e = .returned (.int .i64 ((K : Int) + n)) ∧ BoRow w' base v (marksB K n) ∧ w.grownBy w' v.ownBlock

end Go.Proofs.YthnbaeamekolmaaGreatDoor

namespace Go.Proofs.YthnbaeamekolmaaGreatDoor
open Go.RowKit
set_option linter.unusedVariables false
set_option linter.unusedSimpArgs false

/-- A slice of bytes that came in: nil, or a row of numbers that fit. -/
def BRow (w : World) (a : Option Addr) (len cap : Nat) (zs : List Int) : Prop :=
  (a = none ∧ len = 0 ∧ cap = 0 ∧ zs = []) ∨
  ∃ x, a = some x ∧ len ≤ cap ∧ cap ≤ maxLen ∧ zs.length = cap ∧ (∀ i, i < zs.length → w.cell? (x.add i) = some (.int .u8 (zs.getD i 0))) ∧ ∀ n ∈ zs, (Lit.int .u8 n).wf = true

/-- The source of draws lies in block b, over the code a; at most N bytes have been drawn of it. -/
structure SrcAt (w : World) (b : Nat) (a : Option Addr) (len cap : Nat) (zs : List Int) (at_ : Nat) (seed : Int) : Prop where
  c0 : w.cell? ⟨b, 0, none⟩ = some (.slice a len cap)
  c1 : w.cell? ⟨b, 1, none⟩ = some (.int .i64 at_)
  c2 : w.cell? ⟨b, 2, none⟩ = some (.int .i64 seed)
  f1 : w.frozen? ⟨b, 1, none⟩ = false
  f2 : w.frozen? ⟨b, 2, none⟩ = false
  row : BRow w a len cap zs
  apart : ∀ x, a = some x → 0 < cap → x.block ≠ b
  s0 : 0 ≤ seed
  s1 : seed < 2147483648

/-- What a draw of a number leaves: a number of which P holds; of what was there, the source alone has turned. -/
def Drawn (w : World) (b : Nat) (a : Option Addr) (len cap : Nat) (zs : List Int) (N : Nat) (P : Int → Prop) (e : Ending) (w' : World) : Prop :=
  ∃ (v : Int) (k : Nat) (seed : Int), P v ∧ e = .returned (.int .i64 v) ∧ k ≤ N ∧ SrcAt w' b a len cap zs k seed ∧ w.grownBy w' (some b)

theorem grown_set (w : World) (b o : Nat) (v : Value) : w.grownBy (w.setCell ⟨b, o, none⟩ v) (some b) :=
  ⟨rfl, rfl, rfl, by simp [World.setCell], fun k hk hne => Below.heap_setCell _ _ _ _ (by intro e; exact hne (by rw [e]))⟩

theorem grown_trans {a b c : World} {r : Option Nat} (h : a.grownBy b r) (k : b.grownBy c r) : a.grownBy c r :=
  ⟨k.os.trans h.os, k.tape.trans h.tape, k.output.trans h.output, Nat.le_trans h.size k.size, fun i hi hne => (k.block i (Nat.lt_of_lt_of_le hi h.size) hne).trans (h.block i hi hne)⟩

theorem grown_draws (w : World) (n : Nat) (r : Option Nat) : w.grownBy (w.drewN n) r := ⟨rfl, rfl, rfl, Nat.le_refl _, fun _ _ _ => rfl⟩

theorem add_block (x : Addr) (i : Nat) : (x.add i).block = x.block := by simp only [Addr.add]; split <;> rfl

theorem lt_of_cell {w : World} {x : Addr} {v : Value} (h : w.cell? x = some v) : x.block < w.heap.size := by
  rcases Nat.lt_or_ge x.block w.heap.size with h1 | h1
  · exact h1
  · simp [World.cell?, h1] at h

theorem brow_lt {w : World} {a : Option Addr} {len cap : Nat} {zs : List Int} (h : BRow w a len cap zs) : ∀ x, a = some x → 0 < cap → x.block < w.heap.size := by
  intro x hx hc
  rcases h with ⟨h, _⟩ | ⟨y, hy, h1, h2, h3, h4, h5⟩
  · rw [h] at hx; cases hx
  · rw [hy] at hx
    obtain rfl := Option.some.inj hx
    have := lt_of_cell (h4 0 (by omega))
    rwa [add_block] at this

theorem brow_below {w w' : World} {a : Option Addr} {len cap : Nat} {zs : List Int} (h : BRow w a len cap zs) (hb : Below w.heap.size w w') : BRow w' a len cap zs := by
  have hl := brow_lt h
  rcases h with h | ⟨x, rfl, h1, h2, h3, h4, h5⟩
  · exact .inl h
  · exact .inr ⟨x, rfl, h1, h2, h3, fun i hi => by rw [hb.cell (by rw [add_block]; exact hl x rfl (by omega))]; exact h4 i hi, h5⟩

theorem brow_kept {w w' : World} {b : Nat} {a : Option Addr} {len cap : Nat} {zs : List Int} (h : BRow w a len cap zs) (ha : ∀ x, a = some x → 0 < cap → x.block ≠ b) (hw : w.grownBy w' (some b)) : BRow w' a len cap zs := by
  rcases h with h | ⟨x, rfl, h1, h2, h3, h4, h5⟩
  · exact .inl h
  · exact .inr ⟨x, rfl, h1, h2, h3, fun i hi => hw.cell (h4 i hi) (by intro e; rw [add_block] at e; exact ha x rfl (by omega) (Option.some.inj e)), h5⟩

section
variable {w : World} {b : Nat} {a : Option Addr} {len cap : Nat} {zs : List Int} {k : Nat} {seed : Int}

theorem src_one (h : SrcAt w b a len cap zs k seed) : SrcAt (w.setCell ⟨b, 1, none⟩ (.int .i64 ((k : Int) + 1))) b a len cap zs (k + 1) seed := by
  have hw := grown_set w b 1 (.int .i64 ((k : Int) + 1))
  obtain ⟨c0, c1, c2, f1, f2, row, ap, s0, s1⟩ := h
  refine ⟨?_, ?_, ?_, ?_, ?_, brow_kept row ap hw, ap, s0, s1⟩
  · rw [World.cell?_setCell_other _ _ _ _ (by simp)]; exact c0
  · rw [World.cell?_setCell_same _ _ _ c1]; simp
  · rw [World.cell?_setCell_other _ _ _ _ (by simp)]; exact c2
  · simpa using f1
  · simpa using f2

theorem src_two (h : SrcAt w b a len cap zs k seed) (seed' : Int) (s0' : 0 ≤ seed') (s1' : seed' < 2147483648) : SrcAt (w.setCell ⟨b, 2, none⟩ (.int .i64 seed')) b a len cap zs k seed' := by
  have hw := grown_set w b 2 (.int .i64 seed')
  obtain ⟨c0, c1, c2, f1, f2, row, ap, s0, s1⟩ := h
  refine ⟨?_, ?_, ?_, ?_, ?_, brow_kept row ap hw, ap, s0', s1'⟩
  · rw [World.cell?_setCell_other _ _ _ _ (by simp)]; exact c0
  · rw [World.cell?_setCell_other _ _ _ _ (by simp)]; exact c1
  · rw [World.cell?_setCell_same _ _ _ c2]
  · simpa using f1
  · simpa using f2

theorem src_draws (h : SrcAt w b a len cap zs k seed) (n : Nat) : SrcAt (w.drewN n) b a len cap zs k seed := by
  obtain ⟨c0, c1, c2, f1, f2, row, ap, s0, s1⟩ := h
  exact ⟨c0, c1, c2, f1, f2, brow_kept row ap (grown_draws w n _), ap, s0, s1⟩

end

set_option maxRecDepth 100000 in
set_option maxHeartbeats 1000000 in
theorem byte_late (b : Nat) (a : Option Addr) (len cap : Nat) (zs : List Int) (k : Nat) (seed : Int) (w : World) (h : SrcAt w b a len cap zs k seed) (hN : k < 1000000000) (hl : len < k + 1) (h3 : 3000 < k + 1) :
    Calls Tryz.prog 142 #[.pointer (some ⟨b, 0, none⟩)] w (Drawn w b a len cap zs (k + 1) fun v => 0 ≤ v ∧ v ≤ 255) := by
  have H := Lib.hid h
  obtain ⟨c0, c1, c2, f1, f2, row, apart, s0, s1⟩ := h
  clear row apart
  go_enter Tryz.func142, Tryz.ntmps142
  go_wp2
  go_quiet (fail)
  go_wp2
  go_ret
  exact ⟨0, k + 1, seed, by omega, rfl, Nat.le_refl _, src_draws (src_one H.out) _, grown_trans (grown_set _ _ _ _) (grown_draws _ _ _)⟩

set_option maxRecDepth 100000 in
set_option maxHeartbeats 1000000 in
theorem byte_mid (b : Nat) (a : Option Addr) (len cap : Nat) (zs : List Int) (k : Nat) (seed : Int) (w : World) (h : SrcAt w b a len cap zs k seed) (hN : k < 1000000000) (hl : len < k + 1) (h3 : k + 1 ≤ 3000) :
    Calls Tryz.prog 142 #[.pointer (some ⟨b, 0, none⟩)] w (Drawn w b a len cap zs (k + 1) fun v => 0 ≤ v ∧ v ≤ 255) := by
  have H := Lib.hid h
  obtain ⟨c0, c1, c2, f1, f2, row, apart, s0, s1⟩ := h
  clear row apart
  go_enter Tryz.func142, Tryz.ntmps142
  go_wp2
  go_quiet (fail)
  go_wp2
  go_ret
  exact ⟨_, k + 1, (seed * 1103515245 + 12345) % 2147483648, ⟨by omega, by omega⟩, rfl, Nat.le_refl _, src_two (src_draws (src_one H.out) _) _ (by omega) (by omega), grown_trans (grown_trans (grown_set _ _ _ _) (grown_draws _ _ _)) (grown_set _ _ _ _)⟩

set_option maxRecDepth 100000 in
set_option maxHeartbeats 1000000 in
theorem byte_code (b bc off : Nat) (len cap : Nat) (zs : List Int) (k : Nat) (seed : Int) (w : World) (h : SrcAt w b (some ⟨bc, off, none⟩) len cap zs k seed) (hl : k < len) :
    Calls Tryz.prog 142 #[.pointer (some ⟨b, 0, none⟩)] w (Drawn w b (some ⟨bc, off, none⟩) len cap zs (k + 1) fun v => 0 ≤ v ∧ v ≤ 255) := by
  have H := Lib.hid h
  obtain ⟨c0, c1, c2, f1, f2, row, apart, s0, s1⟩ := h
  rcases row with ⟨h, _⟩ | ⟨x, hx, h1, h2, hz, h4, h5⟩
  · cases h
  obtain rfl := Option.some.inj hx
  have hne : ¬ bc = b := apart _ rfl (by omega)
  have hc : w.cell? ⟨bc, off + k, none⟩ = some (.int .u8 (zs.getD k 0)) := by have := h4 k (by omega); rwa [Addr.add_lit] at this
  have hv : 0 ≤ zs.getD k 0 ∧ zs.getD k 0 ≤ 255 := by
    have := range_u8 h5 k
    rwa [← List.getD_eq_getElem?_getD] at this
  unfold maxLen at h2
  generalize zs.getD k 0 = v at *
  obtain ⟨v0, v1⟩ := hv
  clear h4 h5 apart hz hx
  go_enter Tryz.func142, Tryz.ntmps142
  go_wp2
  go_quiet (fail)
  go_wp2
  go_region
  go_wp2
  go_quiet (fail)
  go_wp2
  go_ret
  exact ⟨v, k + 1, (seed * 31 + v + 7) % 2147483648, ⟨v0, v1⟩, rfl, Nat.le_refl _, src_draws (src_two (src_draws (src_one H.out) _) _ (by omega) (by omega)) _, grown_trans (grown_trans (grown_trans (grown_set _ _ _ _) (grown_draws _ _ _)) (grown_set _ _ _ _)) (grown_draws _ _ _)⟩

/-- The source lies in block b; at most N bytes have been drawn of it. -/
def Src (w : World) (b : Nat) (a : Option Addr) (len cap : Nat) (zs : List Int) (N : Nat) : Prop := ∃ (k : Nat) (seed : Int), k ≤ N ∧ SrcAt w b a len cap zs k seed

/-- What a draw of a number leaves: a number of which P holds; of what was there, the source alone has turned. -/
def Drew (w : World) (b : Nat) (a : Option Addr) (len cap : Nat) (zs : List Int) (N : Nat) (P : Int → Prop) (e : Ending) (w' : World) : Prop :=
  ∃ v : Int, P v ∧ e = .returned (.int .i64 v) ∧ Src w' b a len cap zs N ∧ w.grownBy w' (some b)

theorem drew_of {w : World} {b : Nat} {a : Option Addr} {len cap : Nat} {zs : List Int} {k N : Nat} {P : Int → Prop} {e : Ending} {w' : World} (h : Drawn w b a len cap zs k P e w') (hk : k ≤ N) : Drew w b a len cap zs N P e w' := by
  obtain ⟨v, k', seed, hv, he, hk', hs, hg⟩ := h
  exact ⟨v, hv, he, ⟨k', seed, by omega, hs⟩, hg⟩

/-- So many draws are within bounds. -/
def Few (N : Nat) : Prop := N < 1000000000

theorem byte_any (b : Nat) (a : Option Addr) (len cap : Nat) (zs : List Int) (N : Nat) (w : World) (h : Src w b a len cap zs N) (hN : Few N) :
    Calls Tryz.prog 142 #[.pointer (some ⟨b, 0, none⟩)] w (Drew w b a len cap zs (N + 1) fun v => 0 ≤ v ∧ v ≤ 255) := by
  obtain ⟨k, seed, hk, h⟩ := h
  unfold Few at hN
  by_cases hl : k < len
  · rcases h.row with ⟨_, h0, _⟩ | ⟨x, rfl, h1, h2, hz, h4, h5⟩
    · omega
    · have hx : w.cell? (x.add 0) = some (.int .u8 (zs.getD 0 0)) := h4 0 (by omega)
      obtain ⟨bc, off, spot⟩ := x
      have hspot : spot = none := by simpa [Addr.add] using World.cell?_spot hx
      subst hspot
      exact (byte_code b bc off len cap zs k seed w h hl).mono fun e w' q => drew_of q (by omega)
  · by_cases h3 : k + 1 ≤ 3000
    · exact (byte_mid b a len cap zs k seed w h (by omega) (by omega) h3).mono fun e w' q => drew_of q (by omega)
    · exact (byte_late b a len cap zs k seed w h (by omega) (by omega) (by omega)).mono fun e w' q => drew_of q (by omega)

theorem src_mono {w : World} {b : Nat} {a : Option Addr} {len cap : Nat} {zs : List Int} {N M : Nat} (h : Src w b a len cap zs N) (hm : N ≤ M) : Src w b a len cap zs M := by
  obtain ⟨k, seed, hk, h⟩ := h
  exact ⟨k, seed, by omega, h⟩

set_option maxRecDepth 100000 in
set_option maxHeartbeats 400000 in
theorem next_small (b : Nat) (a : Option Addr) (len cap : Nat) (zs : List Int) (N : Nat) (n : Int) (w : World) (h : Src w b a len cap zs N) (hN : Few N) (h1 : 1 < n) (h2 : n ≤ 256) :
    Calls Tryz.prog 101 #[.pointer (some ⟨b, 0, none⟩), .int .i64 n] w (Drew w b a len cap zs (N + 1) fun v => 0 ≤ v ∧ v < n) := by
  have H := Lib.hid h
  have HN := Lib.hid hN
  clear h hN
  go_enter Tryz.func101, Tryz.ntmps101
  go_wp2_with fail
  refine (byte_any _ _ _ _ _ _ _ H.out HN.out).mono ?_
  rintro e w1 ⟨v, hv, rfl, hs, hg⟩
  obtain ⟨v0, v1⟩ := hv
  have S := Lib.hid hs
  have G := Lib.hid hg
  clear hs hg
  go_wp2
  go_ret
  exact ⟨v % n, ⟨Int.emod_nonneg _ (by omega), Int.emod_lt_of_pos _ (by omega)⟩, rfl, S.out, G.out⟩

set_option maxRecDepth 100000 in
set_option maxHeartbeats 400000 in
theorem next_one (b : Nat) (a : Option Addr) (len cap : Nat) (zs : List Int) (N : Nat) (n : Int) (w : World) (h : Src w b a len cap zs N) (h1 : n ≤ 1) :
    Calls Tryz.prog 101 #[.pointer (some ⟨b, 0, none⟩), .int .i64 n] w (Drew w b a len cap zs N fun v => v = 0) := by
  have H := Lib.hid h
  clear h
  go_enter Tryz.func101, Tryz.ntmps101
  go_wp2
  go_ret
  exact ⟨0, rfl, rfl, H.out, World.grownBy.refl _ _⟩

set_option maxRecDepth 100000 in
set_option maxHeartbeats 1000000 in
theorem next_large (b : Nat) (a : Option Addr) (len cap : Nat) (zs : List Int) (N : Nat) (n : Int) (w : World) (h : Src w b a len cap zs N) (hN : Few (N + 2)) (h1 : 256 < n) (h2 : n ≤ 9223372036854775807) :
    Calls Tryz.prog 101 #[.pointer (some ⟨b, 0, none⟩), .int .i64 n] w (Drew w b a len cap zs (N + 3) fun v => 0 ≤ v ∧ v < n) := by
  have H := Lib.hid h
  have HN := Lib.hid hN
  clear h hN
  go_enter Tryz.func101, Tryz.ntmps101
  go_wp2_with fail
  refine (byte_any _ _ _ _ _ _ _ H.out (by have := HN.out; unfold Few at *; omega)).mono ?_
  rintro e w1 ⟨v, hv, rfl, hs, hg⟩
  obtain ⟨v0, v1⟩ := hv
  have S := Lib.hid hs
  have G := Lib.hid hg
  clear hs hg
  go_wp2_with fail
  refine (byte_any _ _ _ _ _ _ _ S.out (by have := HN.out; unfold Few at *; omega)).mono ?_
  rintro e w2 ⟨u, hu, rfl, hs, hg⟩
  obtain ⟨u0, u1⟩ := hu
  have S2 := Lib.hid hs
  have G2 := Lib.hid (grown_trans G.out hg)
  clear hs hg
  go_wp2_with fail
  refine (byte_any _ _ _ _ _ _ _ S2.out HN.out).mono ?_
  rintro e w3 ⟨t, ht, rfl, hs, hg⟩
  obtain ⟨t0, t1⟩ := ht
  have S3 := Lib.hid hs
  have G3 := Lib.hid (grown_trans G2.out hg)
  clear hs hg
  go_wp2
  go_ret
  exact ⟨_, ⟨Int.emod_nonneg _ (by omega), Int.emod_lt_of_pos _ (by omega)⟩, rfl, S3.out, G3.out⟩

end Go.Proofs.YthnbaeamekolmaaGreatDoor

namespace Go.Proofs.YthnbaeamekolmaaGreatDoor
open Go.RowKit
set_option linter.unusedVariables false
set_option linter.unusedSimpArgs false

/-- Blocks that were there turn in this set alone. -/
structure Only (S : Nat → Prop) (w w' : World) : Prop where
  os : w'.os = w.os
  tape : w'.tape = w.tape
  output : w'.output = w.output
  size : w.heap.size ≤ w'.heap.size
  block : ∀ k, k < w.heap.size → ¬ S k → w'.heap[k]? = w.heap[k]?

theorem below_only {S : Nat → Prop} {w w' : World} (h : Below w.heap.size w w') : Only S w w' := ⟨h.os, h.tape, h.output, h.size, fun k hk _ => h.block k hk⟩

theorem only_trans {S : Nat → Prop} {a b c : World} (h : Only S a b) (k : Only S b c) : Only S a c :=
  ⟨k.os.trans h.os, k.tape.trans h.tape, k.output.trans h.output, Nat.le_trans h.size k.size, fun i hi' ho => (k.block i (Nat.lt_of_lt_of_le hi' h.size) ho).trans (h.block i hi' ho)⟩

theorem only_grown {S : Nat → Prop} {w w' : World} {r : Option Nat} (h : w.grownBy w' r) (hr : ∀ g, r = some g → S g) : Only S w w' :=
  ⟨h.os, h.tape, h.output, h.size, fun k hk ho => h.block k hk (fun e => ho (hr k e.symm))⟩

theorem only_mono {S T : Nat → Prop} {w w' : World} (h : Only S w w') (hs : ∀ k, S k → T k) : Only T w w' := ⟨h.os, h.tape, h.output, h.size, fun k hk ho => h.block k hk (fun q => ho (hs k q))⟩

theorem only_below {S : Nat → Prop} {w w' : World} {lo : Nat} (h : Only S w w') (hl : lo ≤ w.heap.size) (hs : ∀ k, S k → lo ≤ k) : Below lo w w' :=
  ⟨h.os, h.tape, h.output, h.size, fun k hk => h.block k (by omega) (fun q => by have := hs k q; omega)⟩

end Go.Proofs.YthnbaeamekolmaaGreatDoor

namespace Go.Proofs.YthnbaeamekolmaaGreatDoor
open Go.RowKit
set_option linter.unusedVariables false
set_option linter.unusedSimpArgs false

/-- A host: what is granted, the store, the answers, the clock, the deeds. -/
structure Ht where
  g : List Bool
  s : List Int
  n : List Int
  c : Int
  d : List Dd

/-- The value reads as this host. -/
def HostIn (w : World) (v : Value) (h : Ht) : Prop :=
  ∃ x y z q, v = .agg #[x, y, z, .int .i64 h.c, q] ∧ Bols w x h.g ∧ Ints w y h.s ∧ Ints w z h.n ∧ Dds w q h.d

/-- The value is this host, its rows in blocks of their own from lo on and below hi. -/
def HostOf (w : World) (lo hi : Nat) (v : Value) (h : Ht) : Prop :=
  ∃ x y z q, v = .agg #[x, y, z, .int .i64 h.c, q] ∧ BoRow w lo x h.g ∧ Row w lo y h.s ∧ Row w lo z h.n ∧ DRow w lo q h.d ∧ Parted x y ∧ Parted x z ∧ Parted x q ∧ Parted y z ∧ Parted y q ∧ Parted z q ∧
    ∀ g, x.ownBlock = some g ∨ y.ownBlock = some g ∨ z.ownBlock = some g ∨ q.ownBlock = some g → g < hi

theorem parted_lt {x y : Value} {n : Nat} (h : ∀ g, x.ownBlock = some g → g < n) (k : ∀ g, y.ownBlock = some g → n ≤ g) : Parted x y := fun g hg hy => by
  have h1 := h g hg
  have h2 := k g hy
  omega

theorem borow_store {w : World} {lo g i : Nat} {v u : Value} {zs : List Bool} (h : BoRow w lo v zs) (hg : g < lo) : BoRow (w.setCell ⟨g, i, none⟩ u) lo v zs :=
  borow_keep h fun k hk => Below.heap_setCell w _ u k (by have := borow_lt h k hk; show k ≠ g; omega)

theorem drow_store {w : World} {lo g i : Nat} {v u : Value} {zs : List Dd} (h : DRow w lo v zs) (hg : g < lo) : DRow (w.setCell ⟨g, i, none⟩ u) lo v zs :=
  drow_keep h fun k hk => Below.heap_setCell w _ u k (by have := drow_lt h k hk; show k ≠ g; omega)

theorem hostIn_keep {w w' : World} {v : Value} {h : Ht} (hv : HostIn w v h) (hk : ∀ (x : Addr) (u : Value), w.cell? x = some u → w'.cell? x = some u) : HostIn w' v h := by
  obtain ⟨x, y, z, q, e, h1, h2, h3, h4⟩ := hv
  exact ⟨x, y, z, q, e, bols_keep h1 hk, ints_keep h2 hk, ints_keep h3 hk, dds_keep h4 hk⟩

theorem hostIn_below {w w' : World} {v : Value} {h : Ht} (hv : HostIn w v h) (hb : Below w.heap.size w w') : HostIn w' v h := hostIn_keep hv (cell_kept hb)

theorem hostOf_in {w : World} {lo hi : Nat} {v : Value} {h : Ht} (hv : HostOf w lo hi v h) : HostIn w v h := by
  obtain ⟨x, y, z, q, e, h1, h2, h3, h4, _⟩ := hv
  exact ⟨x, y, z, q, e, borow_bols h1, row_ints h2, row_ints h3, drow_dds h4⟩

theorem hostOf_keep {w w' : World} {lo hi : Nat} {v : Value} {h : Ht} (hv : HostOf w lo hi v h) (hk : ∀ g, g < w.heap.size → lo ≤ g → g < hi → w'.heap[g]? = w.heap[g]?) : HostOf w' lo hi v h := by
  obtain ⟨x, y, z, q, e, h1, h2, h3, h4, p1, p2, p3, p4, p5, p6, hh⟩ := hv
  exact ⟨x, y, z, q, e, borow_keep h1 fun g hg => hk g (borow_lt h1 g hg).2 (borow_lt h1 g hg).1 (hh g (.inl hg)), row_keep h2 fun g hg => hk g (row_lt h2 g hg).2 (row_lt h2 g hg).1 (hh g (.inr (.inl hg))),
    row_keep h3 fun g hg => hk g (row_lt h3 g hg).2 (row_lt h3 g hg).1 (hh g (.inr (.inr (.inl hg)))), drow_keep h4 fun g hg => hk g (drow_lt h4 g hg).2 (drow_lt h4 g hg).1 (hh g (.inr (.inr (.inr hg)))), p1, p2, p3, p4, p5, p6, hh⟩

theorem hostOf_below {w w' : World} {lo hi : Nat} {v : Value} {h : Ht} (hv : HostOf w lo hi v h) (hb : Below w.heap.size w w') : HostOf w' lo hi v h := hostOf_keep hv fun g hg _ _ => hb.block g hg

theorem hostOf_b {w w' : World} {lo hi : Nat} {v : Value} {h : Ht} (hb : Below w.heap.size w w') (hv : HostOf w lo hi v h) : HostOf w' lo hi v h := hostOf_below hv hb

theorem hostOf_within {w w' : World} {lo hi lo' hi' : Nat} {v : Value} {h : Ht} (hv : HostOf w lo hi v h) (hb : Within lo' hi' w w') (ha : hi ≤ lo' ∨ hi' ≤ lo) : HostOf w' lo hi v h :=
  hostOf_keep hv fun g hg h1 h2 => hb.block g hg (by omega)

theorem hostOf_base {w : World} {lo lo' hi : Nat} {v : Value} {h : Ht} (hv : HostOf w lo hi v h) (hl : lo' ≤ lo) : HostOf w lo' hi v h := by
  obtain ⟨x, y, z, q, e, h1, h2, h3, h4, p⟩ := hv
  exact ⟨x, y, z, q, e, borow_base h1 hl, row_base h2 hl, row_base h3 hl, drow_base h4 hl, p⟩

theorem hostOf_top {w : World} {lo hi hi' : Nat} {v : Value} {h : Ht} (hv : HostOf w lo hi v h) (hl : hi ≤ hi') : HostOf w lo hi' v h := by
  obtain ⟨x, y, z, q, e, h1, h2, h3, h4, p1, p2, p3, p4, p5, p6, hh⟩ := hv
  exact ⟨x, y, z, q, e, h1, h2, h3, h4, p1, p2, p3, p4, p5, p6, fun g hg => Nat.lt_of_lt_of_le (hh g hg) hl⟩

theorem hostOf_rows {w : World} {lo : Nat} {x y z q : Value} {h : Ht} (h1 : BoRow w lo x h.g) (h2 : Row w lo y h.s) (h3 : Row w lo z h.n) (h4 : DRow w lo q h.d) (p1 : Parted x y) (p2 : Parted x z) (p3 : Parted x q) (p4 : Parted y z) (p5 : Parted y q) (p6 : Parted z q) :
    HostOf w lo w.heap.size (.agg #[x, y, z, .int .i64 h.c, q]) h :=
  ⟨x, y, z, q, rfl, h1, h2, h3, h4, p1, p2, p3, p4, p5, p6, fun g hg => by
    rcases hg with hg | hg | hg | hg
    · exact (borow_lt h1 g hg).2
    · exact (row_lt h2 g hg).2
    · exact (row_lt h3 g hg).2
    · exact (drow_lt h4 g hg).2⟩

theorem hostIn_form {w : World} {v : Value} {h : Ht} (hv : HostIn w v h) : ∃ A1 k1 A2 k2 A3 k3 A4 k4, v = .agg #[.slice A1 h.g.length k1, .slice A2 h.s.length k2, .slice A3 h.n.length k3, .int .i64 h.c, .slice A4 h.d.length k4] := by
  obtain ⟨x, y, z, q, rfl, ⟨_, A1, k1, rfl, _⟩, ⟨_, A2, k2, rfl, _⟩, ⟨_, A3, k3, rfl, _⟩, ⟨_, A4, k4, rfl, _⟩⟩ := hv
  exact ⟨_, _, _, _, _, _, _, _, rfl⟩

/-- No host. -/
def noHt : Ht := ⟨[], [], [], 0, []⟩

theorem hostOf_none (w : World) (lo hi : Nat) : HostOf w lo hi (.agg #[.slice none 0 0, .slice none 0 0, .slice none 0 0, .int .i64 0, .slice none 0 0]) noHt :=
  ⟨_, _, _, _, rfl, borow_nil w lo, row_nil w lo, row_nil w lo, drow_nil w lo, parted_nil _, parted_nil _, parted_nil _, parted_nil _, parted_nil _, parted_nil _, fun g hg => by simp [Value.ownBlock] at hg⟩

/-- The host is small. -/
def SmallH (h : Ht) : Prop := h.g.length ≤ 1048576 ∧ h.s.length ≤ 1048576 ∧ h.n.length ≤ 1048576 ∧ h.d.length ≤ 1048576

theorem small_noHt : SmallH noHt := by unfold SmallH noHt; decide

theorem five_cells {w : World} {g : Nat} {t : TypeId} {a b c d e : Value} (h : Whole w g t #[a, b, c, d, e]) :
    w.cell? ⟨g, 0, none⟩ = some a ∧ w.cell? ⟨g, 1, none⟩ = some b ∧ w.cell? ⟨g, 2, none⟩ = some c ∧ w.cell? ⟨g, 3, none⟩ = some d ∧ w.cell? ⟨g, 4, none⟩ = some e :=
  ⟨whole_cell h 0, whole_cell h 1, whole_cell h 2, whole_cell h 3, whole_cell h 4⟩

/-- What is left of a size: below 0, or the host is small. -/
def SzHOf (w : World) (h : Ht) (e : Ending) (w' : World) : Prop := ∃ r : Int, e = .returned (.int .i64 r) ∧ (r = -1 ∨ (0 ≤ r ∧ r ≤ 1048576 ∧ SmallH h)) ∧ Below w.heap.size w w'

set_option maxRecDepth 100000 in
set_option maxHeartbeats 1000000 in
theorem szHost_any (v : Value) (h : Ht) (left : Int) (w : World) (hv : HostIn w v h) (h0 : 0 ≤ left) (h1 : left ≤ 1048576) :
    Calls Tryz.prog 75 #[v, .int .i64 left] w (SzHOf w h) := by
  obtain ⟨x, y, z, q, rfl, ⟨l1, A, ca, rfl, _⟩, ⟨l2, B, cb, rfl, _⟩, ⟨l3, C, cc, rfl, _⟩, ⟨l4, D, cd, rfl, _⟩⟩ := hv
  have L1 := Lib.hid l1
  have L2 := Lib.hid l2
  have L3 := Lib.hid l3
  have L4 := Lib.hid l4
  unfold maxLen at l1 l2 l3 l4
  have SM : Hid (SmallH h ↔ h.g.length ≤ 1048576 ∧ h.s.length ≤ 1048576 ∧ h.n.length ≤ 1048576 ∧ h.d.length ≤ 1048576) := Lib.hid Iff.rfl
  by_cases t1 : left - h.g.length < 0
  · have e1 : leftOf left h.g.length = -1 := by unfold leftOf; rw [if_pos t1]
    go_enter Tryz.func75, Tryz.ntmps75
    go_wp2_with (first | (go_at_call 72; refine (szInts_any _ _ _ _ _ (by first | exact L2.out | exact L3.out) (by omega) (by omega)).mono ?_; rintro e w' ⟨rfl, rfl⟩) | (go_at_call 144; refine (szBools_any _ _ _ _ _ L1.out (by omega) (by omega)).mono ?_; rintro e w' ⟨rfl, rfl⟩) | (go_at_call 145; refine (szDeeds_any _ _ _ _ _ L4.out (by omega) (by omega)).mono ?_; rintro e w' ⟨rfl, rfl⟩))
    go_ret
    exact ⟨_, rfl, .inl rfl, below_alloc (Below.refl _ _) _⟩
  · have e1 : leftOf left h.g.length = left - h.g.length := by unfold leftOf; rw [if_neg t1]
    have q1 : 0 ≤ left - h.g.length := by omega
    by_cases t2 : left - h.g.length - h.s.length < 0
    · have e2 : leftOf (left - h.g.length) h.s.length = -1 := by unfold leftOf; rw [if_pos t2]
      go_enter Tryz.func75, Tryz.ntmps75
      go_wp2_with (first | (go_at_call 72; refine (szInts_any _ _ _ _ _ (by first | exact L2.out | exact L3.out) (by omega) (by omega)).mono ?_; rintro e w' ⟨rfl, rfl⟩) | (go_at_call 144; refine (szBools_any _ _ _ _ _ L1.out (by omega) (by omega)).mono ?_; rintro e w' ⟨rfl, rfl⟩) | (go_at_call 145; refine (szDeeds_any _ _ _ _ _ L4.out (by omega) (by omega)).mono ?_; rintro e w' ⟨rfl, rfl⟩))
      go_ret
      exact ⟨_, rfl, .inl rfl, below_alloc (Below.refl _ _) _⟩
    · have e2 : leftOf (left - h.g.length) h.s.length = left - h.g.length - h.s.length := by unfold leftOf; rw [if_neg t2]
      have q2 : 0 ≤ left - h.g.length - h.s.length := by omega
      by_cases t3 : left - h.g.length - h.s.length - h.n.length < 0
      · have e3 : leftOf (left - h.g.length - h.s.length) h.n.length = -1 := by unfold leftOf; rw [if_pos t3]
        go_enter Tryz.func75, Tryz.ntmps75
        go_wp2_with (first | (go_at_call 72; refine (szInts_any _ _ _ _ _ (by first | exact L2.out | exact L3.out) (by omega) (by omega)).mono ?_; rintro e w' ⟨rfl, rfl⟩) | (go_at_call 144; refine (szBools_any _ _ _ _ _ L1.out (by omega) (by omega)).mono ?_; rintro e w' ⟨rfl, rfl⟩) | (go_at_call 145; refine (szDeeds_any _ _ _ _ _ L4.out (by omega) (by omega)).mono ?_; rintro e w' ⟨rfl, rfl⟩))
        go_ret
        exact ⟨_, rfl, .inl rfl, below_alloc (Below.refl _ _) _⟩
      · have e3 : leftOf (left - h.g.length - h.s.length) h.n.length = left - h.g.length - h.s.length - h.n.length := by unfold leftOf; rw [if_neg t3]
        have q3 : 0 ≤ left - h.g.length - h.s.length - h.n.length := by omega
        by_cases t4 : left - h.g.length - h.s.length - h.n.length - h.d.length < 0
        · have e4 : leftOf (left - h.g.length - h.s.length - h.n.length) h.d.length = -1 := by unfold leftOf; rw [if_pos t4]
          go_enter Tryz.func75, Tryz.ntmps75
          go_wp2_with (first | (go_at_call 72; refine (szInts_any _ _ _ _ _ (by first | exact L2.out | exact L3.out) (by omega) (by omega)).mono ?_; rintro e w' ⟨rfl, rfl⟩) | (go_at_call 144; refine (szBools_any _ _ _ _ _ L1.out (by omega) (by omega)).mono ?_; rintro e w' ⟨rfl, rfl⟩) | (go_at_call 145; refine (szDeeds_any _ _ _ _ _ L4.out (by omega) (by omega)).mono ?_; rintro e w' ⟨rfl, rfl⟩))
          go_ret
          exact ⟨_, rfl, .inl rfl, below_alloc (Below.refl _ _) _⟩
        · have e4 : leftOf (left - h.g.length - h.s.length - h.n.length) h.d.length = left - h.g.length - h.s.length - h.n.length - h.d.length := by unfold leftOf; rw [if_neg t4]
          have q4 : 0 ≤ left - h.g.length - h.s.length - h.n.length - h.d.length := by omega
          go_enter Tryz.func75, Tryz.ntmps75
          go_wp2_with (first | (go_at_call 72; refine (szInts_any _ _ _ _ _ (by first | exact L2.out | exact L3.out) (by omega) (by omega)).mono ?_; rintro e w' ⟨rfl, rfl⟩) | (go_at_call 144; refine (szBools_any _ _ _ _ _ L1.out (by omega) (by omega)).mono ?_; rintro e w' ⟨rfl, rfl⟩) | (go_at_call 145; refine (szDeeds_any _ _ _ _ _ L4.out (by omega) (by omega)).mono ?_; rintro e w' ⟨rfl, rfl⟩))
          go_ret
          exact ⟨_, rfl, .inr ⟨by omega, by omega, SM.out.2 ⟨by omega, by omega, by omega, by omega⟩⟩, below_alloc (Below.refl _ _) _⟩

set_option maxRecDepth 100000 in
set_option maxHeartbeats 4000000 in
theorem toHost_any (v : Value) (h : Ht) (w : World) (hv : HostIn w v h) (hs : SmallH h) :
    Calls Tryz.prog 82 #[v] w fun e w' => ∃ u, e = .returned u ∧ HostOf w' w.heap.size w'.heap.size u h ∧ Below w.heap.size w w' := by
  obtain ⟨x, y, z, q, rfl, hx, hy, hz, hq⟩ := hv
  have H1 := Lib.hid hx
  have H2 := Lib.hid hy
  have H3 := Lib.hid hz
  have H4 := Lib.hid hq
  have Hs := Lib.hid hs
  clear hx hy hz hq hs
  go_enter Tryz.func82, Tryz.ntmps82
  go_wp2_with fail
  refine (toBools_any _ h.g _ (bols_below H1.out (below_alloc (below_alloc (below_alloc (Below.refl _ _) _) _) _)) (by have := Hs.out.1; omega)).mono ?_
  rintro e w1 ⟨v1, rfl, hr1, -, hb1⟩
  have z1 : w.heap.size + 1 + 1 + 1 ≤ w1.heap.size := by have := hb1.size; simp at this; omega
  have B1 : Hid (Below w.heap.size w w1) := Lib.hid (below_step (below_alloc (below_alloc (below_alloc (Below.refl _ _) _) _) _) hb1)
  have WA1 := Lib.hid (whole_below (whole_alloc (whole_alloc (whole_new w _ _) _) _) hb1)
  have WR1 := Lib.hid (whole_below (whole_alloc (whole_new1 w _ _ _) _) hb1)
  have WO1 := Lib.hid (whole_below (whole_new2 w _ _ _ _) hb1)
  obtain ⟨_, A1, k1, rfl, _⟩ := borow_bols hr1
  have R1_1 : Hid (BoRow w1 (w.heap.size + 1 + 1 + 1) _ h.g) := Lib.hid (by simpa using hr1)
  have ca := whole_cell WA1.out 1
  have co := whole_cell WO1.out 0
  have fo := whole_free WO1.out
  clear hr1 hb1
  simp at ca co
  go_wp2_with fail
  clear ca co fo
  have B1' := Lib.hid (B1.out.setCell (p := ⟨w.heap.size + 1 + 1, 0, none⟩) (by simp; omega) (.slice A1 h.g.length k1))
  refine (toInts_any _ h.s _ (ints_below H2.out B1'.out) (by have := Hs.out.2.1; omega)).mono ?_
  rintro e w2 ⟨v2, rfl, hr2, -, hb2⟩
  have R1_2 := Lib.hid (borow_below (borow_store (u := .slice A1 h.g.length k1) (i := 0) R1_1.out (Nat.lt_succ_self (w.heap.size + 1 + 1))) hb2)
  have z2 : w.heap.size + 1 + 1 + 1 ≤ w2.heap.size := by have := hb2.size; simp at this; omega
  have B2 : Hid (Below w.heap.size w w2) := Lib.hid (B1'.out.trans (hb2.mono B1'.out.size))
  have WA2 := Lib.hid (whole_below (whole_far WA1.out (p := ⟨w.heap.size + 1 + 1, 0, none⟩) (by simp; omega) (.slice A1 h.g.length k1)) hb2)
  have WR2 := Lib.hid (whole_below (whole_far WR1.out (p := ⟨w.heap.size + 1 + 1, 0, none⟩) (by simp) (.slice A1 h.g.length k1)) hb2)
  have WO2 := Lib.hid (whole_below (whole_set WO1.out 0 (.slice A1 h.g.length k1)) hb2)
  obtain ⟨_, A2, k2, rfl, _⟩ := row_ints hr2
  have P12 := Lib.hid (parted_lt (fun g hg => (borow_lt R1_1.out g hg).2) (fun g hg => by have h1 := (row_lt hr2 g hg).1; simpa using h1))
  have R2_2 : Hid (Row w2 (w.heap.size + 1 + 1 + 1) _ h.s) := Lib.hid (row_base hr2 (by simp; omega))
  have ca := whole_cell WA2.out 2
  have co := whole_cell WO2.out 1
  have fo := whole_free WO2.out
  clear hr2 hb2
  simp at ca co
  go_wp2_with fail
  clear ca co fo
  have B2' := Lib.hid (B2.out.setCell (p := ⟨w.heap.size + 1 + 1, 1, none⟩) (by simp; omega) (.slice A2 h.s.length k2))
  refine (toInts_any _ h.n _ (ints_below H3.out B2'.out) (by have := Hs.out.2.2.1; omega)).mono ?_
  rintro e w3 ⟨v3, rfl, hr3, -, hb3⟩
  have R1_3 := Lib.hid (borow_below (borow_store (u := .slice A2 h.s.length k2) (i := 1) R1_2.out (Nat.lt_succ_self (w.heap.size + 1 + 1))) hb3)
  have R2_3 := Lib.hid (row_below (row_store (u := .slice A2 h.s.length k2) (i := 1) R2_2.out (Nat.lt_succ_self (w.heap.size + 1 + 1))) hb3)
  have z3 : w.heap.size + 1 + 1 + 1 ≤ w3.heap.size := by have := hb3.size; simp at this; omega
  have B3 : Hid (Below w.heap.size w w3) := Lib.hid (B2'.out.trans (hb3.mono B2'.out.size))
  have WA3 := Lib.hid (whole_below (whole_far WA2.out (p := ⟨w.heap.size + 1 + 1, 1, none⟩) (by simp; omega) (.slice A2 h.s.length k2)) hb3)
  have WR3 := Lib.hid (whole_below (whole_far WR2.out (p := ⟨w.heap.size + 1 + 1, 1, none⟩) (by simp) (.slice A2 h.s.length k2)) hb3)
  have WO3 := Lib.hid (whole_below (whole_set WO2.out 1 (.slice A2 h.s.length k2)) hb3)
  obtain ⟨_, A3, k3, rfl, _⟩ := row_ints hr3
  have P13 := Lib.hid (parted_lt (fun g hg => (borow_lt R1_2.out g hg).2) (fun g hg => by have h1 := (row_lt hr3 g hg).1; simpa using h1))
  have P23 := Lib.hid (parted_lt (fun g hg => (row_lt R2_2.out g hg).2) (fun g hg => by have h1 := (row_lt hr3 g hg).1; simpa using h1))
  have R3_3 : Hid (Row w3 (w.heap.size + 1 + 1 + 1) _ h.n) := Lib.hid (row_base hr3 (by simp; omega))
  have ca := whole_cell WA3.out 4
  have cc := whole_cell WA3.out 3
  have co3 := whole_cell WO3.out 3
  have co := whole_cell WO3.out 2
  have fo := whole_free WO3.out
  clear hr3 hb3
  simp at ca co cc co3
  go_wp2_with fail
  clear ca co cc co3 fo
  have B3' := Lib.hid ((B3.out.setCell (p := ⟨w.heap.size + 1 + 1, 2, none⟩) (by simp; omega) (.slice A3 h.n.length k3)).setCell (p := ⟨w.heap.size + 1 + 1, 3, none⟩) (by simp; omega) (.int .i64 h.c))
  refine (toDeedS_any _ h.d _ (dds_below H4.out B3'.out) Hs.out.2.2.2).mono ?_
  rintro e w4 ⟨v4, rfl, hr4, -, hb4⟩
  have R1_4 := Lib.hid (borow_below (borow_store (u := .int .i64 h.c) (i := 3) (borow_store (u := .slice A3 h.n.length k3) (i := 2) R1_3.out (Nat.lt_succ_self (w.heap.size + 1 + 1))) (Nat.lt_succ_self (w.heap.size + 1 + 1))) hb4)
  have R2_4 := Lib.hid (row_below (row_store (u := .int .i64 h.c) (i := 3) (row_store (u := .slice A3 h.n.length k3) (i := 2) R2_3.out (Nat.lt_succ_self (w.heap.size + 1 + 1))) (Nat.lt_succ_self (w.heap.size + 1 + 1))) hb4)
  have R3_4 := Lib.hid (row_below (row_store (u := .int .i64 h.c) (i := 3) (row_store (u := .slice A3 h.n.length k3) (i := 2) R3_3.out (Nat.lt_succ_self (w.heap.size + 1 + 1))) (Nat.lt_succ_self (w.heap.size + 1 + 1))) hb4)
  have z4 : w.heap.size + 1 + 1 + 1 ≤ w4.heap.size := by have := hb4.size; simp at this; omega
  have B4 : Hid (Below w.heap.size w w4) := Lib.hid (B3'.out.trans (hb4.mono B3'.out.size))
  have WA4 := Lib.hid (whole_below (whole_far (whole_far WA3.out (p := ⟨w.heap.size + 1 + 1, 2, none⟩) (by simp; omega) (.slice A3 h.n.length k3)) (p := ⟨w.heap.size + 1 + 1, 3, none⟩) (by simp; omega) (.int .i64 h.c)) hb4)
  have WR4 := Lib.hid (whole_below (whole_far (whole_far WR3.out (p := ⟨w.heap.size + 1 + 1, 2, none⟩) (by simp) (.slice A3 h.n.length k3)) (p := ⟨w.heap.size + 1 + 1, 3, none⟩) (by simp) (.int .i64 h.c)) hb4)
  have WO4 := Lib.hid (whole_below (whole_set (whole_set WO3.out 2 (.slice A3 h.n.length k3)) 3 (.int .i64 h.c)) hb4)
  obtain ⟨_, A4, k4, rfl, _⟩ := drow_dds hr4
  have P14 := Lib.hid (parted_lt (fun g hg => (borow_lt R1_3.out g hg).2) (fun g hg => by have h1 := (drow_lt hr4 g hg).1; simpa using h1))
  have P24 := Lib.hid (parted_lt (fun g hg => (row_lt R2_3.out g hg).2) (fun g hg => by have h1 := (drow_lt hr4 g hg).1; simpa using h1))
  have P34 := Lib.hid (parted_lt (fun g hg => (row_lt R3_3.out g hg).2) (fun g hg => by have h1 := (drow_lt hr4 g hg).1; simpa using h1))
  have R4_4 : Hid (DRow w4 (w.heap.size + 1 + 1 + 1) _ h.d) := Lib.hid (drow_base hr4 (by simp; omega))
  have o0 := whole_cell WO4.out 0
  have o1 := whole_cell WO4.out 1
  have o2 := whole_cell WO4.out 2
  have o3 := whole_cell WO4.out 3
  have o4 := whole_cell WO4.out 4
  have r0 := whole_cell WR4.out 0
  have r1 := whole_cell WR4.out 1
  have r2 := whole_cell WR4.out 2
  have r3 := whole_cell WR4.out 3
  have r4 := whole_cell WR4.out 4
  have fo := whole_free WO4.out
  have fr := whole_free WR4.out
  clear WA1 WR1 WO1 B1 B1' WA2 WR2 WO2 B2 B2' WA3 WR3 WO3 B3 B3' hr4 hb4
  simp at o0 o1 o2 o3 o4 r0 r1 r2 r3 r4
  go_wp2
  refine bodyPost_ret (v := .agg #[.slice A1 h.g.length k1, .slice A2 h.s.length k2, .slice A3 h.n.length k3, .int .i64 h.c, .slice A4 h.d.length k4]) (by simp [results, Tryz.results82, go_sem, *]) rfl ⟨_, rfl, hostOf_top (hostOf_base (hostOf_rows (lo := w.heap.size + 1 + 1 + 1)
    (by repeat (first | with_reducible exact R1_4.out | with_reducible refine borow_store ?_ (by simp)))
    (by repeat (first | with_reducible exact R2_4.out | with_reducible refine row_store ?_ (by simp)))
    (by repeat (first | with_reducible exact R3_4.out | with_reducible refine row_store ?_ (by simp)))
    (by repeat (first | with_reducible exact R4_4.out | with_reducible refine drow_store ?_ (by simp)))
    P12.out P13.out P14.out P23.out P24.out P34.out) (by omega)) (Nat.le_refl _), ?_⟩
  repeat (first | with_reducible exact B4.out | with_reducible refine Below.setCell ?_ (by simp; try omega) _)

end Go.Proofs.YthnbaeamekolmaaGreatDoor

namespace Go.Proofs.YthnbaeamekolmaaGreatDoor
open Go.RowKit
set_option linter.unusedVariables false
set_option linter.unusedSimpArgs false

theorem boolOfB_true {w : World} {zs : List Bool} {e : Ending} {w' : World} (h : BoolOf w (zs == zs) e w') : ∃ n : Nat, e = .returned (.bool true) ∧ w' = w.drewN n := by
  obtain ⟨n, he, hw⟩ := h
  exact ⟨n, by rw [he]; simp, hw⟩

set_option maxRecDepth 100000 in
set_option maxHeartbeats 2000000 in
theorem eqHost_same (u v : Value) (h : Ht) (w : World) (hu : HostIn w u h) (hv : HostIn w v h) :
    Calls Tryz.prog 92 #[u, v] w fun e w' => e = .returned (.bool true) ∧ Below w.heap.size w w' := by
  obtain ⟨x, y, z, q, rfl, hx, hy, hz, hq⟩ := hu
  obtain ⟨x', y', z', q', rfl, hx', hy', hz', hq'⟩ := hv
  have Hx := Lib.hid hx
  have Hy := Lib.hid hy
  have Hz := Lib.hid hz
  have Hq := Lib.hid hq
  have Hx' := Lib.hid hx'
  have Hy' := Lib.hid hy'
  have Hz' := Lib.hid hz'
  have Hq' := Lib.hid hq'
  have BB : Hid (∀ (o o' : Obj) (n : Nat), Below w.heap.size w (((w.alloc o).alloc o').drewN n)) := Lib.hid fun o o' n => below_drewN (below_alloc (below_alloc (Below.refl _ _) _) _) n
  have tc : (h.c != h.c) = false := by simp
  clear hx hy hz hq hx' hy' hz' hq'
  go_enter Tryz.func92, Tryz.ntmps92
  go_wp2_with fail
  refine (eqBools_any _ _ h.g h.g _ (bols_below Hx.out (BB.out _ _ 0)) (bols_below Hx'.out (BB.out _ _ 0))).mono ?_
  intro e w1 hr
  obtain ⟨n1, rfl, rfl⟩ := boolOfB_true hr
  clear hr
  go_wp2_with fail
  refine (eqInts_any _ _ h.s h.s _ (ints_below Hy.out (BB.out _ _ _)) (ints_below Hy'.out (BB.out _ _ _))).mono ?_
  intro e w2 hr
  obtain ⟨n2, rfl, rfl⟩ := boolOf_true hr
  clear hr
  rw [World.drewN_drewN]
  go_wp2_with fail
  refine (eqInts_any _ _ h.n h.n _ (ints_below Hz.out (BB.out _ _ _)) (ints_below Hz'.out (BB.out _ _ _))).mono ?_
  intro e w3 hr
  obtain ⟨n3, rfl, rfl⟩ := boolOf_true hr
  clear hr
  rw [World.drewN_drewN]
  go_wp2_with fail
  refine (eqDeedS_same _ _ h.d _ (dds_below Hq.out (BB.out _ _ _)) (dds_below Hq'.out (BB.out _ _ _))).mono ?_
  rintro e w4 ⟨rfl, hb4⟩
  have B4 := Lib.hid (below_step (BB.out _ _ _) hb4)
  clear hb4
  go_wp2
  go_ret
  exact ⟨rfl, B4.out⟩

/-- The host with marks from K on in its rows. -/
def markH (K : Nat) (h : Ht) : Ht := ⟨marksB K h.g.length, marksI (K + h.g.length) h.s.length, marksI (K + h.g.length + h.s.length) h.n.length, h.c, marksD (K + h.g.length + h.s.length + h.n.length) h.d.length⟩

/-- How many numbers its rows have. -/
def numH (h : Ht) : Nat := h.g.length + h.s.length + h.n.length + 4 * h.d.length

theorem borow_mark {w w' : World} {lo : Nat} {v u : Value} {zs : List Bool} (h : BoRow w lo v zs) (hg : w.grownBy w' u.ownBlock) (hp : Parted v u) : BoRow w' lo v zs :=
  borow_keep h fun g hv => hg.block g (borow_lt h g hv).2 (fun e => hp g hv e.symm)

theorem drow_mark {w w' : World} {lo : Nat} {v u : Value} {zs : List Dd} (h : DRow w lo v zs) (hg : w.grownBy w' u.ownBlock) (hp : Parted v u) : DRow w' lo v zs :=
  drow_keep h fun g hv => hg.block g (drow_lt h g hv).2 (fun e => hp g hv e.symm)

/-- What laying marks leaves. -/
def MarkHOf (w : World) (lo hi : Nat) (v : Value) (h : Ht) (K : Nat) (e : Ending) (w' : World) : Prop := e = .returned (.int .i64 ((K + numH h : Nat) : Int)) ∧ HostOf w' lo hi v (markH K h) ∧ Within lo hi w w'

end Go.Proofs.YthnbaeamekolmaaGreatDoor

namespace Go.Proofs.YthnbaeamekolmaaGreatDoor
open Go.RowKit
set_option linter.unusedVariables false
set_option linter.unusedSimpArgs false

theorem only_within {S : Nat → Prop} {w w' : World} {lo hi : Nat} (h : Only S w w') (hs : ∀ k, S k → lo ≤ k ∧ k < hi) : Within lo hi w w' :=
  ⟨h.os, h.tape, h.output, h.size, fun k hk ho => h.block k hk (fun q => by have := hs k q; omega)⟩

/-- The block is that of one of the value's slices. -/
def Mine (v : Value) (g : Nat) : Prop := ∃ cs, v = .agg cs ∧ ∃ x ∈ cs.toList, x.ownBlock = some g

theorem mine_agg {l : List Value} {g : Nat} : Mine (.agg l.toArray) g ↔ ∃ x ∈ l, x.ownBlock = some g := by
  constructor
  · rintro ⟨cs, h, x, hx, e⟩
    injection h with h
    subst h
    exact ⟨x, by simpa using hx, e⟩
  · rintro ⟨x, hx, e⟩
    exact ⟨_, rfl, x, by simpa using hx, e⟩

theorem hostOf_mine {w : World} {lo hi : Nat} {v : Value} {h : Ht} (H : HostOf w lo hi v h) {g : Nat} (hg : Mine v g) : lo ≤ g ∧ g < hi := by
  obtain ⟨x, y, z, q, rfl, h1, h2, h3, h4, _, _, _, _, _, _, hh⟩ := H
  obtain ⟨u, hu, e⟩ := mine_agg.1 hg
  simp only [List.mem_cons, List.not_mem_nil, or_false] at hu
  rcases hu with rfl | rfl | rfl | rfl | rfl
  · exact ⟨(borow_lt h1 g e).1, hh g (.inl e)⟩
  · exact ⟨(row_lt h2 g e).1, hh g (.inr (.inl e))⟩
  · exact ⟨(row_lt h3 g e).1, hh g (.inr (.inr (.inl e)))⟩
  · simp [Value.ownBlock] at e
  · exact ⟨(drow_lt h4 g e).1, hh g (.inr (.inr (.inr e)))⟩

theorem datOf_mine {w : World} {lo hi : Nat} {v : Value} {d : Dt} (H : DatOf w lo hi v d) {g : Nat} (hg : Mine v g) : lo ≤ g ∧ g < hi := by
  obtain ⟨x, y, z, rfl, h1, h2, h3, _, _, _, _, hh⟩ := H
  obtain ⟨u, hu, e⟩ := mine_agg.1 hg
  simp only [List.mem_cons, List.not_mem_nil, or_false] at hu
  rcases hu with rfl | rfl | rfl | rfl | rfl | rfl
  · exact ⟨(row_lt h1 g e).1, hh g (.inl e)⟩
  · exact ⟨(row_lt h2 g e).1, hh g (.inr (.inl e))⟩
  · exact ⟨(row_lt h3 g e).1, hh g (.inr (.inr e))⟩
  · simp [Value.ownBlock] at e
  · simp [Value.ownBlock] at e
  · simp [Value.ownBlock] at e

theorem hostOf_only {S : Nat → Prop} {w w' : World} {lo hi : Nat} {v : Value} {h : Ht} (H : HostOf w lo hi v h) (hb : Only S w w') (hs : ∀ g, Mine v g → ¬ S g) : HostOf w' lo hi v h := by
  obtain ⟨x, y, z, q, rfl, h1, h2, h3, h4, p1, p2, p3, p4, p5, p6, hh⟩ := H
  have hm : ∀ u ∈ [x, y, z, .int .i64 h.c, q], ∀ g, u.ownBlock = some g → ¬ S g := fun u hu g e => hs g (mine_agg.2 ⟨u, hu, e⟩)
  exact ⟨x, y, z, q, rfl, borow_keep h1 fun g hg => hb.block g (borow_lt h1 g hg).2 (hm x (by simp) g hg), row_keep h2 fun g hg => hb.block g (row_lt h2 g hg).2 (hm y (by simp) g hg),
    row_keep h3 fun g hg => hb.block g (row_lt h3 g hg).2 (hm z (by simp) g hg), drow_keep h4 fun g hg => hb.block g (drow_lt h4 g hg).2 (hm q (by simp) g hg), p1, p2, p3, p4, p5, p6, hh⟩

theorem datOf_only {S : Nat → Prop} {w w' : World} {lo hi : Nat} {v : Value} {d : Dt} (H : DatOf w lo hi v d) (hb : Only S w w') (hs : ∀ g, Mine v g → ¬ S g) : DatOf w' lo hi v d := by
  obtain ⟨x, y, z, rfl, h1, h2, h3, h4, p1, p2, p3, hh⟩ := H
  have hm : ∀ u ∈ [x, y, z, .int .i64 d.h, .int .i64 d.n, .string d.o], ∀ g, u.ownBlock = some g → ¬ S g := fun u hu g e => hs g (mine_agg.2 ⟨u, hu, e⟩)
  exact ⟨x, y, z, rfl, row_keep h1 fun g hg => hb.block g (row_lt h1 g hg).2 (hm x (by simp) g hg), row_keep h2 fun g hg => hb.block g (row_lt h2 g hg).2 (hm y (by simp) g hg),
    row_keep h3 fun g hg => hb.block g (row_lt h3 g hg).2 (hm z (by simp) g hg), h4, p1, p2, p3, hh⟩

set_option maxRecDepth 100000 in
set_option maxHeartbeats 2000000 in
theorem markData_only (v : Value) (d : Dt) (lo hi K : Nat) (w : World) (hv : DatOf w lo hi v d) (hs : SmallD d) (hK : K ≤ 8388608) (hh : hi ≤ w.heap.size) :
    Calls Tryz.prog 31 #[v, .int .i64 K] w fun e w' => e = .returned (.int .i64 ((K + numD d : Nat) : Int)) ∧ DatOf w' lo hi v (markD K d) ∧ Only (Mine v) w w' := by
  obtain ⟨x, y, z, rfl, hx, hy, hz, lo', p1, p2, p3, ph⟩ := hv
  obtain ⟨s1, s2, s3, s4⟩ := hs
  have lx := ph
  have GX : Hid (∀ g, x.ownBlock = some g → lo ≤ g ∧ g < hi) := Lib.hid fun g hg => ⟨(row_lt hx g hg).1, ph g (.inl hg)⟩
  have GY : Hid (∀ g, y.ownBlock = some g → lo ≤ g ∧ g < hi) := Lib.hid fun g hg => ⟨(row_lt hy g hg).1, ph g (.inr (.inl hg))⟩
  have GZ : Hid (∀ g, z.ownBlock = some g → lo ≤ g ∧ g < hi) := Lib.hid fun g hg => ⟨(row_lt hz g hg).1, ph g (.inr (.inr hg))⟩
  have P1 := Lib.hid p1
  have P2 := Lib.hid p2
  have P3 := Lib.hid p3
  have PH := Lib.hid ph
  have L := Lib.hid lo'
  have MX := Lib.hid (fun g (e : x.ownBlock = some g) => (mine_agg (l := [x, y, z, .int .i64 d.h, .int .i64 d.n, .string d.o])).2 ⟨x, by simp, e⟩)
  have MY := Lib.hid (fun g (e : y.ownBlock = some g) => (mine_agg (l := [x, y, z, .int .i64 d.h, .int .i64 d.n, .string d.o])).2 ⟨y, by simp, e⟩)
  have MZ := Lib.hid (fun g (e : z.ownBlock = some g) => (mine_agg (l := [x, y, z, .int .i64 d.h, .int .i64 d.n, .string d.o])).2 ⟨z, by simp, e⟩)
  generalize hS : Mine (.agg [x, y, z, .int .i64 d.h, .int .i64 d.n, .string d.o].toArray) = S at MX MY MZ
  have HS := Lib.hid hS
  have W0 : Hid (∀ o : Obj, Only S w (w.alloc o)) := Lib.hid fun o => below_only (below_alloc (Below.refl _ _) o)
  clear hS
  obtain ⟨_, A1, k1, rfl, _⟩ := row_ints hx
  obtain ⟨_, A2, k2, rfl, _⟩ := row_ints hy
  obtain ⟨_, A3, k3, rfl, _⟩ := row_ints hz
  have HX := Lib.hid hx
  have HY := Lib.hid hy
  have HZ := Lib.hid hz
  clear hx hy hz lo' p1 p2 p3 ph lx
  go_enter Tryz.func31, Tryz.ntmps31
  go_wp2_with fail
  have WB := Lib.hid (whole_new w 40 #[.slice A1 d.s.length k1, .slice A2 d.b.length k2, .slice A3 d.c.length k3, .int .i64 d.h, .int .i64 d.n, .string d.o])
  refine (markInts_any _ lo K d.s _ (row_alloc HX.out _) (by omega) (by omega)).mono ?_
  rintro e w1 ⟨rfl, hr1, hg1⟩
  have hne : some w.heap.size ≠ (Value.slice A1 d.s.length k1).ownBlock := fun e => by have := GX.out _ e.symm; omega
  have WB1 := Lib.hid (whole_keep WB.out (hg1.block _ (by simp) hne))
  have N1 := Lib.hid (only_trans (W0.out _) (only_grown hg1 MX.out))
  have X1 := Lib.hid hr1
  have Y1 := Lib.hid (row_mark (row_alloc HY.out _) hg1 (parted_sym P1.out))
  have Z1 := Lib.hid (row_mark (row_alloc HZ.out _) hg1 (parted_sym P2.out))
  have b1 := whole_cell WB1.out 1
  simp at b1
  clear hr1 hg1 hne
  go_wp2_with fail
  rw [show ((K : Int) + d.s.length) = ((K + d.s.length : Nat) : Int) by omega]
  refine (markInts_any _ lo (K + d.s.length) d.b _ Y1.out (by omega) (by omega)).mono ?_
  rintro e w2 ⟨rfl, hr2, hg2⟩
  have hne : some w.heap.size ≠ (Value.slice A2 d.b.length k2).ownBlock := fun e => by have := GY.out _ e.symm; omega
  have WB2 := Lib.hid (whole_keep WB1.out (hg2.block _ (whole_lt WB1.out) hne))
  have N2 := Lib.hid (only_trans N1.out (only_grown hg2 MY.out))
  have Y2 := Lib.hid hr2
  have X2 := Lib.hid (row_keep X1.out fun g hv => hg2.block g (row_lt X1.out g hv).2 (fun e => P1.out g hv e.symm))
  have Z2 := Lib.hid (row_mark Z1.out hg2 (parted_sym P3.out))
  have b2 := whole_cell WB2.out 2
  simp at b2
  clear hr2 hg2 hne b1
  go_wp2_with fail
  rw [show ((K : Int) + d.s.length + d.b.length) = ((K + d.s.length + d.b.length : Nat) : Int) by omega]
  refine (markInts_any _ lo (K + d.s.length + d.b.length) d.c _ Z2.out (by omega) (by omega)).mono ?_
  rintro e w3 ⟨rfl, hr3, hg3⟩
  have N3 := Lib.hid (only_trans N2.out (only_grown hg3 MZ.out))
  have Z3 := Lib.hid hr3
  have X3 := Lib.hid (row_keep X2.out fun g hv => hg3.block g (row_lt X2.out g hv).2 (fun e => P2.out g hv e.symm))
  have Y3 := Lib.hid (row_keep Y2.out fun g hv => hg3.block g (row_lt Y2.out g hv).2 (fun e => P3.out g hv e.symm))
  clear hr3 hg3 b2
  go_wp2
  go_ret
  refine ⟨ret_int (by unfold numD; omega), ⟨_, _, _, rfl, X3.out, Y3.out, Z3.out, L.out, P1.out, P2.out, P3.out, PH.out⟩, N3.out⟩

set_option maxRecDepth 100000 in
set_option maxHeartbeats 2000000 in
theorem heldData_wide (v : Value) (d : Dt) (K : Nat) (w : World) (hv : DatIn w v (markD K d)) (hs : SmallD d) (hK : K ≤ 8388608) :
    Calls Tryz.prog 32 #[v, .int .i64 K] w fun e w' => e = .returned (.int .i64 ((K + numD d : Nat) : Int)) ∧ Below w.heap.size w w' := by
  obtain ⟨x, y, z, rfl, hx, hy, hz, lo'⟩ := hv
  obtain ⟨s1, s2, s3, s4⟩ := hs
  have BB : Hid (∀ (o : Obj), Below w.heap.size w (w.alloc o)) := Lib.hid fun o => below_alloc (Below.refl _ _) _
  have HX : Hid (Ints w x (marksI K d.s.length)) := Lib.hid hx
  have HY : Hid (Ints w y (marksI (K + d.s.length) d.b.length)) := Lib.hid hy
  have HZ : Hid (Ints w z (marksI (K + d.s.length + d.b.length) d.c.length)) := Lib.hid hz
  have e1 : ((K : Int) + d.s.length) = ((K + d.s.length : Nat) : Int) := by omega
  have e2 : ((K : Int) + d.s.length + d.b.length) = ((K + d.s.length + d.b.length : Nat) : Int) := by omega
  have E1 := Lib.hid e1
  have E2 := Lib.hid e2
  clear hx hy hz lo' e1 e2
  go_enter Tryz.func32, Tryz.ntmps32
  go_wp2_with fail
  refine (heldInts_any _ d.s.length K _ (ints_below HX.out (BB.out _)) (by omega) (by omega)).mono ?_
  rintro e w1 ⟨rfl, rfl⟩
  go_wp2_with fail
  rw [E1.out]
  refine (heldInts_any _ d.b.length (K + d.s.length) _ (ints_below HY.out (BB.out _)) (by omega) (by omega)).mono ?_
  rintro e w1 ⟨rfl, rfl⟩
  go_wp2_with fail
  rw [E2.out]
  refine (heldInts_any _ d.c.length (K + d.s.length + d.b.length) _ (ints_below HZ.out (BB.out _)) (by omega) (by omega)).mono ?_
  rintro e w1 ⟨rfl, rfl⟩
  go_wp2
  go_ret
  exact ⟨ret_int (by unfold numD; omega), BB.out _⟩

end Go.Proofs.YthnbaeamekolmaaGreatDoor

namespace Go.Proofs.YthnbaeamekolmaaGreatDoor
open Go.RowKit
set_option linter.unusedVariables false
set_option linter.unusedSimpArgs false

/-- A valid deed. -/
def ddB (x : Dd) : Bool := inB x.p 0 3 && cellB x.a && cellB x.b && cellB x.r

def ddsB (Q : List Dd) : Bool := Q.all ddB

theorem ddsB_at {l : List Dd} (h : ddsB l = true) {n : Dd} (hn : n ∈ l) : ddB n = true := List.all_eq_true.1 h n hn

/-- The first k are valid. -/
def DdsTo (l : List Dd) (k : Nat) : Prop := ∀ n ∈ l.take k, ddB n = true

theorem ddsTo_zero (l : List Dd) : DdsTo l 0 := by intro n hn; simp at hn

theorem ddsTo_next {l : List Dd} {k : Nat} (h : DdsTo l k) (hk : k < l.length) (e : ddB l[k] = true) : DdsTo l (k + 1) := by
  intro n hn
  rw [List.take_succ_eq_append_getElem hk] at hn
  rcases List.mem_append.1 hn with hn | hn
  · exact h n hn
  · rw [List.mem_singleton.1 hn]; exact e

theorem ddsTo_end {l : List Dd} (h : DdsTo l l.length) : ddsB l = true := by
  unfold DdsTo at h; rw [List.take_length] at h; exact List.all_eq_true.2 h

theorem dds_not {l : List Dd} {k : Nat} (hk : k < l.length) (e : ddB l[k] = false) : ddsB l = false := by
  cases h : ddsB l
  · rfl
  · rw [ddsB_at h (List.getElem_mem hk)] at e; cases e

/-- What a valid host is. -/
def HtFine (h : Ht) : Prop := h.g.length = 4 ∧ h.s.length = 8 ∧ h.n.length ≤ 20 ∧ h.d.length ≤ 40 ∧ cellsB h.s = true ∧ cellsB h.n = true ∧ inB h.c 0 2147483647 = true ∧ ddsB h.d = true

instance (h : Ht) : Decidable (HtFine h) := by unfold HtFine; infer_instance

def hOK (h : Ht) : Bool := decide (HtFine h)

theorem hOK_true {h : Ht} (q : HtFine h) : hOK h = true := by unfold hOK; exact decide_eq_true q
theorem hOK_false {h : Ht} (q : ¬ HtFine h) : hOK h = false := by unfold hOK; exact decide_eq_false q
theorem hOK_fine {h : Ht} (q : hOK h = true) : HtFine h := by unfold hOK at q; exact of_decide_eq_true q

theorem fineH_g {h : Ht} (q : HtFine h) : h.g.length = 4 := q.1
theorem fineH_s {h : Ht} (q : HtFine h) : h.s.length = 8 := q.2.1
theorem fineH_n {h : Ht} (q : HtFine h) : h.n.length ≤ 20 := q.2.2.1
theorem fineH_d {h : Ht} (q : HtFine h) : h.d.length ≤ 40 := q.2.2.2.1
theorem fineH_sc {h : Ht} (q : HtFine h) : cellsB h.s = true := q.2.2.2.2.1
theorem fineH_nc {h : Ht} (q : HtFine h) : cellsB h.n = true := q.2.2.2.2.2.1
theorem fineH_c {h : Ht} (q : HtFine h) : inB h.c 0 2147483647 = true := q.2.2.2.2.2.2.1
theorem fineH_dd {h : Ht} (q : HtFine h) : ddsB h.d = true := q.2.2.2.2.2.2.2

theorem fineH_small {h : Ht} (q : HtFine h) : SmallH h := by
  have h1 := fineH_g q
  have h2 := fineH_s q
  have h3 := fineH_n q
  have h4 := fineH_d q
  exact ⟨by omega, by omega, by omega, by omega⟩

set_option maxRecDepth 100000 in
set_option maxHeartbeats 1000000 in
theorem sDeed_any (x : Dd) (w : World) :
    Calls Tryz.prog 205 #[.agg #[.int .i64 x.p, .int .i64 x.a, .int .i64 x.b, .int .i64 x.r]] w fun e w' => e = .returned (.bool (ddB x)) ∧ Below w.heap.size w w' := by
  have BB : Hid (∀ (o : Obj), Below w.heap.size w (w.alloc o)) := Lib.hid fun o => below_alloc (Below.refl _ _) _
  have DB : Hid (ddB x = (inB x.p 0 3 && cellB x.a && cellB x.b && cellB x.r)) := Lib.hid rfl
  cases t0 : inB x.p 0 3
  · go_enter Tryz.func205, Tryz.ntmps205
    go_wp2_with (first | (go_at_call 64; refine (sIn_any _ _ _ _).mono ?_; rintro e w' ⟨rfl, rfl⟩) | (go_at_call 193; refine (sCell_any _ _).mono ?_; rintro e w' ⟨rfl, rfl⟩))
    go_ret
    exact ⟨ret_bool (by rw [DB.out]; simp [t0]), BB.out _⟩
  · have z0 : True := trivial
    cases t1 : cellB x.a
    · go_enter Tryz.func205, Tryz.ntmps205
      go_wp2_with (first | (go_at_call 64; refine (sIn_any _ _ _ _).mono ?_; rintro e w' ⟨rfl, rfl⟩) | (go_at_call 193; refine (sCell_any _ _).mono ?_; rintro e w' ⟨rfl, rfl⟩))
      go_ret
      exact ⟨ret_bool (by rw [DB.out]; simp [t0, t1]), BB.out _⟩
    · have z1 : True := trivial
      cases t2 : cellB x.b
      · go_enter Tryz.func205, Tryz.ntmps205
        go_wp2_with (first | (go_at_call 64; refine (sIn_any _ _ _ _).mono ?_; rintro e w' ⟨rfl, rfl⟩) | (go_at_call 193; refine (sCell_any _ _).mono ?_; rintro e w' ⟨rfl, rfl⟩))
        go_ret
        exact ⟨ret_bool (by rw [DB.out]; simp [t0, t1, t2]), BB.out _⟩
      · have z2 : True := trivial
        cases t3 : cellB x.r
        · go_enter Tryz.func205, Tryz.ntmps205
          go_wp2_with (first | (go_at_call 64; refine (sIn_any _ _ _ _).mono ?_; rintro e w' ⟨rfl, rfl⟩) | (go_at_call 193; refine (sCell_any _ _).mono ?_; rintro e w' ⟨rfl, rfl⟩))
          go_ret
          exact ⟨ret_bool (by rw [DB.out]; simp [t0, t1, t2, t3]), BB.out _⟩
        · go_enter Tryz.func205, Tryz.ntmps205
          go_wp2_with (first | (go_at_call 64; refine (sIn_any _ _ _ _).mono ?_; rintro e w' ⟨rfl, rfl⟩) | (go_at_call 193; refine (sCell_any _ _).mono ?_; rintro e w' ⟨rfl, rfl⟩))
          go_ret
          exact ⟨ret_bool (by rw [DB.out]; simp [t0, t1, t2, t3]), BB.out _⟩

set_option maxRecDepth 100000 in
set_option maxHeartbeats 1000000 in
theorem sHOK_any_0 (v : Value) (h : Ht) (w : World) (hv : HostIn w v h) (h0 : ¬ h.g.length = 4) :
    Calls Tryz.prog 147 #[v] w fun e w' => e = .returned (.bool (false)) ∧ Below w.heap.size w w' := by
  obtain ⟨x, y, z, q, rfl, hx, hy, hz, hq⟩ := hv
  have BB : Hid (∀ (o : Obj), Below w.heap.size w (w.alloc o)) := Lib.hid fun o => below_alloc (Below.refl _ _) _
  have HY : Hid (∀ o : Obj, Ints (w.alloc o) y h.s) := Lib.hid fun o => ints_below hy (BB.out _)
  have HZ : Hid (∀ o : Obj, Ints (w.alloc o) z h.n) := Lib.hid fun o => ints_below hz (BB.out _)
  have HQ : Hid (∀ o : Obj, Dds (w.alloc o) q h.d) := Lib.hid fun o => dds_below hq (BB.out _)
  obtain ⟨l1, A1, k1, rfl, _⟩ := hx
  obtain ⟨l2, A2, k2, rfl, _⟩ := hy
  obtain ⟨l3, A3, k3, rfl, _⟩ := hz
  obtain ⟨l4, A4, k4, rfl, _⟩ := hq
  unfold maxLen at l1 l2 l3 l4
  have t0 : ((h.g.length : Int) != 4) = true := by rw [bne_iff_ne]; omega
  have u0 : ((h.g.length : Int) == 4) = false := by rw [beq_eq_false_iff_ne]; omega
  clear h0
  go_enter Tryz.func147, Tryz.ntmps147
  go_wp2_with (first | (go_at_call 132; (first | (with_reducible refine (sCells_any _ h.s _ (HY.out _)).mono ?_) | (with_reducible refine (sCells_any _ h.n _ (HZ.out _)).mono ?_)); rintro e w' ⟨rfl, rfl⟩) | (go_at_call 64; refine (sIn_any _ _ _ _).mono ?_; rintro e w' ⟨rfl, rfl⟩))
  go_ret
  exact ⟨rfl, BB.out _⟩

set_option maxRecDepth 100000 in
set_option maxHeartbeats 1000000 in
theorem sHOK_any_1 (v : Value) (h : Ht) (w : World) (hv : HostIn w v h) (h0 : h.g.length = 4) (h1 : ¬ h.s.length = 8) :
    Calls Tryz.prog 147 #[v] w fun e w' => e = .returned (.bool (false)) ∧ Below w.heap.size w w' := by
  obtain ⟨x, y, z, q, rfl, hx, hy, hz, hq⟩ := hv
  have BB : Hid (∀ (o : Obj), Below w.heap.size w (w.alloc o)) := Lib.hid fun o => below_alloc (Below.refl _ _) _
  have HY : Hid (∀ o : Obj, Ints (w.alloc o) y h.s) := Lib.hid fun o => ints_below hy (BB.out _)
  have HZ : Hid (∀ o : Obj, Ints (w.alloc o) z h.n) := Lib.hid fun o => ints_below hz (BB.out _)
  have HQ : Hid (∀ o : Obj, Dds (w.alloc o) q h.d) := Lib.hid fun o => dds_below hq (BB.out _)
  obtain ⟨l1, A1, k1, rfl, _⟩ := hx
  obtain ⟨l2, A2, k2, rfl, _⟩ := hy
  obtain ⟨l3, A3, k3, rfl, _⟩ := hz
  obtain ⟨l4, A4, k4, rfl, _⟩ := hq
  unfold maxLen at l1 l2 l3 l4
  have t0 : ((h.g.length : Int) != 4) = false := by rw [bne_eq_false_iff_eq]; omega
  have u0 : ((h.g.length : Int) == 4) = true := by rw [beq_iff_eq]; omega
  clear h0
  have t1 : ((h.s.length : Int) != 8) = true := by rw [bne_iff_ne]; omega
  have u1 : ((h.s.length : Int) == 8) = false := by rw [beq_eq_false_iff_ne]; omega
  clear h1
  go_enter Tryz.func147, Tryz.ntmps147
  go_wp2_with (first | (go_at_call 132; (first | (with_reducible refine (sCells_any _ h.s _ (HY.out _)).mono ?_) | (with_reducible refine (sCells_any _ h.n _ (HZ.out _)).mono ?_)); rintro e w' ⟨rfl, rfl⟩) | (go_at_call 64; refine (sIn_any _ _ _ _).mono ?_; rintro e w' ⟨rfl, rfl⟩))
  go_ret
  exact ⟨rfl, BB.out _⟩

set_option maxRecDepth 100000 in
set_option maxHeartbeats 1000000 in
theorem sHOK_any_2 (v : Value) (h : Ht) (w : World) (hv : HostIn w v h) (h0 : h.g.length = 4) (h1 : h.s.length = 8) (h2 : ¬ h.n.length ≤ 20) :
    Calls Tryz.prog 147 #[v] w fun e w' => e = .returned (.bool (false)) ∧ Below w.heap.size w w' := by
  obtain ⟨x, y, z, q, rfl, hx, hy, hz, hq⟩ := hv
  have BB : Hid (∀ (o : Obj), Below w.heap.size w (w.alloc o)) := Lib.hid fun o => below_alloc (Below.refl _ _) _
  have HY : Hid (∀ o : Obj, Ints (w.alloc o) y h.s) := Lib.hid fun o => ints_below hy (BB.out _)
  have HZ : Hid (∀ o : Obj, Ints (w.alloc o) z h.n) := Lib.hid fun o => ints_below hz (BB.out _)
  have HQ : Hid (∀ o : Obj, Dds (w.alloc o) q h.d) := Lib.hid fun o => dds_below hq (BB.out _)
  obtain ⟨l1, A1, k1, rfl, _⟩ := hx
  obtain ⟨l2, A2, k2, rfl, _⟩ := hy
  obtain ⟨l3, A3, k3, rfl, _⟩ := hz
  obtain ⟨l4, A4, k4, rfl, _⟩ := hq
  unfold maxLen at l1 l2 l3 l4
  have t0 : ((h.g.length : Int) != 4) = false := by rw [bne_eq_false_iff_eq]; omega
  have u0 : ((h.g.length : Int) == 4) = true := by rw [beq_iff_eq]; omega
  clear h0
  have t1 : ((h.s.length : Int) != 8) = false := by rw [bne_eq_false_iff_eq]; omega
  have u1 : ((h.s.length : Int) == 8) = true := by rw [beq_iff_eq]; omega
  clear h1
  go_enter Tryz.func147, Tryz.ntmps147
  go_wp2_with (first | (go_at_call 132; (first | (with_reducible refine (sCells_any _ h.s _ (HY.out _)).mono ?_) | (with_reducible refine (sCells_any _ h.n _ (HZ.out _)).mono ?_)); rintro e w' ⟨rfl, rfl⟩) | (go_at_call 64; refine (sIn_any _ _ _ _).mono ?_; rintro e w' ⟨rfl, rfl⟩))
  go_ret
  exact ⟨rfl, BB.out _⟩

set_option maxRecDepth 100000 in
set_option maxHeartbeats 1000000 in
theorem sHOK_any_3 (v : Value) (h : Ht) (w : World) (hv : HostIn w v h) (h0 : h.g.length = 4) (h1 : h.s.length = 8) (h2 : h.n.length ≤ 20) (h3 : ¬ h.d.length ≤ 40) :
    Calls Tryz.prog 147 #[v] w fun e w' => e = .returned (.bool (false)) ∧ Below w.heap.size w w' := by
  obtain ⟨x, y, z, q, rfl, hx, hy, hz, hq⟩ := hv
  have BB : Hid (∀ (o : Obj), Below w.heap.size w (w.alloc o)) := Lib.hid fun o => below_alloc (Below.refl _ _) _
  have HY : Hid (∀ o : Obj, Ints (w.alloc o) y h.s) := Lib.hid fun o => ints_below hy (BB.out _)
  have HZ : Hid (∀ o : Obj, Ints (w.alloc o) z h.n) := Lib.hid fun o => ints_below hz (BB.out _)
  have HQ : Hid (∀ o : Obj, Dds (w.alloc o) q h.d) := Lib.hid fun o => dds_below hq (BB.out _)
  obtain ⟨l1, A1, k1, rfl, _⟩ := hx
  obtain ⟨l2, A2, k2, rfl, _⟩ := hy
  obtain ⟨l3, A3, k3, rfl, _⟩ := hz
  obtain ⟨l4, A4, k4, rfl, _⟩ := hq
  unfold maxLen at l1 l2 l3 l4
  have t0 : ((h.g.length : Int) != 4) = false := by rw [bne_eq_false_iff_eq]; omega
  have u0 : ((h.g.length : Int) == 4) = true := by rw [beq_iff_eq]; omega
  clear h0
  have t1 : ((h.s.length : Int) != 8) = false := by rw [bne_eq_false_iff_eq]; omega
  have u1 : ((h.s.length : Int) == 8) = true := by rw [beq_iff_eq]; omega
  clear h1
  go_enter Tryz.func147, Tryz.ntmps147
  go_wp2_with (first | (go_at_call 132; (first | (with_reducible refine (sCells_any _ h.s _ (HY.out _)).mono ?_) | (with_reducible refine (sCells_any _ h.n _ (HZ.out _)).mono ?_)); rintro e w' ⟨rfl, rfl⟩) | (go_at_call 64; refine (sIn_any _ _ _ _).mono ?_; rintro e w' ⟨rfl, rfl⟩))
  go_ret
  exact ⟨rfl, BB.out _⟩

set_option maxRecDepth 100000 in
set_option maxHeartbeats 1000000 in
theorem sHOK_any_4 (v : Value) (h : Ht) (w : World) (hv : HostIn w v h) (h0 : h.g.length = 4) (h1 : h.s.length = 8) (h2 : h.n.length ≤ 20) (h3 : h.d.length ≤ 40) (h4 : cellsB h.s = false) :
    Calls Tryz.prog 147 #[v] w fun e w' => e = .returned (.bool (false)) ∧ Below w.heap.size w w' := by
  obtain ⟨x, y, z, q, rfl, hx, hy, hz, hq⟩ := hv
  have BB : Hid (∀ (o : Obj), Below w.heap.size w (w.alloc o)) := Lib.hid fun o => below_alloc (Below.refl _ _) _
  have HY : Hid (∀ o : Obj, Ints (w.alloc o) y h.s) := Lib.hid fun o => ints_below hy (BB.out _)
  have HZ : Hid (∀ o : Obj, Ints (w.alloc o) z h.n) := Lib.hid fun o => ints_below hz (BB.out _)
  have HQ : Hid (∀ o : Obj, Dds (w.alloc o) q h.d) := Lib.hid fun o => dds_below hq (BB.out _)
  obtain ⟨l1, A1, k1, rfl, _⟩ := hx
  obtain ⟨l2, A2, k2, rfl, _⟩ := hy
  obtain ⟨l3, A3, k3, rfl, _⟩ := hz
  obtain ⟨l4, A4, k4, rfl, _⟩ := hq
  unfold maxLen at l1 l2 l3 l4
  have t0 : ((h.g.length : Int) != 4) = false := by rw [bne_eq_false_iff_eq]; omega
  have u0 : ((h.g.length : Int) == 4) = true := by rw [beq_iff_eq]; omega
  clear h0
  have t1 : ((h.s.length : Int) != 8) = false := by rw [bne_eq_false_iff_eq]; omega
  have u1 : ((h.s.length : Int) == 8) = true := by rw [beq_iff_eq]; omega
  clear h1
  go_enter Tryz.func147, Tryz.ntmps147
  go_wp2_with (first | (go_at_call 132; (first | (with_reducible refine (sCells_any _ h.s _ (HY.out _)).mono ?_) | (with_reducible refine (sCells_any _ h.n _ (HZ.out _)).mono ?_)); rintro e w' ⟨rfl, rfl⟩) | (go_at_call 64; refine (sIn_any _ _ _ _).mono ?_; rintro e w' ⟨rfl, rfl⟩))
  go_ret
  exact ⟨rfl, BB.out _⟩

set_option maxRecDepth 100000 in
set_option maxHeartbeats 1000000 in
theorem sHOK_any_5 (v : Value) (h : Ht) (w : World) (hv : HostIn w v h) (h0 : h.g.length = 4) (h1 : h.s.length = 8) (h2 : h.n.length ≤ 20) (h3 : h.d.length ≤ 40) (h4 : cellsB h.s = true) (h5 : cellsB h.n = false) :
    Calls Tryz.prog 147 #[v] w fun e w' => e = .returned (.bool (false)) ∧ Below w.heap.size w w' := by
  obtain ⟨x, y, z, q, rfl, hx, hy, hz, hq⟩ := hv
  have BB : Hid (∀ (o : Obj), Below w.heap.size w (w.alloc o)) := Lib.hid fun o => below_alloc (Below.refl _ _) _
  have HY : Hid (∀ o : Obj, Ints (w.alloc o) y h.s) := Lib.hid fun o => ints_below hy (BB.out _)
  have HZ : Hid (∀ o : Obj, Ints (w.alloc o) z h.n) := Lib.hid fun o => ints_below hz (BB.out _)
  have HQ : Hid (∀ o : Obj, Dds (w.alloc o) q h.d) := Lib.hid fun o => dds_below hq (BB.out _)
  obtain ⟨l1, A1, k1, rfl, _⟩ := hx
  obtain ⟨l2, A2, k2, rfl, _⟩ := hy
  obtain ⟨l3, A3, k3, rfl, _⟩ := hz
  obtain ⟨l4, A4, k4, rfl, _⟩ := hq
  unfold maxLen at l1 l2 l3 l4
  have t0 : ((h.g.length : Int) != 4) = false := by rw [bne_eq_false_iff_eq]; omega
  have u0 : ((h.g.length : Int) == 4) = true := by rw [beq_iff_eq]; omega
  clear h0
  have t1 : ((h.s.length : Int) != 8) = false := by rw [bne_eq_false_iff_eq]; omega
  have u1 : ((h.s.length : Int) == 8) = true := by rw [beq_iff_eq]; omega
  clear h1
  go_enter Tryz.func147, Tryz.ntmps147
  go_wp2_with (first | (go_at_call 132; (first | (with_reducible refine (sCells_any _ h.s _ (HY.out _)).mono ?_) | (with_reducible refine (sCells_any _ h.n _ (HZ.out _)).mono ?_)); rintro e w' ⟨rfl, rfl⟩) | (go_at_call 64; refine (sIn_any _ _ _ _).mono ?_; rintro e w' ⟨rfl, rfl⟩))
  go_ret
  exact ⟨rfl, BB.out _⟩

set_option maxRecDepth 100000 in
set_option maxHeartbeats 1000000 in
theorem sHOK_any_6 (v : Value) (h : Ht) (w : World) (hv : HostIn w v h) (h0 : h.g.length = 4) (h1 : h.s.length = 8) (h2 : h.n.length ≤ 20) (h3 : h.d.length ≤ 40) (h4 : cellsB h.s = true) (h5 : cellsB h.n = true) (h6 : inB h.c 0 2147483647 = false) :
    Calls Tryz.prog 147 #[v] w fun e w' => e = .returned (.bool (false)) ∧ Below w.heap.size w w' := by
  obtain ⟨x, y, z, q, rfl, hx, hy, hz, hq⟩ := hv
  have BB : Hid (∀ (o : Obj), Below w.heap.size w (w.alloc o)) := Lib.hid fun o => below_alloc (Below.refl _ _) _
  have HY : Hid (∀ o : Obj, Ints (w.alloc o) y h.s) := Lib.hid fun o => ints_below hy (BB.out _)
  have HZ : Hid (∀ o : Obj, Ints (w.alloc o) z h.n) := Lib.hid fun o => ints_below hz (BB.out _)
  have HQ : Hid (∀ o : Obj, Dds (w.alloc o) q h.d) := Lib.hid fun o => dds_below hq (BB.out _)
  obtain ⟨l1, A1, k1, rfl, _⟩ := hx
  obtain ⟨l2, A2, k2, rfl, _⟩ := hy
  obtain ⟨l3, A3, k3, rfl, _⟩ := hz
  obtain ⟨l4, A4, k4, rfl, _⟩ := hq
  unfold maxLen at l1 l2 l3 l4
  have t0 : ((h.g.length : Int) != 4) = false := by rw [bne_eq_false_iff_eq]; omega
  have u0 : ((h.g.length : Int) == 4) = true := by rw [beq_iff_eq]; omega
  clear h0
  have t1 : ((h.s.length : Int) != 8) = false := by rw [bne_eq_false_iff_eq]; omega
  have u1 : ((h.s.length : Int) == 8) = true := by rw [beq_iff_eq]; omega
  clear h1
  go_enter Tryz.func147, Tryz.ntmps147
  go_wp2_with (first | (go_at_call 132; (first | (with_reducible refine (sCells_any _ h.s _ (HY.out _)).mono ?_) | (with_reducible refine (sCells_any _ h.n _ (HZ.out _)).mono ?_)); rintro e w' ⟨rfl, rfl⟩) | (go_at_call 64; refine (sIn_any _ _ _ _).mono ?_; rintro e w' ⟨rfl, rfl⟩))
  go_ret
  exact ⟨rfl, BB.out _⟩

set_option maxRecDepth 100000 in
set_option maxHeartbeats 1000000 in
theorem sHOK_any_7 (v : Value) (h : Ht) (w : World) (hv : HostIn w v h) (h0 : h.g.length = 4) (h1 : h.s.length = 8) (h2 : h.n.length ≤ 20) (h3 : h.d.length ≤ 40) (h4 : cellsB h.s = true) (h5 : cellsB h.n = true) (h6 : inB h.c 0 2147483647 = true) :
    Calls Tryz.prog 147 #[v] w fun e w' => e = .returned (.bool (ddsB h.d)) ∧ Below w.heap.size w w' := by
  obtain ⟨x, y, z, q, rfl, hx, hy, hz, hq⟩ := hv
  have BB : Hid (∀ (o : Obj), Below w.heap.size w (w.alloc o)) := Lib.hid fun o => below_alloc (Below.refl _ _) _
  have HY : Hid (∀ o : Obj, Ints (w.alloc o) y h.s) := Lib.hid fun o => ints_below hy (BB.out _)
  have HZ : Hid (∀ o : Obj, Ints (w.alloc o) z h.n) := Lib.hid fun o => ints_below hz (BB.out _)
  have HQ : Hid (∀ o : Obj, Dds (w.alloc o) q h.d) := Lib.hid fun o => dds_below hq (BB.out _)
  obtain ⟨l1, A1, k1, rfl, _⟩ := hx
  obtain ⟨l2, A2, k2, rfl, _⟩ := hy
  obtain ⟨l3, A3, k3, rfl, _⟩ := hz
  obtain ⟨l4, A4, k4, rfl, _⟩ := hq
  unfold maxLen at l1 l2 l3 l4
  have t0 : ((h.g.length : Int) != 4) = false := by rw [bne_eq_false_iff_eq]; omega
  have u0 : ((h.g.length : Int) == 4) = true := by rw [beq_iff_eq]; omega
  clear h0
  have t1 : ((h.s.length : Int) != 8) = false := by rw [bne_eq_false_iff_eq]; omega
  have u1 : ((h.s.length : Int) == 8) = true := by rw [beq_iff_eq]; omega
  clear h1
  go_enter Tryz.func147, Tryz.ntmps147
  have WB := Lib.hid (whole_new w 43 #[.slice A1 h.g.length k1, .slice A2 h.s.length k2, .slice A3 h.n.length k3, .int .i64 h.c, .slice A4 h.d.length k4])
  go_wp2_with (first | (go_at_call 132; (first | (with_reducible refine (sCells_any _ h.s _ (HY.out _)).mono ?_) | (with_reducible refine (sCells_any _ h.n _ (HZ.out _)).mono ?_)); rintro e w' ⟨rfl, rfl⟩) | (go_at_call 64; refine (sIn_any _ _ _ _).mono ?_; rintro e w' ⟨rfl, rfl⟩))
  go_loopw [3] (fun i wr => ∃ k : Nat, k ≤ h.d.length ∧ i = .int .i64 k ∧ DdsTo h.d k ∧ Below w.heap.size w wr ∧ Dds wr (.slice A4 h.d.length k4) h.d ∧ Whole wr w.heap.size 43 #[.slice A1 h.g.length k1, .slice A2 h.s.length k2, .slice A3 h.n.length k3, .int .i64 h.c, .slice A4 h.d.length k4]) (fun i _ => h.d.length - (intOf i).toNat)
  case atStart => exact ⟨0, Nat.zero_le _, rfl, ddsTo_zero _, BB.out _, HQ.out _, WB.out⟩
  case round =>
    obtain ⟨k, hk, rfl, hat, hb, hq, hw⟩ := hrel
    have AT := Lib.hid hat
    have B := Lib.hid hb
    have W := Lib.hid hw
    have Q := Lib.hid hq
    have c4 := whole_cell hw 4
    simp at c4
    clear hat hb hw
    by_cases hlt : k < h.d.length
    · obtain ⟨_, A', cap', e', hc⟩ := hq
      simp only [Value.slice.injEq, true_and] at e'
      obtain ⟨rfl, rfl⟩ := e'
      obtain ⟨ad, rfl, hd⟩ := hc (by omega)
      obtain ⟨d0, d1, d2, d3⟩ := hd k hlt
      clear hc hd
      cases e : ddB h.d[k]
      · have NO := Lib.hid (dds_not hlt e)
        go_wp2_with (go_at_call 205; refine (sDeed_any _ _).mono ?_; rintro e w2 ⟨rfl, hb2⟩; have B2 := Lib.hid (below_step B.out hb2); clear hb2)
        go_ret
        exact ⟨ret_bool NO.out.symm, B2.out⟩
      · have NX := Lib.hid (ddsTo_next AT.out hlt e)
        go_wp2_with (go_at_call 205; refine (sDeed_any _ _).mono ?_; rintro e w2 ⟨rfl, hb2⟩; have B2 := Lib.hid (below_step B.out hb2); have Q2 := Lib.hid (dds_below Q.out hb2); have W2 := Lib.hid (whole_below W.out hb2); clear hb2)
        go_roundw
        case rel => exact ⟨k + 1, by omega, by go_num, NX.out, B2.out, Q2.out, W2.out⟩
        case measure => simp [intOf]; omega
    · obtain rfl : k = h.d.length := by omega
      have E := Lib.hid (ddsTo_end AT.out)
      clear hq
      go_wp2
      go_ret
      exact ⟨ret_bool E.out.symm, B.out⟩

theorem sHOK_any (v : Value) (h : Ht) (w : World) (hv : HostIn w v h) :
    Calls Tryz.prog 147 #[v] w fun e w' => e = .returned (.bool (hOK h)) ∧ Below w.heap.size w w' := by
  by_cases h0 : h.g.length = 4
  rotate_left
  · rw [hOK_false (fun q => absurd (fineH_g q) (by simp [h0]))]; exact sHOK_any_0 v h w hv h0
  by_cases h1 : h.s.length = 8
  rotate_left
  · rw [hOK_false (fun q => absurd (fineH_s q) (by simp [h1]))]; exact sHOK_any_1 v h w hv h0 h1
  by_cases h2 : h.n.length ≤ 20
  rotate_left
  · rw [hOK_false (fun q => absurd (fineH_n q) (by simp [h2]))]; exact sHOK_any_2 v h w hv h0 h1 h2
  by_cases h3 : h.d.length ≤ 40
  rotate_left
  · rw [hOK_false (fun q => absurd (fineH_d q) (by simp [h3]))]; exact sHOK_any_3 v h w hv h0 h1 h2 h3
  cases h4 : cellsB h.s
  · rw [hOK_false (fun q => absurd (fineH_sc q) (by simp [h4]))]; exact sHOK_any_4 v h w hv h0 h1 h2 h3 h4
  cases h5 : cellsB h.n
  · rw [hOK_false (fun q => absurd (fineH_nc q) (by simp [h5]))]; exact sHOK_any_5 v h w hv h0 h1 h2 h3 h4 h5
  cases h6 : inB h.c 0 2147483647
  · rw [hOK_false (fun q => absurd (fineH_c q) (by simp [h6]))]; exact sHOK_any_6 v h w hv h0 h1 h2 h3 h4 h5 h6
  have e : hOK h = ddsB h.d := by
    cases h7 : ddsB h.d
    · exact hOK_false fun q => absurd (fineH_dd q) (by simp [h7])
    · exact hOK_true ⟨h0, h1, h2, h3, h4, h5, h6, h7⟩
  rw [e]
  exact sHOK_any_7 v h w hv h0 h1 h2 h3 h4 h5 h6

end Go.Proofs.YthnbaeamekolmaaGreatDoor

namespace Go.Proofs.YthnbaeamekolmaaGreatDoor
open Go.RowKit
set_option linter.unusedVariables false
set_option linter.unusedSimpArgs false

/-- Append of a row of numbers that reads, nil or not, onto a row of the call's own. -/
theorem run_append_bools (w : World) (base : Nat) (v : Value) (ys : List Bool) (hown : BoRow w base v ys) (x : Value) (zs : List Bool) (hz : Bols w x zs) (hl : ys.length + zs.length ≤ 1099511627776) (hbase : base ≤ w.heap.size) :
    ∃ v' w', (Builtin.append_ #[26, 26] 26 #[v, x]).run Tryz.prog w = .ok v' w' ∧ BoRow w' base v' (ys ++ zs) ∧ w.grownBy w' v.ownBlock ∧ (v'.ownBlock = v.ownBlock ∨ v'.ownBlock = some w.heap.size) := by
  obtain ⟨i0, hi0, hz0, hz1, hz2⟩ := info_parts own_infoB
  obtain ⟨zm, A, cap, rfl, hc⟩ := hz
  have fin : ∀ ad, A = some ad → ∃ v' w', (Builtin.append_ #[26, 26] 26 #[v, .slice A zs.length cap]).run Tryz.prog w = .ok v' w' ∧ BoRow w' base v' (ys ++ zs) ∧ w.grownBy w' v.ownBlock ∧ (v'.ownBlock = v.ownBlock ∨ v'.ownBlock = some w.heap.size) := by
    rintro ad rfl
    obtain ⟨v', w', hr, h2, h3, _, h5⟩ := run_append_own_at (P := Tryz.prog) w base 26 26 4 i0 _ 1 1 Tryz.underlying26 hi0 hz0 hz1 hz2 rfl (by omega) v ys.length _ hown ad zs.length cap (zs.map (Value.bool)) (by simp)
      (fun j u hu => by
        rcases Nat.lt_or_ge j zs.length with hj | hj
        · obtain ⟨ad', ha, hc⟩ := hc (by omega)
          obtain rfl := Option.some.inj ha
          rw [hc j hj]
          simpa [hj] using hu
        · simp [hj] at hu) (fun u hu => by obtain ⟨z, _, rfl⟩ := List.mem_map.1 hu; rfl) (by unfold maxLen; omega) (by omega) hbase
    exact ⟨v', w', hr, by unfold BoRow; rw [List.map_append, List.length_append]; exact h2, h3, h5⟩
  rcases A with _ | ad
  · have h0 : zs = [] := by
      rcases Nat.eq_zero_or_pos zs.length with h0 | h0
      · exact List.eq_nil_of_length_eq_zero h0
      · obtain ⟨ad, ha, _⟩ := hc h0; cases ha
    subst h0
    refine ⟨v, w, ?_, by rw [List.append_nil]; exact hown, World.grownBy.refl w _, .inl rfl⟩
    rcases hown.2 with ⟨rfl, h0⟩ | ⟨g, cap', cur, rfl, _, _, hnc, _⟩
    · simp [Builtin.append_, run_underlying Tryz.underlying26, sizeOf, typeInfo, hi0, Builtin.lenOf, Builtin.firstCells]
    · simp [Builtin.append_, run_underlying Tryz.underlying26, sizeOf, typeInfo, hi0, Builtin.lenOf, Builtin.firstCells, hnc, storeCells]
  · exact fin ad rfl

theorem wpList_append_bools {w : World} {ops : Array Oper} {rest : List Oper} {o : Oper} {a : Act} {Q : Exit → Act → World → Prop} (hgd : o.guard = none) (s x : Operand)
    (ho : o.op = .call { callee := .builtin .append, args := #[s, x], argTypes := #[26, 26] }) (hty : o.type = 26)
    (base : Nat) (v : Value) (ys : List Bool) (hown : BoRow w base v ys) (u : Value) (zs : List Bool) (hz : Bols w u zs) (hs : a.eval s = v) (hx : a.eval x = u) (hl : ys.length + zs.length ≤ 1099511627776) (hbase : base ≤ w.heap.size)
    (h : ∀ v' w', BoRow w' base v' (ys ++ zs) → w.grownBy w' v.ownBlock → (v'.ownBlock = v.ownBlock ∨ v'.ownBlock = some w.heap.size) → wpList Tryz.prog ops Q rest (a.put o.dst v') w') :
    wpList Tryz.prog ops Q (o :: rest) a w := by
  refine wpList_plain hgd fun K hK => ?_
  obtain ⟨v', w', hrun, h2, h3, h4⟩ := run_append_bools w base v ys hown u zs hz hl hbase
  unfold Oper.wp execOp
  simp only [ho, hty, resolve, invoke, builtin, Sem.run_bind, Sem.run_pure, Result.andThen_ok, List.map_toArray, List.map_cons, List.map_nil, hs, hx, hrun]
  exact hK _ _ (h v' w' h2 h3 h4)

/-- 'append([]int{}, xs...)': a row of the call's own, of these numbers. -/
theorem wpList_append_newbo {W0 : World} {ops : Array Oper} {rest : List Oper} {o : Oper} {a : Act} {Q : Exit → Act → World → Prop} (hgd : o.guard = none) (s x : Operand)
    (ho : o.op = .call { callee := .builtin .append, args := #[s, x], argTypes := #[26, 26] }) (hty : o.type = 26)
    (g : Nat) (hs : a.eval s = .slice (some ⟨g, 0, none⟩) 0 0) (hgs : g = W0.heap.size) (u : Value) (zs : List Bool) (hx : a.eval x = u) (hz : Bols W0 u zs) (hl : zs.length ≤ 1099511627776)
    (h : ∀ B m w', BoRow w' W0.heap.size (.slice B zs.length m) zs → Below W0.heap.size W0 w' → wpList Tryz.prog ops Q rest (a.put o.dst (.slice B zs.length m)) w') :
    wpList Tryz.prog ops Q (o :: rest) a (W0.alloc (.cells #[] 4)) := by
  subst hgs
  have ho0 : BoRow (W0.alloc (.cells #[] 4)) W0.heap.size (.slice (some ⟨W0.heap.size, 0, none⟩) 0 0) [] := World.ownsRow_made W0 #[] 0 (Nat.le_refl _) (by unfold maxLen; omega) rfl
  refine wpList_append_bools hgd s x ho hty W0.heap.size _ [] ho0 u zs (bols_below hz (below_alloc (Below.refl _ _) _)) hs hx (by simpa using hl) (by simp) ?_
  intro v' w' hr hg _
  rw [List.nil_append] at hr
  obtain ⟨_, B, m, rfl, _⟩ := borow_bols hr
  refine h B m w' hr ?_
  exact (below_alloc (Below.refl _ _) _).grown hg (by simp) (fun k hk => by simp [Value.ownBlock] at hk; omega)

theorem dcells_add (P Q : List Dd) : dcells (P ++ Q) = dcells P ++ dcells Q := by unfold dcells; rw [List.flatMap_append]

theorem dcells_oneCell (Q : List Dd) : ∀ u ∈ dcells Q, u.oneCell' = true := by
  intro u hu
  unfold dcells at hu
  obtain ⟨x, _, hx⟩ := List.mem_flatMap.1 hu
  unfold dcs at hx
  simp at hx
  rcases hx with rfl | rfl | rfl | rfl <;> rfl

/-- The cells of readable deeds, one by one. -/
theorem dds_cells {w : World} {ad : Addr} {Q : List Dd} (h : ∀ k (h : k < Q.length), DdAt w (ad.add (k * 4)) Q[k]) (j : Nat) (u : Value) (hu : (dcells Q)[j]? = some u) : w.cell? (ad.add j) = some u := by
  have hj : j < (dcells Q).length := (List.getElem?_eq_some_iff.1 hu).1
  rw [dcells_len] at hj
  have hk : j / 4 < Q.length := by omega
  have h1 := dcells_at Q (j / 4) (j % 4) hk (by omega)
  rw [show j / 4 * 4 + j % 4 = j by omega, hu] at h1
  obtain ⟨a0, a1, a2, a3⟩ := h (j / 4) hk
  have ab : ∀ n, (ad.add n).block = ad.block ∧ (ad.add n).off = ad.off + n := by
    intro n
    cases n with
    | zero => rw [Addr.add_zero']; exact ⟨rfl, rfl⟩
    | succ m => rw [Addr.add_succ']; exact ⟨rfl, rfl⟩
  rw [(ab _).1, (ab _).2] at a1 a2 a3
  have : j % 4 = 0 ∨ j % 4 = 1 ∨ j % 4 = 2 ∨ j % 4 = 3 := by omega
  rcases this with e | e | e | e
  · rw [show j = j / 4 * 4 by omega, a0]; rw [e] at h1; simpa [dcs] using h1.symm
  · rw [show j = j / 4 * 4 + 1 by omega, Addr.add_succ', ← Nat.add_assoc, a1]; rw [e] at h1; simpa [dcs] using h1.symm
  · rw [show j = j / 4 * 4 + 2 by omega, Addr.add_succ', show ad.off + (j / 4 * 4 + 1 + 1) = ad.off + j / 4 * 4 + 2 by omega, a2]; rw [e] at h1; simpa [dcs] using h1.symm
  · rw [show j = j / 4 * 4 + 3 by omega, Addr.add_succ', show ad.off + (j / 4 * 4 + 2 + 1) = ad.off + j / 4 * 4 + 3 by omega, a3]; rw [e] at h1; simpa [dcs] using h1.symm

/-- Append of deeds that read, nil or not, onto deeds of the call's own. -/
theorem run_append_deeds (w : World) (base : Nat) (v : Value) (ys : List Dd) (hown : DRow w base v ys) (x : Value) (zs : List Dd) (hz : Dds w x zs) (hl : ys.length + zs.length ≤ 1099511627776) (hbase : base ≤ w.heap.size) :
    ∃ v' w', (Builtin.append_ #[41, 41] 41 #[v, x]).run Tryz.prog w = .ok v' w' ∧ DRow w' base v' (ys ++ zs) ∧ w.grownBy w' v.ownBlock ∧ (v'.ownBlock = v.ownBlock ∨ v'.ownBlock = some w.heap.size) := by
  obtain ⟨i0, hi0, hz0, hz1, hz2⟩ := info_parts own_infoDd
  obtain ⟨zm, A, cap, rfl, hc⟩ := hz
  have fin : ∀ ad, A = some ad → ∃ v' w', (Builtin.append_ #[41, 41] 41 #[v, .slice A zs.length cap]).run Tryz.prog w = .ok v' w' ∧ DRow w' base v' (ys ++ zs) ∧ w.grownBy w' v.ownBlock ∧ (v'.ownBlock = v.ownBlock ∨ v'.ownBlock = some w.heap.size) := by
    rintro ad rfl
    obtain ⟨v', w', hr, h2, h3, _, h5⟩ := run_append_own_at (P := Tryz.prog) w base 41 41 181 i0 _ 4 32 Tryz.underlying41 hi0 hz0 hz1 hz2 rfl (by omega) v ys.length _ hown ad zs.length cap (dcells zs) (dcells_len zs)
      (fun j u hu => by
        have hj : j < (dcells zs).length := (List.getElem?_eq_some_iff.1 hu).1
        rw [dcells_len] at hj
        obtain ⟨ad', ha, hc⟩ := hc (by omega)
        obtain rfl := Option.some.inj ha
        exact dds_cells hc j u hu) (dcells_oneCell zs) (by unfold maxLen; omega) (by omega) hbase
    exact ⟨v', w', hr, by unfold DRow; rw [dcells_add, List.length_append]; exact h2, h3, h5⟩
  rcases A with _ | ad
  · have h0 : zs = [] := by
      rcases Nat.eq_zero_or_pos zs.length with h0 | h0
      · exact List.eq_nil_of_length_eq_zero h0
      · obtain ⟨ad, ha, _⟩ := hc h0; cases ha
    subst h0
    refine ⟨v, w, ?_, by rw [List.append_nil]; exact hown, World.grownBy.refl w _, .inl rfl⟩
    rcases hown.2 with ⟨rfl, h0⟩ | ⟨g, cap', cur, rfl, _, _, hnc, _⟩
    · simp [Builtin.append_, run_underlying Tryz.underlying41, sizeOf, typeInfo, hi0, Builtin.lenOf, Builtin.firstCells]
    · simp [Builtin.append_, run_underlying Tryz.underlying41, sizeOf, typeInfo, hi0, Builtin.lenOf, Builtin.firstCells, hnc, storeCells]
  · exact fin ad rfl

theorem wpList_append_deeds {w : World} {ops : Array Oper} {rest : List Oper} {o : Oper} {a : Act} {Q : Exit → Act → World → Prop} (hgd : o.guard = none) (s x : Operand)
    (ho : o.op = .call { callee := .builtin .append, args := #[s, x], argTypes := #[41, 41] }) (hty : o.type = 41)
    (base : Nat) (v : Value) (ys : List Dd) (hown : DRow w base v ys) (u : Value) (zs : List Dd) (hz : Dds w u zs) (hs : a.eval s = v) (hx : a.eval x = u) (hl : ys.length + zs.length ≤ 1099511627776) (hbase : base ≤ w.heap.size)
    (h : ∀ v' w', DRow w' base v' (ys ++ zs) → w.grownBy w' v.ownBlock → (v'.ownBlock = v.ownBlock ∨ v'.ownBlock = some w.heap.size) → wpList Tryz.prog ops Q rest (a.put o.dst v') w') :
    wpList Tryz.prog ops Q (o :: rest) a w := by
  refine wpList_plain hgd fun K hK => ?_
  obtain ⟨v', w', hrun, h2, h3, h4⟩ := run_append_deeds w base v ys hown u zs hz hl hbase
  unfold Oper.wp execOp
  simp only [ho, hty, resolve, invoke, builtin, Sem.run_bind, Sem.run_pure, Result.andThen_ok, List.map_toArray, List.map_cons, List.map_nil, hs, hx, hrun]
  exact hK _ _ (h v' w' h2 h3 h4)

/-- 'append([]Deed{}, xs...)': a row of the call's own, of these deeds. -/
theorem wpList_append_newdd {W0 : World} {ops : Array Oper} {rest : List Oper} {o : Oper} {a : Act} {Q : Exit → Act → World → Prop} (hgd : o.guard = none) (s x : Operand)
    (ho : o.op = .call { callee := .builtin .append, args := #[s, x], argTypes := #[41, 41] }) (hty : o.type = 41)
    (g : Nat) (hs : a.eval s = .slice (some ⟨g, 0, none⟩) 0 0) (hgs : g = W0.heap.size) (u : Value) (zs : List Dd) (hx : a.eval x = u) (hz : Dds W0 u zs) (hl : zs.length ≤ 1099511627776)
    (h : ∀ B m w', DRow w' W0.heap.size (.slice B zs.length m) zs → Below W0.heap.size W0 w' → wpList Tryz.prog ops Q rest (a.put o.dst (.slice B zs.length m)) w') :
    wpList Tryz.prog ops Q (o :: rest) a (W0.alloc (.cells #[] 181)) := by
  subst hgs
  have ho0 : DRow (W0.alloc (.cells #[] 181)) W0.heap.size (.slice (some ⟨W0.heap.size, 0, none⟩) 0 0) [] := World.ownsRow_made W0 #[] 0 (Nat.le_refl _) (by unfold maxLen; omega) rfl
  refine wpList_append_deeds hgd s x ho hty W0.heap.size _ [] ho0 u zs (dds_below hz (below_alloc (Below.refl _ _) _)) hs hx (by simpa using hl) (by simp) ?_
  intro v' w' hr hg _
  rw [List.nil_append] at hr
  obtain ⟨_, B, m, rfl, _⟩ := drow_dds hr
  refine h B m w' hr ?_
  exact (below_alloc (Below.refl _ _) _).grown hg (by simp) (fun k hk => by simp [Value.ownBlock] at hk; omega)

end Go.Proofs.YthnbaeamekolmaaGreatDoor

namespace Go.Proofs.YthnbaeamekolmaaGreatDoor
open Go.RowKit
set_option linter.unusedVariables false
set_option linter.unusedSimpArgs false

/-- What a copy of a host leaves. -/
def HCopyOf (w : World) (h : Ht) (e : Ending) (w' : World) : Prop := ∃ u, e = .returned u ∧ HostOf w' w.heap.size w'.heap.size u h ∧ Below w.heap.size w w'

end Go.Proofs.YthnbaeamekolmaaGreatDoor

namespace Go.Proofs.YthnbaeamekolmaaGreatDoor
open Go.RowKit
set_option linter.unusedVariables false
set_option linter.unusedSimpArgs false

theorem hostOf_store {w : World} {lo hi g i : Nat} {v u : Value} {h : Ht} (H : HostOf w lo hi v h) (hg : g < lo) : HostOf (w.setCell ⟨g, i, none⟩ u) lo hi v h :=
  hostOf_keep H fun k _ h1 _ => Below.heap_setCell w _ u k (by show k ≠ g; omega)

theorem row_far {w : World} {lo g i : Nat} {v u : Value} {zs : List Int} (h : Row w lo v zs) (hp : ∀ k, v.ownBlock = some k → k ≠ g) : Row (w.setCell ⟨g, i, none⟩ u) lo v zs := row_keep h fun k hk => Below.heap_setCell w _ u k (hp k hk)

theorem borow_far {w : World} {lo g i : Nat} {v u : Value} {zs : List Bool} (h : BoRow w lo v zs) (hp : ∀ k, v.ownBlock = some k → k ≠ g) : BoRow (w.setCell ⟨g, i, none⟩ u) lo v zs := borow_keep h fun k hk => Below.heap_setCell w _ u k (hp k hk)

theorem drow_far {w : World} {lo g i : Nat} {v u : Value} {zs : List Dd} (h : DRow w lo v zs) (hp : ∀ k, v.ownBlock = some k → k ≠ g) : DRow (w.setCell ⟨g, i, none⟩ u) lo v zs := drow_keep h fun k hk => Below.heap_setCell w _ u k (hp k hk)

theorem parted_ne {x : Value} {g : Nat} {n m : Nat} (h : Parted (.slice (some ⟨g, 0, none⟩) n m) x) : ∀ k, x.ownBlock = some k → k ≠ g := fun k hk e => h g rfl (by rw [hk, e])

theorem hostOf_grant {w : World} {lo hi g m k : Nat} {y z q : Value} {h : Ht} (yes : Bool) (H : HostOf w lo hi (.agg #[.slice (some ⟨g, 0, none⟩) h.g.length m, y, z, .int .i64 h.c, q]) h) :
    HostOf (w.setCell ⟨g, k, none⟩ (.bool yes)) lo hi (.agg #[.slice (some ⟨g, 0, none⟩) h.g.length m, y, z, .int .i64 h.c, q]) { h with g := h.g.set k yes } := by
  obtain ⟨x', y', z', q', e, h1, h2, h3, h4, p1, p2, p3, p4, p5, p6, hh⟩ := H
  simp only [Value.agg.injEq, Array.mk.injEq, List.cons.injEq, and_true, true_and] at e
  obtain ⟨rfl, rfl, rfl, rfl⟩ := e
  exact ⟨_, _, _, _, rfl, (borow_set h1 k yes).1, row_far h2 (parted_ne p1), row_far h3 (parted_ne p2), drow_far h4 (parted_ne p3), p1, p2, p3, p4, p5, p6, hh⟩

end Go.Proofs.YthnbaeamekolmaaGreatDoor

namespace Go.Proofs.YthnbaeamekolmaaGreatDoor
open Go.RowKit
set_option linter.unusedVariables false
set_option linter.unusedSimpArgs false

/-- What granting comes to. -/
def hGrant (h : Ht) (c : Int) (yes : Bool) : Ht × Int := if hOK h then if inB c 0 3 then ({ h with g := h.g.set c.toNat yes }, 0) else (noHt, 9) else (noHt, 1)

/-- A host handed back in memory of its own, and a code. -/
def HResOf (w : World) (r : Ht × Int) (e : Ending) (w' : World) : Prop := ∃ u, e = .returned (.tuple #[u, .int .i64 r.2]) ∧ HostOf w' w.heap.size w'.heap.size u r.1 ∧ Below w.heap.size w w'

theorem hres_none {w w' : World} {c : Int} (hb : Below w.heap.size w w') : HResOf w (noHt, c) (.returned (.tuple #[.agg #[.slice none 0 0, .slice none 0 0, .slice none 0 0, .int .i64 0, .slice none 0 0], .int .i64 c])) w' :=
  ⟨_, rfl, hostOf_none _ _ _, hb⟩

end Go.Proofs.YthnbaeamekolmaaGreatDoor

namespace Go.Proofs.YthnbaeamekolmaaGreatDoor
open Go.RowKit
set_option linter.unusedVariables false
set_option linter.unusedSimpArgs false

/-- Five cells written, one after the other. -/
def set5 (w : World) (g : Nat) (a b c d e : Value) : World := ((((w.setCell ⟨g, 0, none⟩ a).setCell ⟨g, 1, none⟩ b).setCell ⟨g, 2, none⟩ c).setCell ⟨g, 3, none⟩ d).setCell ⟨g, 4, none⟩ e

theorem whole_set5 {w : World} {g : Nat} {t : TypeId} {p0 p1 p2 p3 p4 : Value} (h : Whole w g t #[p0, p1, p2, p3, p4]) (a b c d e : Value) : Whole (set5 w g a b c d e) g t #[a, b, c, d, e] :=
  whole_set (whole_set (whole_set (whole_set (whole_set h 0 a) 1 b) 2 c) 3 d) 4 e

theorem whole_far5 {w : World} {g k : Nat} {t : TypeId} {cs : Array Value} (h : Whole w g t cs) (hp : g ≠ k) (a b c d e : Value) : Whole (set5 w k a b c d e) g t cs :=
  whole_far (whole_far (whole_far (whole_far (whole_far h (p := ⟨k, 0, none⟩) hp a) (p := ⟨k, 1, none⟩) hp b) (p := ⟨k, 2, none⟩) hp c) (p := ⟨k, 3, none⟩) hp d) (p := ⟨k, 4, none⟩) hp e

theorem below_set5 {B k : Nat} {w0 w : World} (hb : Below B w0 w) (hk : B ≤ k) (a b c d e : Value) : Below B w0 (set5 w k a b c d e) :=
  ((((hb.setCell (p := ⟨k, 0, none⟩) hk a).setCell (p := ⟨k, 1, none⟩) hk b).setCell (p := ⟨k, 2, none⟩) hk c).setCell (p := ⟨k, 3, none⟩) hk d).setCell (p := ⟨k, 4, none⟩) hk e

theorem hostOf_set5 {w : World} {lo hi k : Nat} {v : Value} {h : Ht} (H : HostOf w lo hi v h) (hk : k < lo) (a b c d e : Value) : HostOf (set5 w k a b c d e) lo hi v h :=
  hostOf_store (hostOf_store (hostOf_store (hostOf_store (hostOf_store H hk) hk) hk) hk) hk

theorem set5_size (w : World) (k : Nat) (a b c d e : Value) : (set5 w k a b c d e).heap.size = w.heap.size := by unfold set5; simp

theorem hostOf_alloc {w : World} {lo hi : Nat} {v : Value} {h : Ht} (H : HostOf w lo hi v h) (o : Obj) : HostOf (w.alloc o) lo hi v h := hostOf_below H (below_alloc (Below.refl _ _) o)

theorem hostOf_thirdRow {w : World} {lo hi : Nat} {x y z q : Value} {h : Ht} {c : Int} (H : HostOf w lo hi (.agg #[x, y, z, .int .i64 c, q]) h) : Row w lo z h.n := by
  obtain ⟨x', y', z', q', e, h1, h2, h3, h4, _⟩ := H
  simp only [Value.agg.injEq, Array.mk.injEq, List.cons.injEq, and_true, true_and] at e
  obtain ⟨rfl, rfl, rfl, _, rfl⟩ := e
  exact h3

theorem ints_oneAt (w : World) (n : Int) {g : Nat} (hg : g = w.heap.size) : Ints (w.alloc (.cells #[.int .i64 n] 3)) (.slice (some ⟨g, 0, none⟩) 1 1) [n] := by
  subst hg
  exact ints_one w n

/-- A host's answers turned in a row of their own. -/
theorem hostOf_third {w w' : World} {lo hi : Nat} {x y z z' q : Value} {h : Ht} {N : List Int} (H : HostOf w lo hi (.agg #[x, y, z, .int .i64 h.c, q]) h) (hg : w.grownBy w' z.ownBlock) (hr : Row w' lo z' N)
    (ho : ∀ g, z'.ownBlock = some g → z.ownBlock = some g ∨ hi ≤ g) (hi' : hi ≤ w'.heap.size) : HostOf w' lo w'.heap.size (.agg #[x, y, z', .int .i64 h.c, q]) { h with n := N } := by
  obtain ⟨x', y', z0, q', e, h1, h2, h3, h4, p1, p2, p3, p4, p5, p6, hh⟩ := H
  simp only [Value.agg.injEq, Array.mk.injEq, List.cons.injEq, and_true, true_and] at e
  obtain ⟨rfl, rfl, rfl, rfl⟩ := e
  have pt : ∀ a : Value, Parted a z → (∀ g, a.ownBlock = some g → g < hi) → Parted a z' := fun a p l g ha hz => by
    rcases ho g hz with h | h
    · exact p g ha h
    · have := l g ha; omega
  refine ⟨_, _, _, _, rfl, borow_mark h1 hg p2, row_mark h2 hg p4, hr, drow_mark h4 hg (parted_sym p6), p1, pt _ p2 (fun g hg => hh g (.inl hg)), p3, pt _ p4 (fun g hg => hh g (.inr (.inl hg))), p5, parted_sym (pt _ (parted_sym p6) (fun g hg => hh g (.inr (.inr (.inr hg))))), fun g hg => ?_⟩
  rcases hg with hg | hg | hg | hg
  · exact Nat.lt_of_lt_of_le (hh g (.inl hg)) hi'
  · exact Nat.lt_of_lt_of_le (hh g (.inr (.inl hg))) hi'
  · exact (row_lt hr g hg).2
  · exact Nat.lt_of_lt_of_le (hh g (.inr (.inr (.inr hg)))) hi'

/-- What laying an answer by comes to. -/
def hAnswer (h : Ht) (n : Int) : Ht × Int := if hOK h then if cellB n then if h.n.length = 20 then (h, 7) else ({ h with n := h.n ++ [n] }, 0) else (noHt, 4) else (noHt, 1)

end Go.Proofs.YthnbaeamekolmaaGreatDoor

namespace Go.Proofs.YthnbaeamekolmaaGreatDoor
open Go.RowKit
set_option linter.unusedVariables false
set_option linter.unusedSimpArgs false

/-- How many cells a capability takes. -/
def capTakes (c : Nat) : Nat := [1, 2, 1, 0].getD c 0

end Go.Proofs.YthnbaeamekolmaaGreatDoor

namespace Go.Proofs.YthnbaeamekolmaaGreatDoor
open Go.RowKit
set_option linter.unusedVariables false
set_option linter.unusedSimpArgs false

/-- What a granted call comes to, of what lies on the stack: a below b. The host, the cell, the throw. -/
def hDo (h : Ht) (c : Nat) (a b : Int) : Ht × Int × Int :=
  if c = 0 then (if inB b 0 7 then ({ h with d := h.d ++ [⟨0, b, 0, h.s.getD b.toNat 0⟩] }, h.s.getD b.toNat 0, 0) else (h, 0, -9))
  else if c = 1 then (if inB b 0 7 then ({ h with s := h.s.set b.toNat a, d := h.d ++ [⟨1, b, a, 0⟩] }, 0, 0) else (h, 0, -9))
  else if c = 2 then ({ h with n := h.n.tail, d := h.d ++ [⟨2, b, 0, h.n.headD 0⟩] }, h.n.headD 0, 0)
  else ({ h with d := h.d ++ [⟨3, 0, 0, h.c⟩] }, h.c, 0)

/-- The value reads as this host wherever the blocks from lo on are as here. -/
def HostSt (w : World) (lo : Nat) (v : Value) (h : Ht) : Prop := ∀ W' : World, (∀ g, lo ≤ g → g < w.heap.size → W'.heap[g]? = w.heap[g]?) → HostIn W' v h

theorem hostSt_of {w : World} {lo' lo hi : Nat} {v : Value} {h : Ht} (hl : lo' ≤ lo) (H : HostOf w lo hi v h) : HostSt w lo' v h := fun W' hW => hostOf_in (hostOf_keep H fun g hg h1 _ => hW g (by omega) hg)

theorem hostSt_now {w : World} {lo : Nat} {v : Value} {h : Ht} (H : HostSt w lo v h) : HostIn w v h := H w fun _ _ _ => rfl

/-- A host that reads, and two numbers. -/
def HDoOf (w : World) (r : Ht × Int × Int) (e : Ending) (w' : World) : Prop := ∃ u, e = .returned (.tuple #[u, .int .i64 r.2.1, .int .i64 r.2.2]) ∧ HostSt w' w.heap.size u r.1 ∧ Below w.heap.size w w'

theorem whole_at {w : World} {g : Nat} {t : TypeId} {cs : Array Value} (hg : g = w.heap.size) : Whole (w.alloc (.cells cs t)) g t cs := by
  subst hg
  exact whole_new w t cs

theorem four_cells {w : World} {g : Nat} {t : TypeId} {a b c d : Value} (h : Whole w g t #[a, b, c, d]) :
    w.cell? ⟨g, 0, none⟩ = some a ∧ w.cell? ⟨g, 1, none⟩ = some b ∧ w.cell? ⟨g, 2, none⟩ = some c ∧ w.cell? ⟨g, 3, none⟩ = some d :=
  ⟨whole_cell h 0, whole_cell h 1, whole_cell h 2, whole_cell h 3⟩

theorem dds_oneAt (w : World) (x : Dd) {g : Nat} (hg : g = w.heap.size) : Dds (w.alloc (.cells #[.int .i64 x.p, .int .i64 x.a, .int .i64 x.b, .int .i64 x.r] 181)) (.slice (some ⟨g, 0, none⟩) 1 1) [x] := by
  obtain ⟨c0, c1, c2, c3⟩ := four_cells (whole_at (t := 181) (cs := #[.int .i64 x.p, .int .i64 x.a, .int .i64 x.b, .int .i64 x.r]) hg)
  refine ⟨by unfold maxLen; simp, some ⟨g, 0, none⟩, 1, rfl, fun _ => ⟨_, rfl, fun k hk => ?_⟩⟩
  have hk0 : k = 0 := by simp at hk; omega
  subst hk0
  rw [show (⟨g, 0, none⟩ : Addr).add (0 * 4) = ⟨g, 0, none⟩ by rw [Addr.add_lit]]
  exact ⟨c0, c1, c2, c3⟩

theorem hostOf_secondRow {w : World} {lo hi : Nat} {x y z q : Value} {h : Ht} {c : Int} (H : HostOf w lo hi (.agg #[x, y, z, .int .i64 c, q]) h) : Row w lo y h.s := by
  obtain ⟨x', y', z', q', e, h1, h2, h3, h4, _⟩ := H
  simp only [Value.agg.injEq, Array.mk.injEq, List.cons.injEq, and_true, true_and] at e
  obtain ⟨rfl, rfl, rfl, _, rfl⟩ := e
  exact h2

theorem hostOf_deedRow {w : World} {lo hi : Nat} {x y z q : Value} {h : Ht} {c : Int} (H : HostOf w lo hi (.agg #[x, y, z, .int .i64 c, q]) h) : DRow w lo q h.d := by
  obtain ⟨x', y', z', q', e, h1, h2, h3, h4, _⟩ := H
  simp only [Value.agg.injEq, Array.mk.injEq, List.cons.injEq, and_true, true_and] at e
  obtain ⟨rfl, rfl, rfl, _, rfl⟩ := e
  exact h4

/-- A cell of a host's store written. -/
theorem hostOf_put {w : World} {lo hi g m k : Nat} {x z q : Value} {h : Ht} (n : Int) (H : HostOf w lo hi (.agg #[x, .slice (some ⟨g, 0, none⟩) h.s.length m, z, .int .i64 h.c, q]) h) :
    HostOf (w.setCell ⟨g, k, none⟩ (.int .i64 n)) lo hi (.agg #[x, .slice (some ⟨g, 0, none⟩) h.s.length m, z, .int .i64 h.c, q]) { h with s := h.s.set k n } := by
  obtain ⟨x', y', z', q', e, h1, h2, h3, h4, p1, p2, p3, p4, p5, p6, hh⟩ := H
  simp only [Value.agg.injEq, Array.mk.injEq, List.cons.injEq, and_true, true_and] at e
  obtain ⟨rfl, rfl, rfl, rfl⟩ := e
  exact ⟨_, _, _, _, rfl, borow_far h1 (parted_ne (parted_sym p1)), (row_set h2 k n).1, row_far h3 (parted_ne p4), drow_far h4 (parted_ne p5), p1, p2, p3, p4, p5, p6, hh⟩

/-- A host's deeds turned in a row of their own. -/
theorem hostOf_deeds {w w' : World} {lo hi : Nat} {x y z q q' : Value} {h : Ht} {N : List Dd} (H : HostOf w lo hi (.agg #[x, y, z, .int .i64 h.c, q]) h) (hg : w.grownBy w' q.ownBlock) (hr : DRow w' lo q' N)
    (ho : ∀ g, q'.ownBlock = some g → q.ownBlock = some g ∨ hi ≤ g) (hi' : hi ≤ w'.heap.size) : HostOf w' lo w'.heap.size (.agg #[x, y, z, .int .i64 h.c, q']) { h with d := N } := by
  obtain ⟨x', y', z0, q0, e, h1, h2, h3, h4, p1, p2, p3, p4, p5, p6, hh⟩ := H
  simp only [Value.agg.injEq, Array.mk.injEq, List.cons.injEq, and_true, true_and] at e
  obtain ⟨rfl, rfl, rfl, rfl⟩ := e
  have pt : ∀ a : Value, Parted a q → (∀ g, a.ownBlock = some g → g < hi) → Parted a q' := fun a p l g ha hz => by
    rcases ho g hz with h | h
    · exact p g ha h
    · have := l g ha; omega
  refine ⟨_, _, _, _, rfl, borow_mark h1 hg p3, row_mark h2 hg p5, row_mark h3 hg p6, hr, p1, p2, pt _ p3 (fun g hg => hh g (.inl hg)), p4, pt _ p5 (fun g hg => hh g (.inr (.inl hg))), pt _ p6 (fun g hg => hh g (.inr (.inr (.inl hg)))), fun g hg => ?_⟩
  rcases hg with hg | hg | hg | hg
  · exact Nat.lt_of_lt_of_le (hh g (.inl hg)) hi'
  · exact Nat.lt_of_lt_of_le (hh g (.inr (.inl hg))) hi'
  · exact Nat.lt_of_lt_of_le (hh g (.inr (.inr (.inl hg)))) hi'
  · exact (drow_lt hr g hg).2

theorem ints_tail {w : World} {ad : Addr} {n m : Nat} {a : Int} {zs : List Int} (hs : n = zs.length) (h : Ints w (.slice (some ad) (a :: zs).length m) (a :: zs)) {p : Nat} : Ints w (.slice (some (ad.add 1)) n p) zs := by
  subst hs
  obtain ⟨hl, A, cap, e, hc⟩ := h
  simp only [Value.slice.injEq, true_and] at e
  obtain ⟨rfl, rfl⟩ := e
  refine ⟨by simp at hl; omega, _, _, rfl, fun hp => ⟨_, rfl, fun k hk => ?_⟩⟩
  obtain ⟨ad', e, hc⟩ := hc (by simp)
  obtain rfl := Option.some.inj e
  have := hc (k + 1) (by simp <;> omega)
  rw [show (ad.add 1).add k = ad.add (k + 1) by rw [Addr.add_add]; congr 1; omega]
  simpa using this

theorem hostIn_third {w : World} {x y z q : Value} {h : Ht} {N : List Int} {z' : Value} (H : HostIn w (.agg #[x, y, z, .int .i64 h.c, q]) h) (hz : Ints w z' N) : HostIn w (.agg #[x, y, z', .int .i64 h.c, q]) { h with n := N } := by
  obtain ⟨x', y', z0, q0, e, h1, h2, h3, h4⟩ := H
  simp only [Value.agg.injEq, Array.mk.injEq, List.cons.injEq, and_true, true_and] at e
  obtain ⟨rfl, rfl, rfl, rfl⟩ := e
  exact ⟨_, _, _, _, rfl, h1, h2, hz, h4⟩

theorem hostOf_thirdInts {w : World} {lo hi : Nat} {x y z q : Value} {h : Ht} {c : Int} (H : HostOf w lo hi (.agg #[x, y, z, .int .i64 c, q]) h) : Ints w z h.n := row_ints (hostOf_thirdRow H)

theorem hostOf_drew {w : World} {lo hi : Nat} {v : Value} {h : Ht} (H : HostOf w lo hi v h) : HostOf w.drew lo hi v h := H

theorem hostIn_ask {w : World} {x y q : Value} {h : Ht} {g m n p : Nat} {n0 : Int} {ns : List Int} {PA : Option Addr} (e : h.n = n0 :: ns) (hn : n = ns.length) (hp : n = 0 ∨ PA = some ⟨g, 1, none⟩) (H : HostIn w (.agg #[x, y, .slice (some ⟨g, 0, none⟩) h.n.length m, .int .i64 h.c, q]) h) :
    HostIn w (.agg #[x, y, .slice PA n p, .int .i64 h.c, q]) { h with n := ns } := by
  refine hostIn_third H ?_
  obtain ⟨x', y', z0, q0, e', h1, h2, h3, h4⟩ := H
  simp only [Value.agg.injEq, Array.mk.injEq, List.cons.injEq, and_true, true_and] at e'
  obtain ⟨rfl, rfl, rfl, rfl⟩ := e'
  rw [e] at h3
  rcases hp with rfl | rfl
  · have : ns = [] := List.eq_nil_of_length_eq_zero hn.symm
    subst this
    exact ⟨Nat.zero_le _, PA, p, rfl, fun h => absurd h (by simp)⟩
  · exact ints_tail (ad := ⟨g, 0, none⟩) hn h3

theorem hostSt_ask {w : World} {x y q : Value} {h : Ht} {g m n p lo' lo hi : Nat} {n0 : Int} {ns : List Int} {PA : Option Addr} (e : h.n = n0 :: ns) (hn : n = ns.length) (hp : n = 0 ∨ PA = some ⟨g, 1, none⟩) (hl : lo' ≤ lo) (H : HostOf w lo hi (.agg #[x, y, .slice (some ⟨g, 0, none⟩) h.n.length m, .int .i64 h.c, q]) h) :
    HostSt w lo' (.agg #[x, y, .slice PA n p, .int .i64 h.c, q]) { h with n := ns } := fun W' hW => hostIn_ask e hn hp (hostSt_of hl H W' hW)

end Go.Proofs.YthnbaeamekolmaaGreatDoor

namespace Go.Proofs.YthnbaeamekolmaaGreatDoor
open Go.RowKit
set_option linter.unusedVariables false
set_option linter.unusedSimpArgs false

/-- A row of the call's own, or what is left of one behind its first cell. -/
def TRow (w : World) (base : Nat) (v : Value) (zs : List Int) : Prop :=
  Row w base v zs ∨ (∃ g cap a, v = .slice (some ⟨g, 1, none⟩) zs.length cap ∧ Row w base (.slice (some ⟨g, 0, none⟩) (a :: zs).length (cap + 1)) (a :: zs)) ∨ (zs = [] ∧ ∃ g, v = .slice (some ⟨g, 0, none⟩) 0 0 ∧ base ≤ g ∧ g < w.heap.size)

theorem trow_row {w : World} {base : Nat} {v : Value} {zs : List Int} (h : Row w base v zs) : TRow w base v zs := .inl h

theorem trow_lt {w : World} {base : Nat} {v : Value} {zs : List Int} (h : TRow w base v zs) : ∀ g, v.ownBlock = some g → base ≤ g ∧ g < w.heap.size := by
  rcases h with h | ⟨g, cap, a, rfl, h⟩ | ⟨rfl, g, rfl, h1, h2⟩
  · exact row_lt h
  · intro k hk
    exact row_lt h k (by simpa [Value.ownBlock] using hk)
  · intro k hk
    have : g = k := by simpa [Value.ownBlock] using hk
    subst this
    exact ⟨h1, h2⟩

theorem trow_keep {w w' : World} {base : Nat} {v : Value} {zs : List Int} (h : TRow w base v zs) (hs : w.heap.size ≤ w'.heap.size) (hk : ∀ g, v.ownBlock = some g → w'.heap[g]? = w.heap[g]?) : TRow w' base v zs := by
  rcases h with h | ⟨g, cap, a, rfl, h⟩ | ⟨rfl, g, rfl, h1, h2⟩
  · exact .inl (row_keep h hk)
  · exact .inr (.inl ⟨g, cap, a, rfl, row_keep h fun k hq => hk k (by simpa [Value.ownBlock] using hq)⟩)
  · exact .inr (.inr ⟨rfl, g, rfl, h1, by omega⟩)

theorem trow_base {w : World} {base base' : Nat} {v : Value} {zs : List Int} (h : TRow w base v zs) (hb : base' ≤ base) : TRow w base' v zs := by
  rcases h with h | ⟨g, cap, a, rfl, h⟩ | ⟨rfl, g, rfl, h1, h2⟩
  · exact .inl (row_base h hb)
  · exact .inr (.inl ⟨g, cap, a, rfl, row_base h hb⟩)
  · exact .inr (.inr ⟨rfl, g, rfl, by omega, h2⟩)

theorem ints_tail1 {w : World} {g cap : Nat} {a : Int} {zs : List Int} (h : Ints w (.slice (some ⟨g, 0, none⟩) (a :: zs).length (cap + 1)) (a :: zs)) : Ints w (.slice (some ⟨g, 1, none⟩) zs.length cap) zs :=
  ints_tail (ad := ⟨g, 0, none⟩) (p := cap) rfl h

theorem trow_ints {w : World} {base : Nat} {v : Value} {zs : List Int} (h : TRow w base v zs) : Ints w v zs := by
  rcases h with h | ⟨g, cap, a, rfl, h⟩ | ⟨rfl, g, rfl, h1, h2⟩
  · exact row_ints h
  · exact ints_tail1 (row_ints h)
  · exact ⟨Nat.zero_le _, _, _, rfl, fun h => absurd h (by simp)⟩

/-- What laying marks leaves. -/
def MarkTOf (w : World) (base : Nat) (v : Value) (n K : Nat) (e : Ending) (w' : World) : Prop := e = .returned (.int .i64 ((K : Int) + n)) ∧ TRow w' base v (marksI K n) ∧ w.grownBy w' v.ownBlock

set_option maxRecDepth 100000 in
set_option maxHeartbeats 1000000 in
theorem markTail_any (g cap base K : Nat) (a : Int) (Q : List Int) (w : World) (h : Row w base (.slice (some ⟨g, 0, none⟩) (a :: Q).length (cap + 1)) (a :: Q)) (hQ : Q.length ≤ 1099511627776) (hK : K ≤ 1099511627776) :
    Calls Tryz.prog 35 #[.slice (some ⟨g, 1, none⟩) Q.length cap, .int .i64 K] w (MarkTOf w base (.slice (some ⟨g, 1, none⟩) Q.length cap) Q.length K) := by
  have H := Lib.hid h
  clear h
  go_enter Tryz.func35, Tryz.ntmps35
  go_wp2
  go_loopw [5, 1] (fun i m wr => ∃ k : Nat, k ≤ Q.length ∧ i = .int .i64 k ∧ m = .int .i64 ((K : Int) + k) ∧ Row wr base (.slice (some ⟨g, 0, none⟩) (Q.length + 1) (cap + 1)) (a :: markToI K k Q) ∧ w.grownBy wr (some g)) (fun i _ _ => Q.length - (intOf i).toNat)
  case atStart => exact ⟨0, Nat.zero_le _, rfl, by simp, by rw [markToI_zero]; exact H.out, World.grownBy.refl w _⟩
  case round =>
    obtain ⟨k, hk, rfl, rfl, hr, hg⟩ := hrel
    have HG := Lib.hid hg
    have HR := Lib.hid hr
    clear hg hr
    by_cases hlt : k < Q.length
    · have pl := markToI_len (K := K) (Nat.le_of_lt hlt)
      have HR' : Row wr base (.slice (some ⟨g, 0, none⟩) (a :: markToI K k Q).length (cap + 1)) (a :: markToI K k Q) := by rw [List.length_cons, pl]; exact HR.out
      obtain ⟨old, ko⟩ : ∃ old : Int, wr.cell? ⟨g, k + 1, none⟩ = some (.int .i64 old) := ⟨_, row_cell HR' (k + 1) (by rw [List.length_cons]; omega)⟩
      have kf := row_free HR' (k + 1)
      have ST := row_set HR' (k + 1) ((K + k : Nat) : Int)
      rw [List.set_cons_succ, markToI_next hlt, List.length_cons, pl, show (((K + k : Nat) : Int)) = (K : Int) + k by omega] at ST
      have ek : 1 + k = k + 1 := by omega
      have SR : Hid (Row (wr.setCell ⟨g, 1 + k, none⟩ (.int .i64 ((K : Int) + k))) base (.slice (some ⟨g, 0, none⟩) (Q.length + 1) (cap + 1)) (a :: markToI K (k + 1) Q)) := Lib.hid (by rw [ek]; exact ST.1)
      have SG : Hid (w.grownBy (wr.setCell ⟨g, 1 + k, none⟩ (.int .i64 ((K : Int) + k))) (some g)) := Lib.hid (by rw [ek]; exact gb_comp HG.out ST.2)
      rw [← ek] at ko kf
      clear ST HR' ek
      go_wp2
      go_roundw
      case rel => exact ⟨k + 1, by omega, by go_num, by go_num, SR.out, SG.out⟩
      case measure => simp [intOf]; omega
    · obtain rfl : k = Q.length := by omega
      rw [markToI_end] at HR
      go_wp2
      go_ret
      have ml := marksI_len K Q.length
      exact ⟨rfl, .inr (.inl ⟨g, cap, a, by rw [ml], by rw [List.length_cons, ml]; exact HR.out⟩), HG.out⟩

set_option maxRecDepth 100000 in
set_option maxHeartbeats 1000000 in
theorem markT_any (v : Value) (base K : Nat) (Q : List Int) (w : World) (h : TRow w base v Q) (hQ : Q.length ≤ 1099511627776) (hK : K ≤ 1099511627776) :
    Calls Tryz.prog 35 #[v, .int .i64 K] w (MarkTOf w base v Q.length K) := by
  rcases h with h | ⟨g, cap, a, rfl, h⟩ | ⟨rfl, g, rfl, h1, h2⟩
  · exact (markInts_any v base K Q w h hQ hK).mono fun e w' ⟨h1, h2, h3⟩ => ⟨h1, .inl h2, h3⟩
  · exact markTail_any g cap base K a Q w h hQ hK
  · go_enter Tryz.func35, Tryz.ntmps35
    go_wp2
    go_loopw [5, 1] (fun i m wr => i = .int .i64 0 ∧ m = .int .i64 K ∧ wr = w) (fun _ _ _ => 0)
    case atStart => exact ⟨rfl, rfl, rfl⟩
    case round =>
      obtain ⟨rfl, rfl, rfl⟩ := hrel
      go_wp2
      go_ret
      exact ⟨by simp, .inr (.inr ⟨rfl, g, rfl, h1, h2⟩), World.grownBy.refl _ _⟩

/-- The value is this host, its rows in blocks of their own from lo on; of the answers' row the first cell may be gone. -/
def HostT (w : World) (lo : Nat) (v : Value) (h : Ht) : Prop :=
  ∃ x y z q, v = .agg #[x, y, z, .int .i64 h.c, q] ∧ BoRow w lo x h.g ∧ Row w lo y h.s ∧ TRow w lo z h.n ∧ DRow w lo q h.d ∧ Parted x y ∧ Parted x z ∧ Parted x q ∧ Parted y z ∧ Parted y q ∧ Parted z q

theorem hostT_of {w : World} {lo hi : Nat} {v : Value} {h : Ht} (H : HostOf w lo hi v h) : HostT w lo v h := by
  obtain ⟨x, y, z, q, e, h1, h2, h3, h4, p1, p2, p3, p4, p5, p6, _⟩ := H
  exact ⟨x, y, z, q, e, h1, h2, .inl h3, h4, p1, p2, p3, p4, p5, p6⟩

theorem hostT_in {w : World} {lo : Nat} {v : Value} {h : Ht} (H : HostT w lo v h) : HostIn w v h := by
  obtain ⟨x, y, z, q, e, h1, h2, h3, h4, _⟩ := H
  exact ⟨x, y, z, q, e, borow_bols h1, row_ints h2, trow_ints h3, drow_dds h4⟩

theorem hostT_keep {w w' : World} {lo : Nat} {v : Value} {h : Ht} (H : HostT w lo v h) (hs : w.heap.size ≤ w'.heap.size) (hk : ∀ g, Mine v g → w'.heap[g]? = w.heap[g]?) : HostT w' lo v h := by
  obtain ⟨x, y, z, q, rfl, h1, h2, h3, h4, p⟩ := H
  have hm : ∀ u ∈ [x, y, z, .int .i64 h.c, q], ∀ g, u.ownBlock = some g → w'.heap[g]? = w.heap[g]? := fun u hu g e => hk g (mine_agg.2 ⟨u, hu, e⟩)
  exact ⟨x, y, z, q, rfl, borow_keep h1 (hm x (by simp)), row_keep h2 (hm y (by simp)), trow_keep h3 hs (hm z (by simp)), drow_keep h4 (hm q (by simp)), p⟩

theorem hostT_mine {w : World} {lo : Nat} {v : Value} {h : Ht} (H : HostT w lo v h) {g : Nat} (hg : Mine v g) : lo ≤ g ∧ g < w.heap.size := by
  obtain ⟨x, y, z, q, rfl, h1, h2, h3, h4, _⟩ := H
  obtain ⟨u, hu, e⟩ := mine_agg.1 hg
  simp only [List.mem_cons, List.not_mem_nil, or_false] at hu
  rcases hu with rfl | rfl | rfl | rfl | rfl
  · exact borow_lt h1 g e
  · exact row_lt h2 g e
  · exact trow_lt h3 g e
  · simp [Value.ownBlock] at e
  · exact drow_lt h4 g e

theorem hostT_below {w w' : World} {lo : Nat} {v : Value} {h : Ht} (H : HostT w lo v h) (hb : Below w.heap.size w w') : HostT w' lo v h := hostT_keep H hb.size fun g hg => hb.block g (hostT_mine H hg).2

theorem hostT_only {S : Nat → Prop} {w w' : World} {lo : Nat} {v : Value} {h : Ht} (H : HostT w lo v h) (hb : Only S w w') (hs : ∀ g, Mine v g → ¬ S g) : HostT w' lo v h := hostT_keep H hb.size fun g hg => hb.block g (hostT_mine H hg).2 (hs g hg)

theorem hostT_base {w : World} {lo lo' : Nat} {v : Value} {h : Ht} (H : HostT w lo v h) (hl : lo' ≤ lo) : HostT w lo' v h := by
  obtain ⟨x, y, z, q, e, h1, h2, h3, h4, p⟩ := H
  exact ⟨x, y, z, q, e, borow_base h1 hl, row_base h2 hl, trow_base h3 hl, drow_base h4 hl, p⟩

theorem hostT_store {w : World} {lo g i : Nat} {v u : Value} {h : Ht} (H : HostT w lo v h) (hg : ∀ k, Mine v k → k ≠ g) : HostT (w.setCell ⟨g, i, none⟩ u) lo v h :=
  hostT_keep H (by simp [World.setCell]) fun k hk => Below.heap_setCell w _ u k (hg k hk)

theorem trow_mark {w w' : World} {lo : Nat} {v u : Value} {zs : List Int} (h : TRow w lo v zs) (hg : w.grownBy w' u.ownBlock) (hp : Parted v u) : TRow w' lo v zs :=
  trow_keep h hg.size fun g hv => hg.block g (trow_lt h g hv).2 (fun e => hp g hv e.symm)

theorem trow_alloc {w : World} {base : Nat} {v : Value} {zs : List Int} (h : TRow w base v zs) (o : Obj) : TRow (w.alloc o) base v zs := trow_keep h (by simp) fun g hg => Below.heap_alloc w o g (trow_lt h g hg).2

end Go.Proofs.YthnbaeamekolmaaGreatDoor

namespace Go.Proofs.YthnbaeamekolmaaGreatDoor
open Go.Joins Go.ChangeShapes Go.WideShapes Go.RowKit Go.Deep Go.ChangeAt
set_option linter.unusedVariables false
set_option linter.unusedSimpArgs false

section
variable {H : Type} {enc : TypeId × Value → H} {w : World} {base : Nat} {spare : Nat → Bool} {held : Bool}

theorem bols_of_trod {fuel : Nat} {v : Value} {x : DataW H × List MemPlace} (h : DataW.trod enc Tryz.prog w base (fun _ => true) held fuel 26 [v] = some x) : ∃ zs, Bols w v zs := by
  rcases open_bools Tryz.underlying26 Tryz.underlying4 (by kernel_rfl) h with ⟨hcs, _⟩ | ⟨a, l, c, B, hcs, _, hl, hm, _, hcell⟩
  · simp only [List.cons.injEq, and_true] at hcs
    subst hcs
    exact ⟨[], Nat.zero_le _, none, 0, rfl, fun h => absurd h (by simp)⟩
  · simp only [List.cons.injEq, and_true] at hcs
    subst hcs
    refine ⟨(List.range l).map B, by simp; omega, some a, c, by simp, fun _ => ⟨a, rfl, fun k hk => ?_⟩⟩
    simp at hk
    rw [hcell k (by omega)]
    simp

theorem deed_one : Tryz.prog.cellsOf 3 = 1 := by kernel_rfl

theorem deed_of_trod {fuel : Nat} {cs : List Value} {x : DataW H × List MemPlace} (hl : cs.length = 4) (h : DataW.trod enc Tryz.prog w base spare held fuel 204 cs = some x) : ∃ y : Dd, cs = [.int .i64 y.p, .int .i64 y.a, .int .i64 y.b, .int .i64 y.r] := by
  match cs, hl with
  | [c0, c1, c2, c3], _ =>
    obtain ⟨xs, n, _, hx, _, hlen, hg⟩ := DataW.trod_struct Tryz.underlying204 h
    match xs, hlen with
    | [y0, y1, y2, y3], _ =>
      have g0 := hg 0 _ rfl
      have g1 := hg 1 _ rfl
      have g2 := hg 2 _ rfl
      have g3 := hg 3 _ rfl
      simp [deed_one] at g0 g1 g2 g3
      obtain ⟨n0, e0, _, _⟩ := DataW.trod_int Tryz.underlying3 g0
      obtain ⟨n1, e1, _, _⟩ := DataW.trod_int Tryz.underlying3 g1
      obtain ⟨n2, e2, _, _⟩ := DataW.trod_int Tryz.underlying3 g2
      obtain ⟨n3, e3, _, _⟩ := DataW.trod_int Tryz.underlying3 g3
      simp only [List.cons.injEq, and_true] at e0 e1 e2 e3
      subst e0 e1 e2 e3
      exact ⟨⟨n0, n1, n2, n3⟩, rfl⟩

theorem choose_deeds {len : Nat} {p : Nat → Dd → Prop} (h : ∀ i, i < len → ∃ x, p i x) : ∃ Q : List Dd, Q.length = len ∧ ∀ i (hi : i < Q.length), p i Q[i] := by
  induction len with
  | zero => exact ⟨[], rfl, fun i hi => by simp at hi⟩
  | succ m ih =>
    obtain ⟨Q, hl, hq⟩ := ih (fun i hi => h i (by omega))
    obtain ⟨x, hx⟩ := h m (by omega)
    refine ⟨Q ++ [x], by simp [hl], fun i hi => ?_⟩
    by_cases e : i < Q.length
    · rw [List.getElem_append_left e]; exact hq i e
    · have : i = m := by simp at hi; omega
      subst this
      rw [List.getElem_append_right (by omega)]
      simp [hl]
      exact hx

theorem dds_of_trod {fuel : Nat} {A : Option Addr} {l c : Nat} {x : DataW H × List MemPlace} (hf : DataW.trod enc Tryz.prog w base (fun _ => true) held fuel 27 [.slice A l c] = some x) : ∃ D : List Dd, Dds w (.slice A l c) D := by
  have hC : Tryz.prog.cellsOf 204 = 4 := by kernel_rfl
  rcases open_slice Tryz.underlying27 hf with ⟨hcs, _⟩ | ⟨a, len, cap, m, n, D, Pl, hcs, hb, hl, hm, hmm, hx, hi⟩
  · simp at hcs
    obtain ⟨rfl, rfl, rfl⟩ := hcs
    exact ⟨[], dds_nil w⟩
  · simp at hcs
    obtain ⟨rfl, rfl, rfl⟩ := hcs
    simp only [if_true] at hmm
    obtain ⟨Q, hlen, hq⟩ := choose_deeds (len := l) (p := fun i x => DdAt w (a.add (i * 4)) x) (fun i hil => by
      obtain ⟨cs', h1, h2⟩ := hi i (by omega)
      rw [hC] at h1
      obtain ⟨_, hcl, hat⟩ := World.cells?_some h1
      obtain ⟨y, rfl⟩ := deed_of_trod hcl h2
      refine ⟨y, ?_, ?_, ?_, ?_⟩
      · have := hat 0 (by omega); rw [Addr.add_zero'] at this; simpa using this
      · have := hat 1 (by omega); rw [Addr.add_succ'] at this; simpa using this
      · have := hat 2 (by omega); rw [Addr.add_succ'] at this; simpa using this
      · have := hat 3 (by omega); rw [Addr.add_succ'] at this; simpa using this)
    exact ⟨Q, by rw [hlen]; omega, some a, c, by rw [hlen], fun _ => ⟨a, rfl, fun k hk => hq k hk⟩⟩

set_option maxRecDepth 100000 in
theorem open_deeds {r : Reach} {b0 : Nat} {v : Value} {d : DataW H} {p : List MemPlace} (hv : Value.okWide Tryz.prog w r b0 27 v) (h : DataW.Trod enc Tryz.prog w base (fun _ => true) held 27 v d p) : ∃ D : List Dd, Dds w v D := by
  obtain ⟨A, l, c, rfl⟩ := okWide_slice Tryz.underlying27 hv
  obtain ⟨fuel, hf⟩ := h
  exact dds_of_trod (fuel := fuel) (x := (d, p)) (by simpa [Value.cells] using hf)

set_option maxRecDepth 100000 in
theorem open_host {r : Reach} {b0 : Nat} {v : Value} {d : DataW H} {p : List MemPlace} (hv : Value.okWide Tryz.prog w r b0 29 v) (h : DataW.Trod enc Tryz.prog w base (fun _ => true) held 29 v d p) :
    ∃ D : Ht, HostIn w v D := by
  obtain ⟨cs, rfl, hsz⟩ := okWide_struct Tryz.underlying29 hv
  have hC : Tryz.prog.cellsOf 29 = 5 := by kernel_rfl
  rw [hC] at hsz
  obtain ⟨l⟩ := cs
  match l, hsz with
  | [c0, c1, c2, c3, c4], _ =>
    obtain ⟨fuel, hf⟩ := h
    obtain ⟨xs, n, _, hx, _, hlen, hg⟩ := DataW.trod_struct Tryz.underlying29 hf
    have one : ∀ t, t = 23 ∨ t = 3 ∨ t = 26 ∨ t = 27 → Tryz.prog.cellsOf t = 1 := by
      rintro t (rfl | rfl | rfl | rfl) <;> kernel_rfl
    match xs, hlen with
    | [y0, y1, y2, y3, y4], _ =>
      have g0 := hg 0 _ rfl
      have g1 := hg 1 _ rfl
      have g2 := hg 2 _ rfl
      have g3 := hg 3 _ rfl
      have g4 := hg 4 _ rfl
      simp [Value.cells, one] at g0 g1 g2 g3 g4
      obtain ⟨zg, hgr⟩ := bols_of_trod g0
      obtain ⟨zs, hs⟩ := ints_of_trod g1
      obtain ⟨zn, hn⟩ := ints_of_trod g2
      obtain ⟨n3, e3, _, _⟩ := DataW.trod_int Tryz.underlying3 g3
      have h4 : ∃ zd, Dds w c4 zd := by
        rcases open_slice Tryz.underlying27 g4 with ⟨hcs, _⟩ | ⟨a, len, cap, m, n, D, Pl, hcs, _⟩ <;>
          (simp only [List.cons.injEq, and_true] at hcs; subst hcs; exact dds_of_trod g4)
      obtain ⟨zd, hd⟩ := h4
      simp only [List.cons.injEq, and_true] at e3
      subst e3
      exact ⟨⟨zg, zs, zn, n3, zd⟩, c0, c1, c2, c4, rfl, hgr, hs, hn, hd⟩
set_option maxRecDepth 100000 in
theorem open_intsA {r : Reach} {b0 : Nat} {v : Value} {d : DataW H} {p : List MemPlace} (hv : Value.okWide Tryz.prog w r b0 23 v) (h : DataW.Trod enc Tryz.prog w base (fun _ => true) held 23 v d p) : ∃ D : List Int, Ints w v D := by
  obtain ⟨A, n, c, rfl⟩ := okWide_slice Tryz.underlying23 hv
  obtain ⟨fuel, hf⟩ := h
  exact ints_of_trod hf

end

end Go.Proofs.YthnbaeamekolmaaGreatDoor
