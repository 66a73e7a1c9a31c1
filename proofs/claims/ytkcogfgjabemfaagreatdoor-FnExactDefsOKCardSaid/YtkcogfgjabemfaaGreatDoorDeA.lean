/- Deeds as values: what reads as a list of deeds, what is owned as one; the laws' copies out of an argument. -/
import Derived.Test.YtkcogfgjabemfaaGreatDoorDatC
import Derived.Laws.StructEq
import Derived.Laws.CopyOwn
import Derived.Laws.Tables
namespace Go.Proofs.YtkcogfgjabemfaaGreatDoor
open Go.RowKit
set_option linter.unusedVariables false
set_option linter.unusedSimpArgs false

/-- A deed: its capability, its two operands, its result. -/
structure Dd where
  p : Int
  a : Int
  b : Int
  r : Int
deriving DecidableEq

/-- Its cells. -/
def dcs (x : Dd) : List Value := [.int .i64 x.p, .int .i64 x.a, .int .i64 x.b, .int .i64 x.r]

/-- The cells of a list of deeds. -/
def dcells (Q : List Dd) : List Value := Q.flatMap dcs

theorem dcells_len (Q : List Dd) : (dcells Q).length = Q.length * 4 := by
  induction Q with
  | nil => rfl
  | cons q r ih => unfold dcells at *; rw [List.flatMap_cons, List.length_append, ih]; simp [dcs]; omega

theorem dcells_at (Q : List Dd) (k j : Nat) (hk : k < Q.length) (hj : j < 4) : (dcells Q)[k * 4 + j]? = (dcs Q[k])[j]? := by
  induction Q generalizing k with
  | nil => simp at hk
  | cons q r ih =>
    unfold dcells at *
    rw [List.flatMap_cons]
    match k with
    | 0 => rw [List.getElem?_append_left (by simp [dcs]; omega)]; simp
    | k + 1 =>
      rw [List.getElem?_append_right (by simp [dcs]; omega), show (k + 1) * 4 + j - (dcs q).length = k * 4 + j by simp [dcs]; omega]
      simp at hk
      rw [ih k (by omega)]
      simp

/-- The four cells of a deed, from an address on. -/
def DdAt (w : World) (a : Addr) (x : Dd) : Prop := w.cell? a = some (.int .i64 x.p) ∧ w.cell? ⟨a.block, a.off + 1, none⟩ = some (.int .i64 x.a) ∧ w.cell? ⟨a.block, a.off + 2, none⟩ = some (.int .i64 x.b) ∧ w.cell? ⟨a.block, a.off + 3, none⟩ = some (.int .i64 x.r)

/-- A slice, nil or not, that reads as these deeds. -/
def Dds (w : World) (v : Value) (Q : List Dd) : Prop :=
  Q.length ≤ maxLen ∧ ∃ A cap, v = .slice A Q.length cap ∧ (0 < Q.length → ∃ ad, A = some ad ∧ ∀ k (h : k < Q.length), DdAt w (ad.add (k * 4)) Q[k])

/-- A slice of the call's own, perhaps nil, of these deeds. -/
def DRow (w : World) (base : Nat) (v : Value) (Q : List Dd) : Prop := w.ownsRow base 109 4 v Q.length (dcells Q)

theorem ddAt_keep {w w' : World} {a : Addr} {x : Dd} (h : DdAt w a x) (hk : ∀ (x : Addr) (u : Value), w.cell? x = some u → w'.cell? x = some u) : DdAt w' a x := ⟨hk _ _ h.1, hk _ _ h.2.1, hk _ _ h.2.2.1, hk _ _ h.2.2.2⟩

theorem dds_keep {w w' : World} {v : Value} {Q : List Dd} (h : Dds w v Q) (hk : ∀ (x : Addr) (u : Value), w.cell? x = some u → w'.cell? x = some u) : Dds w' v Q := by
  obtain ⟨h1, A, cap, hv, hc⟩ := h
  refine ⟨h1, A, cap, hv, fun hp => ?_⟩
  obtain ⟨ad, ha, hc⟩ := hc hp
  exact ⟨ad, ha, fun k hk' => ddAt_keep (hc k hk') hk⟩

theorem cell_kept {w w' : World} (hb : Below w.heap.size w w') (x : Addr) (u : Value) (hx : w.cell? x = some u) : w'.cell? x = some u := by rw [hb.cell (World.block_lt_of_cell? w x hx)]; exact hx

theorem ddAt_below {w w' : World} (hb : Below w.heap.size w w') {a : Addr} {x : Dd} (h : DdAt w a x) : DdAt w' a x := ddAt_keep h (cell_kept hb)

theorem dds_below {w w' : World} {v : Value} {Q : List Dd} (h : Dds w v Q) (hb : Below w.heap.size w w') : Dds w' v Q := dds_keep h (cell_kept hb)

theorem dds_nil (w : World) : Dds w (.slice none 0 0) [] := ⟨Nat.zero_le _, none, 0, rfl, fun h => absurd h (by simp)⟩

theorem drow_nil (w : World) (base : Nat) : DRow w base (.slice none 0 0) [] := World.ownsRow_nil w base _ 4

theorem drow_at {w : World} {base g cap : Nat} {Q : List Dd} (h : DRow w base (.slice (some ⟨g, 0, none⟩) Q.length cap) Q) (k : Nat) (hk : k < Q.length) : DdAt w ⟨g, k * 4, none⟩ Q[k] := by
  have c : ∀ j, j < 4 → w.cell? ⟨g, k * 4 + j, none⟩ = (dcs Q[k])[j]? := fun j hj => by rw [World.ownsRow.cellAt h (k * 4 + j) (by omega), dcells_at Q k j hk hj]
  exact ⟨c 0 (by omega), c 1 (by omega), c 2 (by omega), c 3 (by omega)⟩

theorem drow_dds {w : World} {base : Nat} {v : Value} {Q : List Dd} (h : DRow w base v Q) : Dds w v Q := by
  rcases h.2 with ⟨hv, h0⟩ | ⟨g, cap, cur, hv, hb, hg, h1, h2, h3, h4⟩
  · exact ⟨by rw [h0]; exact Nat.zero_le _, none, 0, by rw [hv, h0], fun hp => absurd hp (by omega)⟩
  · refine ⟨Nat.le_trans h1 h2, some ⟨g, 0, none⟩, cap, hv, fun _ => ⟨_, rfl, fun k hk => ?_⟩⟩
    subst hv
    have := drow_at h k hk
    rwa [show (⟨g, 0, none⟩ : Addr).add (k * 4) = ⟨g, k * 4, none⟩ by rw [Addr.add_lit, Nat.zero_add]]

theorem drow_lt {w : World} {base : Nat} {v : Value} {Q : List Dd} (h : DRow w base v Q) : ∀ g, v.ownBlock = some g → base ≤ g ∧ g < w.heap.size := h.lt

theorem drow_free {w : World} {base g cap n : Nat} {Q : List Dd} (h : DRow w base (.slice (some ⟨g, 0, none⟩) n cap) Q) (j : Nat) : w.frozen? ⟨g, j, none⟩ = false := by
  rcases h.2 with ⟨h', _⟩ | ⟨g', cap', cur, h', _, hg, _⟩
  · cases h'
  · simp only [Value.slice.injEq, Option.some.injEq, Addr.mk.injEq, and_true, true_and] at h'
    obtain ⟨rfl, _⟩ := h'
    simp [World.frozen?, hg]

theorem drow_keep {w w' : World} {base : Nat} {v : Value} {Q : List Dd} (h : DRow w base v Q) (hk : ∀ g, v.ownBlock = some g → w'.heap[g]? = w.heap[g]?) : DRow w' base v Q := by
  obtain ⟨h1, h2⟩ := h
  refine ⟨h1, ?_⟩
  rcases h2 with h2 | ⟨g, cap, cur, hv, hb, hg, r⟩
  · exact .inl h2
  · exact .inr ⟨g, cap, cur, hv, hb, by rw [hk g (by rw [hv]; rfl)]; exact hg, r⟩

theorem drow_below {w w' : World} {base : Nat} {v : Value} {Q : List Dd} (h : DRow w base v Q) (hb : Below w.heap.size w w') : DRow w' base v Q := drow_keep h fun g hg => hb.block g (drow_lt h g hg).2

theorem drow_alloc {w : World} {base : Nat} {v : Value} {Q : List Dd} (h : DRow w base v Q) (o : Obj) : DRow (w.alloc o) base v Q := drow_keep h fun g hg => Below.heap_alloc w o g (drow_lt h g hg).2

theorem drow_base {w : World} {base base' : Nat} {v : Value} {Q : List Dd} (h : DRow w base v Q) (hb : base' ≤ base) : DRow w base' v Q := by
  obtain ⟨h1, h2⟩ := h
  refine ⟨h1, ?_⟩
  rcases h2 with h2 | ⟨g, cap, cur, a1, a2, a3⟩
  · exact .inl h2
  · exact .inr ⟨g, cap, cur, a1, by omega, a3⟩

set_option maxRecDepth 100000 in
set_option maxHeartbeats 1000000 in
theorem toDeed_any (x : Dd) (w : World) :
    Calls Tryz.prog 72 #[.agg #[.int .i64 x.p, .int .i64 x.a, .int .i64 x.b, .int .i64 x.r]] w fun e w' => e = .returned (.agg #[.int .i64 x.p, .int .i64 x.a, .int .i64 x.b, .int .i64 x.r]) ∧ Below w.heap.size w w' := by
  go_enter Tryz.func72, Tryz.ntmps72
  go_wp2
  refine bodyPost_ret (v := .agg #[.int .i64 x.p, .int .i64 x.a, .int .i64 x.b, .int .i64 x.r]) (by simp [results, Tryz.results72, go_sem, *]) rfl ⟨rfl, ?_⟩
  repeat (first | with_reducible exact Below.refl _ _ | with_reducible refine Below.setCell ?_ (by simp; try omega) _ | with_reducible refine Below.alloc ?_ (by simp; try omega) _)

/-- No deed. -/
def noDd : Dd := ⟨0, 0, 0, 0⟩

theorem own_infoDd : (Tryz.prog.info? 109).map (fun i => (i.zero, i.size, i.bytes)) = some (some (.agg #[.int .i64 0, .int .i64 0, .int .i64 0, .int .i64 0]), 4, 32) := by kernel_rfl

theorem dcells_set (Q : List Dd) (k : Nat) (x : Dd) (hk : k < Q.length) : dcells (Q.set k x) = ((((dcells Q).set (k * 4) (.int .i64 x.p)).set (k * 4 + 1) (.int .i64 x.a)).set (k * 4 + 2) (.int .i64 x.b)).set (k * 4 + 3) (.int .i64 x.r) := by
  induction Q generalizing k with
  | nil => simp at hk
  | cons q r ih =>
    match k with
    | 0 => simp [dcells, dcs]
    | k + 1 =>
      simp at hk
      have := ih k (by omega)
      unfold dcells at *
      rw [List.set_cons_succ, List.flatMap_cons, List.flatMap_cons, this, show (k + 1) * 4 = k * 4 + 1 + 1 + 1 + 1 by omega]
      simp [dcs]

theorem dmade_cells (n : Nat) : (madeCells (Value.agg #[.int .i64 0, .int .i64 0, .int .i64 0, .int .i64 0]).cells (n * 4)).toList = dcells (List.replicate n noDd) := by
  apply List.ext_getElem?
  intro j
  by_cases hj : j < n * 4
  · have hk : j / 4 < (List.replicate n noDd).length := by simp; omega
    have h := dcells_at (List.replicate n noDd) (j / 4) (j % 4) hk (by omega)
    rw [show j / 4 * 4 + j % 4 = j by omega] at h
    rw [h]
    have : j % 4 = 0 ∨ j % 4 = 1 ∨ j % 4 = 2 ∨ j % 4 = 3 := by omega
    rcases this with e | e | e | e <;> simp [madeCells, hj, Value.cells, dcs, noDd, e]
  · rw [(List.getElem?_eq_none (by rw [dcells_len]; simp; omega) : (dcells (List.replicate n noDd))[j]? = none)]
    simp [madeCells, hj]

/-- A deed's four cells written. -/
def set4 (w : World) (g k : Nat) (x : Dd) : World := (((w.setCell ⟨g, k * 4, none⟩ (.int .i64 x.p)).setCell ⟨g, k * 4 + 1, none⟩ (.int .i64 x.a)).setCell ⟨g, k * 4 + 2, none⟩ (.int .i64 x.b)).setCell ⟨g, k * 4 + 3, none⟩ (.int .i64 x.r)

theorem drow_set {w : World} {base g cap : Nat} {Q : List Dd} (h : DRow w base (.slice (some ⟨g, 0, none⟩) Q.length cap) Q) (k : Nat) (hk : k < Q.length) (x : Dd) :
    DRow (set4 w g k x) base (.slice (some ⟨g, 0, none⟩) Q.length cap) (Q.set k x) := by
  have h1 := (World.ownsRow.stored h (k * 4) (.int .i64 x.p)).1
  have h2 := (h1.stored (k * 4 + 1) (.int .i64 x.a)).1
  have h3 := (h2.stored (k * 4 + 2) (.int .i64 x.b)).1
  have h4 := (h3.stored (k * 4 + 3) (.int .i64 x.r)).1
  rw [← dcells_set Q k x hk] at h4
  unfold DRow set4
  rw [List.length_set]
  exact h4

theorem below_set4 {B : Nat} {w0 w : World} (hb : Below B w0 w) {g : Nat} (hg : B ≤ g) (k : Nat) (x : Dd) : Below B w0 (set4 w g k x) :=
  (((hb.setCell (p := ⟨g, k * 4, none⟩) hg _).setCell (p := ⟨g, k * 4 + 1, none⟩) hg _).setCell (p := ⟨g, k * 4 + 2, none⟩) hg _).setCell (p := ⟨g, k * 4 + 3, none⟩) hg _

theorem grown_set4 (w : World) (g k : Nat) (x : Dd) : w.grownBy (set4 w g k x) (some g) :=
  ⟨rfl, rfl, rfl, by simp [set4], fun i hi hne => by
    have h : i ≠ g := fun e => hne (by rw [e])
    unfold set4
    rw [Below.heap_setCell _ _ _ _ h, Below.heap_setCell _ _ _ _ h, Below.heap_setCell _ _ _ _ h, Below.heap_setCell _ _ _ _ h]⟩

/-- The first k deeds, no deeds behind them. -/
def dTo (Q : List Dd) (k : Nat) : List Dd := Q.take k ++ List.replicate (Q.length - k) noDd

theorem dTo_len (Q : List Dd) {k : Nat} (h : k ≤ Q.length) : (dTo Q k).length = Q.length := by unfold dTo; rw [List.length_append, List.length_take, List.length_replicate]; omega

theorem dTo_zero (Q : List Dd) : dTo Q 0 = List.replicate Q.length noDd := by unfold dTo; simp

theorem dTo_end (Q : List Dd) : dTo Q Q.length = Q := by unfold dTo; simp

theorem dTo_next (Q : List Dd) {k : Nat} (h : k < Q.length) : (dTo Q k).set k Q[k] = dTo Q (k + 1) := by
  unfold dTo
  rw [List.set_append_right _ _ (by rw [List.length_take]; omega), List.length_take, Nat.min_eq_left (by omega), Nat.sub_self, List.take_succ_eq_append_getElem h, show Q.length - k = (Q.length - (k + 1)) + 1 by omega, List.replicate_succ, List.set_cons_zero, List.append_assoc]
  rfl

/-- What makes a list of deeds leaves: the list, in memory of its own. -/
def DListOf (w : World) (Q : List Dd) (e : Ending) (w' : World) : Prop := ∃ v, e = .returned v ∧ DRow w' w.heap.size v Q ∧ v.ownBlock ≠ none ∧ Below w.heap.size w w'

set_option maxRecDepth 100000 in
set_option maxHeartbeats 2000000 in
theorem toDeedS_any (v : Value) (Q : List Dd) (w : World) (hv : Dds w v Q) (hs : Q.length ≤ 1048576) :
    Calls Tryz.prog 47 #[v] w (DListOf w Q) := by
  obtain ⟨i0, hi0, hz0, hz1, hz2⟩ := info_parts own_infoDd
  have I0 := Lib.hid hi0
  have Z0 := Lib.hid hz0
  have Z1 := Lib.hid hz1
  have B8 : Hid (i0.bytes * Q.length ≤ 281474976710656) := Lib.hid (by rw [hz2]; omega)
  have HV := Lib.hid hv
  obtain ⟨hl, A, cap, rfl, hc⟩ := hv
  clear hc hi0 hz0 hz1 hz2 hl
  go_enter Tryz.func47, Tryz.ntmps47
  go_wp2_with (first
    | (at_make; refine wpList_make_full _ rfl _ _ 39 rfl w.heap.size 109 i0 _ 4 Tryz.underlying39 I0.out Z0.out Z1.out .i64 .i64 _ _ Q.length rfl rfl rfl rfl B8.out (by unfold maxLen; omega) (by simp) ?_
       intro w1 ho1 hg1
       rw [dmade_cells] at ho1
       have R1 : Hid (DRow w1 w.heap.size (.slice (some ⟨w.heap.size, 0, none⟩) Q.length Q.length) (dTo Q 0)) := Lib.hid (by unfold DRow; rw [dTo_zero]; simpa using ho1)
       have B1 : Hid (Below w.heap.size w w1) := Lib.hid ((Below.refl _ _).grown hg1 (Nat.le_refl _) (by simp))
       clear ho1 hg1))
  go_loopw [4] (fun i wr => ∃ k : Nat, k ≤ Q.length ∧ i = .int .i64 k ∧ DRow wr w.heap.size (.slice (some ⟨w.heap.size, 0, none⟩) Q.length Q.length) (dTo Q k) ∧ Below w.heap.size w wr) (fun i _ => Q.length - (intOf i).toNat)
  case atStart => exact ⟨0, Nat.zero_le _, rfl, R1.out, B1.out⟩
  case round =>
    obtain ⟨k, hk, rfl, hr, hb⟩ := hrel
    have HR := Lib.hid hr
    have HB := Lib.hid hb
    clear hr hb
    by_cases hlt : k < Q.length
    · obtain ⟨_, A', cap', e', hc⟩ := dds_below HV.out HB.out
      simp only [Value.slice.injEq, true_and] at e'
      obtain ⟨rfl, rfl⟩ := e'
      obtain ⟨ad, rfl, hd⟩ := hc (by omega)
      obtain ⟨c0, c1, c2, c3⟩ := hd k hlt
      clear hc hd
      go_wp2_with fail
      refine (toDeed_any _ _).mono ?_
      rintro e w2 ⟨rfl, hb2⟩
      have B2 := Lib.hid (below_step HB.out hb2)
      have R2 := Lib.hid (drow_below HR.out hb2)
      clear hb2 c0 c1 c2 c3
      have R3 : DRow w2 w.heap.size (.slice (some ⟨w.heap.size, 0, none⟩) (dTo Q k).length Q.length) (dTo Q k) := by rw [dTo_len Q hk]; exact R2.out
      have ST : Hid (DRow (set4 w2 w.heap.size k Q[k]) w.heap.size (.slice (some ⟨w.heap.size, 0, none⟩) Q.length Q.length) (dTo Q (k + 1))) := Lib.hid (by
        have h3 := drow_set R3 k (by rw [dTo_len Q hk]; exact hlt) Q[k]
        rw [dTo_next Q hlt, dTo_len Q hk] at h3
        exact h3)
      have SB := Lib.hid (below_set4 B2.out (g := w.heap.size) (Nat.le_refl _) k Q[k])
      have zl : w.heap.size < w2.heap.size := (drow_lt R2.out _ rfl).2
      obtain ⟨o0, o1, o2, o3⟩ := drow_at R3 k (by rw [dTo_len Q hk]; exact hlt)
      have f0 := drow_free R2.out (k * 4)
      have f1 := drow_free R2.out (k * 4 + 1)
      have f2 := drow_free R2.out (k * 4 + 2)
      have f3 := drow_free R2.out (k * 4 + 3)
      clear R3
      unfold set4 at ST SB
      generalize ((dTo Q k)[k]'(by rw [dTo_len Q hk]; exact hlt)) = old at *
      simp only at o0 o1 o2 o3
      go_wp2
      go_roundw
      case rel => exact ⟨k + 1, by omega, by go_num, ST.out, SB.out⟩
      case measure => simp [intOf]; omega
    · obtain rfl : k = Q.length := by omega
      clear hlt
      go_wp2
      go_ret
      exact ⟨_, rfl, by have h := HR.out; rwa [dTo_end] at h, by simp [Value.ownBlock], HB.out⟩

set_option maxHeartbeats 400000 in
theorem szDeeds_any (A : Option Addr) (n cap : Nat) (left : Int) (w : World) (hn : n ≤ maxLen) (h0 : 0 ≤ left) (h1 : left ≤ 1048576) :
    Calls Tryz.prog 36 #[.slice A n cap, .int .i64 left] w fun e w' => e = .returned (.int .i64 (leftOf left n)) ∧ w = w' := by
  unfold maxLen at hn
  by_cases h : left - n < 0
  · have E : Hid (leftOf left n = -1) := Lib.hid (by unfold leftOf; rw [if_pos h])
    go_enter Tryz.func36, Tryz.ntmps36
    go_wp2
    go_ret
    exact ⟨ret_int E.out.symm, rfl⟩
  · have E : Hid (leftOf left n = left - n) := Lib.hid (by unfold leftOf; rw [if_neg h])
    go_enter Tryz.func36, Tryz.ntmps36
    go_wp2
    go_ret
    exact ⟨ret_int E.out.symm, rfl⟩

end Go.Proofs.YtkcogfgjabemfaaGreatDoor
