/- Words as values: what reads as a list of words, what is owned as one; the laws' helpers on words: sizes, copies out of an argument. -/
import Derived.Test.YthnbaeamekolmaaGreatDoorUpC
import Derived.Test.YthnbaeamekolmaaGreatDoorStrsB
import Derived.Laws.StructEq
import Derived.Laws.CopyOwn
import Derived.Laws.Tables
namespace Go.Proofs.YthnbaeamekolmaaGreatDoor
open Go.RowKit
set_option linter.unusedVariables false
set_option linter.unusedSimpArgs false

/-- A word of a dictionary. -/
structure Wd where
  n : ByteArray
  k : Int
  v : Int
deriving DecidableEq

/-- Its cells. -/
def wcs (x : Wd) : List Value := [.string x.n, .int .i64 x.k, .int .i64 x.v]

/-- Its value. -/
def wagg (x : Wd) : Value := .agg #[.string x.n, .int .i64 x.k, .int .i64 x.v]

/-- The cells of a list of words. -/
def wcells (Q : List Wd) : List Value := Q.flatMap wcs

theorem wcells_len (Q : List Wd) : (wcells Q).length = Q.length * 3 := by
  induction Q with
  | nil => rfl
  | cons q r ih => unfold wcells at *; rw [List.flatMap_cons, List.length_append, ih]; simp [wcs]; omega

theorem wcells_at (Q : List Wd) (k j : Nat) (hk : k < Q.length) (hj : j < 3) : (wcells Q)[k * 3 + j]? = (wcs Q[k])[j]? := by
  induction Q generalizing k with
  | nil => simp at hk
  | cons q r ih =>
    unfold wcells at *
    rw [List.flatMap_cons]
    match k with
    | 0 => rw [List.getElem?_append_left (by simp [wcs]; omega)]; simp
    | k + 1 =>
      rw [List.getElem?_append_right (by simp [wcs]; omega), show (k + 1) * 3 + j - (wcs q).length = k * 3 + j by simp [wcs]; omega]
      simp at hk
      rw [ih k (by omega)]
      simp

/-- The three cells of a word, from an address on. -/
def WdAt (w : World) (a : Addr) (x : Wd) : Prop := w.cell? a = some (.string x.n) ∧ w.cell? ⟨a.block, a.off + 1, none⟩ = some (.int .i64 x.k) ∧ w.cell? ⟨a.block, a.off + 2, none⟩ = some (.int .i64 x.v)

/-- The names are no longer than a text can be. -/
def Names (Q : List Wd) : Prop := ∀ x ∈ Q, x.n.size ≤ maxLen

/-- A slice that came in, nil or not, that reads as these words. -/
def WdsL (w : World) (v : Value) (Q : List Wd) : Prop :=
  Q.length ≤ maxLen ∧ Names Q ∧ ∃ A cap, v = .slice A Q.length cap ∧ (0 < Q.length → ∃ ad, A = some ad ∧ ∀ k (h : k < Q.length), WdAt w (ad.add (k * 3)) Q[k])

/-- A slice of the call's own making, nil or not, that reads as these words. -/
def Wds (w : World) (v : Value) (Q : List Wd) : Prop :=
  Q.length ≤ maxLen ∧ Names Q ∧ ∃ A cap, v = .slice A Q.length cap ∧ Q.length ≤ cap ∧ (0 < Q.length → ∃ g, A = some ⟨g, 0, none⟩ ∧ ∀ k (h : k < Q.length), WdAt w ⟨g, k * 3, none⟩ Q[k])

/-- A slice of the call's own, perhaps nil, of these words. -/
def WRow (w : World) (base : Nat) (v : Value) (Q : List Wd) : Prop := w.ownsRow base 129 3 v Q.length (wcells Q) ∧ Names Q

theorem wdAt_keep {w w' : World} {a : Addr} {x : Wd} (h : WdAt w a x) (hk : ∀ (x : Addr) (u : Value), w.cell? x = some u → w'.cell? x = some u) : WdAt w' a x := ⟨hk _ _ h.1, hk _ _ h.2.1, hk _ _ h.2.2⟩

theorem wdsL_keep {w w' : World} {v : Value} {Q : List Wd} (h : WdsL w v Q) (hk : ∀ (x : Addr) (u : Value), w.cell? x = some u → w'.cell? x = some u) : WdsL w' v Q := by
  obtain ⟨h1, h2, A, cap, hv, hc⟩ := h
  refine ⟨h1, h2, A, cap, hv, fun hp => ?_⟩
  obtain ⟨ad, ha, hc⟩ := hc hp
  exact ⟨ad, ha, fun k hk' => wdAt_keep (hc k hk') hk⟩

theorem wds_keep {w w' : World} {v : Value} {Q : List Wd} (h : Wds w v Q) (hk : ∀ (x : Addr) (u : Value), w.cell? x = some u → w'.cell? x = some u) : Wds w' v Q := by
  obtain ⟨h1, h2, A, cap, hv, h3, hc⟩ := h
  refine ⟨h1, h2, A, cap, hv, h3, fun hp => ?_⟩
  obtain ⟨g, ha, hc⟩ := hc hp
  exact ⟨g, ha, fun k hk' => wdAt_keep (hc k hk') hk⟩

theorem cells_below {w w' : World} (hb : Below w.heap.size w w') (x : Addr) (u : Value) (hx : w.cell? x = some u) : w'.cell? x = some u := by rw [hb.cell (World.block_lt_of_cell? w x hx)]; exact hx

theorem wdsL_below {w w' : World} {v : Value} {Q : List Wd} (h : WdsL w v Q) (hb : Below w.heap.size w w') : WdsL w' v Q := wdsL_keep h (cells_below hb)

theorem wds_below {w w' : World} {v : Value} {Q : List Wd} (h : Wds w v Q) (hb : Below w.heap.size w w') : Wds w' v Q := wds_keep h (cells_below hb)

theorem wds_nil (w : World) : Wds w (.slice none 0 0) [] := ⟨Nat.zero_le _, fun _ h => by simp at h, none, 0, rfl, Nat.le_refl _, fun h => absurd h (by simp)⟩

theorem wrow_nil (w : World) (base : Nat) : WRow w base (.slice none 0 0) [] := ⟨World.ownsRow_nil w base _ 3, fun _ h => by simp at h⟩

theorem wrow_at {w : World} {base g cap : Nat} {Q : List Wd} (h : w.ownsRow base 129 3 (.slice (some ⟨g, 0, none⟩) Q.length cap) Q.length (wcells Q)) (k : Nat) (hk : k < Q.length) : WdAt w ⟨g, k * 3, none⟩ Q[k] := by
  have c : ∀ j, j < 3 → w.cell? ⟨g, k * 3 + j, none⟩ = (wcs Q[k])[j]? := fun j hj => by rw [h.cellAt (k * 3 + j) (by omega), wcells_at Q k j hk hj]
  exact ⟨c 0 (by omega), c 1 (by omega), c 2 (by omega)⟩

theorem wrow_wds {w : World} {base : Nat} {v : Value} {Q : List Wd} (h : WRow w base v Q) : Wds w v Q := by
  obtain ⟨h, hn⟩ := h
  rcases h.2 with ⟨hv, h0⟩ | ⟨g, cap, cur, hv, hb, hg, h1, h2, h3, h4⟩
  · exact ⟨by rw [h0]; exact Nat.zero_le _, hn, none, 0, by rw [hv, h0], by rw [h0]; exact Nat.le_refl _, fun hp => absurd hp (by omega)⟩
  · refine ⟨Nat.le_trans h1 h2, hn, some ⟨g, 0, none⟩, cap, hv, h1, fun _ => ⟨g, rfl, fun k hk => ?_⟩⟩
    subst hv
    exact wrow_at h k hk

theorem wrow_lt {w : World} {base : Nat} {v : Value} {Q : List Wd} (h : WRow w base v Q) : ∀ g, v.ownBlock = some g → base ≤ g ∧ g < w.heap.size := h.1.lt

theorem wrow_free {w : World} {base g cap n : Nat} {Q : List Wd} (h : WRow w base (.slice (some ⟨g, 0, none⟩) n cap) Q) (j : Nat) : w.frozen? ⟨g, j, none⟩ = false := by
  rcases h.1.2 with ⟨h', _⟩ | ⟨g', cap', cur, h', _, hg, _⟩
  · cases h'
  · simp only [Value.slice.injEq, Option.some.injEq, Addr.mk.injEq, and_true, true_and] at h'
    obtain ⟨rfl, _⟩ := h'
    simp [World.frozen?, hg]

theorem wrow_below {w w' : World} {base : Nat} {v : Value} {Q : List Wd} (h : WRow w base v Q) (hb : Below w.heap.size w w') : WRow w' base v Q := ⟨h.1.kept (row := none) (gb_of_below hb) (by
    cases hv : v.ownBlock
    · exact .inl rfl
    · exact .inr (by simp)), h.2⟩

theorem wrow_base {w : World} {base base' : Nat} {v : Value} {Q : List Wd} (h : WRow w base v Q) (hb : base' ≤ base) : WRow w base' v Q := by
  obtain ⟨⟨h1, h2⟩, hn⟩ := h
  refine ⟨⟨h1, ?_⟩, hn⟩
  rcases h2 with h2 | ⟨g, cap, cur, a1, a2, a3⟩
  · exact .inl h2
  · exact .inr ⟨g, cap, cur, a1, by omega, a3⟩

theorem below_allocW {a b : World} (h : Below a.heap.size a b) (o : Obj) : Below a.heap.size a (b.alloc o) := h.alloc h.size o

theorem below_stepW {a b c : World} (h : Below a.heap.size a b) (k : Below b.heap.size b c) : Below a.heap.size a c := h.trans (k.mono h.size)

set_option maxRecDepth 100000 in
set_option maxHeartbeats 1000000 in
theorem szWord_any (x : Wd) (left : Int) (w : World) (h0 : 0 ≤ left) (h1 : left ≤ 1048576) (hx : x.n.size ≤ maxLen) :
    Calls Tryz.prog 143 #[.agg #[.string x.n, .int .i64 x.k, .int .i64 x.v], .int .i64 left] w fun e w' => e = .returned (.int .i64 (if left - x.n.size < 0 then -1 else left - x.n.size)) ∧ Below w.heap.size w w' := by
  unfold maxLen at hx
  by_cases h : left - x.n.size < 0
  · have E : Hid ((if left - (x.n.size : Int) < 0 then -1 else left - (x.n.size : Int)) = -1) := Lib.hid (if_pos h)
    go_enter Tryz.func143, Tryz.ntmps143
    go_wp2
    go_ret
    exact ⟨rfl, below_allocW (Below.refl _ _) _⟩
  · have E : Hid ((if left - (x.n.size : Int) < 0 then -1 else left - (x.n.size : Int)) = left - (x.n.size : Int)) := Lib.hid (if_neg h)
    go_enter Tryz.func143, Tryz.ntmps143
    go_wp2
    go_ret
    exact ⟨rfl, below_allocW (Below.refl _ _) _⟩

/-- The texts of the names are small, and so is their number. -/
def SmallW (Q : List Wd) : Prop := Q.length ≤ 1048576 ∧ ∀ x ∈ Q, x.n.size ≤ 1048576

/-- What is left of a size: below 0, or the words are small. -/
def SzOfW (w : World) (Q : List Wd) (e : Ending) (w' : World) : Prop := ∃ r : Int, e = .returned (.int .i64 r) ∧ (r = -1 ∨ (0 ≤ r ∧ r ≤ 1048576 ∧ SmallW Q)) ∧ Below w.heap.size w w'

/-- The first k names are small. -/
def SmallTo (Q : List Wd) (k : Nat) : Prop := ∀ x ∈ Q.take k, x.n.size ≤ 1048576

theorem smallTo_next {Q : List Wd} {k : Nat} (h : SmallTo Q k) (hk : k < Q.length) (hs : Q[k].n.size ≤ 1048576) : SmallTo Q (k + 1) := by
  intro x hx
  rw [List.take_succ_eq_append_getElem hk] at hx
  rcases List.mem_append.1 hx with hx | hx
  · exact h x hx
  · rw [List.mem_singleton.1 hx]; exact hs

theorem smallTo_end {Q : List Wd} (h : SmallTo Q Q.length) : ∀ x ∈ Q, x.n.size ≤ 1048576 := by unfold SmallTo at h; rwa [List.take_length] at h

set_option maxRecDepth 100000 in
set_option maxHeartbeats 1000000 in
theorem szWordS_any (v : Value) (Q : List Wd) (w : World) (hv : WdsL w v Q) :
    Calls Tryz.prog 74 #[v, .int .i64 1048576] w (SzOfW w Q) := by
  have HV := Lib.hid hv
  obtain ⟨hl, hn, A, cap, rfl, hc⟩ := hv
  have HN := Lib.hid hn
  unfold maxLen at hl
  clear hc hn
  by_cases h0 : 1048576 - (Q.length : Int) < 0
  · go_enter Tryz.func74, Tryz.ntmps74
    go_wp2
    go_ret
    exact ⟨-1, rfl, .inl rfl, Below.refl _ _⟩
  · go_enter Tryz.func74, Tryz.ntmps74
    go_wp2
    go_loopw [5, 1] (fun i l wr => ∃ (k : Nat) (r : Int), k ≤ Q.length ∧ i = .int .i64 k ∧ l = .int .i64 r ∧ 0 ≤ r ∧ r ≤ 1048576 ∧ SmallTo Q k ∧ Below w.heap.size w wr) (fun i _ _ => Q.length - (intOf i).toNat)
    case atStart => exact ⟨0, 1048576 - (Q.length : Int), Nat.zero_le _, rfl, rfl, by omega, by omega, fun x hx => by simp at hx, Below.refl _ _⟩
    case round =>
      obtain ⟨k, r, hk, rfl, rfl, hr0, hr1, hs, hb⟩ := hrel
      have HS := Lib.hid hs
      have HB := Lib.hid hb
      clear hs hb
      by_cases hlt : k < Q.length
      · obtain ⟨_, _, A', cap', e', hc⟩ := wdsL_below HV.out HB.out
        simp only [Value.slice.injEq, true_and] at e'
        obtain ⟨rfl, rfl⟩ := e'
        obtain ⟨ad, rfl, hd⟩ := hc (by omega)
        obtain ⟨c0, c1, c2⟩ := hd k hlt
        have hxs : Q[k].n.size ≤ maxLen := HN.out _ (List.getElem_mem hlt)
        have HX := Lib.hid hxs
        clear hc hd hxs
        go_wp2_with fail
        refine (szWord_any _ _ _ hr0 hr1 HX.out).mono ?_
        rintro e w1 ⟨rfl, hb1⟩
        have B1 := Lib.hid (below_stepW HB.out hb1)
        clear hb1 c0 c1 c2
        by_cases hs : r - (Q[k].n.size : Int) < 0
        · rw [if_pos hs]
          clear hs
          go_wp2
          go_ret
          exact ⟨-1, rfl, .inl rfl, B1.out⟩
        · rw [if_neg hs]
          have NX := Lib.hid (smallTo_next HS.out hlt (by omega))
          generalize hz : (Q[k].n.size : Int) = z at *
          have z0 : 0 ≤ z := by omega
          clear hz
          go_wp2
          go_roundw
          case rel => exact ⟨k + 1, r - z, by omega, by go_num, rfl, by omega, by omega, NX.out, B1.out⟩
          case measure => simp [intOf]; omega
      · obtain rfl : k = Q.length := by omega
        clear hlt
        go_wp2
        go_ret
        exact ⟨r, rfl, .inr ⟨hr0, hr1, by omega, smallTo_end HS.out⟩, HB.out⟩

set_option maxRecDepth 100000 in
set_option maxHeartbeats 1000000 in
theorem toWord_any (x : Wd) (w : World) :
    Calls Tryz.prog 154 #[.agg #[.string x.n, .int .i64 x.k, .int .i64 x.v]] w fun e w' => e = .returned (.agg #[.string x.n, .int .i64 x.k, .int .i64 x.v]) ∧ Below w.heap.size w w' := by
  go_enter Tryz.func154, Tryz.ntmps154
  go_wp2
  refine bodyPost_ret (v := .agg #[.string x.n, .int .i64 x.k, .int .i64 x.v]) (by simp [results, Tryz.results154, go_sem, *]) rfl ⟨rfl, ?_⟩
  repeat (first | with_reducible exact Below.refl _ _ | with_reducible refine Below.setCell ?_ (by simp; try omega) _ | with_reducible refine Below.alloc ?_ (by simp; try omega) _)

/-- No word. -/
def noWd : Wd := ⟨⟨#[]⟩, 0, 0⟩

theorem own_infoW : (Tryz.prog.info? 129).map (fun i => (i.zero, i.size, i.bytes)) = some (some (.agg #[.string ⟨#[]⟩, .int .i64 0, .int .i64 0]), 3, 32) := by kernel_rfl

theorem wcells_set (Q : List Wd) (k : Nat) (x : Wd) (hk : k < Q.length) : wcells (Q.set k x) = (((wcells Q).set (k * 3) (.string x.n)).set (k * 3 + 1) (.int .i64 x.k)).set (k * 3 + 2) (.int .i64 x.v) := by
  induction Q generalizing k with
  | nil => simp at hk
  | cons q r ih =>
    match k with
    | 0 => simp [wcells, wcs]
    | k + 1 =>
      simp at hk
      have := ih k (by omega)
      unfold wcells at *
      rw [List.set_cons_succ, List.flatMap_cons, List.flatMap_cons, this, show (k + 1) * 3 = k * 3 + 1 + 1 + 1 by omega]
      simp [wcs]

theorem made_cells (n : Nat) : (madeCells (Value.agg #[.string ⟨#[]⟩, .int .i64 0, .int .i64 0]).cells (n * 3)).toList = wcells (List.replicate n noWd) := by
  apply List.ext_getElem?
  intro j
  by_cases hj : j < n * 3
  · have hk : j / 3 < (List.replicate n noWd).length := by simp; omega
    have h := wcells_at (List.replicate n noWd) (j / 3) (j % 3) hk (by omega)
    rw [show j / 3 * 3 + j % 3 = j by omega] at h
    rw [h]
    have : j % 3 = 0 ∨ j % 3 = 1 ∨ j % 3 = 2 := by omega
    rcases this with e | e | e <;> simp [madeCells, hj, Value.cells, wcs, noWd, e]
  · rw [(List.getElem?_eq_none (by rw [wcells_len]; simp; omega) : (wcells (List.replicate n noWd))[j]? = none)]
    simp [madeCells, hj]

theorem names_set {Q : List Wd} (h : Names Q) (k : Nat) {x : Wd} (hx : x.n.size ≤ maxLen) : Names (Q.set k x) := by
  intro y hy
  rcases List.mem_or_eq_of_mem_set hy with hy | rfl
  · exact h y hy
  · exact hx

theorem wrow_set {w : World} {base g cap : Nat} {Q : List Wd} (h : WRow w base (.slice (some ⟨g, 0, none⟩) Q.length cap) Q) (k : Nat) (hk : k < Q.length) (x : Wd) (hx : x.n.size ≤ maxLen) :
    WRow (((w.setCell ⟨g, k * 3, none⟩ (.string x.n)).setCell ⟨g, k * 3 + 1, none⟩ (.int .i64 x.k)).setCell ⟨g, k * 3 + 2, none⟩ (.int .i64 x.v)) base (.slice (some ⟨g, 0, none⟩) Q.length cap) (Q.set k x) := by
  have h1 := (h.1.stored (k * 3) (.string x.n)).1
  have h2 := (h1.stored (k * 3 + 1) (.int .i64 x.k)).1
  have h3 := (h2.stored (k * 3 + 2) (.int .i64 x.v)).1
  rw [← wcells_set Q k x hk] at h3
  refine ⟨?_, names_set h.2 k hx⟩
  rw [List.length_set]
  exact h3

theorem below_set3 {B : Nat} {w0 w : World} (hb : Below B w0 w) {g : Nat} (hg : B ≤ g) (i j k : Nat) (a b c : Value) : Below B w0 (((w.setCell ⟨g, i, none⟩ a).setCell ⟨g, j, none⟩ b).setCell ⟨g, k, none⟩ c) :=
  ((hb.setCell (p := ⟨g, i, none⟩) hg _).setCell (p := ⟨g, j, none⟩) hg _).setCell (p := ⟨g, k, none⟩) hg _

/-- The first k words, no words behind them. -/
def wTo (Q : List Wd) (k : Nat) : List Wd := Q.take k ++ List.replicate (Q.length - k) noWd

theorem wTo_len (Q : List Wd) {k : Nat} (h : k ≤ Q.length) : (wTo Q k).length = Q.length := by unfold wTo; rw [List.length_append, List.length_take, List.length_replicate]; omega

theorem wTo_zero (Q : List Wd) : wTo Q 0 = List.replicate Q.length noWd := by unfold wTo; simp

theorem wTo_end (Q : List Wd) : wTo Q Q.length = Q := by unfold wTo; simp

theorem wTo_next (Q : List Wd) {k : Nat} (h : k < Q.length) : (wTo Q k).set k Q[k] = wTo Q (k + 1) := by
  unfold wTo
  rw [List.set_append_right _ _ (by rw [List.length_take]; omega), List.length_take, Nat.min_eq_left (by omega), Nat.sub_self, List.take_succ_eq_append_getElem h, show Q.length - k = (Q.length - (k + 1)) + 1 by omega, List.replicate_succ, List.set_cons_zero, List.append_assoc]
  rfl

/-- What makes a list of words leaves: the list, in memory of its own. -/
def ListOf (w : World) (Q : List Wd) (e : Ending) (w' : World) : Prop := ∃ v, e = .returned v ∧ WRow w' w.heap.size v Q ∧ v.ownBlock ≠ none ∧ Below w.heap.size w w'

set_option maxRecDepth 100000 in
set_option maxHeartbeats 2000000 in
theorem toWordS_any (v : Value) (Q : List Wd) (w : World) (hv : WdsL w v Q) (hs : Q.length ≤ 1048576) :
    Calls Tryz.prog 81 #[v] w (ListOf w Q) := by
  obtain ⟨i0, hi0, hz0, hz1, hz2⟩ := info_parts own_infoW
  have I0 := Lib.hid hi0
  have Z0 := Lib.hid hz0
  have Z1 := Lib.hid hz1
  have B8 : Hid (i0.bytes * Q.length ≤ 281474976710656) := Lib.hid (by rw [hz2]; omega)
  have HV := Lib.hid hv
  obtain ⟨hl, hn, A, cap, rfl, hc⟩ := hv
  have HN := Lib.hid hn
  clear hc hn hi0 hz0 hz1 hz2 hl
  go_enter Tryz.func81, Tryz.ntmps81
  go_wp2_with (first
    | (at_make; refine wpList_make_full _ rfl _ _ 39 rfl w.heap.size 129 i0 _ 3 Tryz.underlying39 I0.out Z0.out Z1.out .i64 .i64 _ _ Q.length rfl rfl rfl rfl B8.out (by unfold maxLen; omega) (by simp) ?_
       intro w1 ho1 hg1
       rw [made_cells] at ho1
       have R1 : Hid (WRow w1 w.heap.size (.slice (some ⟨w.heap.size, 0, none⟩) Q.length Q.length) (wTo Q 0)) := Lib.hid (by rw [wTo_zero]; exact ⟨by simpa using ho1, fun x hx => by rw [(List.mem_replicate.1 hx).2]; decide⟩)
       have B1 : Hid (Below w.heap.size w w1) := Lib.hid ((Below.refl _ _).grown hg1 (Nat.le_refl _) (by simp))
       clear ho1 hg1))
  go_loopw [4] (fun i wr => ∃ k : Nat, k ≤ Q.length ∧ i = .int .i64 k ∧ WRow wr w.heap.size (.slice (some ⟨w.heap.size, 0, none⟩) Q.length Q.length) (wTo Q k) ∧ Below w.heap.size w wr) (fun i _ => Q.length - (intOf i).toNat)
  case atStart => exact ⟨0, Nat.zero_le _, rfl, R1.out, B1.out⟩
  case round =>
    obtain ⟨k, hk, rfl, hr, hb⟩ := hrel
    have HR := Lib.hid hr
    have HB := Lib.hid hb
    clear hr hb
    by_cases hlt : k < Q.length
    · obtain ⟨_, _, A', cap', e', hc⟩ := wdsL_below HV.out HB.out
      simp only [Value.slice.injEq, true_and] at e'
      obtain ⟨rfl, rfl⟩ := e'
      obtain ⟨ad, rfl, hd⟩ := hc (by omega)
      obtain ⟨c0, c1, c2⟩ := hd k hlt
      have hxs : Q[k].n.size ≤ maxLen := HN.out _ (List.getElem_mem hlt)
      have HX := Lib.hid hxs
      clear hc hd hxs
      go_wp2_with fail
      refine (toWord_any _ _).mono ?_
      rintro e w2 ⟨rfl, hb2⟩
      have B2 := Lib.hid (below_stepW HB.out hb2)
      have R2 := Lib.hid (wrow_below HR.out hb2)
      clear hb2 c0 c1 c2
      have ST : Hid (WRow (((w2.setCell ⟨w.heap.size, k * 3, none⟩ (.string Q[k].n)).setCell ⟨w.heap.size, k * 3 + 1, none⟩ (.int .i64 Q[k].k)).setCell ⟨w.heap.size, k * 3 + 2, none⟩ (.int .i64 Q[k].v)) w.heap.size (.slice (some ⟨w.heap.size, 0, none⟩) Q.length Q.length) (wTo Q (k + 1))) := Lib.hid (by
        have h := R2.out
        have hlen := wTo_len Q hk
        rw [← wTo_next Q hlt]
        have h2 : WRow w2 w.heap.size (.slice (some ⟨w.heap.size, 0, none⟩) (wTo Q k).length Q.length) (wTo Q k) := by rw [hlen]; exact h
        have h3 := wrow_set h2 k (by omega) Q[k] HX.out
        rw [hlen] at h3
        exact h3)
      have SB := Lib.hid (below_set3 B2.out (g := w.heap.size) (Nat.le_refl _) (k * 3) (k * 3 + 1) (k * 3 + 2) (.string Q[k].n) (.int .i64 Q[k].k) (.int .i64 Q[k].v))
      have zl : w.heap.size < w2.heap.size := (wrow_lt R2.out _ rfl).2
      obtain ⟨o0, o1, o2⟩ := wrow_at (by have h := R2.out.1; rw [show Q.length = (wTo Q k).length from (wTo_len Q hk).symm] at h; exact h) k (by rw [wTo_len Q hk]; exact hlt)
      have f0 := wrow_free R2.out (k * 3)
      have f1 := wrow_free R2.out (k * 3 + 1)
      have f2 := wrow_free R2.out (k * 3 + 2)
      generalize ((wTo Q k)[k]'(by rw [wTo_len Q hk]; exact hlt)) = old at *
      go_wp2
      go_roundw
      case rel => exact ⟨k + 1, by omega, by go_num, ST.out, SB.out⟩
      case measure => simp [intOf]; omega
    · obtain rfl : k = Q.length := by omega
      clear hlt
      go_wp2
      go_ret
      exact ⟨_, rfl, by have h := HR.out; rwa [wTo_end] at h, by simp [Value.ownBlock], HB.out⟩

end Go.Proofs.YthnbaeamekolmaaGreatDoor
