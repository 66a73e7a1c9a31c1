/- QnD: several of my texts, laid together: DfK, FoK, ItB, ItL, DfA, DfB, FoA, McF, DatM, HsG, HiB, HsH, McG, FoB, FoC, FoN. -/
import Derived.Test.YthnbaeamekolmaaDoorItA
import Derived.Test.YthnbaeamekolmaaDoorQnB
import Derived.WalkSmall
import Derived.Deep.RegionHeld3
import Derived.Deep.Slices
import Derived.Lib.SmallJoins
import Derived.Deep.Grids
import Derived.ChangeOld
import Derived.OpenShut
import Derived.ProofKit
import Derived.Test.YthnbaeamekolmaaDoorQnC
import Derived.Deep.MidRow
import Derived.Test.YthnbaeamekolmaaDoorDatP
import Derived.Test.YthnbaeamekolmaaDoorQnA
import Derived.RegionTactic
import Derived.ChangeAlike
import Derived.BigRegion
import Derived.Deep.OwnRows
namespace Go.Proofs.YthnbaeamekolmaaDoor
open Go.RowKit
set_option linter.unusedVariables false
set_option linter.unusedSimpArgs false

/-- A definition: its word, its items. -/
structure Df where
  w : Int
  q : List It

end Go.Proofs.YthnbaeamekolmaaDoor

namespace Go.Proofs.YthnbaeamekolmaaDoor
open Go.RowKit
set_option linter.unusedVariables false
set_option linter.unusedSimpArgs false

/-- A Forth: its machine, its definitions, whether one is open, its name, its items. -/
structure Fo where
  m : Mc
  l : List Df
  c : Bool
  n : ByteArray
  q : List It

end Go.Proofs.YthnbaeamekolmaaDoor

namespace Go.Proofs.YthnbaeamekolmaaDoor
open Go.RowKit
set_option linter.unusedVariables false
set_option linter.unusedSimpArgs false

set_option maxRecDepth 100000 in
set_option maxHeartbeats 1000000 in
theorem eqItem_same (x : It) (w : World) :
    Calls Tryd.prog 30 #[.agg #[.int .i64 x.k, .int .i64 x.v], .agg #[.int .i64 x.k, .int .i64 x.v]] w fun e w' => e = .returned (.bool true) ∧ Below w.heap.size w w' := by
  have tp : (x.k != x.k) = false := by simp
  have ta : (x.v != x.v) = false := by simp
  go_enter Tryd.func30, Tryd.ntmps30
  go_wp2
  go_ret
  exact ⟨rfl, below_alloc (below_alloc (Below.refl _ _) _) _⟩

set_option maxRecDepth 100000 in
set_option maxHeartbeats 2000000 in
theorem eqItemS_same (u v : Value) (Q : List It) (w : World) (hu : Its w u Q) (hv : Its w v Q) :
    Calls Tryd.prog 13 #[u, v] w fun e w' => e = .returned (.bool true) ∧ Below w.heap.size w w' := by
  have HU := Lib.hid hu
  have HV := Lib.hid hv
  obtain ⟨hl, A, ca, rfl, _⟩ := hu
  obtain ⟨_, B, cb, rfl, _⟩ := hv
  unfold maxLen at hl
  have z0 : ((Q.length : Int) != (Q.length : Int)) = false := by simp
  go_enter Tryd.func13, Tryd.ntmps13
  go_wp2
  clear z0
  go_loopw [5] (fun i wr => ∃ k : Nat, k ≤ Q.length ∧ i = .int .i64 k ∧ Below w.heap.size w wr) (fun i _ => Q.length - (intOf i).toNat)
  case atStart => exact ⟨0, Nat.zero_le _, rfl, Below.refl _ _⟩
  case round =>
    obtain ⟨k, hk, rfl, hb⟩ := hrel
    have HB := Lib.hid hb
    clear hb
    by_cases hlt : k < Q.length
    · obtain ⟨_, A', ca', e', hc⟩ := its_below HU.out HB.out
      simp only [Value.slice.injEq, true_and] at e'
      obtain ⟨rfl, rfl⟩ := e'
      obtain ⟨ga, rfl, ha⟩ := hc (by omega)
      obtain ⟨_, B', cb', e', hc⟩ := its_below HV.out HB.out
      simp only [Value.slice.injEq, true_and] at e'
      obtain ⟨rfl, rfl⟩ := e'
      obtain ⟨gb, rfl, hb⟩ := hc (by omega)
      have WA := ha k hlt
      have WB := hb k hlt
      clear ha hb hc
      generalize Q[k] = x at *
      have KA := Lib.hid WA
      have KB := Lib.hid WB
      obtain ⟨a0, a1⟩ := WA
      obtain ⟨b0, b1⟩ := WB
      go_wp2
      go_region_held3 (fun w' => (w'.cell? (ga.add (k * 2)) = some (.int .i64 x.k) ∧ w'.cell? ⟨(ga.add (k * 2)).block, (ga.add (k * 2)).off + 1, none⟩ = some (.int .i64 x.v)) ∧ (w'.cell? (gb.add (k * 2)) = some (.int .i64 x.k) ∧ w'.cell? ⟨(gb.add (k * 2)).block, (gb.add (k * 2)).off + 1, none⟩ = some (.int .i64 x.v))) (first | exact ⟨K1, K2⟩ | exact ⟨KA.out, KB.out⟩)
        (first | (go_at_call 30; refine (eqItem_same x _).mono ?_; rintro e w1 ⟨rfl, hb1⟩; have K1 := itAt_below hb1 KA.out; have K2 := itAt_below hb1 KB.out))
      have HB2 := Lib.hid (HB.out.drew.trans (hb1.mono HB.out.drew.size))
      clear hb1 K1 K2 a0 a1 b0 b1
      go_wp2
      go_roundw
      case rel => exact ⟨k + 1, by omega, by go_num, HB2.out⟩
      case measure => simp [intOf]; omega
    · obtain rfl : k = Q.length := by omega
      clear hlt
      go_wp2
      go_ret
      exact ⟨rfl, HB.out⟩

/-- The item with marks from K on. -/
def markIt (K : Nat) : It := ⟨(K : Int), (K : Int) + 1⟩

/-- The items with marks from K on. -/
def imarks (K n : Nat) : List It := (List.range n).map fun j => markIt (K + 2 * j)

theorem imarks_len (K n : Nat) : (imarks K n).length = n := by unfold imarks; simp

theorem imarks_succ (K n : Nat) : imarks K (n + 1) = imarks K n ++ [markIt (K + 2 * n)] := by unfold imarks; rw [List.range_succ]; simp

/-- Marks at the first k places. -/
def imarked (K k : Nat) (Q : List It) : List It := imarks K k ++ Q.drop k

theorem imarked_len {K k : Nat} {Q : List It} (h : k ≤ Q.length) : (imarked K k Q).length = Q.length := by unfold imarked; rw [List.length_append, imarks_len, List.length_drop]; omega

theorem imarked_zero (K : Nat) (Q : List It) : imarked K 0 Q = Q := by unfold imarked imarks; simp

theorem imarked_end (K : Nat) (Q : List It) : imarked K Q.length Q = imarks K Q.length := by unfold imarked; simp

theorem imarked_next {K k : Nat} {Q : List It} (h : k < Q.length) : (imarked K k Q).set k (markIt (K + 2 * k)) = imarked K (k + 1) Q := by
  unfold imarked
  rw [imarks_succ, List.drop_eq_getElem_cons h, List.set_append_right _ _ (by rw [imarks_len]; exact Nat.le_refl _), imarks_len, Nat.sub_self, List.set_cons_zero]
  simp

/-- What laying marks leaves: the items bear them; no other block that was there has turned. -/
def ImarkedOf (w : World) (base : Nat) (v : Value) (n K : Nat) (e : Ending) (w' : World) : Prop := e = .returned (.int .i64 ((K + 2 * n : Nat) : Int)) ∧ IRow w' base v (imarks K n) ∧ w.grownBy w' v.ownBlock

set_option maxRecDepth 100000 in
set_option maxHeartbeats 2000000 in
theorem markItems_any (v : Value) (base K : Nat) (Q : List It) (w : World) (h : IRow w base v Q) (hQ : Q.length ≤ 2097152) (hK : K ≤ 1099511627776) :
    Calls Tryd.prog 16 #[v, .int .i64 K] w (ImarkedOf w base v Q.length K) := by
  obtain ⟨_, A, cap, rfl, _⟩ := irow_its h
  have H := Lib.hid h
  clear h
  go_enter Tryd.func16, Tryd.ntmps16
  go_wp2
  go_loopw [5, 1] (fun i m wr => ∃ k : Nat, k ≤ Q.length ∧ i = .int .i64 k ∧ m = .int .i64 ((K + 2 * k : Nat) : Int) ∧ IRow wr base (.slice A Q.length cap) (imarked K k Q) ∧ w.grownBy wr (Value.ownBlock (.slice A Q.length cap))) (fun i _ _ => Q.length - (intOf i).toNat)
  case atStart => exact ⟨0, Nat.zero_le _, rfl, rfl, by rw [imarked_zero]; exact H.out, World.grownBy.refl w _⟩
  case round =>
    obtain ⟨k, hk, rfl, rfl, ho, hg⟩ := hrel
    have HO := Lib.hid ho
    have HG := Lib.hid hg
    have HL := Lib.hid (imarked_len (K := K) hk)
    clear ho hg
    by_cases hlt : k < Q.length
    · obtain ⟨g, cap', hv, hglt⟩ : ∃ g cap', Value.slice A Q.length cap = .slice (some ⟨g, 0, none⟩) Q.length cap' ∧ g < wr.heap.size := by
        have h1 := HO.out
        unfold IRow at h1
        rw [HL.out] at h1
        rcases h1.2 with ⟨_, h0⟩ | ⟨g, cap', cur, hv, hb, hg, _⟩
        · omega
        · exact ⟨g, cap', hv, (Array.getElem?_eq_some_iff.1 hg).1⟩
      simp only [Value.slice.injEq, true_and] at hv
      obtain ⟨rfl, rfl⟩ := hv
      have R3 : IRow wr base (.slice (some ⟨g, 0, none⟩) (imarked K k Q).length cap) (imarked K k Q) := by rw [HL.out]; exact HO.out
      obtain ⟨o0, o1⟩ := irow_at R3 k (by rw [HL.out]; exact hlt)
      have f0 := irow_free HO.out (k * 2)
      have f1 := irow_free HO.out (k * 2 + 1)
      have SO : Hid (IRow (set2 wr g k (markIt (K + 2 * k))) base (.slice (some ⟨g, 0, none⟩) Q.length cap) (imarked K (k + 1) Q)) := Lib.hid (by
        have h2 := irow_set R3 k (by rw [HL.out]; exact hlt) (markIt (K + 2 * k))
        rw [imarked_next hlt, HL.out] at h2
        exact h2)
      have SG := Lib.hid (gb_comp HG.out (grown_set2 wr g k (markIt (K + 2 * k))))
      clear R3
      generalize ((imarked K k Q)[k]'(by rw [HL.out]; exact hlt)) = old at *
      obtain ⟨q, hq⟩ : ∃ q : Nat, q = K + 2 * k := ⟨_, rfl⟩
      have hq2 : q ≤ 1099520016384 := by omega
      rw [← hq] at SO SG
      unfold set2 markIt at SO SG
      simp only at o0 o1 SO SG
      have HQ := Lib.hid hq
      have eK : ((K + 2 * k : Nat) : Int) = (q : Int) := by rw [hq]
      rw [eK]
      clear hq eK
      go_wp2
      go_roundw
      case rel => exact ⟨k + 1, by omega, by go_num, by rw [show K + 2 * (k + 1) = q + 1 + 1 by rw [HQ.out]; omega]; go_num, SO.out, SG.out⟩
      case measure => simp [intOf]; omega
    · obtain rfl : k = Q.length := by omega
      clear hlt
      go_wp2
      go_ret
      exact ⟨rfl, by rw [← imarked_end]; exact HO.out, HG.out⟩

end Go.Proofs.YthnbaeamekolmaaDoor

namespace Go.Proofs.YthnbaeamekolmaaDoor
open Go.Joins Go.ChangeShapes Go.WideShapes Go.RowKit Go.Deep Go.ChangeAt
set_option linter.unusedVariables false
set_option linter.unusedSimpArgs false

/-- An item that came in. -/
def ItIn (w : World) (v : Value) (x : It) : Prop := v = .agg #[.int .i64 x.k, .int .i64 x.v] ∧ (Lit.int .i64 x.k).wf = true ∧ (Lit.int .i64 x.v).wf = true

section
variable {H : Type} {enc : TypeId × Value → H} {w : World} {base : Nat} {spare : Nat → Bool} {held : Bool}

theorem itm_one : Tryd.prog.cellsOf 3 = 1 := by kernel_rfl

theorem choose_items {len : Nat} {p : Nat → It → Prop} (h : ∀ i, i < len → ∃ x, p i x) : ∃ Q : List It, Q.length = len ∧ ∀ i (hi : i < Q.length), p i Q[i] := by
  induction len with
  | zero => exact ⟨[], rfl, fun i hi => by simp at hi⟩
  | succ m ih =>
    obtain ⟨Q, hl, hq⟩ := ih (fun i hi => h i (by omega))
    obtain ⟨x, hx⟩ := h m (by omega)
    refine ⟨Q ++ [x], by simp [hl], fun i hi => ?_⟩
    by_cases e : i < Q.length
    · rw [List.getElem_append_left e]; exact hq i e
    · have : i = m := by simp at hi; omega
      subst this
      rw [List.getElem_append_right (by omega)]
      simp [hl]
      exact hx

end

end Go.Proofs.YthnbaeamekolmaaDoor

namespace Go.Proofs.YthnbaeamekolmaaDoor
open Go.Joins Go.ChangeShapes Go.WideShapes Go.RowKit Go.Deep Go.ChangeAt
set_option linter.unusedVariables false
set_option linter.unusedSimpArgs false

/-- The two cells of a definition, from an address on. -/
def DfAt (w : World) (a : Addr) (D : Df) : Prop := w.cell? a = some (.int .i64 D.w) ∧ ∃ u, w.cell? ⟨a.block, a.off + 1, none⟩ = some u ∧ Its w u D.q

/-- A slice of definitions that reads so. -/
def Dfs (w : World) (v : Value) (L : List Df) : Prop :=
  L.length ≤ maxLen ∧ ∃ A cap, v = .slice A L.length cap ∧ (0 < L.length → ∃ ad, A = some ad ∧ ∀ k (h : k < L.length), DfAt w (ad.add (k * 2)) L[k])

theorem dfAt_keep {w w' : World} {a : Addr} {D : Df} (h : DfAt w a D) (hk : ∀ (x : Addr) (u : Value), w.cell? x = some u → w'.cell? x = some u) : DfAt w' a D := by
  obtain ⟨h1, u, h2, h3⟩ := h
  exact ⟨hk _ _ h1, u, hk _ _ h2, its_keep h3 hk⟩

theorem dfs_keep {w w' : World} {v : Value} {L : List Df} (h : Dfs w v L) (hk : ∀ (x : Addr) (u : Value), w.cell? x = some u → w'.cell? x = some u) : Dfs w' v L := by
  obtain ⟨h1, A, cap, hv, hc⟩ := h
  refine ⟨h1, A, cap, hv, fun hp => ?_⟩
  obtain ⟨ad, ha, hc⟩ := hc hp
  exact ⟨ad, ha, fun k hk' => dfAt_keep (hc k hk') hk⟩

theorem dfs_below {w w' : World} {v : Value} {L : List Df} (h : Dfs w v L) (hb : Below w.heap.size w w') : Dfs w' v L := dfs_keep h (cell_keptI hb)

theorem dfAt_below {w w' : World} {a : Addr} {D : Df} (h : DfAt w a D) (hb : Below w.heap.size w w') : DfAt w' a D := dfAt_keep h (cell_keptI hb)

theorem dfs_nil (w : World) : Dfs w (.slice none 0 0) [] := ⟨Nat.zero_le _, none, 0, rfl, fun h => absurd h (by simp)⟩

/-- No definition has too many items for a copy. -/
def SmallL (L : List Df) : Prop := L.length ≤ 1048576 ∧ ∀ D ∈ L, D.q.length ≤ 1048576

/-- What the size of definitions leaves. -/
def SzLOf (w : World) (left : Int) (L : List Df) (e : Ending) (w' : World) : Prop := ∃ r : Int, e = .returned (.int .i64 r) ∧ (r = -1 ∨ (0 ≤ r ∧ r ≤ left ∧ SmallL L)) ∧ Below w.heap.size w w'

/-- What the copy of a definition leaves. -/
def DefOf (w : World) (D : Df) (e : Ending) (w' : World) : Prop := ∃ A n c, e = .returned (.agg #[.int .i64 D.w, .slice A n c]) ∧ IRow w' (w.heap.size + 1) (.slice A n c) D.q ∧ Below w.heap.size w w'

theorem irow_shape {w : World} {lo : Nat} {v : Value} {Q : List It} (h : IRow w lo v Q) : ∃ A n c, v = .slice A n c := by
  obtain ⟨_, A, c, rfl, _⟩ := irow_its h
  exact ⟨_, _, _, rfl⟩

theorem own_infoDf : (Tryd.prog.info? 58).map (fun i => (i.zero, i.size, i.bytes)) = some (some (.agg #[.int .i64 0, .slice none 0 0]), 2, 32) := by kernel_rfl

/-- A row of definitions, the first k of them laid. -/
def DfsTo (w : World) (lo g n k : Nat) (L : List Df) : Prop :=
  ∃ xs, w.ownsRow lo 58 2 (.slice (some ⟨g, 0, none⟩) n n) n xs ∧ ∀ j (hj : j < L.length), j < k → xs[j * 2]? = some (.int .i64 L[j].w) ∧ ∃ u, xs[j * 2 + 1]? = some u ∧ IRow w (g + 1) u L[j].q

theorem ownsRow_keepD {w w' : World} {lo : Nat} {t : TypeId} {s n g m c : Nat} {xs : List Value} (h : w.ownsRow lo t s (.slice (some ⟨g, 0, none⟩) m c) n xs) (hk : w'.heap[g]? = w.heap[g]?) : w'.ownsRow lo t s (.slice (some ⟨g, 0, none⟩) m c) n xs := by
  obtain ⟨h1, h2⟩ := h
  refine ⟨h1, ?_⟩
  rcases h2 with h2 | ⟨g', cap, cur, hv, hb, hg, r⟩
  · exact .inl h2
  · have : g = g' := by injection hv with e1; injection e1 with e2; injection e2
    subst this
    exact .inr ⟨g, cap, cur, hv, hb, by rw [hk]; exact hg, r⟩

theorem dfsTo_below {w w' : World} {lo g n k : Nat} {L : List Df} (h : DfsTo w lo g n k L) (hg : g < w.heap.size) (hb : Below w.heap.size w w') : DfsTo w' lo g n k L := by
  obtain ⟨xs, h1, h2⟩ := h
  refine ⟨xs, ownsRow_keepD h1 (hb.block g hg), fun j hj hk => ?_⟩
  obtain ⟨a, u, b, c⟩ := h2 j hj hk
  exact ⟨a, u, b, irow_below c hb⟩

theorem dfsTo_step {w : World} {lo g n k : Nat} {L : List Df} (h : DfsTo w lo g n k L) (hk : k < L.length) (hn : L.length = n) {A : Option Addr} {m c : Nat} (hu : IRow w (g + 1) (.slice A m c) L[k].q) :
    DfsTo ((w.setCell ⟨g, k * 2, none⟩ (.int .i64 L[k].w)).setCell ⟨g, k * 2 + 1, none⟩ (.slice A m c)) lo g n (k + 1) L := by
  obtain ⟨xs, h1, h2⟩ := h
  have hl := h1.1
  have s1 := (h1.stored (k * 2) (.int .i64 L[k].w)).1
  have s2 := (s1.stored (k * 2 + 1) (.slice A m c)).1
  have keep : ∀ {u : Value} {Q : List It}, IRow w (g + 1) u Q → IRow ((w.setCell ⟨g, k * 2, none⟩ (.int .i64 L[k].w)).setCell ⟨g, k * 2 + 1, none⟩ (.slice A m c)) (g + 1) u Q := fun q => irow_keep q fun b hb => by
    have := irow_lt q b hb
    rw [Below.heap_setCell _ _ _ _ (by show b ≠ g; omega), Below.heap_setCell _ _ _ _ (by show b ≠ g; omega)]
  refine ⟨_, s2, fun j hj hjk => ?_⟩
  by_cases e : j = k
  · subst e
    refine ⟨?_, .slice A m c, ?_, keep hu⟩
    · rw [List.getElem?_set_ne (by omega), List.getElem?_set_self (by omega)]
    · rw [List.getElem?_set_self (by rw [List.length_set]; omega)]
  · obtain ⟨a, u, b, q⟩ := h2 j hj (by omega)
    refine ⟨?_, u, ?_, keep q⟩
    · rw [List.getElem?_set_ne (by omega), List.getElem?_set_ne (by omega)]; exact a
    · rw [List.getElem?_set_ne (by omega), List.getElem?_set_ne (by omega)]; exact b

theorem dfsTo_end {w : World} {lo g : Nat} {L : List Df} (h : DfsTo w lo g L.length L.length L) (hl : L.length ≤ maxLen) : Dfs w (.slice (some ⟨g, 0, none⟩) L.length L.length) L := by
  obtain ⟨xs, h1, h2⟩ := h
  refine ⟨hl, _, _, rfl, fun _ => ⟨_, rfl, fun k hk => ?_⟩⟩
  obtain ⟨a, u, b, q⟩ := h2 k hk hk
  rw [show (⟨g, 0, none⟩ : Addr).add (k * 2) = ⟨g, k * 2, none⟩ by rw [Addr.add_lit, Nat.zero_add]]
  exact ⟨by rw [World.ownsRow.cellAt h1 (k * 2) (by omega)]; exact a, u, by rw [World.ownsRow.cellAt h1 (k * 2 + 1) (by omega)]; exact b, irow_its q⟩

/-- What the copy of definitions leaves. -/
def DefsOf (w : World) (L : List Df) (e : Ending) (w' : World) : Prop := ∃ g, e = .returned (.slice (some ⟨g, 0, none⟩) L.length L.length) ∧ Dfs w' (.slice (some ⟨g, 0, none⟩) L.length L.length) L ∧ Below w.heap.size w w'

/-- The same, its memory its own. -/
def DefsTOf (w : World) (L : List Df) (e : Ending) (w' : World) : Prop := ∃ g, e = .returned (.slice (some ⟨g, 0, none⟩) L.length L.length) ∧ w.heap.size ≤ g ∧ g < w'.heap.size ∧ DfsTo w' w.heap.size g L.length L.length L ∧ Below w.heap.size w w'

set_option maxRecDepth 100000 in
set_option maxHeartbeats 1000000 in
theorem eqDef_same (D : Df) (u v : Value) (w : World) (hu : Its w u D.q) (hv : Its w v D.q) :
    Calls Tryd.prog 29 #[.agg #[.int .i64 D.w, u], .agg #[.int .i64 D.w, v]] w fun e w' => e = .returned (.bool true) ∧ Below w.heap.size w w' := by
  have HU := Lib.hid hu
  have HV := Lib.hid hv
  obtain ⟨_, A, ca, rfl, _⟩ := hu
  obtain ⟨_, B, cb, rfl, _⟩ := hv
  have t : (D.w != D.w) = false := by simp
  go_enter Tryd.func29, Tryd.ntmps29
  go_wp2_with fail
  refine (eqItemS_same _ _ D.q _ (its_below HU.out (below_alloc (below_alloc (Below.refl _ _) _) _)) (its_below HV.out (below_alloc (below_alloc (Below.refl _ _) _) _))).mono ?_
  rintro e w2 ⟨rfl, hb⟩
  have B2 := Lib.hid (below_step (below_alloc (below_alloc (Below.refl _ _) _) _) hb)
  clear hb
  go_wp2
  go_ret
  exact ⟨rfl, B2.out⟩

end Go.Proofs.YthnbaeamekolmaaDoor

namespace Go.Proofs.YthnbaeamekolmaaDoor
open Go.Joins Go.ChangeShapes Go.WideShapes Go.RowKit Go.Deep Go.ChangeAt
set_option linter.unusedVariables false
set_option linter.unusedSimpArgs false

set_option maxRecDepth 100000 in
set_option maxHeartbeats 4000000 in
theorem eqDefS_same (u v : Value) (L : List Df) (w : World) (hu : Dfs w u L) (hv : Dfs w v L) :
    Calls Tryd.prog 12 #[u, v] w fun e w' => e = .returned (.bool true) ∧ Below w.heap.size w w' := by
  have HU := Lib.hid hu
  have HV := Lib.hid hv
  obtain ⟨hl, A, ca, rfl, _⟩ := hu
  obtain ⟨_, B, cb, rfl, _⟩ := hv
  unfold maxLen at hl
  have z0 : ((L.length : Int) != (L.length : Int)) = false := by simp
  go_enter Tryd.func12, Tryd.ntmps12
  go_wp2
  clear z0
  go_loopw [5] (fun i wr => ∃ k : Nat, k ≤ L.length ∧ i = .int .i64 k ∧ Below w.heap.size w wr) (fun i _ => L.length - (intOf i).toNat)
  case atStart => exact ⟨0, Nat.zero_le _, rfl, Below.refl _ _⟩
  case round =>
    obtain ⟨k, hk, rfl, hb⟩ := hrel
    have HB := Lib.hid hb
    clear hb
    by_cases hlt : k < L.length
    · obtain ⟨_, A', ca', e', hc⟩ := dfs_below HU.out HB.out
      simp only [Value.slice.injEq, true_and] at e'
      obtain ⟨rfl, rfl⟩ := e'
      obtain ⟨ga, rfl, ha⟩ := hc (by omega)
      obtain ⟨_, B', cb', e', hc⟩ := dfs_below HV.out HB.out
      simp only [Value.slice.injEq, true_and] at e'
      obtain ⟨rfl, rfl⟩ := e'
      obtain ⟨gb, rfl, hb⟩ := hc (by omega)
      obtain ⟨a0, ua, a1, ia⟩ := ha k hlt
      obtain ⟨b0, ub, b1, ib⟩ := hb k hlt
      clear ha hb hc
      generalize L[k] = x at *
      have KA := Lib.hid (And.intro (And.intro a0 a1) (And.intro b0 b1))
      have IA := Lib.hid ia
      have IB := Lib.hid ib
      obtain ⟨_, C, cc, rfl, _⟩ := ia
      obtain ⟨_, D, cd, rfl, _⟩ := ib
      go_wp2
      go_region_held3 (fun w' => (w'.cell? (ga.add (k * 2)) = some (.int .i64 x.w) ∧ w'.cell? ⟨(ga.add (k * 2)).block, (ga.add (k * 2)).off + 1, none⟩ = some (.slice C x.q.length cc)) ∧ (w'.cell? (gb.add (k * 2)) = some (.int .i64 x.w) ∧ w'.cell? ⟨(gb.add (k * 2)).block, (gb.add (k * 2)).off + 1, none⟩ = some (.slice D x.q.length cd))) (first | exact K1 | exact KA.out)
        (first | (go_at_call 29; refine (eqDef_same x _ _ _ (its_below IA.out (Below.refl _ _).drew) (its_below IB.out (Below.refl _ _).drew)).mono ?_; rintro e w1 ⟨rfl, hb1⟩; have K1 := And.intro (And.intro (cell_keptI hb1 _ _ KA.out.1.1) (cell_keptI hb1 _ _ KA.out.1.2)) (And.intro (cell_keptI hb1 _ _ KA.out.2.1) (cell_keptI hb1 _ _ KA.out.2.2))))
      have HB2 := Lib.hid (HB.out.drew.trans (hb1.mono HB.out.drew.size))
      clear hb1 K1 a0 a1 b0 b1
      go_wp2
      go_roundw
      case rel => exact ⟨k + 1, by omega, by go_num, HB2.out⟩
      case measure => simp [intOf]; omega
    · obtain rfl : k = L.length := by omega
      clear hlt
      go_wp2
      go_ret
      exact ⟨rfl, HB.out⟩

section
variable {H : Type} {enc : TypeId × Value → H} {w : World} {base : Nat} {spare : Nat → Bool} {held : Bool}

theorem choose_defs {len : Nat} {p : Nat → Df → Prop} (h : ∀ i, i < len → ∃ x, p i x) : ∃ Q : List Df, Q.length = len ∧ ∀ i (hi : i < Q.length), p i Q[i] := by
  induction len with
  | zero => exact ⟨[], rfl, fun i hi => by simp at hi⟩
  | succ m ih =>
    obtain ⟨Q, hl, hq⟩ := ih (fun i hi => h i (by omega))
    obtain ⟨x, hx⟩ := h m (by omega)
    refine ⟨Q ++ [x], by simp [hl], fun i hi => ?_⟩
    by_cases e : i < Q.length
    · rw [List.getElem_append_left e]; exact hq i e
    · have : i = m := by simp at hi; omega
      subst this
      rw [List.getElem_append_right (by omega)]
      simp [hl]
      exact hx

end

end Go.Proofs.YthnbaeamekolmaaDoor

namespace Go.Proofs.YthnbaeamekolmaaDoor
open Go.RowKit
set_option linter.unusedVariables false
set_option linter.unusedSimpArgs false

/-- Twenty cells: a machine's, then these four. -/
structure F20 (fs cs : Array Value) (d : Value) (b : Bool) (n : ByteArray) (q : Value) : Prop where
  row : Six10 cs
  one : d.oneCell' = true ∧ q.oneCell' = true
  all : fs = cs ++ #[d, .bool b, .string n, q]

theorem f20_low {fs cs : Array Value} {d q : Value} {b : Bool} {n : ByteArray} (h : F20 fs cs d b n q) (j : Nat) (hj : j < 16) : fs[j]? = cs[j]? := by
  rw [h.all, Array.getElem?_append_left (by rw [h.row.1]; exact hj)]

theorem f20_size {fs cs : Array Value} {d q : Value} {b : Bool} {n : ByteArray} (h : F20 fs cs d b n q) : fs.size = 20 := by
  rw [h.all, Array.size_append, h.row.1]; rfl

theorem f20_high {fs cs : Array Value} {d q : Value} {b : Bool} {n : ByteArray} (h : F20 fs cs d b n q) (j : Nat) : fs[16 + j]? = #[d, .bool b, .string n, q][j]? := by
  rw [h.all, Array.getElem?_append_right (by rw [h.row.1]; omega), h.row.1, Nat.add_sub_cancel_left]

theorem f20_range {w : World} {g : Nat} {t : TypeId} {fs cs : Array Value} {d q : Value} {b : Bool} {n : ByteArray} (hw : Whole w g t fs) (h : F20 fs cs d b n q) : w.rangeAt g 0 cs.toList := fun j v hv => by
  have hj : j < 16 := by have := (List.getElem?_eq_some_iff.1 hv).1; rw [Array.length_toList, h.row.1] at this; exact this
  rw [Nat.zero_add, whole_cell hw, f20_low h j hj, ← Array.getElem?_toList]; exact hv

theorem f20_cells {w : World} {g : Nat} {t : TypeId} {fs cs : Array Value} {d q : Value} {b : Bool} {n : ByteArray} (hw : Whole w g t fs) (h : F20 fs cs d b n q) :
    w.cell? ⟨g, 16, none⟩ = some d ∧ w.cell? ⟨g, 17, none⟩ = some (.bool b) ∧ w.cell? ⟨g, 18, none⟩ = some (.string n) ∧ w.cell? ⟨g, 19, none⟩ = some q :=
  ⟨by rw [whole_cell hw]; exact f20_high h 0, by rw [whole_cell hw]; exact f20_high h 1, by rw [whole_cell hw]; exact f20_high h 2, by rw [whole_cell hw]; exact f20_high h 3⟩

theorem f20_one {fs cs : Array Value} {d q : Value} {b : Bool} {n : ByteArray} (h : F20 fs cs d b n q) : fs.all (·.oneCell') = true := by
  rw [h.all, Array.all_append, h.row.2]
  simp only [List.all_toArray, List.all_cons, List.all_nil, h.one.1, h.one.2, Bool.and_true, Bool.true_and]
  rfl

/-- A row of twenty cells, each of one cell. -/
def Twenty (fs : Array Value) : Prop := fs.size = 20 ∧ fs.all (·.oneCell') = true

theorem f20_twenty {fs cs : Array Value} {d q : Value} {b : Bool} {n : ByteArray} (h : F20 fs cs d b n q) : Twenty fs := ⟨f20_size h, f20_one h⟩

/-- A row whose first sixteen cells and whose last four are these. -/
theorem f20_of {fs cs : Array Value} {d q : Value} {b : Bool} {n : ByteArray} (hs : fs.size = 20) (h6 : Six10 cs) (hd : d.oneCell' = true) (hq : q.oneCell' = true) (hl : ∀ j, j < 16 → fs[j]? = cs[j]?) (h16 : fs[16]? = some d) (h17 : fs[17]? = some (.bool b)) (h18 : fs[18]? = some (.string n)) (h19 : fs[19]? = some q) : F20 fs cs d b n q := by
  refine ⟨h6, ⟨hd, hq⟩, ?_⟩
  apply Array.ext_getElem?
  intro j
  rcases Nat.lt_or_ge j 16 with hj | hj
  · rw [Array.getElem?_append_left (by rw [h6.1]; exact hj)]; exact hl j hj
  · rw [Array.getElem?_append_right (by rw [h6.1]; exact hj), h6.1]
    obtain ⟨i, rfl⟩ : ∃ i, j = 16 + i := ⟨j - 16, by omega⟩
    rw [Nat.add_sub_cancel_left]
    match i with
    | 0 => exact h16
    | 1 => exact h17
    | 2 => exact h18
    | 3 => exact h19
    | i + 4 => rw [Array.getElem?_eq_none (by omega), Array.getElem?_eq_none (by simp)]

/-- The argument reads as this Forth. -/
def FoL (w : World) (v : Value) (F : Fo) : Prop :=
  ∃ fs cs A0 c0 A9 c9, v = .agg fs ∧ F20 fs cs (.slice A0 F.l.length c0) F.c F.n (.slice A9 F.q.length c9) ∧ MchL w (.agg cs) F.m ∧ Dfs w (.slice A0 F.l.length c0) F.l ∧ Its w (.slice A9 F.q.length c9) F.q ∧ F.n.size ≤ maxLen

/-- The row reads as this Forth. -/
structure FoR (w : World) (fs cs : Array Value) (F : Fo) (A1 : Option Addr) (k1 : Nat) (A2 : Option Addr) (k2 : Nat) (A0 : Option Addr) (c0 : Nat) (A9 : Option Addr) (c9 : Nat) : Prop where
  row : F20 fs cs (.slice A0 F.l.length c0) F.c F.n (.slice A9 F.q.length c9)
  mach : MRow w cs F.m A1 k1 A2 k2
  defs : Dfs w (.slice A0 F.l.length c0) F.l
  room : F.l.length ≤ c0
  items : Its w (.slice A9 F.q.length c9) F.q
  text : F.n.size ≤ maxLen

/-- The value reads as this Forth. -/
def FoIn (w : World) (v : Value) (F : Fo) : Prop := ∃ fs cs A1 k1 A2 k2 A0 c0 A9 c9, v = .agg fs ∧ FoR w fs cs F A1 k1 A2 k2 A0 c0 A9 c9

theorem foR_below {w w' : World} {fs cs : Array Value} {F : Fo} {A1 : Option Addr} {k1 : Nat} {A2 : Option Addr} {k2 : Nat} {A0 : Option Addr} {c0 : Nat} {A9 : Option Addr} {c9 : Nat} (h : FoR w fs cs F A1 k1 A2 k2 A0 c0 A9 c9) (hb : Below w.heap.size w w') : FoR w' fs cs F A1 k1 A2 k2 A0 c0 A9 c9 :=
  ⟨h.row, mrow_below h.mach hb, dfs_below h.defs hb, h.room, its_below h.items hb, h.text⟩

theorem foIn_below {w w' : World} {v : Value} {F : Fo} (h : FoIn w v F) (hb : Below w.heap.size w w') : FoIn w' v F := by
  obtain ⟨fs, cs, A1, k1, A2, k2, A0, c0, A9, c9, e, h⟩ := h
  exact ⟨fs, cs, A1, k1, A2, k2, A0, c0, A9, c9, e, foR_below h hb⟩

theorem foL_below {w w' : World} {v : Value} {F : Fo} (h : FoL w v F) (hb : Below w.heap.size w w') : FoL w' v F := by
  obtain ⟨fs, cs, A0, c0, A9, c9, e, h1, h2, h3, h4, h5⟩ := h
  exact ⟨fs, cs, A0, c0, A9, c9, e, h1, mchL_below h2 hb, dfs_below h3 hb, its_below h4 hb, h5⟩

theorem foIn_cells {w : World} {v : Value} {F : Fo} (h : FoIn w v F) : ∃ fs, v = .agg fs ∧ Twenty fs := by
  obtain ⟨fs, cs, A1, k1, A2, k2, A0, c0, A9, c9, e, h⟩ := h
  exact ⟨fs, e, f20_twenty h.row⟩

theorem foL_cells {w : World} {v : Value} {F : Fo} (h : FoL w v F) : ∃ fs, v = .agg fs ∧ Twenty fs := by
  obtain ⟨fs, cs, A0, c0, A9, c9, e, h1, _⟩ := h
  exact ⟨fs, e, f20_twenty h1⟩

theorem foIn_b {w w' : World} {v : Value} {F : Fo} (hb : Below w.heap.size w w') (h : FoIn w v F) : FoIn w' v F := foIn_below h hb

theorem bool_of (p : Prop) : ∃ b : Bool, b = true ↔ p := by
  by_cases h : p
  · exact ⟨true, by simp [h]⟩
  · exact ⟨false, by simp [h]⟩

theorem biff_to {f : Nat} {args : Array Value} {w : World} {p : Prop} {mk : Bool} (hm : mk = true ↔ p) (h : Calls Tryd.prog f args w (BIff w p)) : Calls Tryd.prog f args w fun e w' => e = .returned (.bool mk) ∧ Below w.heap.size w w' :=
  h.mono fun e w' ⟨r, hr, he, hb⟩ => ⟨by rw [he, show r = mk from by rw [Bool.eq_iff_iff, hr, hm]], hb⟩

theorem biff_no {p : Prop} {w w' : World} (h : ¬ p) (hb : Below w.heap.size w w') : BIff w p (.returned (.bool false)) w' := ⟨false, by simp [h], rfl, hb⟩

theorem biff_yes {p : Prop} {w w' : World} (h : p) (hb : Below w.heap.size w w') : BIff w p (.returned (.bool true)) w' := ⟨true, by simp [h], rfl, hb⟩

theorem text_some {a : ByteArray} (h : ¬ a = ⟨#[]⟩) : ¬ a.toList = [] := fun e => h (by
  rw [Lib.toList_data] at e
  obtain ⟨⟨x⟩⟩ := a
  simp at e
  rw [e])

theorem mchIn_calls {w : World} {cs : Array Value} {m : Mc} (h : MchIn w (.agg cs) m) : ∃ A k, cs[13]? = some (.slice A m.c.length k) := by
  obtain ⟨A1, k1, A2, k2, A3, k3, A4, k4, A5, k5, A6, k6, A7, k7, A8, k8, A9, k9, A0, k0, e⟩ := mchIn_form h
  injection e with e
  subst e
  exact ⟨A0, k0, rfl⟩

theorem wpList_load_mF {ops : Array Oper} {rest : List Oper} {o : Oper} {a : Act} {w : World} {Q : Exit → Act → World → Prop} (hgd : o.guard = none) (x : Operand) (ho : o.op = .load 32 x)
    (g : Nat) (hx : a.eval x = .pointer (some ⟨g, 0, none⟩)) {cs : Array Value} (hg : w.rangeAt g 0 cs.toList) (hs : Six10 cs)
    (h : wpList Tryd.prog ops Q rest (a.put o.dst (.agg cs)) w) : wpList Tryd.prog ops Q (o :: rest) a w :=
  wpList_load_mid hgd 32 x ho g 0 hx cs.toList _ hg Tryd.underlying32 rfl (by rw [Array.length_toList, hs.1]; exact size_mI) (by simpa using h)

theorem wpList_load_mFw {ops : Array Oper} {rest : List Oper} {o : Oper} {a : Act} {w : World} {Q : Exit → Act → World → Prop} (hw : Region.wanted o (yielded ops a.tmps) = true) (x : Operand) (ho : o.op = .load 32 x)
    (g : Nat) (hx : a.eval x = .pointer (some ⟨g, 0, none⟩)) {cs : Array Value} (hg : w.rangeAt g 0 cs.toList) (hs : Six10 cs)
    (h : wpList Tryd.prog ops Q rest (a.put o.dst (.agg cs)) w) : wpList Tryd.prog ops Q (o :: rest) a w :=
  wpList_step fun _ hK => by rw [if_pos hw]; exact wp_load_mid 32 x ho g 0 hx cs.toList _ hg Tryd.underlying32 rfl (by rw [Array.length_toList, hs.1]; exact size_mI) (hK _ _ (by simpa using h))

theorem size_fI : (Tryd.prog.info? 36).map (·.size) = some 20 := by kernel_rfl

theorem wpList_load_fI {ops : Array Oper} {rest : List Oper} {o : Oper} {a : Act} {w : World} {Q : Exit → Act → World → Prop} (hgd : o.guard = none) (x : Operand) (ho : o.op = .load 36 x)
    (g : Nat) (hx : a.eval x = .pointer (some ⟨g, 0, none⟩)) {t : TypeId} {fs : Array Value} (hg : Whole w g t fs) (hs : Twenty fs)
    (h : wpList Tryd.prog ops Q rest (a.put o.dst (.agg fs)) w) : wpList Tryd.prog ops Q (o :: rest) a w :=
  wpList_load_row hgd 36 x ho g hx t _ (0, 0) _ hg Tryd.underlying36 rfl (by rw [hs.1]; exact size_fI) h

theorem wpList_load_fIw {ops : Array Oper} {rest : List Oper} {o : Oper} {a : Act} {w : World} {Q : Exit → Act → World → Prop} (hw : Region.wanted o (yielded ops a.tmps) = true) (x : Operand) (ho : o.op = .load 36 x)
    (g : Nat) (hx : a.eval x = .pointer (some ⟨g, 0, none⟩)) {t : TypeId} {fs : Array Value} (hg : Whole w g t fs) (hs : Twenty fs)
    (h : wpList Tryd.prog ops Q rest (a.put o.dst (.agg fs)) w) : wpList Tryd.prog ops Q (o :: rest) a w :=
  wpList_step fun _ hK => by rw [if_pos hw]; exact wp_load_row 36 x ho g hx t _ (0, 0) _ hg Tryd.underlying36 rfl (by rw [hs.1]; exact size_fI) (hK _ _ h)

theorem yields_load_fI {ops : Array Oper} {S : World → Prop} {o : Oper} {a : Act} (hw : Region.wanted o (yielded ops a.tmps) = true) (x : Operand) (ho : o.op = .load 36 x)
    (g : Nat) (hx : a.eval x = .pointer (some ⟨g, 0, none⟩)) {t : TypeId} {fs : Array Value} (hS : ∀ w, S w → Whole w g t fs) (hs : Twenty fs) : YieldsIf Tryd.prog ops S o (.agg fs) a :=
  yields_load_row hw _ x ho g hx t fs _ hS Tryd.underlying36 rfl (by rw [hs.1]; exact size_fI)

/-! Stores into a Forth's box. -/

/-- The row with these cells laid from a place on. -/
def putR : Array Value → Nat → List Value → Array Value
  | a, _, [] => a
  | a, o, v :: r => putR (a.setIfInBounds o v) (o + 1) r

theorem putR_size (a : Array Value) (o : Nat) (vs : List Value) : (putR a o vs).size = a.size := by
  induction vs generalizing a o with
  | nil => rfl
  | cons v r ih => unfold putR; rw [ih]; simp

theorem putR_out (a : Array Value) (o : Nat) (vs : List Value) (j : Nat) (h : j < o ∨ o + vs.length ≤ j) : (putR a o vs)[j]? = a[j]? := by
  induction vs generalizing a o with
  | nil => rfl
  | cons v r ih =>
    unfold putR
    simp only [List.length_cons] at h
    rw [ih _ _ (by omega), Array.getElem?_setIfInBounds_ne (by omega)]

theorem putR_in (a : Array Value) (o : Nat) (vs : List Value) (hl : o + vs.length ≤ a.size) (j : Nat) (h : j < vs.length) : (putR a o vs)[o + j]? = vs[j]? := by
  induction vs generalizing a o j with
  | nil => simp at h
  | cons v r ih =>
    unfold putR
    simp only [List.length_cons] at h hl
    cases j with
    | zero =>
      rw [putR_out _ _ _ _ (.inl (by omega))]
      simp only [Nat.add_zero, List.getElem?_cons_zero]
      rw [Array.getElem?_setIfInBounds_self_of_lt (by omega)]
    | succ j =>
      rw [show o + (j + 1) = (o + 1) + j by omega, ih _ _ (by simp; omega) j (by omega), List.getElem?_cons_succ]

theorem whole_setCells {w : World} {g : Nat} {t : TypeId} {old : Array Value} (h : Whole w g t old) (o : Nat) (vs : List Value) : Whole (w.setCells g o vs) g t (putR old o vs) := by
  induction vs generalizing w old o with
  | nil => exact h
  | cons v r ih => exact ih (whole_set h o v) (o + 1)

theorem whole_there {w : World} {g : Nat} {t : TypeId} {old : Array Value} (h : Whole w g t old) (o n : Nat) (hn : o + n ≤ old.size) : w.there g o n := fun j hj =>
  ⟨by rw [whole_cell h, Array.getElem?_eq_getElem (by omega)]; rfl, whole_free h _⟩

theorem only_setCells (w : World) (g o : Nat) (vs : List Value) : Only (fun k => k = g) w (w.setCells g o vs) := by
  induction vs generalizing w o with
  | nil => exact ⟨rfl, rfl, rfl, Nat.le_refl _, fun k hk hne => rfl⟩
  | cons v r ih => exact only_trans (mc_put (w := w) (G := g) (i := o) v) (ih _ _)

theorem wpList_store_mF {ops : Array Oper} {rest : List Oper} {o : Oper} {a : Act} {w : World} {Q : Exit → Act → World → Prop} (hgd : o.guard = none) (x y : Operand) (ho : o.op = .store 32 x y)
    (g : Nat) (cs : Array Value) (hx : a.eval x = .pointer (some ⟨g, 0, none⟩)) (hy : a.eval y = .agg cs) {t : TypeId} {old : Array Value} (hg : Whole w g t old) (ho' : old.size = 20) (hs : Six10 cs)
    (h : wpList Tryd.prog ops Q rest (a.put o.dst undef) (w.setCells g 0 cs.toList)) : wpList Tryd.prog ops Q (o :: rest) a w :=
  wpList_store_mid hgd 32 x y ho g 0 cs hx hy (whole_there hg 0 _ (by rw [ho', hs.1]; omega)) (by rw [hs.1]; exact size_mI) hs.2 h

theorem wpList_store_fR {ops : Array Oper} {rest : List Oper} {o : Oper} {a : Act} {w : World} {Q : Exit → Act → World → Prop} (hgd : o.guard = none) (x y : Operand) (ho : o.op = .store 36 x y)
    (g : Nat) (cs : Array Value) (hx : a.eval x = .pointer (some ⟨g, 0, none⟩)) (hy : a.eval y = .agg cs) {t : TypeId} {old : Array Value} (hg : Whole w g t old) (ho' : old.size = 20) (hs : Twenty cs)
    (h : wpList Tryd.prog ops Q rest (a.put o.dst undef) (w.setRow g cs)) : wpList Tryd.prog ops Q (o :: rest) a w :=
  wpList_store_row hgd 36 x y ho g cs hx hy t old hg (by rw [hs.1]; exact size_fI) (by rw [hs.1, ho']) hs.2 h

theorem wpList_store_fI {ops : Array Oper} {rest : List Oper} {o : Oper} {a : Act} {w : World} {Q : Exit → Act → World → Prop} (hgd : o.guard = none) (x y : Operand) (ho : o.op = .store 36 x y)
    (cs : Array Value) (hx : a.eval x = .pointer (some ⟨w.heap.size, 0, none⟩)) (hy : a.eval y = .agg cs) (t : TypeId) (hs : Twenty cs)
    (h : wpList Tryd.prog ops Q rest (a.put o.dst undef) (w.alloc (.cells cs t))) : wpList Tryd.prog ops Q (o :: rest) a (w.alloc (.cells #[.slice none 0 0, .slice none 0 0, .slice none 0 0, .slice none 0 0, .slice none 0 0, .int .i64 0, .int .i64 0, .string ⟨#[]⟩, .slice none 0 0, .slice none 0 0, .slice none 0 0, .int .i64 0, .slice none 0 0, .slice none 0 0, .int .i64 0, .int .i64 0, .slice none 0 0, .bool false, .string ⟨#[]⟩, .slice none 0 0] t)) :=
  wpList_store_row hgd 36 x y ho w.heap.size cs hx hy t #[.slice none 0 0, .slice none 0 0, .slice none 0 0, .slice none 0 0, .slice none 0 0, .int .i64 0, .int .i64 0, .string ⟨#[]⟩, .slice none 0 0, .slice none 0 0, .slice none 0 0, .int .i64 0, .slice none 0 0, .slice none 0 0, .int .i64 0, .int .i64 0, .slice none 0 0, .bool false, .string ⟨#[]⟩, .slice none 0 0] (heap_alloc_last w _) (by rw [hs.1]; exact size_fI) (by rw [hs.1]; rfl) hs.2 (by rw [World.setRow_alloc_new]; exact h)

theorem results_fI {fn : Func} {p : Tmp} (h : fn.results = #[.cell p 36]) (tmps : Array Value) (w : World) (g : Nat) (t : TypeId) (cs : Array Value)
    (hp : tmps.getD p undef = .pointer (some ⟨g, 0, none⟩)) (hg : Whole w g t cs) (hs : Twenty cs) : (results fn tmps).run Tryd.prog w = .ok (.agg cs) w :=
  results_cell_row h tmps w g t _ (0, 0) _ hp hg Tryd.underlying36 rfl (by rw [hs.1]; exact size_fI)

end Go.Proofs.YthnbaeamekolmaaDoor

namespace Go.Proofs.YthnbaeamekolmaaDoor
open Go.RowKit
set_option linter.unusedVariables false
set_option linter.unusedSimpArgs false

theorem wrow_os {S : Nat → Prop} {w w' : World} {lo : Nat} {v : Value} {Q : List Wd} (hn : Only S w w') (h : WRow w lo v Q) (hs : ∀ g, Blk v g → ¬ S g) : WRow w' lo v Q := by
  obtain ⟨⟨h1, h2⟩, hq⟩ := h
  refine ⟨⟨h1, ?_⟩, hq⟩
  rcases h2 with h2 | ⟨g, cap, cur, hv, hb, hg, r⟩
  · exact .inl h2
  · exact .inr ⟨g, cap, cur, hv, hb, by rw [hn.block g (Array.getElem?_eq_some_iff.1 hg).1 (hs g (.inl (by rw [hv]; rfl)))]; exact hg, r⟩

theorem row_os {S : Nat → Prop} {w w' : World} {lo : Nat} {v : Value} {Q : List Int} (hn : Only S w w') (h : Row w lo v Q) (hs : ∀ g, Blk v g → ¬ S g) : Row w' lo v Q := row_keep h fun g e => hn.block g (row_lt h g e).2 (hs g (.inl e))
theorem crow_os {S : Nat → Prop} {w w' : World} {lo : Nat} {v : Value} {Q : List Cl} (hn : Only S w w') (h : CRow w lo v Q) (hs : ∀ g, Blk v g → ¬ S g) : CRow w' lo v Q := crow_keep h fun g e => hn.block g (crow_lt h g e).2 (hs g (.inl e))
theorem hostT_os {S : Nat → Prop} {w w' : World} {lo : Nat} {v : Value} {h : Ht} (hn : Only S w w') (H : HostT w lo v h) (hs : ∀ g, Blk v g → ¬ S g) : HostT w' lo v h := hostT_only H hn fun g e => hs g (.inr e)
theorem datOf_os {S : Nat → Prop} {w w' : World} {lo hi : Nat} {v : Value} {d : Dt} (hn : Only S w w') (H : DatOf w lo hi v d) (hs : ∀ g, Blk v g → ¬ S g) : DatOf w' lo hi v d := datOf_only H hn fun g e => hs g (.inr e)

theorem blk_wrow {w : World} {lo g : Nat} {v : Value} {Q : List Wd} (h : WRow w lo v Q) (hg : Blk v g) : lo ≤ g ∧ g < w.heap.size := by
  obtain ⟨_, _, A, c, rfl, _⟩ := wrow_wds h
  exact wrow_lt h g (blk_slice hg)
theorem blk_row {w : World} {lo g : Nat} {v : Value} {Q : List Int} (h : Row w lo v Q) (hg : Blk v g) : lo ≤ g ∧ g < w.heap.size := by
  obtain ⟨_, A, c, rfl, _⟩ := row_ints h
  exact row_lt h g (blk_slice hg)
theorem blk_crow {w : World} {lo g : Nat} {v : Value} {Q : List Cl} (h : CRow w lo v Q) (hg : Blk v g) : lo ≤ g ∧ g < w.heap.size := by
  obtain ⟨_, A, c, rfl, _⟩ := crow_dds h
  exact crow_lt h g (blk_slice hg)
theorem blk_host {w : World} {lo g : Nat} {v : Value} {h : Ht} (H : HostT w lo v h) (hg : Blk v g) : lo ≤ g ∧ g < w.heap.size := by
  obtain ⟨A1, k1, A2, k2, A3, k3, A4, k4, rfl⟩ := hostIn_form (hostT_in H)
  exact hostT_mine H (blk_agg hg)
theorem blk_data {w : World} {lo hi g : Nat} {v : Value} {d : Dt} (H : DatOf w lo hi v d) (hg : Blk v g) : lo ≤ g ∧ g < hi := by
  obtain ⟨A1, k1, A2, k2, A3, k3, rfl⟩ := datIn_form (datOf_in H)
  exact datOf_mine H (blk_agg hg)

/-- A block of a machine's is one of its parts'. -/
theorem mine_parts {G : Nat} {x k a b c g s n q z i1 i2 i3 i4 i5 i6 : Value} (h : Mine (.agg #[x, k, a, b, c, i1, i2, i3, g, s, n, i4, q, z, i5, i6]) G) (e1 : i1.ownBlock = none) (e2 : i2.ownBlock = none) (e3 : i3.ownBlock = none) (e4 : i4.ownBlock = none) (e5 : i5.ownBlock = none) (e6 : i6.ownBlock = none) :
    Blk x G ∨ Blk k G ∨ Blk (.agg #[a, b, c, i1, i2, i3]) G ∨ Blk (.agg #[g, s, n, i4, q]) G ∨ Blk z G := by
  obtain ⟨u, hu, e⟩ := mine_agg.1 h
  simp only [List.mem_cons, List.not_mem_nil, or_false] at hu
  rcases hu with rfl | rfl | rfl | rfl | rfl | rfl | rfl | rfl | rfl | rfl | rfl | rfl | rfl | rfl | rfl | rfl
  · exact .inl (.inl e)
  · exact .inr (.inl (.inl e))
  · exact .inr (.inr (.inl (.inr (mine_agg.2 ⟨_, by simp, e⟩))))
  · exact .inr (.inr (.inl (.inr (mine_agg.2 ⟨_, by simp, e⟩))))
  · exact .inr (.inr (.inl (.inr (mine_agg.2 ⟨_, by simp, e⟩))))
  · rw [e1] at e; cases e
  · rw [e2] at e; cases e
  · rw [e3] at e; cases e
  · exact .inr (.inr (.inr (.inl (.inr (mine_agg.2 ⟨_, by simp, e⟩)))))
  · exact .inr (.inr (.inr (.inl (.inr (mine_agg.2 ⟨_, by simp, e⟩)))))
  · exact .inr (.inr (.inr (.inl (.inr (mine_agg.2 ⟨_, by simp, e⟩)))))
  · rw [e4] at e; cases e
  · exact .inr (.inr (.inr (.inl (.inr (mine_agg.2 ⟨_, by simp, e⟩)))))
  · exact .inr (.inr (.inr (.inr (.inl e))))
  · rw [e5] at e; cases e
  · rw [e6] at e; cases e

/-- A part's block is the machine's. -/
theorem parts_mine {G : Nat} {x k a b c g s n q z i1 i2 i3 i4 i5 i6 : Value} (h : Blk x G ∨ Blk k G ∨ Blk (.agg #[a, b, c, i1, i2, i3]) G ∨ Blk (.agg #[g, s, n, i4, q]) G ∨ Blk z G) (hx : ∀ cs, x ≠ .agg cs) (hk : ∀ cs, k ≠ .agg cs) (hz : ∀ cs, z ≠ .agg cs) :
    Mine (.agg #[x, k, a, b, c, i1, i2, i3, g, s, n, i4, q, z, i5, i6]) G := by
  rcases h with (h | ⟨cs, e, _⟩) | (h | ⟨cs, e, _⟩) | h | h | (h | ⟨cs, e, _⟩)
  · exact mine_agg.2 ⟨x, by simp, h⟩
  · exact absurd e (hx cs)
  · exact mine_agg.2 ⟨k, by simp, h⟩
  · exact absurd e (hk cs)
  · obtain ⟨u, hu, e⟩ := mine_agg.1 (blk_agg h)
    simp only [List.mem_cons, List.not_mem_nil, or_false] at hu
    exact mine_agg.2 ⟨u, by simp only [List.mem_cons, List.not_mem_nil, or_false]; rcases hu with h | h | h | h | h | h <;> simp [h], e⟩
  · obtain ⟨u, hu, e⟩ := mine_agg.1 (blk_agg h)
    simp only [List.mem_cons, List.not_mem_nil, or_false] at hu
    exact mine_agg.2 ⟨u, by simp only [List.mem_cons, List.not_mem_nil, or_false]; rcases hu with h | h | h | h | h <;> simp [h], e⟩
  · exact mine_agg.2 ⟨z, by simp, h⟩
  · exact absurd e (hz cs)

theorem mchT_mine {w : World} {lo G : Nat} {v : Value} {m : Mc} (h : MchT w lo v m) (hg : Mine v G) : lo ≤ G ∧ G < w.heap.size := by
  obtain ⟨x, k, a, b, c, g, s, n, q, z, rfl, h1, h2, h3, h4, h5, _⟩ := h
  rcases mine_parts hg rfl rfl rfl rfl rfl rfl with e | e | e | e | e
  · exact blk_wrow h1 e
  · exact blk_row h2 e
  · exact blk_data h3 e
  · exact blk_host h4 e
  · exact blk_crow h5 e

theorem mchT_only {S : Nat → Prop} {w w' : World} {lo : Nat} {v : Value} {m : Mc} (h : MchT w lo v m) (hn : Only S w w') (hs : ∀ g, Mine v g → ¬ S g) : MchT w' lo v m := by
  obtain ⟨x, k, a, b, c, g, s, n, q, z, rfl, h1, h2, h3, h4, h5, hp⟩ := h
  have hx : ∀ cs, x ≠ .agg cs := by obtain ⟨_, _, A, c, rfl, _⟩ := wrow_wds h1; intro cs e; cases e
  have hk : ∀ cs, k ≠ .agg cs := by obtain ⟨_, A, c, rfl, _⟩ := row_ints h2; intro cs e; cases e
  have hz : ∀ cs, z ≠ .agg cs := by obtain ⟨_, A, c, rfl, _⟩ := crow_dds h5; intro cs e; cases e
  exact ⟨x, k, a, b, c, g, s, n, q, z, rfl, wrow_os hn h1 fun G e => hs G (parts_mine (.inl e) hx hk hz), row_os hn h2 fun G e => hs G (parts_mine (.inr (.inl e)) hx hk hz),
    datOf_top (datOf_os hn h3 fun G e => hs G (parts_mine (.inr (.inr (.inl e))) hx hk hz)) hn.size, hostT_os hn h4 fun G e => hs G (parts_mine (.inr (.inr (.inr (.inl e)))) hx hk hz), crow_os hn h5 fun G e => hs G (parts_mine (.inr (.inr (.inr (.inr e)))) hx hk hz), hp⟩

theorem mchT_below {w w' : World} {lo : Nat} {v : Value} {m : Mc} (h : MchT w lo v m) (hb : Below w.heap.size w w') : MchT w' lo v m := mchT_only (S := fun _ => False) h (below_only hb) fun _ _ e => e

theorem mchT_b {w w' : World} {lo : Nat} {v : Value} {m : Mc} (hb : Below w.heap.size w w') (h : MchT w lo v m) : MchT w' lo v m := mchT_below h hb

/-- How many numbers a machine's rows have. -/
def numM (m : Mc) : Nat := 3 * m.w.length + m.k.length + numD m.d + numH m.h + 4 * m.c.length

/-- The machine with marks from 1 on in its rows. -/
def markM (m : Mc) : Mc := ⟨marksW 1 m.w.length, marksI (1 + 3 * m.w.length) m.k.length, markD (1 + 3 * m.w.length + m.k.length) m.d, markH (1 + 3 * m.w.length + m.k.length + numD m.d) m.h, marksC (1 + 3 * m.w.length + m.k.length + numD m.d + numH m.h) m.c.length, m.i, m.f⟩

theorem numD_small {d : Dt} (h : SmallD d) : numD d ≤ 3145728 := by unfold numD; obtain ⟨h1, h2, h3, h4⟩ := h; omega
theorem numH_small {h : Ht} (hs : SmallH h) : numH h ≤ 7340032 := by unfold numH; obtain ⟨h1, h2, h3, h4⟩ := hs; omega

theorem sep_sym {u v : Value} (h : Sep u v) : Sep v u := fun g hg hv => h g hv hg

set_option maxRecDepth 100000 in
set_option maxHeartbeats 4000000 in
theorem markMachine_any (v : Value) (m : Mc) (lo : Nat) (w : World) (hv : MchT w lo v m) (hs : SmallM m) :
    Calls Tryd.prog 14 #[v, .int .i64 1] w fun e w' => e = .returned (.int .i64 ((1 + numM m : Nat) : Int)) ∧ MchT w' lo v (markM m) ∧ Only (Mine v) w w' := by
  have HS := Lib.hid hs
  have HV := Lib.hid hv
  obtain ⟨A1, k1, A2, k2, A3, k3, A4, k4, A5, k5, A6, k6, A7, k7, A8, k8, A9, k9, A0, k0, rfl⟩ := mchIn_form (mchT_in hv)
  have MM : Hid (∀ G, Mine (.agg #[.slice A1 m.w.length k1, .slice A2 m.k.length k2, .slice A3 m.d.s.length k3, .slice A4 m.d.b.length k4, .slice A5 m.d.c.length k5, .int .i64 m.d.h, .int .i64 m.d.n, .string m.d.o, .slice A6 m.h.g.length k6, .slice A7 m.h.s.length k7, .slice A8 m.h.n.length k8, .int .i64 m.h.c, .slice A9 m.h.d.length k9, .slice A0 m.c.length k0, .int .i64 m.i, .int .i64 m.f]) G → G < w.heap.size) := Lib.hid fun G e => (mchT_mine HV.out e).2
  obtain ⟨x, k, a, b, c, g, s, n, q, z, e, hx, hk, hd, hh, hz, q0, q1, q2, q3, q4, q5, q6, q7, q8, q9⟩ := hv
  simp only [Value.agg.injEq, Array.mk.injEq, List.cons.injEq, and_true, true_and] at e
  obtain ⟨rfl, rfl, rfl, rfl, rfl, rfl, rfl, rfl, rfl, rfl⟩ := e
  have p0 := Lib.hid q0
  have p1 := Lib.hid q1
  have p2 := Lib.hid q2
  have p3 := Lib.hid q3
  have p4 := Lib.hid q4
  have p5 := Lib.hid q5
  have p6 := Lib.hid q6
  have p7 := Lib.hid q7
  have p8 := Lib.hid q8
  have p9 := Lib.hid q9
  have PM : Hid (∀ G, Blk (.slice A1 m.w.length k1) G ∨ Blk (.slice A2 m.k.length k2) G ∨ Blk (.agg #[.slice A3 m.d.s.length k3, .slice A4 m.d.b.length k4, .slice A5 m.d.c.length k5, .int .i64 m.d.h, .int .i64 m.d.n, .string m.d.o]) G ∨ Blk (.agg #[.slice A6 m.h.g.length k6, .slice A7 m.h.s.length k7, .slice A8 m.h.n.length k8, .int .i64 m.h.c, .slice A9 m.h.d.length k9]) G ∨ Blk (.slice A0 m.c.length k0) G → Mine (.agg #[.slice A1 m.w.length k1, .slice A2 m.k.length k2, .slice A3 m.d.s.length k3, .slice A4 m.d.b.length k4, .slice A5 m.d.c.length k5, .int .i64 m.d.h, .int .i64 m.d.n, .string m.d.o, .slice A6 m.h.g.length k6, .slice A7 m.h.s.length k7, .slice A8 m.h.n.length k8, .int .i64 m.h.c, .slice A9 m.h.d.length k9, .slice A0 m.c.length k0, .int .i64 m.i, .int .i64 m.f]) G) := Lib.hid fun G e => parts_mine e (fun cs e => by cases e) (fun cs e => by cases e) (fun cs e => by cases e)
  have b0 : Below w.heap.size w (w.alloc (.cells #[.slice A1 m.w.length k1, .slice A2 m.k.length k2, .slice A3 m.d.s.length k3, .slice A4 m.d.b.length k4, .slice A5 m.d.c.length k5, .int .i64 m.d.h, .int .i64 m.d.n, .string m.d.o, .slice A6 m.h.g.length k6, .slice A7 m.h.s.length k7, .slice A8 m.h.n.length k8, .int .i64 m.h.c, .slice A9 m.h.d.length k9, .slice A0 m.c.length k0, .int .i64 m.i, .int .i64 m.f] 32)) := below_alloc (Below.refl _ _) _
  have W0 := Lib.hid (whole_new w 32 #[.slice A1 m.w.length k1, .slice A2 m.k.length k2, .slice A3 m.d.s.length k3, .slice A4 m.d.b.length k4, .slice A5 m.d.c.length k5, .int .i64 m.d.h, .int .i64 m.d.n, .string m.d.o, .slice A6 m.h.g.length k6, .slice A7 m.h.s.length k7, .slice A8 m.h.n.length k8, .int .i64 m.h.c, .slice A9 m.h.d.length k9, .slice A0 m.c.length k0, .int .i64 m.i, .int .i64 m.f])
  have N0 : Hid (Only (Mine (.agg #[.slice A1 m.w.length k1, .slice A2 m.k.length k2, .slice A3 m.d.s.length k3, .slice A4 m.d.b.length k4, .slice A5 m.d.c.length k5, .int .i64 m.d.h, .int .i64 m.d.n, .string m.d.o, .slice A6 m.h.g.length k6, .slice A7 m.h.s.length k7, .slice A8 m.h.n.length k8, .int .i64 m.h.c, .slice A9 m.h.d.length k9, .slice A0 m.c.length k0, .int .i64 m.i, .int .i64 m.f])) w (w.alloc (.cells #[.slice A1 m.w.length k1, .slice A2 m.k.length k2, .slice A3 m.d.s.length k3, .slice A4 m.d.b.length k4, .slice A5 m.d.c.length k5, .int .i64 m.d.h, .int .i64 m.d.n, .string m.d.o, .slice A6 m.h.g.length k6, .slice A7 m.h.s.length k7, .slice A8 m.h.n.length k8, .int .i64 m.h.c, .slice A9 m.h.d.length k9, .slice A0 m.c.length k0, .int .i64 m.i, .int .i64 m.f] 32))) := Lib.hid (below_only b0)
  have X0 := Lib.hid (wrow_below hx b0)
  have K0 := Lib.hid (row_below hk b0)
  have D0 := Lib.hid (datOf_below hd b0)
  have H0 := Lib.hid (hostT_below hh b0)
  have Z0 := Lib.hid (crow_below hz b0)
  clear hx hk hd hh hz q0 q1 q2 q3 q4 q5 q6 q7 q8 q9
  have hnD := numD_small HS.out.2.2.1
  have hnH := numH_small HS.out.2.2.2.1
  have hw0 := HS.out.1.1
  have hk0 := HS.out.2.1
  have hc0 := HS.out.2.2.2.2
  go_enter Tryd.func14, Tryd.ntmps14
  go_wp2_with fail
  refine (markWordS_any _ lo m.w _ X0.out (by omega)).mono ?_
  rintro e w1 ⟨rfl, hr, hg⟩
  have n1 : Only (Blk (.slice A1 m.w.length k1)) _ _ := only_grown hg (fun g e => .inl e)
  have X1 := Lib.hid hr
  have N1 := Lib.hid (only_trans N0.out (only_mono n1 (fun G e => PM.out G (.inl e))))
  have W1 := Lib.hid (whole_onl W0.out n1 (fun q => by have := MM.out _ (PM.out _ (.inl q)); omega))
  have W1z : w.heap.size < w1.heap.size := whole_lt W1.out
  have K1 := Lib.hid (row_os n1 K0.out (sep_sym p0.out))
  have D1 := Lib.hid (datOf_os n1 D0.out (sep_sym p1.out))
  have H1 := Lib.hid (hostT_os n1 H0.out (sep_sym p2.out))
  have Z1 := Lib.hid (crow_os n1 Z0.out (sep_sym p3.out))
  clear hr hg n1 N0 W0 X0 K0 D0 H0 Z0
  have c1 := whole_cell W1.out 1
  simp at c1
  go_wp2_with fail
  clear c1
  rw [show ((1 : Int) + 3 * (m.w.length : Int)) = (((1 + 3 * m.w.length) : Nat) : Int) by omega]
  refine (markInts_any _ lo (1 + 3 * m.w.length) m.k _ K1.out (by omega) (by omega)).mono ?_
  rintro e w2 ⟨rfl, hr, hg⟩
  have n2 : Only (Blk (.slice A2 m.k.length k2)) _ _ := only_grown hg (fun g e => .inl e)
  have K2 := Lib.hid hr
  have N2 := Lib.hid (only_trans N1.out (only_mono n2 (fun G e => PM.out G (.inr (.inl e)))))
  have W2 := Lib.hid (whole_onl W1.out n2 (fun q => by have := MM.out _ (PM.out _ (.inr (.inl q))); omega))
  have W2z : w.heap.size < w2.heap.size := whole_lt W2.out
  have X2 := Lib.hid (wrow_os n2 X1.out p0.out)
  have D2 := Lib.hid (datOf_os n2 D1.out (sep_sym p4.out))
  have H2 := Lib.hid (hostT_os n2 H1.out (sep_sym p5.out))
  have Z2 := Lib.hid (crow_os n2 Z1.out (sep_sym p6.out))
  clear hr hg n2 N1 W1 X1 K1 D1 H1 Z1
  have c2 := whole_cell W2.out 2
  have c3 := whole_cell W2.out 3
  have c4 := whole_cell W2.out 4
  have c5 := whole_cell W2.out 5
  have c6 := whole_cell W2.out 6
  have c7 := whole_cell W2.out 7
  simp at c2 c3 c4 c5 c6 c7
  go_wp2_with fail
  clear c2 c3 c4 c5 c6 c7
  try rw [show ((1 : Int) + 3 * (m.w.length : Int) + (m.k.length : Int)) = (((1 + 3 * m.w.length + m.k.length) : Nat) : Int) by omega]
  refine (markData_only _ m.d lo w.heap.size (1 + 3 * m.w.length + m.k.length) _ D2.out HS.out.2.2.1 (by omega) (by have := W2z; omega)).mono ?_
  rintro e w3 ⟨rfl, hr, hg⟩
  have n3 : Only (Blk (.agg #[.slice A3 m.d.s.length k3, .slice A4 m.d.b.length k4, .slice A5 m.d.c.length k5, .int .i64 m.d.h, .int .i64 m.d.n, .string m.d.o])) _ _ := only_mono hg (fun g e => .inr e)
  have D3 := Lib.hid hr
  have N3 := Lib.hid (only_trans N2.out (only_mono n3 (fun G e => PM.out G (.inr (.inr (.inl e))))))
  have W3 := Lib.hid (whole_onl W2.out n3 (fun q => by have := MM.out _ (PM.out _ (.inr (.inr (.inl q)))); omega))
  have W3z : w.heap.size < w3.heap.size := whole_lt W3.out
  have X3 := Lib.hid (wrow_os n3 X2.out p1.out)
  have K3 := Lib.hid (row_os n3 K2.out p4.out)
  have H3 := Lib.hid (hostT_os n3 H2.out (sep_sym p7.out))
  have Z3 := Lib.hid (crow_os n3 Z2.out (sep_sym p8.out))
  clear hr hg n3 N2 W2 X2 K2 D2 H2 Z2
  have c8 := whole_cell W3.out 8
  have c9 := whole_cell W3.out 9
  have c10 := whole_cell W3.out 10
  have c11 := whole_cell W3.out 11
  have c12 := whole_cell W3.out 12
  simp at c8 c9 c10 c11 c12
  go_wp2_with fail
  clear c8 c9 c10 c11 c12
  try rw [show ((1 : Int) + 3 * (m.w.length : Int) + (m.k.length : Int) + (numD m.d : Int)) = (((1 + 3 * m.w.length + m.k.length + numD m.d) : Nat) : Int) by omega]
  refine (markHostT_any _ m.h lo (1 + 3 * m.w.length + m.k.length + numD m.d) _ H3.out HS.out.2.2.2.1 (by omega)).mono ?_
  rintro e w4 ⟨rfl, hr, hg⟩
  have n4 : Only (Blk (.agg #[.slice A6 m.h.g.length k6, .slice A7 m.h.s.length k7, .slice A8 m.h.n.length k8, .int .i64 m.h.c, .slice A9 m.h.d.length k9])) _ _ := only_mono hg (fun g e => .inr e)
  have H4 := Lib.hid hr
  have N4 := Lib.hid (only_trans N3.out (only_mono n4 (fun G e => PM.out G (.inr (.inr (.inr (.inl e)))))))
  have W4 := Lib.hid (whole_onl W3.out n4 (fun q => by have := MM.out _ (PM.out _ (.inr (.inr (.inr (.inl q))))); omega))
  have W4z : w.heap.size < w4.heap.size := whole_lt W4.out
  have X4 := Lib.hid (wrow_os n4 X3.out p2.out)
  have K4 := Lib.hid (row_os n4 K3.out p5.out)
  have D4 := Lib.hid (datOf_os n4 D3.out p7.out)
  have Z4 := Lib.hid (crow_os n4 Z3.out (sep_sym p9.out))
  clear hr hg n4 N3 W3 X3 K3 D3 H3 Z3
  have c13 := whole_cell W4.out 13
  simp at c13
  go_wp2_with fail
  clear c13
  try rw [show ((1 : Int) + 3 * (m.w.length : Int) + (m.k.length : Int) + (numD m.d : Int) + (numH m.h : Int)) = (((1 + 3 * m.w.length + m.k.length + numD m.d + numH m.h) : Nat) : Int) by omega]
  refine (markCalls_any _ lo (1 + 3 * m.w.length + m.k.length + numD m.d + numH m.h) m.c _ Z4.out (by omega) (by omega)).mono ?_
  rintro e w5 ⟨rfl, hr, hg⟩
  have n5 : Only (Blk (.slice A0 m.c.length k0)) _ _ := only_grown hg (fun g e => .inl e)
  have Z5 := Lib.hid hr
  have N5 := Lib.hid (only_trans N4.out (only_mono n5 (fun G e => PM.out G (.inr (.inr (.inr (.inr e)))))))
  have W5 := Lib.hid (whole_onl W4.out n5 (fun q => by have := MM.out _ (PM.out _ (.inr (.inr (.inr (.inr q))))); omega))
  have W5z : w.heap.size < w5.heap.size := whole_lt W5.out
  have X5 := Lib.hid (wrow_os n5 X4.out p3.out)
  have K5 := Lib.hid (row_os n5 K4.out p6.out)
  have D5 := Lib.hid (datOf_os n5 D4.out p8.out)
  have H5 := Lib.hid (hostT_os n5 H4.out p9.out)
  clear hr hg n5 N4 W4 X4 K4 D4 H4 Z4
  go_wp2
  go_ret
  refine ⟨ret_int (by unfold numM; omega), ⟨(.slice A1 m.w.length k1), (.slice A2 m.k.length k2), (.slice A3 m.d.s.length k3), (.slice A4 m.d.b.length k4), (.slice A5 m.d.c.length k5), (.slice A6 m.h.g.length k6), (.slice A7 m.h.s.length k7), (.slice A8 m.h.n.length k8), (.slice A9 m.h.d.length k9), (.slice A0 m.c.length k0), ?_, X5.out, K5.out, datOf_top D5.out (by omega), H5.out, Z5.out, p0.out, p1.out, p2.out, p3.out, p4.out, p5.out, p6.out, p7.out, p8.out, p9.out⟩, N5.out⟩
  rfl

set_option maxRecDepth 100000 in
set_option maxHeartbeats 4000000 in
theorem heldMachine_any (v : Value) (m : Mc) (w : World) (hv : MchIn w v (markM m)) (hs : SmallM m) :
    Calls Tryd.prog 17 #[v, .int .i64 1] w fun e w' => e = .returned (.int .i64 ((1 + numM m : Nat) : Int)) ∧ Below w.heap.size w w' := by
  have HS := Lib.hid hs
  obtain ⟨x, k, a, b, c, g, s, n, q, z, rfl, hx, hk, hd, hh, hz⟩ := hv
  have HX := Lib.hid hx
  have HK := Lib.hid hk
  have HD := Lib.hid hd
  have HH := Lib.hid hh
  have HZ := Lib.hid hz
  clear hx hk hd hh hz
  have b0 : Below w.heap.size w (w.alloc (.cells #[x, k, a, b, c, .int .i64 (markM m).d.h, .int .i64 (markM m).d.n, .string (markM m).d.o, g, s, n, .int .i64 (markM m).h.c, q, z, .int .i64 (markM m).i, .int .i64 (markM m).f] 32)) := below_alloc (Below.refl _ _) _
  have W0 := Lib.hid (whole_new w 32 #[x, k, a, b, c, .int .i64 (markM m).d.h, .int .i64 (markM m).d.n, .string (markM m).d.o, g, s, n, .int .i64 (markM m).h.c, q, z, .int .i64 (markM m).i, .int .i64 (markM m).f])
  have hnD := numD_small HS.out.2.2.1
  have hnH := numH_small HS.out.2.2.2.1
  have hw0 := HS.out.1.1
  have hk0 := HS.out.2.1
  have hc0 := HS.out.2.2.2.2
  go_enter Tryd.func17, Tryd.ntmps17
  go_wp2_with fail
  refine (heldWordS_any _ m.w.length _ (wds_below HX.out b0) (by omega)).mono ?_
  rintro e w1 ⟨rfl, hb⟩
  have B1 := Lib.hid (below_step b0 hb)
  have W1 := Lib.hid (whole_b hb W0.out)
  have W1z := whole_lt W1.out
  clear hb b0 W0
  have z0 : ¬ ((1 : Int) + 3 * (m.w.length : Int)) < 0 := by omega
  have c1 := whole_cell W1.out 1
  simp at c1
  go_wp2_with fail
  clear z0 c1
  rw [show ((1 : Int) + 3 * (m.w.length : Int)) = (((1 + 3 * m.w.length) : Nat) : Int) by omega]
  refine (heldInts_any _ m.k.length (1 + 3 * m.w.length) _ (ints_below HK.out B1.out) (by omega) (by omega)).mono ?_
  rintro e w2 ⟨rfl, rfl⟩
  have z1 : ¬ ((1 : Int) + 3 * (m.w.length : Int) + (m.k.length : Int)) < 0 := by omega
  have c2 := whole_cell W1.out 2
  have c3 := whole_cell W1.out 3
  have c4 := whole_cell W1.out 4
  have c5 := whole_cell W1.out 5
  have c6 := whole_cell W1.out 6
  have c7 := whole_cell W1.out 7
  simp at c2 c3 c4 c5 c6 c7
  go_wp2_with fail
  clear z1 c2 c3 c4 c5 c6 c7
  rw [show ((1 : Int) + 3 * (m.w.length : Int) + (m.k.length : Int)) = (((1 + 3 * m.w.length + m.k.length) : Nat) : Int) by omega]
  refine (heldData_wide _ m.d (1 + 3 * m.w.length + m.k.length) _ (datIn_below HD.out B1.out) HS.out.2.2.1 (by omega)).mono ?_
  rintro e w3 ⟨rfl, hb⟩
  have B3 := Lib.hid (below_step B1.out hb)
  have W3 := Lib.hid (whole_b hb W1.out)
  have W3z := whole_lt W3.out
  clear hb
  have z2 : ¬ ((1 : Int) + 3 * (m.w.length : Int) + (m.k.length : Int) + (numD m.d : Int)) < 0 := by omega
  have c8 := whole_cell W3.out 8
  have c9 := whole_cell W3.out 9
  have c10 := whole_cell W3.out 10
  have c11 := whole_cell W3.out 11
  have c12 := whole_cell W3.out 12
  simp at c8 c9 c10 c11 c12
  go_wp2_with fail
  clear z2 c8 c9 c10 c11 c12
  rw [show ((1 : Int) + 3 * (m.w.length : Int) + (m.k.length : Int) + (numD m.d : Int)) = (((1 + 3 * m.w.length + m.k.length + numD m.d) : Nat) : Int) by omega]
  refine (heldHost_any _ m.h (1 + 3 * m.w.length + m.k.length + numD m.d) _ (hostIn_below HH.out B3.out) HS.out.2.2.2.1 (by omega)).mono ?_
  rintro e w4 ⟨rfl, hb⟩
  have B4 := Lib.hid (below_step B3.out hb)
  have W4 := Lib.hid (whole_b hb W3.out)
  have W4z := whole_lt W4.out
  clear hb
  have z3 : ¬ ((1 : Int) + 3 * (m.w.length : Int) + (m.k.length : Int) + (numD m.d : Int) + (numH m.h : Int)) < 0 := by omega
  have c13 := whole_cell W4.out 13
  simp at c13
  go_wp2_with fail
  clear z3 c13
  rw [show ((1 : Int) + 3 * (m.w.length : Int) + (m.k.length : Int) + (numD m.d : Int) + (numH m.h : Int)) = (((1 + 3 * m.w.length + m.k.length + numD m.d + numH m.h) : Nat) : Int) by omega]
  refine (heldCalls_any _ m.c.length (1 + 3 * m.w.length + m.k.length + numD m.d + numH m.h) _ (cls_below HZ.out B4.out) (by omega) (by omega)).mono ?_
  rintro e w5 ⟨rfl, rfl⟩
  have z9 : ¬ ((1 : Int) + 3 * (m.w.length : Int) + (m.k.length : Int) + (numD m.d : Int) + (numH m.h : Int) + 4 * (m.c.length : Int)) < 0 := by omega
  go_wp2
  go_ret
  exact ⟨ret_int (by unfold numM; omega), B4.out⟩

end Go.Proofs.YthnbaeamekolmaaDoor

namespace Go.Proofs.YthnbaeamekolmaaDoor
open Go.RowKit
set_option linter.unusedVariables false
set_option linter.unusedSimpArgs false

/-- New data. -/
def newDt : Dt := ⟨[], [], List.replicate 32 0, 0, 10, ByteArray.empty⟩

theorem row_empty {w : World} {base g : Nat} (h : Whole w g 3 #[]) (hb : base ≤ g) : Row w base (.slice (some ⟨g, 0, none⟩) 0 0) [] :=
  ⟨by simp, .inr ⟨g, 0, #[], rfl, hb, h, Nat.le_refl _, by unfold maxLen; simp, by simp, by simp⟩⟩

set_option maxRecDepth 100000 in
set_option maxHeartbeats 2000000 in
theorem sNew_any (w : World) : Calls Tryd.prog 42 #[] w (CopyOf w newDt) := by
  obtain ⟨i0, hi0, hz0, hz1, hz2⟩ := info_parts own_info3
  have I0 := Lib.hid hi0
  have Z0 := Lib.hid hz0
  have Z1 := Lib.hid hz1
  have B8 : Hid (i0.bytes * 32 ≤ 281474976710656) := Lib.hid (by rw [hz2]; omega)
  clear hi0 hz0 hz1 hz2
  go_enter Tryd.func42, Tryd.ntmps42
  go_wp2_with (first
    | (at_make; refine wpList_make_full _ rfl _ _ 23 rfl (w.heap.size + 1 + 1 + 1) 3 i0 _ 1 Tryd.underlying23 I0.out Z0.out Z1.out .i64 .i64 _ _ 32 rfl rfl rfl rfl B8.out (by unfold maxLen; omega) (by simp) ?_
       intro w1 ho1 hg1
       have hb : Below _ _ w1 := (Below.refl _ _).grown hg1 (Nat.le_refl _) (by simp)
       have B1 : Below w.heap.size w w1 := below_step (below_alloc (below_alloc (below_alloc (Below.refl _ _) _) _) _) hb
       have R3 : Row w1 (w.heap.size + 1 + 1 + 1) (.slice (some ⟨w.heap.size + 1 + 1 + 1, 0, none⟩) 32 32) (List.replicate 32 0) := by have h := zeros_row ho1; simpa using h
       have T1 := whole_b hb (whole_alloc (whole_alloc (whole_new w _ _) _) _)
       have E1 := whole_b hb (whole_alloc (whole_new1 w _ _ _) _)
       have E2 := whole_b hb (whole_new2 w _ _ _ _)
       obtain ⟨r0, r1, r2, r3, r4, r5⟩ := six_cells T1
       have fr := whole_free T1
       clear ho1 hg1 hb))
  refine bodyPost_ret (v := .agg #[.slice (some ⟨w.heap.size + 1, 0, none⟩) 0 0, .slice (some ⟨w.heap.size + 1 + 1, 0, none⟩) 0 0, .slice (some ⟨w.heap.size + 1 + 1 + 1, 0, none⟩) 32 32, .int .i64 0, .int .i64 10, .string ByteArray.empty]) (by simp [results, Tryd.results42, go_sem, *]; try rfl) rfl ⟨_, rfl, datOf_top (datOf_base (datOf_rows (d := newDt) (lo := w.heap.size + 1) ?_ ?_ ?_ (by decide) ?_ ?_ ?_) (by omega)) (Nat.le_refl _), ?_⟩
  · have h := row_empty (base := w.heap.size + 1) E1 (Nat.le_refl _)
    show Row _ _ _ []
    repeat (first | with_reducible exact h | ((with_reducible refine row_store ?_ ?hh); case hh => omega))
  · have h := row_empty (base := w.heap.size + 1) E2 (by omega)
    show Row _ _ _ []
    repeat (first | with_reducible exact h | ((with_reducible refine row_store ?_ ?hh); case hh => omega))
  · have h := row_base (base' := w.heap.size + 1) R3 (by omega)
    show Row _ _ _ (List.replicate 32 0)
    repeat (first | with_reducible exact h | ((with_reducible refine row_store ?_ ?hh); case hh => omega))
  · intro k hk hk2; simp [Value.ownBlock] at hk hk2; omega
  · intro k hk hk2; simp [Value.ownBlock] at hk hk2; omega
  · intro k hk hk2; simp [Value.ownBlock] at hk hk2; omega
  · repeat (first | with_reducible exact B1 | with_reducible refine Below.setCell ?_ (by simp) _)

set_option maxRecDepth 100000 in
set_option maxHeartbeats 2000000 in
theorem iNewData_any (w : World) : Calls Tryd.prog 22 #[] w (CopyOf w newDt) := by
  obtain ⟨i0, hi0, hz0, hz1, hz2⟩ := info_parts own_info3
  have I0 := Lib.hid hi0
  have Z0 := Lib.hid hz0
  have Z1 := Lib.hid hz1
  have B8 : Hid (i0.bytes * 32 ≤ 281474976710656) := Lib.hid (by rw [hz2]; omega)
  clear hi0 hz0 hz1 hz2
  go_enter Tryd.func22, Tryd.ntmps22
  go_wp2_with (first
    | (at_make; refine wpList_make_full _ rfl _ _ 23 rfl (w.heap.size + 1) 3 i0 _ 1 Tryd.underlying23 I0.out Z0.out Z1.out .i64 .i64 _ _ 32 rfl rfl rfl rfl B8.out (by unfold maxLen; omega) (by simp) ?_
       intro w1 ho1 hg1
       have hb : Below _ _ w1 := (Below.refl _ _).grown hg1 (Nat.le_refl _) (by simp)
       have B1 : Below w.heap.size w w1 := below_step (below_alloc (Below.refl _ _) _) hb
       have R3 : Row w1 (w.heap.size + 1) (.slice (some ⟨w.heap.size + 1, 0, none⟩) 32 32) (List.replicate 32 0) := by have h := zeros_row ho1; simpa using h
       have T1 := whole_b hb (whole_new w _ _)
       obtain ⟨r0, r1, r2, r3, r4, r5⟩ := six_cells T1
       have fr := whole_free T1
       clear ho1 hg1 hb))
  refine bodyPost_ret (v := .agg #[.slice none 0 0, .slice none 0 0, .slice (some ⟨w.heap.size + 1, 0, none⟩) 32 32, .int .i64 0, .int .i64 10, .string ByteArray.empty]) (by simp [results, Tryd.results22, go_sem, *]; try rfl) rfl ⟨_, rfl, datOf_top (datOf_base (datOf_rows (d := newDt) (lo := w.heap.size + 1) (row_nil _ _) (row_nil _ _) ?_ (by decide) (parted_nil _) (parted_nil _) (parted_nil _)) (by omega)) (Nat.le_refl _), ?_⟩
  · have h := row_base (base' := w.heap.size + 1) R3 (by omega)
    show Row _ _ _ (List.replicate 32 0)
    repeat (first | with_reducible exact h | ((with_reducible refine row_store ?_ ?hh); case hh => omega))
  · repeat (first | with_reducible exact B1 | with_reducible refine Below.setCell ?_ (by simp) _)

end Go.Proofs.YthnbaeamekolmaaDoor

namespace Go.Proofs.YthnbaeamekolmaaDoor
open Go.RowKit
set_option linter.unusedVariables false
set_option linter.unusedSimpArgs false

/-- A new host. -/
def newHt : Ht := ⟨List.replicate 4 false, List.replicate 8 0, [], 0, []⟩

theorem make_b (W : World) : (Instr.makeSlice 26 (.int .i64 4) (.int .i64 4)).run Tryd.prog W = .ok (.slice (some ⟨W.heap.size, 0, none⟩) 4 4) (W.alloc (.cells #[.bool false, .bool false, .bool false, .bool false] 4)) :=
  by
    have h := run_make_row' 26 4 (.bool false) 1 Tryd.underlying26 own_infoB rfl .i64 .i64 4 (by decide) (by decide) W
    rw [show madeCells #[Value.bool false] 4 = #[.bool false, .bool false, .bool false, .bool false] from Array.toList_inj.1 (by rw [toList_madeCells_one]; rfl)] at h
    exact h

theorem make_i (W : World) : (Instr.makeSlice 23 (.int .i64 8) (.int .i64 8)).run Tryd.prog W = .ok (.slice (some ⟨W.heap.size, 0, none⟩) 8 8) (W.alloc (.cells #[.int .i64 0, .int .i64 0, .int .i64 0, .int .i64 0, .int .i64 0, .int .i64 0, .int .i64 0, .int .i64 0] 3)) :=
  by
    have h := run_make_row' 23 3 (.int .i64 0) 8 Tryd.underlying23 own_info3 rfl .i64 .i64 8 (by decide) (by decide) W
    rw [show madeCells #[Value.int .i64 0] 8 = #[.int .i64 0, .int .i64 0, .int .i64 0, .int .i64 0, .int .i64 0, .int .i64 0, .int .i64 0, .int .i64 0] from Array.toList_inj.1 (by rw [toList_madeCells_one]; rfl)] at h
    exact h

theorem whole_newAt {w : World} {g : Nat} {t : TypeId} {cs : Array Value} (hg : g = w.heap.size) : Whole (w.alloc (.cells cs t)) g t cs := by
  subst hg
  exact whole_new w t cs

theorem whole_drew {w : World} {g : Nat} {t : TypeId} {cs : Array Value} (h : Whole w g t cs) : Whole w.drew g t cs := h

theorem hnew_fin {w W : World} {g s n d : Nat} (h1 : Whole W g 4 #[.bool false, .bool false, .bool false, .bool false])
    (h2 : Whole W s 3 #[.int .i64 0, .int .i64 0, .int .i64 0, .int .i64 0, .int .i64 0, .int .i64 0, .int .i64 0, .int .i64 0]) (h3 : Whole W n 3 #[]) (h4 : Whole W d 86 #[])
    (l : w.heap.size ≤ g ∧ w.heap.size ≤ s ∧ w.heap.size ≤ n ∧ w.heap.size ≤ d) (e : g ≠ s ∧ g ≠ n ∧ g ≠ d ∧ s ≠ n ∧ s ≠ d ∧ n ≠ d) (hb : Below w.heap.size w W) :
    HCopyOf w newHt (.returned (.agg #[.slice (some ⟨g, 0, none⟩) 4 4, .slice (some ⟨s, 0, none⟩) 8 8, .slice (some ⟨n, 0, none⟩) 0 0, .int .i64 0, .slice (some ⟨d, 0, none⟩) 0 0])) W := by
  obtain ⟨l1, l2, l3, l4⟩ := l
  obtain ⟨e1, e2, e3, e4, e5, e6⟩ := e
  have pt : ∀ (a b la lb : Nat), a ≠ b → Parted (.slice (some ⟨a, 0, none⟩) la la) (.slice (some ⟨b, 0, none⟩) lb lb) := fun a b la lb h k hk hk2 => by
    simp [Value.ownBlock] at hk hk2
    omega
  refine ⟨_, rfl, hostOf_rows (h := newHt) ?_ ?_ ?_ ?_ (pt _ _ _ _ e1) (pt _ _ _ _ e2) (pt _ _ _ _ e3) (pt _ _ _ _ e4) (pt _ _ _ _ e5) (pt _ _ _ _ e6), hb⟩
  · exact borow_whole (zs := List.replicate 4 false) h1 l1 (by unfold maxLen; simp)
  · exact row_whole (zs := List.replicate 8 0) h2 l2 (by unfold maxLen; simp)
  · exact row_empty h3 l3
  · exact ⟨by simp [newHt, dcells], .inr ⟨d, 0, #[], rfl, l4, h4, Nat.le_refl _, by unfold maxLen; simp, by simp [newHt], by simp [newHt, dcells]⟩⟩

set_option maxRecDepth 100000 in
set_option maxHeartbeats 8000000 in
theorem sHNew_any (w : World) : Calls Tryd.prog 43 #[] w (HCopyOf w newHt) := by
  have mb := make_b
  have mi := make_i
  go_enter Tryd.func43, Tryd.ntmps43
  go_wp2
  go_region
  all_goals
    go_wp2
    apply bodyPost_ret
    · simp [results, Tryd.results43, go_sem, *]
      rfl
    · rfl
    refine hnew_fin ?_ ?_ ?_ ?_ ⟨by omega, by omega, by omega, by omega⟩ ⟨by omega, by omega, by omega, by omega, by omega, by omega⟩ ?_
    · refine whole_drew ?_
      repeat (first | with_reducible exact whole_newAt (by simp) | with_reducible refine whole_alloc ?_ _)
    · refine whole_drew ?_
      repeat (first | with_reducible exact whole_newAt (by simp) | with_reducible refine whole_alloc ?_ _)
    · refine whole_drew ?_
      repeat (first | with_reducible exact whole_newAt (by simp) | with_reducible refine whole_alloc ?_ _)
    · refine whole_drew ?_
      repeat (first | with_reducible exact whole_newAt (by simp) | with_reducible refine whole_alloc ?_ _)
    · repeat (first | with_reducible exact Below.refl _ _ | with_reducible refine below_alloc ?_ _ | with_reducible refine Below.drew ?_)

end Go.Proofs.YthnbaeamekolmaaDoor

namespace Go.Proofs.YthnbaeamekolmaaDoor
open Go.RowKit
set_option linter.unusedVariables false
set_option linter.unusedSimpArgs false

theorem hostOf_off {w : World} {lo hi g i : Nat} {v u : Value} {h : Ht} (H : HostOf w lo hi v h) (hn : ∀ k, Mine v k → k ≠ g) : HostOf (w.setCell ⟨g, i, none⟩ u) lo hi v h :=
  hostOf_only (S := fun k => k = g) H ⟨rfl, rfl, rfl, by simp [World.setCell], fun k _ hk => Below.heap_setCell w _ u k hk⟩ hn

theorem hnew_fin2 {w W : World} {g s : Nat} (h1 : Whole W g 4 #[.bool false, .bool false, .bool false, .bool false])
    (h2 : Whole W s 3 #[.int .i64 0, .int .i64 0, .int .i64 0, .int .i64 0, .int .i64 0, .int .i64 0, .int .i64 0, .int .i64 0])
    (l : w.heap.size ≤ g ∧ w.heap.size ≤ s) (e : g ≠ s) (hb : Below w.heap.size w W) :
    HCopyOf w newHt (.returned (.agg #[.slice (some ⟨g, 0, none⟩) 4 4, .slice (some ⟨s, 0, none⟩) 8 8, .slice none 0 0, .int .i64 0, .slice none 0 0])) W := by
  obtain ⟨l1, l2⟩ := l
  have pt : Parted (.slice (some ⟨g, 0, none⟩) 4 4) (.slice (some ⟨s, 0, none⟩) 8 8) := fun k hk hk2 => by
    simp [Value.ownBlock] at hk hk2
    omega
  refine ⟨_, rfl, hostOf_rows (h := newHt) ?_ ?_ (row_nil _ _) (drow_nil _ _) pt (parted_sym (parted_nil _)) (parted_sym (parted_nil _)) (parted_sym (parted_nil _)) (parted_sym (parted_nil _)) (parted_nil _), hb⟩
  · exact borow_whole (zs := List.replicate 4 false) h1 l1 (by unfold maxLen; simp)
  · exact row_whole (zs := List.replicate 8 0) h2 l2 (by unfold maxLen; simp)

set_option maxRecDepth 100000 in
set_option maxHeartbeats 2000000 in
theorem iNewHost_any (w : World) : Calls Tryd.prog 23 #[] w (HCopyOf w newHt) := by
  have mb := make_b
  have mi := make_i
  go_enter Tryd.func23, Tryd.ntmps23
  go_wp2
  go_region
  all_goals
    go_wp2
    apply bodyPost_ret
    · simp [results, Tryd.results23, go_sem, *]
      rfl
    · rfl
    refine hnew_fin2 ?_ ?_ ⟨by omega, by omega⟩ (by omega) ?_
    · refine whole_drew ?_
      repeat (first | with_reducible exact whole_newAt (by simp) | with_reducible refine whole_alloc ?_ _)
    · refine whole_drew ?_
      repeat (first | with_reducible exact whole_newAt (by simp) | with_reducible refine whole_alloc ?_ _)
    · repeat (first | with_reducible exact Below.refl _ _ | with_reducible refine below_alloc ?_ _ | with_reducible refine Below.drew ?_)

theorem hGrant_small {h : Ht} (hs : SmallH h) (c : Int) (yes : Bool) : SmallH (hGrant h c yes).1 := by
  obtain ⟨h1, h2, h3, h4⟩ := hs
  unfold hGrant
  split
  · split
    · exact ⟨by simpa using h1, h2, h3, h4⟩
    · exact small_noHt
  · exact small_noHt

theorem hAnswer_small {h : Ht} (hs : SmallH h) (n : Int) : SmallH (hAnswer h n).1 := by
  obtain ⟨h1, h2, h3, h4⟩ := id hs
  unfold hAnswer
  split
  · rename_i q
    have hn := fineH_n (hOK_fine q)
    split
    · split
      · exact hs
      · exact ⟨h1, h2, by simp; omega, h4⟩
    · exact small_noHt
  · exact small_noHt

theorem small_newHt : SmallH newHt := by unfold SmallH newHt; decide

end Go.Proofs.YthnbaeamekolmaaDoor

namespace Go.Proofs.YthnbaeamekolmaaDoor
open Go.RowKit
set_option linter.unusedVariables false
set_option linter.unusedSimpArgs false

/-- One deed over a store: a write at an index lays its cell. -/
def foldD (S : List Int) (x : Dd) : List Int := if x.p = 1 ∧ inB x.a 0 7 = true then S.set x.a.toNat x.b else S

/-- What deeds make of a store, and a code. -/
def hFold (S : List Int) (Q : List Dd) : List Int × Int :=
  if 4096 < S.length ∨ 4096 < Q.length then ([], 2) else if S.length = 8 ∧ cellsB S = true then if ddsB Q then (Q.foldl foldD S, 0) else ([], 1) else ([], 1)

/-- A row handed back in memory of its own, and a code. -/
def RowResOf (w : World) (r : List Int × Int) (e : Ending) (w' : World) : Prop := ∃ u, e = .returned (.tuple #[u, .int .i64 r.2]) ∧ Row w' w.heap.size u r.1 ∧ Below w.heap.size w w'

theorem rowres_none (w : World) (c : Int) {w1 : World} (hb : Below w.heap.size w w1) {g : Nat} (hg : g = w1.heap.size) : RowResOf w ([], c) (.returned (.tuple #[.slice (some ⟨g, 0, none⟩) 0 0, .int .i64 c])) (w1.alloc (.cells #[] 3)) := by
  subst hg
  exact ⟨_, rfl, row_empty (whole_new w1 _ _) hb.size, below_alloc hb _⟩

theorem foldD_len (S : List Int) (x : Dd) : (foldD S x).length = S.length := by unfold foldD; split <;> simp

theorem foldl_len (Q : List Dd) (S : List Int) : (Q.foldl foldD S).length = S.length := by
  induction Q generalizing S with
  | nil => rfl
  | cons q r ih => rw [List.foldl_cons, ih, foldD_len]

theorem fold_next (S : List Int) (Q : List Dd) (k : Nat) (h : k < Q.length) : (Q.take (k + 1)).foldl foldD S = foldD ((Q.take k).foldl foldD S) Q[k] := by
  rw [List.take_succ_eq_append_getElem h, List.foldl_append]
  rfl

end Go.Proofs.YthnbaeamekolmaaDoor

namespace Go.Proofs.YthnbaeamekolmaaDoor
open Go.RowKit
set_option linter.unusedVariables false
set_option linter.unusedSimpArgs false

/-- The new machine. -/
def newMc : Mc := ⟨kernW, [], newDt, newHt, [], 0, 0⟩

/-- What makes a machine leaves: the machine, in memory of its own. -/
def MCopyOf (w : World) (m : Mc) (e : Ending) (w' : World) : Prop := ∃ u, e = .returned u ∧ MchT w' w.heap.size u m ∧ Below w.heap.size w w'

theorem wpList_store_mR {ops : Array Oper} {rest : List Oper} {o : Oper} {a : Act} {w : World} {Q : Exit → Act → World → Prop} (hgd : o.guard = none) (x y : Operand) (ho : o.op = .store 32 x y)
    (g : Nat) (cs : Array Value) (hx : a.eval x = .pointer (some ⟨g, 0, none⟩)) (hy : a.eval y = .agg cs) {t : TypeId} {old : Array Value} (hg : Whole w g t old) (ho' : old.size = 16) (hs : Six10 cs)
    (h : wpList Tryd.prog ops Q rest (a.put o.dst undef) (w.setRow g cs)) : wpList Tryd.prog ops Q (o :: rest) a w :=
  wpList_store_row hgd 32 x y ho g cs hx hy t old hg (by rw [hs.1]; exact size_mI) (by rw [hs.1, ho']) hs.2 h

theorem results_mI {fn : Func} {p : Tmp} (h : fn.results = #[.cell p 32]) (tmps : Array Value) (w : World) (g : Nat) (t : TypeId) (cs : Array Value)
    (hp : tmps.getD p undef = .pointer (some ⟨g, 0, none⟩)) (hg : Whole w g t cs) (hs : Six10 cs) : (results fn tmps).run Tryd.prog w = .ok (.agg cs) w :=
  results_cell_row h tmps w g t _ (0, 0) _ hp hg Tryd.underlying32 rfl (by rw [hs.1]; exact size_mI)

theorem only_row {w : World} {g : Nat} {cs : Array Value} : Only (fun k => k = g) w (w.setRow g cs) := ⟨rfl, rfl, rfl, by simp, fun k hk hne => setRow_other w g k cs hne⟩

theorem whole_row {w : World} {g : Nat} {t : TypeId} {old cs : Array Value} (h : Whole w g t old) : Whole (w.setRow g cs) g t cs := setRow_heap w g old cs t _ h

theorem crow_empty {w : World} {base g : Nat} (h : Whole w g 75 #[]) (hb : base ≤ g) : CRow w base (.slice (some ⟨g, 0, none⟩) 0 0) [] := by
  refine ⟨rfl, .inr ⟨g, 0, #[], rfl, hb, h, Nat.le_refl _, by simp [maxLen], rfl, rfl⟩⟩

theorem mchT_base {w : World} {lo lo' : Nat} {v : Value} {m : Mc} (h : MchT w lo v m) (hl : lo' ≤ lo) : MchT w lo' v m := by
  obtain ⟨x, k, a, b, c, g, s, n, q, z, rfl, h1, h2, h3, h4, h5, hp⟩ := h
  exact ⟨x, k, a, b, c, g, s, n, q, z, rfl, wrow_base h1 hl, row_base h2 hl, datOf_base h3 hl, hostT_base h4 hl, crow_base h5 hl, hp⟩

set_option maxRecDepth 100000 in
set_option maxHeartbeats 4000000 in
theorem iNewMachine_any (w : World) (ht : Tabs w) : Calls Tryd.prog 10 #[] w (MCopyOf w newMc) := by
  have HT := Lib.hid ht
  clear ht
  have R0 := Lib.hid (whole_new w 32 #[.slice none 0 0, .slice none 0 0, .slice none 0 0, .slice none 0 0, .slice none 0 0, .int .i64 0, .int .i64 0, .string ⟨#[]⟩, .slice none 0 0, .slice none 0 0, .slice none 0 0, .int .i64 0, .slice none 0 0, .slice none 0 0, .int .i64 0, .int .i64 0])
  have b0 : Below w.heap.size w (w.alloc (.cells #[.slice none 0 0, .slice none 0 0, .slice none 0 0, .slice none 0 0, .slice none 0 0, .int .i64 0, .int .i64 0, .string ⟨#[]⟩, .slice none 0 0, .slice none 0 0, .slice none 0 0, .int .i64 0, .slice none 0 0, .slice none 0 0, .int .i64 0, .int .i64 0] 32)) := below_alloc (Below.refl _ _) _
  go_enter Tryd.func10, Tryd.ntmps10
  go_wp2_with fail
  refine (iKernelWords_any _ (tabs_below HT.out b0)).mono ?_
  rintro e w1 ⟨v1, rfl, hw, -, hb⟩
  have B1 := Lib.hid (below_step b0 hb)
  have R1 := Lib.hid (whole_b hb R0.out)
  have X1 := Lib.hid hw
  obtain ⟨A1, k1, rfl, -, -, -⟩ := wds_form (wrow_wds hw)
  clear hb b0 R0 hw
  go_wp2_with fail
  refine (iNewData_any _).mono ?_
  rintro e w2 ⟨v2, rfl, hd, hb⟩
  have B2 := Lib.hid (below_step B1.out hb)
  have R2 := Lib.hid (whole_b hb R1.out)
  have X2 := Lib.hid (wrow_below X1.out hb)
  have D2 := Lib.hid hd
  obtain ⟨A3, k3, A4, k4, A5, k5, rfl⟩ := datIn_form (datOf_in hd)
  have s12 := B2.out.size
  have y12 := hb.size
  clear hb hd
  go_wp2_with fail
  refine (iNewHost_any _).mono ?_
  rintro e w3 ⟨v3, rfl, hh, hb⟩
  have B3 := Lib.hid (below_step B2.out hb)
  have RW := Lib.hid (whole_b hb R2.out)
  have X3 := Lib.hid (wrow_below X2.out hb)
  have D3 := Lib.hid (datOf_below D2.out hb)
  have H3 := Lib.hid (hostT_of hh)
  obtain ⟨A6, k6, A7, k7, A8, k8, A9, k9, rfl⟩ := hostIn_form (hostOf_in hh)
  have y23 := hb.size
  clear hb hh
  go_wp2_with (first | (refine wpList_store_mR rfl _ _ rfl _ _ rfl rfl RW.out rfl ⟨rfl, by simp [Value.oneCell']⟩ ?_) | fail)
  have z1 : w.heap.size < w1.heap.size := whole_lt R1.out
  have O1 := Lib.hid (only_row (w := w3) (g := w.heap.size) (cs := #[.slice A1 kernW.length k1, .slice none 0 0, .slice A3 newDt.s.length k3, .slice A4 newDt.b.length k4, .slice A5 newDt.c.length k5, .int .i64 newDt.h, .int .i64 newDt.n, .string newDt.o, .slice A6 newHt.g.length k6, .slice A7 newHt.s.length k7, .slice A8 newHt.n.length k8, .int .i64 newHt.c, .slice A9 newHt.d.length k9, .slice none 0 0, .int .i64 0, .int .i64 0]))
  have B1' : Below (w.heap.size + 1) (w.alloc (.cells #[.slice none 0 0, .slice none 0 0, .slice none 0 0, .slice none 0 0, .slice none 0 0, .int .i64 0, .int .i64 0, .string ⟨#[]⟩, .slice none 0 0, .slice none 0 0, .slice none 0 0, .int .i64 0, .slice none 0 0, .slice none 0 0, .int .i64 0, .int .i64 0] 32)) w3 ∨ True := .inr trivial
  refine bodyPost_ret (v := .agg #[.slice A1 kernW.length k1, .slice none 0 0, .slice A3 newDt.s.length k3, .slice A4 newDt.b.length k4, .slice A5 newDt.c.length k5, .int .i64 newDt.h, .int .i64 newDt.n, .string newDt.o, .slice A6 newHt.g.length k6, .slice A7 newHt.s.length k7, .slice A8 newHt.n.length k8, .int .i64 newHt.c, .slice A9 newHt.d.length k9, .slice none 0 0, .int .i64 0, .int .i64 0]) (results_mI rfl _ _ w.heap.size _ _ rfl (whole_row RW.out) ⟨rfl, by simp [Value.oneCell']⟩) rfl ⟨_, rfl, ⟨_, _, _, _, _, _, _, _, _, _, rfl, wrow_base (wrow_on O1.out (by simp) X3.out) (by simp), row_nil _ _, datOf_top (datOf_base (datOf_on O1.out (by omega) D3.out) (by omega)) (by simp; omega), hostT_base (hostT_on O1.out (by omega) H3.out) (by omega), crow_nil _ _, fun g _ e => by have := blk_slice e; simp [Value.ownBlock] at this, sep_lt (n := w1.heap.size) (fun g e => by have := blk_wrow X1.out e; omega) (fun g e => by have := blk_data D2.out e; omega), sep_lt (n := w2.heap.size) (fun g e => by have := blk_wrow X1.out e; omega) (fun g e => by have := blk_host H3.out e; omega), fun g _ e => by have := blk_slice e; simp [Value.ownBlock] at this, fun g e _ => by have := blk_slice e; simp [Value.ownBlock] at this, fun g e _ => by have := blk_slice e; simp [Value.ownBlock] at this, fun g _ e => by have := blk_slice e; simp [Value.ownBlock] at this, sep_lt (n := w2.heap.size) (fun g e => by have := blk_data D2.out e; omega) (fun g e => by have := blk_host H3.out e; omega), fun g _ e => by have := blk_slice e; simp [Value.ownBlock] at this, fun g _ e => by have := blk_slice e; simp [Value.ownBlock] at this⟩, B3.out.trans (only_below O1.out B3.out.size (fun k e => by omega))⟩

set_option maxRecDepth 100000 in
set_option maxHeartbeats 4000000 in
theorem sNewM_any (w : World) : Calls Tryd.prog 20 #[] w (MCopyOf w newMc) := by
  have R0 := Lib.hid (whole_new w 32 #[.slice none 0 0, .slice none 0 0, .slice none 0 0, .slice none 0 0, .slice none 0 0, .int .i64 0, .int .i64 0, .string ⟨#[]⟩, .slice none 0 0, .slice none 0 0, .slice none 0 0, .int .i64 0, .slice none 0 0, .slice none 0 0, .int .i64 0, .int .i64 0])
  have b0 : Below w.heap.size w (w.alloc (.cells #[.slice none 0 0, .slice none 0 0, .slice none 0 0, .slice none 0 0, .slice none 0 0, .int .i64 0, .int .i64 0, .string ⟨#[]⟩, .slice none 0 0, .slice none 0 0, .slice none 0 0, .int .i64 0, .slice none 0 0, .slice none 0 0, .int .i64 0, .int .i64 0] 32)) := below_alloc (Below.refl _ _) _
  go_enter Tryd.func20, Tryd.ntmps20
  go_wp2_with fail
  refine (sKernel_any _).mono ?_
  rintro e w1 ⟨v1, rfl, hw, -, hb⟩
  have B1 := Lib.hid (below_step b0 hb)
  have R1 := Lib.hid (whole_b hb R0.out)
  have X1 := Lib.hid hw
  have z1 : w.heap.size < w1.heap.size := whole_lt R1.out
  obtain ⟨A1, k1, rfl, -, -, -⟩ := wds_form (wrow_wds hw)
  clear hb b0 R0 hw
  go_wp2_with fail
  have bE : Below w1.heap.size w1 (w1.alloc (.cells #[] 3)) := below_alloc (Below.refl _ _) _
  have E0 := whole_new w1 3 #[]
  refine (sNew_any _).mono ?_
  rintro e w2 ⟨v2, rfl, hd, hb⟩
  have b2 := below_step bE hb
  have B2 := Lib.hid (below_step B1.out b2)
  have R2 := Lib.hid (whole_b b2 R1.out)
  have X2 := Lib.hid (wrow_below X1.out b2)
  have E2 := Lib.hid (whole_b hb E0)
  have D2 := Lib.hid (datOf_base hd (show w1.heap.size + 1 ≤ _ by simp))
  obtain ⟨A3, k3, A4, k4, A5, k5, rfl⟩ := datIn_form (datOf_in hd)
  have y12 : w1.heap.size + 1 ≤ w2.heap.size := by have := hb.size; simpa using this
  clear hb hd bE E0 b2
  go_wp2_with fail
  refine (sHNew_any _).mono ?_
  rintro e w3 ⟨v3, rfl, hh, hb⟩
  have B3 := Lib.hid (below_step B2.out hb)
  have R3 := Lib.hid (whole_b hb R2.out)
  have X3 := Lib.hid (wrow_below X2.out hb)
  have E3 := Lib.hid (whole_b hb E2.out)
  have D3 := Lib.hid (datOf_below D2.out hb)
  have H3 := Lib.hid (hostT_of hh)
  obtain ⟨A6, k6, A7, k7, A8, k8, A9, k9, rfl⟩ := hostIn_form (hostOf_in hh)
  have y23 := hb.size
  clear hb hh
  have bC : Below w3.heap.size w3 (w3.alloc (.cells #[] 75)) := below_alloc (Below.refl _ _) _
  have C4 := Lib.hid (whole_new w3 75 #[])
  have B4 := Lib.hid (below_step B3.out bC)
  have RW := Lib.hid (whole_b bC R3.out)
  have X4 := Lib.hid (wrow_below X3.out bC)
  have E4 := Lib.hid (whole_b bC E3.out)
  have D4 := Lib.hid (datOf_below D3.out bC)
  have H4 := Lib.hid (hostT_below H3.out bC)
  clear bC
  go_wp2_with (first | (refine wpList_store_mR rfl _ _ rfl _ _ rfl rfl RW.out rfl ⟨rfl, by simp [Value.oneCell']⟩ ?_) | fail)
  have O1 := Lib.hid (only_row (w := w3.alloc (.cells #[] 75)) (g := w.heap.size) (cs := #[.slice A1 kernW.length k1, .slice (some ⟨w1.heap.size, 0, none⟩) 0 0, .slice A3 newDt.s.length k3, .slice A4 newDt.b.length k4, .slice A5 newDt.c.length k5, .int .i64 newDt.h, .int .i64 newDt.n, .string newDt.o, .slice A6 newHt.g.length k6, .slice A7 newHt.s.length k7, .slice A8 newHt.n.length k8, .int .i64 newHt.c, .slice A9 newHt.d.length k9, .slice (some ⟨w3.heap.size, 0, none⟩) 0 0, .int .i64 0, .int .i64 0]))
  have r2 : Row (w3.alloc (.cells #[] 75)) w1.heap.size (.slice (some ⟨w1.heap.size, 0, none⟩) 0 0) [] := row_empty E4.out (Nat.le_refl _)
  have r5 : CRow (w3.alloc (.cells #[] 75)) w3.heap.size (.slice (some ⟨w3.heap.size, 0, none⟩) 0 0) [] := crow_empty C4.out (Nat.le_refl _)
  refine bodyPost_ret (v := .agg #[.slice A1 kernW.length k1, .slice (some ⟨w1.heap.size, 0, none⟩) 0 0, .slice A3 newDt.s.length k3, .slice A4 newDt.b.length k4, .slice A5 newDt.c.length k5, .int .i64 newDt.h, .int .i64 newDt.n, .string newDt.o, .slice A6 newHt.g.length k6, .slice A7 newHt.s.length k7, .slice A8 newHt.n.length k8, .int .i64 newHt.c, .slice A9 newHt.d.length k9, .slice (some ⟨w3.heap.size, 0, none⟩) 0 0, .int .i64 0, .int .i64 0]) (results_mI rfl _ _ w.heap.size _ _ rfl (whole_row RW.out) ⟨rfl, by simp [Value.oneCell']⟩) rfl ⟨_, rfl, ⟨_, _, _, _, _, _, _, _, _, _, rfl, wrow_base (wrow_on O1.out (by simp) X4.out) (by simp), row_base (row_on O1.out (by omega) r2) (by omega), datOf_top (datOf_base (datOf_on O1.out (by omega) D4.out) (by omega)) (by simp; omega), hostT_base (hostT_on O1.out (by omega) H4.out) (by omega), crow_base (crow_on O1.out (by omega) r5) (by omega), sep_lt (n := w1.heap.size) (fun g e => by have := blk_wrow X1.out e; omega) (fun g e => by have := blk_slice e; simp [Value.ownBlock] at this; omega), sep_lt (n := w1.heap.size) (fun g e => by have := blk_wrow X1.out e; omega) (fun g e => by have := blk_data D2.out e; omega), sep_lt (n := w1.heap.size) (fun g e => by have := blk_wrow X1.out e; omega) (fun g e => by have := blk_host H3.out e; omega), sep_lt (n := w1.heap.size) (fun g e => by have := blk_wrow X1.out e; omega) (fun g e => by have := blk_slice e; simp [Value.ownBlock] at this; omega), sep_lt (n := w1.heap.size + 1) (fun g e => by have := blk_slice e; simp [Value.ownBlock] at this; omega) (fun g e => by have := blk_data D2.out e; omega), sep_lt (n := w1.heap.size + 1) (fun g e => by have := blk_slice e; simp [Value.ownBlock] at this; omega) (fun g e => by have := blk_host H3.out e; omega), sep_lt (n := w1.heap.size + 1) (fun g e => by have := blk_slice e; simp [Value.ownBlock] at this; omega) (fun g e => by have := blk_slice e; simp [Value.ownBlock] at this; omega), sep_lt (n := w2.heap.size) (fun g e => by have := blk_data D2.out e; omega) (fun g e => by have := blk_host H3.out e; omega), sep_lt (n := w2.heap.size) (fun g e => by have := blk_data D2.out e; omega) (fun g e => by have := blk_slice e; simp [Value.ownBlock] at this; omega), sep_lt (n := w3.heap.size) (fun g e => by have := blk_host H3.out e; omega) (fun g e => by have := blk_slice e; simp [Value.ownBlock] at this; omega)⟩, B4.out.trans (only_below O1.out B4.out.size (fun k e => by omega))⟩

theorem alloc_szM (w : World) (o : Obj) : (w.alloc o).heap.size = w.heap.size + 1 := by simp

end Go.Proofs.YthnbaeamekolmaaDoor

namespace Go.Proofs.YthnbaeamekolmaaDoor
open Go.RowKit
set_option linter.unusedVariables false
set_option linter.unusedSimpArgs false

/-- The Forth is small. -/
def SmallF (F : Fo) : Prop := SmallM F.m ∧ SmallL F.l ∧ F.q.length ≤ 1048576

/-- What is left of a size: below 0, or the Forth is small. -/
def SzFOf (w : World) (F : Fo) (e : Ending) (w' : World) : Prop := ∃ r : Int, e = .returned (.int .i64 r) ∧ (r = -1 ∨ (0 ≤ r ∧ r ≤ 1048576 ∧ SmallF F)) ∧ Below w.heap.size w w'

/-- What makes a Forth leaves. -/
def FoOf (w : World) (F : Fo) (e : Ending) (w' : World) : Prop := ∃ v, e = .returned v ∧ FoIn w' v F ∧ Below w.heap.size w w'

theorem dfsTo_os {S : Nat → Prop} {w w' : World} {lo g n k : Nat} {L : List Df} (h : DfsTo w lo g n k L) (hg : g < w.heap.size) (hn : Only S w w') (hs : ∀ k, S k → k < g) : DfsTo w' lo g n k L := by
  obtain ⟨xs, h1, h2⟩ := h
  refine ⟨xs, ownsRow_keepD h1 (hn.block g hg (fun q => by have := hs _ q; omega)), fun j hj hk => ?_⟩
  obtain ⟨a, u, b, c⟩ := h2 j hj hk
  exact ⟨a, u, b, irow_keep c fun x hx => hn.block x (irow_lt c x hx).2 (fun q => by have := hs _ q; have := (irow_lt c x hx).1; omega)⟩

/-- A new Forth's row with a machine laid into it. -/
def PutM (P cu : Array Value) : Prop := P.size = 20 ∧ (∀ j, j < 16 → P[j]? = cu[j]?) ∧ P[16]? = some (.slice none 0 0) ∧ P[17]? = some (.bool false) ∧ P[18]? = some (.string ⟨#[]⟩) ∧ P[19]? = some (.slice none 0 0)

theorem putM_of {cu : Array Value} (h : Six10 cu) : PutM (putR #[.slice none 0 0, .slice none 0 0, .slice none 0 0, .slice none 0 0, .slice none 0 0, .int .i64 0, .int .i64 0, .string ⟨#[]⟩, .slice none 0 0, .slice none 0 0, .slice none 0 0, .int .i64 0, .slice none 0 0, .slice none 0 0, .int .i64 0, .int .i64 0, .slice none 0 0, .bool false, .string ⟨#[]⟩, .slice none 0 0] 0 cu.toList) cu := by
  have hl : cu.toList.length = 16 := by rw [Array.length_toList]; exact h.1
  refine ⟨by rw [putR_size]; rfl, fun j hj => ?_, ?_, ?_, ?_, ?_⟩
  · have := putR_in #[.slice none 0 0, .slice none 0 0, .slice none 0 0, .slice none 0 0, .slice none 0 0, .int .i64 0, .int .i64 0, .string ⟨#[]⟩, .slice none 0 0, .slice none 0 0, .slice none 0 0, .int .i64 0, .slice none 0 0, .slice none 0 0, .int .i64 0, .int .i64 0, .slice none 0 0, .bool false, .string ⟨#[]⟩, .slice none 0 0] 0 cu.toList (by rw [hl]; decide) j (by omega)
    rw [Nat.zero_add] at this
    rw [this, Array.getElem?_toList]
  all_goals (rw [putR_out _ _ _ _ (.inr (by omega))]; rfl)

theorem putM_cells {w : World} {g : Nat} {t : TypeId} {P cu : Array Value} (h : Whole w g t P) (p : PutM P cu) :
    w.cell? ⟨g, 16, none⟩ = some (.slice none 0 0) ∧ w.cell? ⟨g, 17, none⟩ = some (.bool false) ∧ w.cell? ⟨g, 18, none⟩ = some (.string ⟨#[]⟩) ∧ w.cell? ⟨g, 19, none⟩ = some (.slice none 0 0) :=
  ⟨by rw [whole_cell h]; exact p.2.2.1, by rw [whole_cell h]; exact p.2.2.2.1, by rw [whole_cell h]; exact p.2.2.2.2.1, by rw [whole_cell h]; exact p.2.2.2.2.2⟩

theorem putM_four {P cu : Array Value} {A B : Option Addr} {m n c k : Nat} {b : Bool} {t : ByteArray} (p : PutM P cu) (h : Six10 cu) :
    F20 ((((P.setIfInBounds 16 (.slice A m c)).setIfInBounds 17 (.bool b)).setIfInBounds 18 (.string t)).setIfInBounds 19 (.slice B n k)) cu (.slice A m c) b t (.slice B n k) := by
  obtain ⟨hs, hl, _⟩ := p
  refine f20_of (by simp [hs]) h rfl rfl (fun j hj => ?_) ?_ ?_ ?_ ?_
  · rw [Array.getElem?_setIfInBounds_ne (by omega), Array.getElem?_setIfInBounds_ne (by omega), Array.getElem?_setIfInBounds_ne (by omega), Array.getElem?_setIfInBounds_ne (by omega)]; exact hl j hj
  · rw [Array.getElem?_setIfInBounds_ne (by omega), Array.getElem?_setIfInBounds_ne (by omega), Array.getElem?_setIfInBounds_ne (by omega), Array.getElem?_setIfInBounds_self_of_lt (by omega)]
  · rw [Array.getElem?_setIfInBounds_ne (by omega), Array.getElem?_setIfInBounds_ne (by omega), Array.getElem?_setIfInBounds_self_of_lt (by simp; omega)]
  · rw [Array.getElem?_setIfInBounds_ne (by omega), Array.getElem?_setIfInBounds_self_of_lt (by simp; omega)]
  · rw [Array.getElem?_setIfInBounds_self_of_lt (by simp; omega)]

end Go.Proofs.YthnbaeamekolmaaDoor

namespace Go.Proofs.YthnbaeamekolmaaDoor
open Go.RowKit
set_option linter.unusedVariables false
set_option linter.unusedSimpArgs false

set_option maxRecDepth 100000 in
set_option maxHeartbeats 2000000 in
theorem eqForth_same (u v : Value) (F : Fo) (w : World) (hu : FoIn w u F) (hv : FoIn w v F) :
    Calls Tryd.prog 6 #[u, v] w fun e w' => e = .returned (.bool true) ∧ Below w.heap.size w w' := by
  obtain ⟨fs, cs, A1, k1, A2, k2, A0, c0, A9, c9, rfl, hu⟩ := hu
  obtain ⟨gs, ds, B1, j1, B2, j2, B0, e0, B9, e9, rfl, hv⟩ := hv
  have HU := Lib.hid hu
  have HV := Lib.hid hv
  have U6 := hu.row.row
  have V6 := hv.row.row
  have X0 := whole_alloc (whole_new w 36 fs) (.cells gs 36)
  have Y0 := whole_new1 w (.cells fs 36) 36 gs
  have GX := f20_range X0 hu.row
  have GY := f20_range Y0 hv.row
  have BB : Hid (Below w.heap.size w ((w.alloc (.cells fs 36)).alloc (.cells gs 36))) := Lib.hid (below_alloc (below_alloc (Below.refl _ _) _) _)
  have tc : (F.c != F.c) = false := by cases F.c <;> rfl
  have tn : (F.n.toList != F.n.toList) = false := by simp
  clear hu hv
  go_enter Tryd.func6, Tryd.ntmps6
  go_wp2_with (first | (refine wpList_load_mF rfl _ rfl _ rfl (by assumption) (by assumption) ?_) | fail)
  refine (eqMachine_same _ _ F.m _ (mchIn_below HU.out.mach.all BB.out) (mchIn_below HV.out.mach.all BB.out)).mono ?_
  rintro e w1 ⟨rfl, hb⟩
  have B1 := Lib.hid (below_step BB.out hb)
  have X1 := whole_b hb X0
  have Y1 := whole_b hb Y0
  clear hb X0 Y0 GX GY BB
  obtain ⟨a16, a17, a18, a19⟩ := f20_cells X1 HU.out.row
  obtain ⟨b16, b17, b18, b19⟩ := f20_cells Y1 HV.out.row
  have zx := whole_lt X1
  have zy := whole_lt Y1
  go_wp2_with fail
  clear a16 a17 a18 a19 b16 b17 b18 b19
  refine (eqDefS_same _ _ F.l _ (dfs_below HU.out.defs B1.out) (dfs_below HV.out.defs B1.out)).mono ?_
  rintro e w2 ⟨rfl, hb⟩
  have B2 := Lib.hid (below_step B1.out hb)
  have X2 := whole_b hb X1
  have Y2 := whole_b hb Y1
  clear hb X1 Y1 B1 zx zy
  obtain ⟨a16, a17, a18, a19⟩ := f20_cells X2 HU.out.row
  obtain ⟨b16, b17, b18, b19⟩ := f20_cells Y2 HV.out.row
  have zx := whole_lt X2
  have zy := whole_lt Y2
  go_wp2_with fail
  clear a16 a17 a18 a19 b16 b17 b18 b19
  refine (eqItemS_same _ _ F.q _ (its_below HU.out.items B2.out) (its_below HV.out.items B2.out)).mono ?_
  rintro e w3 ⟨rfl, hb⟩
  have B3 := Lib.hid (below_step B2.out hb)
  clear hb
  go_wp2
  go_ret
  exact ⟨rfl, B3.out⟩

end Go.Proofs.YthnbaeamekolmaaDoor

namespace Go.Proofs.YthnbaeamekolmaaDoor
open Go.RowKit
set_option linter.unusedVariables false
set_option linter.unusedSimpArgs false

/-- A Forth with nothing but this machine. -/
def newFo (m : Mc) : Fo := ⟨m, [], false, ⟨#[]⟩, []⟩

/-- The value is a Forth with nothing but this machine, whose rows lie in blocks of its own from lo on. -/
def NewT (w : World) (lo : Nat) (v : Value) (cs : Array Value) (m : Mc) : Prop :=
  ∃ fs A0 c0 A9 c9, v = .agg fs ∧ F20 fs cs (.slice A0 0 c0) false ⟨#[]⟩ (.slice A9 0 c9) ∧ MchT w lo (.agg cs) m

theorem newT_in {w : World} {lo : Nat} {v : Value} {cs : Array Value} {m : Mc} (h : NewT w lo v cs m) : FoIn w v (newFo m) := by
  obtain ⟨fs, A0, c0, A9, c9, rfl, hf, hm⟩ := h
  obtain ⟨cs', A1, k1, A2, k2, e, MR⟩ := mrow_of hm
  injection e with e
  subst e
  exact ⟨fs, cs, A1, k1, A2, k2, A0, c0, A9, c9, rfl, ⟨hf, MR, ⟨Nat.zero_le _, A0, c0, rfl, fun h => absurd h (Nat.lt_irrefl _)⟩, Nat.zero_le _, ⟨Nat.zero_le _, A9, c9, rfl, fun h => absurd h (Nat.lt_irrefl _)⟩, Nat.zero_le _⟩⟩

theorem newT_mine {w : World} {lo G : Nat} {v : Value} {cs : Array Value} {m : Mc} (h : NewT w lo v cs m) (hg : Mine (.agg cs) G) : lo ≤ G ∧ G < w.heap.size := by
  obtain ⟨fs, A0, c0, A9, c9, rfl, hf, hm⟩ := h
  exact mchT_mine hm hg

theorem newT_only {S : Nat → Prop} {w w' : World} {lo : Nat} {v : Value} {cs : Array Value} {m : Mc} (h : NewT w lo v cs m) (hn : Only S w w') (hs : ∀ g, Mine (.agg cs) g → ¬ S g) : NewT w' lo v cs m := by
  obtain ⟨fs, A0, c0, A9, c9, e, hf, hm⟩ := h
  exact ⟨fs, A0, c0, A9, c9, e, hf, mchT_only hm hn hs⟩

theorem newT_below {w w' : World} {lo : Nat} {v : Value} {cs : Array Value} {m : Mc} (h : NewT w lo v cs m) (hb : Below w.heap.size w w') : NewT w' lo v cs m := by
  obtain ⟨fs, A0, c0, A9, c9, e, hf, hm⟩ := h
  exact ⟨fs, A0, c0, A9, c9, e, hf, mchT_below hm hb⟩

theorem newT_base {w : World} {lo lo' : Nat} {v : Value} {cs : Array Value} {m : Mc} (h : NewT w lo v cs m) (hl : lo' ≤ lo) : NewT w lo' v cs m := by
  obtain ⟨fs, A0, c0, A9, c9, e, hf, hm⟩ := h
  exact ⟨fs, A0, c0, A9, c9, e, hf, mchT_base hm hl⟩

/-- What makes a new Forth leaves. -/
def FNewOf (w : World) (m : Mc) (e : Ending) (w' : World) : Prop := ∃ u cs, e = .returned u ∧ NewT w' w.heap.size u cs m ∧ Below w.heap.size w w'

set_option maxRecDepth 100000 in
set_option maxHeartbeats 2000000 in
theorem iNewForth_any (w : World) (ht : Tabs w) : Calls Tryd.prog 5 #[] w (FNewOf w newMc) := by
  have IN : Hid (∀ W, Tabs W → Calls Tryd.prog 10 #[] W (MCopyOf W newMc)) := Lib.hid fun W t => iNewMachine_any W t
  generalize newMc = M at *
  have HT := Lib.hid ht
  clear ht
  have R0 := Lib.hid (whole_new w 36 #[.slice none 0 0, .slice none 0 0, .slice none 0 0, .slice none 0 0, .slice none 0 0, .int .i64 0, .int .i64 0, .string ⟨#[]⟩, .slice none 0 0, .slice none 0 0, .slice none 0 0, .int .i64 0, .slice none 0 0, .slice none 0 0, .int .i64 0, .int .i64 0, .slice none 0 0, .bool false, .string ⟨#[]⟩, .slice none 0 0])
  have b0 : Below w.heap.size w (w.alloc (.cells #[.slice none 0 0, .slice none 0 0, .slice none 0 0, .slice none 0 0, .slice none 0 0, .int .i64 0, .int .i64 0, .string ⟨#[]⟩, .slice none 0 0, .slice none 0 0, .slice none 0 0, .int .i64 0, .slice none 0 0, .slice none 0 0, .int .i64 0, .int .i64 0, .slice none 0 0, .bool false, .string ⟨#[]⟩, .slice none 0 0] 36)) := below_alloc (Below.refl _ _) _
  go_enter Tryd.func5, Tryd.ntmps5
  go_wp2_with fail
  refine (IN.out _ (tabs_below HT.out b0)).mono ?_
  rintro e w1 ⟨u, rfl, hu, hb⟩
  obtain ⟨A1, k1, A2, k2, A3, k3, A4, k4, A5, k5, A6, k6, A7, k7, A8, k8, A9, k9, A0, k0, rfl⟩ := mchIn_form (mchT_in hu)
  have B1 := Lib.hid (below_step b0 hb)
  have RW := Lib.hid (whole_b hb R0.out)
  have U1 := Lib.hid hu
  have z1 : w.heap.size + 1 ≤ w1.heap.size := by have := hb.size; simpa using this
  have T20 : Twenty #[.slice A1 M.w.length k1, .slice A2 M.k.length k2, .slice A3 M.d.s.length k3, .slice A4 M.d.b.length k4, .slice A5 M.d.c.length k5, .int .i64 M.d.h, .int .i64 M.d.n, .string M.d.o, .slice A6 M.h.g.length k6, .slice A7 M.h.s.length k7, .slice A8 M.h.n.length k8, .int .i64 M.h.c, .slice A9 M.h.d.length k9, .slice A0 M.c.length k0, .int .i64 M.i, .int .i64 M.f, .slice none 0 0, .bool false, .string ⟨#[]⟩, .slice none 0 0] := ⟨rfl, by simp [Value.oneCell']⟩
  clear hb b0 R0 hu
  go_wp2_with (first | (refine wpList_store_fR rfl _ _ rfl _ _ rfl rfl RW.out rfl T20 ?_) | fail)
  have O1 := Lib.hid (only_row (w := w1) (g := w.heap.size) (cs := #[.slice A1 M.w.length k1, .slice A2 M.k.length k2, .slice A3 M.d.s.length k3, .slice A4 M.d.b.length k4, .slice A5 M.d.c.length k5, .int .i64 M.d.h, .int .i64 M.d.n, .string M.d.o, .slice A6 M.h.g.length k6, .slice A7 M.h.s.length k7, .slice A8 M.h.n.length k8, .int .i64 M.h.c, .slice A9 M.h.d.length k9, .slice A0 M.c.length k0, .int .i64 M.i, .int .i64 M.f, .slice none 0 0, .bool false, .string ⟨#[]⟩, .slice none 0 0]))
  refine bodyPost_ret (v := .agg #[.slice A1 M.w.length k1, .slice A2 M.k.length k2, .slice A3 M.d.s.length k3, .slice A4 M.d.b.length k4, .slice A5 M.d.c.length k5, .int .i64 M.d.h, .int .i64 M.d.n, .string M.d.o, .slice A6 M.h.g.length k6, .slice A7 M.h.s.length k7, .slice A8 M.h.n.length k8, .int .i64 M.h.c, .slice A9 M.h.d.length k9, .slice A0 M.c.length k0, .int .i64 M.i, .int .i64 M.f, .slice none 0 0, .bool false, .string ⟨#[]⟩, .slice none 0 0]) (results_fI rfl _ _ w.heap.size _ _ rfl (whole_row RW.out) T20) rfl ⟨_, #[.slice A1 M.w.length k1, .slice A2 M.k.length k2, .slice A3 M.d.s.length k3, .slice A4 M.d.b.length k4, .slice A5 M.d.c.length k5, .int .i64 M.d.h, .int .i64 M.d.n, .string M.d.o, .slice A6 M.h.g.length k6, .slice A7 M.h.s.length k7, .slice A8 M.h.n.length k8, .int .i64 M.h.c, .slice A9 M.h.d.length k9, .slice A0 M.c.length k0, .int .i64 M.i, .int .i64 M.f], rfl, ⟨_, none, 0, none, 0, rfl, ⟨⟨rfl, by simp [Value.oneCell']⟩, ⟨rfl, rfl⟩, rfl⟩, mchT_base (mchT_only U1.out O1.out fun g e q => by have := (mchT_mine U1.out e).1; simp at this; omega) (by simp)⟩, B1.out.trans (only_below O1.out B1.out.size (fun k e => by omega))⟩

set_option maxRecDepth 100000 in
set_option maxHeartbeats 2000000 in
theorem sNew10_any (w : World) : Calls Tryd.prog 9 #[] w (FNewOf w newMc) := by
  have IN : Hid (∀ W, Calls Tryd.prog 20 #[] W (MCopyOf W newMc)) := Lib.hid fun W => sNewM_any W
  generalize newMc = M at *
  have R0 := Lib.hid (whole_new w 36 #[.slice none 0 0, .slice none 0 0, .slice none 0 0, .slice none 0 0, .slice none 0 0, .int .i64 0, .int .i64 0, .string ⟨#[]⟩, .slice none 0 0, .slice none 0 0, .slice none 0 0, .int .i64 0, .slice none 0 0, .slice none 0 0, .int .i64 0, .int .i64 0, .slice none 0 0, .bool false, .string ⟨#[]⟩, .slice none 0 0])
  have b0 : Below w.heap.size w (w.alloc (.cells #[.slice none 0 0, .slice none 0 0, .slice none 0 0, .slice none 0 0, .slice none 0 0, .int .i64 0, .int .i64 0, .string ⟨#[]⟩, .slice none 0 0, .slice none 0 0, .slice none 0 0, .int .i64 0, .slice none 0 0, .slice none 0 0, .int .i64 0, .int .i64 0, .slice none 0 0, .bool false, .string ⟨#[]⟩, .slice none 0 0] 36)) := below_alloc (Below.refl _ _) _
  go_enter Tryd.func9, Tryd.ntmps9
  go_wp2_with fail
  refine (IN.out _).mono ?_
  rintro e w1 ⟨u, rfl, hu, hb⟩
  obtain ⟨A1, k1, A2, k2, A3, k3, A4, k4, A5, k5, A6, k6, A7, k7, A8, k8, A9, k9, A0, k0, rfl⟩ := mchIn_form (mchT_in hu)
  have z1 : w.heap.size + 1 ≤ w1.heap.size := by have := hb.size; simpa using this
  have bE : Below w1.heap.size w1 ((w1.alloc (.cells #[] 58)).alloc (.cells #[] 61)) := below_alloc (below_alloc (Below.refl _ _) _) _
  have B1 := Lib.hid (below_step (below_step b0 hb) bE)
  have RW := Lib.hid (whole_b bE (whole_b hb R0.out))
  have U1 := Lib.hid (mchT_below hu bE)
  have T20 : Twenty #[.slice A1 M.w.length k1, .slice A2 M.k.length k2, .slice A3 M.d.s.length k3, .slice A4 M.d.b.length k4, .slice A5 M.d.c.length k5, .int .i64 M.d.h, .int .i64 M.d.n, .string M.d.o, .slice A6 M.h.g.length k6, .slice A7 M.h.s.length k7, .slice A8 M.h.n.length k8, .int .i64 M.h.c, .slice A9 M.h.d.length k9, .slice A0 M.c.length k0, .int .i64 M.i, .int .i64 M.f, .slice (some ⟨w1.heap.size, 0, none⟩) 0 0, .bool false, .string ⟨#[]⟩, .slice (some ⟨w1.heap.size + 1, 0, none⟩) 0 0] := ⟨rfl, by simp [Value.oneCell']⟩
  clear hb b0 R0 hu bE
  go_wp2_with (first | (refine wpList_store_fR rfl _ _ rfl _ _ rfl rfl RW.out rfl T20 ?_) | fail)
  have O1 := Lib.hid (only_row (w := ((w1.alloc (.cells #[] 58)).alloc (.cells #[] 61))) (g := w.heap.size) (cs := #[.slice A1 M.w.length k1, .slice A2 M.k.length k2, .slice A3 M.d.s.length k3, .slice A4 M.d.b.length k4, .slice A5 M.d.c.length k5, .int .i64 M.d.h, .int .i64 M.d.n, .string M.d.o, .slice A6 M.h.g.length k6, .slice A7 M.h.s.length k7, .slice A8 M.h.n.length k8, .int .i64 M.h.c, .slice A9 M.h.d.length k9, .slice A0 M.c.length k0, .int .i64 M.i, .int .i64 M.f, .slice (some ⟨w1.heap.size, 0, none⟩) 0 0, .bool false, .string ⟨#[]⟩, .slice (some ⟨w1.heap.size + 1, 0, none⟩) 0 0]))
  refine bodyPost_ret (v := .agg #[.slice A1 M.w.length k1, .slice A2 M.k.length k2, .slice A3 M.d.s.length k3, .slice A4 M.d.b.length k4, .slice A5 M.d.c.length k5, .int .i64 M.d.h, .int .i64 M.d.n, .string M.d.o, .slice A6 M.h.g.length k6, .slice A7 M.h.s.length k7, .slice A8 M.h.n.length k8, .int .i64 M.h.c, .slice A9 M.h.d.length k9, .slice A0 M.c.length k0, .int .i64 M.i, .int .i64 M.f, .slice (some ⟨w1.heap.size, 0, none⟩) 0 0, .bool false, .string ⟨#[]⟩, .slice (some ⟨w1.heap.size + 1, 0, none⟩) 0 0]) (results_fI rfl _ _ w.heap.size _ _ rfl (whole_row RW.out) T20) rfl ⟨_, #[.slice A1 M.w.length k1, .slice A2 M.k.length k2, .slice A3 M.d.s.length k3, .slice A4 M.d.b.length k4, .slice A5 M.d.c.length k5, .int .i64 M.d.h, .int .i64 M.d.n, .string M.d.o, .slice A6 M.h.g.length k6, .slice A7 M.h.s.length k7, .slice A8 M.h.n.length k8, .int .i64 M.h.c, .slice A9 M.h.d.length k9, .slice A0 M.c.length k0, .int .i64 M.i, .int .i64 M.f], rfl, ⟨_, some ⟨w1.heap.size, 0, none⟩, 0, some ⟨w1.heap.size + 1, 0, none⟩, 0, rfl, ⟨⟨rfl, by simp [Value.oneCell']⟩, ⟨rfl, rfl⟩, rfl⟩, mchT_base (mchT_only U1.out O1.out fun g e q => by have := (mchT_mine U1.out e).1; simp at this; omega) (by simp)⟩, B1.out.trans (only_below O1.out B1.out.size (fun k e => by omega))⟩

set_option maxRecDepth 100000 in
set_option maxHeartbeats 1000000 in
theorem sNewForth_any (w : World) : Calls Tryd.prog 4 #[] w (FNewOf w newMc) := by
  have IN : Hid (∀ W, Calls Tryd.prog 9 #[] W (FNewOf W newMc)) := Lib.hid fun W => sNew10_any W
  generalize newMc = M at *
  have R0 := Lib.hid (whole_new w 36 #[.slice none 0 0, .slice none 0 0, .slice none 0 0, .slice none 0 0, .slice none 0 0, .int .i64 0, .int .i64 0, .string ⟨#[]⟩, .slice none 0 0, .slice none 0 0, .slice none 0 0, .int .i64 0, .slice none 0 0, .slice none 0 0, .int .i64 0, .int .i64 0, .slice none 0 0, .bool false, .string ⟨#[]⟩, .slice none 0 0])
  have b0 : Below w.heap.size w (w.alloc (.cells #[.slice none 0 0, .slice none 0 0, .slice none 0 0, .slice none 0 0, .slice none 0 0, .int .i64 0, .int .i64 0, .string ⟨#[]⟩, .slice none 0 0, .slice none 0 0, .slice none 0 0, .int .i64 0, .slice none 0 0, .slice none 0 0, .int .i64 0, .int .i64 0, .slice none 0 0, .bool false, .string ⟨#[]⟩, .slice none 0 0] 36)) := below_alloc (Below.refl _ _) _
  go_enter Tryd.func4, Tryd.ntmps4
  go_wp2_with fail
  refine (IN.out _).mono ?_
  rintro e w1 ⟨u, cs, rfl, hu, hb⟩
  obtain ⟨cu, rfl, hcu⟩ := foIn_cells (newT_in hu)
  have B1 := Lib.hid (below_step b0 hb)
  have RW := Lib.hid (whole_b hb R0.out)
  have U1 := Lib.hid hu
  have z1 := hb.size
  clear hb b0 R0 hu
  go_wp2_with (first | (refine wpList_store_fR rfl _ _ rfl _ _ rfl rfl RW.out rfl (by assumption) ?_) | fail)
  have O1 := Lib.hid (only_row (w := w1) (g := w.heap.size) (cs := cu))
  refine bodyPost_ret (v := .agg cu) (results_fI rfl _ _ w.heap.size _ _ rfl (whole_row RW.out) hcu) rfl ⟨_, cs, rfl, newT_base (newT_only U1.out O1.out fun g e q => by have := (newT_mine U1.out e).1; simp at this; omega) (by simp), B1.out.trans (only_below O1.out B1.out.size (fun k e => by omega))⟩

set_option maxRecDepth 100000 in
theorem markDefs_none (A : Option Addr) (c : Nat) (K : Int) (w : World) : Calls Tryd.prog 15 #[.slice A 0 c, .int .i64 K] w fun e w' => e = .returned (.int .i64 K) ∧ w = w' := by
  go_enter Tryd.func15, Tryd.ntmps15
  go_wp2
  go_loopw [1, 5] (fun l i wr => l = .int .i64 K ∧ i = .int .i64 0 ∧ wr = w) (fun _ _ _ => 0)
  case atStart => exact ⟨rfl, rfl, rfl⟩
  case round =>
    obtain ⟨rfl, rfl, rfl⟩ := hrel
    go_wp2
    go_ret
    exact ⟨rfl, rfl⟩

set_option maxRecDepth 100000 in
theorem markItems_none (A : Option Addr) (c : Nat) (K : Int) (w : World) : Calls Tryd.prog 16 #[.slice A 0 c, .int .i64 K] w fun e w' => e = .returned (.int .i64 K) ∧ w = w' := by
  go_enter Tryd.func16, Tryd.ntmps16
  go_wp2
  go_loopw [1, 5] (fun l i wr => l = .int .i64 K ∧ i = .int .i64 0 ∧ wr = w) (fun _ _ _ => 0)
  case atStart => exact ⟨rfl, rfl, rfl⟩
  case round =>
    obtain ⟨rfl, rfl, rfl⟩ := hrel
    go_wp2
    go_ret
    exact ⟨rfl, rfl⟩

set_option maxRecDepth 100000 in
theorem heldDefs_none (A : Option Addr) (c : Nat) (K : Int) (w : World) : Calls Tryd.prog 18 #[.slice A 0 c, .int .i64 K] w fun e w' => e = .returned (.int .i64 K) ∧ w = w' := by
  go_enter Tryd.func18, Tryd.ntmps18
  go_wp2
  go_loopw [1, 5] (fun l i wr => l = .int .i64 K ∧ i = .int .i64 0 ∧ wr = w) (fun _ _ _ => 0)
  case atStart => exact ⟨rfl, rfl, rfl⟩
  case round =>
    obtain ⟨rfl, rfl, rfl⟩ := hrel
    go_wp2
    go_ret
    exact ⟨rfl, rfl⟩

set_option maxRecDepth 100000 in
theorem heldItems_none (A : Option Addr) (c : Nat) (K : Int) (w : World) : Calls Tryd.prog 19 #[.slice A 0 c, .int .i64 K] w fun e w' => e = .returned (.int .i64 K) ∧ w = w' := by
  go_enter Tryd.func19, Tryd.ntmps19
  go_wp2
  go_loopw [1, 5] (fun l i wr => l = .int .i64 K ∧ i = .int .i64 0 ∧ wr = w) (fun _ _ _ => 0)
  case atStart => exact ⟨rfl, rfl, rfl⟩
  case round =>
    obtain ⟨rfl, rfl, rfl⟩ := hrel
    go_wp2
    go_ret
    exact ⟨rfl, rfl⟩

set_option maxRecDepth 100000 in
set_option maxHeartbeats 2000000 in
theorem markForth_any (v : Value) (cs : Array Value) (m : Mc) (lo : Nat) (w : World) (hv : NewT w lo v cs m) (hs : SmallM m) :
    Calls Tryd.prog 7 #[v, .int .i64 1] w fun e w' => e = .returned (.int .i64 ((1 + numM m : Nat) : Int)) ∧ NewT w' lo v cs (markM m) ∧ Only (Mine (.agg cs)) w w' := by
  have MI := Lib.hid (fun g (e : Mine (.agg cs) g) => newT_mine hv e)
  obtain ⟨fs, A0, c0, A9, c9, rfl, hf, hm⟩ := hv
  have HF := Lib.hid hf
  have HM := Lib.hid hm
  have HS := Lib.hid hs
  have h6 := hf.row
  have V0 := whole_new w 36 fs
  have G0 := f20_range V0 hf
  have b0 : Below w.heap.size w (w.alloc (.cells fs 36)) := below_alloc (Below.refl _ _) _
  have N0 : Hid (Only (Mine (.agg cs)) w (w.alloc (.cells fs 36))) := Lib.hid (below_only b0)
  have M0 := Lib.hid (mchT_below hm b0)
  clear hf hm hs b0
  obtain ⟨N, hN⟩ : ∃ N : Nat, N = 1 + numM m := ⟨_, rfl⟩
  rw [← hN]
  have MK : Hid (Calls Tryd.prog 14 #[.agg cs, .int .i64 1] (w.alloc (.cells fs 36)) fun e w' => e = .returned (.int .i64 (N : Int)) ∧ MchT w' lo (.agg cs) (markM m) ∧ Only (Mine (.agg cs)) (w.alloc (.cells fs 36)) w') := Lib.hid (by rw [hN]; exact markMachine_any _ m lo _ M0.out HS.out)
  clear hN
  go_enter Tryd.func7, Tryd.ntmps7
  go_wp2_with (first | (refine wpList_load_mF rfl _ rfl _ rfl (by assumption) (by assumption) ?_) | fail)
  refine MK.out.mono ?_
  rintro e w1 ⟨rfl, hm1, hn⟩
  have M1 := Lib.hid hm1
  have N1 := Lib.hid (only_trans N0.out hn)
  have V1 := whole_onl V0 hn (fun q => by have := (MI.out _ q).2; omega)
  clear hm1 hn V0 G0 N0 M0 MK
  obtain ⟨d16, -, -, d19⟩ := f20_cells V1 HF.out
  have z1 := whole_lt V1
  go_wp2_with fail
  refine (markDefs_none _ _ _ _).mono ?_
  rintro e w' ⟨rfl, rfl⟩
  go_wp2_with fail
  refine (markItems_none _ _ _ _).mono ?_
  rintro e w' ⟨rfl, rfl⟩
  go_wp2
  go_ret
  exact ⟨rfl, ⟨fs, A0, c0, A9, c9, rfl, HF.out, M1.out⟩, N1.out⟩

set_option maxRecDepth 100000 in
set_option maxHeartbeats 2000000 in
theorem heldForth_any (v : Value) (m : Mc) (w : World) (hv : FoIn w v (newFo (markM m))) (hs : SmallM m) :
    Calls Tryd.prog 8 #[v, .int .i64 1] w fun e w' => e = .returned (.int .i64 ((1 + numM m : Nat) : Int)) ∧ Below w.heap.size w w' := by
  obtain ⟨fs, cs, A1, k1, A2, k2, A0, c0, A9, c9, rfl, h⟩ := hv
  have H := Lib.hid h
  have HF : Hid (F20 fs cs (.slice A0 0 c0) false ⟨#[]⟩ (.slice A9 0 c9)) := Lib.hid h.row
  have HS := Lib.hid hs
  have h6 := h.row.row
  have V0 := whole_new w 36 fs
  have G0 := f20_range V0 h.row
  have B0 : Hid (Below w.heap.size w (w.alloc (.cells fs 36))) := Lib.hid (below_alloc (Below.refl _ _) _)
  have MA := Lib.hid (mchIn_below h.mach.all B0.out)
  clear h hs
  obtain ⟨N, hN⟩ : ∃ N : Nat, N = 1 + numM m := ⟨_, rfl⟩
  rw [← hN]
  have MK : Hid (Calls Tryd.prog 17 #[.agg cs, .int .i64 1] (w.alloc (.cells fs 36)) fun e w' => e = .returned (.int .i64 (N : Int)) ∧ Below (w.alloc (.cells fs 36)).heap.size (w.alloc (.cells fs 36)) w') := Lib.hid (by rw [hN]; exact heldMachine_any _ m _ MA.out HS.out)
  have t0 : ¬ (N : Int) < 0 := by omega
  clear hN
  go_enter Tryd.func8, Tryd.ntmps8
  go_wp2_with (first | (refine wpList_load_mF rfl _ rfl _ rfl (by assumption) (by assumption) ?_) | fail)
  refine MK.out.mono ?_
  rintro e w1 ⟨rfl, hb⟩
  have B1 := Lib.hid (below_step B0.out hb)
  have V1 := whole_b hb V0
  clear hb V0 G0 MK MA
  obtain ⟨d16, -, -, d19⟩ := f20_cells V1 HF.out
  have z1 := whole_lt V1
  go_wp2_with fail
  refine (heldDefs_none _ _ _ _).mono ?_
  rintro e w' ⟨rfl, rfl⟩
  go_wp2_with fail
  refine (heldItems_none _ _ _ _).mono ?_
  rintro e w' ⟨rfl, rfl⟩
  go_wp2
  go_ret
  exact ⟨rfl, B1.out⟩

end Go.Proofs.YthnbaeamekolmaaDoor
