/- QkC: several of my texts, laid together: ItB, ItL, CtC, MaC, AsD. -/
import Derived.Test.YthnbaeamekolmaaGreatDoorItA
import Derived.WalkSmall
import Derived.Deep.RegionHeld3
import Derived.Deep.Slices
import Derived.Lib.SmallJoins
import Derived.Deep.Grids
import Derived.ChangeOld
import Derived.OpenShut
import Derived.ProofKit
import Derived.Test.YthnbaeamekolmaaGreatDoorCtB
import Derived.Test.YthnbaeamekolmaaGreatDoorMaB
import Derived.Test.YthnbaeamekolmaaGreatDoorAsC
namespace Go.Proofs.YthnbaeamekolmaaGreatDoor
open Go.RowKit
set_option linter.unusedVariables false
set_option linter.unusedSimpArgs false

set_option maxRecDepth 100000 in
set_option maxHeartbeats 1000000 in
theorem eqItem_same (x : It) (w : World) :
    Calls Tryz.prog 95 #[.agg #[.int .i64 x.k, .int .i64 x.v], .agg #[.int .i64 x.k, .int .i64 x.v]] w fun e w' => e = .returned (.bool true) ∧ Below w.heap.size w w' := by
  have tp : (x.k != x.k) = false := by simp
  have ta : (x.v != x.v) = false := by simp
  go_enter Tryz.func95, Tryz.ntmps95
  go_wp2
  go_ret
  exact ⟨rfl, below_alloc (below_alloc (Below.refl _ _) _) _⟩

set_option maxRecDepth 100000 in
set_option maxHeartbeats 2000000 in
theorem eqItemS_same (u v : Value) (Q : List It) (w : World) (hu : Its w u Q) (hv : Its w v Q) :
    Calls Tryz.prog 50 #[u, v] w fun e w' => e = .returned (.bool true) ∧ Below w.heap.size w w' := by
  have HU := Lib.hid hu
  have HV := Lib.hid hv
  obtain ⟨hl, A, ca, rfl, _⟩ := hu
  obtain ⟨_, B, cb, rfl, _⟩ := hv
  unfold maxLen at hl
  have z0 : ((Q.length : Int) != (Q.length : Int)) = false := by simp
  go_enter Tryz.func50, Tryz.ntmps50
  go_wp2
  clear z0
  go_loopw [5] (fun i wr => ∃ k : Nat, k ≤ Q.length ∧ i = .int .i64 k ∧ Below w.heap.size w wr) (fun i _ => Q.length - (intOf i).toNat)
  case atStart => exact ⟨0, Nat.zero_le _, rfl, Below.refl _ _⟩
  case round =>
    obtain ⟨k, hk, rfl, hb⟩ := hrel
    have HB := Lib.hid hb
    clear hb
    by_cases hlt : k < Q.length
    · obtain ⟨_, A', ca', e', hc⟩ := its_below HU.out HB.out
      simp only [Value.slice.injEq, true_and] at e'
      obtain ⟨rfl, rfl⟩ := e'
      obtain ⟨ga, rfl, ha⟩ := hc (by omega)
      obtain ⟨_, B', cb', e', hc⟩ := its_below HV.out HB.out
      simp only [Value.slice.injEq, true_and] at e'
      obtain ⟨rfl, rfl⟩ := e'
      obtain ⟨gb, rfl, hb⟩ := hc (by omega)
      have WA := ha k hlt
      have WB := hb k hlt
      clear ha hb hc
      generalize Q[k] = x at *
      have KA := Lib.hid WA
      have KB := Lib.hid WB
      obtain ⟨a0, a1⟩ := WA
      obtain ⟨b0, b1⟩ := WB
      go_wp2
      go_region_held3 (fun w' => (w'.cell? (ga.add (k * 2)) = some (.int .i64 x.k) ∧ w'.cell? ⟨(ga.add (k * 2)).block, (ga.add (k * 2)).off + 1, none⟩ = some (.int .i64 x.v)) ∧ (w'.cell? (gb.add (k * 2)) = some (.int .i64 x.k) ∧ w'.cell? ⟨(gb.add (k * 2)).block, (gb.add (k * 2)).off + 1, none⟩ = some (.int .i64 x.v))) (first | exact ⟨K1, K2⟩ | exact ⟨KA.out, KB.out⟩)
        (first | (go_at_call 95; refine (eqItem_same x _).mono ?_; rintro e w1 ⟨rfl, hb1⟩; have K1 := itAt_below hb1 KA.out; have K2 := itAt_below hb1 KB.out))
      have HB2 := Lib.hid (HB.out.drew.trans (hb1.mono HB.out.drew.size))
      clear hb1 K1 K2 a0 a1 b0 b1
      go_wp2
      go_roundw
      case rel => exact ⟨k + 1, by omega, by go_num, HB2.out⟩
      case measure => simp [intOf]; omega
    · obtain rfl : k = Q.length := by omega
      clear hlt
      go_wp2
      go_ret
      exact ⟨rfl, HB.out⟩

/-- The item with marks from K on. -/
def markIt (K : Nat) : It := ⟨(K : Int), (K : Int) + 1⟩

/-- The items with marks from K on. -/
def imarks (K n : Nat) : List It := (List.range n).map fun j => markIt (K + 2 * j)

theorem imarks_len (K n : Nat) : (imarks K n).length = n := by unfold imarks; simp

theorem imarks_succ (K n : Nat) : imarks K (n + 1) = imarks K n ++ [markIt (K + 2 * n)] := by unfold imarks; rw [List.range_succ]; simp

/-- Marks at the first k places. -/
def imarked (K k : Nat) (Q : List It) : List It := imarks K k ++ Q.drop k

theorem imarked_len {K k : Nat} {Q : List It} (h : k ≤ Q.length) : (imarked K k Q).length = Q.length := by unfold imarked; rw [List.length_append, imarks_len, List.length_drop]; omega

theorem imarked_zero (K : Nat) (Q : List It) : imarked K 0 Q = Q := by unfold imarked imarks; simp

theorem imarked_end (K : Nat) (Q : List It) : imarked K Q.length Q = imarks K Q.length := by unfold imarked; simp

theorem imarked_next {K k : Nat} {Q : List It} (h : k < Q.length) : (imarked K k Q).set k (markIt (K + 2 * k)) = imarked K (k + 1) Q := by
  unfold imarked
  rw [imarks_succ, List.drop_eq_getElem_cons h, List.set_append_right _ _ (by rw [imarks_len]; exact Nat.le_refl _), imarks_len, Nat.sub_self, List.set_cons_zero]
  simp

/-- What laying marks leaves: the items bear them; no other block that was there has turned. -/
def ImarkedOf (w : World) (base : Nat) (v : Value) (n K : Nat) (e : Ending) (w' : World) : Prop := e = .returned (.int .i64 ((K + 2 * n : Nat) : Int)) ∧ IRow w' base v (imarks K n) ∧ w.grownBy w' v.ownBlock

end Go.Proofs.YthnbaeamekolmaaGreatDoor

namespace Go.Proofs.YthnbaeamekolmaaGreatDoor
open Go.Joins Go.ChangeShapes Go.WideShapes Go.RowKit Go.Deep Go.ChangeAt
set_option linter.unusedVariables false
set_option linter.unusedSimpArgs false

/-- An item that came in. -/
def ItIn (w : World) (v : Value) (x : It) : Prop := v = .agg #[.int .i64 x.k, .int .i64 x.v] ∧ (Lit.int .i64 x.k).wf = true ∧ (Lit.int .i64 x.v).wf = true

section
variable {H : Type} {enc : TypeId × Value → H} {w : World} {base : Nat} {spare : Nat → Bool} {held : Bool}

theorem itm_one : Tryz.prog.cellsOf 3 = 1 := by kernel_rfl

theorem item_of_trod {fuel : Nat} {cs : List Value} {x : DataW H × List MemPlace} (hl : cs.length = 2) (h : DataW.trod enc Tryz.prog w base spare held fuel 127 cs = some x) : ∃ y : It, cs = [.int .i64 y.k, .int .i64 y.v] ∧ (Lit.int .i64 y.k).wf = true ∧ (Lit.int .i64 y.v).wf = true := by
  match cs, hl with
  | [c0, c1], _ =>
    obtain ⟨xs, n, _, hx, _, hlen, hg⟩ := DataW.trod_struct Tryz.underlying127 h
    match xs, hlen with
    | [y0, y1], _ =>
      have g0 := hg 0 _ rfl
      have g1 := hg 1 _ rfl
      simp [itm_one] at g0 g1
      obtain ⟨n0, e0, _, f0⟩ := DataW.trod_int Tryz.underlying3 g0
      obtain ⟨n1, e1, _, f1⟩ := DataW.trod_int Tryz.underlying3 g1
      simp only [List.cons.injEq, and_true] at e0 e1
      subst e0 e1
      exact ⟨⟨n0, n1⟩, rfl, f0, f1⟩

theorem choose_items {len : Nat} {p : Nat → It → Prop} (h : ∀ i, i < len → ∃ x, p i x) : ∃ Q : List It, Q.length = len ∧ ∀ i (hi : i < Q.length), p i Q[i] := by
  induction len with
  | zero => exact ⟨[], rfl, fun i hi => by simp at hi⟩
  | succ m ih =>
    obtain ⟨Q, hl, hq⟩ := ih (fun i hi => h i (by omega))
    obtain ⟨x, hx⟩ := h m (by omega)
    refine ⟨Q ++ [x], by simp [hl], fun i hi => ?_⟩
    by_cases e : i < Q.length
    · rw [List.getElem_append_left e]; exact hq i e
    · have : i = m := by simp at hi; omega
      subst this
      rw [List.getElem_append_right (by omega)]
      simp [hl]
      exact hx

theorem its_of_trod {fuel : Nat} {A : Option Addr} {l c : Nat} {x : DataW H × List MemPlace} (hf : DataW.trod enc Tryz.prog w base (fun _ => true) held fuel 34 [.slice A l c] = some x) : ∃ D : List It, Its w (.slice A l c) D := by
  have hC : Tryz.prog.cellsOf 127 = 2 := by kernel_rfl
  rcases open_slice Tryz.underlying34 hf with ⟨hcs, _⟩ | ⟨a, len, cap, m, n, D, Pl, hcs, hb, hl, hm, hmm, hx, hi⟩
  · simp at hcs
    obtain ⟨rfl, rfl, rfl⟩ := hcs
    exact ⟨[], its_nil w⟩
  · simp at hcs
    obtain ⟨rfl, rfl, rfl⟩ := hcs
    simp only [if_true] at hmm
    obtain ⟨Q, hlen, hq⟩ := choose_items (len := l) (p := fun i x => ItAt w (a.add (i * 2)) x) (fun i hil => by
      obtain ⟨cs', h1, h2⟩ := hi i (by omega)
      rw [hC] at h1
      obtain ⟨_, hcl, hat⟩ := World.cells?_some h1
      obtain ⟨y, rfl, _, _⟩ := item_of_trod hcl h2
      refine ⟨y, ?_, ?_⟩
      · have := hat 0 (by omega); rw [Addr.add_zero'] at this; simpa using this
      · have := hat 1 (by omega); rw [Addr.add_succ'] at this; simpa using this)
    exact ⟨Q, by rw [hlen]; omega, some a, c, by rw [hlen], fun _ => ⟨a, rfl, fun k hk => hq k hk⟩⟩

set_option maxRecDepth 100000 in
theorem open_items {r : Reach} {b0 : Nat} {v : Value} {d : DataW H} {p : List MemPlace} (hv : Value.okWide Tryz.prog w r b0 34 v) (h : DataW.Trod enc Tryz.prog w base (fun _ => true) held 34 v d p) : ∃ D : List It, Its w v D := by
  obtain ⟨A, l, c, rfl⟩ := okWide_slice Tryz.underlying34 hv
  obtain ⟨fuel, hf⟩ := h
  exact its_of_trod (fuel := fuel) (x := (d, p)) (by simpa [Value.cells] using hf)

set_option maxRecDepth 100000 in
theorem open_item {r : Reach} {b0 : Nat} {v : Value} {d : DataW H} {p : List MemPlace} (hv : Value.okWide Tryz.prog w r b0 127 v) (h : DataW.Trod enc Tryz.prog w base (fun _ => true) held 127 v d p) :
    ∃ D : It, ItIn w v D := by
  obtain ⟨cs, rfl, hsz⟩ := okWide_struct Tryz.underlying127 hv
  have hC : Tryz.prog.cellsOf 127 = 2 := by kernel_rfl
  rw [hC] at hsz
  obtain ⟨l⟩ := cs
  match l, hsz with
  | [c0, c1], _ =>
    obtain ⟨fuel, hf⟩ := h
    obtain ⟨y, e, f0, f1⟩ := item_of_trod (cs := [c0, c1]) rfl hf
    refine ⟨y, ?_, f0, f1⟩
    rw [e]

end

end Go.Proofs.YthnbaeamekolmaaGreatDoor

namespace Go.Proofs.YthnbaeamekolmaaGreatDoor
open Go.RowKit
set_option linter.unusedVariables false
set_option linter.unusedSimpArgs false

theorem row_fresh (w : World) {base : Nat} (hb : base ≤ w.heap.size) : Row (w.alloc (.cells #[] 3)) base (.slice (some ⟨w.heap.size, 0, none⟩) 0 0) [] :=
  World.ownsRow_made w #[] 0 hb (by unfold maxLen; omega) rfl

theorem irow_room {w : World} {lo n k : Nat} {A : Option Addr} {Q : List It} (h : IRow w lo (.slice A n k) Q) : n ≤ k := by
  rcases h.2 with ⟨hv, h0⟩ | ⟨g', cap', cur, hv, hb', hg, h1, h2, h3, h4⟩
  · simp only [Value.slice.injEq] at hv
    omega
  · simp only [Value.slice.injEq] at hv
    obtain ⟨_, rfl, rfl⟩ := hv
    omega

/-- What l07Check comes to: the first item that does not fit. -/
def placeI (Q : List It) : Int × Int := if (goO Q []).1 < Q.length ∨ 0 < (goO Q []).2.length then (((goO Q []).1 : Int), 12) else (0, 0)

set_option maxRecDepth 100000 in
set_option maxHeartbeats 2000000 in
theorem sPlace_any (v : Value) (Q : List It) (w : World) (hv : Its w v Q) (hl : Q.length ≤ 60) (hq : ∀ x ∈ Q, itB x = true) :
    Calls Tryz.prog 206 #[v] w (TwoOf w (placeI Q)) := by
  have HV := Lib.hid hv
  have HQ := Lib.hid hq
  obtain ⟨_, A, cap, rfl, _⟩ := hv
  clear hq
  have R0 : Hid (Row (w.alloc (.cells #[] 3)) w.heap.size (.slice (some ⟨w.heap.size, 0, none⟩) 0 0) []) := Lib.hid (row_fresh w (Nat.le_refl _))
  have B0 : Hid (Below w.heap.size w (w.alloc (.cells #[] 3))) := Lib.hid (below_alloc (Below.refl _ _) _)
  go_enter Tryz.func206, Tryz.ntmps206
  go_wp2
  go_loopw [4, 5] (fun v i wr => ∃ (k : Nat) (o : List Int), k ≤ Q.length ∧ i = .int .i64 k ∧ Got Q k o ∧ Row wr w.heap.size v o ∧ Below w.heap.size w wr) (fun _ i _ => Q.length - (intOf i).toNat)
  case atStart => exact ⟨0, [], Nat.zero_le _, rfl, got_start Q, R0.out, B0.out⟩
  case round =>
    obtain ⟨k, o, hk, rfl, hg, hm, hb⟩ := hrel
    have HG := Lib.hid hg
    have HM := Lib.hid hm
    have HB := Lib.hid hb
    have zb : w.heap.size ≤ wr.heap.size := hb.size
    have ho : o.length ≤ 60 := by have := got_len hg; omega
    obtain ⟨_, C, c, rfl, _⟩ := row_ints hm
    clear hg hb hm
    by_cases hlt : k < Q.length
    · obtain ⟨_, A', ca', e', hc⟩ := its_below HV.out HB.out
      simp only [Value.slice.injEq, true_and] at e'
      obtain ⟨rfl, rfl⟩ := e'
      obtain ⟨ga, rfl, ha⟩ := hc (by omega)
      obtain ⟨c0, c1⟩ := ha k hlt
      have hi := itB_kind (HQ.out Q[k] (List.getElem_mem hlt))
      clear ha hc
      go_wp2_with fail
      refine (sStep_any _ w.heap.size _ o Q[k].k HM.out (by omega) zb hi).mono ?_
      rintro e w2 ⟨u, rfl, hr2, hb2⟩
      have B2 := Lib.hid (below_step HB.out hb2)
      have R2 := Lib.hid hr2
      clear hb2 c0 c1 hr2
      by_cases hf : fitB o Q[k].k = true
      · have G2 := Lib.hid (got_fit HG.out hlt hf)
        rw [hf]
        clear hf
        go_wp2
        go_roundw
        case rel => exact ⟨k + 1, _, by omega, by go_num, G2.out, R2.out, B2.out⟩
        case measure => simp [intOf]; omega
      · have hf : fitB o Q[k].k = false := by simpa using hf
        have G2 := Lib.hid (got_not HG.out hlt hf)
        have EP : Hid (placeI Q = ((k : Int), 12)) := Lib.hid (by unfold placeI; rw [G2.out]; rw [if_pos (.inl hlt)])
        rw [hf]
        clear hf
        go_wp2
        go_ret2
        exact ⟨by rw [EP.out]; rfl, B2.out⟩
    · obtain rfl : k = Q.length := by omega
      have G2 := Lib.hid (got_end HG.out)
      clear hlt
      by_cases hz : o.length = 0
      · obtain rfl : o = [] := List.eq_nil_of_length_eq_zero hz
        have EP : Hid (placeI Q = (0, 0)) := Lib.hid (by unfold placeI; rw [G2.out]; rw [if_neg (by simp)])
        clear hz ho
        go_wp2
        go_ret2
        exact ⟨by rw [EP.out]; rfl, HB.out⟩
      · have EP : Hid (placeI Q = ((Q.length : Int), 12)) := Lib.hid (by unfold placeI; rw [G2.out]; rw [if_pos (.inr (by simp; omega))])
        have t1 : (0 : Int) < (o.length : Int) := by omega
        clear hz
        go_wp2
        go_ret2
        exact ⟨by rw [EP.out]; rfl, HB.out⟩

/-- A list of numbers and a code. -/
def ListCOf (w : World) (p : List Int × Int) (e : Ending) (w' : World) : Prop := ∃ v, e = .returned (.tuple #[v, .int .i64 p.2]) ∧ Row w' w.heap.size v p.1 ∧ Below w.heap.size w w'

theorem openI_small (Q : List It) (p : Int) : (openI Q p).1.length ≤ 1000 := by
  unfold openI
  by_cases h0 : askI Q = 0
  · obtain ⟨h1, _⟩ := askI_ok h0
    have h2 := goO_len (Q.take p.toNat) []
    rw [List.length_take] at h2
    rw [if_neg (by simpa using h0)]
    split
    · simp
    · split
      · simp
      · show (goO (Q.take p.toNat) []).2.length ≤ 1000
        simp only [List.length_nil, Nat.zero_add] at h2; omega
  · rw [if_pos h0]; simp

end Go.Proofs.YthnbaeamekolmaaGreatDoor

namespace Go.Proofs.YthnbaeamekolmaaGreatDoor
open Go.RowKit
set_option linter.unusedVariables false
set_option linter.unusedSimpArgs false

/-- A row made. -/
def RowMOf (w : World) (c : List Int) (e : Ending) (w' : World) : Prop := ∃ v, e = .returned v ∧ Row w' w.heap.size v c ∧ Below w.heap.size w w'

set_option maxRecDepth 100000 in
set_option maxHeartbeats 1000000 in
theorem sMake_any (v : Value) (Q : List It) (a s : Int) (w : World) (hv : Its w v Q) (h4 : Q.length ≤ 60) (hq : ∀ x ∈ Q, itB x = true) (hg : (goO Q []).1 = Q.length) (ha : 0 ≤ a ∧ a ≤ 400) :
    Calls Tryz.prog 207 #[v, .int .i64 a, .int .i64 s] w (RowMOf w ((runC a s Q).1 ++ [53])) := by
  have HV := Lib.hid hv
  have HQ := Lib.hid hq
  have HG := Lib.hid hg
  obtain ⟨hl, A, cap, rfl, _⟩ := hv
  clear hq hg
  have A0 : Hid (MdAt (w.alloc (.cells #[.int .i64 a, .slice none 0 0, .slice none 0 0] 225)) w.heap.size w.heap.size a [] []) := Lib.hid ⟨_, _, whole_new w _ _, row_nil _ _, prow_nil _ _ _, Nat.le_refl _⟩
  have B0 : Hid (Below w.heap.size w (w.alloc (.cells #[.int .i64 a, .slice none 0 0, .slice none 0 0] 225))) := Lib.hid (below_alloc (Below.refl _ _) _)
  go_enter Tryz.func207, Tryz.ntmps207
  go_wp2
  go_loopw [8] (fun i wr => ∃ (k : Nat) (c : List Int) (m : List It), k ≤ Q.length ∧ i = .int .i64 k ∧ Made a s Q k c m ∧ MdAt wr w.heap.size w.heap.size a c m ∧ Below w.heap.size w wr) (fun i _ => Q.length - (intOf i).toNat)
  case atStart => exact ⟨0, [], [], Nat.zero_le _, rfl, made_start _ _ _, A0.out, B0.out⟩
  case round =>
    obtain ⟨k, c, m, hk, rfl, hm, hA, hb⟩ := hrel
    have HM := Lib.hid hm
    have HA := Lib.hid hA
    have HB := Lib.hid hb
    have sm := made_small hm h4
    clear hm hA hb
    by_cases hlt : k < Q.length
    · obtain ⟨_, A', ca', e', hc⟩ := its_below HV.out HB.out
      simp only [Value.slice.injEq, true_and] at e'
      obtain ⟨rfl, rfl⟩ := e'
      obtain ⟨ga, rfl, hx⟩ := hc (by omega)
      obtain ⟨c0, c1⟩ := hx k hlt
      have hi := itB_kind (HQ.out Q[k] (List.getElem_mem hlt))
      have ND := Lib.hid (made_need HM.out HG.out hlt)
      have NX := Lib.hid (made_next HM.out HG.out hlt hi)
      clear hx hc
      go_wp2_with fail
      refine (item_any _ w.heap.size w.heap.size a s Q[k] c m HA.out ha (by omega) (by omega) hi ND.out).mono ?_
      rintro e w3 ⟨rfl, hA3, hb3⟩
      have A3 := Lib.hid hA3
      have B4 := Lib.hid (HB.out.trans hb3)
      clear hA3 hb3 c0 c1
      generalize cStep a s Q[k] c m = r at *
      go_wp2
      go_roundw
      case rel => exact ⟨k + 1, _, _, by omega, by go_num, NX.out, A3.out, B4.out⟩
      case measure => simp [intOf]; omega
    · obtain rfl : k = Q.length := by omega
      obtain ⟨hc1, hc2⟩ := made_end HM.out
      have HC1 := Lib.hid hc1
      clear hlt hc1 hc2
      go_wp2_with fail
      refine (sW_EXIT _).mono ?_
      rintro e w2 ⟨rfl, hb2⟩
      have A2 := Lib.hid (mdAt_below HA.out hb2)
      have B2 := Lib.hid (below_step HB.out hb2)
      clear hb2
      go_wp2_with fail
      refine (sPut_any _ w.heap.size w.heap.size a c m _ [53] (mdAt_alloc A2.out _) (lit1 _ (by simp)) (by simp; omega)).mono ?_
      rintro e w3 ⟨⟨rfl, hA3, hb3⟩, _⟩
      have B4 := Lib.hid ((below_alloc B2.out _).trans hb3)
      obtain ⟨vc, vm, hw3, hr3, _, _⟩ := hA3
      have R3 := Lib.hid hr3
      have e0 := whole_cell hw3 1
      have zg := whole_lt hw3
      obtain ⟨_, C, cc, rfl, _⟩ := row_ints hr3
      rw [show (c ++ [(53 : Int)]).length = c.length + 1 by simp] at R3
      clear hw3 hr3 hb3
      go_wp2
      go_ret
      exact ⟨_, rfl, by rw [← HC1.out]; exact R3.out, B4.out⟩

end Go.Proofs.YthnbaeamekolmaaGreatDoor

namespace Go.Proofs.YthnbaeamekolmaaGreatDoor
open Go.RowKit
set_option linter.unusedVariables false
set_option linter.unusedSimpArgs false

/-- 'make([]int, 0, n)'. -/
theorem made_room (w : World) (n : Nat) (h0 : n ≤ 1000) : (Instr.makeSlice 23 (.int .i64 0) (.int .i64 (n : Int))).run Tryz.prog w = .ok (.slice (some ⟨w.heap.size, 0, none⟩) 0 n) (w.alloc (.cells (madeCells (Value.int .i64 0).cells n) 3)) := by
  obtain ⟨i0, hi0, hz0, hz1, hz2⟩ := info_parts own_info3
  have h := run_make (P := Tryz.prog) w 23 3 i0 _ Tryz.underlying23 hi0 hz0 .i64 .i64 0 (n : Int) (Int.le_refl _) (by omega) (by rw [hz2]; omega) (by omega)
  rw [hz1, Nat.mul_one] at h
  simpa only [Int.toNat_zero, Int.toNat_natCast] using h

set_option maxRecDepth 100000 in
set_option maxHeartbeats 2000000 in
theorem iComp_any (v : Value) (Q : List It) (a s : Int) (w : World) (hv : Its w v Q) (ha : (Lit.int .i64 a).wf = true) (hs : (Lit.int .i64 s).wf = true) :
    Calls Tryz.prog 162 #[v, .int .i64 a, .int .i64 s] w (ListCOf w (compI Q a s)) := by
  have HV := Lib.hid hv
  by_cases h0 : (chkI Q).2 = 0
  · have H0 := Lib.hid h0
    obtain ⟨h1, h2, h3⟩ := chkI_ok h0
    obtain ⟨h4, h5⟩ := askI_ok h1
    have HQ := Lib.hid h5
    have HG := Lib.hid h2
    have EA : Hid (compI Q a s = if (inB a 0 400 && inB s 1 103) = false then ([], 4) else if 400 < a + (sumI Q + 1 : Nat) then ([], 7) else ((runC a s Q).1 ++ [53], 0)) := Lib.hid (by unfold compI; rw [if_neg (by simpa using h0)])
    obtain ⟨c0, hc0⟩ : ∃ c0, chkI Q = (c0, 0) := ⟨(chkI Q).1, by rw [← h0]⟩
    have HC := Lib.hid hc0
    clear h0 h1 h2 h3 h5 hc0
    by_cases hneg : a < 0
    · have EF : Hid (compI Q a s = ([], 4)) := Lib.hid (by rw [EA.out, if_pos]; unfold inB; rw [decide_eq_false (by omega)]; rfl)
      go_enter Tryz.func162, Tryz.ntmps162
      go_wp2_with fail
      refine (iCheck_any _ Q _ HV.out).mono ?_
      rintro e w1 ⟨rfl, hb1⟩
      rw [HC.out]
      go_wp2
      go_ret2
      exact ⟨_, by rw [EF.out]; rfl, by rw [EF.out]; exact row_nil _ _, hb1⟩
    by_cases hbig : 400 < a
    · have EF : Hid (compI Q a s = ([], 4)) := Lib.hid (by rw [EA.out, if_pos]; unfold inB; rw [decide_eq_false (by omega)]; rfl)
      go_enter Tryz.func162, Tryz.ntmps162
      go_wp2_with fail
      refine (iCheck_any _ Q _ HV.out).mono ?_
      rintro e w1 ⟨rfl, hb1⟩
      rw [HC.out]
      go_wp2
      go_ret2
      exact ⟨_, by rw [EF.out]; rfl, by rw [EF.out]; exact row_nil _ _, hb1⟩
    by_cases hself : inB s 1 103 = false
    · have EF : Hid (compI Q a s = ([], 4)) := Lib.hid (by rw [EA.out, if_pos]; rw [hself]; simp)
      have HS := Lib.hid hself
      clear hself
      go_enter Tryz.func162, Tryz.ntmps162
      go_wp2_with fail
      refine (iCheck_any _ Q _ HV.out).mono ?_
      rintro e w1 ⟨rfl, hb1⟩
      rw [HC.out]
      go_wp2_with (refine (wordNumber_any _ _).mono ?_; rintro e w' ⟨rfl, rfl⟩; rw [HS.out])
      go_ret2
      exact ⟨_, by rw [EF.out]; rfl, by rw [EF.out]; exact row_nil _ _, hb1⟩
    have hself : inB s 1 103 = true := by simpa using hself
    have EB : Hid (compI Q a s = if 400 < a + (sumI Q + 1 : Nat) then ([], 7) else ((runC a s Q).1 ++ [53], 0)) := Lib.hid (by rw [EA.out, if_neg]; rw [hself]; unfold inB; rw [decide_eq_true (by omega)]; simp)
    have HS := Lib.hid hself
    have hsm := sumI_le Q
    clear hself EA
    by_cases hfull : 400 < a + (sumI Q + 1 : Nat)
    · have EF : Hid (compI Q a s = ([], 7)) := Lib.hid (by rw [EB.out, if_pos hfull])
      clear EB
      go_enter Tryz.func162, Tryz.ntmps162
      go_wp2_with fail
      refine (iCheck_any _ Q _ HV.out).mono ?_
      rintro e w1 ⟨rfl, hb1⟩
      rw [HC.out]
      go_wp2_with (go_at_call 163; refine (wordNumber_any _ _).mono ?_; rintro e w' ⟨rfl, rfl⟩; rw [HS.out])
      refine (sizeOfCode_any _ Q _ (its_below HV.out hb1) h4).mono ?_
      rintro e w2 ⟨rfl, hb2⟩
      go_wp2
      go_ret2
      exact ⟨_, by rw [EF.out]; rfl, by rw [EF.out]; exact row_nil _ _, below_step hb1 hb2⟩
    have EF : Hid (compI Q a s = ((runC a s Q).1 ++ [53], 0)) := Lib.hid (by rw [EB.out, if_neg hfull])
    clear EB
    obtain ⟨n, rfl⟩ : ∃ n : Nat, a = n := ⟨a.toNat, by omega⟩
    have hn : n ≤ 400 := by omega
    obtain ⟨z, hz⟩ : ∃ z, z = sumI Q + 1 := ⟨_, rfl⟩
    have HZ := Lib.hid hz
    rw [← hz] at hfull
    have hz2 : z ≤ 400 := by omega
    have MK := Lib.hid (fun W : World => made_room W z (by omega))
    clear hz hneg hbig
    go_enter Tryz.func162, Tryz.ntmps162
    go_wp2_with fail
    refine (iCheck_any _ Q _ HV.out).mono ?_
    rintro e w1 ⟨rfl, hb1⟩
    rw [HC.out]
    go_wp2_with (go_at_call 163; refine (wordNumber_any _ _).mono ?_; rintro e w' ⟨rfl, rfl⟩; rw [HS.out])
    refine (sizeOfCode_any _ Q _ (its_below HV.out hb1) h4).mono ?_
    rintro e w2 ⟨rfl, hb2⟩
    have B2 := Lib.hid (below_step hb1 hb2)
    have zz : w.heap.size ≤ w2.heap.size := B2.out.size
    clear hb1 hb2
    rw [← HZ.out]
    have mk := MK.out w2
    have A0 : Hid (AsAt ((w2.alloc (.cells (madeCells (Value.int .i64 0).cells z) 3)).alloc (.cells #[.slice (some ⟨w2.heap.size, 0, none⟩) 0 z, .int .i64 (n : Int), .int .i64 s, .slice none 0 0] 211)) w.heap.size (w2.heap.size + 1) n s [] []) := Lib.hid (by
      have k1 := whole_new (w2.alloc (.cells (madeCells (Value.int .i64 0).cells z) 3)) 211 #[.slice (some ⟨w2.heap.size, 0, none⟩) 0 z, .int .i64 (n : Int), .int .i64 s, .slice none 0 0]
      rw [show (w2.alloc (.cells (madeCells (Value.int .i64 0).cells z) 3)).heap.size = w2.heap.size + 1 from Array.size_push ..] at k1
      have k0 : Row (w2.alloc (.cells (madeCells (Value.int .i64 0).cells z) 3)) w.heap.size (.slice (some ⟨w2.heap.size, 0, none⟩) 0 z) [] := World.ownsRow_made w2 _ z zz (by unfold maxLen; omega) (by rw [size_madeCells, Nat.mul_one])
      exact ⟨_, _, k1, row_alloc k0 _, prow_nil _ _ _, by omega⟩)
    have B3 : Hid (Below w.heap.size w ((w2.alloc (.cells (madeCells (Value.int .i64 0).cells z) 3)).alloc (.cells #[.slice (some ⟨w2.heap.size, 0, none⟩) 0 z, .int .i64 (n : Int), .int .i64 s, .slice none 0 0] 211))) := Lib.hid (below_alloc (below_alloc B2.out _) _)
    obtain ⟨hl, A, cap, rfl, _⟩ := hv
    go_wp2
    generalize w2.heap.size + 1 = G at *
    go_loopw [46] (fun i wr => ∃ (k : Nat) (c : List Int) (m : List It), k ≤ Q.length ∧ i = .int .i64 k ∧ Made n s Q k c m ∧ AsAt wr w.heap.size G n s c m ∧ Below w.heap.size w wr) (fun i _ => Q.length - (intOf i).toNat)
    case atStart => exact ⟨0, [], [], Nat.zero_le _, rfl, made_start _ _ _, A0.out, B3.out⟩
    case round =>
      obtain ⟨k, c, m, hk, rfl, hm, hA, hb⟩ := hrel
      have HM := Lib.hid hm
      have HA := Lib.hid hA
      have HB := Lib.hid hb
      have sm := made_small hm h4
      clear hm hA hb
      by_cases hlt : k < Q.length
      · obtain ⟨_, A', ca', e', hc⟩ := its_below HV.out HB.out
        simp only [Value.slice.injEq, true_and] at e'
        obtain ⟨rfl, rfl⟩ := e'
        obtain ⟨ga, rfl, hx⟩ := hc (by omega)
        obtain ⟨c0, c1⟩ := hx k hlt
        have hi := itB_kind (HQ.out Q[k] (List.getElem_mem hlt))
        have ND := Lib.hid (made_need HM.out HG.out hlt)
        have NX := Lib.hid (made_next HM.out HG.out hlt hi)
        clear hx hc
        go_wp2_with fail
        refine (add_any _ w.heap.size G n s Q[k] c m (asAt_alloc HA.out _) (by omega) (by omega) (by omega) hi ND.out).mono ?_
        rintro e w3 ⟨rfl, hA3, hb3⟩
        have A3 := Lib.hid hA3
        have B4 := Lib.hid ((below_alloc HB.out _).trans hb3)
        clear hA3 hb3 c0 c1
        generalize cStep n s Q[k] c m = r at *
        go_wp2
        go_roundw
        case rel => exact ⟨k + 1, _, _, by omega, by go_num, NX.out, A3.out, B4.out⟩
        case measure => simp [intOf]; omega
      · obtain rfl : k = Q.length := by omega
        obtain ⟨hc1, hc2⟩ := made_end HM.out
        have HC1 := Lib.hid hc1
        clear hlt hc1 hc2
        go_wp2_with fail
        refine (emit_any _ w.heap.size G n s c m _ [53] (asAt_alloc HA.out _) (lit1 _ (by simp)) (by simp; omega)).mono ?_
        rintro e w3 ⟨rfl, hA3, hb3⟩
        have B4 := Lib.hid ((below_alloc HB.out _).trans hb3)
        obtain ⟨vc, vm, hw3, hr3, _, _⟩ := hA3
        have R3 := Lib.hid hr3
        have e0 := whole_cell hw3 0
        have zg := whole_lt hw3
        obtain ⟨_, C, cc, rfl, _⟩ := row_ints hr3
        rw [show (c ++ [(53 : Int)]).length = c.length + 1 by simp] at R3
        clear hw3 hr3 hb3
        go_wp2
        go_ret2
        exact ⟨_, by rw [EF.out]; rfl, by rw [EF.out, ← HC1.out]; exact R3.out, B4.out⟩
  · have EF : Hid (compI Q a s = ([], (chkI Q).2)) := Lib.hid (by unfold compI; rw [if_pos h0])
    have t0 : ((chkI Q).2 != 0) = true := by simpa using h0
    clear h0
    go_enter Tryz.func162, Tryz.ntmps162
    go_wp2_with fail
    refine (iCheck_any _ Q _ HV.out).mono ?_
    rintro e w1 ⟨rfl, hb1⟩
    generalize chkI Q = r at *
    go_wp2
    go_ret2
    exact ⟨_, by rw [EF.out]; rfl, by rw [EF.out]; exact row_nil _ _, hb1⟩

end Go.Proofs.YthnbaeamekolmaaGreatDoor
