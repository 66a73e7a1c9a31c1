/- PkC: several of my texts, laid together: ItB, ItL, MkB, MkC, CtB, CtC, MaC, AsD. -/
import Derived.Test.YtkcogfgjabemfaaGreatDoorItA
import Derived.WalkSmall
import Derived.Deep.RegionHeld3
import Derived.Deep.Slices
import Derived.Lib.SmallJoins
import Derived.Deep.Grids
import Derived.ChangeOld
import Derived.OpenShut
import Derived.ProofKit
import Derived.Test.YtkcogfgjabemfaaGreatDoorMkA
import Derived.Test.YtkcogfgjabemfaaGreatDoorDatO
import Derived.Test.YtkcogfgjabemfaaGreatDoorMaB
import Derived.Test.YtkcogfgjabemfaaGreatDoorAsC
namespace Go.Proofs.YtkcogfgjabemfaaGreatDoor
open Go.RowKit
set_option linter.unusedVariables false
set_option linter.unusedSimpArgs false

set_option maxRecDepth 100000 in
set_option maxHeartbeats 1000000 in
theorem eqItem_same (x : It) (w : World) :
    Calls Tryz.prog 87 #[.agg #[.int .i64 x.k, .int .i64 x.v], .agg #[.int .i64 x.k, .int .i64 x.v]] w fun e w' => e = .returned (.bool true) ∧ Below w.heap.size w w' := by
  have tp : (x.k != x.k) = false := by simp
  have ta : (x.v != x.v) = false := by simp
  go_enter Tryz.func87, Tryz.ntmps87
  go_wp2
  go_ret
  exact ⟨rfl, below_alloc (below_alloc (Below.refl _ _) _) _⟩

set_option maxRecDepth 100000 in
set_option maxHeartbeats 2000000 in
theorem eqItemS_same (u v : Value) (Q : List It) (w : World) (hu : Its w u Q) (hv : Its w v Q) :
    Calls Tryz.prog 62 #[u, v] w fun e w' => e = .returned (.bool true) ∧ Below w.heap.size w w' := by
  have HU := Lib.hid hu
  have HV := Lib.hid hv
  obtain ⟨hl, A, ca, rfl, _⟩ := hu
  obtain ⟨_, B, cb, rfl, _⟩ := hv
  unfold maxLen at hl
  have z0 : ((Q.length : Int) != (Q.length : Int)) = false := by simp
  go_enter Tryz.func62, Tryz.ntmps62
  go_wp2
  clear z0
  go_loopw [5] (fun i wr => ∃ k : Nat, k ≤ Q.length ∧ i = .int .i64 k ∧ Below w.heap.size w wr) (fun i _ => Q.length - (intOf i).toNat)
  case atStart => exact ⟨0, Nat.zero_le _, rfl, Below.refl _ _⟩
  case round =>
    obtain ⟨k, hk, rfl, hb⟩ := hrel
    have HB := Lib.hid hb
    clear hb
    by_cases hlt : k < Q.length
    · obtain ⟨_, A', ca', e', hc⟩ := its_below HU.out HB.out
      simp only [Value.slice.injEq, true_and] at e'
      obtain ⟨rfl, rfl⟩ := e'
      obtain ⟨ga, rfl, ha⟩ := hc (by omega)
      obtain ⟨_, B', cb', e', hc⟩ := its_below HV.out HB.out
      simp only [Value.slice.injEq, true_and] at e'
      obtain ⟨rfl, rfl⟩ := e'
      obtain ⟨gb, rfl, hb⟩ := hc (by omega)
      have WA := ha k hlt
      have WB := hb k hlt
      clear ha hb hc
      generalize Q[k] = x at *
      have KA := Lib.hid WA
      have KB := Lib.hid WB
      obtain ⟨a0, a1⟩ := WA
      obtain ⟨b0, b1⟩ := WB
      go_wp2
      go_region_held3 (fun w' => (w'.cell? (ga.add (k * 2)) = some (.int .i64 x.k) ∧ w'.cell? ⟨(ga.add (k * 2)).block, (ga.add (k * 2)).off + 1, none⟩ = some (.int .i64 x.v)) ∧ (w'.cell? (gb.add (k * 2)) = some (.int .i64 x.k) ∧ w'.cell? ⟨(gb.add (k * 2)).block, (gb.add (k * 2)).off + 1, none⟩ = some (.int .i64 x.v))) (first | exact ⟨K1, K2⟩ | exact ⟨KA.out, KB.out⟩)
        (first | (go_at_call 87; refine (eqItem_same x _).mono ?_; rintro e w1 ⟨rfl, hb1⟩; have K1 := itAt_below hb1 KA.out; have K2 := itAt_below hb1 KB.out))
      have HB2 := Lib.hid (HB.out.drew.trans (hb1.mono HB.out.drew.size))
      clear hb1 K1 K2 a0 a1 b0 b1
      go_wp2
      go_roundw
      case rel => exact ⟨k + 1, by omega, by go_num, HB2.out⟩
      case measure => simp [intOf]; omega
    · obtain rfl : k = Q.length := by omega
      clear hlt
      go_wp2
      go_ret
      exact ⟨rfl, HB.out⟩

/-- The item with marks from K on. -/
def markIt (K : Nat) : It := ⟨(K : Int), (K : Int) + 1⟩

/-- The items with marks from K on. -/
def imarks (K n : Nat) : List It := (List.range n).map fun j => markIt (K + 2 * j)

theorem imarks_len (K n : Nat) : (imarks K n).length = n := by unfold imarks; simp

theorem imarks_succ (K n : Nat) : imarks K (n + 1) = imarks K n ++ [markIt (K + 2 * n)] := by unfold imarks; rw [List.range_succ]; simp

/-- Marks at the first k places. -/
def imarked (K k : Nat) (Q : List It) : List It := imarks K k ++ Q.drop k

theorem imarked_len {K k : Nat} {Q : List It} (h : k ≤ Q.length) : (imarked K k Q).length = Q.length := by unfold imarked; rw [List.length_append, imarks_len, List.length_drop]; omega

theorem imarked_zero (K : Nat) (Q : List It) : imarked K 0 Q = Q := by unfold imarked imarks; simp

theorem imarked_end (K : Nat) (Q : List It) : imarked K Q.length Q = imarks K Q.length := by unfold imarked; simp

theorem imarked_next {K k : Nat} {Q : List It} (h : k < Q.length) : (imarked K k Q).set k (markIt (K + 2 * k)) = imarked K (k + 1) Q := by
  unfold imarked
  rw [imarks_succ, List.drop_eq_getElem_cons h, List.set_append_right _ _ (by rw [imarks_len]; exact Nat.le_refl _), imarks_len, Nat.sub_self, List.set_cons_zero]
  simp

/-- What laying marks leaves: the items bear them; no other block that was there has turned. -/
def ImarkedOf (w : World) (base : Nat) (v : Value) (n K : Nat) (e : Ending) (w' : World) : Prop := e = .returned (.int .i64 ((K + 2 * n : Nat) : Int)) ∧ IRow w' base v (imarks K n) ∧ w.grownBy w' v.ownBlock

end Go.Proofs.YtkcogfgjabemfaaGreatDoor

namespace Go.Proofs.YtkcogfgjabemfaaGreatDoor
open Go.Joins Go.ChangeShapes Go.WideShapes Go.RowKit Go.Deep Go.ChangeAt
set_option linter.unusedVariables false
set_option linter.unusedSimpArgs false

/-- An item that came in. -/
def ItIn (w : World) (v : Value) (x : It) : Prop := v = .agg #[.int .i64 x.k, .int .i64 x.v] ∧ (Lit.int .i64 x.k).wf = true ∧ (Lit.int .i64 x.v).wf = true

section
variable {H : Type} {enc : TypeId × Value → H} {w : World} {base : Nat} {spare : Nat → Bool} {held : Bool}

theorem itm_one : Tryz.prog.cellsOf 3 = 1 := by kernel_rfl

theorem item_of_trod {fuel : Nat} {cs : List Value} {x : DataW H × List MemPlace} (hl : cs.length = 2) (h : DataW.trod enc Tryz.prog w base spare held fuel 119 cs = some x) : ∃ y : It, cs = [.int .i64 y.k, .int .i64 y.v] ∧ (Lit.int .i64 y.k).wf = true ∧ (Lit.int .i64 y.v).wf = true := by
  match cs, hl with
  | [c0, c1], _ =>
    obtain ⟨xs, n, _, hx, _, hlen, hg⟩ := DataW.trod_struct Tryz.underlying119 h
    match xs, hlen with
    | [y0, y1], _ =>
      have g0 := hg 0 _ rfl
      have g1 := hg 1 _ rfl
      simp [itm_one] at g0 g1
      obtain ⟨n0, e0, _, f0⟩ := DataW.trod_int Tryz.underlying3 g0
      obtain ⟨n1, e1, _, f1⟩ := DataW.trod_int Tryz.underlying3 g1
      simp only [List.cons.injEq, and_true] at e0 e1
      subst e0 e1
      exact ⟨⟨n0, n1⟩, rfl, f0, f1⟩

theorem choose_items {len : Nat} {p : Nat → It → Prop} (h : ∀ i, i < len → ∃ x, p i x) : ∃ Q : List It, Q.length = len ∧ ∀ i (hi : i < Q.length), p i Q[i] := by
  induction len with
  | zero => exact ⟨[], rfl, fun i hi => by simp at hi⟩
  | succ m ih =>
    obtain ⟨Q, hl, hq⟩ := ih (fun i hi => h i (by omega))
    obtain ⟨x, hx⟩ := h m (by omega)
    refine ⟨Q ++ [x], by simp [hl], fun i hi => ?_⟩
    by_cases e : i < Q.length
    · rw [List.getElem_append_left e]; exact hq i e
    · have : i = m := by simp at hi; omega
      subst this
      rw [List.getElem_append_right (by omega)]
      simp [hl]
      exact hx

theorem its_of_trod {fuel : Nat} {A : Option Addr} {l c : Nat} {x : DataW H × List MemPlace} (hf : DataW.trod enc Tryz.prog w base (fun _ => true) held fuel 57 [.slice A l c] = some x) : ∃ D : List It, Its w (.slice A l c) D := by
  have hC : Tryz.prog.cellsOf 119 = 2 := by kernel_rfl
  rcases open_slice Tryz.underlying57 hf with ⟨hcs, _⟩ | ⟨a, len, cap, m, n, D, Pl, hcs, hb, hl, hm, hmm, hx, hi⟩
  · simp at hcs
    obtain ⟨rfl, rfl, rfl⟩ := hcs
    exact ⟨[], its_nil w⟩
  · simp at hcs
    obtain ⟨rfl, rfl, rfl⟩ := hcs
    simp only [if_true] at hmm
    obtain ⟨Q, hlen, hq⟩ := choose_items (len := l) (p := fun i x => ItAt w (a.add (i * 2)) x) (fun i hil => by
      obtain ⟨cs', h1, h2⟩ := hi i (by omega)
      rw [hC] at h1
      obtain ⟨_, hcl, hat⟩ := World.cells?_some h1
      obtain ⟨y, rfl, _, _⟩ := item_of_trod hcl h2
      refine ⟨y, ?_, ?_⟩
      · have := hat 0 (by omega); rw [Addr.add_zero'] at this; simpa using this
      · have := hat 1 (by omega); rw [Addr.add_succ'] at this; simpa using this)
    exact ⟨Q, by rw [hlen]; omega, some a, c, by rw [hlen], fun _ => ⟨a, rfl, fun k hk => hq k hk⟩⟩

set_option maxRecDepth 100000 in
theorem open_items {r : Reach} {b0 : Nat} {v : Value} {d : DataW H} {p : List MemPlace} (hv : Value.okWide Tryz.prog w r b0 57 v) (h : DataW.Trod enc Tryz.prog w base (fun _ => true) held 57 v d p) : ∃ D : List It, Its w v D := by
  obtain ⟨A, l, c, rfl⟩ := okWide_slice Tryz.underlying57 hv
  obtain ⟨fuel, hf⟩ := h
  exact its_of_trod (fuel := fuel) (x := (d, p)) (by simpa [Value.cells] using hf)

set_option maxRecDepth 100000 in
theorem open_item {r : Reach} {b0 : Nat} {v : Value} {d : DataW H} {p : List MemPlace} (hv : Value.okWide Tryz.prog w r b0 119 v) (h : DataW.Trod enc Tryz.prog w base (fun _ => true) held 119 v d p) :
    ∃ D : It, ItIn w v D := by
  obtain ⟨cs, rfl, hsz⟩ := okWide_struct Tryz.underlying119 hv
  have hC : Tryz.prog.cellsOf 119 = 2 := by kernel_rfl
  rw [hC] at hsz
  obtain ⟨l⟩ := cs
  match l, hsz with
  | [c0, c1], _ =>
    obtain ⟨fuel, hf⟩ := h
    obtain ⟨y, e, f0, f1⟩ := item_of_trod (cs := [c0, c1]) rfl hf
    refine ⟨y, ?_, f0, f1⟩
    rw [e]

end

end Go.Proofs.YtkcogfgjabemfaaGreatDoor

namespace Go.Proofs.YtkcogfgjabemfaaGreatDoor
open Go.RowKit
set_option linter.unusedVariables false
set_option linter.unusedSimpArgs false

set_option maxHeartbeats 400000 in
theorem wordNumber_any (n : Int) (w : World) :
    Calls Tryz.prog 82 #[.int .i64 n] w fun e w' => e = .returned (.bool (inB n 1 103)) ∧ w = w' := by
  by_cases h : 1 ≤ n
  · by_cases h' : n ≤ 103
    · go_enter Tryz.func82, Tryz.ntmps82
      go_wp2
      go_ret
      exact ⟨ret_bool (by unfold inB; simp [h, h']), rfl⟩
    · go_enter Tryz.func82, Tryz.ntmps82
      go_wp2
      go_ret
      exact ⟨ret_bool (by unfold inB; rw [decide_eq_false (by omega)]), rfl⟩
  · go_enter Tryz.func82, Tryz.ntmps82
    go_wp2
    go_ret
    exact ⟨ret_bool (by unfold inB; rw [decide_eq_false (by omega)]), rfl⟩

set_option maxRecDepth 100000 in
set_option maxHeartbeats 1000000 in
theorem iItemOK_any (x : It) (w : World) :
    Calls Tryz.prog 113 #[.agg #[.int .i64 x.k, .int .i64 x.v]] w fun e w' => e = .returned (.bool (itB x)) ∧ Below w.heap.size w w' := by
  obtain ⟨k, v⟩ := x
  by_cases h1 : k = 1
  · subst h1
    go_enter Tryz.func113, Tryz.ntmps113
    go_wp2_with fail
    refine (wordNumber_any _ _).mono ?_
    rintro e w' ⟨rfl, rfl⟩
    go_wp2
    go_ret
    exact ⟨rfl, below_alloc (Below.refl _ _) _⟩
  by_cases h2 : k = 2
  · subst h2
    go_enter Tryz.func113, Tryz.ntmps113
    go_wp2_with fail
    refine (cellOK_any _ _).mono ?_
    rintro e w' ⟨rfl, rfl⟩
    go_wp2
    go_ret
    exact ⟨rfl, below_alloc (Below.refl _ _) _⟩
  have t1 : (k == 1) = false := by simpa using h1
  have t2 : (k == 2) = false := by simpa using h2
  have E : itB ⟨k, v⟩ = (decide (3 ≤ k ∧ k ≤ 13) && decide (v = 0)) := by unfold itB; simp [h1, h2]
  rw [E]
  clear E h1 h2
  by_cases h3 : 3 ≤ k
  · by_cases h4 : k ≤ 13
    · by_cases h5 : v = 0
      · subst h5
        go_enter Tryz.func113, Tryz.ntmps113
        go_wp2
        go_ret
        exact ⟨ret_bool (by simp [h3, h4]), below_alloc (Below.refl _ _) _⟩
      · have t5 : (v == 0) = false := by simpa using h5
        go_enter Tryz.func113, Tryz.ntmps113
        go_wp2
        go_ret
        exact ⟨ret_bool (by simp [h5]), below_alloc (Below.refl _ _) _⟩
    · have t4 : ¬ k ≤ 13 := h4
      go_enter Tryz.func113, Tryz.ntmps113
      go_wp2
      go_ret
      exact ⟨ret_bool (by rw [decide_eq_false (by omega)]; rfl), below_alloc (Below.refl _ _) _⟩
  · have t3 : ¬ 3 ≤ k := h3
    go_enter Tryz.func113, Tryz.ntmps113
    go_wp2
    go_ret
    exact ⟨ret_bool (by rw [decide_eq_false (by omega)]; rfl), below_alloc (Below.refl _ _) _⟩

set_option maxRecDepth 100000 in
set_option maxHeartbeats 1000000 in
theorem itemsCode_any (v : Value) (Q : List It) (w : World) (hv : Its w v Q) :
    Calls Tryz.prog 99 #[v] w fun e w' => e = .returned (.int .i64 (askI Q)) ∧ Below w.heap.size w w' := by
  have HV := Lib.hid hv
  obtain ⟨hl, A, cap, rfl, _⟩ := hv
  unfold maxLen at hl
  by_cases h1 : 4096 < Q.length
  · have E : Hid (askI Q = 2) := Lib.hid (by unfold askI; rw [if_pos h1])
    have t1 : (4096 : Int) < (Q.length : Int) := by omega
    clear h1
    go_enter Tryz.func99, Tryz.ntmps99
    go_wp2
    go_ret
    exact ⟨ret_int E.out.symm, Below.refl _ _⟩
  have t1 : ¬ (4096 : Int) < (Q.length : Int) := by omega
  by_cases h2 : 60 < Q.length
  · have E : Hid (askI Q = 6) := Lib.hid (by unfold askI; rw [if_neg h1, if_pos h2])
    have t2 : (60 : Int) < (Q.length : Int) := by omega
    clear h1 h2
    go_enter Tryz.func99, Tryz.ntmps99
    go_wp2
    go_ret
    exact ⟨ret_int E.out.symm, Below.refl _ _⟩
  have t2 : ¬ (60 : Int) < (Q.length : Int) := by omega
  have E : Hid (askI Q = if Q.all itB = true then 0 else 1) := Lib.hid (by unfold askI; rw [if_neg h1, if_neg h2])
  have hl2 : Q.length ≤ 60 := by omega
  clear h1 h2
  go_enter Tryz.func99, Tryz.ntmps99
  go_wp2
  go_loopw [13] (fun i wr => ∃ k : Nat, k ≤ Q.length ∧ i = .int .i64 k ∧ (∀ j (h : j < Q.length), j < k → itB Q[j] = true) ∧ Below w.heap.size w wr) (fun i _ => Q.length - (intOf i).toNat)
  case atStart => exact ⟨0, Nat.zero_le _, rfl, fun j _ hj => by omega, Below.refl _ _⟩
  case round =>
    obtain ⟨k, hk, rfl, ha, hb⟩ := hrel
    have HA := Lib.hid ha
    have HB := Lib.hid hb
    clear ha hb
    by_cases hlt : k < Q.length
    · obtain ⟨_, A', ca', e', hc⟩ := its_below HV.out HB.out
      simp only [Value.slice.injEq, true_and] at e'
      obtain ⟨rfl, rfl⟩ := e'
      obtain ⟨ga, rfl, ha⟩ := hc (by omega)
      obtain ⟨c0, c1⟩ := ha k hlt
      clear ha hc
      go_wp2_with fail
      refine (iItemOK_any Q[k] _).mono ?_
      rintro e w2 ⟨rfl, hb2⟩
      have B2 := Lib.hid (below_step (below_alloc HB.out _) hb2)
      clear hb2 c0 c1
      by_cases hi : itB Q[k] = true
      · have HI := Lib.hid hi
        rw [hi]
        clear hi
        go_wp2
        go_roundw
        case rel => exact ⟨k + 1, by omega, by go_num, fun j h hj => by
          rcases Nat.lt_succ_iff_lt_or_eq.1 hj with q | rfl
          · exact HA.out j h q
          · exact HI.out, B2.out⟩
        case measure => simp [intOf]; omega
      · have hi : itB Q[k] = false := by simpa using hi
        have EE : Hid (askI Q = 1) := Lib.hid (by
          rw [E.out, if_neg]
          intro h
          have := List.all_eq_true.1 h Q[k] (List.getElem_mem hlt)
          rw [hi] at this; cases this)
        rw [hi]
        clear hi
        go_wp2
        go_ret
        exact ⟨ret_int EE.out.symm, B2.out⟩
    · obtain rfl : k = Q.length := by omega
      have EE : Hid (askI Q = 0) := Lib.hid (by
        rw [E.out, if_pos]
        exact List.all_eq_true.2 fun x hx => by
          obtain ⟨j, hj, rfl⟩ := List.getElem_of_mem hx
          exact HA.out j hj hj)
      clear hlt
      go_wp2
      go_ret
      exact ⟨ret_int EE.out.symm, HB.out⟩

set_option maxRecDepth 100000 in
set_option maxHeartbeats 1000000 in
theorem sizeOfItem_any (k : Int) (w : World) :
    Calls Tryz.prog 101 #[.int .i64 k] w fun e w' => e = .returned (.int .i64 (cellsI k : Nat)) ∧ w = w' := by
  by_cases h5 : k = 5
  · subst h5
    go_enter Tryz.func101, Tryz.ntmps101
    go_wp2
    go_ret
    exact ⟨rfl, rfl⟩
  by_cases h6 : k = 6
  · subst h6
    go_enter Tryz.func101, Tryz.ntmps101
    go_wp2
    go_ret
    exact ⟨rfl, rfl⟩
  by_cases h1 : k = 1
  · subst h1
    go_enter Tryz.func101, Tryz.ntmps101
    go_wp2
    go_ret
    exact ⟨rfl, rfl⟩
  by_cases h13 : k = 13
  · subst h13
    go_enter Tryz.func101, Tryz.ntmps101
    go_wp2
    go_ret
    exact ⟨rfl, rfl⟩
  by_cases h10 : k = 10
  · subst h10
    go_enter Tryz.func101, Tryz.ntmps101
    go_wp2
    go_ret
    exact ⟨rfl, rfl⟩
  have t5 : (k == 5) = false := by simpa using h5
  have t6 : (k == 6) = false := by simpa using h6
  have t1 : (k == 1) = false := by simpa using h1
  have t13 : (k == 13) = false := by simpa using h13
  have t10 : (k == 10) = false := by simpa using h10
  have E : Hid (cellsI k = 2) := Lib.hid (by unfold cellsI; rw [if_neg (by omega), if_neg (by omega)])
  clear h5 h6 h1 h13 h10
  go_enter Tryz.func101, Tryz.ntmps101
  go_wp2
  go_ret
  exact ⟨ret_int (by rw [E.out]; rfl), rfl⟩

set_option maxRecDepth 100000 in
set_option maxHeartbeats 1000000 in
theorem sizeOfCode_any (v : Value) (Q : List It) (w : World) (hv : Its w v Q) (hl : Q.length ≤ 60) :
    Calls Tryz.prog 83 #[v] w fun e w' => e = .returned (.int .i64 ((sumI Q + 1 : Nat) : Int)) ∧ Below w.heap.size w w' := by
  have HV := Lib.hid hv
  obtain ⟨_, A, cap, rfl, _⟩ := hv
  go_enter Tryz.func83, Tryz.ntmps83
  go_wp2
  go_loopw [3, 8] (fun s i wr => ∃ k : Nat, k ≤ Q.length ∧ i = .int .i64 k ∧ s = .int .i64 ((sumI (Q.take k) + 1 : Nat) : Int) ∧ Below w.heap.size w wr) (fun _ i _ => Q.length - (intOf i).toNat)
  case atStart => exact ⟨0, Nat.zero_le _, rfl, rfl, Below.refl _ _⟩
  case round =>
    obtain ⟨k, hk, rfl, rfl, hb⟩ := hrel
    have HB := Lib.hid hb
    clear hb
    by_cases hlt : k < Q.length
    · obtain ⟨_, A', ca', e', hc⟩ := its_below HV.out HB.out
      simp only [Value.slice.injEq, true_and] at e'
      obtain ⟨rfl, rfl⟩ := e'
      obtain ⟨ga, rfl, ha⟩ := hc (by omega)
      obtain ⟨c0, c1⟩ := ha k hlt
      have ES := Lib.hid (sumI_take hlt)
      have q1 : sumI (Q.take k) ≤ 120 := by have := sumI_le (Q.take k); rw [List.length_take] at this; omega
      have q2 := cellsI_le Q[k].k
      generalize sumI (Q.take k) = s at *
      clear ha hc
      go_wp2_with fail
      refine (sizeOfItem_any _ _).mono ?_
      rintro e w2 ⟨rfl, rfl⟩
      generalize cellsI Q[k].k = c at *
      go_wp2
      go_roundw
      case rel => exact ⟨k + 1, by omega, by go_num, by rw [ES.out]; go_num, below_alloc HB.out _⟩
      case measure => simp [intOf]; omega
    · obtain rfl : k = Q.length := by omega
      clear hlt
      go_wp2
      go_ret
      exact ⟨ret_int (by rw [List.take_length]), HB.out⟩

set_option maxRecDepth 100000 in
set_option maxHeartbeats 400000 in
theorem fits_1 (w : World) (v : Value) (o : List Int) (hv : Ints w v o) (hl : o.length ≤ 1000000) :
    Calls Tryz.prog 114 #[.agg #[v], .int .i64 1] w fun e w' => e = .returned (.bool (fitB o 1)) ∧ Below w.heap.size w w' := by
  have HT := Lib.hid (top_any (w.alloc (.cells #[v] 160)) w.heap.size v o (by rw [whole_cell (whole_new w _ _) 0]; rfl) (ints_below hv (below_alloc (Below.refl _ _) _)) hl)
  obtain ⟨_, A, c, rfl, _⟩ := hv
  have E : Hid (fitB o 1 = true) := Lib.hid rfl
  rw [E.out]
  clear E
  generalize topO o = t at *
  go_enter Tryz.func114, Tryz.ntmps114
  go_wp2_with fail
  refine HT.out.mono ?_
  rintro e w1 ⟨n, rfl, rfl⟩
  go_wp2
  go_ret
  exact ⟨rfl, below_drewN (below_alloc (Below.refl _ _) _) _⟩

set_option maxRecDepth 100000 in
set_option maxHeartbeats 400000 in
theorem fits_2 (w : World) (v : Value) (o : List Int) (hv : Ints w v o) (hl : o.length ≤ 1000000) :
    Calls Tryz.prog 114 #[.agg #[v], .int .i64 2] w fun e w' => e = .returned (.bool (fitB o 2)) ∧ Below w.heap.size w w' := by
  have HT := Lib.hid (top_any (w.alloc (.cells #[v] 160)) w.heap.size v o (by rw [whole_cell (whole_new w _ _) 0]; rfl) (ints_below hv (below_alloc (Below.refl _ _) _)) hl)
  obtain ⟨_, A, c, rfl, _⟩ := hv
  have E : Hid (fitB o 2 = true) := Lib.hid rfl
  rw [E.out]
  clear E
  generalize topO o = t at *
  go_enter Tryz.func114, Tryz.ntmps114
  go_wp2_with fail
  refine HT.out.mono ?_
  rintro e w1 ⟨n, rfl, rfl⟩
  go_wp2
  go_ret
  exact ⟨rfl, below_drewN (below_alloc (Below.refl _ _) _) _⟩

set_option maxRecDepth 100000 in
set_option maxHeartbeats 400000 in
theorem fits_3 (w : World) (v : Value) (o : List Int) (hv : Ints w v o) (hl : o.length ≤ 1000000) :
    Calls Tryz.prog 114 #[.agg #[v], .int .i64 3] w fun e w' => e = .returned (.bool (fitB o 3)) ∧ Below w.heap.size w w' := by
  have HT := Lib.hid (top_any (w.alloc (.cells #[v] 160)) w.heap.size v o (by rw [whole_cell (whole_new w _ _) 0]; rfl) (ints_below hv (below_alloc (Below.refl _ _) _)) hl)
  obtain ⟨_, A, c, rfl, _⟩ := hv
  have E : Hid (fitB o 3 = decide (o.length < 8)) := Lib.hid rfl
  rw [E.out]
  clear E
  generalize topO o = t at *
  go_enter Tryz.func114, Tryz.ntmps114
  go_wp2_with fail
  refine HT.out.mono ?_
  rintro e w1 ⟨n, rfl, rfl⟩
  go_wp2
  go_ret
  exact ⟨ret_bool (by simp only [decide_eq_decide]; omega), below_drewN (below_alloc (Below.refl _ _) _) _⟩

set_option maxRecDepth 100000 in
set_option maxHeartbeats 400000 in
theorem fits_4 (w : World) (v : Value) (o : List Int) (hv : Ints w v o) (hl : o.length ≤ 1000000) :
    Calls Tryz.prog 114 #[.agg #[v], .int .i64 4] w fun e w' => e = .returned (.bool (fitB o 4)) ∧ Below w.heap.size w w' := by
  have HT := Lib.hid (top_any (w.alloc (.cells #[v] 160)) w.heap.size v o (by rw [whole_cell (whole_new w _ _) 0]; rfl) (ints_below hv (below_alloc (Below.refl _ _) _)) hl)
  obtain ⟨_, A, c, rfl, _⟩ := hv
  have E : Hid (fitB o 4 = (topO o == 3)) := Lib.hid rfl
  rw [E.out]
  clear E
  generalize topO o = t at *
  go_enter Tryz.func114, Tryz.ntmps114
  go_wp2_with fail
  refine HT.out.mono ?_
  rintro e w1 ⟨n, rfl, rfl⟩
  go_wp2
  go_ret
  exact ⟨rfl, below_drewN (below_alloc (Below.refl _ _) _) _⟩

set_option maxRecDepth 100000 in
set_option maxHeartbeats 400000 in
theorem fits_5 (w : World) (v : Value) (o : List Int) (hv : Ints w v o) (hl : o.length ≤ 1000000) :
    Calls Tryz.prog 114 #[.agg #[v], .int .i64 5] w fun e w' => e = .returned (.bool (fitB o 5)) ∧ Below w.heap.size w w' := by
  have HT := Lib.hid (top_any (w.alloc (.cells #[v] 160)) w.heap.size v o (by rw [whole_cell (whole_new w _ _) 0]; rfl) (ints_below hv (below_alloc (Below.refl _ _) _)) hl)
  obtain ⟨_, A, c, rfl, _⟩ := hv
  have E : Hid (fitB o 5 = (topO o == 3 || topO o == 4)) := Lib.hid rfl
  rw [E.out]
  clear E
  generalize topO o = t at *
  go_enter Tryz.func114, Tryz.ntmps114
  go_wp2_with fail
  refine HT.out.mono ?_
  rintro e w1 ⟨n, rfl, rfl⟩
  go_wp2
  all_goals
    go_ret
    exact ⟨ret_bool (by simp [*]), below_drewN (below_alloc (Below.refl _ _) _) _⟩

set_option maxRecDepth 100000 in
set_option maxHeartbeats 400000 in
theorem fits_6 (w : World) (v : Value) (o : List Int) (hv : Ints w v o) (hl : o.length ≤ 1000000) :
    Calls Tryz.prog 114 #[.agg #[v], .int .i64 6] w fun e w' => e = .returned (.bool (fitB o 6)) ∧ Below w.heap.size w w' := by
  have HT := Lib.hid (top_any (w.alloc (.cells #[v] 160)) w.heap.size v o (by rw [whole_cell (whole_new w _ _) 0]; rfl) (ints_below hv (below_alloc (Below.refl _ _) _)) hl)
  obtain ⟨_, A, c, rfl, _⟩ := hv
  have E : Hid (fitB o 6 = decide (o.length < 8)) := Lib.hid rfl
  rw [E.out]
  clear E
  generalize topO o = t at *
  go_enter Tryz.func114, Tryz.ntmps114
  go_wp2_with fail
  refine HT.out.mono ?_
  rintro e w1 ⟨n, rfl, rfl⟩
  go_wp2
  go_ret
  exact ⟨ret_bool (by simp only [decide_eq_decide]; omega), below_drewN (below_alloc (Below.refl _ _) _) _⟩

set_option maxRecDepth 100000 in
set_option maxHeartbeats 400000 in
theorem fits_7 (w : World) (v : Value) (o : List Int) (hv : Ints w v o) (hl : o.length ≤ 1000000) :
    Calls Tryz.prog 114 #[.agg #[v], .int .i64 7] w fun e w' => e = .returned (.bool (fitB o 7)) ∧ Below w.heap.size w w' := by
  have HT := Lib.hid (top_any (w.alloc (.cells #[v] 160)) w.heap.size v o (by rw [whole_cell (whole_new w _ _) 0]; rfl) (ints_below hv (below_alloc (Below.refl _ _) _)) hl)
  obtain ⟨_, A, c, rfl, _⟩ := hv
  have E : Hid (fitB o 7 = (topO o == 6)) := Lib.hid rfl
  rw [E.out]
  clear E
  generalize topO o = t at *
  go_enter Tryz.func114, Tryz.ntmps114
  go_wp2_with fail
  refine HT.out.mono ?_
  rintro e w1 ⟨n, rfl, rfl⟩
  go_wp2
  go_ret
  exact ⟨rfl, below_drewN (below_alloc (Below.refl _ _) _) _⟩

set_option maxRecDepth 100000 in
set_option maxHeartbeats 400000 in
theorem fits_8 (w : World) (v : Value) (o : List Int) (hv : Ints w v o) (hl : o.length ≤ 1000000) :
    Calls Tryz.prog 114 #[.agg #[v], .int .i64 8] w fun e w' => e = .returned (.bool (fitB o 8)) ∧ Below w.heap.size w w' := by
  have HT := Lib.hid (top_any (w.alloc (.cells #[v] 160)) w.heap.size v o (by rw [whole_cell (whole_new w _ _) 0]; rfl) (ints_below hv (below_alloc (Below.refl _ _) _)) hl)
  obtain ⟨_, A, c, rfl, _⟩ := hv
  have E : Hid (fitB o 8 = (topO o == 6)) := Lib.hid rfl
  rw [E.out]
  clear E
  generalize topO o = t at *
  go_enter Tryz.func114, Tryz.ntmps114
  go_wp2_with fail
  refine HT.out.mono ?_
  rintro e w1 ⟨n, rfl, rfl⟩
  go_wp2
  go_ret
  exact ⟨rfl, below_drewN (below_alloc (Below.refl _ _) _) _⟩

set_option maxRecDepth 100000 in
set_option maxHeartbeats 400000 in
theorem fits_9 (w : World) (v : Value) (o : List Int) (hv : Ints w v o) (hl : o.length ≤ 1000000) :
    Calls Tryz.prog 114 #[.agg #[v], .int .i64 9] w fun e w' => e = .returned (.bool (fitB o 9)) ∧ Below w.heap.size w w' := by
  have HT := Lib.hid (top_any (w.alloc (.cells #[v] 160)) w.heap.size v o (by rw [whole_cell (whole_new w _ _) 0]; rfl) (ints_below hv (below_alloc (Below.refl _ _) _)) hl)
  obtain ⟨_, A, c, rfl, _⟩ := hv
  have E : Hid (fitB o 9 = (topO o == 8)) := Lib.hid rfl
  rw [E.out]
  clear E
  generalize topO o = t at *
  go_enter Tryz.func114, Tryz.ntmps114
  go_wp2_with fail
  refine HT.out.mono ?_
  rintro e w1 ⟨n, rfl, rfl⟩
  go_wp2
  go_ret
  exact ⟨rfl, below_drewN (below_alloc (Below.refl _ _) _) _⟩

set_option maxRecDepth 100000 in
set_option maxHeartbeats 400000 in
theorem fits_10 (w : World) (v : Value) (o : List Int) (hv : Ints w v o) (hl : o.length ≤ 1000000) :
    Calls Tryz.prog 114 #[.agg #[v], .int .i64 10] w fun e w' => e = .returned (.bool (fitB o 10)) ∧ Below w.heap.size w w' := by
  have HT := Lib.hid (top_any (w.alloc (.cells #[v] 160)) w.heap.size v o (by rw [whole_cell (whole_new w _ _) 0]; rfl) (ints_below hv (below_alloc (Below.refl _ _) _)) hl)
  obtain ⟨_, A, c, rfl, _⟩ := hv
  have E : Hid (fitB o 10 = decide (o.length < 8)) := Lib.hid rfl
  rw [E.out]
  clear E
  generalize topO o = t at *
  go_enter Tryz.func114, Tryz.ntmps114
  go_wp2_with fail
  refine HT.out.mono ?_
  rintro e w1 ⟨n, rfl, rfl⟩
  go_wp2
  go_ret
  exact ⟨ret_bool (by simp only [decide_eq_decide]; omega), below_drewN (below_alloc (Below.refl _ _) _) _⟩

set_option maxRecDepth 100000 in
set_option maxHeartbeats 400000 in
theorem fits_11 (w : World) (v : Value) (o : List Int) (hv : Ints w v o) (hl : o.length ≤ 1000000) :
    Calls Tryz.prog 114 #[.agg #[v], .int .i64 11] w fun e w' => e = .returned (.bool (fitB o 11)) ∧ Below w.heap.size w w' := by
  have HT := Lib.hid (top_any (w.alloc (.cells #[v] 160)) w.heap.size v o (by rw [whole_cell (whole_new w _ _) 0]; rfl) (ints_below hv (below_alloc (Below.refl _ _) _)) hl)
  obtain ⟨_, A, c, rfl, _⟩ := hv
  have E : Hid (fitB o 11 = (topO o == 10)) := Lib.hid rfl
  rw [E.out]
  clear E
  generalize topO o = t at *
  go_enter Tryz.func114, Tryz.ntmps114
  go_wp2_with fail
  refine HT.out.mono ?_
  rintro e w1 ⟨n, rfl, rfl⟩
  go_wp2
  go_ret
  exact ⟨rfl, below_drewN (below_alloc (Below.refl _ _) _) _⟩

set_option maxRecDepth 100000 in
set_option maxHeartbeats 400000 in
theorem fits_12 (w : World) (v : Value) (o : List Int) (hv : Ints w v o) (hl : o.length ≤ 1000000) :
    Calls Tryz.prog 114 #[.agg #[v], .int .i64 12] w fun e w' => e = .returned (.bool (fitB o 12)) ∧ Below w.heap.size w w' := by
  have HT := Lib.hid (top_any (w.alloc (.cells #[v] 160)) w.heap.size v o (by rw [whole_cell (whole_new w _ _) 0]; rfl) (ints_below hv (below_alloc (Below.refl _ _) _)) hl)
  obtain ⟨_, A, c, rfl, _⟩ := hv
  have E : Hid (fitB o 12 = (topO o == 10)) := Lib.hid rfl
  rw [E.out]
  clear E
  generalize topO o = t at *
  go_enter Tryz.func114, Tryz.ntmps114
  go_wp2_with fail
  refine HT.out.mono ?_
  rintro e w1 ⟨n, rfl, rfl⟩
  go_wp2
  go_ret
  exact ⟨rfl, below_drewN (below_alloc (Below.refl _ _) _) _⟩

set_option maxRecDepth 100000 in
set_option maxHeartbeats 400000 in
theorem fits_13 (w : World) (v : Value) (o : List Int) (hv : Ints w v o) (hl : o.length ≤ 1000000) :
    Calls Tryz.prog 114 #[.agg #[v], .int .i64 13] w fun e w' => e = .returned (.bool (fitB o 13)) ∧ Below w.heap.size w w' := by
  have HT := Lib.hid (top_any (w.alloc (.cells #[v] 160)) w.heap.size v o (by rw [whole_cell (whole_new w _ _) 0]; rfl) (ints_below hv (below_alloc (Below.refl _ _) _)) hl)
  obtain ⟨_, A, c, rfl, _⟩ := hv
  have E : Hid (fitB o 13 = true) := Lib.hid rfl
  rw [E.out]
  clear E
  generalize topO o = t at *
  go_enter Tryz.func114, Tryz.ntmps114
  go_wp2_with fail
  refine HT.out.mono ?_
  rintro e w1 ⟨n, rfl, rfl⟩
  go_wp2
  go_ret
  exact ⟨rfl, below_drewN (below_alloc (Below.refl _ _) _) _⟩

theorem fits_any (w : World) (v : Value) (o : List Int) (k : Int) (hv : Ints w v o) (hl : o.length ≤ 1000000) (hk : 1 ≤ k ∧ k ≤ 13) :
    Calls Tryz.prog 114 #[.agg #[v], .int .i64 k] w fun e w' => e = .returned (.bool (fitB o k)) ∧ Below w.heap.size w w' := by
  rcases (by omega : k = 1 ∨ k = 2 ∨ k = 3 ∨ k = 4 ∨ k = 5 ∨ k = 6 ∨ k = 7 ∨ k = 8 ∨ k = 9 ∨ k = 10 ∨ k = 11 ∨ k = 12 ∨ k = 13) with rfl | rfl | rfl | rfl | rfl | rfl | rfl | rfl | rfl | rfl | rfl | rfl | rfl
  · exact fits_1 w v o hv hl
  · exact fits_2 w v o hv hl
  · exact fits_3 w v o hv hl
  · exact fits_4 w v o hv hl
  · exact fits_5 w v o hv hl
  · exact fits_6 w v o hv hl
  · exact fits_7 w v o hv hl
  · exact fits_8 w v o hv hl
  · exact fits_9 w v o hv hl
  · exact fits_10 w v o hv hl
  · exact fits_11 w v o hv hl
  · exact fits_12 w v o hv hl
  · exact fits_13 w v o hv hl

set_option maxRecDepth 100000 in
set_option maxHeartbeats 400000 in
theorem follow_1 (w : World) (lo G : Nat) (v : Value) (o : List Int) (h : MkAt w lo G v o) (hl : o.length ≤ 1000000) :
    Calls Tryz.prog 115 #[.pointer (some ⟨G, 0, none⟩), .int .i64 1] w (PushedOf w lo G (nextO o 1)) := by
  have E : Hid (nextO o 1 = o) := Lib.hid rfl
  rw [E.out]
  have H := Lib.hid h
  have hlo := mkAt_lo h
  clear h
  go_enter Tryz.func115, Tryz.ntmps115
  go_wp2
  go_end0
  exact ⟨rfl, ⟨v, H.out⟩, Below.refl _ _⟩

set_option maxRecDepth 100000 in
set_option maxHeartbeats 400000 in
theorem follow_2 (w : World) (lo G : Nat) (v : Value) (o : List Int) (h : MkAt w lo G v o) (hl : o.length ≤ 1000000) :
    Calls Tryz.prog 115 #[.pointer (some ⟨G, 0, none⟩), .int .i64 2] w (PushedOf w lo G (nextO o 2)) := by
  have E : Hid (nextO o 2 = o) := Lib.hid rfl
  rw [E.out]
  have H := Lib.hid h
  have hlo := mkAt_lo h
  clear h
  go_enter Tryz.func115, Tryz.ntmps115
  go_wp2
  go_end0
  exact ⟨rfl, ⟨v, H.out⟩, Below.refl _ _⟩

set_option maxRecDepth 100000 in
set_option maxHeartbeats 400000 in
theorem follow_3 (w : World) (lo G : Nat) (v : Value) (o : List Int) (h : MkAt w lo G v o) (hl : o.length ≤ 1000000) :
    Calls Tryz.prog 115 #[.pointer (some ⟨G, 0, none⟩), .int .i64 3] w (PushedOf w lo G (nextO o 3)) := by
  have E : Hid (nextO o 3 = o ++ [3]) := Lib.hid rfl
  rw [E.out]
  have H := Lib.hid h
  have hlo := mkAt_lo h
  clear h
  go_enter Tryz.func115, Tryz.ntmps115
  go_wp2_with fail
  refine (push_any w lo G v o 3 H.out hl).mono ?_
  rintro e w1 ⟨rfl, hm, hb⟩
  go_wp2
  go_end0
  exact ⟨rfl, hm, hb⟩

set_option maxRecDepth 100000 in
set_option maxHeartbeats 400000 in
theorem follow_4 (w : World) (lo G : Nat) (v : Value) (o : List Int) (h : MkAt w lo G v o) (hl : o.length ≤ 1000000) :
    Calls Tryz.prog 115 #[.pointer (some ⟨G, 0, none⟩), .int .i64 4] w (PushedOf w lo G (nextO o 4)) := by
  have E : Hid (nextO o 4 = o.dropLast ++ [4]) := Lib.hid rfl
  rw [E.out]
  have H := Lib.hid h
  have hlo := mkAt_lo h
  clear h
  go_enter Tryz.func115, Tryz.ntmps115
  go_wp2_with fail
  refine (pop_any w lo G v o H.out hl).mono ?_
  rintro e w1 ⟨rfl, ⟨v1, hm⟩, hb⟩
  have M := Lib.hid hm
  have B := Lib.hid hb
  clear hm hb
  go_wp2_with fail
  refine (push_any w1 lo G v1 o.dropLast 4 M.out (by rw [List.length_dropLast]; omega)).mono ?_
  rintro e w2 ⟨rfl, hm, hb⟩
  go_wp2
  go_end0
  exact ⟨rfl, hm, B.out.trans hb⟩

set_option maxRecDepth 100000 in
set_option maxHeartbeats 400000 in
theorem follow_5 (w : World) (lo G : Nat) (v : Value) (o : List Int) (h : MkAt w lo G v o) (hl : o.length ≤ 1000000) :
    Calls Tryz.prog 115 #[.pointer (some ⟨G, 0, none⟩), .int .i64 5] w (PushedOf w lo G (nextO o 5)) := by
  have E : Hid (nextO o 5 = o.dropLast) := Lib.hid rfl
  rw [E.out]
  have H := Lib.hid h
  have hlo := mkAt_lo h
  clear h
  go_enter Tryz.func115, Tryz.ntmps115
  go_wp2_with fail
  refine (pop_any w lo G v o H.out hl).mono ?_
  rintro e w1 ⟨rfl, hm, hb⟩
  go_wp2
  go_end0
  exact ⟨rfl, hm, hb⟩

set_option maxRecDepth 100000 in
set_option maxHeartbeats 400000 in
theorem follow_6 (w : World) (lo G : Nat) (v : Value) (o : List Int) (h : MkAt w lo G v o) (hl : o.length ≤ 1000000) :
    Calls Tryz.prog 115 #[.pointer (some ⟨G, 0, none⟩), .int .i64 6] w (PushedOf w lo G (nextO o 6)) := by
  have E : Hid (nextO o 6 = o ++ [6]) := Lib.hid rfl
  rw [E.out]
  have H := Lib.hid h
  have hlo := mkAt_lo h
  clear h
  go_enter Tryz.func115, Tryz.ntmps115
  go_wp2_with fail
  refine (push_any w lo G v o 6 H.out hl).mono ?_
  rintro e w1 ⟨rfl, hm, hb⟩
  go_wp2
  go_end0
  exact ⟨rfl, hm, hb⟩

set_option maxRecDepth 100000 in
set_option maxHeartbeats 400000 in
theorem follow_7 (w : World) (lo G : Nat) (v : Value) (o : List Int) (h : MkAt w lo G v o) (hl : o.length ≤ 1000000) :
    Calls Tryz.prog 115 #[.pointer (some ⟨G, 0, none⟩), .int .i64 7] w (PushedOf w lo G (nextO o 7)) := by
  have E : Hid (nextO o 7 = o.dropLast) := Lib.hid rfl
  rw [E.out]
  have H := Lib.hid h
  have hlo := mkAt_lo h
  clear h
  go_enter Tryz.func115, Tryz.ntmps115
  go_wp2_with fail
  refine (pop_any w lo G v o H.out hl).mono ?_
  rintro e w1 ⟨rfl, hm, hb⟩
  go_wp2
  go_end0
  exact ⟨rfl, hm, hb⟩

set_option maxRecDepth 100000 in
set_option maxHeartbeats 400000 in
theorem follow_8 (w : World) (lo G : Nat) (v : Value) (o : List Int) (h : MkAt w lo G v o) (hl : o.length ≤ 1000000) :
    Calls Tryz.prog 115 #[.pointer (some ⟨G, 0, none⟩), .int .i64 8] w (PushedOf w lo G (nextO o 8)) := by
  have E : Hid (nextO o 8 = o.dropLast ++ [8]) := Lib.hid rfl
  rw [E.out]
  have H := Lib.hid h
  have hlo := mkAt_lo h
  clear h
  go_enter Tryz.func115, Tryz.ntmps115
  go_wp2_with fail
  refine (pop_any w lo G v o H.out hl).mono ?_
  rintro e w1 ⟨rfl, ⟨v1, hm⟩, hb⟩
  have M := Lib.hid hm
  have B := Lib.hid hb
  clear hm hb
  go_wp2_with fail
  refine (push_any w1 lo G v1 o.dropLast 8 M.out (by rw [List.length_dropLast]; omega)).mono ?_
  rintro e w2 ⟨rfl, hm, hb⟩
  go_wp2
  go_end0
  exact ⟨rfl, hm, B.out.trans hb⟩

set_option maxRecDepth 100000 in
set_option maxHeartbeats 400000 in
theorem follow_9 (w : World) (lo G : Nat) (v : Value) (o : List Int) (h : MkAt w lo G v o) (hl : o.length ≤ 1000000) :
    Calls Tryz.prog 115 #[.pointer (some ⟨G, 0, none⟩), .int .i64 9] w (PushedOf w lo G (nextO o 9)) := by
  have E : Hid (nextO o 9 = o.dropLast) := Lib.hid rfl
  rw [E.out]
  have H := Lib.hid h
  have hlo := mkAt_lo h
  clear h
  go_enter Tryz.func115, Tryz.ntmps115
  go_wp2_with fail
  refine (pop_any w lo G v o H.out hl).mono ?_
  rintro e w1 ⟨rfl, hm, hb⟩
  go_wp2
  go_end0
  exact ⟨rfl, hm, hb⟩

set_option maxRecDepth 100000 in
set_option maxHeartbeats 400000 in
theorem follow_10 (w : World) (lo G : Nat) (v : Value) (o : List Int) (h : MkAt w lo G v o) (hl : o.length ≤ 1000000) :
    Calls Tryz.prog 115 #[.pointer (some ⟨G, 0, none⟩), .int .i64 10] w (PushedOf w lo G (nextO o 10)) := by
  have E : Hid (nextO o 10 = o ++ [10]) := Lib.hid rfl
  rw [E.out]
  have H := Lib.hid h
  have hlo := mkAt_lo h
  clear h
  go_enter Tryz.func115, Tryz.ntmps115
  go_wp2_with fail
  refine (push_any w lo G v o 10 H.out hl).mono ?_
  rintro e w1 ⟨rfl, hm, hb⟩
  go_wp2
  go_end0
  exact ⟨rfl, hm, hb⟩

set_option maxRecDepth 100000 in
set_option maxHeartbeats 400000 in
theorem follow_11 (w : World) (lo G : Nat) (v : Value) (o : List Int) (h : MkAt w lo G v o) (hl : o.length ≤ 1000000) :
    Calls Tryz.prog 115 #[.pointer (some ⟨G, 0, none⟩), .int .i64 11] w (PushedOf w lo G (nextO o 11)) := by
  have E : Hid (nextO o 11 = o.dropLast) := Lib.hid rfl
  rw [E.out]
  have H := Lib.hid h
  have hlo := mkAt_lo h
  clear h
  go_enter Tryz.func115, Tryz.ntmps115
  go_wp2_with fail
  refine (pop_any w lo G v o H.out hl).mono ?_
  rintro e w1 ⟨rfl, hm, hb⟩
  go_wp2
  go_end0
  exact ⟨rfl, hm, hb⟩

set_option maxRecDepth 100000 in
set_option maxHeartbeats 400000 in
theorem follow_12 (w : World) (lo G : Nat) (v : Value) (o : List Int) (h : MkAt w lo G v o) (hl : o.length ≤ 1000000) :
    Calls Tryz.prog 115 #[.pointer (some ⟨G, 0, none⟩), .int .i64 12] w (PushedOf w lo G (nextO o 12)) := by
  have E : Hid (nextO o 12 = o.dropLast) := Lib.hid rfl
  rw [E.out]
  have H := Lib.hid h
  have hlo := mkAt_lo h
  clear h
  go_enter Tryz.func115, Tryz.ntmps115
  go_wp2_with fail
  refine (pop_any w lo G v o H.out hl).mono ?_
  rintro e w1 ⟨rfl, hm, hb⟩
  go_wp2
  go_end0
  exact ⟨rfl, hm, hb⟩

set_option maxRecDepth 100000 in
set_option maxHeartbeats 400000 in
theorem follow_13 (w : World) (lo G : Nat) (v : Value) (o : List Int) (h : MkAt w lo G v o) (hl : o.length ≤ 1000000) :
    Calls Tryz.prog 115 #[.pointer (some ⟨G, 0, none⟩), .int .i64 13] w (PushedOf w lo G (nextO o 13)) := by
  have E : Hid (nextO o 13 = o) := Lib.hid rfl
  rw [E.out]
  have H := Lib.hid h
  have hlo := mkAt_lo h
  clear h
  go_enter Tryz.func115, Tryz.ntmps115
  go_wp2
  go_end0
  exact ⟨rfl, ⟨v, H.out⟩, Below.refl _ _⟩

theorem follow_any (w : World) (lo G : Nat) (v : Value) (o : List Int) (k : Int) (h : MkAt w lo G v o) (hl : o.length ≤ 1000000) (hk : 1 ≤ k ∧ k ≤ 13) :
    Calls Tryz.prog 115 #[.pointer (some ⟨G, 0, none⟩), .int .i64 k] w (PushedOf w lo G (nextO o k)) := by
  rcases (by omega : k = 1 ∨ k = 2 ∨ k = 3 ∨ k = 4 ∨ k = 5 ∨ k = 6 ∨ k = 7 ∨ k = 8 ∨ k = 9 ∨ k = 10 ∨ k = 11 ∨ k = 12 ∨ k = 13) with rfl | rfl | rfl | rfl | rfl | rfl | rfl | rfl | rfl | rfl | rfl | rfl | rfl
  · exact follow_1 w lo G v o h hl
  · exact follow_2 w lo G v o h hl
  · exact follow_3 w lo G v o h hl
  · exact follow_4 w lo G v o h hl
  · exact follow_5 w lo G v o h hl
  · exact follow_6 w lo G v o h hl
  · exact follow_7 w lo G v o h hl
  · exact follow_8 w lo G v o h hl
  · exact follow_9 w lo G v o h hl
  · exact follow_10 w lo G v o h hl
  · exact follow_11 w lo G v o h hl
  · exact follow_12 w lo G v o h hl
  · exact follow_13 w lo G v o h hl

end Go.Proofs.YtkcogfgjabemfaaGreatDoor

namespace Go.Proofs.YtkcogfgjabemfaaGreatDoor
open Go.RowKit
set_option linter.unusedVariables false
set_option linter.unusedSimpArgs false

/-- What openStructures leaves. -/
def OpenSOf (w : World) (p : Nat × List Int) (e : Ending) (w' : World) : Prop := ∃ v, e = .returned (.tuple #[v, .int .i64 (p.1 : Int)]) ∧ Row w' w.heap.size v p.2 ∧ Below w.heap.size w w'

theorem got_len {Q : List It} {k : Nat} {o : List Int} (h : Got Q k o) : o.length ≤ k := h.2.2

set_option maxRecDepth 100000 in
set_option maxHeartbeats 2000000 in
theorem openStructs_any (v : Value) (Q : List It) (w : World) (hv : Its w v Q) (hl : Q.length ≤ 60) (hq : ∀ x ∈ Q, itB x = true) :
    Calls Tryz.prog 100 #[v] w (OpenSOf w (goO Q [])) := by
  have HV := Lib.hid hv
  have HQ := Lib.hid hq
  obtain ⟨_, A, cap, rfl, _⟩ := hv
  clear hq
  have M0 : Hid (MkAt (w.alloc (.cells #[.slice none 0 0] 160)) w.heap.size w.heap.size (.slice none 0 0) []) := Lib.hid ⟨whole_new w _ _, row_nil _ _, Nat.le_refl _⟩
  have B0 : Hid (Below w.heap.size w (w.alloc (.cells #[.slice none 0 0] 160))) := Lib.hid (below_alloc (Below.refl _ _) _)
  go_enter Tryz.func100, Tryz.ntmps100
  go_wp2
  go_loopw [9] (fun i wr => ∃ (k : Nat) (o : List Int) (u : Value), k ≤ Q.length ∧ i = .int .i64 k ∧ Got Q k o ∧ MkAt wr w.heap.size w.heap.size u o ∧ Below w.heap.size w wr) (fun i _ => Q.length - (intOf i).toNat)
  case atStart => exact ⟨0, [], _, Nat.zero_le _, rfl, got_start Q, M0.out, B0.out⟩
  case round =>
    obtain ⟨k, o, u, hk, rfl, hg, hm, hb⟩ := hrel
    have HG := Lib.hid hg
    have HM := Lib.hid hm
    have HB := Lib.hid hb
    have ho : o.length ≤ 60 := by have := got_len hg; omega
    clear hg hb
    by_cases hlt : k < Q.length
    · obtain ⟨_, A', ca', e', hc⟩ := its_below HV.out HB.out
      simp only [Value.slice.injEq, true_and] at e'
      obtain ⟨rfl, rfl⟩ := e'
      obtain ⟨ga, rfl, ha⟩ := hc (by omega)
      obtain ⟨c0, c1⟩ := ha k hlt
      have hi := itB_kind (HQ.out Q[k] (List.getElem_mem hlt))
      have z0 := whole_lt hm.1
      have d0 := whole_cell hm.1 0
      have M1 := Lib.hid (mkAt_below hm (below_alloc (Below.refl _ _) (.cells #[.int .i64 Q[k].k, .int .i64 Q[k].v] 117)))
      have I1 := Lib.hid (row_ints M1.out.2.1)
      clear ha hc hm
      go_wp2_with fail
      refine (fits_any _ u o Q[k].k I1.out (by omega) hi).mono ?_
      rintro e w2 ⟨rfl, hb2⟩
      have B2 := Lib.hid (below_step (below_alloc HB.out _) hb2)
      have M2 := Lib.hid (mkAt_below M1.out hb2)
      have W2 := Lib.hid (whole_below (whole_new wr 117 #[.int .i64 Q[k].k, .int .i64 Q[k].v]) hb2)
      have y0 := whole_cell W2.out 0
      have z2 := whole_lt W2.out
      have e0 := whole_cell M2.out.1 0
      have z3 := whole_lt M2.out.1
      clear hb2 c0 c1 d0 z0
      by_cases hf : fitB o Q[k].k = true
      · have G2 := Lib.hid (got_fit HG.out hlt hf)
        rw [hf]
        clear hf e0
        go_wp2_with fail
        refine (follow_any _ _ _ u o Q[k].k M2.out (by omega) hi).mono ?_
        rintro e w3 ⟨rfl, ⟨u3, hm3⟩, hb3⟩
        have B3 := Lib.hid (B2.out.trans hb3)
        have M3 := Lib.hid hm3
        clear hm3 hb3 y0 z2 z3
        go_wp2
        go_roundw
        case rel => exact ⟨k + 1, _, u3, by omega, by go_num, G2.out, M3.out, B3.out⟩
        case measure => simp [intOf]; omega
      · have hf : fitB o Q[k].k = false := by simpa using hf
        have G2 := Lib.hid (got_not HG.out hlt hf)
        rw [hf]
        clear hf y0
        go_wp2
        go_ret2
        exact ⟨u, by rw [G2.out]; rfl, by rw [G2.out]; exact M2.out.2.1, B2.out⟩
    · obtain rfl : k = Q.length := by omega
      have G2 := Lib.hid (got_end HG.out)
      have e0 := whole_cell hm.1 0
      have z3 := whole_lt hm.1
      clear hlt hm
      go_wp2
      go_ret2
      exact ⟨u, by rw [G2.out]; rfl, by rw [G2.out]; exact HM.out.2.1, HB.out⟩

/-- Two numbers. -/
def TwoOf (w : World) (p : Int × Int) (e : Ending) (w' : World) : Prop := e = .returned (.tuple #[.int .i64 p.1, .int .i64 p.2]) ∧ Below w.heap.size w w'

set_option maxRecDepth 100000 in
set_option maxHeartbeats 1000000 in
theorem iCheck_any (v : Value) (Q : List It) (w : World) (hv : Its w v Q) :
    Calls Tryz.prog 81 #[v] w (TwoOf w (chkI Q)) := by
  have HV := Lib.hid hv
  obtain ⟨hl, A, cap, rfl, _⟩ := hv
  unfold maxLen at hl
  have E : Hid (chkI Q = if askI Q ≠ 0 then (0, askI Q) else if (goO Q []).1 < Q.length ∨ 0 < (goO Q []).2.length then (((goO Q []).1 : Int), 12) else (0, 0)) := Lib.hid rfl
  by_cases h0 : askI Q = 0
  · obtain ⟨h1, h2⟩ := askI_ok h0
    have HQ := Lib.hid h2
    have hg1 := goO_le Q []
    have hg2 := goO_len Q []
    have EE : Hid (chkI Q = if (goO Q []).1 < Q.length ∨ 0 < (goO Q []).2.length then (((goO Q []).1 : Int), 12) else (0, 0)) := Lib.hid (by rw [E.out, if_neg (by simpa using h0)])
    have H0 := Lib.hid h0
    obtain ⟨p, hp⟩ : ∃ p, goO Q [] = p := ⟨_, rfl⟩
    obtain ⟨n, o⟩ := p
    have HP := Lib.hid hp
    rw [hp] at EE hg1 hg2
    simp only [List.length_nil, Nat.zero_add] at EE hg1 hg2
    clear h2 E h0 hp
    by_cases hn : n < Q.length
    · have EF : Hid (chkI Q = ((n : Int), 12)) := Lib.hid (by rw [EE.out, if_pos (.inl hn)])
      have t1 : (n : Int) < (Q.length : Int) := by omega
      clear EE hn
      go_enter Tryz.func81, Tryz.ntmps81
      go_wp2_with fail
      refine (itemsCode_any _ Q _ HV.out).mono ?_
      rintro e w1 ⟨rfl, hb1⟩
      rw [H0.out]
      go_wp2_with fail
      refine (openStructs_any _ Q _ (its_below HV.out hb1) h1 HQ.out).mono ?_
      rintro e w2 ⟨u, rfl, hr, hb2⟩
      rw [HP.out] at hr ⊢
      obtain ⟨_, C, c, rfl, _⟩ := row_ints hr
      go_wp2
      go_ret2
      exact ⟨by rw [EF.out]; rfl, below_step hb1 hb2⟩
    · obtain rfl : n = Q.length := by omega
      by_cases hz : o.length = 0
      · obtain rfl : o = [] := List.eq_nil_of_length_eq_zero hz
        have EF : Hid (chkI Q = (0, 0)) := Lib.hid (by rw [EE.out, if_neg (by simp)])
        clear EE hn hz
        go_enter Tryz.func81, Tryz.ntmps81
        go_wp2_with fail
        refine (itemsCode_any _ Q _ HV.out).mono ?_
        rintro e w1 ⟨rfl, hb1⟩
        rw [H0.out]
        go_wp2_with fail
        refine (openStructs_any _ Q _ (its_below HV.out hb1) h1 HQ.out).mono ?_
        rintro e w2 ⟨u, rfl, hr, hb2⟩
        rw [HP.out] at hr ⊢
        obtain ⟨_, C, c, rfl, _⟩ := row_ints hr
        go_wp2
        go_ret2
        exact ⟨by rw [EF.out]; rfl, below_step hb1 hb2⟩
      · have EF : Hid (chkI Q = ((Q.length : Int), 12)) := Lib.hid (by rw [EE.out, if_pos (.inr (by omega))])
        have t1 : (0 : Int) < (o.length : Int) := by omega
        clear EE hn hz
        go_enter Tryz.func81, Tryz.ntmps81
        go_wp2_with fail
        refine (itemsCode_any _ Q _ HV.out).mono ?_
        rintro e w1 ⟨rfl, hb1⟩
        rw [H0.out]
        go_wp2_with fail
        refine (openStructs_any _ Q _ (its_below HV.out hb1) h1 HQ.out).mono ?_
        rintro e w2 ⟨u, rfl, hr, hb2⟩
        rw [HP.out] at hr ⊢
        obtain ⟨_, C, c, rfl, _⟩ := row_ints hr
        go_wp2
        go_ret2
        exact ⟨by rw [EF.out]; rfl, below_step hb1 hb2⟩
  · have EF : Hid (chkI Q = (0, askI Q)) := Lib.hid (by rw [E.out, if_pos h0])
    have t0 : (askI Q != 0) = true := by simpa using h0
    clear h0 E
    go_enter Tryz.func81, Tryz.ntmps81
    go_wp2_with fail
    refine (itemsCode_any _ Q _ HV.out).mono ?_
    rintro e w1 ⟨rfl, hb1⟩
    go_wp2
    go_ret2
    exact ⟨by rw [EF.out]; rfl, hb1⟩

theorem its_upto {w : World} {A : Option Addr} {n c p : Nat} {Q : List It} (h : Its w (.slice A n c) Q) (hp : p ≤ Q.length) : Its w (.slice A p c) (Q.take p) := by
  obtain ⟨h1, A', c', e, hc⟩ := h
  simp only [Value.slice.injEq] at e
  obtain ⟨rfl, rfl, rfl⟩ := e
  have hl : (Q.take p).length = p := by rw [List.length_take]; omega
  refine ⟨by omega, A, c, by rw [hl], fun hq => ?_⟩
  obtain ⟨ad, ha, hc⟩ := hc (by omega)
  exact ⟨ad, ha, fun k hk => by rw [List.getElem_take]; exact hc k (by omega)⟩

end Go.Proofs.YtkcogfgjabemfaaGreatDoor

namespace Go.Proofs.YtkcogfgjabemfaaGreatDoor
open Go.RowKit
set_option linter.unusedVariables false
set_option linter.unusedSimpArgs false

set_option maxRecDepth 100000 in
set_option maxHeartbeats 1000000 in
theorem sItemOK_any (x : It) (w : World) :
    Calls Tryz.prog 90 #[.agg #[.int .i64 x.k, .int .i64 x.v]] w fun e w' => e = .returned (.bool (itB x)) ∧ Below w.heap.size w w' := by
  obtain ⟨k, v⟩ := x
  by_cases h1 : k = 1
  · subst h1
    go_enter Tryz.func90, Tryz.ntmps90
    go_wp2_with fail
    refine (sIn_any _ _ _ _).mono ?_
    rintro e w' ⟨rfl, rfl⟩
    go_wp2
    go_ret
    exact ⟨rfl, below_alloc (Below.refl _ _) _⟩
  by_cases h2 : k = 2
  · subst h2
    go_enter Tryz.func90, Tryz.ntmps90
    go_wp2_with fail
    refine (sCell_any _ _).mono ?_
    rintro e w' ⟨rfl, rfl⟩
    go_wp2
    go_ret
    exact ⟨rfl, below_alloc (Below.refl _ _) _⟩
  have t1 : (k == 1) = false := by simpa using h1
  have t2 : (k == 2) = false := by simpa using h2
  have E : itB ⟨k, v⟩ = (inB k 3 13 && decide (v = 0)) := by unfold itB inB; simp [h1, h2]
  rw [E]
  clear E h1 h2
  obtain ⟨q, hq⟩ : ∃ q, inB k 3 13 = q := ⟨_, rfl⟩
  have HQ := Lib.hid hq
  rw [hq]
  clear hq
  cases q with
  | true =>
    by_cases h5 : v = 0
    · subst h5
      go_enter Tryz.func90, Tryz.ntmps90
      go_wp2_with (refine (sIn_any _ _ _ _).mono ?_; rintro e w' ⟨rfl, rfl⟩; rw [HQ.out])
      go_ret
      exact ⟨rfl, below_alloc (Below.refl _ _) _⟩
    · have t5 : (v == 0) = false := by simpa using h5
      go_enter Tryz.func90, Tryz.ntmps90
      go_wp2_with (refine (sIn_any _ _ _ _).mono ?_; rintro e w' ⟨rfl, rfl⟩; rw [HQ.out])
      go_ret
      exact ⟨ret_bool (by simp [h5]), below_alloc (Below.refl _ _) _⟩
  | false =>
    go_enter Tryz.func90, Tryz.ntmps90
    go_wp2_with (refine (sIn_any _ _ _ _).mono ?_; rintro e w' ⟨rfl, rfl⟩; rw [HQ.out])
    go_ret
    exact ⟨rfl, below_alloc (Below.refl _ _) _⟩

set_option maxRecDepth 100000 in
set_option maxHeartbeats 1000000 in
theorem sAsk_any (v : Value) (Q : List It) (w : World) (hv : Its w v Q) :
    Calls Tryz.prog 68 #[v] w fun e w' => e = .returned (.int .i64 (askI Q)) ∧ Below w.heap.size w w' := by
  have HV := Lib.hid hv
  obtain ⟨hl, A, cap, rfl, _⟩ := hv
  unfold maxLen at hl
  by_cases h1 : 4096 < Q.length
  · have E : Hid (askI Q = 2) := Lib.hid (by unfold askI; rw [if_pos h1])
    have t1 : (4096 : Int) < (Q.length : Int) := by omega
    clear h1
    go_enter Tryz.func68, Tryz.ntmps68
    go_wp2
    go_ret
    exact ⟨ret_int E.out.symm, Below.refl _ _⟩
  have t1 : ¬ (4096 : Int) < (Q.length : Int) := by omega
  by_cases h2 : 60 < Q.length
  · have E : Hid (askI Q = 6) := Lib.hid (by unfold askI; rw [if_neg h1, if_pos h2])
    have t2 : (60 : Int) < (Q.length : Int) := by omega
    clear h1 h2
    go_enter Tryz.func68, Tryz.ntmps68
    go_wp2
    go_ret
    exact ⟨ret_int E.out.symm, Below.refl _ _⟩
  have t2 : ¬ (60 : Int) < (Q.length : Int) := by omega
  have E : Hid (askI Q = if Q.all itB = true then 0 else 1) := Lib.hid (by unfold askI; rw [if_neg h1, if_neg h2])
  have hl2 : Q.length ≤ 60 := by omega
  clear h1 h2
  go_enter Tryz.func68, Tryz.ntmps68
  go_wp2
  go_loopw [3] (fun i wr => ∃ k : Nat, k ≤ Q.length ∧ i = .int .i64 k ∧ (∀ j (h : j < Q.length), j < k → itB Q[j] = true) ∧ Below w.heap.size w wr) (fun i _ => Q.length - (intOf i).toNat)
  case atStart => exact ⟨0, Nat.zero_le _, rfl, fun j _ hj => by omega, Below.refl _ _⟩
  case round =>
    obtain ⟨k, hk, rfl, ha, hb⟩ := hrel
    have HA := Lib.hid ha
    have HB := Lib.hid hb
    clear ha hb
    by_cases hlt : k < Q.length
    · obtain ⟨_, A', ca', e', hc⟩ := its_below HV.out HB.out
      simp only [Value.slice.injEq, true_and] at e'
      obtain ⟨rfl, rfl⟩ := e'
      obtain ⟨ga, rfl, ha⟩ := hc (by omega)
      obtain ⟨c0, c1⟩ := ha k hlt
      clear ha hc
      go_wp2_with fail
      refine (sItemOK_any Q[k] _).mono ?_
      rintro e w2 ⟨rfl, hb2⟩
      have B2 := Lib.hid (below_step HB.out hb2)
      clear hb2 c0 c1
      by_cases hi : itB Q[k] = true
      · have HI := Lib.hid hi
        rw [hi]
        clear hi
        go_wp2
        go_roundw
        case rel => exact ⟨k + 1, by omega, by go_num, fun j h hj => by
          rcases Nat.lt_succ_iff_lt_or_eq.1 hj with q | rfl
          · exact HA.out j h q
          · exact HI.out, B2.out⟩
        case measure => simp [intOf]; omega
      · have hi : itB Q[k] = false := by simpa using hi
        have EE : Hid (askI Q = 1) := Lib.hid (by
          rw [E.out, if_neg]
          intro h
          have := List.all_eq_true.1 h Q[k] (List.getElem_mem hlt)
          rw [hi] at this; cases this)
        rw [hi]
        clear hi
        go_wp2
        go_ret
        exact ⟨ret_int EE.out.symm, B2.out⟩
    · obtain rfl : k = Q.length := by omega
      have EE : Hid (askI Q = 0) := Lib.hid (by
        rw [E.out, if_pos]
        exact List.all_eq_true.2 fun x hx => by
          obtain ⟨j, hj, rfl⟩ := List.getElem_of_mem hx
          exact HA.out j hj hj)
      clear hlt
      go_wp2
      go_ret
      exact ⟨ret_int EE.out.symm, HB.out⟩

theorem ints_top {w : World} {v : Value} {o : List Int} {m : Nat} (h : Ints w v o) (hm : o.length = m + 1) : ∃ ad c, v = .slice (some ad) (m + 1) c ∧ w.cell? (ad.add m) = some (.int .i64 (topO o)) := by
  obtain ⟨_, A, c, rfl, hr⟩ := h
  obtain ⟨ad, rfl, hq⟩ := hr (by omega)
  have hx := hq (o.length - 1) (by omega)
  rw [← topO_get (by omega), show o.length - 1 = m by omega] at hx
  exact ⟨ad, c, by rw [hm], hx⟩

theorem row_room {w : World} {lo n k : Nat} {A : Option Addr} {zs : List Int} (h : Row w lo (.slice A n k) zs) : n ≤ k := by
  rcases h.2 with ⟨hv, h0⟩ | ⟨g', cap', cur, hv, hb', hg, h1, h2, h3, h4⟩
  · simp only [Value.slice.injEq] at hv
    omega
  · simp only [Value.slice.injEq] at hv
    obtain ⟨_, rfl, rfl⟩ := hv
    omega

theorem drop_of {o : List Int} {m : Nat} (hm : o.length = m + 1) : o.dropLast = o.take m := by
  rw [List.dropLast_eq_take]; congr 1; omega

/-- What l07Step leaves. -/
def StepOf (w : World) (lo : Nat) (o : List Int) (k : Int) (e : Ending) (w' : World) : Prop := ∃ u, e = .returned (.tuple #[u, .bool (fitB o k)]) ∧ Row w' lo u (nextO o k) ∧ Below w.heap.size w w'

theorem ret_vb {v : Value} {c d : Bool} (h : c = d) : Ending.returned (.tuple #[v, .bool c]) = .returned (.tuple #[v, .bool d]) := by rw [h]

/-- 'append([]int{}, xs...)', the length of xs written otherwise. -/
theorem wpList_append_newL {W0 : World} {ops : Array Oper} {rest : List Oper} {o : Oper} {a : Act} {Q : Exit → Act → World → Prop} (hgd : o.guard = none) (s x : Operand)
    (ho : o.op = .call { callee := .builtin .append, args := #[s, x], argTypes := #[23, 23] }) (hty : o.type = 23)
    (g : Nat) (hs : a.eval s = .slice (some ⟨g, 0, none⟩) 0 0) (hgs : g = W0.heap.size) (u : Value) (zs : List Int) (hx : a.eval x = u) (hz : Ints W0 u zs) (n : Nat) (hn : zs.length = n) (hl : n ≤ 1099511627776)
    (h : ∀ B m w', Row w' W0.heap.size (.slice B n m) zs → Below W0.heap.size W0 w' → wpList Tryz.prog ops Q rest (a.put o.dst (.slice B n m)) w') :
    wpList Tryz.prog ops Q (o :: rest) a (W0.alloc (.cells #[] 3)) := by
  subst hn
  exact wpList_append_new hgd s x ho hty g hs hgs u zs hx hz hl h

set_option maxRecDepth 100000 in
set_option maxHeartbeats 400000 in
theorem step_1_0 (w : World) (lo : Nat) (v : Value) (o : List Int) (hr : Row w lo v o) (hl : o.length ≤ 1000000) (hlo : lo ≤ w.heap.size) (h0 : o = []) :
    Calls Tryz.prog 91 #[v, .int .i64 1] w (StepOf w lo o 1) := by
  have HR := Lib.hid hr
  have HI := Lib.hid (row_ints hr)
  have EF : Hid (fitB o 1 = true) := Lib.hid rfl
  have EN : Hid (nextO o 1 = o) := Lib.hid rfl
  subst h0
  obtain ⟨_, A, c, rfl, _⟩ := row_ints hr
  have HC : Hid (Row w lo (.slice A 0 c) ([] : List Int)) := Lib.hid hr
  have HD : Hid (([] : List Int).dropLast = []) := Lib.hid rfl
  have z1 : IntKind.i64.wrap (((0 : Nat) : Int) - 1) = -1 := by decide
  clear hr hl
  simp only [List.length_nil] at *
  go_enter Tryz.func91, Tryz.ntmps91
  go_wp2
  go_ret2
  exact ⟨_, by rw [EF.out]; rfl, by rw [EN.out]; exact HR.out, Below.refl _ _⟩

set_option maxRecDepth 100000 in
set_option maxHeartbeats 400000 in
theorem step_1_1 (w : World) (lo : Nat) (v : Value) (o : List Int) (hr : Row w lo v o) (hl : o.length ≤ 1000000) (hlo : lo ≤ w.heap.size) (hm : o.length = 0 + 1) :
    Calls Tryz.prog 91 #[v, .int .i64 1] w (StepOf w lo o 1) := by
  have HR := Lib.hid hr
  have HI := Lib.hid (row_ints hr)
  have EF : Hid (fitB o 1 = true) := Lib.hid rfl
  have EN : Hid (nextO o 1 = o) := Lib.hid rfl
  obtain ⟨ad, c, rfl, hx⟩ := ints_top (row_ints hr) hm
  have HC : Hid (Row w lo (.slice (some ad) 0 c) (o.take 0)) := Lib.hid (row_cut hr (by omega))
  have HD : Hid (o.dropLast = o.take 0) := Lib.hid (drop_of hm)
  have hcap := row_room hr
  rw [Addr.add_zero'] at hx
  have z1 : IntKind.i64.wrap (((0 + 1 : Nat) : Int) - 1) = 0 := by decide
  have HL := Lib.hid hm
  have TL : Hid ((o.take 0).length = 0) := Lib.hid (by rw [List.length_take]; omega)
  generalize topO o = t at *
  clear hr hl hm
  go_enter Tryz.func91, Tryz.ntmps91
  go_wp2
  go_ret2
  exact ⟨_, by rw [EF.out]; rfl, by rw [EN.out]; exact HR.out, Below.refl _ _⟩

set_option maxRecDepth 100000 in
set_option maxHeartbeats 400000 in
theorem step_1_2 (w : World) (lo : Nat) (v : Value) (o : List Int) (hr : Row w lo v o) (hl : o.length ≤ 1000000) (hlo : lo ≤ w.heap.size) (m : Nat) (hm : o.length = m + 1) (hp : 0 < m) :
    Calls Tryz.prog 91 #[v, .int .i64 1] w (StepOf w lo o 1) := by
  have HR := Lib.hid hr
  have HI := Lib.hid (row_ints hr)
  have EF : Hid (fitB o 1 = true) := Lib.hid rfl
  have EN : Hid (nextO o 1 = o) := Lib.hid rfl
  obtain ⟨ad, c, rfl, hx⟩ := ints_top (row_ints hr) hm
  have HC : Hid (Row w lo (.slice (some ad) m c) (o.take m)) := Lib.hid (row_cut hr (by omega))
  have HD : Hid (o.dropLast = o.take m) := Lib.hid (drop_of hm)
  have hcap := row_room hr
  have hm2 : m ≤ 1000000 := by omega
  have z1 : IntKind.i64.wrap (((m + 1 : Nat) : Int) - 1) = (m : Int) := by rw [show ((m + 1 : Nat) : Int) - 1 = m by omega]; exact IntWalk.i64_in _ (by omega)
  have z2 : (0 : Int) < (m : Int) := by omega
  have z3 : (m : Int) < ((m + 1 : Nat) : Int) := by omega
  have z4 : (0 : Int) < ((m + 1 : Nat) : Int) := by omega
  have HL := Lib.hid hm
  have TL : Hid ((o.take m).length = m) := Lib.hid (by rw [List.length_take]; omega)
  generalize topO o = t at *
  clear hr hl hm
  go_enter Tryz.func91, Tryz.ntmps91
  go_wp2
  go_ret2
  exact ⟨_, by rw [EF.out]; rfl, by rw [EN.out]; exact HR.out, Below.refl _ _⟩

set_option maxRecDepth 100000 in
set_option maxHeartbeats 400000 in
theorem step_2_0 (w : World) (lo : Nat) (v : Value) (o : List Int) (hr : Row w lo v o) (hl : o.length ≤ 1000000) (hlo : lo ≤ w.heap.size) (h0 : o = []) :
    Calls Tryz.prog 91 #[v, .int .i64 2] w (StepOf w lo o 2) := by
  have HR := Lib.hid hr
  have HI := Lib.hid (row_ints hr)
  have EF : Hid (fitB o 2 = true) := Lib.hid rfl
  have EN : Hid (nextO o 2 = o) := Lib.hid rfl
  subst h0
  obtain ⟨_, A, c, rfl, _⟩ := row_ints hr
  have HC : Hid (Row w lo (.slice A 0 c) ([] : List Int)) := Lib.hid hr
  have HD : Hid (([] : List Int).dropLast = []) := Lib.hid rfl
  have z1 : IntKind.i64.wrap (((0 : Nat) : Int) - 1) = -1 := by decide
  clear hr hl
  simp only [List.length_nil] at *
  go_enter Tryz.func91, Tryz.ntmps91
  go_wp2
  go_ret2
  exact ⟨_, by rw [EF.out]; rfl, by rw [EN.out]; exact HR.out, Below.refl _ _⟩

set_option maxRecDepth 100000 in
set_option maxHeartbeats 400000 in
theorem step_2_1 (w : World) (lo : Nat) (v : Value) (o : List Int) (hr : Row w lo v o) (hl : o.length ≤ 1000000) (hlo : lo ≤ w.heap.size) (hm : o.length = 0 + 1) :
    Calls Tryz.prog 91 #[v, .int .i64 2] w (StepOf w lo o 2) := by
  have HR := Lib.hid hr
  have HI := Lib.hid (row_ints hr)
  have EF : Hid (fitB o 2 = true) := Lib.hid rfl
  have EN : Hid (nextO o 2 = o) := Lib.hid rfl
  obtain ⟨ad, c, rfl, hx⟩ := ints_top (row_ints hr) hm
  have HC : Hid (Row w lo (.slice (some ad) 0 c) (o.take 0)) := Lib.hid (row_cut hr (by omega))
  have HD : Hid (o.dropLast = o.take 0) := Lib.hid (drop_of hm)
  have hcap := row_room hr
  rw [Addr.add_zero'] at hx
  have z1 : IntKind.i64.wrap (((0 + 1 : Nat) : Int) - 1) = 0 := by decide
  have HL := Lib.hid hm
  have TL : Hid ((o.take 0).length = 0) := Lib.hid (by rw [List.length_take]; omega)
  generalize topO o = t at *
  clear hr hl hm
  go_enter Tryz.func91, Tryz.ntmps91
  go_wp2
  go_ret2
  exact ⟨_, by rw [EF.out]; rfl, by rw [EN.out]; exact HR.out, Below.refl _ _⟩

set_option maxRecDepth 100000 in
set_option maxHeartbeats 400000 in
theorem step_2_2 (w : World) (lo : Nat) (v : Value) (o : List Int) (hr : Row w lo v o) (hl : o.length ≤ 1000000) (hlo : lo ≤ w.heap.size) (m : Nat) (hm : o.length = m + 1) (hp : 0 < m) :
    Calls Tryz.prog 91 #[v, .int .i64 2] w (StepOf w lo o 2) := by
  have HR := Lib.hid hr
  have HI := Lib.hid (row_ints hr)
  have EF : Hid (fitB o 2 = true) := Lib.hid rfl
  have EN : Hid (nextO o 2 = o) := Lib.hid rfl
  obtain ⟨ad, c, rfl, hx⟩ := ints_top (row_ints hr) hm
  have HC : Hid (Row w lo (.slice (some ad) m c) (o.take m)) := Lib.hid (row_cut hr (by omega))
  have HD : Hid (o.dropLast = o.take m) := Lib.hid (drop_of hm)
  have hcap := row_room hr
  have hm2 : m ≤ 1000000 := by omega
  have z1 : IntKind.i64.wrap (((m + 1 : Nat) : Int) - 1) = (m : Int) := by rw [show ((m + 1 : Nat) : Int) - 1 = m by omega]; exact IntWalk.i64_in _ (by omega)
  have z2 : (0 : Int) < (m : Int) := by omega
  have z3 : (m : Int) < ((m + 1 : Nat) : Int) := by omega
  have z4 : (0 : Int) < ((m + 1 : Nat) : Int) := by omega
  have HL := Lib.hid hm
  have TL : Hid ((o.take m).length = m) := Lib.hid (by rw [List.length_take]; omega)
  generalize topO o = t at *
  clear hr hl hm
  go_enter Tryz.func91, Tryz.ntmps91
  go_wp2
  go_ret2
  exact ⟨_, by rw [EF.out]; rfl, by rw [EN.out]; exact HR.out, Below.refl _ _⟩

set_option maxRecDepth 100000 in
set_option maxHeartbeats 400000 in
theorem step_3_0 (w : World) (lo : Nat) (v : Value) (o : List Int) (hr : Row w lo v o) (hl : o.length ≤ 1000000) (hlo : lo ≤ w.heap.size) (h0 : o = []) :
    Calls Tryz.prog 91 #[v, .int .i64 3] w (StepOf w lo o 3) := by
  have HR := Lib.hid hr
  have HI := Lib.hid (row_ints hr)
  have EF : Hid (fitB o 3 = decide (o.length < 8)) := Lib.hid rfl
  have EN : Hid (nextO o 3 = o ++ [3]) := Lib.hid rfl
  subst h0
  obtain ⟨_, A, c, rfl, _⟩ := row_ints hr
  have HC : Hid (Row w lo (.slice A 0 c) ([] : List Int)) := Lib.hid hr
  have HD : Hid (([] : List Int).dropLast = []) := Lib.hid rfl
  have z1 : IntKind.i64.wrap (((0 : Nat) : Int) - 1) = -1 := by decide
  clear hr hl
  simp only [List.length_nil] at *
  go_enter Tryz.func91, Tryz.ntmps91
  go_wp2_with (first
    | (at_builtin; refine wpList_append_newL rfl (.tmp 22) (.tmp 23) rfl rfl _ rfl (by simp) (.slice A 0 c) [] rfl (row_ints HR.out) 0 (by exact rfl) (by omega) ?_
       intro B1 m1 w1 hr1 hb1
       have R1 := Lib.hid hr1
       have S1 := Lib.hid hb1
       have zz : w.heap.size ≤ w1.heap.size := hb1.size
       clear hr1 hb1)
    | (at_builtin; refine wpList_append_ints rfl (.tmp 24) (.tmp 26) rfl rfl w.heap.size (.slice B1 0 m1) [] (row_alloc R1.out _) _ [3] (ints_one _ _) rfl rfl (by have := (show ([] : List Int).length = 0 from rfl); simp <;> omega) (by simp <;> omega) ?_
       intro v2 w2 hr2 hg2 _
       have S2 : Hid (Below w.heap.size w w2) := Lib.hid ((below_alloc S1.out _).grown hg2 (by simp <;> omega) (fun k hk => (row_lt R1.out k hk).1))
       obtain ⟨_, C, j, hv, _⟩ := row_ints hr2
       rw [show (([] : List Int) ++ [(3 : Int)]).length = 0 + 1 by rw [List.length_append, List.length_nil, List.length_singleton]] at hv
       subst hv
       have R2 := Lib.hid hr2
       clear hr2 hg2))
  go_ret2
  exact ⟨_, by rw [EF.out]; rfl, by rw [EN.out]; exact row_base R2.out hlo, S2.out⟩

set_option maxRecDepth 100000 in
set_option maxHeartbeats 400000 in
theorem step_3_1 (w : World) (lo : Nat) (v : Value) (o : List Int) (hr : Row w lo v o) (hl : o.length ≤ 1000000) (hlo : lo ≤ w.heap.size) (hm : o.length = 0 + 1) :
    Calls Tryz.prog 91 #[v, .int .i64 3] w (StepOf w lo o 3) := by
  have HR := Lib.hid hr
  have HI := Lib.hid (row_ints hr)
  have EF : Hid (fitB o 3 = decide (o.length < 8)) := Lib.hid rfl
  have EN : Hid (nextO o 3 = o ++ [3]) := Lib.hid rfl
  obtain ⟨ad, c, rfl, hx⟩ := ints_top (row_ints hr) hm
  have HC : Hid (Row w lo (.slice (some ad) 0 c) (o.take 0)) := Lib.hid (row_cut hr (by omega))
  have HD : Hid (o.dropLast = o.take 0) := Lib.hid (drop_of hm)
  have hcap := row_room hr
  rw [Addr.add_zero'] at hx
  have z1 : IntKind.i64.wrap (((0 + 1 : Nat) : Int) - 1) = 0 := by decide
  have ED : Hid (decide (o.length < 8) = decide (((0 + 1 : Nat) : Int) < 8)) := Lib.hid (by simp only [decide_eq_decide]; omega)
  have HL := Lib.hid hm
  have TL : Hid ((o.take 0).length = 0) := Lib.hid (by rw [List.length_take]; omega)
  generalize topO o = t at *
  clear hr hl hm
  go_enter Tryz.func91, Tryz.ntmps91
  go_wp2_with (first
    | (at_builtin; refine wpList_append_newL rfl (.tmp 22) (.tmp 23) rfl rfl _ rfl (by simp) (.slice (some ad) (0 + 1) c) o rfl (row_ints HR.out) (0 + 1) (by exact HL.out) (by omega) ?_
       intro B1 m1 w1 hr1 hb1
       have R1 := Lib.hid hr1
       have S1 := Lib.hid hb1
       have zz : w.heap.size ≤ w1.heap.size := hb1.size
       clear hr1 hb1)
    | (at_builtin; refine wpList_append_ints rfl (.tmp 24) (.tmp 26) rfl rfl w.heap.size (.slice B1 (0 + 1) m1) o (row_alloc R1.out _) _ [3] (ints_one _ _) rfl rfl (by have := HL.out; simp <;> omega) (by simp <;> omega) ?_
       intro v2 w2 hr2 hg2 _
       have S2 : Hid (Below w.heap.size w w2) := Lib.hid ((below_alloc S1.out _).grown hg2 (by simp <;> omega) (fun k hk => (row_lt R1.out k hk).1))
       obtain ⟨_, C, j, hv, _⟩ := row_ints hr2
       rw [show ((o : List Int) ++ [(3 : Int)]).length = (0 + 1) + 1 by rw [List.length_append, HL.out, List.length_singleton]] at hv
       subst hv
       have R2 := Lib.hid hr2
       clear hr2 hg2))
  go_ret2
  exact ⟨_, by rw [EF.out, ED.out]; rfl, by rw [EN.out]; exact row_base R2.out hlo, S2.out⟩

set_option maxRecDepth 100000 in
set_option maxHeartbeats 400000 in
theorem step_3_2 (w : World) (lo : Nat) (v : Value) (o : List Int) (hr : Row w lo v o) (hl : o.length ≤ 1000000) (hlo : lo ≤ w.heap.size) (m : Nat) (hm : o.length = m + 1) (hp : 0 < m) :
    Calls Tryz.prog 91 #[v, .int .i64 3] w (StepOf w lo o 3) := by
  have HR := Lib.hid hr
  have HI := Lib.hid (row_ints hr)
  have EF : Hid (fitB o 3 = decide (o.length < 8)) := Lib.hid rfl
  have EN : Hid (nextO o 3 = o ++ [3]) := Lib.hid rfl
  obtain ⟨ad, c, rfl, hx⟩ := ints_top (row_ints hr) hm
  have HC : Hid (Row w lo (.slice (some ad) m c) (o.take m)) := Lib.hid (row_cut hr (by omega))
  have HD : Hid (o.dropLast = o.take m) := Lib.hid (drop_of hm)
  have hcap := row_room hr
  have hm2 : m ≤ 1000000 := by omega
  have z1 : IntKind.i64.wrap (((m + 1 : Nat) : Int) - 1) = (m : Int) := by rw [show ((m + 1 : Nat) : Int) - 1 = m by omega]; exact IntWalk.i64_in _ (by omega)
  have z2 : (0 : Int) < (m : Int) := by omega
  have z3 : (m : Int) < ((m + 1 : Nat) : Int) := by omega
  have z4 : (0 : Int) < ((m + 1 : Nat) : Int) := by omega
  have ED : Hid (decide (o.length < 8) = decide (((m + 1 : Nat) : Int) < 8)) := Lib.hid (by simp only [decide_eq_decide]; omega)
  have HL := Lib.hid hm
  have TL : Hid ((o.take m).length = m) := Lib.hid (by rw [List.length_take]; omega)
  generalize topO o = t at *
  clear hr hl hm
  go_enter Tryz.func91, Tryz.ntmps91
  go_wp2_with (first
    | (at_builtin; refine wpList_append_newL rfl (.tmp 22) (.tmp 23) rfl rfl _ rfl (by simp) (.slice (some ad) (m + 1) c) o rfl (row_ints HR.out) (m + 1) (by exact HL.out) (by omega) ?_
       intro B1 m1 w1 hr1 hb1
       have R1 := Lib.hid hr1
       have S1 := Lib.hid hb1
       have zz : w.heap.size ≤ w1.heap.size := hb1.size
       clear hr1 hb1)
    | (at_builtin; refine wpList_append_ints rfl (.tmp 24) (.tmp 26) rfl rfl w.heap.size (.slice B1 (m + 1) m1) o (row_alloc R1.out _) _ [3] (ints_one _ _) rfl rfl (by have := HL.out; simp <;> omega) (by simp <;> omega) ?_
       intro v2 w2 hr2 hg2 _
       have S2 : Hid (Below w.heap.size w w2) := Lib.hid ((below_alloc S1.out _).grown hg2 (by simp <;> omega) (fun k hk => (row_lt R1.out k hk).1))
       obtain ⟨_, C, j, hv, _⟩ := row_ints hr2
       rw [show ((o : List Int) ++ [(3 : Int)]).length = (m + 1) + 1 by rw [List.length_append, HL.out, List.length_singleton]] at hv
       subst hv
       have R2 := Lib.hid hr2
       clear hr2 hg2))
  go_ret2
  exact ⟨_, by rw [EF.out, ED.out]; rfl, by rw [EN.out]; exact row_base R2.out hlo, S2.out⟩

set_option maxRecDepth 100000 in
set_option maxHeartbeats 400000 in
theorem step_4_0 (w : World) (lo : Nat) (v : Value) (o : List Int) (hr : Row w lo v o) (hl : o.length ≤ 1000000) (hlo : lo ≤ w.heap.size) (h0 : o = []) :
    Calls Tryz.prog 91 #[v, .int .i64 4] w (StepOf w lo o 4) := by
  have HR := Lib.hid hr
  have HI := Lib.hid (row_ints hr)
  have EF : Hid (fitB o 4 = (topO o == 3)) := Lib.hid rfl
  have EN : Hid (nextO o 4 = o.dropLast ++ [4]) := Lib.hid rfl
  subst h0
  obtain ⟨_, A, c, rfl, _⟩ := row_ints hr
  have HC : Hid (Row w lo (.slice A 0 c) ([] : List Int)) := Lib.hid hr
  have HD : Hid (([] : List Int).dropLast = []) := Lib.hid rfl
  have z1 : IntKind.i64.wrap (((0 : Nat) : Int) - 1) = -1 := by decide
  clear hr hl
  simp only [List.length_nil] at *
  go_enter Tryz.func91, Tryz.ntmps91
  go_wp2_with (first
    | (at_builtin; refine wpList_append_newL rfl (.tmp 32) (.tmp 37) rfl rfl _ rfl (by simp) (.slice A 0 c) [] rfl (row_ints HC.out) 0 (by exact rfl) (by omega) ?_
       intro B1 m1 w1 hr1 hb1
       have R1 := Lib.hid hr1
       have S1 := Lib.hid hb1
       have zz : w.heap.size ≤ w1.heap.size := hb1.size
       clear hr1 hb1)
    | (at_builtin; refine wpList_append_ints rfl (.tmp 38) (.tmp 40) rfl rfl w.heap.size (.slice B1 0 m1) [] (row_alloc R1.out _) _ [4] (ints_one _ _) rfl rfl (by have := (show ([] : List Int).length = 0 from rfl); simp <;> omega) (by simp <;> omega) ?_
       intro v2 w2 hr2 hg2 _
       have S2 : Hid (Below w.heap.size w w2) := Lib.hid ((below_alloc S1.out _).grown hg2 (by simp <;> omega) (fun k hk => (row_lt R1.out k hk).1))
       obtain ⟨_, C, j, hv, _⟩ := row_ints hr2
       rw [show (([] : List Int) ++ [(4 : Int)]).length = 0 + 1 by rw [List.length_append, List.length_nil, List.length_singleton]] at hv
       subst hv
       have R2 := Lib.hid hr2
       clear hr2 hg2))
  go_ret2
  exact ⟨_, by rw [EF.out]; rfl, by rw [EN.out, HD.out]; exact row_base R2.out hlo, S2.out⟩

set_option maxRecDepth 100000 in
set_option maxHeartbeats 400000 in
theorem step_4_1 (w : World) (lo : Nat) (v : Value) (o : List Int) (hr : Row w lo v o) (hl : o.length ≤ 1000000) (hlo : lo ≤ w.heap.size) (hm : o.length = 0 + 1) :
    Calls Tryz.prog 91 #[v, .int .i64 4] w (StepOf w lo o 4) := by
  have HR := Lib.hid hr
  have HI := Lib.hid (row_ints hr)
  have EF : Hid (fitB o 4 = (topO o == 3)) := Lib.hid rfl
  have EN : Hid (nextO o 4 = o.dropLast ++ [4]) := Lib.hid rfl
  obtain ⟨ad, c, rfl, hx⟩ := ints_top (row_ints hr) hm
  have HC : Hid (Row w lo (.slice (some ad) 0 c) (o.take 0)) := Lib.hid (row_cut hr (by omega))
  have HD : Hid (o.dropLast = o.take 0) := Lib.hid (drop_of hm)
  have hcap := row_room hr
  rw [Addr.add_zero'] at hx
  have z1 : IntKind.i64.wrap (((0 + 1 : Nat) : Int) - 1) = 0 := by decide
  have HL := Lib.hid hm
  have TL : Hid ((o.take 0).length = 0) := Lib.hid (by rw [List.length_take]; omega)
  generalize topO o = t at *
  clear hr hl hm
  go_enter Tryz.func91, Tryz.ntmps91
  go_wp2_with (first
    | (at_builtin; refine wpList_append_newL rfl (.tmp 32) (.tmp 37) rfl rfl _ rfl (by simp) (.slice (some ad) 0 c) (o.take 0) rfl (row_ints HC.out) 0 (by exact TL.out) (by omega) ?_
       intro B1 m1 w1 hr1 hb1
       have R1 := Lib.hid hr1
       have S1 := Lib.hid hb1
       have zz : w.heap.size ≤ w1.heap.size := hb1.size
       clear hr1 hb1)
    | (at_builtin; refine wpList_append_ints rfl (.tmp 38) (.tmp 40) rfl rfl w.heap.size (.slice B1 0 m1) (o.take 0) (row_alloc R1.out _) _ [4] (ints_one _ _) rfl rfl (by have := TL.out; simp <;> omega) (by simp <;> omega) ?_
       intro v2 w2 hr2 hg2 _
       have S2 : Hid (Below w.heap.size w w2) := Lib.hid ((below_alloc S1.out _).grown hg2 (by simp <;> omega) (fun k hk => (row_lt R1.out k hk).1))
       obtain ⟨_, C, j, hv, _⟩ := row_ints hr2
       rw [show (((o.take 0) : List Int) ++ [(4 : Int)]).length = 0 + 1 by rw [List.length_append, TL.out, List.length_singleton]] at hv
       subst hv
       have R2 := Lib.hid hr2
       clear hr2 hg2))
  go_ret2
  exact ⟨_, by rw [EF.out]; rfl, by rw [EN.out, HD.out]; exact row_base R2.out hlo, S2.out⟩

set_option maxRecDepth 100000 in
set_option maxHeartbeats 400000 in
theorem step_4_2 (w : World) (lo : Nat) (v : Value) (o : List Int) (hr : Row w lo v o) (hl : o.length ≤ 1000000) (hlo : lo ≤ w.heap.size) (m : Nat) (hm : o.length = m + 1) (hp : 0 < m) :
    Calls Tryz.prog 91 #[v, .int .i64 4] w (StepOf w lo o 4) := by
  have HR := Lib.hid hr
  have HI := Lib.hid (row_ints hr)
  have EF : Hid (fitB o 4 = (topO o == 3)) := Lib.hid rfl
  have EN : Hid (nextO o 4 = o.dropLast ++ [4]) := Lib.hid rfl
  obtain ⟨ad, c, rfl, hx⟩ := ints_top (row_ints hr) hm
  have HC : Hid (Row w lo (.slice (some ad) m c) (o.take m)) := Lib.hid (row_cut hr (by omega))
  have HD : Hid (o.dropLast = o.take m) := Lib.hid (drop_of hm)
  have hcap := row_room hr
  have hm2 : m ≤ 1000000 := by omega
  have z1 : IntKind.i64.wrap (((m + 1 : Nat) : Int) - 1) = (m : Int) := by rw [show ((m + 1 : Nat) : Int) - 1 = m by omega]; exact IntWalk.i64_in _ (by omega)
  have z2 : (0 : Int) < (m : Int) := by omega
  have z3 : (m : Int) < ((m + 1 : Nat) : Int) := by omega
  have z4 : (0 : Int) < ((m + 1 : Nat) : Int) := by omega
  have HL := Lib.hid hm
  have TL : Hid ((o.take m).length = m) := Lib.hid (by rw [List.length_take]; omega)
  generalize topO o = t at *
  clear hr hl hm
  go_enter Tryz.func91, Tryz.ntmps91
  go_wp2_with (first
    | (at_builtin; refine wpList_append_newL rfl (.tmp 32) (.tmp 37) rfl rfl _ rfl (by simp) (.slice (some ad) m c) (o.take m) rfl (row_ints HC.out) m (by exact TL.out) (by omega) ?_
       intro B1 m1 w1 hr1 hb1
       have R1 := Lib.hid hr1
       have S1 := Lib.hid hb1
       have zz : w.heap.size ≤ w1.heap.size := hb1.size
       clear hr1 hb1)
    | (at_builtin; refine wpList_append_ints rfl (.tmp 38) (.tmp 40) rfl rfl w.heap.size (.slice B1 m m1) (o.take m) (row_alloc R1.out _) _ [4] (ints_one _ _) rfl rfl (by have := TL.out; simp <;> omega) (by simp <;> omega) ?_
       intro v2 w2 hr2 hg2 _
       have S2 : Hid (Below w.heap.size w w2) := Lib.hid ((below_alloc S1.out _).grown hg2 (by simp <;> omega) (fun k hk => (row_lt R1.out k hk).1))
       obtain ⟨_, C, j, hv, _⟩ := row_ints hr2
       rw [show (((o.take m) : List Int) ++ [(4 : Int)]).length = m + 1 by rw [List.length_append, TL.out, List.length_singleton]] at hv
       subst hv
       have R2 := Lib.hid hr2
       clear hr2 hg2))
  go_ret2
  exact ⟨_, by rw [EF.out]; rfl, by rw [EN.out, HD.out]; exact row_base R2.out hlo, S2.out⟩

set_option maxRecDepth 100000 in
set_option maxHeartbeats 400000 in
theorem step_5_0 (w : World) (lo : Nat) (v : Value) (o : List Int) (hr : Row w lo v o) (hl : o.length ≤ 1000000) (hlo : lo ≤ w.heap.size) (h0 : o = []) :
    Calls Tryz.prog 91 #[v, .int .i64 5] w (StepOf w lo o 5) := by
  have HR := Lib.hid hr
  have HI := Lib.hid (row_ints hr)
  have EF : Hid (fitB o 5 = (topO o == 3 || topO o == 4)) := Lib.hid rfl
  have EN : Hid (nextO o 5 = o.dropLast) := Lib.hid rfl
  subst h0
  obtain ⟨_, A, c, rfl, _⟩ := row_ints hr
  have HC : Hid (Row w lo (.slice A 0 c) ([] : List Int)) := Lib.hid hr
  have HD : Hid (([] : List Int).dropLast = []) := Lib.hid rfl
  have z1 : IntKind.i64.wrap (((0 : Nat) : Int) - 1) = -1 := by decide
  clear hr hl
  simp only [List.length_nil] at *
  go_enter Tryz.func91, Tryz.ntmps91
  go_wp2
  go_ret2
  exact ⟨_, by rw [EF.out]; rfl, by rw [EN.out, HD.out]; exact HC.out, Below.refl _ _⟩

set_option maxRecDepth 100000 in
set_option maxHeartbeats 400000 in
theorem step_5_1 (w : World) (lo : Nat) (v : Value) (o : List Int) (hr : Row w lo v o) (hl : o.length ≤ 1000000) (hlo : lo ≤ w.heap.size) (hm : o.length = 0 + 1) :
    Calls Tryz.prog 91 #[v, .int .i64 5] w (StepOf w lo o 5) := by
  have HR := Lib.hid hr
  have HI := Lib.hid (row_ints hr)
  have EF : Hid (fitB o 5 = (topO o == 3 || topO o == 4)) := Lib.hid rfl
  have EN : Hid (nextO o 5 = o.dropLast) := Lib.hid rfl
  obtain ⟨ad, c, rfl, hx⟩ := ints_top (row_ints hr) hm
  have HC : Hid (Row w lo (.slice (some ad) 0 c) (o.take 0)) := Lib.hid (row_cut hr (by omega))
  have HD : Hid (o.dropLast = o.take 0) := Lib.hid (drop_of hm)
  have hcap := row_room hr
  rw [Addr.add_zero'] at hx
  have z1 : IntKind.i64.wrap (((0 + 1 : Nat) : Int) - 1) = 0 := by decide
  have HL := Lib.hid hm
  have TL : Hid ((o.take 0).length = 0) := Lib.hid (by rw [List.length_take]; omega)
  generalize topO o = t at *
  clear hr hl hm
  go_enter Tryz.func91, Tryz.ntmps91
  go_wp2
  all_goals
    go_ret2
    exact ⟨_, by rw [EF.out]; exact ret_vb (by simp [*]), by rw [EN.out, HD.out]; exact HC.out, Below.refl _ _⟩

set_option maxRecDepth 100000 in
set_option maxHeartbeats 400000 in
theorem step_5_2 (w : World) (lo : Nat) (v : Value) (o : List Int) (hr : Row w lo v o) (hl : o.length ≤ 1000000) (hlo : lo ≤ w.heap.size) (m : Nat) (hm : o.length = m + 1) (hp : 0 < m) :
    Calls Tryz.prog 91 #[v, .int .i64 5] w (StepOf w lo o 5) := by
  have HR := Lib.hid hr
  have HI := Lib.hid (row_ints hr)
  have EF : Hid (fitB o 5 = (topO o == 3 || topO o == 4)) := Lib.hid rfl
  have EN : Hid (nextO o 5 = o.dropLast) := Lib.hid rfl
  obtain ⟨ad, c, rfl, hx⟩ := ints_top (row_ints hr) hm
  have HC : Hid (Row w lo (.slice (some ad) m c) (o.take m)) := Lib.hid (row_cut hr (by omega))
  have HD : Hid (o.dropLast = o.take m) := Lib.hid (drop_of hm)
  have hcap := row_room hr
  have hm2 : m ≤ 1000000 := by omega
  have z1 : IntKind.i64.wrap (((m + 1 : Nat) : Int) - 1) = (m : Int) := by rw [show ((m + 1 : Nat) : Int) - 1 = m by omega]; exact IntWalk.i64_in _ (by omega)
  have z2 : (0 : Int) < (m : Int) := by omega
  have z3 : (m : Int) < ((m + 1 : Nat) : Int) := by omega
  have z4 : (0 : Int) < ((m + 1 : Nat) : Int) := by omega
  have HL := Lib.hid hm
  have TL : Hid ((o.take m).length = m) := Lib.hid (by rw [List.length_take]; omega)
  generalize topO o = t at *
  clear hr hl hm
  go_enter Tryz.func91, Tryz.ntmps91
  go_wp2
  all_goals
    go_ret2
    exact ⟨_, by rw [EF.out]; exact ret_vb (by simp [*]), by rw [EN.out, HD.out]; exact HC.out, Below.refl _ _⟩

set_option maxRecDepth 100000 in
set_option maxHeartbeats 400000 in
theorem step_6_0 (w : World) (lo : Nat) (v : Value) (o : List Int) (hr : Row w lo v o) (hl : o.length ≤ 1000000) (hlo : lo ≤ w.heap.size) (h0 : o = []) :
    Calls Tryz.prog 91 #[v, .int .i64 6] w (StepOf w lo o 6) := by
  have HR := Lib.hid hr
  have HI := Lib.hid (row_ints hr)
  have EF : Hid (fitB o 6 = decide (o.length < 8)) := Lib.hid rfl
  have EN : Hid (nextO o 6 = o ++ [6]) := Lib.hid rfl
  subst h0
  obtain ⟨_, A, c, rfl, _⟩ := row_ints hr
  have HC : Hid (Row w lo (.slice A 0 c) ([] : List Int)) := Lib.hid hr
  have HD : Hid (([] : List Int).dropLast = []) := Lib.hid rfl
  have z1 : IntKind.i64.wrap (((0 : Nat) : Int) - 1) = -1 := by decide
  clear hr hl
  simp only [List.length_nil] at *
  go_enter Tryz.func91, Tryz.ntmps91
  go_wp2_with (first
    | (at_builtin; refine wpList_append_newL rfl (.tmp 22) (.tmp 23) rfl rfl _ rfl (by simp) (.slice A 0 c) [] rfl (row_ints HR.out) 0 (by exact rfl) (by omega) ?_
       intro B1 m1 w1 hr1 hb1
       have R1 := Lib.hid hr1
       have S1 := Lib.hid hb1
       have zz : w.heap.size ≤ w1.heap.size := hb1.size
       clear hr1 hb1)
    | (at_builtin; refine wpList_append_ints rfl (.tmp 24) (.tmp 26) rfl rfl w.heap.size (.slice B1 0 m1) [] (row_alloc R1.out _) _ [6] (ints_one _ _) rfl rfl (by have := (show ([] : List Int).length = 0 from rfl); simp <;> omega) (by simp <;> omega) ?_
       intro v2 w2 hr2 hg2 _
       have S2 : Hid (Below w.heap.size w w2) := Lib.hid ((below_alloc S1.out _).grown hg2 (by simp <;> omega) (fun k hk => (row_lt R1.out k hk).1))
       obtain ⟨_, C, j, hv, _⟩ := row_ints hr2
       rw [show (([] : List Int) ++ [(6 : Int)]).length = 0 + 1 by rw [List.length_append, List.length_nil, List.length_singleton]] at hv
       subst hv
       have R2 := Lib.hid hr2
       clear hr2 hg2))
  go_ret2
  exact ⟨_, by rw [EF.out]; rfl, by rw [EN.out]; exact row_base R2.out hlo, S2.out⟩

set_option maxRecDepth 100000 in
set_option maxHeartbeats 400000 in
theorem step_6_1 (w : World) (lo : Nat) (v : Value) (o : List Int) (hr : Row w lo v o) (hl : o.length ≤ 1000000) (hlo : lo ≤ w.heap.size) (hm : o.length = 0 + 1) :
    Calls Tryz.prog 91 #[v, .int .i64 6] w (StepOf w lo o 6) := by
  have HR := Lib.hid hr
  have HI := Lib.hid (row_ints hr)
  have EF : Hid (fitB o 6 = decide (o.length < 8)) := Lib.hid rfl
  have EN : Hid (nextO o 6 = o ++ [6]) := Lib.hid rfl
  obtain ⟨ad, c, rfl, hx⟩ := ints_top (row_ints hr) hm
  have HC : Hid (Row w lo (.slice (some ad) 0 c) (o.take 0)) := Lib.hid (row_cut hr (by omega))
  have HD : Hid (o.dropLast = o.take 0) := Lib.hid (drop_of hm)
  have hcap := row_room hr
  rw [Addr.add_zero'] at hx
  have z1 : IntKind.i64.wrap (((0 + 1 : Nat) : Int) - 1) = 0 := by decide
  have ED : Hid (decide (o.length < 8) = decide (((0 + 1 : Nat) : Int) < 8)) := Lib.hid (by simp only [decide_eq_decide]; omega)
  have HL := Lib.hid hm
  have TL : Hid ((o.take 0).length = 0) := Lib.hid (by rw [List.length_take]; omega)
  generalize topO o = t at *
  clear hr hl hm
  go_enter Tryz.func91, Tryz.ntmps91
  go_wp2_with (first
    | (at_builtin; refine wpList_append_newL rfl (.tmp 22) (.tmp 23) rfl rfl _ rfl (by simp) (.slice (some ad) (0 + 1) c) o rfl (row_ints HR.out) (0 + 1) (by exact HL.out) (by omega) ?_
       intro B1 m1 w1 hr1 hb1
       have R1 := Lib.hid hr1
       have S1 := Lib.hid hb1
       have zz : w.heap.size ≤ w1.heap.size := hb1.size
       clear hr1 hb1)
    | (at_builtin; refine wpList_append_ints rfl (.tmp 24) (.tmp 26) rfl rfl w.heap.size (.slice B1 (0 + 1) m1) o (row_alloc R1.out _) _ [6] (ints_one _ _) rfl rfl (by have := HL.out; simp <;> omega) (by simp <;> omega) ?_
       intro v2 w2 hr2 hg2 _
       have S2 : Hid (Below w.heap.size w w2) := Lib.hid ((below_alloc S1.out _).grown hg2 (by simp <;> omega) (fun k hk => (row_lt R1.out k hk).1))
       obtain ⟨_, C, j, hv, _⟩ := row_ints hr2
       rw [show ((o : List Int) ++ [(6 : Int)]).length = (0 + 1) + 1 by rw [List.length_append, HL.out, List.length_singleton]] at hv
       subst hv
       have R2 := Lib.hid hr2
       clear hr2 hg2))
  go_ret2
  exact ⟨_, by rw [EF.out, ED.out]; rfl, by rw [EN.out]; exact row_base R2.out hlo, S2.out⟩

set_option maxRecDepth 100000 in
set_option maxHeartbeats 400000 in
theorem step_6_2 (w : World) (lo : Nat) (v : Value) (o : List Int) (hr : Row w lo v o) (hl : o.length ≤ 1000000) (hlo : lo ≤ w.heap.size) (m : Nat) (hm : o.length = m + 1) (hp : 0 < m) :
    Calls Tryz.prog 91 #[v, .int .i64 6] w (StepOf w lo o 6) := by
  have HR := Lib.hid hr
  have HI := Lib.hid (row_ints hr)
  have EF : Hid (fitB o 6 = decide (o.length < 8)) := Lib.hid rfl
  have EN : Hid (nextO o 6 = o ++ [6]) := Lib.hid rfl
  obtain ⟨ad, c, rfl, hx⟩ := ints_top (row_ints hr) hm
  have HC : Hid (Row w lo (.slice (some ad) m c) (o.take m)) := Lib.hid (row_cut hr (by omega))
  have HD : Hid (o.dropLast = o.take m) := Lib.hid (drop_of hm)
  have hcap := row_room hr
  have hm2 : m ≤ 1000000 := by omega
  have z1 : IntKind.i64.wrap (((m + 1 : Nat) : Int) - 1) = (m : Int) := by rw [show ((m + 1 : Nat) : Int) - 1 = m by omega]; exact IntWalk.i64_in _ (by omega)
  have z2 : (0 : Int) < (m : Int) := by omega
  have z3 : (m : Int) < ((m + 1 : Nat) : Int) := by omega
  have z4 : (0 : Int) < ((m + 1 : Nat) : Int) := by omega
  have ED : Hid (decide (o.length < 8) = decide (((m + 1 : Nat) : Int) < 8)) := Lib.hid (by simp only [decide_eq_decide]; omega)
  have HL := Lib.hid hm
  have TL : Hid ((o.take m).length = m) := Lib.hid (by rw [List.length_take]; omega)
  generalize topO o = t at *
  clear hr hl hm
  go_enter Tryz.func91, Tryz.ntmps91
  go_wp2_with (first
    | (at_builtin; refine wpList_append_newL rfl (.tmp 22) (.tmp 23) rfl rfl _ rfl (by simp) (.slice (some ad) (m + 1) c) o rfl (row_ints HR.out) (m + 1) (by exact HL.out) (by omega) ?_
       intro B1 m1 w1 hr1 hb1
       have R1 := Lib.hid hr1
       have S1 := Lib.hid hb1
       have zz : w.heap.size ≤ w1.heap.size := hb1.size
       clear hr1 hb1)
    | (at_builtin; refine wpList_append_ints rfl (.tmp 24) (.tmp 26) rfl rfl w.heap.size (.slice B1 (m + 1) m1) o (row_alloc R1.out _) _ [6] (ints_one _ _) rfl rfl (by have := HL.out; simp <;> omega) (by simp <;> omega) ?_
       intro v2 w2 hr2 hg2 _
       have S2 : Hid (Below w.heap.size w w2) := Lib.hid ((below_alloc S1.out _).grown hg2 (by simp <;> omega) (fun k hk => (row_lt R1.out k hk).1))
       obtain ⟨_, C, j, hv, _⟩ := row_ints hr2
       rw [show ((o : List Int) ++ [(6 : Int)]).length = (m + 1) + 1 by rw [List.length_append, HL.out, List.length_singleton]] at hv
       subst hv
       have R2 := Lib.hid hr2
       clear hr2 hg2))
  go_ret2
  exact ⟨_, by rw [EF.out, ED.out]; rfl, by rw [EN.out]; exact row_base R2.out hlo, S2.out⟩

set_option maxRecDepth 100000 in
set_option maxHeartbeats 400000 in
theorem step_7_0 (w : World) (lo : Nat) (v : Value) (o : List Int) (hr : Row w lo v o) (hl : o.length ≤ 1000000) (hlo : lo ≤ w.heap.size) (h0 : o = []) :
    Calls Tryz.prog 91 #[v, .int .i64 7] w (StepOf w lo o 7) := by
  have HR := Lib.hid hr
  have HI := Lib.hid (row_ints hr)
  have EF : Hid (fitB o 7 = (topO o == 6)) := Lib.hid rfl
  have EN : Hid (nextO o 7 = o.dropLast) := Lib.hid rfl
  subst h0
  obtain ⟨_, A, c, rfl, _⟩ := row_ints hr
  have HC : Hid (Row w lo (.slice A 0 c) ([] : List Int)) := Lib.hid hr
  have HD : Hid (([] : List Int).dropLast = []) := Lib.hid rfl
  have z1 : IntKind.i64.wrap (((0 : Nat) : Int) - 1) = -1 := by decide
  clear hr hl
  simp only [List.length_nil] at *
  go_enter Tryz.func91, Tryz.ntmps91
  go_wp2
  go_ret2
  exact ⟨_, by rw [EF.out]; rfl, by rw [EN.out, HD.out]; exact HC.out, Below.refl _ _⟩

set_option maxRecDepth 100000 in
set_option maxHeartbeats 400000 in
theorem step_7_1 (w : World) (lo : Nat) (v : Value) (o : List Int) (hr : Row w lo v o) (hl : o.length ≤ 1000000) (hlo : lo ≤ w.heap.size) (hm : o.length = 0 + 1) :
    Calls Tryz.prog 91 #[v, .int .i64 7] w (StepOf w lo o 7) := by
  have HR := Lib.hid hr
  have HI := Lib.hid (row_ints hr)
  have EF : Hid (fitB o 7 = (topO o == 6)) := Lib.hid rfl
  have EN : Hid (nextO o 7 = o.dropLast) := Lib.hid rfl
  obtain ⟨ad, c, rfl, hx⟩ := ints_top (row_ints hr) hm
  have HC : Hid (Row w lo (.slice (some ad) 0 c) (o.take 0)) := Lib.hid (row_cut hr (by omega))
  have HD : Hid (o.dropLast = o.take 0) := Lib.hid (drop_of hm)
  have hcap := row_room hr
  rw [Addr.add_zero'] at hx
  have z1 : IntKind.i64.wrap (((0 + 1 : Nat) : Int) - 1) = 0 := by decide
  have HL := Lib.hid hm
  have TL : Hid ((o.take 0).length = 0) := Lib.hid (by rw [List.length_take]; omega)
  generalize topO o = t at *
  clear hr hl hm
  go_enter Tryz.func91, Tryz.ntmps91
  go_wp2
  go_ret2
  exact ⟨_, by rw [EF.out]; rfl, by rw [EN.out, HD.out]; exact HC.out, Below.refl _ _⟩

set_option maxRecDepth 100000 in
set_option maxHeartbeats 400000 in
theorem step_7_2 (w : World) (lo : Nat) (v : Value) (o : List Int) (hr : Row w lo v o) (hl : o.length ≤ 1000000) (hlo : lo ≤ w.heap.size) (m : Nat) (hm : o.length = m + 1) (hp : 0 < m) :
    Calls Tryz.prog 91 #[v, .int .i64 7] w (StepOf w lo o 7) := by
  have HR := Lib.hid hr
  have HI := Lib.hid (row_ints hr)
  have EF : Hid (fitB o 7 = (topO o == 6)) := Lib.hid rfl
  have EN : Hid (nextO o 7 = o.dropLast) := Lib.hid rfl
  obtain ⟨ad, c, rfl, hx⟩ := ints_top (row_ints hr) hm
  have HC : Hid (Row w lo (.slice (some ad) m c) (o.take m)) := Lib.hid (row_cut hr (by omega))
  have HD : Hid (o.dropLast = o.take m) := Lib.hid (drop_of hm)
  have hcap := row_room hr
  have hm2 : m ≤ 1000000 := by omega
  have z1 : IntKind.i64.wrap (((m + 1 : Nat) : Int) - 1) = (m : Int) := by rw [show ((m + 1 : Nat) : Int) - 1 = m by omega]; exact IntWalk.i64_in _ (by omega)
  have z2 : (0 : Int) < (m : Int) := by omega
  have z3 : (m : Int) < ((m + 1 : Nat) : Int) := by omega
  have z4 : (0 : Int) < ((m + 1 : Nat) : Int) := by omega
  have HL := Lib.hid hm
  have TL : Hid ((o.take m).length = m) := Lib.hid (by rw [List.length_take]; omega)
  generalize topO o = t at *
  clear hr hl hm
  go_enter Tryz.func91, Tryz.ntmps91
  go_wp2
  go_ret2
  exact ⟨_, by rw [EF.out]; rfl, by rw [EN.out, HD.out]; exact HC.out, Below.refl _ _⟩

set_option maxRecDepth 100000 in
set_option maxHeartbeats 400000 in
theorem step_8_0 (w : World) (lo : Nat) (v : Value) (o : List Int) (hr : Row w lo v o) (hl : o.length ≤ 1000000) (hlo : lo ≤ w.heap.size) (h0 : o = []) :
    Calls Tryz.prog 91 #[v, .int .i64 8] w (StepOf w lo o 8) := by
  have HR := Lib.hid hr
  have HI := Lib.hid (row_ints hr)
  have EF : Hid (fitB o 8 = (topO o == 6)) := Lib.hid rfl
  have EN : Hid (nextO o 8 = o.dropLast ++ [8]) := Lib.hid rfl
  subst h0
  obtain ⟨_, A, c, rfl, _⟩ := row_ints hr
  have HC : Hid (Row w lo (.slice A 0 c) ([] : List Int)) := Lib.hid hr
  have HD : Hid (([] : List Int).dropLast = []) := Lib.hid rfl
  have z1 : IntKind.i64.wrap (((0 : Nat) : Int) - 1) = -1 := by decide
  clear hr hl
  simp only [List.length_nil] at *
  go_enter Tryz.func91, Tryz.ntmps91
  go_wp2_with (first
    | (at_builtin; refine wpList_append_newL rfl (.tmp 46) (.tmp 51) rfl rfl _ rfl (by simp) (.slice A 0 c) [] rfl (row_ints HC.out) 0 (by exact rfl) (by omega) ?_
       intro B1 m1 w1 hr1 hb1
       have R1 := Lib.hid hr1
       have S1 := Lib.hid hb1
       have zz : w.heap.size ≤ w1.heap.size := hb1.size
       clear hr1 hb1)
    | (at_builtin; refine wpList_append_ints rfl (.tmp 52) (.tmp 54) rfl rfl w.heap.size (.slice B1 0 m1) [] (row_alloc R1.out _) _ [8] (ints_one _ _) rfl rfl (by have := (show ([] : List Int).length = 0 from rfl); simp <;> omega) (by simp <;> omega) ?_
       intro v2 w2 hr2 hg2 _
       have S2 : Hid (Below w.heap.size w w2) := Lib.hid ((below_alloc S1.out _).grown hg2 (by simp <;> omega) (fun k hk => (row_lt R1.out k hk).1))
       obtain ⟨_, C, j, hv, _⟩ := row_ints hr2
       rw [show (([] : List Int) ++ [(8 : Int)]).length = 0 + 1 by rw [List.length_append, List.length_nil, List.length_singleton]] at hv
       subst hv
       have R2 := Lib.hid hr2
       clear hr2 hg2))
  go_ret2
  exact ⟨_, by rw [EF.out]; rfl, by rw [EN.out, HD.out]; exact row_base R2.out hlo, S2.out⟩

set_option maxRecDepth 100000 in
set_option maxHeartbeats 400000 in
theorem step_8_1 (w : World) (lo : Nat) (v : Value) (o : List Int) (hr : Row w lo v o) (hl : o.length ≤ 1000000) (hlo : lo ≤ w.heap.size) (hm : o.length = 0 + 1) :
    Calls Tryz.prog 91 #[v, .int .i64 8] w (StepOf w lo o 8) := by
  have HR := Lib.hid hr
  have HI := Lib.hid (row_ints hr)
  have EF : Hid (fitB o 8 = (topO o == 6)) := Lib.hid rfl
  have EN : Hid (nextO o 8 = o.dropLast ++ [8]) := Lib.hid rfl
  obtain ⟨ad, c, rfl, hx⟩ := ints_top (row_ints hr) hm
  have HC : Hid (Row w lo (.slice (some ad) 0 c) (o.take 0)) := Lib.hid (row_cut hr (by omega))
  have HD : Hid (o.dropLast = o.take 0) := Lib.hid (drop_of hm)
  have hcap := row_room hr
  rw [Addr.add_zero'] at hx
  have z1 : IntKind.i64.wrap (((0 + 1 : Nat) : Int) - 1) = 0 := by decide
  have HL := Lib.hid hm
  have TL : Hid ((o.take 0).length = 0) := Lib.hid (by rw [List.length_take]; omega)
  generalize topO o = t at *
  clear hr hl hm
  go_enter Tryz.func91, Tryz.ntmps91
  go_wp2_with (first
    | (at_builtin; refine wpList_append_newL rfl (.tmp 46) (.tmp 51) rfl rfl _ rfl (by simp) (.slice (some ad) 0 c) (o.take 0) rfl (row_ints HC.out) 0 (by exact TL.out) (by omega) ?_
       intro B1 m1 w1 hr1 hb1
       have R1 := Lib.hid hr1
       have S1 := Lib.hid hb1
       have zz : w.heap.size ≤ w1.heap.size := hb1.size
       clear hr1 hb1)
    | (at_builtin; refine wpList_append_ints rfl (.tmp 52) (.tmp 54) rfl rfl w.heap.size (.slice B1 0 m1) (o.take 0) (row_alloc R1.out _) _ [8] (ints_one _ _) rfl rfl (by have := TL.out; simp <;> omega) (by simp <;> omega) ?_
       intro v2 w2 hr2 hg2 _
       have S2 : Hid (Below w.heap.size w w2) := Lib.hid ((below_alloc S1.out _).grown hg2 (by simp <;> omega) (fun k hk => (row_lt R1.out k hk).1))
       obtain ⟨_, C, j, hv, _⟩ := row_ints hr2
       rw [show (((o.take 0) : List Int) ++ [(8 : Int)]).length = 0 + 1 by rw [List.length_append, TL.out, List.length_singleton]] at hv
       subst hv
       have R2 := Lib.hid hr2
       clear hr2 hg2))
  go_ret2
  exact ⟨_, by rw [EF.out]; rfl, by rw [EN.out, HD.out]; exact row_base R2.out hlo, S2.out⟩

set_option maxRecDepth 100000 in
set_option maxHeartbeats 400000 in
theorem step_8_2 (w : World) (lo : Nat) (v : Value) (o : List Int) (hr : Row w lo v o) (hl : o.length ≤ 1000000) (hlo : lo ≤ w.heap.size) (m : Nat) (hm : o.length = m + 1) (hp : 0 < m) :
    Calls Tryz.prog 91 #[v, .int .i64 8] w (StepOf w lo o 8) := by
  have HR := Lib.hid hr
  have HI := Lib.hid (row_ints hr)
  have EF : Hid (fitB o 8 = (topO o == 6)) := Lib.hid rfl
  have EN : Hid (nextO o 8 = o.dropLast ++ [8]) := Lib.hid rfl
  obtain ⟨ad, c, rfl, hx⟩ := ints_top (row_ints hr) hm
  have HC : Hid (Row w lo (.slice (some ad) m c) (o.take m)) := Lib.hid (row_cut hr (by omega))
  have HD : Hid (o.dropLast = o.take m) := Lib.hid (drop_of hm)
  have hcap := row_room hr
  have hm2 : m ≤ 1000000 := by omega
  have z1 : IntKind.i64.wrap (((m + 1 : Nat) : Int) - 1) = (m : Int) := by rw [show ((m + 1 : Nat) : Int) - 1 = m by omega]; exact IntWalk.i64_in _ (by omega)
  have z2 : (0 : Int) < (m : Int) := by omega
  have z3 : (m : Int) < ((m + 1 : Nat) : Int) := by omega
  have z4 : (0 : Int) < ((m + 1 : Nat) : Int) := by omega
  have HL := Lib.hid hm
  have TL : Hid ((o.take m).length = m) := Lib.hid (by rw [List.length_take]; omega)
  generalize topO o = t at *
  clear hr hl hm
  go_enter Tryz.func91, Tryz.ntmps91
  go_wp2_with (first
    | (at_builtin; refine wpList_append_newL rfl (.tmp 46) (.tmp 51) rfl rfl _ rfl (by simp) (.slice (some ad) m c) (o.take m) rfl (row_ints HC.out) m (by exact TL.out) (by omega) ?_
       intro B1 m1 w1 hr1 hb1
       have R1 := Lib.hid hr1
       have S1 := Lib.hid hb1
       have zz : w.heap.size ≤ w1.heap.size := hb1.size
       clear hr1 hb1)
    | (at_builtin; refine wpList_append_ints rfl (.tmp 52) (.tmp 54) rfl rfl w.heap.size (.slice B1 m m1) (o.take m) (row_alloc R1.out _) _ [8] (ints_one _ _) rfl rfl (by have := TL.out; simp <;> omega) (by simp <;> omega) ?_
       intro v2 w2 hr2 hg2 _
       have S2 : Hid (Below w.heap.size w w2) := Lib.hid ((below_alloc S1.out _).grown hg2 (by simp <;> omega) (fun k hk => (row_lt R1.out k hk).1))
       obtain ⟨_, C, j, hv, _⟩ := row_ints hr2
       rw [show (((o.take m) : List Int) ++ [(8 : Int)]).length = m + 1 by rw [List.length_append, TL.out, List.length_singleton]] at hv
       subst hv
       have R2 := Lib.hid hr2
       clear hr2 hg2))
  go_ret2
  exact ⟨_, by rw [EF.out]; rfl, by rw [EN.out, HD.out]; exact row_base R2.out hlo, S2.out⟩

set_option maxRecDepth 100000 in
set_option maxHeartbeats 400000 in
theorem step_9_0 (w : World) (lo : Nat) (v : Value) (o : List Int) (hr : Row w lo v o) (hl : o.length ≤ 1000000) (hlo : lo ≤ w.heap.size) (h0 : o = []) :
    Calls Tryz.prog 91 #[v, .int .i64 9] w (StepOf w lo o 9) := by
  have HR := Lib.hid hr
  have HI := Lib.hid (row_ints hr)
  have EF : Hid (fitB o 9 = (topO o == 8)) := Lib.hid rfl
  have EN : Hid (nextO o 9 = o.dropLast) := Lib.hid rfl
  subst h0
  obtain ⟨_, A, c, rfl, _⟩ := row_ints hr
  have HC : Hid (Row w lo (.slice A 0 c) ([] : List Int)) := Lib.hid hr
  have HD : Hid (([] : List Int).dropLast = []) := Lib.hid rfl
  have z1 : IntKind.i64.wrap (((0 : Nat) : Int) - 1) = -1 := by decide
  clear hr hl
  simp only [List.length_nil] at *
  go_enter Tryz.func91, Tryz.ntmps91
  go_wp2
  go_ret2
  exact ⟨_, by rw [EF.out]; rfl, by rw [EN.out, HD.out]; exact HC.out, Below.refl _ _⟩

set_option maxRecDepth 100000 in
set_option maxHeartbeats 400000 in
theorem step_9_1 (w : World) (lo : Nat) (v : Value) (o : List Int) (hr : Row w lo v o) (hl : o.length ≤ 1000000) (hlo : lo ≤ w.heap.size) (hm : o.length = 0 + 1) :
    Calls Tryz.prog 91 #[v, .int .i64 9] w (StepOf w lo o 9) := by
  have HR := Lib.hid hr
  have HI := Lib.hid (row_ints hr)
  have EF : Hid (fitB o 9 = (topO o == 8)) := Lib.hid rfl
  have EN : Hid (nextO o 9 = o.dropLast) := Lib.hid rfl
  obtain ⟨ad, c, rfl, hx⟩ := ints_top (row_ints hr) hm
  have HC : Hid (Row w lo (.slice (some ad) 0 c) (o.take 0)) := Lib.hid (row_cut hr (by omega))
  have HD : Hid (o.dropLast = o.take 0) := Lib.hid (drop_of hm)
  have hcap := row_room hr
  rw [Addr.add_zero'] at hx
  have z1 : IntKind.i64.wrap (((0 + 1 : Nat) : Int) - 1) = 0 := by decide
  have HL := Lib.hid hm
  have TL : Hid ((o.take 0).length = 0) := Lib.hid (by rw [List.length_take]; omega)
  generalize topO o = t at *
  clear hr hl hm
  go_enter Tryz.func91, Tryz.ntmps91
  go_wp2
  go_ret2
  exact ⟨_, by rw [EF.out]; rfl, by rw [EN.out, HD.out]; exact HC.out, Below.refl _ _⟩

set_option maxRecDepth 100000 in
set_option maxHeartbeats 400000 in
theorem step_9_2 (w : World) (lo : Nat) (v : Value) (o : List Int) (hr : Row w lo v o) (hl : o.length ≤ 1000000) (hlo : lo ≤ w.heap.size) (m : Nat) (hm : o.length = m + 1) (hp : 0 < m) :
    Calls Tryz.prog 91 #[v, .int .i64 9] w (StepOf w lo o 9) := by
  have HR := Lib.hid hr
  have HI := Lib.hid (row_ints hr)
  have EF : Hid (fitB o 9 = (topO o == 8)) := Lib.hid rfl
  have EN : Hid (nextO o 9 = o.dropLast) := Lib.hid rfl
  obtain ⟨ad, c, rfl, hx⟩ := ints_top (row_ints hr) hm
  have HC : Hid (Row w lo (.slice (some ad) m c) (o.take m)) := Lib.hid (row_cut hr (by omega))
  have HD : Hid (o.dropLast = o.take m) := Lib.hid (drop_of hm)
  have hcap := row_room hr
  have hm2 : m ≤ 1000000 := by omega
  have z1 : IntKind.i64.wrap (((m + 1 : Nat) : Int) - 1) = (m : Int) := by rw [show ((m + 1 : Nat) : Int) - 1 = m by omega]; exact IntWalk.i64_in _ (by omega)
  have z2 : (0 : Int) < (m : Int) := by omega
  have z3 : (m : Int) < ((m + 1 : Nat) : Int) := by omega
  have z4 : (0 : Int) < ((m + 1 : Nat) : Int) := by omega
  have HL := Lib.hid hm
  have TL : Hid ((o.take m).length = m) := Lib.hid (by rw [List.length_take]; omega)
  generalize topO o = t at *
  clear hr hl hm
  go_enter Tryz.func91, Tryz.ntmps91
  go_wp2
  go_ret2
  exact ⟨_, by rw [EF.out]; rfl, by rw [EN.out, HD.out]; exact HC.out, Below.refl _ _⟩

set_option maxRecDepth 100000 in
set_option maxHeartbeats 400000 in
theorem step_10_0 (w : World) (lo : Nat) (v : Value) (o : List Int) (hr : Row w lo v o) (hl : o.length ≤ 1000000) (hlo : lo ≤ w.heap.size) (h0 : o = []) :
    Calls Tryz.prog 91 #[v, .int .i64 10] w (StepOf w lo o 10) := by
  have HR := Lib.hid hr
  have HI := Lib.hid (row_ints hr)
  have EF : Hid (fitB o 10 = decide (o.length < 8)) := Lib.hid rfl
  have EN : Hid (nextO o 10 = o ++ [10]) := Lib.hid rfl
  subst h0
  obtain ⟨_, A, c, rfl, _⟩ := row_ints hr
  have HC : Hid (Row w lo (.slice A 0 c) ([] : List Int)) := Lib.hid hr
  have HD : Hid (([] : List Int).dropLast = []) := Lib.hid rfl
  have z1 : IntKind.i64.wrap (((0 : Nat) : Int) - 1) = -1 := by decide
  clear hr hl
  simp only [List.length_nil] at *
  go_enter Tryz.func91, Tryz.ntmps91
  go_wp2_with (first
    | (at_builtin; refine wpList_append_newL rfl (.tmp 22) (.tmp 23) rfl rfl _ rfl (by simp) (.slice A 0 c) [] rfl (row_ints HR.out) 0 (by exact rfl) (by omega) ?_
       intro B1 m1 w1 hr1 hb1
       have R1 := Lib.hid hr1
       have S1 := Lib.hid hb1
       have zz : w.heap.size ≤ w1.heap.size := hb1.size
       clear hr1 hb1)
    | (at_builtin; refine wpList_append_ints rfl (.tmp 24) (.tmp 26) rfl rfl w.heap.size (.slice B1 0 m1) [] (row_alloc R1.out _) _ [10] (ints_one _ _) rfl rfl (by have := (show ([] : List Int).length = 0 from rfl); simp <;> omega) (by simp <;> omega) ?_
       intro v2 w2 hr2 hg2 _
       have S2 : Hid (Below w.heap.size w w2) := Lib.hid ((below_alloc S1.out _).grown hg2 (by simp <;> omega) (fun k hk => (row_lt R1.out k hk).1))
       obtain ⟨_, C, j, hv, _⟩ := row_ints hr2
       rw [show (([] : List Int) ++ [(10 : Int)]).length = 0 + 1 by rw [List.length_append, List.length_nil, List.length_singleton]] at hv
       subst hv
       have R2 := Lib.hid hr2
       clear hr2 hg2))
  go_ret2
  exact ⟨_, by rw [EF.out]; rfl, by rw [EN.out]; exact row_base R2.out hlo, S2.out⟩

set_option maxRecDepth 100000 in
set_option maxHeartbeats 400000 in
theorem step_10_1 (w : World) (lo : Nat) (v : Value) (o : List Int) (hr : Row w lo v o) (hl : o.length ≤ 1000000) (hlo : lo ≤ w.heap.size) (hm : o.length = 0 + 1) :
    Calls Tryz.prog 91 #[v, .int .i64 10] w (StepOf w lo o 10) := by
  have HR := Lib.hid hr
  have HI := Lib.hid (row_ints hr)
  have EF : Hid (fitB o 10 = decide (o.length < 8)) := Lib.hid rfl
  have EN : Hid (nextO o 10 = o ++ [10]) := Lib.hid rfl
  obtain ⟨ad, c, rfl, hx⟩ := ints_top (row_ints hr) hm
  have HC : Hid (Row w lo (.slice (some ad) 0 c) (o.take 0)) := Lib.hid (row_cut hr (by omega))
  have HD : Hid (o.dropLast = o.take 0) := Lib.hid (drop_of hm)
  have hcap := row_room hr
  rw [Addr.add_zero'] at hx
  have z1 : IntKind.i64.wrap (((0 + 1 : Nat) : Int) - 1) = 0 := by decide
  have ED : Hid (decide (o.length < 8) = decide (((0 + 1 : Nat) : Int) < 8)) := Lib.hid (by simp only [decide_eq_decide]; omega)
  have HL := Lib.hid hm
  have TL : Hid ((o.take 0).length = 0) := Lib.hid (by rw [List.length_take]; omega)
  generalize topO o = t at *
  clear hr hl hm
  go_enter Tryz.func91, Tryz.ntmps91
  go_wp2_with (first
    | (at_builtin; refine wpList_append_newL rfl (.tmp 22) (.tmp 23) rfl rfl _ rfl (by simp) (.slice (some ad) (0 + 1) c) o rfl (row_ints HR.out) (0 + 1) (by exact HL.out) (by omega) ?_
       intro B1 m1 w1 hr1 hb1
       have R1 := Lib.hid hr1
       have S1 := Lib.hid hb1
       have zz : w.heap.size ≤ w1.heap.size := hb1.size
       clear hr1 hb1)
    | (at_builtin; refine wpList_append_ints rfl (.tmp 24) (.tmp 26) rfl rfl w.heap.size (.slice B1 (0 + 1) m1) o (row_alloc R1.out _) _ [10] (ints_one _ _) rfl rfl (by have := HL.out; simp <;> omega) (by simp <;> omega) ?_
       intro v2 w2 hr2 hg2 _
       have S2 : Hid (Below w.heap.size w w2) := Lib.hid ((below_alloc S1.out _).grown hg2 (by simp <;> omega) (fun k hk => (row_lt R1.out k hk).1))
       obtain ⟨_, C, j, hv, _⟩ := row_ints hr2
       rw [show ((o : List Int) ++ [(10 : Int)]).length = (0 + 1) + 1 by rw [List.length_append, HL.out, List.length_singleton]] at hv
       subst hv
       have R2 := Lib.hid hr2
       clear hr2 hg2))
  go_ret2
  exact ⟨_, by rw [EF.out, ED.out]; rfl, by rw [EN.out]; exact row_base R2.out hlo, S2.out⟩

set_option maxRecDepth 100000 in
set_option maxHeartbeats 400000 in
theorem step_10_2 (w : World) (lo : Nat) (v : Value) (o : List Int) (hr : Row w lo v o) (hl : o.length ≤ 1000000) (hlo : lo ≤ w.heap.size) (m : Nat) (hm : o.length = m + 1) (hp : 0 < m) :
    Calls Tryz.prog 91 #[v, .int .i64 10] w (StepOf w lo o 10) := by
  have HR := Lib.hid hr
  have HI := Lib.hid (row_ints hr)
  have EF : Hid (fitB o 10 = decide (o.length < 8)) := Lib.hid rfl
  have EN : Hid (nextO o 10 = o ++ [10]) := Lib.hid rfl
  obtain ⟨ad, c, rfl, hx⟩ := ints_top (row_ints hr) hm
  have HC : Hid (Row w lo (.slice (some ad) m c) (o.take m)) := Lib.hid (row_cut hr (by omega))
  have HD : Hid (o.dropLast = o.take m) := Lib.hid (drop_of hm)
  have hcap := row_room hr
  have hm2 : m ≤ 1000000 := by omega
  have z1 : IntKind.i64.wrap (((m + 1 : Nat) : Int) - 1) = (m : Int) := by rw [show ((m + 1 : Nat) : Int) - 1 = m by omega]; exact IntWalk.i64_in _ (by omega)
  have z2 : (0 : Int) < (m : Int) := by omega
  have z3 : (m : Int) < ((m + 1 : Nat) : Int) := by omega
  have z4 : (0 : Int) < ((m + 1 : Nat) : Int) := by omega
  have ED : Hid (decide (o.length < 8) = decide (((m + 1 : Nat) : Int) < 8)) := Lib.hid (by simp only [decide_eq_decide]; omega)
  have HL := Lib.hid hm
  have TL : Hid ((o.take m).length = m) := Lib.hid (by rw [List.length_take]; omega)
  generalize topO o = t at *
  clear hr hl hm
  go_enter Tryz.func91, Tryz.ntmps91
  go_wp2_with (first
    | (at_builtin; refine wpList_append_newL rfl (.tmp 22) (.tmp 23) rfl rfl _ rfl (by simp) (.slice (some ad) (m + 1) c) o rfl (row_ints HR.out) (m + 1) (by exact HL.out) (by omega) ?_
       intro B1 m1 w1 hr1 hb1
       have R1 := Lib.hid hr1
       have S1 := Lib.hid hb1
       have zz : w.heap.size ≤ w1.heap.size := hb1.size
       clear hr1 hb1)
    | (at_builtin; refine wpList_append_ints rfl (.tmp 24) (.tmp 26) rfl rfl w.heap.size (.slice B1 (m + 1) m1) o (row_alloc R1.out _) _ [10] (ints_one _ _) rfl rfl (by have := HL.out; simp <;> omega) (by simp <;> omega) ?_
       intro v2 w2 hr2 hg2 _
       have S2 : Hid (Below w.heap.size w w2) := Lib.hid ((below_alloc S1.out _).grown hg2 (by simp <;> omega) (fun k hk => (row_lt R1.out k hk).1))
       obtain ⟨_, C, j, hv, _⟩ := row_ints hr2
       rw [show ((o : List Int) ++ [(10 : Int)]).length = (m + 1) + 1 by rw [List.length_append, HL.out, List.length_singleton]] at hv
       subst hv
       have R2 := Lib.hid hr2
       clear hr2 hg2))
  go_ret2
  exact ⟨_, by rw [EF.out, ED.out]; rfl, by rw [EN.out]; exact row_base R2.out hlo, S2.out⟩

set_option maxRecDepth 100000 in
set_option maxHeartbeats 400000 in
theorem step_11_0 (w : World) (lo : Nat) (v : Value) (o : List Int) (hr : Row w lo v o) (hl : o.length ≤ 1000000) (hlo : lo ≤ w.heap.size) (h0 : o = []) :
    Calls Tryz.prog 91 #[v, .int .i64 11] w (StepOf w lo o 11) := by
  have HR := Lib.hid hr
  have HI := Lib.hid (row_ints hr)
  have EF : Hid (fitB o 11 = (topO o == 10)) := Lib.hid rfl
  have EN : Hid (nextO o 11 = o.dropLast) := Lib.hid rfl
  subst h0
  obtain ⟨_, A, c, rfl, _⟩ := row_ints hr
  have HC : Hid (Row w lo (.slice A 0 c) ([] : List Int)) := Lib.hid hr
  have HD : Hid (([] : List Int).dropLast = []) := Lib.hid rfl
  have z1 : IntKind.i64.wrap (((0 : Nat) : Int) - 1) = -1 := by decide
  clear hr hl
  simp only [List.length_nil] at *
  go_enter Tryz.func91, Tryz.ntmps91
  go_wp2
  go_ret2
  exact ⟨_, by rw [EF.out]; rfl, by rw [EN.out, HD.out]; exact HC.out, Below.refl _ _⟩

set_option maxRecDepth 100000 in
set_option maxHeartbeats 400000 in
theorem step_11_1 (w : World) (lo : Nat) (v : Value) (o : List Int) (hr : Row w lo v o) (hl : o.length ≤ 1000000) (hlo : lo ≤ w.heap.size) (hm : o.length = 0 + 1) :
    Calls Tryz.prog 91 #[v, .int .i64 11] w (StepOf w lo o 11) := by
  have HR := Lib.hid hr
  have HI := Lib.hid (row_ints hr)
  have EF : Hid (fitB o 11 = (topO o == 10)) := Lib.hid rfl
  have EN : Hid (nextO o 11 = o.dropLast) := Lib.hid rfl
  obtain ⟨ad, c, rfl, hx⟩ := ints_top (row_ints hr) hm
  have HC : Hid (Row w lo (.slice (some ad) 0 c) (o.take 0)) := Lib.hid (row_cut hr (by omega))
  have HD : Hid (o.dropLast = o.take 0) := Lib.hid (drop_of hm)
  have hcap := row_room hr
  rw [Addr.add_zero'] at hx
  have z1 : IntKind.i64.wrap (((0 + 1 : Nat) : Int) - 1) = 0 := by decide
  have HL := Lib.hid hm
  have TL : Hid ((o.take 0).length = 0) := Lib.hid (by rw [List.length_take]; omega)
  generalize topO o = t at *
  clear hr hl hm
  go_enter Tryz.func91, Tryz.ntmps91
  go_wp2
  go_ret2
  exact ⟨_, by rw [EF.out]; rfl, by rw [EN.out, HD.out]; exact HC.out, Below.refl _ _⟩

set_option maxRecDepth 100000 in
set_option maxHeartbeats 400000 in
theorem step_11_2 (w : World) (lo : Nat) (v : Value) (o : List Int) (hr : Row w lo v o) (hl : o.length ≤ 1000000) (hlo : lo ≤ w.heap.size) (m : Nat) (hm : o.length = m + 1) (hp : 0 < m) :
    Calls Tryz.prog 91 #[v, .int .i64 11] w (StepOf w lo o 11) := by
  have HR := Lib.hid hr
  have HI := Lib.hid (row_ints hr)
  have EF : Hid (fitB o 11 = (topO o == 10)) := Lib.hid rfl
  have EN : Hid (nextO o 11 = o.dropLast) := Lib.hid rfl
  obtain ⟨ad, c, rfl, hx⟩ := ints_top (row_ints hr) hm
  have HC : Hid (Row w lo (.slice (some ad) m c) (o.take m)) := Lib.hid (row_cut hr (by omega))
  have HD : Hid (o.dropLast = o.take m) := Lib.hid (drop_of hm)
  have hcap := row_room hr
  have hm2 : m ≤ 1000000 := by omega
  have z1 : IntKind.i64.wrap (((m + 1 : Nat) : Int) - 1) = (m : Int) := by rw [show ((m + 1 : Nat) : Int) - 1 = m by omega]; exact IntWalk.i64_in _ (by omega)
  have z2 : (0 : Int) < (m : Int) := by omega
  have z3 : (m : Int) < ((m + 1 : Nat) : Int) := by omega
  have z4 : (0 : Int) < ((m + 1 : Nat) : Int) := by omega
  have HL := Lib.hid hm
  have TL : Hid ((o.take m).length = m) := Lib.hid (by rw [List.length_take]; omega)
  generalize topO o = t at *
  clear hr hl hm
  go_enter Tryz.func91, Tryz.ntmps91
  go_wp2
  go_ret2
  exact ⟨_, by rw [EF.out]; rfl, by rw [EN.out, HD.out]; exact HC.out, Below.refl _ _⟩

set_option maxRecDepth 100000 in
set_option maxHeartbeats 400000 in
theorem step_12_0 (w : World) (lo : Nat) (v : Value) (o : List Int) (hr : Row w lo v o) (hl : o.length ≤ 1000000) (hlo : lo ≤ w.heap.size) (h0 : o = []) :
    Calls Tryz.prog 91 #[v, .int .i64 12] w (StepOf w lo o 12) := by
  have HR := Lib.hid hr
  have HI := Lib.hid (row_ints hr)
  have EF : Hid (fitB o 12 = (topO o == 10)) := Lib.hid rfl
  have EN : Hid (nextO o 12 = o.dropLast) := Lib.hid rfl
  subst h0
  obtain ⟨_, A, c, rfl, _⟩ := row_ints hr
  have HC : Hid (Row w lo (.slice A 0 c) ([] : List Int)) := Lib.hid hr
  have HD : Hid (([] : List Int).dropLast = []) := Lib.hid rfl
  have z1 : IntKind.i64.wrap (((0 : Nat) : Int) - 1) = -1 := by decide
  clear hr hl
  simp only [List.length_nil] at *
  go_enter Tryz.func91, Tryz.ntmps91
  go_wp2
  go_ret2
  exact ⟨_, by rw [EF.out]; rfl, by rw [EN.out, HD.out]; exact HC.out, Below.refl _ _⟩

set_option maxRecDepth 100000 in
set_option maxHeartbeats 400000 in
theorem step_12_1 (w : World) (lo : Nat) (v : Value) (o : List Int) (hr : Row w lo v o) (hl : o.length ≤ 1000000) (hlo : lo ≤ w.heap.size) (hm : o.length = 0 + 1) :
    Calls Tryz.prog 91 #[v, .int .i64 12] w (StepOf w lo o 12) := by
  have HR := Lib.hid hr
  have HI := Lib.hid (row_ints hr)
  have EF : Hid (fitB o 12 = (topO o == 10)) := Lib.hid rfl
  have EN : Hid (nextO o 12 = o.dropLast) := Lib.hid rfl
  obtain ⟨ad, c, rfl, hx⟩ := ints_top (row_ints hr) hm
  have HC : Hid (Row w lo (.slice (some ad) 0 c) (o.take 0)) := Lib.hid (row_cut hr (by omega))
  have HD : Hid (o.dropLast = o.take 0) := Lib.hid (drop_of hm)
  have hcap := row_room hr
  rw [Addr.add_zero'] at hx
  have z1 : IntKind.i64.wrap (((0 + 1 : Nat) : Int) - 1) = 0 := by decide
  have HL := Lib.hid hm
  have TL : Hid ((o.take 0).length = 0) := Lib.hid (by rw [List.length_take]; omega)
  generalize topO o = t at *
  clear hr hl hm
  go_enter Tryz.func91, Tryz.ntmps91
  go_wp2
  go_ret2
  exact ⟨_, by rw [EF.out]; rfl, by rw [EN.out, HD.out]; exact HC.out, Below.refl _ _⟩

set_option maxRecDepth 100000 in
set_option maxHeartbeats 400000 in
theorem step_12_2 (w : World) (lo : Nat) (v : Value) (o : List Int) (hr : Row w lo v o) (hl : o.length ≤ 1000000) (hlo : lo ≤ w.heap.size) (m : Nat) (hm : o.length = m + 1) (hp : 0 < m) :
    Calls Tryz.prog 91 #[v, .int .i64 12] w (StepOf w lo o 12) := by
  have HR := Lib.hid hr
  have HI := Lib.hid (row_ints hr)
  have EF : Hid (fitB o 12 = (topO o == 10)) := Lib.hid rfl
  have EN : Hid (nextO o 12 = o.dropLast) := Lib.hid rfl
  obtain ⟨ad, c, rfl, hx⟩ := ints_top (row_ints hr) hm
  have HC : Hid (Row w lo (.slice (some ad) m c) (o.take m)) := Lib.hid (row_cut hr (by omega))
  have HD : Hid (o.dropLast = o.take m) := Lib.hid (drop_of hm)
  have hcap := row_room hr
  have hm2 : m ≤ 1000000 := by omega
  have z1 : IntKind.i64.wrap (((m + 1 : Nat) : Int) - 1) = (m : Int) := by rw [show ((m + 1 : Nat) : Int) - 1 = m by omega]; exact IntWalk.i64_in _ (by omega)
  have z2 : (0 : Int) < (m : Int) := by omega
  have z3 : (m : Int) < ((m + 1 : Nat) : Int) := by omega
  have z4 : (0 : Int) < ((m + 1 : Nat) : Int) := by omega
  have HL := Lib.hid hm
  have TL : Hid ((o.take m).length = m) := Lib.hid (by rw [List.length_take]; omega)
  generalize topO o = t at *
  clear hr hl hm
  go_enter Tryz.func91, Tryz.ntmps91
  go_wp2
  go_ret2
  exact ⟨_, by rw [EF.out]; rfl, by rw [EN.out, HD.out]; exact HC.out, Below.refl _ _⟩

set_option maxRecDepth 100000 in
set_option maxHeartbeats 400000 in
theorem step_13_0 (w : World) (lo : Nat) (v : Value) (o : List Int) (hr : Row w lo v o) (hl : o.length ≤ 1000000) (hlo : lo ≤ w.heap.size) (h0 : o = []) :
    Calls Tryz.prog 91 #[v, .int .i64 13] w (StepOf w lo o 13) := by
  have HR := Lib.hid hr
  have HI := Lib.hid (row_ints hr)
  have EF : Hid (fitB o 13 = true) := Lib.hid rfl
  have EN : Hid (nextO o 13 = o) := Lib.hid rfl
  subst h0
  obtain ⟨_, A, c, rfl, _⟩ := row_ints hr
  have HC : Hid (Row w lo (.slice A 0 c) ([] : List Int)) := Lib.hid hr
  have HD : Hid (([] : List Int).dropLast = []) := Lib.hid rfl
  have z1 : IntKind.i64.wrap (((0 : Nat) : Int) - 1) = -1 := by decide
  clear hr hl
  simp only [List.length_nil] at *
  go_enter Tryz.func91, Tryz.ntmps91
  go_wp2
  go_ret2
  exact ⟨_, by rw [EF.out]; rfl, by rw [EN.out]; exact HR.out, Below.refl _ _⟩

set_option maxRecDepth 100000 in
set_option maxHeartbeats 400000 in
theorem step_13_1 (w : World) (lo : Nat) (v : Value) (o : List Int) (hr : Row w lo v o) (hl : o.length ≤ 1000000) (hlo : lo ≤ w.heap.size) (hm : o.length = 0 + 1) :
    Calls Tryz.prog 91 #[v, .int .i64 13] w (StepOf w lo o 13) := by
  have HR := Lib.hid hr
  have HI := Lib.hid (row_ints hr)
  have EF : Hid (fitB o 13 = true) := Lib.hid rfl
  have EN : Hid (nextO o 13 = o) := Lib.hid rfl
  obtain ⟨ad, c, rfl, hx⟩ := ints_top (row_ints hr) hm
  have HC : Hid (Row w lo (.slice (some ad) 0 c) (o.take 0)) := Lib.hid (row_cut hr (by omega))
  have HD : Hid (o.dropLast = o.take 0) := Lib.hid (drop_of hm)
  have hcap := row_room hr
  rw [Addr.add_zero'] at hx
  have z1 : IntKind.i64.wrap (((0 + 1 : Nat) : Int) - 1) = 0 := by decide
  have HL := Lib.hid hm
  have TL : Hid ((o.take 0).length = 0) := Lib.hid (by rw [List.length_take]; omega)
  generalize topO o = t at *
  clear hr hl hm
  go_enter Tryz.func91, Tryz.ntmps91
  go_wp2
  go_ret2
  exact ⟨_, by rw [EF.out]; rfl, by rw [EN.out]; exact HR.out, Below.refl _ _⟩

set_option maxRecDepth 100000 in
set_option maxHeartbeats 400000 in
theorem step_13_2 (w : World) (lo : Nat) (v : Value) (o : List Int) (hr : Row w lo v o) (hl : o.length ≤ 1000000) (hlo : lo ≤ w.heap.size) (m : Nat) (hm : o.length = m + 1) (hp : 0 < m) :
    Calls Tryz.prog 91 #[v, .int .i64 13] w (StepOf w lo o 13) := by
  have HR := Lib.hid hr
  have HI := Lib.hid (row_ints hr)
  have EF : Hid (fitB o 13 = true) := Lib.hid rfl
  have EN : Hid (nextO o 13 = o) := Lib.hid rfl
  obtain ⟨ad, c, rfl, hx⟩ := ints_top (row_ints hr) hm
  have HC : Hid (Row w lo (.slice (some ad) m c) (o.take m)) := Lib.hid (row_cut hr (by omega))
  have HD : Hid (o.dropLast = o.take m) := Lib.hid (drop_of hm)
  have hcap := row_room hr
  have hm2 : m ≤ 1000000 := by omega
  have z1 : IntKind.i64.wrap (((m + 1 : Nat) : Int) - 1) = (m : Int) := by rw [show ((m + 1 : Nat) : Int) - 1 = m by omega]; exact IntWalk.i64_in _ (by omega)
  have z2 : (0 : Int) < (m : Int) := by omega
  have z3 : (m : Int) < ((m + 1 : Nat) : Int) := by omega
  have z4 : (0 : Int) < ((m + 1 : Nat) : Int) := by omega
  have HL := Lib.hid hm
  have TL : Hid ((o.take m).length = m) := Lib.hid (by rw [List.length_take]; omega)
  generalize topO o = t at *
  clear hr hl hm
  go_enter Tryz.func91, Tryz.ntmps91
  go_wp2
  go_ret2
  exact ⟨_, by rw [EF.out]; rfl, by rw [EN.out]; exact HR.out, Below.refl _ _⟩

theorem sStep_any (w : World) (lo : Nat) (v : Value) (o : List Int) (k : Int) (hr : Row w lo v o) (hl : o.length ≤ 1000000) (hlo : lo ≤ w.heap.size) (hk : 1 ≤ k ∧ k ≤ 13) :
    Calls Tryz.prog 91 #[v, .int .i64 k] w (StepOf w lo o k) := by
  by_cases h0 : o.length = 0
  · have h0 : o = [] := List.eq_nil_of_length_eq_zero h0
    rcases (by omega : k = 1 ∨ k = 2 ∨ k = 3 ∨ k = 4 ∨ k = 5 ∨ k = 6 ∨ k = 7 ∨ k = 8 ∨ k = 9 ∨ k = 10 ∨ k = 11 ∨ k = 12 ∨ k = 13) with rfl | rfl | rfl | rfl | rfl | rfl | rfl | rfl | rfl | rfl | rfl | rfl | rfl
    · exact step_1_0 w lo v o hr hl hlo h0
    · exact step_2_0 w lo v o hr hl hlo h0
    · exact step_3_0 w lo v o hr hl hlo h0
    · exact step_4_0 w lo v o hr hl hlo h0
    · exact step_5_0 w lo v o hr hl hlo h0
    · exact step_6_0 w lo v o hr hl hlo h0
    · exact step_7_0 w lo v o hr hl hlo h0
    · exact step_8_0 w lo v o hr hl hlo h0
    · exact step_9_0 w lo v o hr hl hlo h0
    · exact step_10_0 w lo v o hr hl hlo h0
    · exact step_11_0 w lo v o hr hl hlo h0
    · exact step_12_0 w lo v o hr hl hlo h0
    · exact step_13_0 w lo v o hr hl hlo h0
  by_cases h1 : o.length = 1
  · rcases (by omega : k = 1 ∨ k = 2 ∨ k = 3 ∨ k = 4 ∨ k = 5 ∨ k = 6 ∨ k = 7 ∨ k = 8 ∨ k = 9 ∨ k = 10 ∨ k = 11 ∨ k = 12 ∨ k = 13) with rfl | rfl | rfl | rfl | rfl | rfl | rfl | rfl | rfl | rfl | rfl | rfl | rfl
    · exact step_1_1 w lo v o hr hl hlo h1
    · exact step_2_1 w lo v o hr hl hlo h1
    · exact step_3_1 w lo v o hr hl hlo h1
    · exact step_4_1 w lo v o hr hl hlo h1
    · exact step_5_1 w lo v o hr hl hlo h1
    · exact step_6_1 w lo v o hr hl hlo h1
    · exact step_7_1 w lo v o hr hl hlo h1
    · exact step_8_1 w lo v o hr hl hlo h1
    · exact step_9_1 w lo v o hr hl hlo h1
    · exact step_10_1 w lo v o hr hl hlo h1
    · exact step_11_1 w lo v o hr hl hlo h1
    · exact step_12_1 w lo v o hr hl hlo h1
    · exact step_13_1 w lo v o hr hl hlo h1
  obtain ⟨m, hm⟩ : ∃ m, o.length = m + 1 := ⟨o.length - 1, by omega⟩
  rcases (by omega : k = 1 ∨ k = 2 ∨ k = 3 ∨ k = 4 ∨ k = 5 ∨ k = 6 ∨ k = 7 ∨ k = 8 ∨ k = 9 ∨ k = 10 ∨ k = 11 ∨ k = 12 ∨ k = 13) with rfl | rfl | rfl | rfl | rfl | rfl | rfl | rfl | rfl | rfl | rfl | rfl | rfl
  · exact step_1_2 w lo v o hr hl hlo m hm (by omega)
  · exact step_2_2 w lo v o hr hl hlo m hm (by omega)
  · exact step_3_2 w lo v o hr hl hlo m hm (by omega)
  · exact step_4_2 w lo v o hr hl hlo m hm (by omega)
  · exact step_5_2 w lo v o hr hl hlo m hm (by omega)
  · exact step_6_2 w lo v o hr hl hlo m hm (by omega)
  · exact step_7_2 w lo v o hr hl hlo m hm (by omega)
  · exact step_8_2 w lo v o hr hl hlo m hm (by omega)
  · exact step_9_2 w lo v o hr hl hlo m hm (by omega)
  · exact step_10_2 w lo v o hr hl hlo m hm (by omega)
  · exact step_11_2 w lo v o hr hl hlo m hm (by omega)
  · exact step_12_2 w lo v o hr hl hlo m hm (by omega)
  · exact step_13_2 w lo v o hr hl hlo m hm (by omega)

end Go.Proofs.YtkcogfgjabemfaaGreatDoor

namespace Go.Proofs.YtkcogfgjabemfaaGreatDoor
open Go.RowKit
set_option linter.unusedVariables false
set_option linter.unusedSimpArgs false

theorem row_fresh (w : World) {base : Nat} (hb : base ≤ w.heap.size) : Row (w.alloc (.cells #[] 3)) base (.slice (some ⟨w.heap.size, 0, none⟩) 0 0) [] :=
  World.ownsRow_made w #[] 0 hb (by unfold maxLen; omega) rfl

theorem irow_room {w : World} {lo n k : Nat} {A : Option Addr} {Q : List It} (h : IRow w lo (.slice A n k) Q) : n ≤ k := by
  rcases h.2 with ⟨hv, h0⟩ | ⟨g', cap', cur, hv, hb', hg, h1, h2, h3, h4⟩
  · simp only [Value.slice.injEq] at hv
    omega
  · simp only [Value.slice.injEq] at hv
    obtain ⟨_, rfl, rfl⟩ := hv
    omega

/-- What l07Check comes to: the first item that does not fit. -/
def placeI (Q : List It) : Int × Int := if (goO Q []).1 < Q.length ∨ 0 < (goO Q []).2.length then (((goO Q []).1 : Int), 12) else (0, 0)

set_option maxRecDepth 100000 in
set_option maxHeartbeats 2000000 in
theorem sPlace_any (v : Value) (Q : List It) (w : World) (hv : Its w v Q) (hl : Q.length ≤ 60) (hq : ∀ x ∈ Q, itB x = true) :
    Calls Tryz.prog 69 #[v] w (TwoOf w (placeI Q)) := by
  have HV := Lib.hid hv
  have HQ := Lib.hid hq
  obtain ⟨_, A, cap, rfl, _⟩ := hv
  clear hq
  have R0 : Hid (Row (w.alloc (.cells #[] 3)) w.heap.size (.slice (some ⟨w.heap.size, 0, none⟩) 0 0) []) := Lib.hid (row_fresh w (Nat.le_refl _))
  have B0 : Hid (Below w.heap.size w (w.alloc (.cells #[] 3))) := Lib.hid (below_alloc (Below.refl _ _) _)
  go_enter Tryz.func69, Tryz.ntmps69
  go_wp2
  go_loopw [4, 5] (fun v i wr => ∃ (k : Nat) (o : List Int), k ≤ Q.length ∧ i = .int .i64 k ∧ Got Q k o ∧ Row wr w.heap.size v o ∧ Below w.heap.size w wr) (fun _ i _ => Q.length - (intOf i).toNat)
  case atStart => exact ⟨0, [], Nat.zero_le _, rfl, got_start Q, R0.out, B0.out⟩
  case round =>
    obtain ⟨k, o, hk, rfl, hg, hm, hb⟩ := hrel
    have HG := Lib.hid hg
    have HM := Lib.hid hm
    have HB := Lib.hid hb
    have zb : w.heap.size ≤ wr.heap.size := hb.size
    have ho : o.length ≤ 60 := by have := got_len hg; omega
    obtain ⟨_, C, c, rfl, _⟩ := row_ints hm
    clear hg hb hm
    by_cases hlt : k < Q.length
    · obtain ⟨_, A', ca', e', hc⟩ := its_below HV.out HB.out
      simp only [Value.slice.injEq, true_and] at e'
      obtain ⟨rfl, rfl⟩ := e'
      obtain ⟨ga, rfl, ha⟩ := hc (by omega)
      obtain ⟨c0, c1⟩ := ha k hlt
      have hi := itB_kind (HQ.out Q[k] (List.getElem_mem hlt))
      clear ha hc
      go_wp2_with fail
      refine (sStep_any _ w.heap.size _ o Q[k].k HM.out (by omega) zb hi).mono ?_
      rintro e w2 ⟨u, rfl, hr2, hb2⟩
      have B2 := Lib.hid (below_step HB.out hb2)
      have R2 := Lib.hid hr2
      clear hb2 c0 c1 hr2
      by_cases hf : fitB o Q[k].k = true
      · have G2 := Lib.hid (got_fit HG.out hlt hf)
        rw [hf]
        clear hf
        go_wp2
        go_roundw
        case rel => exact ⟨k + 1, _, by omega, by go_num, G2.out, R2.out, B2.out⟩
        case measure => simp [intOf]; omega
      · have hf : fitB o Q[k].k = false := by simpa using hf
        have G2 := Lib.hid (got_not HG.out hlt hf)
        have EP : Hid (placeI Q = ((k : Int), 12)) := Lib.hid (by unfold placeI; rw [G2.out]; rw [if_pos (.inl hlt)])
        rw [hf]
        clear hf
        go_wp2
        go_ret2
        exact ⟨by rw [EP.out]; rfl, B2.out⟩
    · obtain rfl : k = Q.length := by omega
      have G2 := Lib.hid (got_end HG.out)
      clear hlt
      by_cases hz : o.length = 0
      · obtain rfl : o = [] := List.eq_nil_of_length_eq_zero hz
        have EP : Hid (placeI Q = (0, 0)) := Lib.hid (by unfold placeI; rw [G2.out]; rw [if_neg (by simp)])
        clear hz ho
        go_wp2
        go_ret2
        exact ⟨by rw [EP.out]; rfl, HB.out⟩
      · have EP : Hid (placeI Q = ((Q.length : Int), 12)) := Lib.hid (by unfold placeI; rw [G2.out]; rw [if_pos (.inr (by simp; omega))])
        have t1 : (0 : Int) < (o.length : Int) := by omega
        clear hz
        go_wp2
        go_ret2
        exact ⟨by rw [EP.out]; rfl, HB.out⟩

/-- A list of numbers and a code. -/
def ListCOf (w : World) (p : List Int × Int) (e : Ending) (w' : World) : Prop := ∃ v, e = .returned (.tuple #[v, .int .i64 p.2]) ∧ Row w' w.heap.size v p.1 ∧ Below w.heap.size w w'

theorem openI_small (Q : List It) (p : Int) : (openI Q p).1.length ≤ 1000 := by
  unfold openI
  by_cases h0 : askI Q = 0
  · obtain ⟨h1, _⟩ := askI_ok h0
    have h2 := goO_len (Q.take p.toNat) []
    rw [List.length_take] at h2
    rw [if_neg (by simpa using h0)]
    split
    · simp
    · split
      · simp
      · show (goO (Q.take p.toNat) []).2.length ≤ 1000
        simp only [List.length_nil, Nat.zero_add] at h2; omega
  · rw [if_pos h0]; simp

end Go.Proofs.YtkcogfgjabemfaaGreatDoor

namespace Go.Proofs.YtkcogfgjabemfaaGreatDoor
open Go.RowKit
set_option linter.unusedVariables false
set_option linter.unusedSimpArgs false

/-- A row made. -/
def RowMOf (w : World) (c : List Int) (e : Ending) (w' : World) : Prop := ∃ v, e = .returned v ∧ Row w' w.heap.size v c ∧ Below w.heap.size w w'

set_option maxRecDepth 100000 in
set_option maxHeartbeats 1000000 in
theorem sMake_any (v : Value) (Q : List It) (a s : Int) (w : World) (hv : Its w v Q) (h4 : Q.length ≤ 60) (hq : ∀ x ∈ Q, itB x = true) (hg : (goO Q []).1 = Q.length) (ha : 0 ≤ a ∧ a ≤ 400) :
    Calls Tryz.prog 70 #[v, .int .i64 a, .int .i64 s] w (RowMOf w ((runC a s Q).1 ++ [53])) := by
  have HV := Lib.hid hv
  have HQ := Lib.hid hq
  have HG := Lib.hid hg
  obtain ⟨hl, A, cap, rfl, _⟩ := hv
  clear hq hg
  have A0 : Hid (MdAt (w.alloc (.cells #[.int .i64 a, .slice none 0 0, .slice none 0 0] 139)) w.heap.size w.heap.size a [] []) := Lib.hid ⟨_, _, whole_new w _ _, row_nil _ _, prow_nil _ _ _, Nat.le_refl _⟩
  have B0 : Hid (Below w.heap.size w (w.alloc (.cells #[.int .i64 a, .slice none 0 0, .slice none 0 0] 139))) := Lib.hid (below_alloc (Below.refl _ _) _)
  go_enter Tryz.func70, Tryz.ntmps70
  go_wp2
  go_loopw [8] (fun i wr => ∃ (k : Nat) (c : List Int) (m : List It), k ≤ Q.length ∧ i = .int .i64 k ∧ Made a s Q k c m ∧ MdAt wr w.heap.size w.heap.size a c m ∧ Below w.heap.size w wr) (fun i _ => Q.length - (intOf i).toNat)
  case atStart => exact ⟨0, [], [], Nat.zero_le _, rfl, made_start _ _ _, A0.out, B0.out⟩
  case round =>
    obtain ⟨k, c, m, hk, rfl, hm, hA, hb⟩ := hrel
    have HM := Lib.hid hm
    have HA := Lib.hid hA
    have HB := Lib.hid hb
    have sm := made_small hm h4
    clear hm hA hb
    by_cases hlt : k < Q.length
    · obtain ⟨_, A', ca', e', hc⟩ := its_below HV.out HB.out
      simp only [Value.slice.injEq, true_and] at e'
      obtain ⟨rfl, rfl⟩ := e'
      obtain ⟨ga, rfl, hx⟩ := hc (by omega)
      obtain ⟨c0, c1⟩ := hx k hlt
      have hi := itB_kind (HQ.out Q[k] (List.getElem_mem hlt))
      have ND := Lib.hid (made_need HM.out HG.out hlt)
      have NX := Lib.hid (made_next HM.out HG.out hlt hi)
      clear hx hc
      go_wp2_with fail
      refine (item_any _ w.heap.size w.heap.size a s Q[k] c m HA.out ha (by omega) (by omega) hi ND.out).mono ?_
      rintro e w3 ⟨rfl, hA3, hb3⟩
      have A3 := Lib.hid hA3
      have B4 := Lib.hid (HB.out.trans hb3)
      clear hA3 hb3 c0 c1
      generalize cStep a s Q[k] c m = r at *
      go_wp2
      go_roundw
      case rel => exact ⟨k + 1, _, _, by omega, by go_num, NX.out, A3.out, B4.out⟩
      case measure => simp [intOf]; omega
    · obtain rfl : k = Q.length := by omega
      obtain ⟨hc1, hc2⟩ := made_end HM.out
      have HC1 := Lib.hid hc1
      clear hlt hc1 hc2
      go_wp2_with fail
      refine (sW_EXIT _).mono ?_
      rintro e w2 ⟨rfl, hb2⟩
      have A2 := Lib.hid (mdAt_below HA.out hb2)
      have B2 := Lib.hid (below_step HB.out hb2)
      clear hb2
      go_wp2_with fail
      refine (sPut_any _ w.heap.size w.heap.size a c m _ [53] (mdAt_alloc A2.out _) (lit1 _ (by simp)) (by simp; omega)).mono ?_
      rintro e w3 ⟨⟨rfl, hA3, hb3⟩, _⟩
      have B4 := Lib.hid ((below_alloc B2.out _).trans hb3)
      obtain ⟨vc, vm, hw3, hr3, _, _⟩ := hA3
      have R3 := Lib.hid hr3
      have e0 := whole_cell hw3 1
      have zg := whole_lt hw3
      obtain ⟨_, C, cc, rfl, _⟩ := row_ints hr3
      rw [show (c ++ [(53 : Int)]).length = c.length + 1 by simp] at R3
      clear hw3 hr3 hb3
      go_wp2
      go_ret
      exact ⟨_, rfl, by rw [← HC1.out]; exact R3.out, B4.out⟩

end Go.Proofs.YtkcogfgjabemfaaGreatDoor

namespace Go.Proofs.YtkcogfgjabemfaaGreatDoor
open Go.RowKit
set_option linter.unusedVariables false
set_option linter.unusedSimpArgs false

/-- 'make([]int, 0, n)'. -/
theorem made_room (w : World) (n : Nat) (h0 : n ≤ 1000) : (Instr.makeSlice 23 (.int .i64 0) (.int .i64 (n : Int))).run Tryz.prog w = .ok (.slice (some ⟨w.heap.size, 0, none⟩) 0 n) (w.alloc (.cells (madeCells (Value.int .i64 0).cells n) 3)) := by
  obtain ⟨i0, hi0, hz0, hz1, hz2⟩ := info_parts own_info3
  have h := run_make (P := Tryz.prog) w 23 3 i0 _ Tryz.underlying23 hi0 hz0 .i64 .i64 0 (n : Int) (Int.le_refl _) (by omega) (by rw [hz2]; omega) (by omega)
  rw [hz1, Nat.mul_one] at h
  simpa only [Int.toNat_zero, Int.toNat_natCast] using h

set_option maxRecDepth 100000 in
set_option maxHeartbeats 2000000 in
theorem iComp_any (v : Value) (Q : List It) (a s : Int) (w : World) (hv : Its w v Q) (ha : (Lit.int .i64 a).wf = true) (hs : (Lit.int .i64 s).wf = true) :
    Calls Tryz.prog 56 #[v, .int .i64 a, .int .i64 s] w (ListCOf w (compI Q a s)) := by
  have HV := Lib.hid hv
  by_cases h0 : (chkI Q).2 = 0
  · have H0 := Lib.hid h0
    obtain ⟨h1, h2, h3⟩ := chkI_ok h0
    obtain ⟨h4, h5⟩ := askI_ok h1
    have HQ := Lib.hid h5
    have HG := Lib.hid h2
    have EA : Hid (compI Q a s = if (inB a 0 400 && inB s 1 103) = false then ([], 4) else if 400 < a + (sumI Q + 1 : Nat) then ([], 7) else ((runC a s Q).1 ++ [53], 0)) := Lib.hid (by unfold compI; rw [if_neg (by simpa using h0)])
    obtain ⟨c0, hc0⟩ : ∃ c0, chkI Q = (c0, 0) := ⟨(chkI Q).1, by rw [← h0]⟩
    have HC := Lib.hid hc0
    clear h0 h1 h2 h3 h5 hc0
    by_cases hneg : a < 0
    · have EF : Hid (compI Q a s = ([], 4)) := Lib.hid (by rw [EA.out, if_pos]; unfold inB; rw [decide_eq_false (by omega)]; rfl)
      go_enter Tryz.func56, Tryz.ntmps56
      go_wp2_with fail
      refine (iCheck_any _ Q _ HV.out).mono ?_
      rintro e w1 ⟨rfl, hb1⟩
      rw [HC.out]
      go_wp2
      go_ret2
      exact ⟨_, by rw [EF.out]; rfl, by rw [EF.out]; exact row_nil _ _, hb1⟩
    by_cases hbig : 400 < a
    · have EF : Hid (compI Q a s = ([], 4)) := Lib.hid (by rw [EA.out, if_pos]; unfold inB; rw [decide_eq_false (by omega)]; rfl)
      go_enter Tryz.func56, Tryz.ntmps56
      go_wp2_with fail
      refine (iCheck_any _ Q _ HV.out).mono ?_
      rintro e w1 ⟨rfl, hb1⟩
      rw [HC.out]
      go_wp2
      go_ret2
      exact ⟨_, by rw [EF.out]; rfl, by rw [EF.out]; exact row_nil _ _, hb1⟩
    by_cases hself : inB s 1 103 = false
    · have EF : Hid (compI Q a s = ([], 4)) := Lib.hid (by rw [EA.out, if_pos]; rw [hself]; simp)
      have HS := Lib.hid hself
      clear hself
      go_enter Tryz.func56, Tryz.ntmps56
      go_wp2_with fail
      refine (iCheck_any _ Q _ HV.out).mono ?_
      rintro e w1 ⟨rfl, hb1⟩
      rw [HC.out]
      go_wp2_with (refine (wordNumber_any _ _).mono ?_; rintro e w' ⟨rfl, rfl⟩; rw [HS.out])
      go_ret2
      exact ⟨_, by rw [EF.out]; rfl, by rw [EF.out]; exact row_nil _ _, hb1⟩
    have hself : inB s 1 103 = true := by simpa using hself
    have EB : Hid (compI Q a s = if 400 < a + (sumI Q + 1 : Nat) then ([], 7) else ((runC a s Q).1 ++ [53], 0)) := Lib.hid (by rw [EA.out, if_neg]; rw [hself]; unfold inB; rw [decide_eq_true (by omega)]; simp)
    have HS := Lib.hid hself
    have hsm := sumI_le Q
    clear hself EA
    by_cases hfull : 400 < a + (sumI Q + 1 : Nat)
    · have EF : Hid (compI Q a s = ([], 7)) := Lib.hid (by rw [EB.out, if_pos hfull])
      clear EB
      go_enter Tryz.func56, Tryz.ntmps56
      go_wp2_with fail
      refine (iCheck_any _ Q _ HV.out).mono ?_
      rintro e w1 ⟨rfl, hb1⟩
      rw [HC.out]
      go_wp2_with (go_at_call 82; refine (wordNumber_any _ _).mono ?_; rintro e w' ⟨rfl, rfl⟩; rw [HS.out])
      refine (sizeOfCode_any _ Q _ (its_below HV.out hb1) h4).mono ?_
      rintro e w2 ⟨rfl, hb2⟩
      go_wp2
      go_ret2
      exact ⟨_, by rw [EF.out]; rfl, by rw [EF.out]; exact row_nil _ _, below_step hb1 hb2⟩
    have EF : Hid (compI Q a s = ((runC a s Q).1 ++ [53], 0)) := Lib.hid (by rw [EB.out, if_neg hfull])
    clear EB
    obtain ⟨n, rfl⟩ : ∃ n : Nat, a = n := ⟨a.toNat, by omega⟩
    have hn : n ≤ 400 := by omega
    obtain ⟨z, hz⟩ : ∃ z, z = sumI Q + 1 := ⟨_, rfl⟩
    have HZ := Lib.hid hz
    rw [← hz] at hfull
    have hz2 : z ≤ 400 := by omega
    have MK := Lib.hid (fun W : World => made_room W z (by omega))
    clear hz hneg hbig
    go_enter Tryz.func56, Tryz.ntmps56
    go_wp2_with fail
    refine (iCheck_any _ Q _ HV.out).mono ?_
    rintro e w1 ⟨rfl, hb1⟩
    rw [HC.out]
    go_wp2_with (go_at_call 82; refine (wordNumber_any _ _).mono ?_; rintro e w' ⟨rfl, rfl⟩; rw [HS.out])
    refine (sizeOfCode_any _ Q _ (its_below HV.out hb1) h4).mono ?_
    rintro e w2 ⟨rfl, hb2⟩
    have B2 := Lib.hid (below_step hb1 hb2)
    have zz : w.heap.size ≤ w2.heap.size := B2.out.size
    clear hb1 hb2
    rw [← HZ.out]
    have mk := MK.out w2
    have A0 : Hid (AsAt ((w2.alloc (.cells (madeCells (Value.int .i64 0).cells z) 3)).alloc (.cells #[.slice (some ⟨w2.heap.size, 0, none⟩) 0 z, .int .i64 (n : Int), .int .i64 s, .slice none 0 0] 126)) w.heap.size (w2.heap.size + 1) n s [] []) := Lib.hid (by
      have k1 := whole_new (w2.alloc (.cells (madeCells (Value.int .i64 0).cells z) 3)) 126 #[.slice (some ⟨w2.heap.size, 0, none⟩) 0 z, .int .i64 (n : Int), .int .i64 s, .slice none 0 0]
      rw [show (w2.alloc (.cells (madeCells (Value.int .i64 0).cells z) 3)).heap.size = w2.heap.size + 1 from Array.size_push ..] at k1
      have k0 : Row (w2.alloc (.cells (madeCells (Value.int .i64 0).cells z) 3)) w.heap.size (.slice (some ⟨w2.heap.size, 0, none⟩) 0 z) [] := World.ownsRow_made w2 _ z zz (by unfold maxLen; omega) (by rw [size_madeCells, Nat.mul_one])
      exact ⟨_, _, k1, row_alloc k0 _, prow_nil _ _ _, by omega⟩)
    have B3 : Hid (Below w.heap.size w ((w2.alloc (.cells (madeCells (Value.int .i64 0).cells z) 3)).alloc (.cells #[.slice (some ⟨w2.heap.size, 0, none⟩) 0 z, .int .i64 (n : Int), .int .i64 s, .slice none 0 0] 126))) := Lib.hid (below_alloc (below_alloc B2.out _) _)
    obtain ⟨hl, A, cap, rfl, _⟩ := hv
    go_wp2
    generalize w2.heap.size + 1 = G at *
    go_loopw [46] (fun i wr => ∃ (k : Nat) (c : List Int) (m : List It), k ≤ Q.length ∧ i = .int .i64 k ∧ Made n s Q k c m ∧ AsAt wr w.heap.size G n s c m ∧ Below w.heap.size w wr) (fun i _ => Q.length - (intOf i).toNat)
    case atStart => exact ⟨0, [], [], Nat.zero_le _, rfl, made_start _ _ _, A0.out, B3.out⟩
    case round =>
      obtain ⟨k, c, m, hk, rfl, hm, hA, hb⟩ := hrel
      have HM := Lib.hid hm
      have HA := Lib.hid hA
      have HB := Lib.hid hb
      have sm := made_small hm h4
      clear hm hA hb
      by_cases hlt : k < Q.length
      · obtain ⟨_, A', ca', e', hc⟩ := its_below HV.out HB.out
        simp only [Value.slice.injEq, true_and] at e'
        obtain ⟨rfl, rfl⟩ := e'
        obtain ⟨ga, rfl, hx⟩ := hc (by omega)
        obtain ⟨c0, c1⟩ := hx k hlt
        have hi := itB_kind (HQ.out Q[k] (List.getElem_mem hlt))
        have ND := Lib.hid (made_need HM.out HG.out hlt)
        have NX := Lib.hid (made_next HM.out HG.out hlt hi)
        clear hx hc
        go_wp2_with fail
        refine (add_any _ w.heap.size G n s Q[k] c m (asAt_alloc HA.out _) (by omega) (by omega) (by omega) hi ND.out).mono ?_
        rintro e w3 ⟨rfl, hA3, hb3⟩
        have A3 := Lib.hid hA3
        have B4 := Lib.hid ((below_alloc HB.out _).trans hb3)
        clear hA3 hb3 c0 c1
        generalize cStep n s Q[k] c m = r at *
        go_wp2
        go_roundw
        case rel => exact ⟨k + 1, _, _, by omega, by go_num, NX.out, A3.out, B4.out⟩
        case measure => simp [intOf]; omega
      · obtain rfl : k = Q.length := by omega
        obtain ⟨hc1, hc2⟩ := made_end HM.out
        have HC1 := Lib.hid hc1
        clear hlt hc1 hc2
        go_wp2_with fail
        refine (emit_any _ w.heap.size G n s c m _ [53] (asAt_alloc HA.out _) (lit1 _ (by simp)) (by simp; omega)).mono ?_
        rintro e w3 ⟨rfl, hA3, hb3⟩
        have B4 := Lib.hid ((below_alloc HB.out _).trans hb3)
        obtain ⟨vc, vm, hw3, hr3, _, _⟩ := hA3
        have R3 := Lib.hid hr3
        have e0 := whole_cell hw3 0
        have zg := whole_lt hw3
        obtain ⟨_, C, cc, rfl, _⟩ := row_ints hr3
        rw [show (c ++ [(53 : Int)]).length = c.length + 1 by simp] at R3
        clear hw3 hr3 hb3
        go_wp2
        go_ret2
        exact ⟨_, by rw [EF.out]; rfl, by rw [EF.out, ← HC1.out]; exact R3.out, B4.out⟩
  · have EF : Hid (compI Q a s = ([], (chkI Q).2)) := Lib.hid (by unfold compI; rw [if_pos h0])
    have t0 : ((chkI Q).2 != 0) = true := by simpa using h0
    clear h0
    go_enter Tryz.func56, Tryz.ntmps56
    go_wp2_with fail
    refine (iCheck_any _ Q _ HV.out).mono ?_
    rintro e w1 ⟨rfl, hb1⟩
    generalize chkI Q = r at *
    go_wp2
    go_ret2
    exact ⟨_, by rw [EF.out]; rfl, by rw [EF.out]; exact row_nil _ _, hb1⟩

end Go.Proofs.YtkcogfgjabemfaaGreatDoor
