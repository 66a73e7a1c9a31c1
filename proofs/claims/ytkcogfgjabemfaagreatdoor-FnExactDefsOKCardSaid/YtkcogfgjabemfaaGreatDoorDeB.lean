/- The laws' helpers on deeds: alike, marks laid, marks found. -/
import Derived.Test.YtkcogfgjabemfaaGreatDoorDeA
import Derived.WalkSmall
import Derived.Deep.RegionHeld3
namespace Go.Proofs.YtkcogfgjabemfaaGreatDoor
open Go.RowKit
set_option linter.unusedVariables false
set_option linter.unusedSimpArgs false

set_option maxRecDepth 100000 in
set_option maxHeartbeats 1000000 in
theorem eqDeed_same (x : Dd) (w : World) :
    Calls Tryz.prog 86 #[.agg #[.int .i64 x.p, .int .i64 x.a, .int .i64 x.b, .int .i64 x.r], .agg #[.int .i64 x.p, .int .i64 x.a, .int .i64 x.b, .int .i64 x.r]] w fun e w' => e = .returned (.bool true) ∧ Below w.heap.size w w' := by
  have tp : (x.p != x.p) = false := by simp
  have ta : (x.a != x.a) = false := by simp
  have tb : (x.b != x.b) = false := by simp
  have tr : (x.r != x.r) = false := by simp
  go_enter Tryz.func86, Tryz.ntmps86
  go_wp2
  go_ret
  exact ⟨rfl, below_alloc (below_alloc (Below.refl _ _) _) _⟩

set_option maxRecDepth 100000 in
set_option maxHeartbeats 2000000 in
theorem eqDeedS_same (u v : Value) (Q : List Dd) (w : World) (hu : Dds w u Q) (hv : Dds w v Q) :
    Calls Tryz.prog 60 #[u, v] w fun e w' => e = .returned (.bool true) ∧ Below w.heap.size w w' := by
  have HU := Lib.hid hu
  have HV := Lib.hid hv
  obtain ⟨hl, A, ca, rfl, _⟩ := hu
  obtain ⟨_, B, cb, rfl, _⟩ := hv
  unfold maxLen at hl
  have z0 : ((Q.length : Int) != (Q.length : Int)) = false := by simp
  go_enter Tryz.func60, Tryz.ntmps60
  go_wp2
  clear z0
  go_loopw [5] (fun i wr => ∃ k : Nat, k ≤ Q.length ∧ i = .int .i64 k ∧ Below w.heap.size w wr) (fun i _ => Q.length - (intOf i).toNat)
  case atStart => exact ⟨0, Nat.zero_le _, rfl, Below.refl _ _⟩
  case round =>
    obtain ⟨k, hk, rfl, hb⟩ := hrel
    have HB := Lib.hid hb
    clear hb
    by_cases hlt : k < Q.length
    · obtain ⟨_, A', ca', e', hc⟩ := dds_below HU.out HB.out
      simp only [Value.slice.injEq, true_and] at e'
      obtain ⟨rfl, rfl⟩ := e'
      obtain ⟨ga, rfl, ha⟩ := hc (by omega)
      obtain ⟨_, B', cb', e', hc⟩ := dds_below HV.out HB.out
      simp only [Value.slice.injEq, true_and] at e'
      obtain ⟨rfl, rfl⟩ := e'
      obtain ⟨gb, rfl, hb⟩ := hc (by omega)
      have WA := ha k hlt
      have WB := hb k hlt
      clear ha hb hc
      generalize Q[k] = x at *
      have KA := Lib.hid WA
      have KB := Lib.hid WB
      obtain ⟨a0, a1, a2, a3⟩ := WA
      obtain ⟨b0, b1, b2, b3⟩ := WB
      go_wp2
      go_region_held3 (fun w' => (w'.cell? (ga.add (k * 4)) = some (.int .i64 x.p) ∧ w'.cell? ⟨(ga.add (k * 4)).block, (ga.add (k * 4)).off + 1, none⟩ = some (.int .i64 x.a) ∧ w'.cell? ⟨(ga.add (k * 4)).block, (ga.add (k * 4)).off + 2, none⟩ = some (.int .i64 x.b) ∧ w'.cell? ⟨(ga.add (k * 4)).block, (ga.add (k * 4)).off + 3, none⟩ = some (.int .i64 x.r)) ∧ (w'.cell? (gb.add (k * 4)) = some (.int .i64 x.p) ∧ w'.cell? ⟨(gb.add (k * 4)).block, (gb.add (k * 4)).off + 1, none⟩ = some (.int .i64 x.a) ∧ w'.cell? ⟨(gb.add (k * 4)).block, (gb.add (k * 4)).off + 2, none⟩ = some (.int .i64 x.b) ∧ w'.cell? ⟨(gb.add (k * 4)).block, (gb.add (k * 4)).off + 3, none⟩ = some (.int .i64 x.r))) (first | exact ⟨K1, K2⟩ | exact ⟨KA.out, KB.out⟩)
        (first | (go_at_call 86; refine (eqDeed_same x _).mono ?_; rintro e w1 ⟨rfl, hb1⟩; have K1 := ddAt_below hb1 KA.out; have K2 := ddAt_below hb1 KB.out))
      have HB2 := Lib.hid (HB.out.drew.trans (hb1.mono HB.out.drew.size))
      clear hb1 K1 K2 a0 a1 a2 a3 b0 b1 b2 b3
      go_wp2
      go_roundw
      case rel => exact ⟨k + 1, by omega, by go_num, HB2.out⟩
      case measure => simp [intOf]; omega
    · obtain rfl : k = Q.length := by omega
      clear hlt
      go_wp2
      go_ret
      exact ⟨rfl, HB.out⟩

/-- The deed with marks from K on. -/
def markDd (K : Nat) : Dd := ⟨(K : Int), (K : Int) + 1, (K : Int) + 1 + 1, (K : Int) + 1 + 1 + 1⟩

/-- The deeds with marks from K on. -/
def marksD (K n : Nat) : List Dd := (List.range n).map fun j => markDd (K + 4 * j)

theorem marksD_len (K n : Nat) : (marksD K n).length = n := by unfold marksD; simp

theorem marksD_at {K n k : Nat} (h : k < (marksD K n).length) : (marksD K n)[k] = markDd (K + 4 * k) := by
  have e : (marksD K n)[k]? = some (markDd (K + 4 * k)) := by
    unfold marksD
    rw [List.getElem?_map, List.getElem?_range (by rwa [marksD_len] at h)]; rfl
  exact (List.getElem?_eq_some_iff.1 e).2

theorem marksD_succ (K n : Nat) : marksD K (n + 1) = marksD K n ++ [markDd (K + 4 * n)] := by unfold marksD; rw [List.range_succ]; simp

/-- Marks at the first k places. -/
def markedD (K k : Nat) (Q : List Dd) : List Dd := marksD K k ++ Q.drop k

theorem markedD_len {K k : Nat} {Q : List Dd} (h : k ≤ Q.length) : (markedD K k Q).length = Q.length := by unfold markedD; rw [List.length_append, marksD_len, List.length_drop]; omega

theorem markedD_zero (K : Nat) (Q : List Dd) : markedD K 0 Q = Q := by unfold markedD marksD; simp

theorem markedD_end (K : Nat) (Q : List Dd) : markedD K Q.length Q = marksD K Q.length := by unfold markedD; simp

theorem markedD_next {K k : Nat} {Q : List Dd} (h : k < Q.length) : (markedD K k Q).set k (markDd (K + 4 * k)) = markedD K (k + 1) Q := by
  unfold markedD
  rw [marksD_succ, List.drop_eq_getElem_cons h, List.set_append_right _ _ (by rw [marksD_len]; exact Nat.le_refl _), marksD_len, Nat.sub_self, List.set_cons_zero]
  simp

/-- What laying marks leaves: the deeds bear them; no other block that was there has turned. -/
def MarkedDOf (w : World) (base : Nat) (v : Value) (n K : Nat) (e : Ending) (w' : World) : Prop := e = .returned (.int .i64 ((K + 4 * n : Nat) : Int)) ∧ DRow w' base v (marksD K n) ∧ w.grownBy w' v.ownBlock

end Go.Proofs.YtkcogfgjabemfaaGreatDoor
