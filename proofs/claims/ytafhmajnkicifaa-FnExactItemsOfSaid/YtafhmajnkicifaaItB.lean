/- The laws' helpers on items: alike, marks laid. -/
import Derived.Test.YtafhmajnkicifaaItA
import Derived.WalkSmall
import Derived.Deep.RegionHeld3
namespace Go.Proofs.Ytafhmajnkicifaa
open Go.RowKit
set_option linter.unusedVariables false
set_option linter.unusedSimpArgs false

set_option maxRecDepth 100000 in
set_option maxHeartbeats 1000000 in
theorem eqItem_same (x : It) (w : World) :
    Calls Try.prog 38 #[.agg #[.int .i64 x.k, .int .i64 x.v], .agg #[.int .i64 x.k, .int .i64 x.v]] w fun e w' => e = .returned (.bool true) ∧ Below w.heap.size w w' := by
  have tp : (x.k != x.k) = false := by simp
  have ta : (x.v != x.v) = false := by simp
  go_enter Try.func38, Try.ntmps38
  go_wp2
  go_ret
  exact ⟨rfl, below_alloc (below_alloc (Below.refl _ _) _) _⟩

set_option maxRecDepth 100000 in
set_option maxHeartbeats 2000000 in
theorem eqItemS_same (u v : Value) (Q : List It) (w : World) (hu : Its w u Q) (hv : Its w v Q) :
    Calls Try.prog 17 #[u, v] w fun e w' => e = .returned (.bool true) ∧ Below w.heap.size w w' := by
  have HU := Lib.hid hu
  have HV := Lib.hid hv
  obtain ⟨hl, A, ca, rfl, _⟩ := hu
  obtain ⟨_, B, cb, rfl, _⟩ := hv
  unfold maxLen at hl
  have z0 : ((Q.length : Int) != (Q.length : Int)) = false := by simp
  go_enter Try.func17, Try.ntmps17
  go_wp2
  clear z0
  go_loopw [5] (fun i wr => ∃ k : Nat, k ≤ Q.length ∧ i = .int .i64 k ∧ Below w.heap.size w wr) (fun i _ => Q.length - (intOf i).toNat)
  case atStart => exact ⟨0, Nat.zero_le _, rfl, Below.refl _ _⟩
  case round =>
    obtain ⟨k, hk, rfl, hb⟩ := hrel
    have HB := Lib.hid hb
    clear hb
    by_cases hlt : k < Q.length
    · obtain ⟨_, A', ca', e', hc⟩ := its_below HU.out HB.out
      simp only [Value.slice.injEq, true_and] at e'
      obtain ⟨rfl, rfl⟩ := e'
      obtain ⟨ga, rfl, ha⟩ := hc (by omega)
      obtain ⟨_, B', cb', e', hc⟩ := its_below HV.out HB.out
      simp only [Value.slice.injEq, true_and] at e'
      obtain ⟨rfl, rfl⟩ := e'
      obtain ⟨gb, rfl, hb⟩ := hc (by omega)
      have WA := ha k hlt
      have WB := hb k hlt
      clear ha hb hc
      generalize Q[k] = x at *
      have KA := Lib.hid WA
      have KB := Lib.hid WB
      obtain ⟨a0, a1⟩ := WA
      obtain ⟨b0, b1⟩ := WB
      go_wp2
      go_region_held3 (fun w' => (w'.cell? (ga.add (k * 2)) = some (.int .i64 x.k) ∧ w'.cell? ⟨(ga.add (k * 2)).block, (ga.add (k * 2)).off + 1, none⟩ = some (.int .i64 x.v)) ∧ (w'.cell? (gb.add (k * 2)) = some (.int .i64 x.k) ∧ w'.cell? ⟨(gb.add (k * 2)).block, (gb.add (k * 2)).off + 1, none⟩ = some (.int .i64 x.v))) (first | exact ⟨K1, K2⟩ | exact ⟨KA.out, KB.out⟩)
        (first | (go_at_call 38; refine (eqItem_same x _).mono ?_; rintro e w1 ⟨rfl, hb1⟩; have K1 := itAt_below hb1 KA.out; have K2 := itAt_below hb1 KB.out))
      have HB2 := Lib.hid (HB.out.drew.trans (hb1.mono HB.out.drew.size))
      clear hb1 K1 K2 a0 a1 b0 b1
      go_wp2
      go_roundw
      case rel => exact ⟨k + 1, by omega, by go_num, HB2.out⟩
      case measure => simp [intOf]; omega
    · obtain rfl : k = Q.length := by omega
      clear hlt
      go_wp2
      go_ret
      exact ⟨rfl, HB.out⟩

/-- The item with marks from K on. -/
def markIt (K : Nat) : It := ⟨(K : Int), (K : Int) + 1⟩

/-- The items with marks from K on. -/
def imarks (K n : Nat) : List It := (List.range n).map fun j => markIt (K + 2 * j)

theorem imarks_len (K n : Nat) : (imarks K n).length = n := by unfold imarks; simp

theorem imarks_succ (K n : Nat) : imarks K (n + 1) = imarks K n ++ [markIt (K + 2 * n)] := by unfold imarks; rw [List.range_succ]; simp

/-- Marks at the first k places. -/
def imarked (K k : Nat) (Q : List It) : List It := imarks K k ++ Q.drop k

theorem imarked_len {K k : Nat} {Q : List It} (h : k ≤ Q.length) : (imarked K k Q).length = Q.length := by unfold imarked; rw [List.length_append, imarks_len, List.length_drop]; omega

theorem imarked_zero (K : Nat) (Q : List It) : imarked K 0 Q = Q := by unfold imarked imarks; simp

theorem imarked_end (K : Nat) (Q : List It) : imarked K Q.length Q = imarks K Q.length := by unfold imarked; simp

theorem imarked_next {K k : Nat} {Q : List It} (h : k < Q.length) : (imarked K k Q).set k (markIt (K + 2 * k)) = imarked K (k + 1) Q := by
  unfold imarked
  rw [imarks_succ, List.drop_eq_getElem_cons h, List.set_append_right _ _ (by rw [imarks_len]; exact Nat.le_refl _), imarks_len, Nat.sub_self, List.set_cons_zero]
  simp

/-- What laying marks leaves: the items bear them; no other block that was there has turned. -/
def ImarkedOf (w : World) (base : Nat) (v : Value) (n K : Nat) (e : Ending) (w' : World) : Prop := e = .returned (.int .i64 ((K + 2 * n : Nat) : Int)) ∧ IRow w' base v (imarks K n) ∧ w.grownBy w' v.ownBlock

set_option maxRecDepth 100000 in
set_option maxHeartbeats 2000000 in
theorem markItems_any (v : Value) (base K : Nat) (Q : List It) (w : World) (h : IRow w base v Q) (hQ : Q.length ≤ 2097152) (hK : K ≤ 1099511627776) :
    Calls Try.prog 18 #[v, .int .i64 K] w (ImarkedOf w base v Q.length K) := by
  obtain ⟨_, A, cap, rfl, _⟩ := irow_its h
  have H := Lib.hid h
  clear h
  go_enter Try.func18, Try.ntmps18
  go_wp2
  go_loopw [5, 1] (fun i m wr => ∃ k : Nat, k ≤ Q.length ∧ i = .int .i64 k ∧ m = .int .i64 ((K + 2 * k : Nat) : Int) ∧ IRow wr base (.slice A Q.length cap) (imarked K k Q) ∧ w.grownBy wr (Value.ownBlock (.slice A Q.length cap))) (fun i _ _ => Q.length - (intOf i).toNat)
  case atStart => exact ⟨0, Nat.zero_le _, rfl, rfl, by rw [imarked_zero]; exact H.out, World.grownBy.refl w _⟩
  case round =>
    obtain ⟨k, hk, rfl, rfl, ho, hg⟩ := hrel
    have HO := Lib.hid ho
    have HG := Lib.hid hg
    have HL := Lib.hid (imarked_len (K := K) hk)
    clear ho hg
    by_cases hlt : k < Q.length
    · obtain ⟨g, cap', hv, hglt⟩ : ∃ g cap', Value.slice A Q.length cap = .slice (some ⟨g, 0, none⟩) Q.length cap' ∧ g < wr.heap.size := by
        have h1 := HO.out
        unfold IRow at h1
        rw [HL.out] at h1
        rcases h1.2 with ⟨_, h0⟩ | ⟨g, cap', cur, hv, hb, hg, _⟩
        · omega
        · exact ⟨g, cap', hv, (Array.getElem?_eq_some_iff.1 hg).1⟩
      simp only [Value.slice.injEq, true_and] at hv
      obtain ⟨rfl, rfl⟩ := hv
      have R3 : IRow wr base (.slice (some ⟨g, 0, none⟩) (imarked K k Q).length cap) (imarked K k Q) := by rw [HL.out]; exact HO.out
      obtain ⟨o0, o1⟩ := irow_at R3 k (by rw [HL.out]; exact hlt)
      have f0 := irow_free HO.out (k * 2)
      have f1 := irow_free HO.out (k * 2 + 1)
      have SO : Hid (IRow (set2 wr g k (markIt (K + 2 * k))) base (.slice (some ⟨g, 0, none⟩) Q.length cap) (imarked K (k + 1) Q)) := Lib.hid (by
        have h2 := irow_set R3 k (by rw [HL.out]; exact hlt) (markIt (K + 2 * k))
        rw [imarked_next hlt, HL.out] at h2
        exact h2)
      have SG := Lib.hid (gb_comp HG.out (grown_set2 wr g k (markIt (K + 2 * k))))
      clear R3
      generalize ((imarked K k Q)[k]'(by rw [HL.out]; exact hlt)) = old at *
      obtain ⟨q, hq⟩ : ∃ q : Nat, q = K + 2 * k := ⟨_, rfl⟩
      have hq2 : q ≤ 1099520016384 := by omega
      rw [← hq] at SO SG
      unfold set2 markIt at SO SG
      simp only at o0 o1 SO SG
      have HQ := Lib.hid hq
      have eK : ((K + 2 * k : Nat) : Int) = (q : Int) := by rw [hq]
      rw [eK]
      clear hq eK
      go_wp2
      go_roundw
      case rel => exact ⟨k + 1, by omega, by go_num, by rw [show K + 2 * (k + 1) = q + 1 + 1 by rw [HQ.out]; omega]; go_num, SO.out, SG.out⟩
      case measure => simp [intOf]; omega
    · obtain rfl : k = Q.length := by omega
      clear hlt
      go_wp2
      go_ret
      exact ⟨rfl, by rw [← imarked_end]; exact HO.out, HG.out⟩

end Go.Proofs.Ytafhmajnkicifaa
