/- The laws' helpers on deeds: alike, marks laid, marks found. -/
import Derived.Test.YtjlfbmplmddceaaDeA
import Derived.WalkSmall
import Derived.Deep.RegionHeld3
namespace Go.Proofs.Ytjlfbmplmddceaa
open Go.RowKit
set_option linter.unusedVariables false
set_option linter.unusedSimpArgs false

set_option maxRecDepth 100000 in
set_option maxHeartbeats 1000000 in
theorem eqDeed_same (x : Dd) (w : World) :
    Calls Try.prog 101 #[.agg #[.int .i64 x.p, .int .i64 x.a, .int .i64 x.b, .int .i64 x.r], .agg #[.int .i64 x.p, .int .i64 x.a, .int .i64 x.b, .int .i64 x.r]] w fun e w' => e = .returned (.bool true) ∧ Below w.heap.size w w' := by
  have tp : (x.p != x.p) = false := by simp
  have ta : (x.a != x.a) = false := by simp
  have tb : (x.b != x.b) = false := by simp
  have tr : (x.r != x.r) = false := by simp
  go_enter Try.func101, Try.ntmps101
  go_wp2
  go_ret
  exact ⟨rfl, below_alloc (below_alloc (Below.refl _ _) _) _⟩

set_option maxRecDepth 100000 in
set_option maxHeartbeats 2000000 in
theorem eqDeedS_same (u v : Value) (Q : List Dd) (w : World) (hu : Dds w u Q) (hv : Dds w v Q) :
    Calls Try.prog 57 #[u, v] w fun e w' => e = .returned (.bool true) ∧ Below w.heap.size w w' := by
  have HU := Lib.hid hu
  have HV := Lib.hid hv
  obtain ⟨hl, A, ca, rfl, _⟩ := hu
  obtain ⟨_, B, cb, rfl, _⟩ := hv
  unfold maxLen at hl
  have z0 : ((Q.length : Int) != (Q.length : Int)) = false := by simp
  go_enter Try.func57, Try.ntmps57
  go_wp2
  clear z0
  go_loopw [5] (fun i wr => ∃ k : Nat, k ≤ Q.length ∧ i = .int .i64 k ∧ Below w.heap.size w wr) (fun i _ => Q.length - (intOf i).toNat)
  case atStart => exact ⟨0, Nat.zero_le _, rfl, Below.refl _ _⟩
  case round =>
    obtain ⟨k, hk, rfl, hb⟩ := hrel
    have HB := Lib.hid hb
    clear hb
    by_cases hlt : k < Q.length
    · obtain ⟨_, A', ca', e', hc⟩ := dds_below HU.out HB.out
      simp only [Value.slice.injEq, true_and] at e'
      obtain ⟨rfl, rfl⟩ := e'
      obtain ⟨ga, rfl, ha⟩ := hc (by omega)
      obtain ⟨_, B', cb', e', hc⟩ := dds_below HV.out HB.out
      simp only [Value.slice.injEq, true_and] at e'
      obtain ⟨rfl, rfl⟩ := e'
      obtain ⟨gb, rfl, hb⟩ := hc (by omega)
      have WA := ha k hlt
      have WB := hb k hlt
      clear ha hb hc
      generalize Q[k] = x at *
      have KA := Lib.hid WA
      have KB := Lib.hid WB
      obtain ⟨a0, a1, a2, a3⟩ := WA
      obtain ⟨b0, b1, b2, b3⟩ := WB
      go_wp2
      go_region_held3 (fun w' => (w'.cell? (ga.add (k * 4)) = some (.int .i64 x.p) ∧ w'.cell? ⟨(ga.add (k * 4)).block, (ga.add (k * 4)).off + 1, none⟩ = some (.int .i64 x.a) ∧ w'.cell? ⟨(ga.add (k * 4)).block, (ga.add (k * 4)).off + 2, none⟩ = some (.int .i64 x.b) ∧ w'.cell? ⟨(ga.add (k * 4)).block, (ga.add (k * 4)).off + 3, none⟩ = some (.int .i64 x.r)) ∧ (w'.cell? (gb.add (k * 4)) = some (.int .i64 x.p) ∧ w'.cell? ⟨(gb.add (k * 4)).block, (gb.add (k * 4)).off + 1, none⟩ = some (.int .i64 x.a) ∧ w'.cell? ⟨(gb.add (k * 4)).block, (gb.add (k * 4)).off + 2, none⟩ = some (.int .i64 x.b) ∧ w'.cell? ⟨(gb.add (k * 4)).block, (gb.add (k * 4)).off + 3, none⟩ = some (.int .i64 x.r))) (first | exact ⟨K1, K2⟩ | exact ⟨KA.out, KB.out⟩)
        (first | (go_at_call 101; refine (eqDeed_same x _).mono ?_; rintro e w1 ⟨rfl, hb1⟩; have K1 := ddAt_below hb1 KA.out; have K2 := ddAt_below hb1 KB.out))
      have HB2 := Lib.hid (HB.out.drew.trans (hb1.mono HB.out.drew.size))
      clear hb1 K1 K2 a0 a1 a2 a3 b0 b1 b2 b3
      go_wp2
      go_roundw
      case rel => exact ⟨k + 1, by omega, by go_num, HB2.out⟩
      case measure => simp [intOf]; omega
    · obtain rfl : k = Q.length := by omega
      clear hlt
      go_wp2
      go_ret
      exact ⟨rfl, HB.out⟩

/-- The deed with marks from K on. -/
def markDd (K : Nat) : Dd := ⟨(K : Int), (K : Int) + 1, (K : Int) + 1 + 1, (K : Int) + 1 + 1 + 1⟩

/-- The deeds with marks from K on. -/
def marksD (K n : Nat) : List Dd := (List.range n).map fun j => markDd (K + 4 * j)

theorem marksD_len (K n : Nat) : (marksD K n).length = n := by unfold marksD; simp

theorem marksD_at {K n k : Nat} (h : k < (marksD K n).length) : (marksD K n)[k] = markDd (K + 4 * k) := by
  have e : (marksD K n)[k]? = some (markDd (K + 4 * k)) := by
    unfold marksD
    rw [List.getElem?_map, List.getElem?_range (by rwa [marksD_len] at h)]; rfl
  exact (List.getElem?_eq_some_iff.1 e).2

theorem marksD_succ (K n : Nat) : marksD K (n + 1) = marksD K n ++ [markDd (K + 4 * n)] := by unfold marksD; rw [List.range_succ]; simp

/-- Marks at the first k places. -/
def markedD (K k : Nat) (Q : List Dd) : List Dd := marksD K k ++ Q.drop k

theorem markedD_len {K k : Nat} {Q : List Dd} (h : k ≤ Q.length) : (markedD K k Q).length = Q.length := by unfold markedD; rw [List.length_append, marksD_len, List.length_drop]; omega

theorem markedD_zero (K : Nat) (Q : List Dd) : markedD K 0 Q = Q := by unfold markedD marksD; simp

theorem markedD_end (K : Nat) (Q : List Dd) : markedD K Q.length Q = marksD K Q.length := by unfold markedD; simp

theorem markedD_next {K k : Nat} {Q : List Dd} (h : k < Q.length) : (markedD K k Q).set k (markDd (K + 4 * k)) = markedD K (k + 1) Q := by
  unfold markedD
  rw [marksD_succ, List.drop_eq_getElem_cons h, List.set_append_right _ _ (by rw [marksD_len]; exact Nat.le_refl _), marksD_len, Nat.sub_self, List.set_cons_zero]
  simp

/-- What laying marks leaves: the deeds bear them; no other block that was there has turned. -/
def MarkedDOf (w : World) (base : Nat) (v : Value) (n K : Nat) (e : Ending) (w' : World) : Prop := e = .returned (.int .i64 ((K + 4 * n : Nat) : Int)) ∧ DRow w' base v (marksD K n) ∧ w.grownBy w' v.ownBlock

set_option maxRecDepth 100000 in
set_option maxHeartbeats 2000000 in
theorem markDeeds_any (v : Value) (base K : Nat) (Q : List Dd) (w : World) (h : DRow w base v Q) (hQ : Q.length ≤ 2097152) (hK : K ≤ 1099511627776) :
    Calls Try.prog 60 #[v, .int .i64 K] w (MarkedDOf w base v Q.length K) := by
  obtain ⟨_, A, cap, rfl, _⟩ := drow_dds h
  have H := Lib.hid h
  clear h
  go_enter Try.func60, Try.ntmps60
  go_wp2
  go_loopw [5, 1] (fun i m wr => ∃ k : Nat, k ≤ Q.length ∧ i = .int .i64 k ∧ m = .int .i64 ((K + 4 * k : Nat) : Int) ∧ DRow wr base (.slice A Q.length cap) (markedD K k Q) ∧ w.grownBy wr (Value.ownBlock (.slice A Q.length cap))) (fun i _ _ => Q.length - (intOf i).toNat)
  case atStart => exact ⟨0, Nat.zero_le _, rfl, rfl, by rw [markedD_zero]; exact H.out, World.grownBy.refl w _⟩
  case round =>
    obtain ⟨k, hk, rfl, rfl, ho, hg⟩ := hrel
    have HO := Lib.hid ho
    have HG := Lib.hid hg
    have HL := Lib.hid (markedD_len (K := K) hk)
    clear ho hg
    by_cases hlt : k < Q.length
    · obtain ⟨g, cap', hv, hglt⟩ : ∃ g cap', Value.slice A Q.length cap = .slice (some ⟨g, 0, none⟩) Q.length cap' ∧ g < wr.heap.size := by
        have h1 := HO.out
        unfold DRow at h1
        rw [HL.out] at h1
        rcases h1.2 with ⟨_, h0⟩ | ⟨g, cap', cur, hv, hb, hg, _⟩
        · omega
        · exact ⟨g, cap', hv, (Array.getElem?_eq_some_iff.1 hg).1⟩
      simp only [Value.slice.injEq, true_and] at hv
      obtain ⟨rfl, rfl⟩ := hv
      have R3 : DRow wr base (.slice (some ⟨g, 0, none⟩) (markedD K k Q).length cap) (markedD K k Q) := by rw [HL.out]; exact HO.out
      obtain ⟨o0, o1, o2, o3⟩ := drow_at R3 k (by rw [HL.out]; exact hlt)
      have f0 := drow_free HO.out (k * 4)
      have f1 := drow_free HO.out (k * 4 + 1)
      have f2 := drow_free HO.out (k * 4 + 2)
      have f3 := drow_free HO.out (k * 4 + 3)
      have SO : Hid (DRow (set4 wr g k (markDd (K + 4 * k))) base (.slice (some ⟨g, 0, none⟩) Q.length cap) (markedD K (k + 1) Q)) := Lib.hid (by
        have h2 := drow_set R3 k (by rw [HL.out]; exact hlt) (markDd (K + 4 * k))
        rw [markedD_next hlt, HL.out] at h2
        exact h2)
      have SG := Lib.hid (gb_comp HG.out (grown_set4 wr g k (markDd (K + 4 * k))))
      clear R3
      generalize ((markedD K k Q)[k]'(by rw [HL.out]; exact hlt)) = old at *
      obtain ⟨q, hq⟩ : ∃ q : Nat, q = K + 4 * k := ⟨_, rfl⟩
      have hq2 : q ≤ 1099520016384 := by omega
      rw [← hq] at SO SG
      unfold set4 markDd at SO SG
      simp only at o0 o1 o2 o3 SO SG
      have HQ := Lib.hid hq
      have eK : ((K + 4 * k : Nat) : Int) = (q : Int) := by rw [hq]
      rw [eK]
      clear hq eK
      go_wp2
      go_roundw
      case rel => exact ⟨k + 1, by omega, by go_num, by rw [show K + 4 * (k + 1) = q + 1 + 1 + 1 + 1 by rw [HQ.out]; omega]; go_num, SO.out, SG.out⟩
      case measure => simp [intOf]; omega
    · obtain rfl : k = Q.length := by omega
      clear hlt
      go_wp2
      go_ret
      exact ⟨rfl, by rw [← markedD_end]; exact HO.out, HG.out⟩

set_option maxRecDepth 100000 in
set_option maxHeartbeats 2000000 in
theorem heldDeeds_any (v : Value) (n K : Nat) (w : World) (h : Dds w v (marksD K n)) (hn : n ≤ 2097152) (hK : K ≤ 1099511627776) :
    Calls Try.prog 63 #[v, .int .i64 K] w fun e w' => e = .returned (.int .i64 ((K + 4 * n : Nat) : Int)) ∧ w = w' := by
  obtain ⟨_, A, cap, rfl, hc⟩ := h
  have HC : Hid (0 < n → ∃ ad, A = some ad ∧ ∀ k, k < n → DdAt w (ad.add (k * 4)) (markDd (K + 4 * k))) := Lib.hid fun hp => by
    obtain ⟨ad, ha, hc⟩ := hc (by rw [marksD_len]; exact hp)
    refine ⟨ad, ha, fun k hk => ?_⟩
    have h2 := hc k (by rw [marksD_len]; exact hk)
    rwa [marksD_at] at h2
  clear hc
  rw [marksD_len]
  go_enter Try.func63, Try.ntmps63
  go_wp2
  go_loop [5, 1] (fun i m => ∃ k : Nat, k ≤ n ∧ i = .int .i64 k ∧ m = .int .i64 ((K + 4 * k : Nat) : Int)) (fun i _ => n - (intOf i).toNat)
  case atStart => exact ⟨0, Nat.zero_le _, rfl, rfl⟩
  case round =>
    obtain ⟨k, hk, rfl, rfl⟩ := hrel
    by_cases hlt : k < n
    · obtain ⟨ad, rfl, hc⟩ := HC.out (by omega)
      have WA := hc k hlt
      clear hc
      obtain ⟨q, hq⟩ : ∃ q : Nat, q = K + 4 * k := ⟨_, rfl⟩
      have hq2 : q ≤ 1099520016384 := by omega
      rw [← hq] at WA
      unfold markDd at WA
      obtain ⟨a0, a1, a2, a3⟩ := WA
      simp only at a0 a1 a2 a3
      have HQ := Lib.hid hq
      have eK : ((K + 4 * k : Nat) : Int) = (q : Int) := by rw [hq]
      rw [eK]
      clear hq eK
      have t0 : ((q : Int) != (q : Int)) = false := by simp
      have t1 : (((q : Int) + 1) != ((q : Int) + 1)) = false := by simp
      have t2 : (((q : Int) + 1 + 1) != ((q : Int) + 1 + 1)) = false := by simp
      have t3 : (((q : Int) + 1 + 1 + 1) != ((q : Int) + 1 + 1 + 1)) = false := by simp
      go_wp2
      go_round
      case rel => exact ⟨k + 1, by omega, by go_num, by rw [show K + 4 * (k + 1) = q + 1 + 1 + 1 + 1 by rw [HQ.out]; omega]; go_num⟩
      case measure => simp [intOf]; omega
    · obtain rfl : k = n := by omega
      go_wp2
      go_ret
      exact ⟨rfl, rfl⟩

end Go.Proofs.Ytjlfbmplmddceaa
