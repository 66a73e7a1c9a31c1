/- The laws' helpers on words: alike, marks laid, marks found. -/
import Derived.Test.YthnbaeamekolmaaDoorWdA
import Derived.WalkSmall
namespace Go.Proofs.YthnbaeamekolmaaDoor
open Go.RowKit
set_option linter.unusedVariables false
set_option linter.unusedSimpArgs false

set_option maxRecDepth 100000 in
set_option maxHeartbeats 1000000 in
theorem eqWord_same (x : Wd) (w : World) :
    Calls Tryd.prog 45 #[.agg #[.string x.n, .int .i64 x.k, .int .i64 x.v], .agg #[.string x.n, .int .i64 x.k, .int .i64 x.v]] w fun e w' => e = .returned (.bool true) ∧ Below w.heap.size w w' := by
  have to : (x.n.toList != x.n.toList) = false := by simp
  have tk : (x.k != x.k) = false := by simp
  have tv : (x.v != x.v) = false := by simp
  go_enter Tryd.func45, Tryd.ntmps45
  go_wp2
  go_ret
  exact ⟨rfl, below_allocW (below_allocW (Below.refl _ _) _) _⟩

theorem wdAt_below {w w' : World} (hb : Below w.heap.size w w') {a : Addr} {x : Wd} (h : WdAt w a x) : WdAt w' a x := wdAt_keep h (cells_below hb)

set_option maxRecDepth 100000 in
set_option maxHeartbeats 2000000 in
theorem eqWordS_same (u v : Value) (Q : List Wd) (w : World) (hu : Wds w u Q) (hv : Wds w v Q) :
    Calls Tryd.prog 24 #[u, v] w fun e w' => e = .returned (.bool true) ∧ Below w.heap.size w w' := by
  have HU := Lib.hid hu
  have HV := Lib.hid hv
  obtain ⟨hl, hn, A, ca, rfl, _, _⟩ := hu
  obtain ⟨_, _, B, cb, rfl, _, _⟩ := hv
  unfold maxLen at hl
  have z0 : ((Q.length : Int) != (Q.length : Int)) = false := by simp
  clear hn
  go_enter Tryd.func24, Tryd.ntmps24
  go_wp2
  clear z0
  go_loopw [5] (fun i wr => ∃ k : Nat, k ≤ Q.length ∧ i = .int .i64 k ∧ Below w.heap.size w wr) (fun i _ => Q.length - (intOf i).toNat)
  case atStart => exact ⟨0, Nat.zero_le _, rfl, Below.refl _ _⟩
  case round =>
    obtain ⟨k, hk, rfl, hb⟩ := hrel
    have HB := Lib.hid hb
    clear hb
    by_cases hlt : k < Q.length
    · obtain ⟨_, _, A', ca', e', _, hc⟩ := wds_below HU.out HB.out
      simp only [Value.slice.injEq, true_and] at e'
      obtain ⟨rfl, rfl⟩ := e'
      obtain ⟨ga, rfl, ha⟩ := hc (by omega)
      obtain ⟨_, _, B', cb', e', _, hc⟩ := wds_below HV.out HB.out
      simp only [Value.slice.injEq, true_and] at e'
      obtain ⟨rfl, rfl⟩ := e'
      obtain ⟨gb, rfl, hb⟩ := hc (by omega)
      have WA := ha k hlt
      have WB := hb k hlt
      clear ha hb hc
      generalize Q[k] = x at *
      have KA := Lib.hid WA
      have KB := Lib.hid WB
      obtain ⟨a0, a1, a2⟩ := WA
      obtain ⟨b0, b1, b2⟩ := WB
      simp only [] at a0 a1 a2 b0 b1 b2
      go_wp2
      go_region_held3 (fun w' => (w'.cell? ⟨ga, k * 3, none⟩ = some (.string x.n) ∧ w'.cell? ⟨ga, k * 3 + 1, none⟩ = some (.int .i64 x.k) ∧ w'.cell? ⟨ga, k * 3 + 2, none⟩ = some (.int .i64 x.v)) ∧ (w'.cell? ⟨gb, k * 3, none⟩ = some (.string x.n) ∧ w'.cell? ⟨gb, k * 3 + 1, none⟩ = some (.int .i64 x.k) ∧ w'.cell? ⟨gb, k * 3 + 2, none⟩ = some (.int .i64 x.v))) (first | exact ⟨⟨a0, a1, a2⟩, ⟨b0, b1, b2⟩⟩ | exact ⟨K1, K2⟩)
        (first | (go_at_call 45; refine (eqWord_same x _).mono ?_; rintro e w1 ⟨rfl, hb1⟩; have K1 := wdAt_below hb1 KA.out; have K2 := wdAt_below hb1 KB.out))
      have HB2 := Lib.hid (HB.out.drew.trans (hb1.mono HB.out.drew.size))
      clear hb1 K1 K2 a0 a1 a2 b0 b1 b2
      go_wp2
      go_roundw
      case rel => exact ⟨k + 1, by omega, by go_num, HB2.out⟩
      case measure => simp [intOf]; omega
    · obtain rfl : k = Q.length := by omega
      clear hlt
      go_wp2
      go_ret
      exact ⟨rfl, HB.out⟩

/-- The word with marks from K on. -/
def markWd (K : Nat) : Wd := ⟨⟨(markL K).toArray⟩, (K : Int) + 1, (K : Int) + 2⟩

/-- The words with marks from K on. -/
def marksW (K n : Nat) : List Wd := (List.range n).map fun j => markWd (K + 3 * j)

theorem marksW_len (K n : Nat) : (marksW K n).length = n := by unfold marksW; simp

theorem marksW_at {K n k : Nat} (h : k < (marksW K n).length) : (marksW K n)[k] = markWd (K + 3 * k) := by
  have e : (marksW K n)[k]? = some (markWd (K + 3 * k)) := by
    unfold marksW
    rw [List.getElem?_map, List.getElem?_range (by rwa [marksW_len] at h)]; rfl
  exact (List.getElem?_eq_some_iff.1 e).2

theorem marksW_succ (K n : Nat) : marksW K (n + 1) = marksW K n ++ [markWd (K + 3 * n)] := by unfold marksW; rw [List.range_succ]; simp

/-- Marks at the first k places. -/
def markedW (K k : Nat) (Q : List Wd) : List Wd := marksW K k ++ Q.drop k

theorem markedW_len {K k : Nat} {Q : List Wd} (h : k ≤ Q.length) : (markedW K k Q).length = Q.length := by unfold markedW; rw [List.length_append, marksW_len, List.length_drop]; omega

theorem markedW_zero (K : Nat) (Q : List Wd) : markedW K 0 Q = Q := by unfold markedW marksW; simp

theorem markedW_end (K : Nat) (Q : List Wd) : markedW K Q.length Q = marksW K Q.length := by unfold markedW; simp

theorem markedW_next {K k : Nat} {Q : List Wd} (h : k < Q.length) : (markedW K k Q).set k (markWd (K + 3 * k)) = markedW K (k + 1) Q := by
  unfold markedW
  rw [marksW_succ, List.drop_eq_getElem_cons h, List.set_append_right _ _ (by rw [marksW_len]; exact Nat.le_refl _), marksW_len, Nat.sub_self, List.set_cons_zero]
  simp

theorem grown_sets {w : World} {g : Nat} (i j k : Nat) (a b c : Value) : w.grownBy (((w.setCell ⟨g, i, none⟩ a).setCell ⟨g, j, none⟩ b).setCell ⟨g, k, none⟩ c) (some g) :=
  ⟨rfl, rfl, rfl, by simp, fun x hx hne => by
    have h : x ≠ g := fun e => hne (by rw [e])
    rw [Below.heap_setCell _ _ _ _ h, Below.heap_setCell _ _ _ _ h, Below.heap_setCell _ _ _ _ h]⟩

/-- What laying marks leaves: the words bear them; no other block that was there has turned. -/
def MarkedWOf (w : World) (base : Nat) (v : Value) (n K : Nat) (e : Ending) (w' : World) : Prop := e = .returned (.int .i64 ((K : Int) + 3 * n)) ∧ WRow w' base v (marksW K n) ∧ w.grownBy w' v.ownBlock

theorem mark_small (K : Nat) (h : K ≤ 1099511627776) : (⟨(markL K).toArray⟩ : ByteArray).size ≤ maxLen := by
  have := markL_len K
  have e : (⟨(markL K).toArray⟩ : ByteArray).size = (markL K).length := by simp [ByteArray.size]
  rw [e]; unfold maxLen; omega

set_option maxRecDepth 100000 in
set_option maxHeartbeats 2000000 in
theorem markWordS_any (v : Value) (base : Nat) (Q : List Wd) (w : World) (h : WRow w base v Q) (hQ : Q.length ≤ 2097152) :
    Calls Tryd.prog 31 #[v, .int .i64 1] w (MarkedWOf w base v Q.length 1) := by
  obtain ⟨_, _, A, cap, rfl, _, _⟩ := wrow_wds h
  have H := Lib.hid h
  clear h
  go_enter Tryd.func31, Tryd.ntmps31
  go_wp2
  go_loopw [5, 1] (fun i m wr => ∃ k : Nat, k ≤ Q.length ∧ i = .int .i64 k ∧ m = .int .i64 ((1 + 3 * k : Nat) : Int) ∧ WRow wr base (.slice A Q.length cap) (markedW 1 k Q) ∧ w.grownBy wr (Value.ownBlock (.slice A Q.length cap))) (fun i _ _ => Q.length - (intOf i).toNat)
  case atStart => exact ⟨0, Nat.zero_le _, rfl, rfl, by rw [markedW_zero]; exact H.out, World.grownBy.refl w _⟩
  case round =>
    obtain ⟨k, hk, rfl, rfl, ho, hg⟩ := hrel
    have HO := Lib.hid ho
    have HG := Lib.hid hg
    have HL := Lib.hid (markedW_len (K := 1) hk)
    clear ho hg
    by_cases hlt : k < Q.length
    · obtain ⟨g, cap', hv, _, hglt⟩ : ∃ g cap', Value.slice A Q.length cap = .slice (some ⟨g, 0, none⟩) Q.length cap' ∧ base ≤ g ∧ g < wr.heap.size := by
        have h1 := HO.out.1
        rw [HL.out] at h1
        rcases h1.2 with ⟨_, h0⟩ | ⟨g, cap', cur, hv, hb, hg, _⟩
        · omega
        · exact ⟨g, cap', hv, hb, (Array.getElem?_eq_some_iff.1 hg).1⟩
      simp only [Value.slice.injEq, true_and] at hv
      obtain ⟨rfl, rfl⟩ := hv
      go_wp2_with fail
      refine (markText_any (1 + 3 * k) wr (by omega)).mono ?_
      rintro e w1 ⟨rfl, hb1⟩
      have O1 := Lib.hid (wrow_below HO.out hb1)
      have G1 := Lib.hid (gb_trans HG.out (gb_of_below hb1))
      have hz := hb1.size
      obtain ⟨o0, o1, o2⟩ := wrow_at (by have h := O1.out.1; rw [show Q.length = (markedW 1 k Q).length from HL.out.symm] at h; exact h) k (by rw [HL.out]; exact hlt)
      have f0 := wrow_free O1.out (k * 3)
      have f1 := wrow_free O1.out (k * 3 + 1)
      have f2 := wrow_free O1.out (k * 3 + 2)
      have SO : Hid (WRow (((w1.setCell ⟨g, k * 3, none⟩ (.string ⟨(markL (1 + 3 * k)).toArray⟩)).setCell ⟨g, k * 3 + 1, none⟩ (.int .i64 (((1 + 3 * k : Nat) : Int) + 1))).setCell ⟨g, k * 3 + 2, none⟩ (.int .i64 (((1 + 3 * k : Nat) : Int) + 2))) base (.slice (some ⟨g, 0, none⟩) Q.length cap) (markedW 1 (k + 1) Q)) := Lib.hid (by
        have h := O1.out
        rw [show Q.length = (markedW 1 k Q).length from HL.out.symm] at h ⊢
        have h2 := wrow_set h k (by rw [HL.out]; exact hlt) (markWd (1 + 3 * k)) (mark_small _ (by omega))
        rw [markedW_next hlt] at h2
        exact h2)
      have SG := Lib.hid (gb_trans G1.out (grown_sets (w := w1) (g := g) (k * 3) (k * 3 + 1) (k * 3 + 2) (.string ⟨(markL (1 + 3 * k)).toArray⟩) (.int .i64 (((1 + 3 * k : Nat) : Int) + 1)) (.int .i64 (((1 + 3 * k : Nat) : Int) + 2))))
      clear hb1
      generalize ((markedW 1 k Q)[k]'(by rw [HL.out]; exact hlt)) = old at *
      generalize (⟨(markL (1 + 3 * k)).toArray⟩ : ByteArray) = x at *
      have e1 : (((1 + 3 * k : Nat) : Int) + 1) = 1 + 3 * (k : Int) + 1 := by omega
      have e2 : (((1 + 3 * k : Nat) : Int) + 2) = 1 + 3 * (k : Int) + 1 + 1 := by omega
      rw [e1, e2] at SO SG
      clear e1 e2
      go_wp2
      go_roundw
      case rel => exact ⟨k + 1, by omega, by go_num, by go_num, SO.out, SG.out⟩
      case measure => simp [intOf]; omega
    · obtain rfl : k = Q.length := by omega
      clear hlt
      go_wp2
      go_ret
      exact ⟨ret_int (by omega), by rw [← markedW_end]; exact HO.out, HG.out⟩

/-- What finding marks leaves: the next mark; what was there has not turned. -/
def HeldWOf (w : World) (m : Int) (e : Ending) (w' : World) : Prop := e = .returned (.int .i64 m) ∧ Below w.heap.size w w'

set_option maxRecDepth 100000 in
set_option maxHeartbeats 2000000 in
theorem heldWordS_any (v : Value) (n : Nat) (w : World) (h : Wds w v (marksW 1 n)) (hn : n ≤ 2097152) :
    Calls Tryd.prog 36 #[v, .int .i64 1] w (HeldWOf w (1 + 3 * (n : Int))) := by
  have HS := Lib.hid h
  obtain ⟨_, _, A, cap, hv, _, _⟩ := h
  rw [marksW_len] at hv
  subst hv
  go_enter Tryd.func36, Tryd.ntmps36
  go_wp2
  go_loopw [5, 1] (fun i m wr => ∃ k : Nat, k ≤ n ∧ i = .int .i64 k ∧ m = .int .i64 ((1 + 3 * k : Nat) : Int) ∧ Below w.heap.size w wr) (fun i _ _ => n - (intOf i).toNat)
  case atStart => exact ⟨0, Nat.zero_le _, rfl, rfl, Below.refl _ _⟩
  case round =>
    obtain ⟨k, hk, rfl, rfl, hb⟩ := hrel
    have HB := Lib.hid hb
    clear hb
    by_cases hlt : k < n
    · obtain ⟨_, _, A', ca', e', _, hc⟩ := wds_below HS.out HB.out
      simp only [Value.slice.injEq, true_and] at e'
      obtain ⟨rfl, -, rfl⟩ := e'
      obtain ⟨g, rfl, ha⟩ := hc (by rw [marksW_len]; omega)
      have WA := ha k (by rw [marksW_len]; exact hlt)
      rw [marksW_at (by rw [marksW_len]; exact hlt)] at WA
      clear ha hc
      have MT : Hid (∀ W : World, W.cell? ⟨g, k * 3, none⟩ = some (.string ⟨(markL (1 + 3 * k)).toArray⟩) → Calls Tryd.prog 49 #[.int .i64 ((1 + 3 * k : Nat) : Int)] W fun e w' => e = .returned (.string ⟨(markL (1 + 3 * k)).toArray⟩) ∧ w'.cell? ⟨g, k * 3, none⟩ = some (.string ⟨(markL (1 + 3 * k)).toArray⟩) ∧ Below W.heap.size W w') := Lib.hid fun W hW =>
        markText_keep (1 + 3 * k) W (by omega) ⟨g, k * 3, none⟩ _ hW
      obtain ⟨a0, a1, a2⟩ := WA
      unfold markWd at a0 a1 a2
      simp only [] at a0 a1 a2
      have KA := Lib.hid (And.intro a1 a2)
      generalize (⟨(markL (1 + 3 * k)).toArray⟩ : ByteArray) = x at *
      have t1 : (x.toList == x.toList) = true := by simp
      clear a1 a2
      go_wp2
      go_region_held3 (fun w' => w'.cell? ⟨g, k * 3, none⟩ = some (.string x)) (go_keep)
        (first | (go_at_call 49; refine (MT.out _ ?_).mono ?_; (simp [*]); rintro e w1 ⟨rfl, hc1, hb1⟩))
      have HB2 := Lib.hid (HB.out.drew.trans (hb1.mono HB.out.drew.size))
      have a1 := cells_below hb1 _ _ KA.out.1
      have a2 := cells_below hb1 _ _ KA.out.2
      have e1 : (((1 + 3 * k : Nat) : Int) + 1) = 1 + 3 * (k : Int) + 1 := by omega
      have e2 : (((1 + 3 * k : Nat) : Int) + 2) = 1 + 3 * (k : Int) + 1 + 1 := by omega
      rw [e1] at a1
      rw [e2] at a2
      have t2 : ((1 + 3 * (k : Int) + 1) != (1 + 3 * (k : Int) + 1)) = false := by simp
      have t3 : ((1 + 3 * (k : Int) + 1 + 1) != (1 + 3 * (k : Int) + 1 + 1)) = false := by simp
      clear hb1 hc1 e1 e2 a0
      go_wp2
      go_roundw
      case rel => exact ⟨k + 1, by omega, by go_num, by go_num, HB2.out⟩
      case measure => simp [intOf]; omega
    · obtain rfl : k = n := by omega
      clear hlt
      go_wp2
      go_ret
      exact ⟨ret_int (by omega), HB.out⟩

end Go.Proofs.YthnbaeamekolmaaDoor
