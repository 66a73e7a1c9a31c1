/- The laws' helpers on words: alike, marks laid, marks found. -/
import Derived.Test.YthnbaeamekolmaaGreatDoorWdA
import Derived.WalkSmall
namespace Go.Proofs.YthnbaeamekolmaaGreatDoor
open Go.RowKit
set_option linter.unusedVariables false
set_option linter.unusedSimpArgs false

set_option maxRecDepth 100000 in
set_option maxHeartbeats 1000000 in
theorem eqWord_same (x : Wd) (w : World) :
    Calls Tryz.prog 166 #[.agg #[.string x.n, .int .i64 x.k, .int .i64 x.v], .agg #[.string x.n, .int .i64 x.k, .int .i64 x.v]] w fun e w' => e = .returned (.bool true) ∧ Below w.heap.size w w' := by
  have to : (x.n.toList != x.n.toList) = false := by simp
  have tk : (x.k != x.k) = false := by simp
  have tv : (x.v != x.v) = false := by simp
  go_enter Tryz.func166, Tryz.ntmps166
  go_wp2
  go_ret
  exact ⟨rfl, below_allocW (below_allocW (Below.refl _ _) _) _⟩

theorem wdAt_below {w w' : World} (hb : Below w.heap.size w w') {a : Addr} {x : Wd} (h : WdAt w a x) : WdAt w' a x := wdAt_keep h (cells_below hb)

set_option maxRecDepth 100000 in
set_option maxHeartbeats 2000000 in
theorem eqWordS_same (u v : Value) (Q : List Wd) (w : World) (hu : Wds w u Q) (hv : Wds w v Q) :
    Calls Tryz.prog 91 #[u, v] w fun e w' => e = .returned (.bool true) ∧ Below w.heap.size w w' := by
  have HU := Lib.hid hu
  have HV := Lib.hid hv
  obtain ⟨hl, hn, A, ca, rfl, _, _⟩ := hu
  obtain ⟨_, _, B, cb, rfl, _, _⟩ := hv
  unfold maxLen at hl
  have z0 : ((Q.length : Int) != (Q.length : Int)) = false := by simp
  clear hn
  go_enter Tryz.func91, Tryz.ntmps91
  go_wp2
  clear z0
  go_loopw [5] (fun i wr => ∃ k : Nat, k ≤ Q.length ∧ i = .int .i64 k ∧ Below w.heap.size w wr) (fun i _ => Q.length - (intOf i).toNat)
  case atStart => exact ⟨0, Nat.zero_le _, rfl, Below.refl _ _⟩
  case round =>
    obtain ⟨k, hk, rfl, hb⟩ := hrel
    have HB := Lib.hid hb
    clear hb
    by_cases hlt : k < Q.length
    · obtain ⟨_, _, A', ca', e', _, hc⟩ := wds_below HU.out HB.out
      simp only [Value.slice.injEq, true_and] at e'
      obtain ⟨rfl, rfl⟩ := e'
      obtain ⟨ga, rfl, ha⟩ := hc (by omega)
      obtain ⟨_, _, B', cb', e', _, hc⟩ := wds_below HV.out HB.out
      simp only [Value.slice.injEq, true_and] at e'
      obtain ⟨rfl, rfl⟩ := e'
      obtain ⟨gb, rfl, hb⟩ := hc (by omega)
      have WA := ha k hlt
      have WB := hb k hlt
      clear ha hb hc
      generalize Q[k] = x at *
      have KA := Lib.hid WA
      have KB := Lib.hid WB
      obtain ⟨a0, a1, a2⟩ := WA
      obtain ⟨b0, b1, b2⟩ := WB
      simp only [] at a0 a1 a2 b0 b1 b2
      go_wp2
      go_region_held3 (fun w' => (w'.cell? ⟨ga, k * 3, none⟩ = some (.string x.n) ∧ w'.cell? ⟨ga, k * 3 + 1, none⟩ = some (.int .i64 x.k) ∧ w'.cell? ⟨ga, k * 3 + 2, none⟩ = some (.int .i64 x.v)) ∧ (w'.cell? ⟨gb, k * 3, none⟩ = some (.string x.n) ∧ w'.cell? ⟨gb, k * 3 + 1, none⟩ = some (.int .i64 x.k) ∧ w'.cell? ⟨gb, k * 3 + 2, none⟩ = some (.int .i64 x.v))) (first | exact ⟨⟨a0, a1, a2⟩, ⟨b0, b1, b2⟩⟩ | exact ⟨K1, K2⟩)
        (first | (go_at_call 166; refine (eqWord_same x _).mono ?_; rintro e w1 ⟨rfl, hb1⟩; have K1 := wdAt_below hb1 KA.out; have K2 := wdAt_below hb1 KB.out))
      have HB2 := Lib.hid (HB.out.drew.trans (hb1.mono HB.out.drew.size))
      clear hb1 K1 K2 a0 a1 a2 b0 b1 b2
      go_wp2
      go_roundw
      case rel => exact ⟨k + 1, by omega, by go_num, HB2.out⟩
      case measure => simp [intOf]; omega
    · obtain rfl : k = Q.length := by omega
      clear hlt
      go_wp2
      go_ret
      exact ⟨rfl, HB.out⟩

/-- The word with marks from K on. -/
def markWd (K : Nat) : Wd := ⟨⟨(markL K).toArray⟩, (K : Int) + 1, (K : Int) + 2⟩

/-- The words with marks from K on. -/
def marksW (K n : Nat) : List Wd := (List.range n).map fun j => markWd (K + 3 * j)

theorem marksW_len (K n : Nat) : (marksW K n).length = n := by unfold marksW; simp

theorem marksW_at {K n k : Nat} (h : k < (marksW K n).length) : (marksW K n)[k] = markWd (K + 3 * k) := by
  have e : (marksW K n)[k]? = some (markWd (K + 3 * k)) := by
    unfold marksW
    rw [List.getElem?_map, List.getElem?_range (by rwa [marksW_len] at h)]; rfl
  exact (List.getElem?_eq_some_iff.1 e).2

theorem marksW_succ (K n : Nat) : marksW K (n + 1) = marksW K n ++ [markWd (K + 3 * n)] := by unfold marksW; rw [List.range_succ]; simp

/-- Marks at the first k places. -/
def markedW (K k : Nat) (Q : List Wd) : List Wd := marksW K k ++ Q.drop k

theorem markedW_len {K k : Nat} {Q : List Wd} (h : k ≤ Q.length) : (markedW K k Q).length = Q.length := by unfold markedW; rw [List.length_append, marksW_len, List.length_drop]; omega

theorem markedW_zero (K : Nat) (Q : List Wd) : markedW K 0 Q = Q := by unfold markedW marksW; simp

theorem markedW_end (K : Nat) (Q : List Wd) : markedW K Q.length Q = marksW K Q.length := by unfold markedW; simp

theorem markedW_next {K k : Nat} {Q : List Wd} (h : k < Q.length) : (markedW K k Q).set k (markWd (K + 3 * k)) = markedW K (k + 1) Q := by
  unfold markedW
  rw [marksW_succ, List.drop_eq_getElem_cons h, List.set_append_right _ _ (by rw [marksW_len]; exact Nat.le_refl _), marksW_len, Nat.sub_self, List.set_cons_zero]
  simp

theorem grown_sets {w : World} {g : Nat} (i j k : Nat) (a b c : Value) : w.grownBy (((w.setCell ⟨g, i, none⟩ a).setCell ⟨g, j, none⟩ b).setCell ⟨g, k, none⟩ c) (some g) :=
  ⟨rfl, rfl, rfl, by simp, fun x hx hne => by
    have h : x ≠ g := fun e => hne (by rw [e])
    rw [Below.heap_setCell _ _ _ _ h, Below.heap_setCell _ _ _ _ h, Below.heap_setCell _ _ _ _ h]⟩

/-- What laying marks leaves: the words bear them; no other block that was there has turned. -/
def MarkedWOf (w : World) (base : Nat) (v : Value) (n K : Nat) (e : Ending) (w' : World) : Prop := e = .returned (.int .i64 ((K : Int) + 3 * n)) ∧ WRow w' base v (marksW K n) ∧ w.grownBy w' v.ownBlock

theorem mark_small (K : Nat) (h : K ≤ 1099511627776) : (⟨(markL K).toArray⟩ : ByteArray).size ≤ maxLen := by
  have := markL_len K
  have e : (⟨(markL K).toArray⟩ : ByteArray).size = (markL K).length := by simp [ByteArray.size]
  rw [e]; unfold maxLen; omega

/-- What finding marks leaves: the next mark; what was there has not turned. -/
def HeldWOf (w : World) (m : Int) (e : Ending) (w' : World) : Prop := e = .returned (.int .i64 m) ∧ Below w.heap.size w w'

end Go.Proofs.YthnbaeamekolmaaGreatDoor
