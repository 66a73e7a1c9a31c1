/- What the laws' helpers give: a mark's text; marks laid into a row of texts; marks found there. -/
import Derived.Test.YthnbaeamekolmaaGreatDoorStrsA
import Derived.WalkSmall
namespace Go.Proofs.YthnbaeamekolmaaGreatDoor
open Go.RowKit
set_option linter.unusedVariables false
set_option linter.unusedSimpArgs false

/-- The decimal digits of a number; none of 0. -/
def decL (k : Nat) : List UInt8 := if h : k = 0 then [] else decL (k / 10) ++ [UInt8.ofNat (48 + k % 10)]
termination_by k
decreasing_by exact Nat.div_lt_self (by omega) (by omega)

theorem decL_zero : decL 0 = [] := by rw [decL, dif_pos rfl]
theorem decL_step {k : Nat} (h : 0 < k) : decL k = decL (k / 10) ++ [UInt8.ofNat (48 + k % 10)] := by rw [decL, dif_neg (by omega)]

theorem decL_len (k : Nat) : (decL k).length ≤ k := by
  induction k using Nat.strongRecOn with
  | _ k ih =>
    by_cases h : k = 0
    · rw [h, decL_zero]; exact Nat.le_refl _
    · rw [decL_step (by omega), List.length_append]
      have := ih (k / 10) (Nat.div_lt_self (by omega) (by omega))
      simp; omega

/-- A mark's text. -/
def markL (k : Nat) : List UInt8 := if k = 0 then [109, 48] else 109 :: decL k

theorem markL_len (k : Nat) : (markL k).length ≤ k + 2 := by
  unfold markL; have := decL_len k; split <;> simp; omega

theorem conv_dig (W : World) (r : Nat) (h : r < 10) : (convert 55 9 (.slice (some ⟨W.heap.size, 0, none⟩) 1 1)).run Tryz.prog (W.alloc (.cells #[.int .u8 (48 + (r : Int))] 5)) = .ok (.string ⟨#[UInt8.ofNat (48 + r)]⟩) (W.alloc (.cells #[.int .u8 (48 + (r : Int))] 5)) :=
  run_convert_bytes_back (P := Tryz.prog) _ 55 9 5 ⟨W.heap.size, 0, none⟩ 1 [UInt8.ofNat (48 + r)] Tryz.underlying55 Tryz.underlying5 Tryz.underlying9 (fun j hj => by
    have : j = 0 := by simp at hj; omega
    subst this
    have e : ((UInt8.ofNat (48 + r)).toNat : Int) = 48 + r := by rw [UInt8.toNat_ofNat']; omega
    simp [Addr.add]
    omega)

theorem one_cat (c : UInt8) (l : List UInt8) : ((⟨#[c]⟩ : ByteArray) ++ ⟨l.toArray⟩) = ⟨(c :: l).toArray⟩ := by
  apply ByteArray.ext; apply Array.ext'; simp

/-- The marks from K on. -/
def marksL (K n : Nat) : List (List UInt8) := (List.range n).map fun j => markL (K + j)

theorem marksL_len (K n : Nat) : (marksL K n).length = n := by unfold marksL; simp

theorem marksL_at {K n k : Nat} (h : k < (marksL K n).length) : (marksL K n)[k] = markL (K + k) := by
  have e : (marksL K n)[k]? = some (markL (K + k)) := by
    unfold marksL
    rw [List.getElem?_map, List.getElem?_range (by rwa [marksL_len] at h)]; rfl
  exact (List.getElem?_eq_some_iff.1 e).2

theorem marksL_succ (K n : Nat) : marksL K (n + 1) = marksL K n ++ [markL (K + n)] := by unfold marksL; rw [List.range_succ]; simp

/-- Marks at the first k places. -/
def markedTo (K k : Nat) (Q : List (List UInt8)) : List (List UInt8) := marksL K k ++ Q.drop k

theorem marked_len {K k : Nat} {Q : List (List UInt8)} (h : k ≤ Q.length) : (markedTo K k Q).length = Q.length := by unfold markedTo; rw [List.length_append, marksL_len, List.length_drop]; omega

theorem marked_zero (K : Nat) (Q : List (List UInt8)) : markedTo K 0 Q = Q := by unfold markedTo marksL; simp

theorem marked_end (K : Nat) (Q : List (List UInt8)) : markedTo K Q.length Q = marksL K Q.length := by unfold markedTo; simp

theorem marked_next {K k : Nat} {Q : List (List UInt8)} (h : k < Q.length) : (markedTo K k Q).set k (markL (K + k)) = markedTo K (k + 1) Q := by
  unfold markedTo
  rw [marksL_succ, List.drop_eq_getElem_cons h, List.set_append_right _ _ (by rw [marksL_len]; exact Nat.le_refl _), marksL_len, Nat.sub_self, List.set_cons_zero]
  simp

theorem gb_of_below {w w' : World} {row : Option Nat} (h : Below w.heap.size w w') : w.grownBy w' row := ⟨h.os, h.tape, h.output, h.size, fun k hk _ => h.block k hk⟩

theorem gb_trans {a b c : World} {row : Option Nat} (h : a.grownBy b row) (k : b.grownBy c row) : a.grownBy c row :=
  ⟨k.os.trans h.os, k.tape.trans h.tape, k.output.trans h.output, Nat.le_trans h.size k.size, fun i hi hr => (k.block i (Nat.lt_of_lt_of_le hi h.size) hr).trans (h.block i hi hr)⟩

theorem own_below {w w' : World} {base : Nat} {e : TypeId} {v : Value} {n : Nat} {xs : List Value} (h : w.ownsRow base e 1 v n xs) (hb : Below w.heap.size w w') : w'.ownsRow base e 1 v n xs :=
  h.kept (row := none) (gb_of_below hb) (by
    cases hv : v.ownBlock
    · exact .inl rfl
    · exact .inr (by simp))

/-- What laying marks leaves: the row bears them; no other block that was there has turned. -/
def MarkedOf (w : World) (base : Nat) (v : Value) (n K : Nat) (e : Ending) (w' : World) : Prop := e = .returned (.int .i64 ((K : Int) + n)) ∧ w'.ownsRow base 9 1 v n ((marksL K n).map strV) ∧ w.grownBy w' v.ownBlock

/-- What finding marks leaves: the next mark; what was there has not turned. -/
def HeldOf (w : World) (m : Int) (e : Ending) (w' : World) : Prop := e = .returned (.int .i64 m) ∧ Below w.heap.size w w'

end Go.Proofs.YthnbaeamekolmaaGreatDoor
