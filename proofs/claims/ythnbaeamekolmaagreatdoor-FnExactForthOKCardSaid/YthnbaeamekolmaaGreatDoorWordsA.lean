/- What spec's functions on the words of a line give: l00Words, l02Words, LineWords. -/
import Derived.Test.YthnbaeamekolmaaGreatDoorOwnA
import Derived.Test.YthnbaeamekolmaaGreatDoorWordsM
import Derived.Lib.Strings
namespace Go.Proofs.YthnbaeamekolmaaGreatDoor
open Go.RowKit
set_option linter.unusedVariables false
set_option linter.unusedSimpArgs false

/-- A text as a value. -/
def strV (q : List UInt8) : Value := .string ⟨q.toArray⟩

theorem extract_mid (s : ByteArray) (f k : Nat) : (Value.string (s.extract f k)) = strV (mid s.data.toList f k) := by
  unfold strV mid; rw [Lib.extract_eq]

theorem sp_at {s : ByteArray} {k : Nat} (h : k < s.size) : s.data.toList[k]'(by simpa using h) = s[k] := rfl

/-- What a function leaves that hands back texts of its own. -/
def TextsOf (w : World) (Q : List (List UInt8)) (e : Ending) (w' : World) : Prop := ∃ v, e = .returned v ∧ Owns w' w.heap.size 9 v Q.length (Q.map strV) ∧ Below w.heap.size w w'

theorem last_byte {q : List UInt8} (h : q ≠ []) : ∃ (c : UInt8) (hk : q.length - 1 < (⟨q.toArray⟩ : ByteArray).size), (⟨q.toArray⟩ : ByteArray)[q.length - 1]'hk = c ∧ q.getLast? = some c := by
  have hp : 0 < q.length := List.length_pos_iff.2 h
  refine ⟨q[q.length - 1], by show q.length - 1 < q.toArray.size; simp; omega, rfl, ?_⟩
  rw [List.getLast?_eq_getElem?]
  exact List.getElem?_eq_getElem _

theorem str_size (q : List UInt8) : (⟨q.toArray⟩ : ByteArray).size = q.length := by show q.toArray.size = _; simp

theorem str_eq (q p : List UInt8) : ((⟨q.toArray⟩ : ByteArray).toList == p) = (q == p) := by rw [Lib.toList_data]

theorem hll2 (s : ByteArray) : s.data.toList.length = s.size := by simp

/-- What l02Words leaves. -/
def ScanOf (w : World) (X : List (List UInt8) × Bool) (e : Ending) (w' : World) : Prop := ∃ v, e = .returned (.tuple #[v, .bool X.2]) ∧ Owns w' w.heap.size 9 v X.1.length (X.1.map strV) ∧ Below w.heap.size w w'

theorem owns_base {w : World} {base base' : Nat} {e : TypeId} {v : Value} {n : Nat} {xs : List Value} (h : Owns w base e v n xs) (hb : base' ≤ base) : Owns w base' e v n xs := by
  obtain ⟨⟨h1, h2⟩, h3⟩ := h
  refine ⟨⟨h1, ?_⟩, h3⟩
  rcases h2 with h2 | ⟨g, cap, cur, a1, a2, a3⟩
  · exact .inl h2
  · exact .inr ⟨g, cap, cur, a1, by omega, a3⟩

end Go.Proofs.YthnbaeamekolmaaGreatDoor
