/- What the program's functions on the letters of a name give: UpperOf, WordOK, SameWord. -/
import Derived.Test.YthnbaeamekolmaaDoorUpB
import Derived.Laws.IdiomStrings
namespace Go.Proofs.YthnbaeamekolmaaDoor
open Go.RowKit
set_option linter.unusedVariables false
set_option linter.unusedSimpArgs false

/-- Block g holds a copy of the text l, its first k bytes made large. -/
def UpAt (w : World) (g : Nat) (l : List UInt8) (k : Nat) : Prop := ∃ cs : Array Value, w.heap[g]? = some (.cells cs 5 (cs.size, cs.size + 1)) ∧ l.length ≤ cs.size ∧ ∀ j (hj : j < l.length), cs[j]? = some (.int .u8 (((if j < k then upB l[j] else l[j]).toNat : Nat) : Int))

theorem upAt_cell {w : World} {g k : Nat} {l : List UInt8} (h : UpAt w g l k) (hk : k < l.length) : w.cell? ⟨g, k, none⟩ = some (.int .u8 (l[k].toNat : Int)) := by
  obtain ⟨cs, h1, h2, h3⟩ := h
  rw [cell_of_row w g k cs _ _ h1, h3 k hk, if_neg (Nat.lt_irrefl k)]

theorem upAt_free {w : World} {g k : Nat} {l : List UInt8} (h : UpAt w g l k) (hk : k < l.length) : w.frozen? ⟨g, k, none⟩ = false := by
  obtain ⟨cs, h1, h2, h3⟩ := h
  unfold World.frozen?
  rw [h1]
  have : ¬ cs.size ≤ k := by omega
  simp [this]

theorem upAt_same {w : World} {g k : Nat} {l : List UInt8} (h : UpAt w g l k) (hk : k < l.length) (hu : upB l[k] = l[k]) : UpAt w g l (k + 1) := by
  obtain ⟨cs, h1, h2, h3⟩ := h
  refine ⟨cs, h1, h2, fun j hj => ?_⟩
  rw [h3 j hj]
  by_cases e : j = k
  · subst e; rw [if_neg (Nat.lt_irrefl _), if_pos (Nat.lt_succ_self _), hu]
  · by_cases hlt : j < k
    · rw [if_pos hlt, if_pos (by omega)]
    · rw [if_neg hlt, if_neg (by omega)]

theorem upAt_store {w : World} {g k : Nat} {l : List UInt8} (h : UpAt w g l k) (hk : k < l.length) {n : Int} (hn : ((upB l[k]).toNat : Int) = n) : UpAt (w.setCell ⟨g, k, none⟩ (.int .u8 n)) g l (k + 1) := by
  obtain ⟨cs, h1, h2, h3⟩ := h
  refine ⟨cs.setIfInBounds k (.int .u8 n), ?_, by simpa using h2, fun j hj => ?_⟩
  · unfold World.setCell
    simp [Array.getElem?_modify, h1]
  · by_cases e : j = k
    · subst e
      rw [Array.getElem?_setIfInBounds, if_pos rfl, if_pos (by omega), if_pos (by omega), hn]
    · rw [Array.getElem?_setIfInBounds, if_neg (fun h => e h.symm), h3 j hj]
      by_cases hlt : j < k
      · rw [if_pos hlt, if_pos (by omega)]
      · rw [if_neg hlt, if_neg (by omega)]

theorem upAt_text {w : World} {g cap : Nat} {l : List UInt8} (h : UpAt w g l l.length) :
    (convert 87 9 (.slice (some ⟨g, 0, none⟩) l.length cap)).run Tryd.prog w = .ok (.string ⟨(upL l).toArray⟩) w := by
  obtain ⟨cs, h1, h2, h3⟩ := h
  have h2 := run_convert_bytes_back (P := Tryd.prog) w 87 9 5 ⟨g, 0, none⟩ cap (upL l) Tryd.underlying87 Tryd.underlying5 Tryd.underlying9 (fun j hj => by
    have hj' : j < l.length := by unfold upL at hj; simpa using hj
    rw [Addr.add_lit, Nat.zero_add, cell_of_row w g j cs _ _ h1, h3 j hj', if_pos hj']
    simp [upL])
  rw [show (upL l).length = l.length by unfold upL; simp] at h2
  exact h2

theorem upAt_made (w : World) (s : ByteArray) : ∃ (C : Nat) (w1 : World), (convert 9 87 (.string s)).run Tryd.prog w = .ok (.slice (some ⟨w.heap.size, 0, none⟩) s.size C) w1 ∧ UpAt w1 w.heap.size s.data.toList 0 ∧ Below w.heap.size w w1 ∧ s.size ≤ C := by
  refine ⟨_, _, run_bytes_of_string w 9 87 5 s Tryd.underlying9 Tryd.underlying87 Tryd.underlying5, ⟨bytesRow s (grownCap w s.size 0 5), ?_, ?_, ?_⟩, ?_, grownCap_ge _ _ _ _⟩
  · show (w.heap.push _)[w.heap.size]? = _
    simp
  · unfold bytesRow
    simp
  · intro j hj
    have hj' : j < s.data.size := by simpa using hj
    unfold bytesRow
    rw [if_neg (by omega), Array.getElem?_append_left (by simpa using hj'), Array.getElem?_map, Array.getElem?_eq_getElem hj']
    simp
  · exact (Below.refl _ _).drew.alloc (Nat.le_refl _) _

theorem mapAt (s : ByteArray) (k : Nat) (h : k < s.size) : s.data.toList[k]'(by simpa using h) = s[k] := rfl

end Go.Proofs.YthnbaeamekolmaaDoor
