/- What the program's functions on the letters of a name give: UpperOf, WordOK, SameWord. -/
import Derived.Test.YthnbaeamekolmaaGreatDoorUpB
import Derived.Laws.IdiomStrings
namespace Go.Proofs.YthnbaeamekolmaaGreatDoor
open Go.RowKit
set_option linter.unusedVariables false
set_option linter.unusedSimpArgs false

set_option maxRecDepth 100000 in
set_option maxHeartbeats 1000000 in
theorem wordOK_any (s : ByteArray) (w : World) (hs : s.size ≤ maxLen) :
    Calls Tryz.prog 44 #[.string s] w fun e w' => e = .returned (.bool (wordL s.data.toList)) ∧ w = w' := by
  unfold maxLen at hs
  by_cases h1 : s.size < 1
  · have E := Lib.hid (wordL_len (s := s) (by omega))
    go_enter Tryz.func44, Tryz.ntmps44
    go_wp2
    go_ret
    exact ⟨ret_bool E.out.symm, rfl⟩
  · by_cases h2 : 12 < s.size
    · have E := Lib.hid (wordL_len (s := s) (by omega))
      go_enter Tryz.func44, Tryz.ntmps44
      go_wp2
      go_ret
      exact ⟨ret_bool E.out.symm, rfl⟩
    · go_enter Tryz.func44, Tryz.ntmps44
      go_wp2
      go_loop [14] (fun i => ∃ k : Nat, k ≤ s.size ∧ i = .int .i64 k ∧ SeenTo s.data.toList k) (fun i => s.size - (intOf i).toNat)
      case atStart => exact ⟨0, Nat.zero_le _, rfl, seenTo_zero _⟩
      case round =>
        obtain ⟨k, hk, rfl, hok⟩ := hrel
        by_cases hlt : k < s.size
        · have h256 : s[k].toNat < 256 := UInt8.toNat_lt _
          by_cases hlo : s[k].toNat < 33
          · have E := Lib.hid (wordL_bad hlt (by unfold seenB inB; simp; omega))
            go_wp2
            go_ret
            exact ⟨ret_bool E.out.symm, rfl⟩
          · by_cases hhi : 126 < s[k].toNat
            · have E := Lib.hid (wordL_bad hlt (by unfold seenB inB; simp; omega))
              go_wp2
              go_ret
              exact ⟨ret_bool E.out.symm, rfl⟩
            · have E := Lib.hid (seenTo_succ hlt hok (by unfold seenB inB; simp; omega))
              go_wp2
              go_round
              case rel => exact ⟨k + 1, by omega, by go_num, E.out⟩
              case measure => simp [intOf]; omega
        · obtain rfl : k = s.size := by omega
          have E := Lib.hid (wordL_all (by omega) (by omega) hok)
          go_wp2
          go_ret
          exact ⟨ret_bool E.out.symm, rfl⟩

/-- Block g holds a copy of the text l, its first k bytes made large. -/
def UpAt (w : World) (g : Nat) (l : List UInt8) (k : Nat) : Prop := ∃ cs : Array Value, w.heap[g]? = some (.cells cs 5 (cs.size, cs.size + 1)) ∧ l.length ≤ cs.size ∧ ∀ j (hj : j < l.length), cs[j]? = some (.int .u8 (((if j < k then upB l[j] else l[j]).toNat : Nat) : Int))

theorem upAt_cell {w : World} {g k : Nat} {l : List UInt8} (h : UpAt w g l k) (hk : k < l.length) : w.cell? ⟨g, k, none⟩ = some (.int .u8 (l[k].toNat : Int)) := by
  obtain ⟨cs, h1, h2, h3⟩ := h
  rw [cell_of_row w g k cs _ _ h1, h3 k hk, if_neg (Nat.lt_irrefl k)]

theorem upAt_free {w : World} {g k : Nat} {l : List UInt8} (h : UpAt w g l k) (hk : k < l.length) : w.frozen? ⟨g, k, none⟩ = false := by
  obtain ⟨cs, h1, h2, h3⟩ := h
  unfold World.frozen?
  rw [h1]
  have : ¬ cs.size ≤ k := by omega
  simp [this]

theorem upAt_same {w : World} {g k : Nat} {l : List UInt8} (h : UpAt w g l k) (hk : k < l.length) (hu : upB l[k] = l[k]) : UpAt w g l (k + 1) := by
  obtain ⟨cs, h1, h2, h3⟩ := h
  refine ⟨cs, h1, h2, fun j hj => ?_⟩
  rw [h3 j hj]
  by_cases e : j = k
  · subst e; rw [if_neg (Nat.lt_irrefl _), if_pos (Nat.lt_succ_self _), hu]
  · by_cases hlt : j < k
    · rw [if_pos hlt, if_pos (by omega)]
    · rw [if_neg hlt, if_neg (by omega)]

theorem upAt_store {w : World} {g k : Nat} {l : List UInt8} (h : UpAt w g l k) (hk : k < l.length) {n : Int} (hn : ((upB l[k]).toNat : Int) = n) : UpAt (w.setCell ⟨g, k, none⟩ (.int .u8 n)) g l (k + 1) := by
  obtain ⟨cs, h1, h2, h3⟩ := h
  refine ⟨cs.setIfInBounds k (.int .u8 n), ?_, by simpa using h2, fun j hj => ?_⟩
  · unfold World.setCell
    simp [Array.getElem?_modify, h1]
  · by_cases e : j = k
    · subst e
      rw [Array.getElem?_setIfInBounds, if_pos rfl, if_pos (by omega), if_pos (by omega), hn]
    · rw [Array.getElem?_setIfInBounds, if_neg (fun h => e h.symm), h3 j hj]
      by_cases hlt : j < k
      · rw [if_pos hlt, if_pos (by omega)]
      · rw [if_neg hlt, if_neg (by omega)]

theorem upAt_text {w : World} {g cap : Nat} {l : List UInt8} (h : UpAt w g l l.length) :
    (convert 55 9 (.slice (some ⟨g, 0, none⟩) l.length cap)).run Tryz.prog w = .ok (.string ⟨(upL l).toArray⟩) w := by
  obtain ⟨cs, h1, h2, h3⟩ := h
  have h2 := run_convert_bytes_back (P := Tryz.prog) w 55 9 5 ⟨g, 0, none⟩ cap (upL l) Tryz.underlying55 Tryz.underlying5 Tryz.underlying9 (fun j hj => by
    have hj' : j < l.length := by unfold upL at hj; simpa using hj
    rw [Addr.add_lit, Nat.zero_add, cell_of_row w g j cs _ _ h1, h3 j hj', if_pos hj']
    simp [upL])
  rw [show (upL l).length = l.length by unfold upL; simp] at h2
  exact h2

theorem upAt_made (w : World) (s : ByteArray) : ∃ (C : Nat) (w1 : World), (convert 9 55 (.string s)).run Tryz.prog w = .ok (.slice (some ⟨w.heap.size, 0, none⟩) s.size C) w1 ∧ UpAt w1 w.heap.size s.data.toList 0 ∧ Below w.heap.size w w1 ∧ s.size ≤ C := by
  refine ⟨_, _, run_bytes_of_string w 9 55 5 s Tryz.underlying9 Tryz.underlying55 Tryz.underlying5, ⟨bytesRow s (grownCap w s.size 0 5), ?_, ?_, ?_⟩, ?_, grownCap_ge _ _ _ _⟩
  · show (w.heap.push _)[w.heap.size]? = _
    simp
  · unfold bytesRow
    simp
  · intro j hj
    have hj' : j < s.data.size := by simpa using hj
    unfold bytesRow
    rw [if_neg (by omega), Array.getElem?_append_left (by simpa using hj'), Array.getElem?_map, Array.getElem?_eq_getElem hj']
    simp
  · exact (Below.refl _ _).drew.alloc (Nat.le_refl _) _

theorem mapAt (s : ByteArray) (k : Nat) (h : k < s.size) : s.data.toList[k]'(by simpa using h) = s[k] := rfl

end Go.Proofs.YthnbaeamekolmaaGreatDoor
