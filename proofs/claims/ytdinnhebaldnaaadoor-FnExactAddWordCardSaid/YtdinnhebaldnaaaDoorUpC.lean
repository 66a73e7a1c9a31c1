/- What the program's functions on the letters of a name give: UpperOf, WordOK, SameWord. -/
import Derived.Test.YtdinnhebaldnaaaDoorUpB
import Derived.Laws.IdiomStrings
namespace Go.Proofs.YtdinnhebaldnaaaDoor
open Go.RowKit
set_option linter.unusedVariables false
set_option linter.unusedSimpArgs false

set_option maxRecDepth 100000 in
set_option maxHeartbeats 1000000 in
theorem wordOK_any (s : ByteArray) (w : World) (hs : s.size ≤ maxLen) :
    Calls Tryd.prog 55 #[.string s] w fun e w' => e = .returned (.bool (wordL s.data.toList)) ∧ w = w' := by
  unfold maxLen at hs
  by_cases h1 : s.size < 1
  · have E := Lib.hid (wordL_len (s := s) (by omega))
    go_enter Tryd.func55, Tryd.ntmps55
    go_wp2
    go_ret
    exact ⟨ret_bool E.out.symm, rfl⟩
  · by_cases h2 : 12 < s.size
    · have E := Lib.hid (wordL_len (s := s) (by omega))
      go_enter Tryd.func55, Tryd.ntmps55
      go_wp2
      go_ret
      exact ⟨ret_bool E.out.symm, rfl⟩
    · go_enter Tryd.func55, Tryd.ntmps55
      go_wp2
      go_loop [14] (fun i => ∃ k : Nat, k ≤ s.size ∧ i = .int .i64 k ∧ SeenTo s.data.toList k) (fun i => s.size - (intOf i).toNat)
      case atStart => exact ⟨0, Nat.zero_le _, rfl, seenTo_zero _⟩
      case round =>
        obtain ⟨k, hk, rfl, hok⟩ := hrel
        by_cases hlt : k < s.size
        · have h256 : s[k].toNat < 256 := UInt8.toNat_lt _
          by_cases hlo : s[k].toNat < 33
          · have E := Lib.hid (wordL_bad hlt (by unfold seenB inB; simp; omega))
            go_wp2
            go_ret
            exact ⟨ret_bool E.out.symm, rfl⟩
          · by_cases hhi : 126 < s[k].toNat
            · have E := Lib.hid (wordL_bad hlt (by unfold seenB inB; simp; omega))
              go_wp2
              go_ret
              exact ⟨ret_bool E.out.symm, rfl⟩
            · have E := Lib.hid (seenTo_succ hlt hok (by unfold seenB inB; simp; omega))
              go_wp2
              go_round
              case rel => exact ⟨k + 1, by omega, by go_num, E.out⟩
              case measure => simp [intOf]; omega
        · obtain rfl : k = s.size := by omega
          have E := Lib.hid (wordL_all (by omega) (by omega) hok)
          go_wp2
          go_ret
          exact ⟨ret_bool E.out.symm, rfl⟩

/-- Block g holds a copy of the text l, its first k bytes made large. -/
def UpAt (w : World) (g : Nat) (l : List UInt8) (k : Nat) : Prop := ∃ cs : Array Value, w.heap[g]? = some (.cells cs 5 (cs.size, cs.size + 1)) ∧ l.length ≤ cs.size ∧ ∀ j (hj : j < l.length), cs[j]? = some (.int .u8 (((if j < k then upB l[j] else l[j]).toNat : Nat) : Int))

theorem upAt_cell {w : World} {g k : Nat} {l : List UInt8} (h : UpAt w g l k) (hk : k < l.length) : w.cell? ⟨g, k, none⟩ = some (.int .u8 (l[k].toNat : Int)) := by
  obtain ⟨cs, h1, h2, h3⟩ := h
  rw [cell_of_row w g k cs _ _ h1, h3 k hk, if_neg (Nat.lt_irrefl k)]

theorem upAt_free {w : World} {g k : Nat} {l : List UInt8} (h : UpAt w g l k) (hk : k < l.length) : w.frozen? ⟨g, k, none⟩ = false := by
  obtain ⟨cs, h1, h2, h3⟩ := h
  unfold World.frozen?
  rw [h1]
  have : ¬ cs.size ≤ k := by omega
  simp [this]

theorem upAt_same {w : World} {g k : Nat} {l : List UInt8} (h : UpAt w g l k) (hk : k < l.length) (hu : upB l[k] = l[k]) : UpAt w g l (k + 1) := by
  obtain ⟨cs, h1, h2, h3⟩ := h
  refine ⟨cs, h1, h2, fun j hj => ?_⟩
  rw [h3 j hj]
  by_cases e : j = k
  · subst e; rw [if_neg (Nat.lt_irrefl _), if_pos (Nat.lt_succ_self _), hu]
  · by_cases hlt : j < k
    · rw [if_pos hlt, if_pos (by omega)]
    · rw [if_neg hlt, if_neg (by omega)]

theorem upAt_store {w : World} {g k : Nat} {l : List UInt8} (h : UpAt w g l k) (hk : k < l.length) {n : Int} (hn : ((upB l[k]).toNat : Int) = n) : UpAt (w.setCell ⟨g, k, none⟩ (.int .u8 n)) g l (k + 1) := by
  obtain ⟨cs, h1, h2, h3⟩ := h
  refine ⟨cs.setIfInBounds k (.int .u8 n), ?_, by simpa using h2, fun j hj => ?_⟩
  · unfold World.setCell
    simp [Array.getElem?_modify, h1]
  · by_cases e : j = k
    · subst e
      rw [Array.getElem?_setIfInBounds, if_pos rfl, if_pos (by omega), if_pos (by omega), hn]
    · rw [Array.getElem?_setIfInBounds, if_neg (fun h => e h.symm), h3 j hj]
      by_cases hlt : j < k
      · rw [if_pos hlt, if_pos (by omega)]
      · rw [if_neg hlt, if_neg (by omega)]

theorem upAt_text {w : World} {g cap : Nat} {l : List UInt8} (h : UpAt w g l l.length) :
    (convert 22 9 (.slice (some ⟨g, 0, none⟩) l.length cap)).run Tryd.prog w = .ok (.string ⟨(upL l).toArray⟩) w := by
  obtain ⟨cs, h1, h2, h3⟩ := h
  have h2 := run_convert_bytes_back (P := Tryd.prog) w 22 9 5 ⟨g, 0, none⟩ cap (upL l) Tryd.underlying22 Tryd.underlying5 Tryd.underlying9 (fun j hj => by
    have hj' : j < l.length := by unfold upL at hj; simpa using hj
    rw [Addr.add_lit, Nat.zero_add, cell_of_row w g j cs _ _ h1, h3 j hj', if_pos hj']
    simp [upL])
  rw [show (upL l).length = l.length by unfold upL; simp] at h2
  exact h2

theorem upAt_made (w : World) (s : ByteArray) : ∃ (C : Nat) (w1 : World), (convert 9 22 (.string s)).run Tryd.prog w = .ok (.slice (some ⟨w.heap.size, 0, none⟩) s.size C) w1 ∧ UpAt w1 w.heap.size s.data.toList 0 ∧ Below w.heap.size w w1 ∧ s.size ≤ C := by
  refine ⟨_, _, run_bytes_of_string w 9 22 5 s Tryd.underlying9 Tryd.underlying22 Tryd.underlying5, ⟨bytesRow s (grownCap w s.size 0 5), ?_, ?_, ?_⟩, ?_, grownCap_ge _ _ _ _⟩
  · show (w.heap.push _)[w.heap.size]? = _
    simp
  · unfold bytesRow
    simp
  · intro j hj
    have hj' : j < s.data.size := by simpa using hj
    unfold bytesRow
    rw [if_neg (by omega), Array.getElem?_append_left (by simpa using hj'), Array.getElem?_map, Array.getElem?_eq_getElem hj']
    simp
  · exact (Below.refl _ _).drew.alloc (Nat.le_refl _) _

theorem mapAt (s : ByteArray) (k : Nat) (h : k < s.size) : s.data.toList[k]'(by simpa using h) = s[k] := rfl

set_option maxRecDepth 100000 in
set_option maxHeartbeats 1000000 in
theorem upperOf_any (s : ByteArray) (w : World) (hs : s.size ≤ maxLen) :
    Calls Tryd.prog 20 #[.string s] w fun e w' => e = .returned (.string ⟨(upO s.data.toList).toArray⟩) ∧ Below w.heap.size w w' := by
  unfold maxLen at hs
  by_cases hl : 65536 < s.size
  · have E : Hid (upO s.data.toList = []) := Lib.hid (by unfold upO; rw [if_pos (by rw [list_len]; exact hl)])
    go_enter Tryd.func20, Tryd.ntmps20
    go_wp2
    go_ret
    exact ⟨congrArg (fun s => Ending.returned (.string s)) (by rw [E.out]), Below.refl _ _⟩
  · have E : Hid (upO s.data.toList = upL s.data.toList) := Lib.hid (by unfold upO; rw [if_neg (by rw [list_len]; exact hl)])
    obtain ⟨C, w1, hcv, hu, hb, hC⟩ := upAt_made w s
    have U := Lib.hid hu
    have B := Lib.hid hb
    have hB := hb.size
    have LL := Lib.hid (list_len s)
    clear hu hb
    go_enter Tryd.func20, Tryd.ntmps20
    go_wp2
    clear hcv
    go_loopw [13] (fun i wr => ∃ k : Nat, k ≤ s.size ∧ i = .int .i64 k ∧ UpAt wr w.heap.size s.data.toList k ∧ Below w.heap.size w wr) (fun i _ => s.size - (intOf i).toNat)
    case atStart => exact ⟨0, Nat.zero_le _, rfl, U.out, B.out⟩
    case round =>
      obtain ⟨k, hk, rfl, hu, hb⟩ := hrel
      have HU := Lib.hid hu
      have HB := Lib.hid hb
      clear hu hb
      by_cases hlt : k < s.size
      · have hlt2 : k < s.data.toList.length := by rw [LL.out]; exact hlt
        have hcell := upAt_cell HU.out hlt2
        have hfree := upAt_free HU.out hlt2
        obtain ⟨c, hc⟩ : ∃ c : UInt8, s.data.toList[k] = c := ⟨_, rfl⟩
        rw [hc] at hcell
        have h256 : c.toNat < 256 := UInt8.toNat_lt _
        by_cases hbig : 97 ≤ c.toNat ∧ c.toNat ≤ 122
        · have ST : Hid (UpAt (wr.setCell ⟨w.heap.size, k, none⟩ (.int .u8 ((c.toNat : Int) - 97 + 65))) w.heap.size s.data.toList (k + 1)) := Lib.hid (upAt_store HU.out hlt2 (by
            rw [hc]; have := upB_yes hbig.1 hbig.2; omega))
          have SB : Hid (Below w.heap.size w (wr.setCell ⟨w.heap.size, k, none⟩ (.int .u8 ((c.toNat : Int) - 97 + 65)))) := Lib.hid (HB.out.setCell (Nat.le_refl _) _)
          obtain ⟨g1, g2⟩ := hbig
          clear hc hlt2
          go_wp2
          go_roundw
          case rel => exact ⟨k + 1, by omega, by go_num, ST.out, SB.out⟩
          case measure => simp [intOf]; omega
        · have SA := Lib.hid (upAt_same HU.out hlt2 (by rw [hc]; exact upB_no hbig))
          clear hc hlt2
          by_cases g1 : 97 ≤ c.toNat
          · have g2 : ¬ c.toNat ≤ 122 := fun h => hbig ⟨g1, h⟩
            clear hbig
            go_wp2
            go_roundw
            case rel => exact ⟨k + 1, by omega, by go_num, SA.out, HB.out⟩
            case measure => simp [intOf]; omega
          · clear hbig
            go_wp2
            go_roundw
            case rel => exact ⟨k + 1, by omega, by go_num, SA.out, HB.out⟩
            case measure => simp [intOf]; omega
      · obtain rfl : k = s.size := by omega
        have hcv := upAt_text (cap := C) (by rw [LL.out]; exact HU.out : UpAt wr w.heap.size s.data.toList s.data.toList.length)
        rw [LL.out] at hcv
        clear hlt
        go_wp2
        go_ret
        exact ⟨congrArg (fun s => Ending.returned (.string s)) (by rw [E.out]), HB.out⟩

end Go.Proofs.YtdinnhebaldnaaaDoor
