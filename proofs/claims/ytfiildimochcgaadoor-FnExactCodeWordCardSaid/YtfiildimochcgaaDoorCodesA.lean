/- What CodeWord and CodeOf give, of impl and of spec. -/
import Derived.Test.YtfiildimochcgaaDoorCellsA
import Derived.WalkSmall
namespace Go.Proofs.YtfiildimochcgaaDoor
open Go.RowKit
set_option linter.unusedVariables false
set_option linter.unusedSimpArgs false

/-- The words of the codes, in order. -/
def codeList : List (List UInt8) := [[111, 107], [98, 97, 100], [108, 111, 110, 103], [102, 111, 114, 109], [114, 97, 110, 103, 101], [110, 111, 110, 101], [109, 97, 110, 121], [102, 117, 108, 108], [115, 105, 122, 101], [107, 105, 110, 100], [110, 97, 109, 101], [115, 116, 97, 116, 101], [99, 111, 110, 116, 114, 111, 108], [116, 111, 107, 101, 110], [102, 117, 101, 108], [116, 104, 114, 111, 119, 110], [100, 101, 110, 105, 101, 100], [115, 101, 97, 108, 101, 100], [115, 97, 109, 101]]

/-- The word of code k. -/
def cw (k : Nat) : ByteArray := ⟨(codeList.getD k []).toArray⟩

/-- The word of any number. -/
def codeW (c : Int) : ByteArray := if 0 ≤ c ∧ c < 19 then cw c.toNat else ⟨#[]⟩

theorem ret_str {a b : ByteArray} (h : a = b) : Ending.returned (.string a) = .returned (.string b) := by rw [h]

/-- The program's table of words holds the words. -/
def Codes (w : World) : Prop := ∀ k, k < 19 → w.cell? ⟨0, k, none⟩ = some (.string (cw k))

theorem codes_below {w w' : World} (h : Codes w) (hb : Below w.heap.size w w') : Codes w' := by
  intro k hk
  rw [hb.cell]
  · exact h k hk
  · have := h k hk
    rcases Nat.lt_or_ge 0 w.heap.size with h1 | h1
    · exact h1
    · have h2 : w.heap.size = 0 := by omega
      simp [World.cell?, h2] at this

theorem lit_cw : ∀ (k : Nat) (h : k < 19), ([Value.string ⟨#[111, 107]⟩, Value.string ⟨#[98, 97, 100]⟩, Value.string ⟨#[108, 111, 110, 103]⟩, Value.string ⟨#[102, 111, 114, 109]⟩, Value.string ⟨#[114, 97, 110, 103, 101]⟩, Value.string ⟨#[110, 111, 110, 101]⟩, Value.string ⟨#[109, 97, 110, 121]⟩, Value.string ⟨#[102, 117, 108, 108]⟩, Value.string ⟨#[115, 105, 122, 101]⟩, Value.string ⟨#[107, 105, 110, 100]⟩, Value.string ⟨#[110, 97, 109, 101]⟩, Value.string ⟨#[115, 116, 97, 116, 101]⟩, Value.string ⟨#[99, 111, 110, 116, 114, 111, 108]⟩, Value.string ⟨#[116, 111, 107, 101, 110]⟩, Value.string ⟨#[102, 117, 101, 108]⟩, Value.string ⟨#[116, 104, 114, 111, 119, 110]⟩, Value.string ⟨#[100, 101, 110, 105, 101, 100]⟩, Value.string ⟨#[115, 101, 97, 108, 101, 100]⟩, Value.string ⟨#[115, 97, 109, 101]⟩] : List Value)[k] = .string (cw k) := by
  rintro (_ | _ | _ | _ | _ | _ | _ | _ | _ | _ | _ | _ | _ | _ | _ | _ | _ | _ | _ | _) h <;> first | rfl | omega

theorem codeW_out {c : Int} (h : c < 0 ∨ 19 ≤ c) : codeW c = ⟨#[]⟩ := by unfold codeW; rw [if_neg (by omega)]
theorem codeW_in {k : Nat} (h : k < 19) : codeW k = cw k := by unfold codeW; rw [if_pos (by omega)]; rfl

set_option maxHeartbeats 400000 in
theorem codeWord_any (c : Int) (w : World) (h : Codes w) :
    Calls Tryd.prog 13 #[.int .i64 c] w fun e w' => e = .returned (.string (codeW c)) ∧ w = w' := by
  by_cases h0 : c < 0
  · have E := Lib.hid (codeW_out (.inl h0))
    clear h
    go_enter Tryd.func13, Tryd.ntmps13
    go_wp2
    go_ret
    exact ⟨ret_str E.out.symm, rfl⟩
  · by_cases h1 : 19 ≤ c
    · have E := Lib.hid (codeW_out (.inr h1))
      clear h
      go_enter Tryd.func13, Tryd.ntmps13
      go_wp2
      go_ret
      exact ⟨ret_str E.out.symm, rfl⟩
    · obtain ⟨k, rfl⟩ := Int.eq_ofNat_of_zero_le (by omega : 0 ≤ c)
      have hk : k < 19 := by omega
      have E := Lib.hid (codeW_in hk)
      have hc := h k hk
      clear h h0 h1
      generalize cw k = s at *
      go_enter Tryd.func13, Tryd.ntmps13
      go_wp2
      go_ret
      exact ⟨ret_str E.out.symm, rfl⟩

set_option maxHeartbeats 4000000 in
theorem sCodeWord_any (c : Int) (w : World) :
    Calls Tryd.prog 12 #[.int .i64 c] w fun e w' => e = .returned (.string (codeW c)) ∧ Below w.heap.size w w' := by
  by_cases h0 : c < 0
  · have E := Lib.hid (codeW_out (.inl h0))
    go_enter Tryd.func12, Tryd.ntmps12
    go_wp2
    go_ret
    exact ⟨ret_str E.out.symm, (Below.refl _ _).alloc (Nat.le_refl _) _⟩
  · by_cases h1 : 19 ≤ c
    · have E := Lib.hid (codeW_out (.inr h1))
      go_enter Tryd.func12, Tryd.ntmps12
      go_wp2
      go_ret
      exact ⟨ret_str E.out.symm, (Below.refl _ _).alloc (Nat.le_refl _) _⟩
    · obtain ⟨k, rfl⟩ := Int.eq_ofNat_of_zero_le (by omega : 0 ≤ c)
      have hk : k < 19 := by omega
      have E := Lib.hid (codeW_in hk)
      clear h0 h1
      go_enter Tryd.func12, Tryd.ntmps12
      go_wp2
      go_ret
      exact ⟨(congrArg Ending.returned (lit_cw k hk)).trans (ret_str E.out.symm), (Below.refl _ _).alloc (Nat.le_refl _) _⟩

/-- Is the text the word of code k? -/
def hit (s : ByteArray) (k : Nat) : Bool := (codeW k).toList == s.toList

/-- The first code from k on, of the next n, whose word the text is; -1 of no such. -/
def codeFrom (s : ByteArray) : Nat → Nat → Int
  | _, 0 => -1
  | k, n + 1 => if hit s k = true then k else codeFrom s (k + 1) n

/-- The code of a word. -/
def codeO (s : ByteArray) : Int := codeFrom s 0 19

/-- No code before k has been it. -/
def CodeAt (s : ByteArray) (k : Nat) : Prop := codeO s = codeFrom s k (19 - k)

theorem codeAt_zero (s : ByteArray) : CodeAt s 0 := rfl
theorem codeAt_succ {s : ByteArray} {k : Nat} (h : CodeAt s k) (hk : k < 19) (hh : hit s k = false) : CodeAt s (k + 1) := by
  unfold CodeAt at *
  rw [h, show 19 - k = (19 - (k + 1)) + 1 from by omega, codeFrom, hh]
  rfl
theorem codeAt_hit {s : ByteArray} {k : Nat} (h : CodeAt s k) (hk : k < 19) (hh : hit s k = true) : codeO s = k := by
  unfold CodeAt at *
  rw [h, show 19 - k = (19 - (k + 1)) + 1 from by omega, codeFrom, hh]
  rfl
theorem codeAt_end {s : ByteArray} (h : CodeAt s 19) : codeO s = -1 := h

set_option maxHeartbeats 1000000 in
theorem codeOf_any (s : ByteArray) (w : World) (h : Codes w) :
    Calls Tryd.prog 15 #[.string s] w fun e w' => e = .returned (.int .i64 (codeO s)) ∧ w = w' := by
  have H := Lib.hid h
  clear h
  go_enter Tryd.func15, Tryd.ntmps15
  go_wp2
  go_loop [4] (fun i => ∃ k : Nat, k ≤ 19 ∧ i = .int .i64 k ∧ CodeAt s k) (fun i => 19 - (intOf i).toNat)
  case atStart => exact ⟨0, by omega, rfl, codeAt_zero s⟩
  case round =>
    obtain ⟨k, hk, rfl, hat⟩ := hrel
    by_cases hlt : k < 19
    · have hc := H.out k hlt
      have hW := Lib.hid (codeW_in hlt)
      generalize hcw : cw k = t at *
      clear hcw
      cases hh : hit s k
      · have E := Lib.hid (codeAt_succ hat hlt hh)
        have ht : (t.toList == s.toList) = false := by rw [← hW.out]; exact hh
        clear hh
        go_wp2
        go_round
        case rel => exact ⟨k + 1, by omega, by go_num, E.out⟩
        case measure => simp [intOf]; omega
      · have E := Lib.hid (codeAt_hit hat hlt hh)
        have ht : (t.toList == s.toList) = true := by rw [← hW.out]; exact hh
        clear hh
        go_wp2
        go_ret
        exact ⟨ret_int E.out.symm, rfl⟩
    · obtain rfl : k = 19 := by omega
      have E := Lib.hid (codeAt_end hat)
      go_wp2
      go_ret
      exact ⟨ret_int E.out.symm, rfl⟩

set_option maxHeartbeats 1000000 in
theorem sCodeOf_any (s : ByteArray) (w : World) :
    Calls Tryd.prog 14 #[.string s] w fun e w' => e = .returned (.int .i64 (codeO s)) ∧ Below w.heap.size w w' := by
  go_enter Tryd.func14, Tryd.ntmps14
  go_wp2
  go_loopw [3] (fun i wr => ∃ k : Nat, k ≤ 19 ∧ i = .int .i64 k ∧ CodeAt s k ∧ Below w.heap.size w wr) (fun i _ => 19 - (intOf i).toNat)
  case atStart => exact ⟨0, by omega, rfl, codeAt_zero s, Below.refl _ _⟩
  case round =>
    obtain ⟨k, hk, rfl, hat, hb⟩ := hrel
    have B := Lib.hid hb
    clear hb
    by_cases hlt : k < 19
    · cases hh : hit s k
      · have E := Lib.hid (codeAt_succ hat hlt hh)
        unfold hit at hh
        go_wp2_with fail
        refine (sCodeWord_any _ _).mono ?_
        rintro e w1 ⟨rfl, hb1⟩
        have B1 := Lib.hid (B.out.trans (hb1.mono B.out.size))
        clear hb1
        generalize codeW k = t at *
        go_wp2
        go_roundw
        case rel => exact ⟨k + 1, by omega, by go_num, E.out, B1.out⟩
        case measure => simp [intOf]; omega
      · have E := Lib.hid (codeAt_hit hat hlt hh)
        unfold hit at hh
        go_wp2_with fail
        refine (sCodeWord_any _ _).mono ?_
        rintro e w1 ⟨rfl, hb1⟩
        have B1 := Lib.hid (B.out.trans (hb1.mono B.out.size))
        clear hb1
        generalize codeW k = t at *
        go_wp2
        go_ret
        exact ⟨ret_int E.out.symm, B1.out⟩
    · obtain rfl : k = 19 := by omega
      have E := Lib.hid (codeAt_end hat)
      go_wp2
      go_ret
      exact ⟨ret_int E.out.symm, B.out⟩

end Go.Proofs.YtfiildimochcgaaDoor
