/- What strconv.FormatInt and impl.CellText give of a cell. -/
import Derived.Test.YtfiildimochcgaaDoorFmtC
import Derived.Test.YtfiildimochcgaaDoorTextA
import Derived.Test.YtfiildimochcgaaDoorShelf
import Derived.Lib.AppendIntMem
import Derived.Lib.LaidTab
namespace Go.Proofs.YtfiildimochcgaaDoor
open Go.RowKit
set_option linter.unusedVariables false
set_option linter.unusedSimpArgs false

theorem dec_eq (u : Nat) : Lib.decDigits u = digN lowD 10 u := by
  induction u using Nat.strongRecOn with
  | _ u ih =>
    by_cases h : u < 10
    · rw [Lib.decDigits, dif_pos h, digN_small h]; simp [lowD, h]
    · rw [Lib.decDigits, dif_neg h, digN_step (by omega) (by omega), ih (u / 10) (by omega)]
      have : u % 10 < 10 := by omega
      simp [lowD, this]

theorem itoa_eq (n : Int) : Lib.itoa n = textL lowD 10 n := by
  unfold Lib.itoa textL
  by_cases h : n < 0
  · rw [if_pos h, if_pos h, dec_eq]
  · rw [if_neg h, if_neg h, dec_eq]; congr 1; omega

theorem up_low : ∀ (k : Nat), k < 16 → Lib.upperB (lowD k) = upD k := by
  rintro (_ | _ | _ | _ | _ | _ | _ | _ | _ | _ | _ | _ | _ | _ | _ | _ | _) h <;> first | rfl | omega

theorem low_small : ∀ (k : Nat), k < 16 → (lowD k).toNat < 128 := by
  rintro (_ | _ | _ | _ | _ | _ | _ | _ | _ | _ | _ | _ | _ | _ | _ | _ | _) h <;> first | decide | omega

theorem upper_text {b : Nat} (hb : 2 ≤ b) (hb' : b ≤ 16) (n : Int) : Lib.toUpperA (textL lowD b n) = textL upD b n := by
  unfold Lib.toUpperA textL
  have h := digN_map (D := lowD) (E := upD) (f := Lib.upperB) hb (fun k hk => up_low k (by omega)) n.natAbs
  split
  · rw [List.map_cons, h]; rfl
  · exact h

theorem text_ascii {b : Nat} (hb : 2 ≤ b) (hb' : b ≤ 16) (n : Int) : ∀ c ∈ textL lowD b n, c.toNat < 128 := by
  have h := digN_all (D := lowD) (p := fun c => c.toNat < 128) hb (fun k hk => low_small k (by omega)) n.natAbs
  unfold textL
  split
  · intro c hc
    rcases List.mem_cons.1 hc with rfl | hc
    · decide
    · exact h c hc
  · exact h

theorem text_len {b : Nat} (hb : 2 ≤ b) {n : Int} (h1 : -2147483648 ≤ n) (h2 : n ≤ 2147483647) {D : Nat → UInt8} : (textL D b n).length ≤ 33 := by
  have h := digN_33 (D := D) hb (u := n.natAbs) (by omega)
  unfold textL
  split
  · simp; omega
  · omega

/-- formatBits at every base but 10, of a number that is not negative. -/
theorem bits_pos (u b : Nat) (w : World) (h1 : 2 ≤ b) (h2 : b ≤ 16) (h10 : b ≠ 10) (hu : u ≤ 2147483648) (htz : TZ w) :
    Calls Tryd.prog 51 #[.slice none 0 0, .int .u64 u, .int .i64 b, .bool false, .bool false] w fun e w' => e = .returned (.tuple #[.slice none 0 0, .string ⟨(digN lowD b u).toArray⟩]) ∧ Below w.heap.size w w' := by
  by_cases hp : p2 b = true
  · have : b = 2 ∨ b = 4 ∨ b = 8 ∨ b = 16 := by unfold p2 at hp; simp at hp; omega
    rcases this with rfl | rfl | rfl | rfl
    · exact fmt_2 u w hu htz
    · exact fmt_4 u w hu htz
    · exact fmt_8 u w hu htz
    · exact fmt_16 u w hu htz
  · exact fmt_gen u b w h1 h2 (by simp; omega) (by simpa using hp) hu

/-- formatBits at every base but 10, of a negative number. -/
theorem bits_neg (u b : Nat) (w : World) (h1 : 2 ≤ b) (h2 : b ≤ 16) (h10 : b ≠ 10) (hu : u ≤ 2147483648) (htz : TZ w) :
    Calls Tryd.prog 51 #[.slice none 0 0, .int .u64 (IntKind.u64.wrap (-(u : Int))), .int .i64 b, .bool true, .bool false] w fun e w' => e = .returned (.tuple #[.slice none 0 0, .string ⟨(45 :: digN lowD b u).toArray⟩]) ∧ Below w.heap.size w w' := by
  by_cases hp : p2 b = true
  · have : b = 2 ∨ b = 4 ∨ b = 8 ∨ b = 16 := by unfold p2 at hp; simp at hp; omega
    rcases this with rfl | rfl | rfl | rfl
    · exact fmt_2_neg u w hu htz
    · exact fmt_4_neg u w hu htz
    · exact fmt_8_neg u w hu htz
    · exact fmt_16_neg u w hu htz
  · exact fmt_gen_neg u b w h1 h2 (by simp; omega) (by simpa using hp) hu

/-- What the library's tables hold, where a cell's text reads them. -/
def Tabs (w : World) : Prop := TZ w ∧ Lib.TabIs Tryd.prog w "internal/strconv.uint64pow10" .u64 Lib.pow10Tab

set_option maxRecDepth 100000 in
set_option maxHeartbeats 1000000 in
theorem fmtIn_any (n : Int) (b : Nat) (w : World) (h1 : 2 ≤ b) (h2 : b ≤ 16) (h10 : b ≠ 10) (n1 : -2147483648 ≤ n) (n2 : n ≤ 2147483647) (htz : TZ w) :
    Calls Tryd.prog 37 #[.int .i64 n, .int .i64 b] w fun e w' => e = .returned (.string ⟨(textL lowD b n).toArray⟩) ∧ Below w.heap.size w w' := by
  have hb10 : ((b : Int) == 10) = false := by simp; omega
  by_cases hn : n < 0
  · obtain ⟨u, hu⟩ : ∃ u : Nat, n = -(u : Int) := ⟨n.natAbs, by omega⟩
    subst hu
    have E : Hid (45 :: digN lowD b u = textL lowD b (-(u : Int))) := Lib.hid (by rw [textL_neg hn]; simp)
    have C := Lib.hid (bits_neg u b w h1 h2 h10 (by omega) htz)
    clear htz h10
    go_enter Tryd.func37, Tryd.ntmps37
    go_wp2_with fail
    rw [show decide (0 < u) = true from decide_eq_true (by omega)]
    refine C.out.mono ?_
    rintro e w1 ⟨rfl, hb⟩
    have B := Lib.hid hb
    clear hb
    go_wp2
    go_ret
    exact ⟨congrArg (fun s => Ending.returned (.string s)) (by rw [E.out]), B.out⟩
  · obtain ⟨u, rfl⟩ := Int.eq_ofNat_of_zero_le (by omega : 0 ≤ n)
    have E : Hid (digN lowD b u = textL lowD b (u : Int)) := Lib.hid textL_nat.symm
    have C := Lib.hid (bits_pos u b w h1 h2 h10 (by omega) htz)
    clear htz h10
    go_enter Tryd.func37, Tryd.ntmps37
    go_wp2_with fail
    first | (with_reducible refine C.out.mono ?_) | (rw [show decide ((u : Int) < 0) = false from decide_eq_false (by omega)]; with_reducible refine C.out.mono ?_)
    rintro e w1 ⟨rfl, hb⟩
    have B := Lib.hid hb
    clear hb
    go_wp2
    go_ret
    exact ⟨congrArg (fun s => Ending.returned (.string s)) (by rw [E.out]), B.out⟩

set_option maxRecDepth 100000 in
set_option maxHeartbeats 1000000 in
theorem fmt_any (n : Int) (b : Nat) (w : World) (h1 : 2 ≤ b) (h2 : b ≤ 16) (n1 : -2147483648 ≤ n) (n2 : n ≤ 2147483647) (ht : Tabs w) :
    Calls Tryd.prog 21 #[.int .i64 n, .int .i64 b] w fun e w' => e = .returned (.string ⟨(textL lowD b n).toArray⟩) ∧ Below w.heap.size w w' := by
  by_cases h10 : b = 10
  · subst h10
    refine (Tryd.strconv_FormatInt_10 n (by omega) (by omega) w ht.2).mono ?_
    rintro e w' ⟨rfl, k, os, rfl⟩
    exact ⟨by rw [itoa_eq], Lib.below_grow _ _ (Nat.le_refl _) _ _⟩
  · have C := Lib.hid (fmtIn_any n b w h1 h2 h10 n1 n2 ht.1)
    clear ht h10
    go_enter Tryd.func21, Tryd.ntmps21
    go_wp2_with fail
    refine C.out.mono ?_
    rintro e w1 ⟨rfl, hb⟩
    have B := Lib.hid hb
    clear hb
    go_wp2
    go_ret
    exact ⟨rfl, B.out⟩

end Go.Proofs.YtfiildimochcgaaDoor
