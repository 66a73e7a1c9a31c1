/- Plain facts: a text of a cell is read back, also with small letters; with a letter that is no digit behind it, it is not. -/
import Derived.Test.YtfiildimochcgaaDoorReadM
import Derived.Test.YtfiildimochcgaaDoorTextA
namespace Go.Proofs.YtfiildimochcgaaDoor
open Go.RowKit
set_option linter.unusedVariables false
set_option linter.unusedSimpArgs false

theorem up_dig : ∀ (k : Nat), k < 16 → digV (upD k).toNat = k := by
  rintro (_ | _ | _ | _ | _ | _ | _ | _ | _ | _ | _ | _ | _ | _ | _ | _ | _) h <;> first | rfl | omega

theorem low_dig : ∀ (k : Nat), k < 16 → digV (lowD k).toNat = k := by
  rintro (_ | _ | _ | _ | _ | _ | _ | _ | _ | _ | _ | _ | _ | _ | _ | _ | _) h <;> first | rfl | omega

/-- Letters that stand for their digits. -/
def Letters (D : Nat → UInt8) : Prop := ∀ k : Nat, k < 16 → digV (D k).toNat = k

theorem sum_digN {D : Nat → UInt8} (hD : Letters D) {b : Nat} (hb : 2 ≤ b) (hb' : b ≤ 16) (u : Nat) : sumL b (digN D b u) = u := by
  induction u using Nat.strongRecOn with
  | _ u ih =>
    by_cases hu : u < b
    · rw [digN_small hu]
      have h : sumL (b : Int) [D u] = sumL b ([] ++ [D u]) := rfl
      rw [h, sumL_snoc, sumL_nil, hD u (by omega)]; simp
    · rw [digN_step hb (by omega), sumL_snoc, ih (u / b) (Nat.div_lt_self (by omega) (by omega)), hD (u % b) (by have := Nat.mod_lt u (by omega : 0 < b); omega)]
      have := Nat.div_add_mod u b
      rw [Nat.mul_comm] at this
      have e : ((u / b : Nat) : Int) * (b : Int) + ((u % b : Nat) : Int) = ((u / b * b + u % b : Nat) : Int) := by simp
      rw [e, this]

theorem digN_pos {D : Nat → UInt8} {b : Nat} (hb : 2 ≤ b) (u : Nat) : 1 ≤ (digN D b u).length := by
  by_cases hu : u < b
  · rw [digN_small hu]; simp
  · rw [digN_step hb (by omega)]; simp

theorem ok_digN {D : Nat → UInt8} (hD : Letters D) {b : Nat} (hb : 2 ≤ b) (hb' : b ≤ 16) {u : Nat} (hu : u ≤ 2147483648) : readOk b (digN D b u) = true := by
  unfold readOk
  rw [Bool.and_eq_true]
  refine ⟨decide_eq_true ⟨digN_pos hb u, digN_33 hb hu⟩, List.all_eq_true.2 ?_⟩
  exact digN_all (D := D) (p := fun c => inBase b c = true) hb (fun k hk => by
    unfold inBase; rw [hD k (by omega)]; exact decide_eq_true (by omega)) u

theorem head_digN {D : Nat → UInt8} (hD : Letters D) {b : Nat} (hb : 2 ≤ b) (hb' : b ≤ 16) (u : Nat) : minL (digN D b u) = false := by
  have h := digN_all (D := D) (p := fun c => c ≠ 45) hb (fun k hk e => by
    have := hD k (by omega)
    rw [e] at this
    have e2 : digV ((45 : UInt8).toNat : Int) = -1 := by decide
    rw [e2] at this; omega) u
  cases hl : digN D b u with
  | nil => rfl
  | cons c r =>
    have := h c (by rw [hl]; simp)
    simpa [minL] using this

theorem text_len33 {b : Nat} (hb : 2 ≤ b) {n : Int} (h1 : -2147483648 ≤ n) (h2 : n ≤ 2147483647) {D : Nat → UInt8} : (textL D b n).length ≤ 33 := by
  have h := digN_33 (D := D) hb (u := n.natAbs) (by omega)
  unfold textL
  split
  · simp; omega
  · omega

theorem text_back {D : Nat → UInt8} (hD : Letters D) {b : Nat} (hb : 2 ≤ b) (hb' : b ≤ 16) {n : Int} (h1 : -2147483648 ≤ n) (h2 : n ≤ 2147483647) : rcV b (textL D b n) = n ∧ rcC b (textL D b n) = 0 := by
  have hin : inB (b : Int) 2 16 = true := by unfold inB; simp; omega
  have hlen := text_len33 hb h1 h2 (D := D)
  by_cases hn : n < 0
  · have e : textL D b n = 45 :: digN D b n.natAbs := textL_neg hn
    have hm : minL (textL D b n) = true := by rw [e]; rfl
    have hs : stripL (textL D b n) = digN D b n.natAbs := by unfold stripL; rw [if_pos hm, e]; rfl
    have hr := rc_ok (base := (b : Int)) (l := textL D b n) (by omega) hin (by rw [hs]; exact ok_digN hD hb hb' (by omega))
    refine ⟨?_, hr.2⟩
    rw [hr.1]; unfold rdV; rw [if_pos hm, hs, sum_digN hD hb hb']
    unfold wrap32; omega
  · have e : textL D b n = digN D b n.natAbs := by unfold textL; rw [if_neg hn]
    have hm : minL (textL D b n) = false := by rw [e]; exact head_digN hD hb hb' _
    have hs : stripL (textL D b n) = digN D b n.natAbs := by unfold stripL; rw [if_neg (by rw [hm]; simp), e]
    have hr := rc_ok (base := (b : Int)) (l := textL D b n) (by omega) hin (by rw [hs]; exact ok_digN hD hb hb' (by omega))
    refine ⟨?_, hr.2⟩
    rw [hr.1]; unfold rdV; rw [if_neg (by rw [hm]; simp), hs, sum_digN hD hb hb']
    unfold wrap32; omega

theorem strip_last {l : List UInt8} (h : l ≠ []) (c : UInt8) : c ∈ stripL (l ++ [c]) := by
  unfold stripL
  split
  · cases l with
    | nil => exact absurd rfl h
    | cons d r => simp
  · simp

theorem text_bad {b : Nat} (hb : 2 ≤ b) (hb' : b ≤ 16) {l : List UInt8} (h : l ≠ []) (hl : l.length ≤ 33) : rcV b (l ++ [71]) = 0 ∧ rcC b (l ++ [71]) = 3 := by
  have hin : inB (b : Int) 2 16 = true := by unfold inB; simp; omega
  refine rc_form (by simp; omega) hin ?_
  cases hc : readOk (b : Int) (stripL (l ++ [71]))
  · rfl
  · unfold readOk at hc
    rw [Bool.and_eq_true] at hc
    have := List.all_eq_true.1 hc.2 _ (strip_last h 71)
    unfold inBase at this
    have h2 := (of_decide_eq_true this).1
    have e2 : digV ((71 : UInt8).toNat : Int) = -1 := by decide
    rw [e2] at h2; omega

/-- A byte with a small letter for a large one. -/
def smallB (c : UInt8) : UInt8 := if 65 ≤ c.toNat then c + 32 else c

theorem small_up : ∀ (k : Nat), k < 16 → smallB (upD k) = lowD k := by
  rintro (_ | _ | _ | _ | _ | _ | _ | _ | _ | _ | _ | _ | _ | _ | _ | _ | _) h <;> first | rfl | omega

theorem small_text {b : Nat} (hb : 2 ≤ b) (hb' : b ≤ 16) (n : Int) : (textL upD b n).map smallB = textL lowD b n := by
  unfold textL
  have h := digN_map (D := upD) (E := lowD) (f := smallB) hb (fun k hk => small_up k (by omega)) n.natAbs
  split
  · rw [List.map_cons, h]; rfl
  · exact h

theorem text_le90 {b : Nat} (hb : 2 ≤ b) (hb' : b ≤ 16) (n : Int) : ∀ c ∈ textL upD b n, c.toNat ≤ 90 := by
  have hu : ∀ (k : Nat), k < 16 → (upD k).toNat ≤ 90 := by
    rintro (_ | _ | _ | _ | _ | _ | _ | _ | _ | _ | _ | _ | _ | _ | _ | _ | _) h <;> first | decide | omega
  have h := digN_all (D := upD) (p := fun c => c.toNat ≤ 90) hb (fun k hk => hu k (by omega)) n.natAbs
  unfold textL
  split
  · intro c hc
    rcases List.mem_cons.1 hc with rfl | hc
    · decide
    · exact h c hc
  · exact h

theorem text_ne {D : Nat → UInt8} {b : Nat} (hb : 2 ≤ b) (n : Int) : textL D b n ≠ [] := by
  unfold textL
  split
  · simp
  · intro e; have := digN_pos (D := D) hb n.natAbs; rw [e] at this; simp at this

end Go.Proofs.YtfiildimochcgaaDoor
