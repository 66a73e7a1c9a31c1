/- Plain facts on the digits of a number: no program in sight. -/
import Derived.WalkKit
namespace Go.Proofs.Ytkcogfgjabemfaa
open Go.RowKit
set_option linter.unusedVariables false
set_option linter.unusedSimpArgs false

/-- The digits of u in base b, by the letters D. -/
def digN (D : Nat → UInt8) (b : Nat) (u : Nat) : List UInt8 :=
  if h : u < b ∨ b < 2 then [D u] else digN D b (u / b) ++ [D (u % b)]
termination_by u
decreasing_by exact Nat.div_lt_self (by omega) (by omega)

theorem digN_small {D : Nat → UInt8} {b u : Nat} (h : u < b) : digN D b u = [D u] := by rw [digN, dif_pos (.inl h)]

theorem digN_step {D : Nat → UInt8} {b u : Nat} (hb : 2 ≤ b) (h : b ≤ u) : digN D b u = digN D b (u / b) ++ [D (u % b)] := by
  rw [digN, dif_neg (by omega)]

/-- A digit's letter, large. -/
def upD (k : Nat) : UInt8 := if k < 10 then UInt8.ofNat (48 + k) else UInt8.ofNat (55 + k)

/-- A digit's letter, small. -/
def lowD (k : Nat) : UInt8 := if k < 10 then UInt8.ofNat (48 + k) else UInt8.ofNat (87 + k)

/-- The text of a number in a base. -/
def textL (D : Nat → UInt8) (b : Nat) (n : Int) : List UInt8 := if n < 0 then 45 :: digN D b n.natAbs else digN D b n.natAbs

theorem textL_neg {D : Nat → UInt8} {b : Nat} {n : Int} (h : n < 0) : textL D b n = 45 :: digN D b n.natAbs := by unfold textL; rw [if_pos h]
theorem textL_nat {D : Nat → UInt8} {b u : Nat} : textL D b (u : Int) = digN D b u := by unfold textL; rw [if_neg (by omega)]; simp

theorem digN_map {D E : Nat → UInt8} {f : UInt8 → UInt8} {b : Nat} (hb : 2 ≤ b) (h : ∀ k, k < b → f (D k) = E k) (u : Nat) : (digN D b u).map f = digN E b u := by
  induction u using Nat.strongRecOn with
  | _ u ih =>
    by_cases hu : u < b
    · rw [digN_small hu, digN_small hu]; simp [h u hu]
    · have hu : b ≤ u := by omega
      rw [digN_step hb hu, digN_step hb hu, List.map_append, ih (u / b) (Nat.div_lt_self (by omega) (by omega))]
      simp [h (u % b) (Nat.mod_lt _ (by omega))]

theorem digN_all {D : Nat → UInt8} {p : UInt8 → Prop} {b : Nat} (hb : 2 ≤ b) (h : ∀ k, k < b → p (D k)) (u : Nat) : ∀ c ∈ digN D b u, p c := by
  induction u using Nat.strongRecOn with
  | _ u ih =>
    by_cases hu : u < b
    · rw [digN_small hu]; intro c hc; rw [List.mem_singleton.1 hc]; exact h u hu
    · have hu : b ≤ u := by omega
      rw [digN_step hb hu]
      intro c hc
      rcases List.mem_append.1 hc with hc | hc
      · exact ih (u / b) (Nat.div_lt_self (by omega) (by omega)) c hc
      · rw [List.mem_singleton.1 hc]; exact h _ (Nat.mod_lt _ (by omega))

theorem digN_len {D : Nat → UInt8} {b : Nat} (hb : 2 ≤ b) (m : Nat) : ∀ u, u < b ^ (m + 1) → (digN D b u).length ≤ m + 1 := by
  induction m with
  | zero =>
    intro u hu
    rw [digN_small (by simpa using hu)]
    simp
  | succ m ih =>
    intro u hu
    by_cases h : u < b
    · rw [digN_small h]; simp
    · rw [digN_step hb (by omega), List.length_append]
      have := ih (u / b) (by rw [Nat.div_lt_iff_lt_mul (by omega)]; rw [← Nat.pow_succ]; exact hu)
      simp; omega

theorem digN_33 {D : Nat → UInt8} {b : Nat} (hb : 2 ≤ b) {u : Nat} (hu : u ≤ 2147483648) : (digN D b u).length ≤ 32 :=
  digN_len hb 31 u (by
    have : 2 ^ 32 ≤ b ^ (31 + 1) := Nat.pow_le_pow_left hb 32
    have e : (2 : Nat) ^ 32 = 4294967296 := by decide
    omega)

end Go.Proofs.Ytkcogfgjabemfaa
