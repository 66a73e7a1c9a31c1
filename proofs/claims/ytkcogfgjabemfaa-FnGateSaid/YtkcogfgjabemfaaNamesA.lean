/- What the functions on single bytes give: letters and digits. -/
import Derived.Test.YtkcogfgjabemfaaCellsA
namespace Go.Proofs.Ytkcogfgjabemfaa
open Go.RowKit
set_option linter.unusedVariables false
set_option linter.unusedSimpArgs false

/-- A digit's byte. -/
def digB (c : Int) : Bool := decide (48 ≤ c ∧ c ≤ 57)

/-- A name's letter. -/
def letB (c : Int) : Bool := decide (97 ≤ c ∧ c ≤ 122 ∨ 65 ≤ c ∧ c ≤ 90 ∨ c = 95)

theorem let_cases (c : Int) : c < 65 ∨ (65 ≤ c ∧ c ≤ 90) ∨ (90 < c ∧ c < 97 ∧ c = 95) ∨ (90 < c ∧ c < 97 ∧ (c == 95) = false ∧ ¬ c = 95) ∨ (97 ≤ c ∧ c ≤ 122) ∨ 122 < c := by
  by_cases h : c = 95
  · omega
  · have : (c == 95) = false := by simpa using h
    by_cases h2 : c < 65
    · exact .inl h2
    · by_cases h3 : c ≤ 90
      · exact .inr (.inl ⟨by omega, h3⟩)
      · by_cases h4 : c < 97
        · exact .inr (.inr (.inr (.inl ⟨by omega, h4, this, h⟩)))
        · omega

/-- A name: a letter, then letters and digits, at most 12 in all. -/
def nameL (l : List UInt8) : Bool := match l with
  | [] => false
  | c :: r => decide (r.length < 12) && letB c.toNat && r.all fun d => letB d.toNat || digB d.toNat

/-- The first k bytes are letters and digits. -/
def OkTo (l : List UInt8) (k : Nat) : Prop := ∀ x ∈ l.take k, (letB x.toNat || digB x.toNat) = true

theorem take_snoc (s : ByteArray) (k : Nat) (h : k < s.size) : s.data.toList.take (k + 1) = s.data.toList.take k ++ [s[k]] := by
  rw [List.take_succ_eq_append_getElem (by simpa using h)]; rfl

theorem okTo_zero (l : List UInt8) : OkTo l 0 := by intro x hx; simp at hx

theorem okTo_succ {s : ByteArray} {k : Nat} (h : k < s.size) (ho : OkTo s.data.toList k) (hk : (letB s[k].toNat || digB s[k].toNat) = true) : OkTo s.data.toList (k + 1) := by
  intro x hx
  rw [take_snoc s k h] at hx
  rcases List.mem_append.1 hx with hx | hx
  · exact ho x hx
  · rw [List.mem_singleton.1 hx]; exact hk

theorem nameL_short : nameL [] = false := rfl

theorem nameL_long {l : List UInt8} (h : 12 < l.length) : nameL l = false := by
  cases l with
  | nil => rfl
  | cons c r => simp at h; simp [nameL]; omega

theorem let_dig {c : Int} (h : letB c = true) : digB c = false := by
  unfold letB at h; unfold digB; simp at *; omega

theorem nameL_okL {l : List UInt8} (h1 : 0 < l.length) (h2 : l.length ≤ 12) (d : digB (l[0]).toNat = false) (ho : OkTo l l.length) : nameL l = true := by
  unfold OkTo at ho
  rw [List.take_of_length_le (by omega)] at ho
  cases l with
  | nil => simp at h1
  | cons c r =>
    simp at d h2 ho
    obtain ⟨hc, hr⟩ := ho
    have hlet : letB c.toNat = true := by
      rcases hc with hc | hc
      · exact hc
      · rw [d] at hc; cases hc
    simp [nameL, hlet]
    exact ⟨by omega, hr⟩

theorem nameL_ok {s : ByteArray} (h1 : 0 < s.size) (h2 : s.size ≤ 12) (d : digB s[0].toNat = false) (ho : OkTo s.data.toList s.size) : nameL s.data.toList = true :=
  nameL_okL (l := s.data.toList) (by simpa using h1) (by simpa using h2) d (by simpa using ho)

theorem nameL_digitL {l : List UInt8} (h1 : 0 < l.length) (d : digB (l[0]).toNat = true) : nameL l = false := by
  cases l with
  | nil => rfl
  | cons c r =>
    simp at d
    have hlet : letB c.toNat = false := by
      cases hh : letB c.toNat
      · rfl
      · rw [let_dig hh] at d; cases d
    simp [nameL, hlet]

theorem nameL_digit {s : ByteArray} (h1 : 0 < s.size) (d : digB s[0].toNat = true) : nameL s.data.toList = false :=
  nameL_digitL (l := s.data.toList) (by simpa using h1) d

theorem nameL_head {s : ByteArray} (h1 : 0 < s.size) (d : letB s[0].toNat = false) : nameL s.data.toList = false := by
  have h : ∀ (l : List UInt8) (h : 0 < l.length), letB (l[0]).toNat = false → nameL l = false := by
    intro l h d
    cases l with
    | nil => rfl
    | cons c r => simp at d; simp [nameL, d]
  exact h s.data.toList (by simpa using h1) d

theorem nameL_badL {l : List UInt8} {k : Nat} (h : k < l.length) (hl : letB (l[k]).toNat = false) (hd : digB (l[k]).toNat = false) : nameL l = false := by
  cases l with
  | nil => rfl
  | cons c r =>
    cases k with
    | zero => simp at hl; simp [nameL, hl]
    | succ k =>
      simp at hl hd
      have hm := List.getElem_mem (l := r) (n := k) (by simpa using h)
      cases hb : nameL (c :: r)
      · rfl
      · simp [nameL] at hb
        rcases hb.2 _ hm with hx | hx
        · rw [hl] at hx; cases hx
        · rw [hd] at hx; cases hx

theorem nameL_bad {s : ByteArray} {k : Nat} (h : k < s.size) (hl : letB s[k].toNat = false) (hd : digB s[k].toNat = false) : nameL s.data.toList = false :=
  nameL_badL (l := s.data.toList) (k := k) (by simpa using h) hl hd

end Go.Proofs.Ytkcogfgjabemfaa
