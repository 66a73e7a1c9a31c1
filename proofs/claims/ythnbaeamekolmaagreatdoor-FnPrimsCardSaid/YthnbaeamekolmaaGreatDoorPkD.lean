/- PkD: several of my texts, laid together: TextM, NamesA, ReadA, TextA, CellsB, CellsC. -/
import Derived.WalkKit
import Derived.Test.YthnbaeamekolmaaGreatDoorPkA
import Derived.Lib.Strings
import Derived.WalkSmall
namespace Go.Proofs.YthnbaeamekolmaaGreatDoor
open Go.RowKit
set_option linter.unusedVariables false
set_option linter.unusedSimpArgs false

/-- The digits of u in base b, by the letters D. -/
def digN (D : Nat → UInt8) (b : Nat) (u : Nat) : List UInt8 :=
  if h : u < b ∨ b < 2 then [D u] else digN D b (u / b) ++ [D (u % b)]
termination_by u
decreasing_by exact Nat.div_lt_self (by omega) (by omega)

theorem digN_small {D : Nat → UInt8} {b u : Nat} (h : u < b) : digN D b u = [D u] := by rw [digN, dif_pos (.inl h)]

theorem digN_step {D : Nat → UInt8} {b u : Nat} (hb : 2 ≤ b) (h : b ≤ u) : digN D b u = digN D b (u / b) ++ [D (u % b)] := by
  rw [digN, dif_neg (by omega)]

/-- A digit's letter, large. -/
def upD (k : Nat) : UInt8 := if k < 10 then UInt8.ofNat (48 + k) else UInt8.ofNat (55 + k)

/-- A digit's letter, small. -/
def lowD (k : Nat) : UInt8 := if k < 10 then UInt8.ofNat (48 + k) else UInt8.ofNat (87 + k)

/-- The text of a number in a base. -/
def textL (D : Nat → UInt8) (b : Nat) (n : Int) : List UInt8 := if n < 0 then 45 :: digN D b n.natAbs else digN D b n.natAbs

theorem textL_neg {D : Nat → UInt8} {b : Nat} {n : Int} (h : n < 0) : textL D b n = 45 :: digN D b n.natAbs := by unfold textL; rw [if_pos h]
theorem textL_nat {D : Nat → UInt8} {b u : Nat} : textL D b (u : Int) = digN D b u := by unfold textL; rw [if_neg (by omega)]; simp

theorem digN_map {D E : Nat → UInt8} {f : UInt8 → UInt8} {b : Nat} (hb : 2 ≤ b) (h : ∀ k, k < b → f (D k) = E k) (u : Nat) : (digN D b u).map f = digN E b u := by
  induction u using Nat.strongRecOn with
  | _ u ih =>
    by_cases hu : u < b
    · rw [digN_small hu, digN_small hu]; simp [h u hu]
    · have hu : b ≤ u := by omega
      rw [digN_step hb hu, digN_step hb hu, List.map_append, ih (u / b) (Nat.div_lt_self (by omega) (by omega))]
      simp [h (u % b) (Nat.mod_lt _ (by omega))]

theorem digN_all {D : Nat → UInt8} {p : UInt8 → Prop} {b : Nat} (hb : 2 ≤ b) (h : ∀ k, k < b → p (D k)) (u : Nat) : ∀ c ∈ digN D b u, p c := by
  induction u using Nat.strongRecOn with
  | _ u ih =>
    by_cases hu : u < b
    · rw [digN_small hu]; intro c hc; rw [List.mem_singleton.1 hc]; exact h u hu
    · have hu : b ≤ u := by omega
      rw [digN_step hb hu]
      intro c hc
      rcases List.mem_append.1 hc with hc | hc
      · exact ih (u / b) (Nat.div_lt_self (by omega) (by omega)) c hc
      · rw [List.mem_singleton.1 hc]; exact h _ (Nat.mod_lt _ (by omega))

theorem digN_len {D : Nat → UInt8} {b : Nat} (hb : 2 ≤ b) (m : Nat) : ∀ u, u < b ^ (m + 1) → (digN D b u).length ≤ m + 1 := by
  induction m with
  | zero =>
    intro u hu
    rw [digN_small (by simpa using hu)]
    simp
  | succ m ih =>
    intro u hu
    by_cases h : u < b
    · rw [digN_small h]; simp
    · rw [digN_step hb (by omega), List.length_append]
      have := ih (u / b) (by rw [Nat.div_lt_iff_lt_mul (by omega)]; rw [← Nat.pow_succ]; exact hu)
      simp; omega

theorem digN_33 {D : Nat → UInt8} {b : Nat} (hb : 2 ≤ b) {u : Nat} (hu : u ≤ 2147483648) : (digN D b u).length ≤ 32 :=
  digN_len hb 31 u (by
    have : 2 ^ 32 ≤ b ^ (31 + 1) := Nat.pow_le_pow_left hb 32
    have e : (2 : Nat) ^ 32 = 4294967296 := by decide
    omega)

end Go.Proofs.YthnbaeamekolmaaGreatDoor

namespace Go.Proofs.YthnbaeamekolmaaGreatDoor
open Go.RowKit
set_option linter.unusedVariables false
set_option linter.unusedSimpArgs false

/-- A digit's byte. -/
def digB (c : Int) : Bool := decide (48 ≤ c ∧ c ≤ 57)

/-- A name's letter. -/
def letB (c : Int) : Bool := decide (97 ≤ c ∧ c ≤ 122 ∨ 65 ≤ c ∧ c ≤ 90 ∨ c = 95)

theorem let_cases (c : Int) : c < 65 ∨ (65 ≤ c ∧ c ≤ 90) ∨ (90 < c ∧ c < 97 ∧ c = 95) ∨ (90 < c ∧ c < 97 ∧ (c == 95) = false ∧ ¬ c = 95) ∨ (97 ≤ c ∧ c ≤ 122) ∨ 122 < c := by
  by_cases h : c = 95
  · omega
  · have : (c == 95) = false := by simpa using h
    by_cases h2 : c < 65
    · exact .inl h2
    · by_cases h3 : c ≤ 90
      · exact .inr (.inl ⟨by omega, h3⟩)
      · by_cases h4 : c < 97
        · exact .inr (.inr (.inr (.inl ⟨by omega, h4, this, h⟩)))
        · omega

/-- A name: a letter, then letters and digits, at most 12 in all. -/
def nameL (l : List UInt8) : Bool := match l with
  | [] => false
  | c :: r => decide (r.length < 12) && letB c.toNat && r.all fun d => letB d.toNat || digB d.toNat

/-- The first k bytes are letters and digits. -/
def OkTo (l : List UInt8) (k : Nat) : Prop := ∀ x ∈ l.take k, (letB x.toNat || digB x.toNat) = true

theorem take_snoc (s : ByteArray) (k : Nat) (h : k < s.size) : s.data.toList.take (k + 1) = s.data.toList.take k ++ [s[k]] := by
  rw [List.take_succ_eq_append_getElem (by simpa using h)]; rfl

theorem okTo_zero (l : List UInt8) : OkTo l 0 := by intro x hx; simp at hx

theorem okTo_succ {s : ByteArray} {k : Nat} (h : k < s.size) (ho : OkTo s.data.toList k) (hk : (letB s[k].toNat || digB s[k].toNat) = true) : OkTo s.data.toList (k + 1) := by
  intro x hx
  rw [take_snoc s k h] at hx
  rcases List.mem_append.1 hx with hx | hx
  · exact ho x hx
  · rw [List.mem_singleton.1 hx]; exact hk

theorem nameL_short : nameL [] = false := rfl

theorem nameL_long {l : List UInt8} (h : 12 < l.length) : nameL l = false := by
  cases l with
  | nil => rfl
  | cons c r => simp at h; simp [nameL]; omega

theorem let_dig {c : Int} (h : letB c = true) : digB c = false := by
  unfold letB at h; unfold digB; simp at *; omega

theorem nameL_okL {l : List UInt8} (h1 : 0 < l.length) (h2 : l.length ≤ 12) (d : digB (l[0]).toNat = false) (ho : OkTo l l.length) : nameL l = true := by
  unfold OkTo at ho
  rw [List.take_of_length_le (by omega)] at ho
  cases l with
  | nil => simp at h1
  | cons c r =>
    simp at d h2 ho
    obtain ⟨hc, hr⟩ := ho
    have hlet : letB c.toNat = true := by
      rcases hc with hc | hc
      · exact hc
      · rw [d] at hc; cases hc
    simp [nameL, hlet]
    exact ⟨by omega, hr⟩

theorem nameL_ok {s : ByteArray} (h1 : 0 < s.size) (h2 : s.size ≤ 12) (d : digB s[0].toNat = false) (ho : OkTo s.data.toList s.size) : nameL s.data.toList = true :=
  nameL_okL (l := s.data.toList) (by simpa using h1) (by simpa using h2) d (by simpa using ho)

theorem nameL_digitL {l : List UInt8} (h1 : 0 < l.length) (d : digB (l[0]).toNat = true) : nameL l = false := by
  cases l with
  | nil => rfl
  | cons c r =>
    simp at d
    have hlet : letB c.toNat = false := by
      cases hh : letB c.toNat
      · rfl
      · rw [let_dig hh] at d; cases d
    simp [nameL, hlet]

theorem nameL_digit {s : ByteArray} (h1 : 0 < s.size) (d : digB s[0].toNat = true) : nameL s.data.toList = false :=
  nameL_digitL (l := s.data.toList) (by simpa using h1) d

theorem nameL_head {s : ByteArray} (h1 : 0 < s.size) (d : letB s[0].toNat = false) : nameL s.data.toList = false := by
  have h : ∀ (l : List UInt8) (h : 0 < l.length), letB (l[0]).toNat = false → nameL l = false := by
    intro l h d
    cases l with
    | nil => rfl
    | cons c r => simp at d; simp [nameL, d]
  exact h s.data.toList (by simpa using h1) d

theorem nameL_badL {l : List UInt8} {k : Nat} (h : k < l.length) (hl : letB (l[k]).toNat = false) (hd : digB (l[k]).toNat = false) : nameL l = false := by
  cases l with
  | nil => rfl
  | cons c r =>
    cases k with
    | zero => simp at hl; simp [nameL, hl]
    | succ k =>
      simp at hl hd
      have hm := List.getElem_mem (l := r) (n := k) (by simpa using h)
      cases hb : nameL (c :: r)
      · rfl
      · simp [nameL] at hb
        rcases hb.2 _ hm with hx | hx
        · rw [hl] at hx; cases hx
        · rw [hd] at hx; cases hx

theorem nameL_bad {s : ByteArray} {k : Nat} (h : k < s.size) (hl : letB s[k].toNat = false) (hd : digB s[k].toNat = false) : nameL s.data.toList = false :=
  nameL_badL (l := s.data.toList) (k := k) (by simpa using h) hl hd

end Go.Proofs.YthnbaeamekolmaaGreatDoor

namespace Go.Proofs.YthnbaeamekolmaaGreatDoor
open Go.RowKit
set_option linter.unusedVariables false
set_option linter.unusedSimpArgs false

/-- A digit's value, -1 of a byte that is none. -/
def digV (c : Int) : Int := if 48 ≤ c ∧ c ≤ 57 then c - 48 else if 65 ≤ c ∧ c ≤ 70 then c - 55 else if 97 ≤ c ∧ c ≤ 102 then c - 87 else -1

theorem digV_bd (c : Int) : -1 ≤ digV c ∧ digV c ≤ 15 := by unfold digV; split <;> (try split) <;> (try split) <;> omega

theorem dig_cases (c : Int) (h0 : 0 ≤ c) (h1 : c ≤ 255) : (c < 48 ∧ digB c = false ∧ digV c = -1) ∨ (48 ≤ c ∧ c ≤ 57 ∧ digB c = true ∧ digV c = c - 48) ∨ (57 < c ∧ c < 65 ∧ digB c = false ∧ digV c = -1) ∨ (65 ≤ c ∧ c ≤ 70 ∧ digB c = false ∧ digV c = c - 55) ∨ (70 < c ∧ c < 97 ∧ digB c = false ∧ digV c = -1) ∨ (97 ≤ c ∧ c ≤ 102 ∧ digB c = false ∧ digV c = c - 87) ∨ (102 < c ∧ digB c = false ∧ digV c = -1) := by
  have e : digB c = true ↔ 48 ≤ c ∧ c ≤ 57 := by unfold digB; simp
  have e' : digB c = false ↔ ¬ (48 ≤ c ∧ c ≤ 57) := by unfold digB; simp
  rw [e, e']
  unfold digV
  split
  · omega
  · split
    · omega
    · split <;> omega

set_option maxHeartbeats 400000 in
theorem baseOK_any (a : Int) (w : World) :
    Calls Tryz.prog 69 #[.int .i64 a] w fun e w' => e = .returned (.bool (inB a 2 16)) ∧ w = w' := by
  by_cases h : 2 ≤ a
  · by_cases h' : a ≤ 16
    all_goals
      go_enter Tryz.func69, Tryz.ntmps69
      go_wp2
      go_ret
      exact ⟨ret_bool (by unfold inB; simp [h, h']), rfl⟩
  · go_enter Tryz.func69, Tryz.ntmps69
    go_wp2
    go_ret
    exact ⟨ret_bool (by unfold inB; simp; omega), rfl⟩

set_option maxHeartbeats 400000 in
theorem sBase_any (a : Int) (w : World) :
    Calls Tryz.prog 133 #[.int .i64 a] w fun e w' => e = .returned (.bool (inB a 2 16)) ∧ w = w' := by
  go_enter Tryz.func133, Tryz.ntmps133
  go_wp2_with (go_at_call 64; refine (sIn_any _ _ _ _).mono ?_; rintro e w' ⟨rfl, rfl⟩)
  go_ret
  exact ⟨rfl, rfl⟩

/-- Does a text begin with a minus sign? -/
def minL (l : List UInt8) : Bool := match l with
  | [] => false
  | c :: _ => c == 45

/-- What stands behind the sign. -/
def stripL (l : List UInt8) : List UInt8 := if minL l = true then l.tail else l

/-- The same of a string. -/
def cutB (s : ByteArray) : ByteArray := if minL s.data.toList = true then s.extract 1 s.size else s

theorem cutB_list (s : ByteArray) : (cutB s).data.toList = stripL s.data.toList := by
  unfold cutB stripL
  split
  · rw [Lib.extract_data]
    cases h : s.data.toList with
    | nil => simp
    | cons c r =>
      have : s.size = r.length + 1 := by
        have h2 : s.data.toList.length = s.size := by simp
        rw [h] at h2; simpa using h2.symm
      simp [this]
  · rfl

theorem stripL_le (l : List UInt8) : (stripL l).length ≤ l.length := by
  unfold stripL; split
  · simp
  · exact Nat.le_refl _

theorem cutB_size (s : ByteArray) : (cutB s).size ≤ s.size := by
  have h1 : (cutB s).data.toList.length = (cutB s).size := by simp
  have h2 : s.data.toList.length = s.size := by simp
  have := stripL_le s.data.toList
  rw [cutB_list] at h1; omega

theorem min_test (s : ByteArray) : ((s.extract 0 1).toList == [45]) = minL s.data.toList := by
  rw [Lib.extract_toList]
  cases s.data.toList with
  | nil => rfl
  | cons c r => simp [minL]

theorem min_zero (s : ByteArray) (h : ¬ 0 < s.size) : minL s.data.toList = false := by
  have : s.data.toList = [] := List.eq_nil_of_length_eq_zero (by simpa using (by omega : s.size = 0))
  rw [this]; rfl

theorem min_first {s : ByteArray} (h : 0 < s.size) : ((s[0].toNat : Int) == 45) = minL s.data.toList := by
  have g : ∀ (l : List UInt8) (h : 0 < l.length), (((l[0]).toNat : Int) == 45) = minL l := by
    intro l h
    cases l with
    | nil => simp at h
    | cons c r =>
      simp [minL]
      rw [Bool.eq_iff_iff]
      simp
      constructor
      · intro h; exact UInt8.toNat_inj.1 (by simp; omega)
      · rintro rfl; rfl
  exact g s.data.toList (by simpa using h)

theorem ret_sb {a b : ByteArray} {c d : Bool} (h : a = b) (h' : c = d) : Ending.returned (.tuple #[.string a, .bool c]) = .returned (.tuple #[.string b, .bool d]) := by rw [h, h']

theorem min_pos {s : ByteArray} (h : minL s.data.toList = true) : 0 < s.size := by
  by_cases h0 : 0 < s.size
  · exact h0
  · rw [min_zero s h0] at h; cases h

end Go.Proofs.YthnbaeamekolmaaGreatDoor

namespace Go.Proofs.YthnbaeamekolmaaGreatDoor
open Go.RowKit
set_option linter.unusedVariables false
set_option linter.unusedSimpArgs false

/-- The letters that the specification reads, at a digit. -/
theorem up_at : ∀ (u : Nat) (h : u < 16), (⟨#[48, 49, 50, 51, 52, 53, 54, 55, 56, 57, 65, 66, 67, 68, 69, 70]⟩ : ByteArray)[u]'h = upD u := by
  rintro (_ | _ | _ | _ | _ | _ | _ | _ | _ | _ | _ | _ | _ | _ | _ | _ | _) h <;> first | rfl | omega

theorem app_one (l : List UInt8) (c : UInt8) : (⟨l.toArray⟩ ++ ⟨#[c]⟩ : ByteArray) = ⟨(l ++ [c]).toArray⟩ := by
  apply ByteArray.ext; simp

theorem one_app (l : List UInt8) : ((⟨#[45]⟩ : ByteArray) ++ ⟨l.toArray⟩) = ⟨(45 :: l).toArray⟩ := by
  apply ByteArray.ext; apply Array.ext'; simp

theorem conv_one (W : World) (c : UInt8) : (convert 55 9 (.slice (some ⟨W.heap.size, 0, none⟩) 1 1)).run Tryz.prog (W.alloc (.cells #[.int .u8 (c.toNat : Int)] 5)) = .ok (.string ⟨#[c]⟩) (W.alloc (.cells #[.int .u8 (c.toNat : Int)] 5)) :=
  run_convert_bytes_back (P := Tryz.prog) _ 55 9 5 ⟨W.heap.size, 0, none⟩ 1 [c] Tryz.underlying55 Tryz.underlying5 Tryz.underlying9 (fun j hj => by
    have : j = 0 := by simp at hj; omega
    subst this
    simp [Addr.add])

set_option maxRecDepth 100000 in
set_option maxHeartbeats 1000000 in
theorem text_small (u b : Nat) (w : World) (hb : 2 ≤ b) (hb' : b ≤ 16) (hu : u < b) :
    Calls Tryz.prog 201 #[.int .i64 u, .int .i64 b] w fun e w' => e = .returned (.string ⟨(digN upD b u).toArray⟩) ∧ Below w.heap.size w w' := by
  have hm : ((u : Int) % (b : Int)) = u := Int.emod_eq_of_lt (by omega) (by omega)
  have h16 : u < 16 := by omega
  have hcv := conv_one w ((⟨#[48, 49, 50, 51, 52, 53, 54, 55, 56, 57, 65, 66, 67, 68, 69, 70]⟩ : ByteArray)[u]'h16)
  have E : Hid ((⟨#[(⟨#[48, 49, 50, 51, 52, 53, 54, 55, 56, 57, 65, 66, 67, 68, 69, 70]⟩ : ByteArray)[u]'h16]⟩ : ByteArray) = ⟨(digN upD b u).toArray⟩) := Lib.hid (by rw [digN_small hu, up_at u h16])
  go_enter Tryz.func201, Tryz.ntmps201
  go_wp2
  go_ret
  exact ⟨congrArg (fun s => Ending.returned (.string s)) E.out, (Below.refl _ _).alloc (Nat.le_refl _) _⟩

set_option maxRecDepth 100000 in
set_option maxHeartbeats 1000000 in
theorem text_step (u b : Nat) (w : World) (hb : 2 ≤ b) (hb' : b ≤ 16) (hu : b ≤ u) (hx : u ≤ 2147483648)
    (ih : ∀ W, Calls Tryz.prog 201 #[.int .i64 ((u / b : Nat) : Int), .int .i64 b] W fun e w' => e = .returned (.string ⟨(digN upD b (u / b)).toArray⟩) ∧ Below W.heap.size W w') :
    Calls Tryz.prog 201 #[.int .i64 u, .int .i64 b] w fun e w' => e = .returned (.string ⟨(digN upD b u).toArray⟩) ∧ Below w.heap.size w w' := by
  obtain ⟨r, hr⟩ : ∃ r : Nat, r = u % b := ⟨_, rfl⟩
  obtain ⟨q, hq⟩ : ∃ q : Nat, q = u / b := ⟨_, rfl⟩
  have hm : ((u : Int) % (b : Int)) = r := by rw [hr]; omega
  have hd : ((u : Int) / (b : Int)) = q := by rw [hq]; omega
  have h16 : r < 16 := by have := Nat.mod_lt u (by omega : 0 < b); omega
  have E : Hid ((digN upD b q) ++ [upD r] = digN upD b u) := Lib.hid (by rw [digN_step hb hu, hr, hq])
  have hqx : q ≤ 2147483648 := by rw [hq]; exact Nat.le_trans (Nat.div_le_self _ _) hx
  have hll : (digN upD b q).length ≤ 32 := digN_33 hb hqx
  rw [← hq] at ih
  have IH := Lib.hid ih
  clear ih hr hq
  have hcv := conv_one w ((⟨#[48, 49, 50, 51, 52, 53, 54, 55, 56, 57, 65, 66, 67, 68, 69, 70]⟩ : ByteArray)[r]'h16)
  have A16 := Lib.hid (up_at r h16)
  go_enter Tryz.func201, Tryz.ntmps201
  go_wp2_with fail
  refine (IH.out _).mono ?_
  rintro e w1 ⟨rfl, hb1⟩
  have B1 := Lib.hid hb1
  clear hb1 hcv
  generalize (⟨#[48, 49, 50, 51, 52, 53, 54, 55, 56, 57, 65, 66, 67, 68, 69, 70]⟩ : ByteArray)[r]'h16 = c at *
  generalize digN upD b q = l at *
  go_wp2
  go_ret
  exact ⟨congrArg (fun s => Ending.returned (.string s)) (by rw [app_one, A16.out, E.out]), ((Below.refl _ _).alloc (Nat.le_refl _) _).trans (B1.out.mono (by simp))⟩

theorem text_nat (b : Nat) (hb : 2 ≤ b) (hb' : b ≤ 16) (u : Nat) : u ≤ 2147483648 → ∀ w : World,
    Calls Tryz.prog 201 #[.int .i64 u, .int .i64 b] w fun e w' => e = .returned (.string ⟨(digN upD b u).toArray⟩) ∧ Below w.heap.size w w' := by
  induction u using Nat.strongRecOn with
  | _ u ih =>
    intro hu w
    by_cases h : u < b
    · exact text_small u b w hb hb' h
    · exact text_step u b w hb hb' (by omega) hu fun W => ih (u / b) (Nat.div_lt_self (by omega) (by omega)) (Nat.le_trans (Nat.div_le_self _ _) hu) W

set_option maxRecDepth 100000 in
set_option maxHeartbeats 1000000 in
theorem text_any (n : Int) (b : Nat) (w : World) (hb : 2 ≤ b) (hb' : b ≤ 16) (h1 : -2147483648 ≤ n) (h2 : n ≤ 2147483647) :
    Calls Tryz.prog 201 #[.int .i64 n, .int .i64 b] w fun e w' => e = .returned (.string ⟨(textL upD b n).toArray⟩) ∧ Below w.heap.size w w' := by
  by_cases hn : n < 0
  · obtain ⟨m, hm⟩ : ∃ m : Nat, n.natAbs = m := ⟨_, rfl⟩
    have hneg : -n = (m : Int) := by omega
    have hmx : m ≤ 2147483648 := by omega
    have hll : (digN upD b m).length ≤ 32 := digN_33 hb hmx
    have E : Hid (45 :: digN upD b m = textL upD b n) := Lib.hid (by rw [textL_neg hn, hm])
    have T := Lib.hid (text_nat b hb hb' m hmx)
    clear hm
    go_enter Tryz.func201, Tryz.ntmps201
    go_wp2_with fail
    refine (T.out _).mono ?_
    rintro e w1 ⟨rfl, hb1⟩
    have B1 := Lib.hid hb1
    clear hb1
    generalize digN upD b m = l at *
    go_wp2
    go_ret
    exact ⟨congrArg (fun s => Ending.returned (.string s)) (by rw [one_app, E.out]), B1.out⟩
  · obtain ⟨u, rfl⟩ := Int.eq_ofNat_of_zero_le (by omega : 0 ≤ n)
    refine (text_nat b hb hb' u (by omega) w).mono ?_
    rintro e w' ⟨rfl, hb⟩
    exact ⟨by rw [textL_nat], hb⟩

/-- The code of a text. -/
def ctC (n base : Int) : Int := if cellB n = true ∧ inB base 2 16 = true then 0 else 4

/-- The text of a cell in a base; nothing where there is none. -/
def ctL (D : Nat → UInt8) (n base : Int) : List UInt8 := if cellB n = true ∧ inB base 2 16 = true then textL D base.toNat n else []

theorem ct_no {D : Nat → UInt8} {n base : Int} (h : cellB n = false ∨ inB base 2 16 = false) : ctC n base = 4 ∧ ctL D n base = [] := by
  unfold ctC ctL
  rcases h with h | h <;> simp [h]

theorem ct_yes {D : Nat → UInt8} {n base : Int} (h : cellB n = true) (h' : inB base 2 16 = true) : ctC n base = 0 ∧ ctL D n base = textL D base.toNat n := by
  unfold ctC ctL
  simp [h, h']

theorem ret_si {a b : ByteArray} {c d : Int} (h : a = b) (h' : c = d) : Ending.returned (.tuple #[.string a, .int .i64 c]) = .returned (.tuple #[.string b, .int .i64 d]) := by rw [h, h']

end Go.Proofs.YthnbaeamekolmaaGreatDoor

namespace Go.Proofs.YthnbaeamekolmaaGreatDoor
open Go.RowKit
set_option linter.unusedVariables false
set_option linter.unusedSimpArgs false

theorem tdiv_wrap (a b : Int) (ha : -2147483648 ≤ a ∧ a ≤ 2147483647) : wrap64 (a.tdiv b) = a.tdiv b :=
  IntWalk.wrap64_in _ (by have := tdiv_bd a b ha; omega)

theorem tdiv_wrap1 (a b : Int) (ha : -2147483648 ≤ a ∧ a ≤ 2147483647) : wrap64 (wrap64 (a.tdiv b) - 1) = a.tdiv b - 1 := by
  rw [tdiv_wrap a b ha]; exact IntWalk.wrap64_in _ (by have := tdiv_bd a b ha; omega)

theorem tmod_sg (a b : Int) (h : a.tmod b ≠ 0) : (a.tmod b < 0 ↔ a < 0) := by
  have := tmod_sign a b; omega

set_option maxHeartbeats 400000 in
theorem floor_any (a b : Int) (w : World) (ha : -2147483648 ≤ a) (ha' : a ≤ 2147483647) (hb0 : ¬ b = 0) :
    Calls Tryz.prog 228 #[.int .i64 a, .int .i64 b] w fun e w' => e = .returned (.int .i64 (flq a b)) ∧ w = w' := by
  have q1 : a.tmod b = 0 → wrap64 (a.tdiv b) = flq a b := fun h => by rw [tdiv_wrap a b ⟨ha, ha'⟩]; simp [flq, h]
  have q2 : a.tmod b ≠ 0 → (!decide (a < 0) == decide (b < 0)) = true → wrap64 (wrap64 (a.tdiv b) - 1) = flq a b := fun h h' => by
    rw [tdiv_wrap1 a b ⟨ha, ha'⟩]; unfold flq; rw [if_pos ⟨h, by simpa using h'⟩]
  have q3 : (!decide (a < 0) == decide (b < 0)) = false → wrap64 (a.tdiv b) = flq a b := fun h => by
    rw [tdiv_wrap a b ⟨ha, ha'⟩]; unfold flq; rw [if_neg (by rintro ⟨_, h'⟩; apply h'; simpa using h)]
  have Q1 := Lib.hid q1
  have Q2 := Lib.hid q2
  have Q3 := Lib.hid q3
  clear q1 q2 q3
  go_enter Tryz.func228, Tryz.ntmps228
  go_wp2
  · go_ret
    exact ⟨ret_int (Q1.out ‹_›), rfl⟩
  · rename_i h0 h1
    go_ret
    exact ⟨ret_int (Q2.out h0 h1.2), rfl⟩
  · rename_i h0 h1
    go_ret
    refine ⟨ret_int ?_, rfl⟩
    rcases h1 with h1 | h1
    · simp [h0] at h1
    · exact Q3.out h1

set_option maxHeartbeats 400000 in
theorem down_any (a b : Int) (w : World) (ha : -2147483648 ≤ a) (ha' : a ≤ 2147483647) (hb1 : -2147483648 ≤ b) (hb' : b ≤ 2147483647) (hb0 : ¬ b = 0) :
    Calls Tryz.prog 239 #[.int .i64 a, .int .i64 b] w fun e w' => e = .returned (.tuple #[.int .i64 (flq a b), .int .i64 (flr a b)]) ∧ ∃ n, w' = w.drewN n := by
  have qs : a.tmod b ≠ 0 → ((!decide (a.tmod b < 0) == decide (b < 0)) = true ↔ (a < 0) ≠ (b < 0)) := fun h => by
    have := tmod_sg a b h; simp [this]
  have qb := tmod_bd a b hb0
  have q1 : a.tmod b = 0 → wrap64 (a.tdiv b) = flq a b ∧ 0 = flr a b := fun h => by rw [tdiv_wrap a b ⟨ha, ha'⟩]; simp [flq, flr, h]
  have q2 : a.tmod b ≠ 0 → (!decide (a.tmod b < 0) == decide (b < 0)) = true → wrap64 (wrap64 (a.tdiv b) - 1) = flq a b ∧ wrap64 (a.tmod b + b) = flr a b := fun h h' => by
    have h2 := (qs h).1 h'
    rw [tdiv_wrap1 a b ⟨ha, ha'⟩, IntWalk.wrap64_in _ (by omega)]; unfold flq flr; rw [if_pos ⟨h, h2⟩, if_pos ⟨h, h2⟩]; exact ⟨rfl, rfl⟩
  have q3 : a.tmod b ≠ 0 → (!decide (a.tmod b < 0) == decide (b < 0)) = false → wrap64 (a.tdiv b) = flq a b ∧ a.tmod b = flr a b := fun h h' => by
    have h2 : ¬ ((a < 0) ≠ (b < 0)) := fun h3 => by rw [(qs h).2 h3] at h'; cases h'
    rw [tdiv_wrap a b ⟨ha, ha'⟩]; unfold flq flr; rw [if_neg (fun h4 => h2 h4.2), if_neg (fun h4 => h2 h4.2)]; exact ⟨rfl, rfl⟩
  have Q1 := Lib.hid q1
  have Q2 := Lib.hid q2
  have Q3 := Lib.hid q3
  clear q1 q2 q3 qs qb
  go_enter Tryz.func239, Tryz.ntmps239
  go_wp2
  go_quiet (fail)
  go_wp2
  · rename_i h0
    go_ret2
    exact ⟨ret_ii (Q1.out h0).1 (Q1.out h0).2, _, rfl⟩
  · rename_i h0 h1
    go_ret2
    exact ⟨ret_ii (Q2.out h0 h1.2).1 (Q2.out h0 h1.2).2, _, rfl⟩
  · rename_i h0 h1
    have h2 : (!decide (a.tmod b < 0) == decide (b < 0)) = false := by
      rcases h1 with h1 | h1
      · simp [h0] at h1
      · exact h1
    go_ret2
    exact ⟨ret_ii (Q3.out h0 h2).1 (Q3.out h0 h2).2, _, rfl⟩

set_option maxHeartbeats 400000 in
theorem shift_out (op a b : Int) (w : World) (hb : b < 0 ∨ 31 < b) :
    Calls Tryz.prog 240 #[.int .i64 op, .int .i64 a, .int .i64 b] w fun e w' => e = .returned (.int .i64 0) ∧ w = w' := by
  rcases hb with hb | hb
  all_goals
    go_enter Tryz.func240, Tryz.ntmps240
    go_wp2
    go_ret
    exact ⟨ret_int rfl, rfl⟩

set_option maxHeartbeats 400000 in
theorem shift_left (a b : Int) (w : World) (hb : 0 ≤ b) (hb' : b ≤ 31) :
    Calls Tryz.prog 240 #[.int .i64 9, .int .i64 a, .int .i64 b] w fun e w' => e = .returned (.int .i64 (wrap32 (a % 4294967296 * 2 ^ b.toNat % 4294967296))) ∧ w = w' := by
  go_enter Tryz.func240, Tryz.ntmps240
  go_wp2_with fail
  refine (lowU_any _ _).mono ?_
  rintro e w' ⟨rfl, rfl⟩
  go_wp2
  go_ret
  exact ⟨ret_int rfl, rfl⟩

set_option maxHeartbeats 400000 in
theorem shift_right (a b : Int) (w : World) (hb : 0 ≤ b) (hb' : b ≤ 31) :
    Calls Tryz.prog 240 #[.int .i64 10, .int .i64 a, .int .i64 b] w fun e w' => e = .returned (.int .i64 (wrap32 (a % 4294967296 / 2 ^ b.toNat))) ∧ w = w' := by
  go_enter Tryz.func240, Tryz.ntmps240
  go_wp2_with fail
  refine (lowU_any _ _).mono ?_
  rintro e w' ⟨rfl, rfl⟩
  go_wp2
  go_ret
  exact ⟨ret_int rfl, rfl⟩

set_option maxHeartbeats 400000 in
theorem comb_any (op a b : Int) (w : World) (ho : 1 ≤ op) (ho' : op ≤ 10) (ha : -2147483648 ≤ a) (ha' : a ≤ 2147483647) (hb : -2147483648 ≤ b) (hb' : b ≤ 2147483647) (hd : (op = 4 ∨ op = 5) → ¬ b = 0) :
    Calls Tryz.prog 223 #[.int .i64 op, .int .i64 a, .int .i64 b] w fun e w' => e = .returned (.int .i64 (twoW op a b)) ∧ ∃ n, w' = w.drewN n := by
  have cs : op = 1 ∨ op = 2 ∨ op = 3 ∨ op = 4 ∨ op = 5 ∨ op = 6 ∨ op = 7 ∨ op = 8 ∨ op = 9 ∨ op = 10 := by omega
  rcases cs with rfl | rfl | rfl | rfl | rfl | rfl | rfl | rfl | rfl | rfl
  · clear hd
    go_enter Tryz.func223, Tryz.ntmps223
    go_wp2_with fail
    refine (lowInt_any _ _).mono ?_
    rintro e w' ⟨rfl, rfl⟩
    go_wp2
    go_ret
    exact ⟨ret_int (by simp [twoW]), 0, rfl⟩
  · clear hd
    go_enter Tryz.func223, Tryz.ntmps223
    go_wp2_with fail
    refine (lowInt_any _ _).mono ?_
    rintro e w' ⟨rfl, rfl⟩
    go_wp2
    go_ret
    exact ⟨ret_int (by simp [twoW]), 0, rfl⟩
  · clear hd
    go_enter Tryz.func223, Tryz.ntmps223
    go_wp2_with fail
    refine (lowInt_any _ _).mono ?_
    rintro e w' ⟨rfl, rfl⟩
    go_wp2
    go_ret
    exact ⟨ret_int (by simp [twoW, wrap32_wrap64]), 0, rfl⟩
  · have h0 : ¬ b = 0 := hd (by omega)
    clear hd
    go_enter Tryz.func223, Tryz.ntmps223
    go_wp2_with fail
    refine (down_any _ _ _ ha ha' hb hb' h0).mono ?_
    rintro e w' ⟨rfl, n, rfl⟩
    go_wp2_with fail
    refine (lowInt_any _ _).mono ?_
    rintro e w' ⟨rfl, rfl⟩
    go_wp2
    go_ret
    exact ⟨ret_int (by simp [twoW, h0]), n, rfl⟩
  · have h0 : ¬ b = 0 := hd (by omega)
    clear hd
    go_enter Tryz.func223, Tryz.ntmps223
    go_wp2_with fail
    refine (down_any _ _ _ ha ha' hb hb' h0).mono ?_
    rintro e w' ⟨rfl, n, rfl⟩
    go_wp2
    go_ret
    exact ⟨ret_int (by simp [twoW, h0]), n, rfl⟩
  iterate 3
    · clear hd
      go_enter Tryz.func223, Tryz.ntmps223
      go_wp2
      go_ret
      exact ⟨ret_int (by simp [twoW]), 0, rfl⟩
  · clear hd
    by_cases h : b < 0 ∨ 31 < b
    · go_enter Tryz.func223, Tryz.ntmps223
      go_wp2_with fail
      refine (shift_out _ _ _ _ h).mono ?_
      rintro e w' ⟨rfl, rfl⟩
      go_wp2
      go_ret
      exact ⟨ret_int (by simp [twoW, h]), 0, rfl⟩
    · go_enter Tryz.func223, Tryz.ntmps223
      go_wp2_with fail
      refine (shift_left _ _ _ (by omega) (by omega)).mono ?_
      rintro e w' ⟨rfl, rfl⟩
      go_wp2
      go_ret
      exact ⟨ret_int (by simp [twoW, h]), 0, rfl⟩
  · clear hd
    by_cases h : b < 0 ∨ 31 < b
    · go_enter Tryz.func223, Tryz.ntmps223
      go_wp2_with fail
      refine (shift_out _ _ _ _ h).mono ?_
      rintro e w' ⟨rfl, rfl⟩
      go_wp2
      go_ret
      exact ⟨ret_int (by simp [twoW, h]), 0, rfl⟩
    · go_enter Tryz.func223, Tryz.ntmps223
      go_wp2_with fail
      refine (shift_right _ _ _ (by omega) (by omega)).mono ?_
      rintro e w' ⟨rfl, rfl⟩
      go_wp2
      go_ret
      exact ⟨ret_int (by simp [twoW, h]), 0, rfl⟩

/-- What the draws of a reckoning leave of the world. -/
theorem two_eq {op a b : Int} : Ending.returned (.tuple #[.int .i64 (twoV op a b), .bool (twoF op a b), .int .i64 (twoC op a b)]) = .returned (.tuple #[.int .i64 (twoV op a b), .bool (twoF op a b), .int .i64 (twoC op a b)]) := rfl

/-- Is the division, if it is one, by another number than 0? -/
def twoR (op b : Int) : Bool := decide (¬ ((op = 4 ∨ op = 5) ∧ b = 0))

theorem two_kind {op a b : Int} (h : op < 1 ∨ 10 < op) : twoC op a b = 9 ∧ twoF op a b = false ∧ twoV op a b = 0 := by
  have hc : twoC op a b = 9 := by unfold twoC; rw [if_pos h]
  refine ⟨hc, ?_, ?_⟩
  · unfold twoF; rw [hc]; simp
  · unfold twoV; rw [hc]; simp

theorem two_range {op a b : Int} (h : ¬ (op < 1 ∨ 10 < op)) (h' : cellB a = false ∨ cellB b = false) : twoC op a b = 4 ∧ twoF op a b = false ∧ twoV op a b = 0 := by
  have hc : twoC op a b = 4 := by unfold twoC; rw [if_neg h]; rcases h' with h' | h' <;> simp [h']
  refine ⟨hc, ?_, ?_⟩
  · unfold twoF; rw [hc]; simp
  · unfold twoV; rw [hc]; simp

theorem two_ok {op a b : Int} (h : ¬ (op < 1 ∨ 10 < op)) (ha : cellB a = true) (hb : cellB b = true) : twoC op a b = 0 ∧ twoF op a b = twoR op b ∧ twoV op a b = twoW op a b := by
  have hc : twoC op a b = 0 := by unfold twoC; rw [if_neg h]; simp [ha, hb]
  refine ⟨hc, ?_, ?_⟩
  · unfold twoF twoR; rw [hc]; simp
  · unfold twoV; rw [hc]; simp

theorem twoW_zero {op b : Int} (a : Int) (h : op = 4 ∨ op = 5) (hb : b = 0) : twoW op a b = 0 := by
  rcases h with rfl | rfl <;> simp [twoW, hb]

set_option maxHeartbeats 1000000 in
theorem two_any (op a b : Int) (w : World) :
    Calls Tryz.prog 178 #[.int .i64 op, .int .i64 a, .int .i64 b] w fun e w' => e = .returned (.tuple #[.int .i64 (twoV op a b), .bool (twoF op a b), .int .i64 (twoC op a b)]) ∧ ∃ n, w' = w.drewN n := by
  by_cases ho : op < 1 ∨ 10 < op
  · have E := Lib.hid (two_kind (a := a) (b := b) ho)
    rcases ho with ho | ho
    all_goals
      go_enter Tryz.func178, Tryz.ntmps178
      go_wp2
      go_ret3
      exact ⟨ret_ibi E.out.2.2.symm E.out.2.1.symm E.out.1.symm, 0, rfl⟩
  · have ho1 : 1 ≤ op := by omega
    have ho2 : op ≤ 10 := by omega
    cases ha : cellB a
    · have E := Lib.hid (two_range (a := a) (b := b) ho (.inl ha))
      clear ho
      go_enter Tryz.func178, Tryz.ntmps178
      go_wp2_with (go_at_call 140; refine (cellOK_any _ _).mono ?_; rintro e w' ⟨rfl, rfl⟩)
      go_ret3
      exact ⟨ret_ibi E.out.2.2.symm E.out.2.1.symm E.out.1.symm, 0, rfl⟩
    · cases hb : cellB b
      · have E := Lib.hid (two_range (a := a) (b := b) ho (.inr hb))
        clear ho
        go_enter Tryz.func178, Tryz.ntmps178
        go_wp2_with (go_at_call 140; refine (cellOK_any _ _).mono ?_; rintro e w' ⟨rfl, rfl⟩)
        go_ret3
        exact ⟨ret_ibi E.out.2.2.symm E.out.2.1.symm E.out.1.symm, 0, rfl⟩
      · have E := Lib.hid (two_ok ho ha hb)
        have ba := cellB_true.1 ha
        have bb := cellB_true.1 hb
        obtain ⟨a1, a2⟩ := ba
        obtain ⟨b1, b2⟩ := bb
        clear ho
        by_cases hd : (op = 4 ∨ op = 5) ∧ b = 0
        · have E2 := Lib.hid (twoW_zero a hd.1 hd.2)
          have hd' := Lib.hid hd
          obtain ⟨hd1, hd2⟩ := hd
          subst hd2
          rcases hd1 with rfl | rfl
          all_goals
            go_enter Tryz.func178, Tryz.ntmps178
            go_wp2_with (go_at_call 140; refine (cellOK_any _ _).mono ?_; rintro e w' ⟨rfl, rfl⟩)
            go_ret3
            exact ⟨ret_ibi (by rw [E.out.2.2, E2.out]) (by rw [E.out.2.1]; simp [twoR]) E.out.1.symm, 0, rfl⟩
        · have hd' := Lib.hid hd
          have F : Hid (twoF op a b = true) := Lib.hid (by rw [E.out.2.1]; unfold twoR; exact decide_eq_true hd)
          by_cases h0 : b = 0
          · have n4 : ¬ op = 4 := fun h => hd ⟨.inl h, h0⟩
            have n5 : ¬ op = 5 := fun h => hd ⟨.inr h, h0⟩
            have m4 : (op == 4) = false := by simpa using n4
            have m5 : (op == 5) = false := by simpa using n5
            clear hd
            subst h0
            go_enter Tryz.func178, Tryz.ntmps178
            go_wp2_with (first | (go_at_call 140; refine (cellOK_any _ _).mono ?_; rintro e w' ⟨rfl, rfl⟩) | (go_at_call 223; refine (comb_any _ _ _ _ ho1 ho2 a1 a2 b1 b2 (fun h => absurd h (by omega))).mono ?_; rintro e w' ⟨rfl, n, rfl⟩))
            go_ret3
            exact ⟨ret_ibi E.out.2.2.symm F.out.symm E.out.1.symm, _, rfl⟩
          · clear hd
            have m0 : (b == 0) = false := by simpa using h0
            go_enter Tryz.func178, Tryz.ntmps178
            go_wp2_with (first | (go_at_call 140; refine (cellOK_any _ _).mono ?_; rintro e w' ⟨rfl, rfl⟩) | (go_at_call 223; refine (comb_any _ _ _ _ ho1 ho2 a1 a2 b1 b2 (fun _ => h0)).mono ?_; rintro e w' ⟨rfl, n, rfl⟩))
            go_ret3
            exact ⟨ret_ibi E.out.2.2.symm F.out.symm E.out.1.symm, _, rfl⟩

set_option maxHeartbeats 1000000 in
theorem sTwoIn_any (op a b : Int) (w : World) (ho : 1 ≤ op) (ho' : op ≤ 10) (ha : -2147483648 ≤ a) (ha' : a ≤ 2147483647) (hb : -2147483648 ≤ b) (hb' : b ≤ 2147483647) :
    Calls Tryz.prog 195 #[.int .i64 op, .int .i64 a, .int .i64 b] w fun e w' => e = .returned (.tuple #[.int .i64 (twoW op a b), .bool (twoR op b)]) ∧ w = w' := by
  have cs : op = 1 ∨ op = 2 ∨ op = 3 ∨ op = 4 ∨ op = 5 ∨ op = 6 ∨ op = 7 ∨ op = 8 ∨ op = 9 ∨ op = 10 := by omega
  rcases cs with rfl | rfl | rfl | rfl | rfl | rfl | rfl | rfl | rfl | rfl
  · go_enter Tryz.func195, Tryz.ntmps195
    go_wp2_with (go_at_call 141; refine (sWrap_any _ _).mono ?_; rintro e w' ⟨rfl, rfl⟩)
    go_ret2
    exact ⟨ret_ib (by simp [twoW]) (by simp [twoR]), rfl⟩
  · go_enter Tryz.func195, Tryz.ntmps195
    go_wp2_with (go_at_call 141; refine (sWrap_any _ _).mono ?_; rintro e w' ⟨rfl, rfl⟩)
    go_ret2
    exact ⟨ret_ib (by simp [twoW]) (by simp [twoR]), rfl⟩
  · go_enter Tryz.func195, Tryz.ntmps195
    go_wp2_with (go_at_call 141; refine (sWrap_any _ _).mono ?_; rintro e w' ⟨rfl, rfl⟩)
    go_ret2
    exact ⟨ret_ib (by simp [twoW, wrap32_wrap64]) (by simp [twoR]), rfl⟩
  · by_cases h0 : b = 0
    · subst h0
      go_enter Tryz.func195, Tryz.ntmps195
      go_wp2
      go_ret2
      exact ⟨ret_ib (by simp [twoW]) (by simp [twoR]), rfl⟩
    · have m0 : (b == 0) = false := by simpa using h0
      go_enter Tryz.func195, Tryz.ntmps195
      go_wp2_with (first | (go_at_call 141; refine (sWrap_any _ _).mono ?_; rintro e w' ⟨rfl, rfl⟩) | (go_at_call 228; refine (floor_any _ _ _ ha ha' h0).mono ?_; rintro e w' ⟨rfl, rfl⟩))
      go_ret2
      exact ⟨ret_ib (by simp [twoW, h0]) (by simp [twoR, h0]), rfl⟩
  · by_cases h0 : b = 0
    · subst h0
      go_enter Tryz.func195, Tryz.ntmps195
      go_wp2
      go_ret2
      exact ⟨ret_ib (by simp [twoW]) (by simp [twoR]), rfl⟩
    · have m0 : (b == 0) = false := by simpa using h0
      have fb := flr_bd a b h0 ⟨hb, hb'⟩
      have fq := flr_eq a b
      have e5 : wrap64 (a - wrap64 (flq a b * b)) = twoW 5 a b := by
        have : twoW 5 a b = flr a b := by simp [twoW, h0]
        rw [this, ← fq]
        generalize flq a b * b = x at *
        unfold wrap64
        omega
      have E5 := Lib.hid e5
      clear e5 fq fb
      go_enter Tryz.func195, Tryz.ntmps195
      go_wp2_with (first | (go_at_call 141; refine (sWrap_any _ _).mono ?_; rintro e w' ⟨rfl, rfl⟩) | (go_at_call 228; refine (floor_any _ _ _ ha ha' h0).mono ?_; rintro e w' ⟨rfl, rfl⟩))
      go_ret2
      exact ⟨ret_ib E5.out (by simp [twoR, h0]), rfl⟩
  iterate 3
    · go_enter Tryz.func195, Tryz.ntmps195
      go_wp2
      go_ret2
      exact ⟨ret_ib (by simp [twoW]) (by simp [twoR]), rfl⟩
  · by_cases h : b < 0 ∨ 31 < b
    · have hi : inB b 0 31 = false := by unfold inB; simp; omega
      go_enter Tryz.func195, Tryz.ntmps195
      go_wp2_with (go_at_call 64; refine (sIn_any _ _ _ _).mono ?_; rintro e w' ⟨rfl, rfl⟩)
      go_ret2
      exact ⟨ret_ib (by simp [twoW, h]) (by simp [twoR]), rfl⟩
    · have hi : inB b 0 31 = true := by unfold inB; simp; omega
      have b0 : 0 ≤ b := by omega
      have b1 : b ≤ 31 := by omega
      go_enter Tryz.func195, Tryz.ntmps195
      go_wp2_with (go_at_call 64; refine (sIn_any _ _ _ _).mono ?_; rintro e w' ⟨rfl, rfl⟩)
      go_ret2
      exact ⟨ret_ib (by simp [twoW, h, wrap64_wrap32]) (by simp [twoR]), rfl⟩
  · by_cases h : b < 0 ∨ 31 < b
    · have hi : inB b 0 31 = false := by unfold inB; simp; omega
      go_enter Tryz.func195, Tryz.ntmps195
      go_wp2_with (go_at_call 64; refine (sIn_any _ _ _ _).mono ?_; rintro e w' ⟨rfl, rfl⟩)
      go_ret2
      exact ⟨ret_ib (by simp [twoW, h]) (by simp [twoR]), rfl⟩
    · have hi : inB b 0 31 = true := by unfold inB; simp; omega
      have b0 : 0 ≤ b := by omega
      have b1 : b ≤ 31 := by omega
      go_enter Tryz.func195, Tryz.ntmps195
      go_wp2_with (go_at_call 64; refine (sIn_any _ _ _ _).mono ?_; rintro e w' ⟨rfl, rfl⟩)
      go_ret2
      exact ⟨ret_ib (by simp [twoW, h, wrap64_wrap32]) (by simp [twoR]), rfl⟩

end Go.Proofs.YthnbaeamekolmaaGreatDoor

namespace Go.Proofs.YthnbaeamekolmaaGreatDoor
open Go.RowKit
set_option linter.unusedVariables false
set_option linter.unusedSimpArgs false

set_option maxHeartbeats 400000 in
theorem wrapCell_any (a : Int) (w : World) :
    Calls Tryz.prog 180 #[.int .i64 a] w fun e w' => e = .returned (.int .i64 (wrap32 a)) ∧ w = w' := by
  go_enter Tryz.func180, Tryz.ntmps180
  go_wp2_with (go_at_call 224; refine (lowInt_any _ _).mono ?_; rintro e w' ⟨rfl, rfl⟩)
  go_ret
  exact ⟨ret_int rfl, rfl⟩

/-- A cell without its sign; 0 of what is no cell. -/
def unsV (a : Int) : Int := if cellB a = true then a % 4294967296 else 0

/-- The code that goes with it. -/
def unsC (a : Int) : Int := if cellB a = true then 0 else 4

set_option maxHeartbeats 400000 in
theorem sUnsIn_any (a : Int) (w : World) (a1 : -2147483648 ≤ a) (a2 : a ≤ 2147483647) :
    Calls Tryz.prog 197 #[.int .i64 a] w fun e w' => e = .returned (.int .i64 (a % 4294967296)) ∧ w = w' := by
  go_enter Tryz.func197, Tryz.ntmps197
  go_wp2
  go_ret
  exact ⟨ret_int rfl, rfl⟩

end Go.Proofs.YthnbaeamekolmaaGreatDoor
