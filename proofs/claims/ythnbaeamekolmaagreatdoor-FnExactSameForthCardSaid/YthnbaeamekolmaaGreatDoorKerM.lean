/- The kernel's words: their names, kinds and numbers. -/
import Derived.Test.YthnbaeamekolmaaGreatDoorWdA
namespace Go.Proofs.YthnbaeamekolmaaGreatDoor
open Go.RowKit
set_option linter.unusedVariables false
set_option linter.unusedSimpArgs false

def primsL : List (List UInt8) := [[68, 85, 80], [68, 82, 79, 80], [83, 87, 65, 80], [79, 86, 69, 82], [82, 79, 84], [78, 73, 80], [84, 85, 67, 75], [63, 68, 85, 80], [50, 68, 85, 80], [50, 68, 82, 79, 80], [68, 69, 80, 84, 72], [62, 82], [82, 62], [82, 64], [43], [45], [42], [47], [77, 79, 68], [65, 78, 68], [79, 82], [88, 79, 82], [76, 83, 72, 73, 70, 84], [82, 83, 72, 73, 70, 84], [78, 69, 71, 65, 84, 69], [65, 66, 83], [73, 78, 86, 69, 82, 84], [49, 43], [49, 45], [77, 73, 78], [77, 65, 88], [61], [60, 62], [60], [62], [85, 60], [48, 61], [48, 60], [64], [33], [43, 33], [72, 69, 82, 69], [65, 76, 76, 79, 84], [44], [69, 77, 73, 84], [46], [67, 82], [83, 80, 65, 67, 69], [68, 69, 67, 73, 77, 65, 76], [72, 69, 88], [73], [85, 78, 76, 79, 79, 80]]

def flowsL : List (List UInt8) := [[69, 88, 73, 84], [69, 88, 69, 67, 85, 84, 69], [67, 65, 84, 67, 72], [84, 72, 82, 79, 87]]

def innersL : List (List UInt8) := [[40, 76, 73, 84, 41], [40, 66, 82, 65, 78, 67, 72, 41], [40, 48, 66, 82, 65, 78, 67, 72, 41], [40, 68, 79, 41], [40, 76, 79, 79, 80, 41], [40, 43, 76, 79, 79, 80, 41]]

def hostsL : List (List UInt8) := [[72, 82, 69, 65, 68], [72, 87, 82, 73, 84, 69], [72, 65, 83, 75], [72, 84, 73, 77, 69]]

def syntaxL : List (List UInt8) := [[58], [59], [73, 70], [69, 76, 83, 69], [84, 72, 69, 78], [66, 69, 71, 73, 78], [85, 78, 84, 73, 76], [87, 72, 73, 76, 69], [82, 69, 80, 69, 65, 84], [68, 79], [76, 79, 79, 80], [43, 76, 79, 79, 80], [82, 69, 67, 85, 82, 83, 69], [86, 65, 82, 73, 65, 66, 76, 69], [67, 79, 78, 83, 84, 65, 78, 84], [39], [91, 39, 93]]

/-- Their names, in order. -/
def knames : List (List UInt8) := primsL ++ flowsL ++ innersL ++ hostsL ++ syntaxL

/-- How many there are of a kind; how many lie before it. -/
def kcnt : Nat → Nat
  | 0 => 52
  | 1 => 4
  | 2 => 6
  | 3 => 4
  | 4 => 17
  | _ => 0

def koff : Nat → Nat
  | 0 => 0
  | 1 => 52
  | 2 => 56
  | 3 => 62
  | 4 => 66
  | _ => 83

/-- The kind of the word behind the first j ones, from 0 on. -/
def kkind (j : Nat) : Nat := if j < 52 then 0 else if j < 56 then 1 else if j < 62 then 2 else if j < 66 then 3 else 4

def kname (j : Nat) : ByteArray := ⟨(knames.getD j []).toArray⟩

/-- The kernel's word behind the first j ones. -/
def kernAt (j : Nat) : Wd := ⟨kname j, (kkind j : Int) + 1, (j : Int) - koff (kkind j) + 1⟩

/-- The kernel. -/
def kernW : List Wd := (List.range 83).map kernAt

theorem kernW_len : kernW.length = 83 := by unfold kernW; simp

theorem kernW_at {j : Nat} (h : j < kernW.length) : kernW[j] = kernAt j := by
  have e : kernW[j]? = some (kernAt j) := by
    unfold kernW
    rw [List.getElem?_map, List.getElem?_range (by rwa [kernW_len] at h)]; rfl
  exact (List.getElem?_eq_some_iff.1 e).2

theorem kernW_take {j : Nat} (h : j < 83) : kernW.take (j + 1) = kernW.take j ++ [kernAt j] := by
  rw [List.take_succ_eq_append_getElem (by rw [kernW_len]; exact h), kernW_at]

theorem knames_len : knames.length = 83 := by decide

theorem kname_small (j : Nat) : (kname j).size ≤ 10 := by
  have hs : (kname j).size = (knames.getD j []).length := by unfold kname; simp [ByteArray.size]
  rw [hs]
  by_cases h : j < knames.length
  · have hall : ∀ q ∈ knames, q.length ≤ 10 := by decide
    rw [List.getD_eq_getElem?_getD, List.getElem?_eq_getElem h]
    exact hall _ (List.getElem_mem _)
  · rw [List.getD_eq_getElem?_getD, List.getElem?_eq_none (by omega)]; decide

theorem kern_names : Names kernW := by
  intro x hx
  unfold kernW at hx
  obtain ⟨j, _, rfl⟩ := List.mem_map.1 hx
  have := kname_small j
  unfold kernAt maxLen; simp; omega

theorem kkind_lt (j : Nat) : kkind j < 5 := by unfold kkind; (repeat' split) <;> omega

theorem kern_of {i k : Nat} (hi : i < 5) (hk : k < kcnt i) : kkind (koff i + k) = i := by
  match i, hi with
  | 0, _ => simp [kcnt] at hk; simp only [koff, kkind]; (repeat' split) <;> omega
  | 1, _ => simp [kcnt] at hk; simp only [koff, kkind]; (repeat' split) <;> omega
  | 2, _ => simp [kcnt] at hk; simp only [koff, kkind]; (repeat' split) <;> omega
  | 3, _ => simp [kcnt] at hk; simp only [koff, kkind]; (repeat' split) <;> omega
  | 4, _ => simp [kcnt] at hk; simp only [koff, kkind]; (repeat' split) <;> omega

theorem koff_next {i : Nat} (hi : i < 5) : koff i + kcnt i = koff (i + 1) := by
  match i, hi with
  | 0, _ => rfl
  | 1, _ => rfl
  | 2, _ => rfl
  | 3, _ => rfl
  | 4, _ => rfl

theorem kcnt_le (i : Nat) : kcnt i ≤ 52 := by unfold kcnt; split <;> omega

theorem koff_le (i : Nat) : koff i ≤ 83 := by unfold koff; split <;> omega

theorem kern_mk {i k : Nat} (hi : i < 5) (hk : k < kcnt i) : kernAt (koff i + k) = ⟨kname (koff i + k), (i : Int) + 1, (k : Int) + 1⟩ := by
  unfold kernAt
  rw [kern_of hi hk]
  simp
  omega

/-- The words of a kind are those of the kernel. -/
def klist : Nat → List (List UInt8)
  | 0 => primsL
  | 1 => flowsL
  | 2 => innersL
  | 3 => hostsL
  | _ => syntaxL

theorem klist_len {i : Nat} (hi : i < 5) : (klist i).length = kcnt i := by
  match i, hi with
  | 0, _ => rfl
  | 1, _ => rfl
  | 2, _ => rfl
  | 3, _ => rfl
  | 4, _ => rfl

theorem klist_at {i k : Nat} (hi : i < 5) (hk : k < kcnt i) : (klist i).getD k [] = knames.getD (koff i + k) [] := by
  have hall : ∀ i < 5, ∀ k < kcnt i, (klist i).getD k [] = knames.getD (koff i + k) [] := by decide +kernel
  exact hall i hi k hk

end Go.Proofs.YthnbaeamekolmaaGreatDoor
