/- What spec.l01Text and spec.CellText give. -/
import Derived.Test.YtkcogfgjabemfaaReadA
import Derived.Test.YtkcogfgjabemfaaTextM
import Derived.WalkSmall
namespace Go.Proofs.Ytkcogfgjabemfaa
open Go.RowKit
set_option linter.unusedVariables false
set_option linter.unusedSimpArgs false

/-- The letters that the specification reads, at a digit. -/
theorem up_at : ∀ (u : Nat) (h : u < 16), (⟨#[48, 49, 50, 51, 52, 53, 54, 55, 56, 57, 65, 66, 67, 68, 69, 70]⟩ : ByteArray)[u]'h = upD u := by
  rintro (_ | _ | _ | _ | _ | _ | _ | _ | _ | _ | _ | _ | _ | _ | _ | _ | _) h <;> first | rfl | omega

theorem app_one (l : List UInt8) (c : UInt8) : (⟨l.toArray⟩ ++ ⟨#[c]⟩ : ByteArray) = ⟨(l ++ [c]).toArray⟩ := by
  apply ByteArray.ext; simp

theorem one_app (l : List UInt8) : ((⟨#[45]⟩ : ByteArray) ++ ⟨l.toArray⟩) = ⟨(45 :: l).toArray⟩ := by
  apply ByteArray.ext; apply Array.ext'; simp

theorem conv_one (W : World) (c : UInt8) : (convert 22 9 (.slice (some ⟨W.heap.size, 0, none⟩) 1 1)).run Try.prog (W.alloc (.cells #[.int .u8 (c.toNat : Int)] 5)) = .ok (.string ⟨#[c]⟩) (W.alloc (.cells #[.int .u8 (c.toNat : Int)] 5)) :=
  run_convert_bytes_back (P := Try.prog) _ 22 9 5 ⟨W.heap.size, 0, none⟩ 1 [c] Try.underlying22 Try.underlying5 Try.underlying9 (fun j hj => by
    have : j = 0 := by simp at hj; omega
    subst this
    simp [Addr.add])

/-- The code of a text. -/
def ctC (n base : Int) : Int := if cellB n = true ∧ inB base 2 16 = true then 0 else 4

/-- The text of a cell in a base; nothing where there is none. -/
def ctL (D : Nat → UInt8) (n base : Int) : List UInt8 := if cellB n = true ∧ inB base 2 16 = true then textL D base.toNat n else []

theorem ct_no {D : Nat → UInt8} {n base : Int} (h : cellB n = false ∨ inB base 2 16 = false) : ctC n base = 4 ∧ ctL D n base = [] := by
  unfold ctC ctL
  rcases h with h | h <;> simp [h]

theorem ct_yes {D : Nat → UInt8} {n base : Int} (h : cellB n = true) (h' : inB base 2 16 = true) : ctC n base = 0 ∧ ctL D n base = textL D base.toNat n := by
  unfold ctC ctL
  simp [h, h']

theorem ret_si {a b : ByteArray} {c d : Int} (h : a = b) (h' : c = d) : Ending.returned (.tuple #[.string a, .int .i64 c]) = .returned (.tuple #[.string b, .int .i64 d]) := by rw [h, h']

end Go.Proofs.Ytkcogfgjabemfaa
