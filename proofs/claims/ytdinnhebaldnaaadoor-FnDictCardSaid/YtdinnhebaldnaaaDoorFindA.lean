/- The key of a word: how it reads as a map's key. -/
import Derived.Test.YtdinnhebaldnaaaDoorImpB
import Derived.DeepKeys4
import Derived.Maps.OwnSet
namespace Go.Proofs.YtdinnhebaldnaaaDoor
open Go.RowKit
set_option linter.unusedVariables false
set_option linter.unusedSimpArgs false

theorem mlaid : laidOutB Tryd.prog = true := by kernel_rfl
theorem mrow : 59 < Tryd.prog.types.size := by decide +kernel
theorem mwide : (match Tryd.prog.underlying 59 with | some (.array _ _) | some (.struct _) => true | _ => false) = true := by kernel_rfl
theorem keyLaw : Go.WideMaps.KeyLaw Tryd.prog 59 := deep_law_laid mlaid (m := 3) (by omega) mrow (by kernel_rfl) mwide
theorem keyed : Go.Maps.Keyed Tryd.prog 59 := Go.Maps.Keyed.of_law keyLaw

/-- A key, as it reads. -/
def klit (s : ByteArray) (b : Bool) : Lit := .string (keyBytes [.string s.data.toList, .bool b])

theorem key_type : Tryd.prog.keyType 59 = true := by kernel_rfl
theorem key_cells : Tryd.prog.cellsOf 59 = 2 := by kernel_rfl
theorem one_string : Tryd.prog.cellsOf 9 = 1 := by kernel_rfl
theorem one_bool : Tryd.prog.cellsOf 4 = 1 := by kernel_rfl
theorem type_num : ∃ d, Tryd.prog.types.size = d + 1 := ⟨Tryd.prog.types.size - 1, by have := mrow; omega⟩

theorem key_lits (d : Nat) (s : ByteArray) (b : Bool) (hs : s.size ≤ maxLen) : Tryd.prog.keyLits (d + 2) 59 [.string s, .bool b] = some [.string s.data.toList, .bool b] := by
  simp [Program.keyLits, Tryd.underlying59, Tryd.underlying9, Tryd.underlying4, key_cells, one_string, one_bool, hs]

theorem key_of (s : ByteArray) (b : Bool) (hs : s.size ≤ maxLen) : keyOf Tryd.prog 59 (.agg #[.string s, .bool b]) = some (klit s b) := by
  obtain ⟨d, hd⟩ := type_num
  have h := key_lits d s b hs
  unfold keyOf
  rw [Tryd.underlying59]
  simp only [key_type, hd, Value.cells, Bool.true_and, Value.formed, Tryd.underlying59]
  simp [key_cells, h, klit]

theorem klit_inj {s t : ByteArray} {b c : Bool} (hs : s.size ≤ maxLen) (ht : t.size ≤ maxLen) (h : klit s b = klit t c) : s = t ∧ b = c := by
  have h1 := key_of s b hs
  rw [h] at h1
  have h2 := keyed.inj h1 (key_of t c ht)
  simpa using h2

theorem klit_key (s : ByteArray) (b : Bool) (hs : s.size ≤ maxLen) : WideAt.IsKeyLit (klit s b) := keyed.key (key_of s b hs)

end Go.Proofs.YtdinnhebaldnaaaDoor
