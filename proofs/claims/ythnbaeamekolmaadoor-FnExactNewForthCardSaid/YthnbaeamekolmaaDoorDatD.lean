/- Is a script's data valid: both sides. -/
import Derived.Test.YthnbaeamekolmaaDoorDatC
namespace Go.Proofs.YthnbaeamekolmaaDoor
open Go.RowKit
set_option linter.unusedVariables false
set_option linter.unusedSimpArgs false

/-- A base. -/
def baseB (n : Int) : Bool := inB n 2 16

theorem of_inB {n a b : Int} (h : inB n a b = true) : a ≤ n ∧ n ≤ b := by unfold inB at h; simpa using h
theorem inB_of {n a b : Int} (h1 : a ≤ n) (h2 : n ≤ b) : inB n a b = true := by unfold inB; simp [h1, h2]
theorem of_inB_false {n a b : Int} (h : inB n a b = false) : n < a ∨ b < n := by unfold inB at h; simp at h; omega

/-- What valid data is. -/
def DtFine (d : Dt) : Prop := d.s.length ≤ 32 ∧ d.b.length ≤ 32 ∧ d.c.length = 32 ∧ cellsB d.s = true ∧ cellsB d.b = true ∧ cellsB d.c = true ∧ 0 ≤ d.h ∧ d.h ≤ 32 ∧ baseB d.n = true ∧ d.o.size ≤ 300

instance (d : Dt) : Decidable (DtFine d) := by unfold DtFine; infer_instance

def dOK (d : Dt) : Bool := decide (DtFine d)

theorem dOK_true {d : Dt} (h : DtFine d) : dOK d = true := by unfold dOK; exact decide_eq_true h
theorem dOK_false {d : Dt} (h : ¬ DtFine d) : dOK d = false := by unfold dOK; exact decide_eq_false h
theorem dOK_fine {d : Dt} (h : dOK d = true) : DtFine d := by unfold dOK at h; exact of_decide_eq_true h

theorem fine_sl {d : Dt} (h : DtFine d) : d.s.length ≤ 32 := h.1
theorem fine_bl {d : Dt} (h : DtFine d) : d.b.length ≤ 32 := h.2.1
theorem fine_cl {d : Dt} (h : DtFine d) : d.c.length = 32 := h.2.2.1
theorem fine_sc {d : Dt} (h : DtFine d) : cellsB d.s = true := h.2.2.2.1
theorem fine_bc {d : Dt} (h : DtFine d) : cellsB d.b = true := h.2.2.2.2.1
theorem fine_cc {d : Dt} (h : DtFine d) : cellsB d.c = true := h.2.2.2.2.2.1
theorem fine_h0 {d : Dt} (h : DtFine d) : 0 ≤ d.h := h.2.2.2.2.2.2.1
theorem fine_h1 {d : Dt} (h : DtFine d) : d.h ≤ 32 := h.2.2.2.2.2.2.2.1
theorem fine_hh {d : Dt} (h : DtFine d) : inB d.h 0 32 = true := inB_of (fine_h0 h) (fine_h1 h)
theorem fine_n {d : Dt} (h : DtFine d) : baseB d.n = true := h.2.2.2.2.2.2.2.2.1
theorem fine_o {d : Dt} (h : DtFine d) : d.o.size ≤ 300 := h.2.2.2.2.2.2.2.2.2

end Go.Proofs.YthnbaeamekolmaaDoor
