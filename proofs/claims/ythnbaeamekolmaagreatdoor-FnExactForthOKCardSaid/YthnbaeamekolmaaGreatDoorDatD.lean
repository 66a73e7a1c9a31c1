/- Is a script's data valid: both sides. -/
import Derived.Test.YthnbaeamekolmaaGreatDoorDatC
namespace Go.Proofs.YthnbaeamekolmaaGreatDoor
open Go.RowKit
set_option linter.unusedVariables false
set_option linter.unusedSimpArgs false

/-- A base. -/
def baseB (n : Int) : Bool := inB n 2 16

theorem of_inB {n a b : Int} (h : inB n a b = true) : a ≤ n ∧ n ≤ b := by unfold inB at h; simpa using h
theorem inB_of {n a b : Int} (h1 : a ≤ n) (h2 : n ≤ b) : inB n a b = true := by unfold inB; simp [h1, h2]
theorem of_inB_false {n a b : Int} (h : inB n a b = false) : n < a ∨ b < n := by unfold inB at h; simp at h; omega

/-- What valid data is. -/
def DtFine (d : Dt) : Prop := d.s.length ≤ 32 ∧ d.b.length ≤ 32 ∧ d.c.length = 32 ∧ cellsB d.s = true ∧ cellsB d.b = true ∧ cellsB d.c = true ∧ 0 ≤ d.h ∧ d.h ≤ 32 ∧ baseB d.n = true ∧ d.o.size ≤ 300

instance (d : Dt) : Decidable (DtFine d) := by unfold DtFine; infer_instance

def dOK (d : Dt) : Bool := decide (DtFine d)

theorem dOK_true {d : Dt} (h : DtFine d) : dOK d = true := by unfold dOK; exact decide_eq_true h
theorem dOK_false {d : Dt} (h : ¬ DtFine d) : dOK d = false := by unfold dOK; exact decide_eq_false h
theorem dOK_fine {d : Dt} (h : dOK d = true) : DtFine d := by unfold dOK at h; exact of_decide_eq_true h

theorem fine_sl {d : Dt} (h : DtFine d) : d.s.length ≤ 32 := h.1
theorem fine_bl {d : Dt} (h : DtFine d) : d.b.length ≤ 32 := h.2.1
theorem fine_cl {d : Dt} (h : DtFine d) : d.c.length = 32 := h.2.2.1
theorem fine_sc {d : Dt} (h : DtFine d) : cellsB d.s = true := h.2.2.2.1
theorem fine_bc {d : Dt} (h : DtFine d) : cellsB d.b = true := h.2.2.2.2.1
theorem fine_cc {d : Dt} (h : DtFine d) : cellsB d.c = true := h.2.2.2.2.2.1
theorem fine_h0 {d : Dt} (h : DtFine d) : 0 ≤ d.h := h.2.2.2.2.2.2.1
theorem fine_h1 {d : Dt} (h : DtFine d) : d.h ≤ 32 := h.2.2.2.2.2.2.2.1
theorem fine_hh {d : Dt} (h : DtFine d) : inB d.h 0 32 = true := inB_of (fine_h0 h) (fine_h1 h)
theorem fine_n {d : Dt} (h : DtFine d) : baseB d.n = true := h.2.2.2.2.2.2.2.2.1
theorem fine_o {d : Dt} (h : DtFine d) : d.o.size ≤ 300 := h.2.2.2.2.2.2.2.2.2

set_option maxHeartbeats 400000 in
theorem bsOK_any (a : Int) (w : World) :
    Calls Tryz.prog 69 #[.int .i64 a] w fun e w' => e = .returned (.bool (baseB a)) ∧ w = w' := by
  by_cases h : 2 ≤ a
  · by_cases h' : a ≤ 16
    · have E : Hid (baseB a = true) := Lib.hid (inB_of h h')
      go_enter Tryz.func69, Tryz.ntmps69
      go_wp2
      go_ret
      exact ⟨ret_bool (by rw [E.out]), rfl⟩
    · have E : Hid (baseB a = false) := Lib.hid (by unfold baseB inB; exact decide_eq_false (by omega))
      go_enter Tryz.func69, Tryz.ntmps69
      go_wp2
      go_ret
      exact ⟨ret_bool (by rw [E.out]), rfl⟩
  · have E : Hid (baseB a = false) := Lib.hid (by unfold baseB inB; exact decide_eq_false (by omega))
    go_enter Tryz.func69, Tryz.ntmps69
    go_wp2
    go_ret
    exact ⟨ret_bool (by rw [E.out]), rfl⟩

set_option maxHeartbeats 400000 in
theorem sBs_any (a : Int) (w : World) :
    Calls Tryz.prog 133 #[.int .i64 a] w fun e w' => e = .returned (.bool (baseB a)) ∧ w = w' := by
  go_enter Tryz.func133, Tryz.ntmps133
  go_wp2_with fail
  refine (sIn_any _ _ _ _).mono ?_
  rintro e w' ⟨rfl, rfl⟩
  go_wp2
  go_ret
  exact ⟨ret_bool rfl, rfl⟩

set_option maxRecDepth 100000 in
set_option maxHeartbeats 1000000 in
theorem dataOK_any_0 (v : Value) (d : Dt) (w : World) (hv : DatIn w v d) (h0 : ¬ d.s.length ≤ 32) :
    Calls Tryz.prog 22 #[v] w fun e w' => e = .returned (.bool false) ∧ Below w.heap.size w w' := by
  obtain ⟨x, y, z, rfl, hx, hy, hz, lo⟩ := hv
  have BB : Hid (∀ (o : Obj), Below w.heap.size w (w.alloc o)) := Lib.hid fun o => below_alloc (Below.refl _ _) _
  have HX : Hid (∀ o : Obj, Ints (w.alloc o) x d.s) := Lib.hid fun o => ints_below hx (BB.out _)
  have HY : Hid (∀ o : Obj, Ints (w.alloc o) y d.b) := Lib.hid fun o => ints_below hy (BB.out _)
  have HZ : Hid (∀ o : Obj, Ints (w.alloc o) z d.c) := Lib.hid fun o => ints_below hz (BB.out _)
  obtain ⟨l1, A1, k1, rfl, _⟩ := hx
  obtain ⟨l2, A2, k2, rfl, _⟩ := hy
  obtain ⟨l3, A3, k3, rfl, _⟩ := hz
  unfold maxLen at l1 l2 l3 lo
  go_enter Tryz.func22, Tryz.ntmps22
  go_wp2_with (first | (go_at_call 68; (first | (with_reducible refine (allCells_any _ d.s _ (HX.out _)).mono ?_) | (with_reducible refine (allCells_any _ d.b _ (HY.out _)).mono ?_) | (with_reducible refine (allCells_any _ d.c _ (HZ.out _)).mono ?_)); rintro e w' ⟨rfl, rfl⟩) | (go_at_call 69; refine (bsOK_any _ _).mono ?_; rintro e w' ⟨rfl, rfl⟩))
  go_ret
  exact ⟨rfl, BB.out _⟩

set_option maxRecDepth 100000 in
set_option maxHeartbeats 1000000 in
theorem dataOK_any_1 (v : Value) (d : Dt) (w : World) (hv : DatIn w v d) (h0 : d.s.length ≤ 32) (h1 : cellsB d.s = false) :
    Calls Tryz.prog 22 #[v] w fun e w' => e = .returned (.bool false) ∧ Below w.heap.size w w' := by
  obtain ⟨x, y, z, rfl, hx, hy, hz, lo⟩ := hv
  have BB : Hid (∀ (o : Obj), Below w.heap.size w (w.alloc o)) := Lib.hid fun o => below_alloc (Below.refl _ _) _
  have HX : Hid (∀ o : Obj, Ints (w.alloc o) x d.s) := Lib.hid fun o => ints_below hx (BB.out _)
  have HY : Hid (∀ o : Obj, Ints (w.alloc o) y d.b) := Lib.hid fun o => ints_below hy (BB.out _)
  have HZ : Hid (∀ o : Obj, Ints (w.alloc o) z d.c) := Lib.hid fun o => ints_below hz (BB.out _)
  obtain ⟨l1, A1, k1, rfl, _⟩ := hx
  obtain ⟨l2, A2, k2, rfl, _⟩ := hy
  obtain ⟨l3, A3, k3, rfl, _⟩ := hz
  unfold maxLen at l1 l2 l3 lo
  go_enter Tryz.func22, Tryz.ntmps22
  go_wp2_with (first | (go_at_call 68; (first | (with_reducible refine (allCells_any _ d.s _ (HX.out _)).mono ?_) | (with_reducible refine (allCells_any _ d.b _ (HY.out _)).mono ?_) | (with_reducible refine (allCells_any _ d.c _ (HZ.out _)).mono ?_)); rintro e w' ⟨rfl, rfl⟩) | (go_at_call 69; refine (bsOK_any _ _).mono ?_; rintro e w' ⟨rfl, rfl⟩))
  go_ret
  exact ⟨rfl, BB.out _⟩

set_option maxRecDepth 100000 in
set_option maxHeartbeats 1000000 in
theorem dataOK_any_2 (v : Value) (d : Dt) (w : World) (hv : DatIn w v d) (h0 : d.s.length ≤ 32) (h1 : cellsB d.s = true) (h2 : ¬ d.b.length ≤ 32) :
    Calls Tryz.prog 22 #[v] w fun e w' => e = .returned (.bool false) ∧ Below w.heap.size w w' := by
  obtain ⟨x, y, z, rfl, hx, hy, hz, lo⟩ := hv
  have BB : Hid (∀ (o : Obj), Below w.heap.size w (w.alloc o)) := Lib.hid fun o => below_alloc (Below.refl _ _) _
  have HX : Hid (∀ o : Obj, Ints (w.alloc o) x d.s) := Lib.hid fun o => ints_below hx (BB.out _)
  have HY : Hid (∀ o : Obj, Ints (w.alloc o) y d.b) := Lib.hid fun o => ints_below hy (BB.out _)
  have HZ : Hid (∀ o : Obj, Ints (w.alloc o) z d.c) := Lib.hid fun o => ints_below hz (BB.out _)
  obtain ⟨l1, A1, k1, rfl, _⟩ := hx
  obtain ⟨l2, A2, k2, rfl, _⟩ := hy
  obtain ⟨l3, A3, k3, rfl, _⟩ := hz
  unfold maxLen at l1 l2 l3 lo
  go_enter Tryz.func22, Tryz.ntmps22
  go_wp2_with (first | (go_at_call 68; (first | (with_reducible refine (allCells_any _ d.s _ (HX.out _)).mono ?_) | (with_reducible refine (allCells_any _ d.b _ (HY.out _)).mono ?_) | (with_reducible refine (allCells_any _ d.c _ (HZ.out _)).mono ?_)); rintro e w' ⟨rfl, rfl⟩) | (go_at_call 69; refine (bsOK_any _ _).mono ?_; rintro e w' ⟨rfl, rfl⟩))
  go_ret
  exact ⟨rfl, BB.out _⟩

set_option maxRecDepth 100000 in
set_option maxHeartbeats 1000000 in
theorem dataOK_any_3 (v : Value) (d : Dt) (w : World) (hv : DatIn w v d) (h0 : d.s.length ≤ 32) (h1 : cellsB d.s = true) (h2 : d.b.length ≤ 32) (h3 : cellsB d.b = false) :
    Calls Tryz.prog 22 #[v] w fun e w' => e = .returned (.bool false) ∧ Below w.heap.size w w' := by
  obtain ⟨x, y, z, rfl, hx, hy, hz, lo⟩ := hv
  have BB : Hid (∀ (o : Obj), Below w.heap.size w (w.alloc o)) := Lib.hid fun o => below_alloc (Below.refl _ _) _
  have HX : Hid (∀ o : Obj, Ints (w.alloc o) x d.s) := Lib.hid fun o => ints_below hx (BB.out _)
  have HY : Hid (∀ o : Obj, Ints (w.alloc o) y d.b) := Lib.hid fun o => ints_below hy (BB.out _)
  have HZ : Hid (∀ o : Obj, Ints (w.alloc o) z d.c) := Lib.hid fun o => ints_below hz (BB.out _)
  obtain ⟨l1, A1, k1, rfl, _⟩ := hx
  obtain ⟨l2, A2, k2, rfl, _⟩ := hy
  obtain ⟨l3, A3, k3, rfl, _⟩ := hz
  unfold maxLen at l1 l2 l3 lo
  go_enter Tryz.func22, Tryz.ntmps22
  go_wp2_with (first | (go_at_call 68; (first | (with_reducible refine (allCells_any _ d.s _ (HX.out _)).mono ?_) | (with_reducible refine (allCells_any _ d.b _ (HY.out _)).mono ?_) | (with_reducible refine (allCells_any _ d.c _ (HZ.out _)).mono ?_)); rintro e w' ⟨rfl, rfl⟩) | (go_at_call 69; refine (bsOK_any _ _).mono ?_; rintro e w' ⟨rfl, rfl⟩))
  go_ret
  exact ⟨rfl, BB.out _⟩

set_option maxRecDepth 100000 in
set_option maxHeartbeats 1000000 in
theorem dataOK_any_4 (v : Value) (d : Dt) (w : World) (hv : DatIn w v d) (h0 : d.s.length ≤ 32) (h1 : cellsB d.s = true) (h2 : d.b.length ≤ 32) (h3 : cellsB d.b = true) (h4 : ¬ d.c.length = 32) :
    Calls Tryz.prog 22 #[v] w fun e w' => e = .returned (.bool false) ∧ Below w.heap.size w w' := by
  obtain ⟨x, y, z, rfl, hx, hy, hz, lo⟩ := hv
  have BB : Hid (∀ (o : Obj), Below w.heap.size w (w.alloc o)) := Lib.hid fun o => below_alloc (Below.refl _ _) _
  have HX : Hid (∀ o : Obj, Ints (w.alloc o) x d.s) := Lib.hid fun o => ints_below hx (BB.out _)
  have HY : Hid (∀ o : Obj, Ints (w.alloc o) y d.b) := Lib.hid fun o => ints_below hy (BB.out _)
  have HZ : Hid (∀ o : Obj, Ints (w.alloc o) z d.c) := Lib.hid fun o => ints_below hz (BB.out _)
  obtain ⟨l1, A1, k1, rfl, _⟩ := hx
  obtain ⟨l2, A2, k2, rfl, _⟩ := hy
  obtain ⟨l3, A3, k3, rfl, _⟩ := hz
  unfold maxLen at l1 l2 l3 lo
  have t4 : ((d.c.length : Int) == 32) = false := by rw [beq_eq_false_iff_ne]; omega
  clear h4
  go_enter Tryz.func22, Tryz.ntmps22
  go_wp2_with (first | (go_at_call 68; (first | (with_reducible refine (allCells_any _ d.s _ (HX.out _)).mono ?_) | (with_reducible refine (allCells_any _ d.b _ (HY.out _)).mono ?_) | (with_reducible refine (allCells_any _ d.c _ (HZ.out _)).mono ?_)); rintro e w' ⟨rfl, rfl⟩) | (go_at_call 69; refine (bsOK_any _ _).mono ?_; rintro e w' ⟨rfl, rfl⟩))
  go_ret
  exact ⟨rfl, BB.out _⟩

set_option maxRecDepth 100000 in
set_option maxHeartbeats 1000000 in
theorem dataOK_any_5 (v : Value) (d : Dt) (w : World) (hv : DatIn w v d) (h0 : d.s.length ≤ 32) (h1 : cellsB d.s = true) (h2 : d.b.length ≤ 32) (h3 : cellsB d.b = true) (h4 : d.c.length = 32) (h5 : cellsB d.c = false) :
    Calls Tryz.prog 22 #[v] w fun e w' => e = .returned (.bool false) ∧ Below w.heap.size w w' := by
  obtain ⟨x, y, z, rfl, hx, hy, hz, lo⟩ := hv
  have BB : Hid (∀ (o : Obj), Below w.heap.size w (w.alloc o)) := Lib.hid fun o => below_alloc (Below.refl _ _) _
  have HX : Hid (∀ o : Obj, Ints (w.alloc o) x d.s) := Lib.hid fun o => ints_below hx (BB.out _)
  have HY : Hid (∀ o : Obj, Ints (w.alloc o) y d.b) := Lib.hid fun o => ints_below hy (BB.out _)
  have HZ : Hid (∀ o : Obj, Ints (w.alloc o) z d.c) := Lib.hid fun o => ints_below hz (BB.out _)
  obtain ⟨l1, A1, k1, rfl, _⟩ := hx
  obtain ⟨l2, A2, k2, rfl, _⟩ := hy
  obtain ⟨l3, A3, k3, rfl, _⟩ := hz
  unfold maxLen at l1 l2 l3 lo
  have t4 : ((d.c.length : Int) == 32) = true := by rw [beq_iff_eq]; omega
  clear h4
  go_enter Tryz.func22, Tryz.ntmps22
  go_wp2_with (first | (go_at_call 68; (first | (with_reducible refine (allCells_any _ d.s _ (HX.out _)).mono ?_) | (with_reducible refine (allCells_any _ d.b _ (HY.out _)).mono ?_) | (with_reducible refine (allCells_any _ d.c _ (HZ.out _)).mono ?_)); rintro e w' ⟨rfl, rfl⟩) | (go_at_call 69; refine (bsOK_any _ _).mono ?_; rintro e w' ⟨rfl, rfl⟩))
  go_ret
  exact ⟨rfl, BB.out _⟩

set_option maxRecDepth 100000 in
set_option maxHeartbeats 1000000 in
theorem dataOK_any_6 (v : Value) (d : Dt) (w : World) (hv : DatIn w v d) (h0 : d.s.length ≤ 32) (h1 : cellsB d.s = true) (h2 : d.b.length ≤ 32) (h3 : cellsB d.b = true) (h4 : d.c.length = 32) (h5 : cellsB d.c = true) (h6 : ¬ 0 ≤ d.h) :
    Calls Tryz.prog 22 #[v] w fun e w' => e = .returned (.bool false) ∧ Below w.heap.size w w' := by
  obtain ⟨x, y, z, rfl, hx, hy, hz, lo⟩ := hv
  have BB : Hid (∀ (o : Obj), Below w.heap.size w (w.alloc o)) := Lib.hid fun o => below_alloc (Below.refl _ _) _
  have HX : Hid (∀ o : Obj, Ints (w.alloc o) x d.s) := Lib.hid fun o => ints_below hx (BB.out _)
  have HY : Hid (∀ o : Obj, Ints (w.alloc o) y d.b) := Lib.hid fun o => ints_below hy (BB.out _)
  have HZ : Hid (∀ o : Obj, Ints (w.alloc o) z d.c) := Lib.hid fun o => ints_below hz (BB.out _)
  obtain ⟨l1, A1, k1, rfl, _⟩ := hx
  obtain ⟨l2, A2, k2, rfl, _⟩ := hy
  obtain ⟨l3, A3, k3, rfl, _⟩ := hz
  unfold maxLen at l1 l2 l3 lo
  have t4 : ((d.c.length : Int) == 32) = true := by rw [beq_iff_eq]; omega
  clear h4
  go_enter Tryz.func22, Tryz.ntmps22
  go_wp2_with (first | (go_at_call 68; (first | (with_reducible refine (allCells_any _ d.s _ (HX.out _)).mono ?_) | (with_reducible refine (allCells_any _ d.b _ (HY.out _)).mono ?_) | (with_reducible refine (allCells_any _ d.c _ (HZ.out _)).mono ?_)); rintro e w' ⟨rfl, rfl⟩) | (go_at_call 69; refine (bsOK_any _ _).mono ?_; rintro e w' ⟨rfl, rfl⟩))
  go_ret
  exact ⟨rfl, BB.out _⟩

set_option maxRecDepth 100000 in
set_option maxHeartbeats 1000000 in
theorem dataOK_any_7 (v : Value) (d : Dt) (w : World) (hv : DatIn w v d) (h0 : d.s.length ≤ 32) (h1 : cellsB d.s = true) (h2 : d.b.length ≤ 32) (h3 : cellsB d.b = true) (h4 : d.c.length = 32) (h5 : cellsB d.c = true) (h6 : 0 ≤ d.h) (h7 : ¬ d.h ≤ 32) :
    Calls Tryz.prog 22 #[v] w fun e w' => e = .returned (.bool false) ∧ Below w.heap.size w w' := by
  obtain ⟨x, y, z, rfl, hx, hy, hz, lo⟩ := hv
  have BB : Hid (∀ (o : Obj), Below w.heap.size w (w.alloc o)) := Lib.hid fun o => below_alloc (Below.refl _ _) _
  have HX : Hid (∀ o : Obj, Ints (w.alloc o) x d.s) := Lib.hid fun o => ints_below hx (BB.out _)
  have HY : Hid (∀ o : Obj, Ints (w.alloc o) y d.b) := Lib.hid fun o => ints_below hy (BB.out _)
  have HZ : Hid (∀ o : Obj, Ints (w.alloc o) z d.c) := Lib.hid fun o => ints_below hz (BB.out _)
  obtain ⟨l1, A1, k1, rfl, _⟩ := hx
  obtain ⟨l2, A2, k2, rfl, _⟩ := hy
  obtain ⟨l3, A3, k3, rfl, _⟩ := hz
  unfold maxLen at l1 l2 l3 lo
  have t4 : ((d.c.length : Int) == 32) = true := by rw [beq_iff_eq]; omega
  clear h4
  go_enter Tryz.func22, Tryz.ntmps22
  go_wp2_with (first | (go_at_call 68; (first | (with_reducible refine (allCells_any _ d.s _ (HX.out _)).mono ?_) | (with_reducible refine (allCells_any _ d.b _ (HY.out _)).mono ?_) | (with_reducible refine (allCells_any _ d.c _ (HZ.out _)).mono ?_)); rintro e w' ⟨rfl, rfl⟩) | (go_at_call 69; refine (bsOK_any _ _).mono ?_; rintro e w' ⟨rfl, rfl⟩))
  go_ret
  exact ⟨rfl, BB.out _⟩

set_option maxRecDepth 100000 in
set_option maxHeartbeats 1000000 in
theorem dataOK_any_8 (v : Value) (d : Dt) (w : World) (hv : DatIn w v d) (h0 : d.s.length ≤ 32) (h1 : cellsB d.s = true) (h2 : d.b.length ≤ 32) (h3 : cellsB d.b = true) (h4 : d.c.length = 32) (h5 : cellsB d.c = true) (h6 : 0 ≤ d.h) (h7 : d.h ≤ 32) (h8 : baseB d.n = false) :
    Calls Tryz.prog 22 #[v] w fun e w' => e = .returned (.bool false) ∧ Below w.heap.size w w' := by
  obtain ⟨x, y, z, rfl, hx, hy, hz, lo⟩ := hv
  have BB : Hid (∀ (o : Obj), Below w.heap.size w (w.alloc o)) := Lib.hid fun o => below_alloc (Below.refl _ _) _
  have HX : Hid (∀ o : Obj, Ints (w.alloc o) x d.s) := Lib.hid fun o => ints_below hx (BB.out _)
  have HY : Hid (∀ o : Obj, Ints (w.alloc o) y d.b) := Lib.hid fun o => ints_below hy (BB.out _)
  have HZ : Hid (∀ o : Obj, Ints (w.alloc o) z d.c) := Lib.hid fun o => ints_below hz (BB.out _)
  obtain ⟨l1, A1, k1, rfl, _⟩ := hx
  obtain ⟨l2, A2, k2, rfl, _⟩ := hy
  obtain ⟨l3, A3, k3, rfl, _⟩ := hz
  unfold maxLen at l1 l2 l3 lo
  have t4 : ((d.c.length : Int) == 32) = true := by rw [beq_iff_eq]; omega
  clear h4
  go_enter Tryz.func22, Tryz.ntmps22
  go_wp2_with (first | (go_at_call 68; (first | (with_reducible refine (allCells_any _ d.s _ (HX.out _)).mono ?_) | (with_reducible refine (allCells_any _ d.b _ (HY.out _)).mono ?_) | (with_reducible refine (allCells_any _ d.c _ (HZ.out _)).mono ?_)); rintro e w' ⟨rfl, rfl⟩) | (go_at_call 69; refine (bsOK_any _ _).mono ?_; rintro e w' ⟨rfl, rfl⟩))
  go_ret
  exact ⟨rfl, BB.out _⟩

set_option maxRecDepth 100000 in
set_option maxHeartbeats 1000000 in
theorem dataOK_any_9 (v : Value) (d : Dt) (w : World) (hv : DatIn w v d) (h0 : d.s.length ≤ 32) (h1 : cellsB d.s = true) (h2 : d.b.length ≤ 32) (h3 : cellsB d.b = true) (h4 : d.c.length = 32) (h5 : cellsB d.c = true) (h6 : 0 ≤ d.h) (h7 : d.h ≤ 32) (h8 : baseB d.n = true) (h9 : ¬ d.o.size ≤ 300) :
    Calls Tryz.prog 22 #[v] w fun e w' => e = .returned (.bool false) ∧ Below w.heap.size w w' := by
  obtain ⟨x, y, z, rfl, hx, hy, hz, lo⟩ := hv
  have BB : Hid (∀ (o : Obj), Below w.heap.size w (w.alloc o)) := Lib.hid fun o => below_alloc (Below.refl _ _) _
  have HX : Hid (∀ o : Obj, Ints (w.alloc o) x d.s) := Lib.hid fun o => ints_below hx (BB.out _)
  have HY : Hid (∀ o : Obj, Ints (w.alloc o) y d.b) := Lib.hid fun o => ints_below hy (BB.out _)
  have HZ : Hid (∀ o : Obj, Ints (w.alloc o) z d.c) := Lib.hid fun o => ints_below hz (BB.out _)
  obtain ⟨l1, A1, k1, rfl, _⟩ := hx
  obtain ⟨l2, A2, k2, rfl, _⟩ := hy
  obtain ⟨l3, A3, k3, rfl, _⟩ := hz
  unfold maxLen at l1 l2 l3 lo
  have t4 : ((d.c.length : Int) == 32) = true := by rw [beq_iff_eq]; omega
  clear h4
  go_enter Tryz.func22, Tryz.ntmps22
  go_wp2_with (first | (go_at_call 68; (first | (with_reducible refine (allCells_any _ d.s _ (HX.out _)).mono ?_) | (with_reducible refine (allCells_any _ d.b _ (HY.out _)).mono ?_) | (with_reducible refine (allCells_any _ d.c _ (HZ.out _)).mono ?_)); rintro e w' ⟨rfl, rfl⟩) | (go_at_call 69; refine (bsOK_any _ _).mono ?_; rintro e w' ⟨rfl, rfl⟩))
  go_ret
  exact ⟨ret_bool (by simp; omega), BB.out _⟩

set_option maxRecDepth 100000 in
set_option maxHeartbeats 1000000 in
theorem dataOK_any_10 (v : Value) (d : Dt) (w : World) (hv : DatIn w v d) (h0 : d.s.length ≤ 32) (h1 : cellsB d.s = true) (h2 : d.b.length ≤ 32) (h3 : cellsB d.b = true) (h4 : d.c.length = 32) (h5 : cellsB d.c = true) (h6 : 0 ≤ d.h) (h7 : d.h ≤ 32) (h8 : baseB d.n = true) (h9 : d.o.size ≤ 300) :
    Calls Tryz.prog 22 #[v] w fun e w' => e = .returned (.bool true) ∧ Below w.heap.size w w' := by
  obtain ⟨x, y, z, rfl, hx, hy, hz, lo⟩ := hv
  have BB : Hid (∀ (o : Obj), Below w.heap.size w (w.alloc o)) := Lib.hid fun o => below_alloc (Below.refl _ _) _
  have HX : Hid (∀ o : Obj, Ints (w.alloc o) x d.s) := Lib.hid fun o => ints_below hx (BB.out _)
  have HY : Hid (∀ o : Obj, Ints (w.alloc o) y d.b) := Lib.hid fun o => ints_below hy (BB.out _)
  have HZ : Hid (∀ o : Obj, Ints (w.alloc o) z d.c) := Lib.hid fun o => ints_below hz (BB.out _)
  obtain ⟨l1, A1, k1, rfl, _⟩ := hx
  obtain ⟨l2, A2, k2, rfl, _⟩ := hy
  obtain ⟨l3, A3, k3, rfl, _⟩ := hz
  unfold maxLen at l1 l2 l3 lo
  have t4 : ((d.c.length : Int) == 32) = true := by rw [beq_iff_eq]; omega
  clear h4
  go_enter Tryz.func22, Tryz.ntmps22
  go_wp2_with (first | (go_at_call 68; (first | (with_reducible refine (allCells_any _ d.s _ (HX.out _)).mono ?_) | (with_reducible refine (allCells_any _ d.b _ (HY.out _)).mono ?_) | (with_reducible refine (allCells_any _ d.c _ (HZ.out _)).mono ?_)); rintro e w' ⟨rfl, rfl⟩) | (go_at_call 69; refine (bsOK_any _ _).mono ?_; rintro e w' ⟨rfl, rfl⟩))
  go_ret
  exact ⟨ret_bool (by simp; omega), BB.out _⟩

theorem dataOK_any (v : Value) (d : Dt) (w : World) (hv : DatIn w v d) :
    Calls Tryz.prog 22 #[v] w fun e w' => e = .returned (.bool (dOK d)) ∧ Below w.heap.size w w' := by
  by_cases h0 : d.s.length ≤ 32
  rotate_left
  · rw [dOK_false (fun q => absurd (fine_sl q) (by simp [h0]))]; exact dataOK_any_0 v d w hv h0
  cases h1 : cellsB d.s
  · rw [dOK_false (fun q => absurd (fine_sc q) (by simp [h1]))]; exact dataOK_any_1 v d w hv h0 h1
  by_cases h2 : d.b.length ≤ 32
  rotate_left
  · rw [dOK_false (fun q => absurd (fine_bl q) (by simp [h2]))]; exact dataOK_any_2 v d w hv h0 h1 h2
  cases h3 : cellsB d.b
  · rw [dOK_false (fun q => absurd (fine_bc q) (by simp [h3]))]; exact dataOK_any_3 v d w hv h0 h1 h2 h3
  by_cases h4 : d.c.length = 32
  rotate_left
  · rw [dOK_false (fun q => absurd (fine_cl q) (by simp [h4]))]; exact dataOK_any_4 v d w hv h0 h1 h2 h3 h4
  cases h5 : cellsB d.c
  · rw [dOK_false (fun q => absurd (fine_cc q) (by simp [h5]))]; exact dataOK_any_5 v d w hv h0 h1 h2 h3 h4 h5
  by_cases h6 : 0 ≤ d.h
  rotate_left
  · rw [dOK_false (fun q => absurd (fine_h0 q) (by simp [h6]))]; exact dataOK_any_6 v d w hv h0 h1 h2 h3 h4 h5 h6
  by_cases h7 : d.h ≤ 32
  rotate_left
  · rw [dOK_false (fun q => absurd (fine_h1 q) (by simp [h7]))]; exact dataOK_any_7 v d w hv h0 h1 h2 h3 h4 h5 h6 h7
  cases h8 : baseB d.n
  · rw [dOK_false (fun q => absurd (fine_n q) (by simp [h8]))]; exact dataOK_any_8 v d w hv h0 h1 h2 h3 h4 h5 h6 h7 h8
  by_cases h9 : d.o.size ≤ 300
  rotate_left
  · rw [dOK_false (fun q => absurd (fine_o q) (by simp [h9]))]; exact dataOK_any_9 v d w hv h0 h1 h2 h3 h4 h5 h6 h7 h8 h9
  rw [dOK_true ⟨h0, h2, h4, h1, h3, h5, (show 0 ≤ d.h ∧ d.h ≤ 32 from ⟨h6, h7⟩).1, (show 0 ≤ d.h ∧ d.h ≤ 32 from ⟨h6, h7⟩).2, h8, h9⟩]
  exact dataOK_any_10 v d w hv h0 h1 h2 h3 h4 h5 h6 h7 h8 h9

set_option maxRecDepth 100000 in
set_option maxHeartbeats 1000000 in
theorem sOK_any_0 (v : Value) (d : Dt) (w : World) (hv : DatIn w v d) (h0 : ¬ d.s.length ≤ 32) :
    Calls Tryz.prog 62 #[v] w fun e w' => e = .returned (.bool false) ∧ Below w.heap.size w w' := by
  obtain ⟨x, y, z, rfl, hx, hy, hz, lo⟩ := hv
  have BB : Hid (∀ (o : Obj), Below w.heap.size w (w.alloc o)) := Lib.hid fun o => below_alloc (Below.refl _ _) _
  have HX : Hid (∀ o : Obj, Ints (w.alloc o) x d.s) := Lib.hid fun o => ints_below hx (BB.out _)
  have HY : Hid (∀ o : Obj, Ints (w.alloc o) y d.b) := Lib.hid fun o => ints_below hy (BB.out _)
  have HZ : Hid (∀ o : Obj, Ints (w.alloc o) z d.c) := Lib.hid fun o => ints_below hz (BB.out _)
  obtain ⟨l1, A1, k1, rfl, _⟩ := hx
  obtain ⟨l2, A2, k2, rfl, _⟩ := hy
  obtain ⟨l3, A3, k3, rfl, _⟩ := hz
  unfold maxLen at l1 l2 l3 lo
  go_enter Tryz.func62, Tryz.ntmps62
  go_wp2_with (first | (go_at_call 132; (first | (with_reducible refine (sCells_any _ d.s _ (HX.out _)).mono ?_) | (with_reducible refine (sCells_any _ d.b _ (HY.out _)).mono ?_) | (with_reducible refine (sCells_any _ d.c _ (HZ.out _)).mono ?_)); rintro e w' ⟨rfl, rfl⟩) | (go_at_call 133; refine (sBs_any _ _).mono ?_; rintro e w' ⟨rfl, rfl⟩) | (go_at_call 64; refine (sIn_any _ _ _ _).mono ?_; rintro e w' ⟨rfl, rfl⟩))
  go_ret
  exact ⟨rfl, BB.out _⟩

set_option maxRecDepth 100000 in
set_option maxHeartbeats 1000000 in
theorem sOK_any_1 (v : Value) (d : Dt) (w : World) (hv : DatIn w v d) (h0 : d.s.length ≤ 32) (h1 : ¬ d.b.length ≤ 32) :
    Calls Tryz.prog 62 #[v] w fun e w' => e = .returned (.bool false) ∧ Below w.heap.size w w' := by
  obtain ⟨x, y, z, rfl, hx, hy, hz, lo⟩ := hv
  have BB : Hid (∀ (o : Obj), Below w.heap.size w (w.alloc o)) := Lib.hid fun o => below_alloc (Below.refl _ _) _
  have HX : Hid (∀ o : Obj, Ints (w.alloc o) x d.s) := Lib.hid fun o => ints_below hx (BB.out _)
  have HY : Hid (∀ o : Obj, Ints (w.alloc o) y d.b) := Lib.hid fun o => ints_below hy (BB.out _)
  have HZ : Hid (∀ o : Obj, Ints (w.alloc o) z d.c) := Lib.hid fun o => ints_below hz (BB.out _)
  obtain ⟨l1, A1, k1, rfl, _⟩ := hx
  obtain ⟨l2, A2, k2, rfl, _⟩ := hy
  obtain ⟨l3, A3, k3, rfl, _⟩ := hz
  unfold maxLen at l1 l2 l3 lo
  go_enter Tryz.func62, Tryz.ntmps62
  go_wp2_with (first | (go_at_call 132; (first | (with_reducible refine (sCells_any _ d.s _ (HX.out _)).mono ?_) | (with_reducible refine (sCells_any _ d.b _ (HY.out _)).mono ?_) | (with_reducible refine (sCells_any _ d.c _ (HZ.out _)).mono ?_)); rintro e w' ⟨rfl, rfl⟩) | (go_at_call 133; refine (sBs_any _ _).mono ?_; rintro e w' ⟨rfl, rfl⟩) | (go_at_call 64; refine (sIn_any _ _ _ _).mono ?_; rintro e w' ⟨rfl, rfl⟩))
  go_ret
  exact ⟨rfl, BB.out _⟩

set_option maxRecDepth 100000 in
set_option maxHeartbeats 1000000 in
theorem sOK_any_2 (v : Value) (d : Dt) (w : World) (hv : DatIn w v d) (h0 : d.s.length ≤ 32) (h1 : d.b.length ≤ 32) (h2 : ¬ d.c.length = 32) :
    Calls Tryz.prog 62 #[v] w fun e w' => e = .returned (.bool false) ∧ Below w.heap.size w w' := by
  obtain ⟨x, y, z, rfl, hx, hy, hz, lo⟩ := hv
  have BB : Hid (∀ (o : Obj), Below w.heap.size w (w.alloc o)) := Lib.hid fun o => below_alloc (Below.refl _ _) _
  have HX : Hid (∀ o : Obj, Ints (w.alloc o) x d.s) := Lib.hid fun o => ints_below hx (BB.out _)
  have HY : Hid (∀ o : Obj, Ints (w.alloc o) y d.b) := Lib.hid fun o => ints_below hy (BB.out _)
  have HZ : Hid (∀ o : Obj, Ints (w.alloc o) z d.c) := Lib.hid fun o => ints_below hz (BB.out _)
  obtain ⟨l1, A1, k1, rfl, _⟩ := hx
  obtain ⟨l2, A2, k2, rfl, _⟩ := hy
  obtain ⟨l3, A3, k3, rfl, _⟩ := hz
  unfold maxLen at l1 l2 l3 lo
  have t2 : ((d.c.length : Int) == 32) = false := by rw [beq_eq_false_iff_ne]; omega
  clear h2
  go_enter Tryz.func62, Tryz.ntmps62
  go_wp2_with (first | (go_at_call 132; (first | (with_reducible refine (sCells_any _ d.s _ (HX.out _)).mono ?_) | (with_reducible refine (sCells_any _ d.b _ (HY.out _)).mono ?_) | (with_reducible refine (sCells_any _ d.c _ (HZ.out _)).mono ?_)); rintro e w' ⟨rfl, rfl⟩) | (go_at_call 133; refine (sBs_any _ _).mono ?_; rintro e w' ⟨rfl, rfl⟩) | (go_at_call 64; refine (sIn_any _ _ _ _).mono ?_; rintro e w' ⟨rfl, rfl⟩))
  go_ret
  exact ⟨rfl, BB.out _⟩

set_option maxRecDepth 100000 in
set_option maxHeartbeats 1000000 in
theorem sOK_any_3 (v : Value) (d : Dt) (w : World) (hv : DatIn w v d) (h0 : d.s.length ≤ 32) (h1 : d.b.length ≤ 32) (h2 : d.c.length = 32) (h3 : cellsB d.s = false) :
    Calls Tryz.prog 62 #[v] w fun e w' => e = .returned (.bool false) ∧ Below w.heap.size w w' := by
  obtain ⟨x, y, z, rfl, hx, hy, hz, lo⟩ := hv
  have BB : Hid (∀ (o : Obj), Below w.heap.size w (w.alloc o)) := Lib.hid fun o => below_alloc (Below.refl _ _) _
  have HX : Hid (∀ o : Obj, Ints (w.alloc o) x d.s) := Lib.hid fun o => ints_below hx (BB.out _)
  have HY : Hid (∀ o : Obj, Ints (w.alloc o) y d.b) := Lib.hid fun o => ints_below hy (BB.out _)
  have HZ : Hid (∀ o : Obj, Ints (w.alloc o) z d.c) := Lib.hid fun o => ints_below hz (BB.out _)
  obtain ⟨l1, A1, k1, rfl, _⟩ := hx
  obtain ⟨l2, A2, k2, rfl, _⟩ := hy
  obtain ⟨l3, A3, k3, rfl, _⟩ := hz
  unfold maxLen at l1 l2 l3 lo
  have t2 : ((d.c.length : Int) == 32) = true := by rw [beq_iff_eq]; omega
  clear h2
  go_enter Tryz.func62, Tryz.ntmps62
  go_wp2_with (first | (go_at_call 132; (first | (with_reducible refine (sCells_any _ d.s _ (HX.out _)).mono ?_) | (with_reducible refine (sCells_any _ d.b _ (HY.out _)).mono ?_) | (with_reducible refine (sCells_any _ d.c _ (HZ.out _)).mono ?_)); rintro e w' ⟨rfl, rfl⟩) | (go_at_call 133; refine (sBs_any _ _).mono ?_; rintro e w' ⟨rfl, rfl⟩) | (go_at_call 64; refine (sIn_any _ _ _ _).mono ?_; rintro e w' ⟨rfl, rfl⟩))
  go_ret
  exact ⟨rfl, BB.out _⟩

set_option maxRecDepth 100000 in
set_option maxHeartbeats 1000000 in
theorem sOK_any_4 (v : Value) (d : Dt) (w : World) (hv : DatIn w v d) (h0 : d.s.length ≤ 32) (h1 : d.b.length ≤ 32) (h2 : d.c.length = 32) (h3 : cellsB d.s = true) (h4 : cellsB d.b = false) :
    Calls Tryz.prog 62 #[v] w fun e w' => e = .returned (.bool false) ∧ Below w.heap.size w w' := by
  obtain ⟨x, y, z, rfl, hx, hy, hz, lo⟩ := hv
  have BB : Hid (∀ (o : Obj), Below w.heap.size w (w.alloc o)) := Lib.hid fun o => below_alloc (Below.refl _ _) _
  have HX : Hid (∀ o : Obj, Ints (w.alloc o) x d.s) := Lib.hid fun o => ints_below hx (BB.out _)
  have HY : Hid (∀ o : Obj, Ints (w.alloc o) y d.b) := Lib.hid fun o => ints_below hy (BB.out _)
  have HZ : Hid (∀ o : Obj, Ints (w.alloc o) z d.c) := Lib.hid fun o => ints_below hz (BB.out _)
  obtain ⟨l1, A1, k1, rfl, _⟩ := hx
  obtain ⟨l2, A2, k2, rfl, _⟩ := hy
  obtain ⟨l3, A3, k3, rfl, _⟩ := hz
  unfold maxLen at l1 l2 l3 lo
  have t2 : ((d.c.length : Int) == 32) = true := by rw [beq_iff_eq]; omega
  clear h2
  go_enter Tryz.func62, Tryz.ntmps62
  go_wp2_with (first | (go_at_call 132; (first | (with_reducible refine (sCells_any _ d.s _ (HX.out _)).mono ?_) | (with_reducible refine (sCells_any _ d.b _ (HY.out _)).mono ?_) | (with_reducible refine (sCells_any _ d.c _ (HZ.out _)).mono ?_)); rintro e w' ⟨rfl, rfl⟩) | (go_at_call 133; refine (sBs_any _ _).mono ?_; rintro e w' ⟨rfl, rfl⟩) | (go_at_call 64; refine (sIn_any _ _ _ _).mono ?_; rintro e w' ⟨rfl, rfl⟩))
  go_ret
  exact ⟨rfl, BB.out _⟩

set_option maxRecDepth 100000 in
set_option maxHeartbeats 1000000 in
theorem sOK_any_5 (v : Value) (d : Dt) (w : World) (hv : DatIn w v d) (h0 : d.s.length ≤ 32) (h1 : d.b.length ≤ 32) (h2 : d.c.length = 32) (h3 : cellsB d.s = true) (h4 : cellsB d.b = true) (h5 : cellsB d.c = false) :
    Calls Tryz.prog 62 #[v] w fun e w' => e = .returned (.bool false) ∧ Below w.heap.size w w' := by
  obtain ⟨x, y, z, rfl, hx, hy, hz, lo⟩ := hv
  have BB : Hid (∀ (o : Obj), Below w.heap.size w (w.alloc o)) := Lib.hid fun o => below_alloc (Below.refl _ _) _
  have HX : Hid (∀ o : Obj, Ints (w.alloc o) x d.s) := Lib.hid fun o => ints_below hx (BB.out _)
  have HY : Hid (∀ o : Obj, Ints (w.alloc o) y d.b) := Lib.hid fun o => ints_below hy (BB.out _)
  have HZ : Hid (∀ o : Obj, Ints (w.alloc o) z d.c) := Lib.hid fun o => ints_below hz (BB.out _)
  obtain ⟨l1, A1, k1, rfl, _⟩ := hx
  obtain ⟨l2, A2, k2, rfl, _⟩ := hy
  obtain ⟨l3, A3, k3, rfl, _⟩ := hz
  unfold maxLen at l1 l2 l3 lo
  have t2 : ((d.c.length : Int) == 32) = true := by rw [beq_iff_eq]; omega
  clear h2
  go_enter Tryz.func62, Tryz.ntmps62
  go_wp2_with (first | (go_at_call 132; (first | (with_reducible refine (sCells_any _ d.s _ (HX.out _)).mono ?_) | (with_reducible refine (sCells_any _ d.b _ (HY.out _)).mono ?_) | (with_reducible refine (sCells_any _ d.c _ (HZ.out _)).mono ?_)); rintro e w' ⟨rfl, rfl⟩) | (go_at_call 133; refine (sBs_any _ _).mono ?_; rintro e w' ⟨rfl, rfl⟩) | (go_at_call 64; refine (sIn_any _ _ _ _).mono ?_; rintro e w' ⟨rfl, rfl⟩))
  go_ret
  exact ⟨rfl, BB.out _⟩

set_option maxRecDepth 100000 in
set_option maxHeartbeats 1000000 in
theorem sOK_any_6 (v : Value) (d : Dt) (w : World) (hv : DatIn w v d) (h0 : d.s.length ≤ 32) (h1 : d.b.length ≤ 32) (h2 : d.c.length = 32) (h3 : cellsB d.s = true) (h4 : cellsB d.b = true) (h5 : cellsB d.c = true) (h6 : inB d.h 0 32 = false) :
    Calls Tryz.prog 62 #[v] w fun e w' => e = .returned (.bool false) ∧ Below w.heap.size w w' := by
  obtain ⟨x, y, z, rfl, hx, hy, hz, lo⟩ := hv
  have BB : Hid (∀ (o : Obj), Below w.heap.size w (w.alloc o)) := Lib.hid fun o => below_alloc (Below.refl _ _) _
  have HX : Hid (∀ o : Obj, Ints (w.alloc o) x d.s) := Lib.hid fun o => ints_below hx (BB.out _)
  have HY : Hid (∀ o : Obj, Ints (w.alloc o) y d.b) := Lib.hid fun o => ints_below hy (BB.out _)
  have HZ : Hid (∀ o : Obj, Ints (w.alloc o) z d.c) := Lib.hid fun o => ints_below hz (BB.out _)
  obtain ⟨l1, A1, k1, rfl, _⟩ := hx
  obtain ⟨l2, A2, k2, rfl, _⟩ := hy
  obtain ⟨l3, A3, k3, rfl, _⟩ := hz
  unfold maxLen at l1 l2 l3 lo
  have t2 : ((d.c.length : Int) == 32) = true := by rw [beq_iff_eq]; omega
  clear h2
  go_enter Tryz.func62, Tryz.ntmps62
  go_wp2_with (first | (go_at_call 132; (first | (with_reducible refine (sCells_any _ d.s _ (HX.out _)).mono ?_) | (with_reducible refine (sCells_any _ d.b _ (HY.out _)).mono ?_) | (with_reducible refine (sCells_any _ d.c _ (HZ.out _)).mono ?_)); rintro e w' ⟨rfl, rfl⟩) | (go_at_call 133; refine (sBs_any _ _).mono ?_; rintro e w' ⟨rfl, rfl⟩) | (go_at_call 64; refine (sIn_any _ _ _ _).mono ?_; rintro e w' ⟨rfl, rfl⟩))
  go_ret
  exact ⟨rfl, BB.out _⟩

set_option maxRecDepth 100000 in
set_option maxHeartbeats 1000000 in
theorem sOK_any_7 (v : Value) (d : Dt) (w : World) (hv : DatIn w v d) (h0 : d.s.length ≤ 32) (h1 : d.b.length ≤ 32) (h2 : d.c.length = 32) (h3 : cellsB d.s = true) (h4 : cellsB d.b = true) (h5 : cellsB d.c = true) (h6 : inB d.h 0 32 = true) (h7 : baseB d.n = false) :
    Calls Tryz.prog 62 #[v] w fun e w' => e = .returned (.bool false) ∧ Below w.heap.size w w' := by
  obtain ⟨x, y, z, rfl, hx, hy, hz, lo⟩ := hv
  have BB : Hid (∀ (o : Obj), Below w.heap.size w (w.alloc o)) := Lib.hid fun o => below_alloc (Below.refl _ _) _
  have HX : Hid (∀ o : Obj, Ints (w.alloc o) x d.s) := Lib.hid fun o => ints_below hx (BB.out _)
  have HY : Hid (∀ o : Obj, Ints (w.alloc o) y d.b) := Lib.hid fun o => ints_below hy (BB.out _)
  have HZ : Hid (∀ o : Obj, Ints (w.alloc o) z d.c) := Lib.hid fun o => ints_below hz (BB.out _)
  obtain ⟨l1, A1, k1, rfl, _⟩ := hx
  obtain ⟨l2, A2, k2, rfl, _⟩ := hy
  obtain ⟨l3, A3, k3, rfl, _⟩ := hz
  unfold maxLen at l1 l2 l3 lo
  have t2 : ((d.c.length : Int) == 32) = true := by rw [beq_iff_eq]; omega
  clear h2
  go_enter Tryz.func62, Tryz.ntmps62
  go_wp2_with (first | (go_at_call 132; (first | (with_reducible refine (sCells_any _ d.s _ (HX.out _)).mono ?_) | (with_reducible refine (sCells_any _ d.b _ (HY.out _)).mono ?_) | (with_reducible refine (sCells_any _ d.c _ (HZ.out _)).mono ?_)); rintro e w' ⟨rfl, rfl⟩) | (go_at_call 133; refine (sBs_any _ _).mono ?_; rintro e w' ⟨rfl, rfl⟩) | (go_at_call 64; refine (sIn_any _ _ _ _).mono ?_; rintro e w' ⟨rfl, rfl⟩))
  go_ret
  exact ⟨rfl, BB.out _⟩

set_option maxRecDepth 100000 in
set_option maxHeartbeats 1000000 in
theorem sOK_any_8 (v : Value) (d : Dt) (w : World) (hv : DatIn w v d) (h0 : d.s.length ≤ 32) (h1 : d.b.length ≤ 32) (h2 : d.c.length = 32) (h3 : cellsB d.s = true) (h4 : cellsB d.b = true) (h5 : cellsB d.c = true) (h6 : inB d.h 0 32 = true) (h7 : baseB d.n = true) (h8 : ¬ d.o.size ≤ 300) :
    Calls Tryz.prog 62 #[v] w fun e w' => e = .returned (.bool false) ∧ Below w.heap.size w w' := by
  obtain ⟨x, y, z, rfl, hx, hy, hz, lo⟩ := hv
  have BB : Hid (∀ (o : Obj), Below w.heap.size w (w.alloc o)) := Lib.hid fun o => below_alloc (Below.refl _ _) _
  have HX : Hid (∀ o : Obj, Ints (w.alloc o) x d.s) := Lib.hid fun o => ints_below hx (BB.out _)
  have HY : Hid (∀ o : Obj, Ints (w.alloc o) y d.b) := Lib.hid fun o => ints_below hy (BB.out _)
  have HZ : Hid (∀ o : Obj, Ints (w.alloc o) z d.c) := Lib.hid fun o => ints_below hz (BB.out _)
  obtain ⟨l1, A1, k1, rfl, _⟩ := hx
  obtain ⟨l2, A2, k2, rfl, _⟩ := hy
  obtain ⟨l3, A3, k3, rfl, _⟩ := hz
  unfold maxLen at l1 l2 l3 lo
  have t2 : ((d.c.length : Int) == 32) = true := by rw [beq_iff_eq]; omega
  clear h2
  go_enter Tryz.func62, Tryz.ntmps62
  go_wp2_with (first | (go_at_call 132; (first | (with_reducible refine (sCells_any _ d.s _ (HX.out _)).mono ?_) | (with_reducible refine (sCells_any _ d.b _ (HY.out _)).mono ?_) | (with_reducible refine (sCells_any _ d.c _ (HZ.out _)).mono ?_)); rintro e w' ⟨rfl, rfl⟩) | (go_at_call 133; refine (sBs_any _ _).mono ?_; rintro e w' ⟨rfl, rfl⟩) | (go_at_call 64; refine (sIn_any _ _ _ _).mono ?_; rintro e w' ⟨rfl, rfl⟩))
  go_ret
  exact ⟨ret_bool (by simp; omega), BB.out _⟩

set_option maxRecDepth 100000 in
set_option maxHeartbeats 1000000 in
theorem sOK_any_9 (v : Value) (d : Dt) (w : World) (hv : DatIn w v d) (h0 : d.s.length ≤ 32) (h1 : d.b.length ≤ 32) (h2 : d.c.length = 32) (h3 : cellsB d.s = true) (h4 : cellsB d.b = true) (h5 : cellsB d.c = true) (h6 : inB d.h 0 32 = true) (h7 : baseB d.n = true) (h8 : d.o.size ≤ 300) :
    Calls Tryz.prog 62 #[v] w fun e w' => e = .returned (.bool true) ∧ Below w.heap.size w w' := by
  obtain ⟨x, y, z, rfl, hx, hy, hz, lo⟩ := hv
  have BB : Hid (∀ (o : Obj), Below w.heap.size w (w.alloc o)) := Lib.hid fun o => below_alloc (Below.refl _ _) _
  have HX : Hid (∀ o : Obj, Ints (w.alloc o) x d.s) := Lib.hid fun o => ints_below hx (BB.out _)
  have HY : Hid (∀ o : Obj, Ints (w.alloc o) y d.b) := Lib.hid fun o => ints_below hy (BB.out _)
  have HZ : Hid (∀ o : Obj, Ints (w.alloc o) z d.c) := Lib.hid fun o => ints_below hz (BB.out _)
  obtain ⟨l1, A1, k1, rfl, _⟩ := hx
  obtain ⟨l2, A2, k2, rfl, _⟩ := hy
  obtain ⟨l3, A3, k3, rfl, _⟩ := hz
  unfold maxLen at l1 l2 l3 lo
  have t2 : ((d.c.length : Int) == 32) = true := by rw [beq_iff_eq]; omega
  clear h2
  go_enter Tryz.func62, Tryz.ntmps62
  go_wp2_with (first | (go_at_call 132; (first | (with_reducible refine (sCells_any _ d.s _ (HX.out _)).mono ?_) | (with_reducible refine (sCells_any _ d.b _ (HY.out _)).mono ?_) | (with_reducible refine (sCells_any _ d.c _ (HZ.out _)).mono ?_)); rintro e w' ⟨rfl, rfl⟩) | (go_at_call 133; refine (sBs_any _ _).mono ?_; rintro e w' ⟨rfl, rfl⟩) | (go_at_call 64; refine (sIn_any _ _ _ _).mono ?_; rintro e w' ⟨rfl, rfl⟩))
  go_ret
  exact ⟨ret_bool (by simp; omega), BB.out _⟩

theorem sOK_any (v : Value) (d : Dt) (w : World) (hv : DatIn w v d) :
    Calls Tryz.prog 62 #[v] w fun e w' => e = .returned (.bool (dOK d)) ∧ Below w.heap.size w w' := by
  by_cases h0 : d.s.length ≤ 32
  rotate_left
  · rw [dOK_false (fun q => absurd (fine_sl q) (by simp [h0]))]; exact sOK_any_0 v d w hv h0
  by_cases h1 : d.b.length ≤ 32
  rotate_left
  · rw [dOK_false (fun q => absurd (fine_bl q) (by simp [h1]))]; exact sOK_any_1 v d w hv h0 h1
  by_cases h2 : d.c.length = 32
  rotate_left
  · rw [dOK_false (fun q => absurd (fine_cl q) (by simp [h2]))]; exact sOK_any_2 v d w hv h0 h1 h2
  cases h3 : cellsB d.s
  · rw [dOK_false (fun q => absurd (fine_sc q) (by simp [h3]))]; exact sOK_any_3 v d w hv h0 h1 h2 h3
  cases h4 : cellsB d.b
  · rw [dOK_false (fun q => absurd (fine_bc q) (by simp [h4]))]; exact sOK_any_4 v d w hv h0 h1 h2 h3 h4
  cases h5 : cellsB d.c
  · rw [dOK_false (fun q => absurd (fine_cc q) (by simp [h5]))]; exact sOK_any_5 v d w hv h0 h1 h2 h3 h4 h5
  cases h6 : inB d.h 0 32
  · rw [dOK_false (fun q => absurd (fine_hh q) (by simp [h6]))]; exact sOK_any_6 v d w hv h0 h1 h2 h3 h4 h5 h6
  cases h7 : baseB d.n
  · rw [dOK_false (fun q => absurd (fine_n q) (by simp [h7]))]; exact sOK_any_7 v d w hv h0 h1 h2 h3 h4 h5 h6 h7
  by_cases h8 : d.o.size ≤ 300
  rotate_left
  · rw [dOK_false (fun q => absurd (fine_o q) (by simp [h8]))]; exact sOK_any_8 v d w hv h0 h1 h2 h3 h4 h5 h6 h7 h8
  rw [dOK_true ⟨h0, h1, h2, h3, h4, h5, (of_inB h6).1, (of_inB h6).2, h7, h8⟩]
  exact sOK_any_9 v d w hv h0 h1 h2 h3 h4 h5 h6 h7 h8

end Go.Proofs.YthnbaeamekolmaaGreatDoor
