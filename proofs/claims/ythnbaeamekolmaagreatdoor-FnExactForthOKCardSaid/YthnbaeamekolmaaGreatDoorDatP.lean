/- What the operations on a script's data come to; spec's push. -/
import Derived.Test.YthnbaeamekolmaaGreatDoorDatD
import Derived.Test.YthnbaeamekolmaaGreatDoorDatO
namespace Go.Proofs.YthnbaeamekolmaaGreatDoor
open Go.RowKit
set_option linter.unusedVariables false
set_option linter.unusedSimpArgs false

/-- Push: the data, the throw, the code. -/
def dPush (d : Dt) (n : Int) : Dt × Int × Int :=
  if dOK d = false then (noDt, 0, 1) else if cellB n = false then (noDt, 0, 4) else if d.s.length = 32 then (d, -3, 0) else ({ d with s := d.s ++ [n] }, 0, 0)
/-- The top of the stack. -/
def topOf (d : Dt) : Int := d.s.getLastD 0
/-- Pop: the data, the top, the throw, the code. -/
def dPop (d : Dt) : Dt × Int × Int × Int :=
  if dOK d = false then (noDt, 0, 0, 1) else if d.s.length = 0 then (d, 0, -4, 0) else ({ d with s := d.s.dropLast }, topOf d, 0, 0)
/-- The place of an address. -/
def dPlace (d : Dt) (x : Int) : Option Nat := if 4096 ≤ x ∧ x < 4096 + 4 * d.h ∧ x % 4 = 0 then some ((x - 4096) / 4).toNat else none
/-- Fetch: the cell, the throw, the code. -/
def dFetch (d : Dt) (x : Int) : Int × Int × Int :=
  if dOK d = false then (0, 0, 1) else match dPlace d x with | none => (0, -9, 0) | some k => (d.c.getD k 0, 0, 0)
/-- Store. -/
def dStore (d : Dt) (x n : Int) : Dt × Int × Int :=
  if dOK d = false then (noDt, 0, 1) else if cellB n = false then (noDt, 0, 4) else match dPlace d x with | none => (d, -9, 0) | some k => ({ d with c := d.c.set k n }, 0, 0)
/-- Zeros at k places from a on. -/
def zeroN (c : List Int) (a k : Nat) : List Int := c.take a ++ (List.replicate k 0 ++ c.drop (a + k))
/-- Is the number of bytes a move of the end? -/
def goodMove (d : Dt) (n : Int) : Prop := n.tmod 4 = 0 ∧ 0 ≤ d.h + n.tdiv 4 ∧ d.h + n.tdiv 4 ≤ 32
instance (d : Dt) (n : Int) : Decidable (goodMove d n) := by unfold goodMove; infer_instance
/-- AllotCells. -/
def dAllot (d : Dt) (n : Int) : Dt × Int × Int :=
  if dOK d = false then (noDt, 0, 1) else if cellB n = false then (noDt, 0, 4) else if goodMove d n then ({ d with c := zeroN d.c d.h.toNat (n.tdiv 4).toNat, h := d.h + n.tdiv 4 }, 0, 0) else (d, -8, 0)
/-- Say. -/
def dSay (d : Dt) (t : ByteArray) : Dt × Int × Int :=
  if 65536 < t.size then (noDt, 0, 2) else if dOK d = false then (noDt, 0, 1) else if 300 < d.o.size + t.size then (d, -17, 0) else ({ d with o := d.o ++ t }, 0, 0)

theorem fine_small {d : Dt} (h : DtFine d) : SmallD d := by
  have h1 := fine_sl h; have h2 := fine_bl h; have h3 := fine_cl h; have h4 := fine_o h
  exact ⟨by omega, by omega, by omega, by omega⟩

/-- Data that reads, and one more result or two. -/
def ReadOf (w : World) (r : Dt) (rest : List Int) (e : Ending) (w' : World) : Prop := ∃ u, e = .returned (.tuple (u :: rest.map (Value.int .i64)).toArray) ∧ DatIn w' u r ∧ Below w.heap.size w w'

/-- Data handed back in memory of its own, and two or three results more. -/
def ResOf (w : World) (r : Dt) (rest : List Int) (e : Ending) (w' : World) : Prop := ∃ u, e = .returned (.tuple (u :: rest.map (Value.int .i64)).toArray) ∧ DatOf w' w.heap.size w'.heap.size u r ∧ Below w.heap.size w w'

/-- Data with another stack. -/
theorem datIn_stack {w : World} {A1 A2 A3 : Option Addr} {k1 k2 k3 n : Nat} {d : Dt} (h : DatIn w (.agg #[.slice A1 d.s.length k1, .slice A2 d.b.length k2, .slice A3 d.c.length k3, .int .i64 d.h, .int .i64 d.n, .string d.o]) d) {x : Value} {zs : List Int} (hx : Ints w x zs) :
    DatIn w (.agg #[x, .slice A2 d.b.length k2, .slice A3 d.c.length k3, .int .i64 d.h, .int .i64 d.n, .string d.o]) { d with s := zs } := by
  obtain ⟨x0, y0, z0, hv, h1, h2, h3, h4⟩ := h
  simp only [Value.agg.injEq, Array.mk.injEq, List.cons.injEq, and_true, true_and] at hv
  obtain ⟨rfl, rfl, rfl⟩ := hv
  exact ⟨_, _, _, rfl, hx, h2, h3, h4⟩

theorem datIn_cells {w : World} {A1 A2 A3 : Option Addr} {k1 k2 k3 n : Nat} {d : Dt} {h' : Int} (h : DatIn w (.agg #[.slice A1 d.s.length k1, .slice A2 d.b.length k2, .slice A3 d.c.length k3, .int .i64 d.h, .int .i64 d.n, .string d.o]) d) {x : Value} {zs : List Int} (hx : Ints w x zs) :
    DatIn w (.agg #[.slice A1 d.s.length k1, .slice A2 d.b.length k2, x, .int .i64 h', .int .i64 d.n, .string d.o]) { d with c := zs, h := h' } := by
  obtain ⟨x0, y0, z0, hv, h1, h2, h3, h4⟩ := h
  simp only [Value.agg.injEq, Array.mk.injEq, List.cons.injEq, and_true, true_and] at hv
  obtain ⟨rfl, rfl, rfl⟩ := hv
  exact ⟨_, _, _, rfl, h1, h2, hx, h4⟩

theorem datIn_out {w : World} {A1 A2 A3 : Option Addr} {k1 k2 k3 : Nat} {d : Dt} {t : ByteArray} (h : DatIn w (.agg #[.slice A1 d.s.length k1, .slice A2 d.b.length k2, .slice A3 d.c.length k3, .int .i64 d.h, .int .i64 d.n, .string d.o]) d) (ht : t.size ≤ maxLen) :
    DatIn w (.agg #[.slice A1 d.s.length k1, .slice A2 d.b.length k2, .slice A3 d.c.length k3, .int .i64 d.h, .int .i64 d.n, .string t]) { d with o := t } := by
  obtain ⟨x0, y0, z0, hv, h1, h2, h3, h4⟩ := h
  simp only [Value.agg.injEq, Array.mk.injEq, List.cons.injEq, and_true, true_and] at hv
  obtain ⟨rfl, rfl, rfl⟩ := hv
  exact ⟨_, _, _, rfl, h1, h2, h3, ht⟩

theorem ints_store {w : World} {base g i : Nat} {v u : Value} {zs : List Int} (h : Row w base v zs) (hg : g < base) : Ints (w.setCell ⟨g, i, none⟩ u) v zs := row_ints (row_store h hg)

/-- One number in a new block. -/
theorem ints_one (w : World) (n : Int) : Ints (w.alloc (.cells #[.int .i64 n] 3)) (.slice (some ⟨w.heap.size, 0, none⟩) 1 1) [n] :=
  row_ints (base := 0) (zs := [n]) (row_whole (whole_new w _ _) (Nat.zero_le _) (by unfold maxLen; simp))

end Go.Proofs.YthnbaeamekolmaaGreatDoor
