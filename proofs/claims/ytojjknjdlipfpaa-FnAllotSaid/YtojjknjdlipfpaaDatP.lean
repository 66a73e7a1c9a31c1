/- What the operations on a script's data come to; spec's push. -/
import Derived.Test.YtojjknjdlipfpaaDatD
import Derived.Test.YtojjknjdlipfpaaDatO
namespace Go.Proofs.Ytojjknjdlipfpaa
open Go.RowKit
set_option linter.unusedVariables false
set_option linter.unusedSimpArgs false

/-- Push: the data, the throw, the code. -/
def dPush (d : Dt) (n : Int) : Dt × Int × Int :=
  if dOK d = false then (noDt, 0, 1) else if cellB n = false then (noDt, 0, 4) else if d.s.length = 32 then (d, -3, 0) else ({ d with s := d.s ++ [n] }, 0, 0)
/-- The top of the stack. -/
def topOf (d : Dt) : Int := d.s.getLastD 0
/-- Pop: the data, the top, the throw, the code. -/
def dPop (d : Dt) : Dt × Int × Int × Int :=
  if dOK d = false then (noDt, 0, 0, 1) else if d.s.length = 0 then (d, 0, -4, 0) else ({ d with s := d.s.dropLast }, topOf d, 0, 0)
/-- The place of an address. -/
def dPlace (d : Dt) (x : Int) : Option Nat := if 4096 ≤ x ∧ x < 4096 + 4 * d.h ∧ x % 4 = 0 then some ((x - 4096) / 4).toNat else none
/-- Fetch: the cell, the throw, the code. -/
def dFetch (d : Dt) (x : Int) : Int × Int × Int :=
  if dOK d = false then (0, 0, 1) else match dPlace d x with | none => (0, -9, 0) | some k => (d.c.getD k 0, 0, 0)
/-- Store. -/
def dStore (d : Dt) (x n : Int) : Dt × Int × Int :=
  if dOK d = false then (noDt, 0, 1) else if cellB n = false then (noDt, 0, 4) else match dPlace d x with | none => (d, -9, 0) | some k => ({ d with c := d.c.set k n }, 0, 0)
/-- Zeros at k places from a on. -/
def zeroN (c : List Int) (a k : Nat) : List Int := c.take a ++ (List.replicate k 0 ++ c.drop (a + k))
/-- Is the number of bytes a move of the end? -/
def goodMove (d : Dt) (n : Int) : Prop := n.tmod 4 = 0 ∧ 0 ≤ d.h + n.tdiv 4 ∧ d.h + n.tdiv 4 ≤ 32
instance (d : Dt) (n : Int) : Decidable (goodMove d n) := by unfold goodMove; infer_instance
/-- AllotCells. -/
def dAllot (d : Dt) (n : Int) : Dt × Int × Int :=
  if dOK d = false then (noDt, 0, 1) else if cellB n = false then (noDt, 0, 4) else if goodMove d n then ({ d with c := zeroN d.c d.h.toNat (n.tdiv 4).toNat, h := d.h + n.tdiv 4 }, 0, 0) else (d, -8, 0)
/-- Say. -/
def dSay (d : Dt) (t : ByteArray) : Dt × Int × Int :=
  if 65536 < t.size then (noDt, 0, 2) else if dOK d = false then (noDt, 0, 1) else if 300 < d.o.size + t.size then (d, -17, 0) else ({ d with o := d.o ++ t }, 0, 0)

theorem fine_small {d : Dt} (h : DtFine d) : SmallD d := by
  have h1 := fine_sl h; have h2 := fine_bl h; have h3 := fine_cl h; have h4 := fine_o h
  exact ⟨by omega, by omega, by omega, by omega⟩

/-- Data that reads, and one more result or two. -/
def ReadOf (w : World) (r : Dt) (rest : List Int) (e : Ending) (w' : World) : Prop := ∃ u, e = .returned (.tuple (u :: rest.map (Value.int .i64)).toArray) ∧ DatIn w' u r ∧ Below w.heap.size w w'

/-- Data handed back in memory of its own, and two or three results more. -/
def ResOf (w : World) (r : Dt) (rest : List Int) (e : Ending) (w' : World) : Prop := ∃ u, e = .returned (.tuple (u :: rest.map (Value.int .i64)).toArray) ∧ DatOf w' w.heap.size w'.heap.size u r ∧ Below w.heap.size w w'

/-- Data with another stack. -/
theorem datIn_stack {w : World} {A1 A2 A3 : Option Addr} {k1 k2 k3 n : Nat} {d : Dt} (h : DatIn w (.agg #[.slice A1 d.s.length k1, .slice A2 d.b.length k2, .slice A3 d.c.length k3, .int .i64 d.h, .int .i64 d.n, .string d.o]) d) {x : Value} {zs : List Int} (hx : Ints w x zs) :
    DatIn w (.agg #[x, .slice A2 d.b.length k2, .slice A3 d.c.length k3, .int .i64 d.h, .int .i64 d.n, .string d.o]) { d with s := zs } := by
  obtain ⟨x0, y0, z0, hv, h1, h2, h3, h4⟩ := h
  simp only [Value.agg.injEq, Array.mk.injEq, List.cons.injEq, and_true, true_and] at hv
  obtain ⟨rfl, rfl, rfl⟩ := hv
  exact ⟨_, _, _, rfl, hx, h2, h3, h4⟩

theorem datIn_cells {w : World} {A1 A2 A3 : Option Addr} {k1 k2 k3 n : Nat} {d : Dt} {h' : Int} (h : DatIn w (.agg #[.slice A1 d.s.length k1, .slice A2 d.b.length k2, .slice A3 d.c.length k3, .int .i64 d.h, .int .i64 d.n, .string d.o]) d) {x : Value} {zs : List Int} (hx : Ints w x zs) :
    DatIn w (.agg #[.slice A1 d.s.length k1, .slice A2 d.b.length k2, x, .int .i64 h', .int .i64 d.n, .string d.o]) { d with c := zs, h := h' } := by
  obtain ⟨x0, y0, z0, hv, h1, h2, h3, h4⟩ := h
  simp only [Value.agg.injEq, Array.mk.injEq, List.cons.injEq, and_true, true_and] at hv
  obtain ⟨rfl, rfl, rfl⟩ := hv
  exact ⟨_, _, _, rfl, h1, h2, hx, h4⟩

theorem datIn_out {w : World} {A1 A2 A3 : Option Addr} {k1 k2 k3 : Nat} {d : Dt} {t : ByteArray} (h : DatIn w (.agg #[.slice A1 d.s.length k1, .slice A2 d.b.length k2, .slice A3 d.c.length k3, .int .i64 d.h, .int .i64 d.n, .string d.o]) d) (ht : t.size ≤ maxLen) :
    DatIn w (.agg #[.slice A1 d.s.length k1, .slice A2 d.b.length k2, .slice A3 d.c.length k3, .int .i64 d.h, .int .i64 d.n, .string t]) { d with o := t } := by
  obtain ⟨x0, y0, z0, hv, h1, h2, h3, h4⟩ := h
  simp only [Value.agg.injEq, Array.mk.injEq, List.cons.injEq, and_true, true_and] at hv
  obtain ⟨rfl, rfl, rfl⟩ := hv
  exact ⟨_, _, _, rfl, h1, h2, h3, ht⟩

theorem ints_store {w : World} {base g i : Nat} {v u : Value} {zs : List Int} (h : Row w base v zs) (hg : g < base) : Ints (w.setCell ⟨g, i, none⟩ u) v zs := row_ints (row_store h hg)

/-- One number in a new block. -/
theorem ints_one (w : World) (n : Int) : Ints (w.alloc (.cells #[.int .i64 n] 3)) (.slice (some ⟨w.heap.size, 0, none⟩) 1 1) [n] :=
  row_ints (base := 0) (zs := [n]) (row_whole (whole_new w _ _) (Nat.zero_le _) (by unfold maxLen; simp))

set_option maxRecDepth 100000 in
set_option maxHeartbeats 2000000 in
theorem sPushFull_any (v : Value) (d : Dt) (n : Int) (w : World) (hv : DatIn w v d) (hf : d.s.length = 32) :
    Calls Try.prog 41 #[v, .int .i64 n] w (ReadOf w d [-3]) := by
  have HD := hv
  obtain ⟨A1, k1, A2, k2, A3, k3, rfl⟩ := datIn_form hv
  clear hv
  have t1 : ((d.s.length : Int) == 32) = true := by rw [hf]; rfl
  clear hf
  go_enter Try.func41, Try.ntmps41
  go_wp2
  refine bodyPost_ret (v := .tuple #[.agg #[.slice A1 d.s.length k1, .slice A2 d.b.length k2, .slice A3 d.c.length k3, .int .i64 d.h, .int .i64 d.n, .string d.o], .int .i64 (-3)]) (by simp [results, Try.results41, go_sem]) rfl ⟨_, rfl, ?_, ?_⟩
  · exact datIn_below HD (by repeat (first | with_reducible exact Below.refl _ _ | with_reducible refine below_alloc ?_ _))
  · repeat (first | with_reducible exact Below.refl _ _ | with_reducible refine below_alloc ?_ _)

set_option maxRecDepth 100000 in
set_option maxHeartbeats 2000000 in
theorem sPushMore_any (v : Value) (d : Dt) (n : Int) (w : World) (hv : DatIn w v d) (hs : SmallD d) (hf : d.s.length ≠ 32) :
    Calls Try.prog 41 #[v, .int .i64 n] w (ReadOf w { d with s := d.s ++ [n] } [0]) := by
  have HD := hv
  obtain ⟨A1, k1, A2, k2, A3, k3, rfl⟩ := datIn_form hv
  have HX : Hid (Ints w (.slice A1 d.s.length k1) d.s) := Lib.hid (by
    obtain ⟨x0, y0, z0, hv, h1, _⟩ := hv
    simp only [Value.agg.injEq, Array.mk.injEq, List.cons.injEq, and_true, true_and] at hv
    obtain ⟨rfl, rfl, rfl⟩ := hv
    exact h1)
  have Hs := Lib.hid hs
  clear hv hs
  have t1 : ((d.s.length : Int) == 32) = false := by rw [beq_eq_false_iff_ne]; omega
  clear hf
  go_enter Try.func41, Try.ntmps41
  go_wp2_with (first
    | (at_builtin; refine wpList_append_new rfl (.tmp 11) (.tmp 13) rfl rfl _ rfl (by simp) (.slice A1 d.s.length k1) d.s rfl (ints_below HX.out (below_alloc (below_alloc (Below.refl _ _) _) _)) (by have := Hs.out.1; omega) ?_
       intro B1 m1 w1 hr hb
       have B1' : Below w.heap.size w w1 := below_step (below_alloc (below_alloc (Below.refl _ _) _) _) hb
       have V1 := whole_b hb (whole_alloc (whole_new w _ _) _)
       have T1 := whole_b hb (whole_new1 w _ _ _)
       have R1 : Row w1 (w.heap.size + 1 + 1) (.slice B1 d.s.length m1) d.s := by simpa using hr
       clear hr hb)
    | (at_builtin; refine wpList_append_ints rfl (.tmp 14) (.tmp 16) rfl rfl (w.heap.size + 1 + 1) (.slice B1 d.s.length m1) d.s (row_alloc R1 _) _ [n] (ints_one _ _) rfl rfl (by have := Hs.out.1; simp; omega) (by have := whole_lt T1; simp; omega) ?_
       intro v2 w2 hr hg hat
       have hbk : Below (w.heap.size + 1 + 1) w1 w2 := ((Below.refl _ _).alloc (by have := whole_lt T1; omega) _).grown hg (by have := whole_lt T1; simp; omega) (fun k hk => (row_lt R1 k hk).1)
       have B2' : Below w.heap.size w w2 := B1'.trans (hbk.mono (by omega))
       have V2 := whole_keep V1 (hbk.block _ (by omega))
       have T2 := whole_keep T1 (hbk.block _ (by omega))
       obtain ⟨_, C1, j1, rfl, _⟩ := row_ints hr
       obtain ⟨c0, c1, c2, c3, c4, c5⟩ := six_cells V2
       obtain ⟨r0, r1, r2, r3, r4, r5⟩ := six_cells T2
       have f0 := whole_free V2 0
       have fr := whole_free T2
       clear hg hat))
  refine bodyPost_ret (v := .tuple #[.agg #[.slice C1 (d.s ++ [n]).length j1, .slice A2 d.b.length k2, .slice A3 d.c.length k3, .int .i64 d.h, .int .i64 d.n, .string d.o], .int .i64 0]) (by simp [results, Try.results41, go_sem, *]) rfl ⟨_, rfl, ?_, ?_⟩
  · refine datIn_stack (n := 0) (k1 := k1) (A1 := A1) (datIn_below HD ?_) (row_ints (base := w.heap.size + 1 + 1) ?_)
    · repeat (first | with_reducible exact B2' | with_reducible refine Below.setCell ?_ (by simp) _)
    · repeat (first | with_reducible exact hr | ((with_reducible refine row_store ?_ ?hh); case hh => omega))
  · repeat (first | with_reducible exact B2' | with_reducible refine Below.setCell ?_ (by simp) _)

end Go.Proofs.Ytojjknjdlipfpaa
