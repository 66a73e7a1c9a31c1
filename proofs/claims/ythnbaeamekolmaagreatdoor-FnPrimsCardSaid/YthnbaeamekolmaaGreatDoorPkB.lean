/- PkB: several of my texts, laid together: DatA, DatB, DatC, DatD, DatL, DatO, DatP. -/
import Derived.Test.YthnbaeamekolmaaGreatDoorPkA
import Derived.Laws.Tables
import Derived.Lib.SmallJoins
import Derived.ProofKit
import Derived.OpenShut
import Derived.ChangeOld
namespace Go.Proofs.YthnbaeamekolmaaGreatDoor
open Go.RowKit
set_option linter.unusedVariables false
set_option linter.unusedSimpArgs false

/-- A script's data: the stacks, the cells, how many are allotted, the base, the output. -/
structure Dt where
  s : List Int
  b : List Int
  c : List Int
  h : Int
  n : Int
  o : ByteArray

/-- No block is both's. -/
def Parted (x y : Value) : Prop := ∀ g, x.ownBlock = some g → y.ownBlock ≠ some g

/-- The value reads as this data. -/
def DatIn (w : World) (v : Value) (d : Dt) : Prop :=
  ∃ x y z, v = .agg #[x, y, z, .int .i64 d.h, .int .i64 d.n, .string d.o] ∧ Ints w x d.s ∧ Ints w y d.b ∧ Ints w z d.c ∧ d.o.size ≤ maxLen

/-- The value is this data, its rows in blocks of their own from lo on and below hi. -/
def DatOf (w : World) (lo hi : Nat) (v : Value) (d : Dt) : Prop :=
  ∃ x y z, v = .agg #[x, y, z, .int .i64 d.h, .int .i64 d.n, .string d.o] ∧ Row w lo x d.s ∧ Row w lo y d.b ∧ Row w lo z d.c ∧ d.o.size ≤ maxLen ∧ Parted x y ∧ Parted x z ∧ Parted y z ∧
    ∀ g, x.ownBlock = some g ∨ y.ownBlock = some g ∨ z.ownBlock = some g → g < hi

/-- Blocks that were there turn from lo to hi alone. -/
structure Within (lo hi : Nat) (w w' : World) : Prop where
  os : w'.os = w.os
  tape : w'.tape = w.tape
  output : w'.output = w.output
  size : w.heap.size ≤ w'.heap.size
  block : ∀ k, k < w.heap.size → (k < lo ∨ hi ≤ k) → w'.heap[k]? = w.heap[k]?

theorem within_below {lo hi : Nat} {w w' : World} (h : Within lo hi w w') (hl : lo ≤ w.heap.size) : Below lo w w' := ⟨h.os, h.tape, h.output, h.size, fun k hk => h.block k (by omega) (.inl hk)⟩

theorem below_within {lo hi : Nat} {w w' : World} (h : Below w.heap.size w w') : Within lo hi w w' := ⟨h.os, h.tape, h.output, h.size, fun k hk _ => h.block k hk⟩

theorem within_trans {lo hi : Nat} {a b c : World} (h : Within lo hi a b) (k : Within lo hi b c) : Within lo hi a c :=
  ⟨k.os.trans h.os, k.tape.trans h.tape, k.output.trans h.output, Nat.le_trans h.size k.size, fun i hi' ho => (k.block i (Nat.lt_of_lt_of_le hi' h.size) ho).trans (h.block i hi' ho)⟩

theorem within_grown {lo hi : Nat} {w w' : World} {r : Option Nat} (h : w.grownBy w' r) (hr : ∀ g, r = some g → lo ≤ g ∧ g < hi) : Within lo hi w w' :=
  ⟨h.os, h.tape, h.output, h.size, fun k hk ho => h.block k hk (fun e => by have := hr k e.symm; omega)⟩

theorem below_step {a b c : World} (h : Below a.heap.size a b) (k : Below b.heap.size b c) : Below a.heap.size a c := h.trans (k.mono h.size)

theorem below_alloc {a b : World} (h : Below a.heap.size a b) (o : Obj) : Below a.heap.size a (b.alloc o) := h.alloc h.size o

theorem below_drewN {B : Nat} {a b : World} (h : Below B a b) (n : Nat) : Below B a (b.drewN n) := ⟨h.os, h.tape, h.output, h.size, h.block⟩

theorem parted_sym {x y : Value} (h : Parted x y) : Parted y x := fun g hg hx => h g hx hg

theorem parted_nil (x : Value) : Parted (.slice none 0 0) x := fun g hg => by simp [Value.ownBlock] at hg

/-- A row that was there, and one made since. -/
theorem parted_later {w w' : World} {lo : Nat} {x y : Value} {p q : List Int} (h : Row w lo x p) (k : Row w' w.heap.size y q) : Parted x y := fun g hg hy => by
  have h1 := row_lt h g hg
  have h2 := row_lt k g hy
  omega

theorem datIn_keep {w w' : World} {v : Value} {d : Dt} (h : DatIn w v d) (hk : ∀ (x : Addr) (u : Value), w.cell? x = some u → w'.cell? x = some u) : DatIn w' v d := by
  obtain ⟨x, y, z, hv, h1, h2, h3, h4⟩ := h
  exact ⟨x, y, z, hv, ints_keep h1 hk, ints_keep h2 hk, ints_keep h3 hk, h4⟩

theorem datIn_below {w w' : World} {v : Value} {d : Dt} (h : DatIn w v d) (hb : Below w.heap.size w w') : DatIn w' v d :=
  datIn_keep h fun x u hx => by rw [hb.cell (World.block_lt_of_cell? w x hx)]; exact hx

theorem datOf_in {w : World} {lo hi : Nat} {v : Value} {d : Dt} (h : DatOf w lo hi v d) : DatIn w v d := by
  obtain ⟨x, y, z, hv, h1, h2, h3, h4, _⟩ := h
  exact ⟨x, y, z, hv, row_ints h1, row_ints h2, row_ints h3, h4⟩

theorem datOf_keep {w w' : World} {lo hi : Nat} {v : Value} {d : Dt} (h : DatOf w lo hi v d) (hk : ∀ g, g < w.heap.size → lo ≤ g → g < hi → w'.heap[g]? = w.heap[g]?) : DatOf w' lo hi v d := by
  obtain ⟨x, y, z, hv, h1, h2, h3, h4, p1, p2, p3, hh⟩ := h
  exact ⟨x, y, z, hv, row_keep h1 fun g hg => hk g (row_lt h1 g hg).2 (row_lt h1 g hg).1 (hh g (.inl hg)), row_keep h2 fun g hg => hk g (row_lt h2 g hg).2 (row_lt h2 g hg).1 (hh g (.inr (.inl hg))),
    row_keep h3 fun g hg => hk g (row_lt h3 g hg).2 (row_lt h3 g hg).1 (hh g (.inr (.inr hg))), h4, p1, p2, p3, hh⟩

theorem datOf_below {w w' : World} {lo hi : Nat} {v : Value} {d : Dt} (h : DatOf w lo hi v d) (hb : Below w.heap.size w w') : DatOf w' lo hi v d := datOf_keep h fun g hg _ _ => hb.block g hg

theorem datOf_within {w w' : World} {lo hi lo' hi' : Nat} {v : Value} {d : Dt} (h : DatOf w lo hi v d) (hb : Within lo' hi' w w') (ha : hi ≤ lo' ∨ hi' ≤ lo) : DatOf w' lo hi v d :=
  datOf_keep h fun g hg h1 h2 => hb.block g hg (by omega)

theorem datOf_base {w : World} {lo lo' hi : Nat} {v : Value} {d : Dt} (h : DatOf w lo hi v d) (hl : lo' ≤ lo) : DatOf w lo' hi v d := by
  obtain ⟨x, y, z, hv, h1, h2, h3, h4, p⟩ := h
  exact ⟨x, y, z, hv, row_base h1 hl, row_base h2 hl, row_base h3 hl, h4, p⟩

theorem datOf_top {w : World} {lo hi hi' : Nat} {v : Value} {d : Dt} (h : DatOf w lo hi v d) (hl : hi ≤ hi') : DatOf w lo hi' v d := by
  obtain ⟨x, y, z, hv, h1, h2, h3, h4, p1, p2, p3, hh⟩ := h
  exact ⟨x, y, z, hv, h1, h2, h3, h4, p1, p2, p3, fun g hg => Nat.lt_of_lt_of_le (hh g hg) hl⟩

/-- Three rows, made one after another. -/
theorem datOf_rows {w : World} {lo : Nat} {x y z : Value} {d : Dt} (h1 : Row w lo x d.s) (h2 : Row w lo y d.b) (h3 : Row w lo z d.c) (h4 : d.o.size ≤ maxLen) (p1 : Parted x y) (p2 : Parted x z) (p3 : Parted y z) :
    DatOf w lo w.heap.size (.agg #[x, y, z, .int .i64 d.h, .int .i64 d.n, .string d.o]) d :=
  ⟨x, y, z, rfl, h1, h2, h3, h4, p1, p2, p3, fun g hg => by
    rcases hg with hg | hg | hg
    · exact (row_lt h1 g hg).2
    · exact (row_lt h2 g hg).2
    · exact (row_lt h3 g hg).2⟩

/-- No data. -/
def noDt : Dt := ⟨[], [], [], 0, 0, ByteArray.empty⟩

theorem datOf_none (w : World) (lo hi : Nat) : DatOf w lo hi (.agg #[.slice none 0 0, .slice none 0 0, .slice none 0 0, .int .i64 0, .int .i64 0, .string ByteArray.empty]) noDt :=
  ⟨_, _, _, rfl, row_nil w lo, row_nil w lo, row_nil w lo, by decide, parted_nil _, parted_nil _, parted_nil _, fun g hg => by simp [Value.ownBlock] at hg⟩

theorem size_dt : (Tryz.prog.info? 40).map (·.size) = some 6 := by kernel_rfl

theorem wpList_load_dt {ops : Array Oper} {rest : List Oper} {o : Oper} {a : Act} {w : World} {Q : Exit → Act → World → Prop} (hgd : o.guard = none) (x : Operand) (ho : o.op = .load 40 x)
    (g : Nat) (hx : a.eval x = .pointer (some ⟨g, 0, none⟩)) (t : TypeId) (c0 c1 c2 c3 c4 c5 : Value) (hg : Whole w g t #[c0, c1, c2, c3, c4, c5])
    (h : wpList Tryz.prog ops Q rest (a.put o.dst (.agg #[c0, c1, c2, c3, c4, c5])) w) : wpList Tryz.prog ops Q (o :: rest) a w :=
  wpList_load_row hgd 40 x ho g hx t _ (0, 0) _ hg Tryz.underlying40 rfl size_dt h

theorem results_dt {fn : Func} {p : Tmp} (h : fn.results = #[.cell p 40]) (tmps : Array Value) (w : World) (g : Nat) (t : TypeId) (c0 c1 c2 c3 c4 c5 : Value)
    (hp : tmps.getD p undef = .pointer (some ⟨g, 0, none⟩)) (hg : Whole w g t #[c0, c1, c2, c3, c4, c5]) : (results fn tmps).run Tryz.prog w = .ok (.agg #[c0, c1, c2, c3, c4, c5]) w :=
  results_cell_row h tmps w g t _ (0, 0) _ hp hg Tryz.underlying40 rfl size_dt

/-- The data is small. -/
def SmallD (d : Dt) : Prop := d.s.length ≤ 1048576 ∧ d.b.length ≤ 1048576 ∧ d.c.length ≤ 1048576 ∧ d.o.size ≤ 1048576

/-- What is left of a size: below 0, or the data is small. -/
def SzOf (w : World) (d : Dt) (e : Ending) (w' : World) : Prop := ∃ r : Int, e = .returned (.int .i64 r) ∧ (r = -1 ∨ (0 ≤ r ∧ r ≤ 1048576 ∧ SmallD d)) ∧ Below w.heap.size w w'

set_option maxRecDepth 100000 in
set_option maxHeartbeats 1000000 in
theorem szData_any (v : Value) (d : Dt) (left : Int) (w : World) (hv : DatIn w v d) (h0 : 0 ≤ left) (h1 : left ≤ 1048576) :
    Calls Tryz.prog 28 #[v, .int .i64 left] w (SzOf w d) := by
  obtain ⟨x, y, z, rfl, ⟨ls, A, ca, rfl, _⟩, ⟨lb, B, cb, rfl, _⟩, ⟨lc, C, cc, rfl, _⟩, lo⟩ := hv
  have Ls := Lib.hid ls
  have Lb := Lib.hid lb
  have Lc := Lib.hid lc
  unfold maxLen at ls lb lc lo
  have SM : Hid (SmallD d ↔ d.s.length ≤ 1048576 ∧ d.b.length ≤ 1048576 ∧ d.c.length ≤ 1048576 ∧ d.o.size ≤ 1048576) := Lib.hid Iff.rfl
  by_cases t1 : left - d.s.length < 0
  · have e1 : leftOf left d.s.length = -1 := by unfold leftOf; rw [if_pos t1]
    go_enter Tryz.func28, Tryz.ntmps28
    go_wp2_with (go_at_call 72; refine (szInts_any _ _ _ _ _ (by first | exact Ls.out | exact Lb.out | exact Lc.out) (by omega) (by omega)).mono ?_; rintro e w' ⟨rfl, rfl⟩)
    go_ret
    exact ⟨_, rfl, .inl rfl, below_alloc (Below.refl _ _) _⟩
  · have e1 : leftOf left d.s.length = left - d.s.length := by unfold leftOf; rw [if_neg t1]
    have q1 : 0 ≤ left - d.s.length := by omega
    by_cases t2 : left - d.s.length - d.b.length < 0
    · have e2 : leftOf (left - d.s.length) d.b.length = -1 := by unfold leftOf; rw [if_pos t2]
      go_enter Tryz.func28, Tryz.ntmps28
      go_wp2_with (go_at_call 72; refine (szInts_any _ _ _ _ _ (by first | exact Ls.out | exact Lb.out | exact Lc.out) (by omega) (by omega)).mono ?_; rintro e w' ⟨rfl, rfl⟩)
      go_ret
      exact ⟨_, rfl, .inl rfl, below_alloc (Below.refl _ _) _⟩
    · have e2 : leftOf (left - d.s.length) d.b.length = left - d.s.length - d.b.length := by unfold leftOf; rw [if_neg t2]
      have q2 : 0 ≤ left - d.s.length - d.b.length := by omega
      by_cases t3 : left - d.s.length - d.b.length - d.c.length < 0
      · have e3 : leftOf (left - d.s.length - d.b.length) d.c.length = -1 := by unfold leftOf; rw [if_pos t3]
        go_enter Tryz.func28, Tryz.ntmps28
        go_wp2_with (go_at_call 72; refine (szInts_any _ _ _ _ _ (by first | exact Ls.out | exact Lb.out | exact Lc.out) (by omega) (by omega)).mono ?_; rintro e w' ⟨rfl, rfl⟩)
        go_ret
        exact ⟨_, rfl, .inl rfl, below_alloc (Below.refl _ _) _⟩
      · have e3 : leftOf (left - d.s.length - d.b.length) d.c.length = left - d.s.length - d.b.length - d.c.length := by unfold leftOf; rw [if_neg t3]
        have q3 : 0 ≤ left - d.s.length - d.b.length - d.c.length := by omega
        by_cases t4 : left - d.s.length - d.b.length - d.c.length - d.o.size < 0
        all_goals
          go_enter Tryz.func28, Tryz.ntmps28
          go_wp2_with (go_at_call 72; refine (szInts_any _ _ _ _ _ (by first | exact Ls.out | exact Lb.out | exact Lc.out) (by omega) (by omega)).mono ?_; rintro e w' ⟨rfl, rfl⟩)
          go_ret
        · exact ⟨_, rfl, .inl rfl, below_alloc (Below.refl _ _) _⟩
        · exact ⟨_, rfl, .inr ⟨by omega, by omega, SM.out.2 ⟨by omega, by omega, by omega, by omega⟩⟩, below_alloc (Below.refl _ _) _⟩

end Go.Proofs.YthnbaeamekolmaaGreatDoor

namespace Go.Proofs.YthnbaeamekolmaaGreatDoor
open Go.RowKit
set_option linter.unusedVariables false
set_option linter.unusedSimpArgs false

theorem whole_new1 (w : World) (o : Obj) (t : TypeId) (cs : Array Value) : Whole ((w.alloc o).alloc (.cells cs t)) (w.heap.size + 1) t cs := by
  simpa using whole_new (w.alloc o) t cs

theorem whole_new2 (w : World) (o o' : Obj) (t : TypeId) (cs : Array Value) : Whole (((w.alloc o).alloc o').alloc (.cells cs t)) (w.heap.size + 1 + 1) t cs := by
  simpa using whole_new ((w.alloc o).alloc o') t cs

/-- A row apart from a block below its base stays when that block is written. -/
theorem row_store {w : World} {lo g i : Nat} {v u : Value} {zs : List Int} (h : Row w lo v zs) (hg : g < lo) : Row (w.setCell ⟨g, i, none⟩ u) lo v zs :=
  row_keep h fun k hk => Below.heap_setCell w _ u k (by have := row_lt h k hk; show k ≠ g; omega)

theorem below_base {a b : World} {n : Nat} (h : Below n a b) (hn : a.heap.size = n) : Below a.heap.size a b := by rw [hn]; exact h

set_option maxRecDepth 100000 in
set_option maxHeartbeats 2000000 in
theorem toData_any (v : Value) (d : Dt) (w : World) (hv : DatIn w v d) (hs : SmallD d) :
    Calls Tryz.prog 29 #[v] w fun e w' => ∃ u, e = .returned u ∧ DatOf w' w.heap.size w'.heap.size u d ∧ Below w.heap.size w w' := by
  obtain ⟨x, y, z, rfl, hx, hy, hz, lo⟩ := hv
  have Hx := Lib.hid hx
  have Hy := Lib.hid hy
  have Hz := Lib.hid hz
  have Hs := Lib.hid hs
  have Hl := Lib.hid lo
  clear hx hy hz hs lo
  go_enter Tryz.func29, Tryz.ntmps29
  go_wp2_with fail
  refine (toInts_any _ d.s _ (ints_below Hx.out (below_alloc (below_alloc (below_alloc (Below.refl _ _) _) _) _)) (by have := Hs.out.1; omega)).mono ?_
  rintro e w1 ⟨x', rfl, hr1, -, hb1⟩
  have z1 : w.heap.size + 1 + 1 + 1 ≤ w1.heap.size := by have := hb1.size; simp at this; omega
  have B1 : Hid (Below w.heap.size w w1) := Lib.hid (below_step (below_alloc (below_alloc (below_alloc (Below.refl _ _) _) _) _) hb1)
  have WA1 := Lib.hid (whole_below (whole_alloc (whole_alloc (whole_new w _ _) _) _) hb1)
  have WR1 := Lib.hid (whole_below (whole_alloc (whole_new1 w _ _ _) _) hb1)
  have WO1 := Lib.hid (whole_below (whole_new2 w _ _ _ _) hb1)
  obtain ⟨_, A1, k1, rfl, _⟩ := row_ints hr1
  have R1 : Hid (Row w1 (w.heap.size + 1 + 1 + 1) _ d.s) := Lib.hid (by simpa using hr1)
  have ca := whole_cell WA1.out 1
  have co := whole_cell WO1.out 0
  have fo := whole_free WO1.out 0
  simp only [List.getElem?_toArray, List.getElem?_cons_succ, List.getElem?_cons_zero] at ca co
  clear hr1 hb1
  go_wp2_with fail
  clear ca co fo
  have B1' := Lib.hid (B1.out.setCell (p := ⟨w.heap.size + 1 + 1, 0, none⟩) (by simp; omega) (.slice A1 d.s.length k1))
  refine (toInts_any _ d.b _ (ints_below Hy.out B1'.out) (by have := Hs.out.2.1; omega)).mono ?_
  rintro e w2 ⟨y', rfl, hr2, -, hb2⟩
  have R1' := Lib.hid (row_below (row_store R1.out (Nat.lt_succ_self _)) hb2)
  have z2 : w.heap.size + 1 + 1 + 1 ≤ w2.heap.size := by have := hb2.size; simp at this; omega
  have B2 : Hid (Below w.heap.size w w2) := Lib.hid (B1'.out.trans (hb2.mono B1'.out.size))
  have WA2 := Lib.hid (whole_below (whole_far WA1.out (p := ⟨w.heap.size + 1 + 1, 0, none⟩) (by simp; omega) (.slice A1 d.s.length k1)) hb2)
  have WR2 := Lib.hid (whole_below (whole_far WR1.out (p := ⟨w.heap.size + 1 + 1, 0, none⟩) (by simp) (.slice A1 d.s.length k1)) hb2)
  have WO2 := Lib.hid (whole_below (whole_set WO1.out 0 (.slice A1 d.s.length k1)) hb2)
  obtain ⟨_, A2, k2, rfl, _⟩ := row_ints hr2
  have P12 := Lib.hid (parted_later (row_store R1.out (Nat.lt_succ_self _)) hr2)
  have R2 : Hid (Row w2 (w.heap.size + 1 + 1 + 1) _ d.b) := Lib.hid (row_base hr2 (by simp; omega))
  have ca := whole_cell WA2.out 2
  have co := whole_cell WO2.out 1
  have fo := whole_free WO2.out 1
  clear hr2 hb2
  simp at ca co
  go_wp2_with fail
  clear ca co fo
  have B2' := Lib.hid (B2.out.setCell (p := ⟨w.heap.size + 1 + 1, 1, none⟩) (by simp; omega) (.slice A2 d.b.length k2))
  refine (toInts_any _ d.c _ (ints_below Hz.out B2'.out) (by have := Hs.out.2.2.1; omega)).mono ?_
  rintro e w3 ⟨z', rfl, hr3, -, hb3⟩
  have R1'' := Lib.hid (row_below (row_store R1'.out (Nat.lt_succ_self _)) hb3)
  have R2'' := Lib.hid (row_below (row_store R2.out (Nat.lt_succ_self _)) hb3)
  have z3 : w.heap.size + 1 + 1 + 1 ≤ w3.heap.size := by have := hb3.size; simp at this; omega
  have B3 : Hid (Below w.heap.size w w3) := Lib.hid (B2'.out.trans (hb3.mono B2'.out.size))
  have WA3 := Lib.hid (whole_below (whole_far WA2.out (p := ⟨w.heap.size + 1 + 1, 1, none⟩) (by simp; omega) (.slice A2 d.b.length k2)) hb3)
  have WR3 := Lib.hid (whole_below (whole_far WR2.out (p := ⟨w.heap.size + 1 + 1, 1, none⟩) (by simp) (.slice A2 d.b.length k2)) hb3)
  have WO3 := Lib.hid (whole_below (whole_set WO2.out 1 (.slice A2 d.b.length k2)) hb3)
  obtain ⟨_, A3, k3, rfl, _⟩ := row_ints hr3
  have P13 := Lib.hid (parted_later (row_store R1'.out (Nat.lt_succ_self _)) hr3)
  have P23 := Lib.hid (parted_later (row_store R2.out (Nat.lt_succ_self _)) hr3)
  have R3 : Hid (Row w3 (w.heap.size + 1 + 1 + 1) _ d.c) := Lib.hid (row_base hr3 (by simp; omega))
  have a3 := whole_cell WA3.out 3
  have a4 := whole_cell WA3.out 4
  have a5 := whole_cell WA3.out 5
  have o0 := whole_cell WO3.out 0
  have o1 := whole_cell WO3.out 1
  have o2 := whole_cell WO3.out 2
  have o3 := whole_cell WO3.out 3
  have o4 := whole_cell WO3.out 4
  have o5 := whole_cell WO3.out 5
  have r0 := whole_cell WR3.out 0
  have r1 := whole_cell WR3.out 1
  have r2 := whole_cell WR3.out 2
  have r3 := whole_cell WR3.out 3
  have r4 := whole_cell WR3.out 4
  have r5 := whole_cell WR3.out 5
  have fo := whole_free WO3.out
  have fr := whole_free WR3.out
  clear WA1 WR1 WO1 R1 B1 B1' WA2 WO2 WR2 R2 R1' B2 B2' hr3 hb3
  simp at a3 a4 a5 o0 o1 o2 o3 o4 o5 r0 r1 r2 r3 r4 r5
  go_wp2
  refine bodyPost_ret (v := .agg #[.slice A1 d.s.length k1, .slice A2 d.b.length k2, .slice A3 d.c.length k3, .int .i64 d.h, .int .i64 d.n, .string d.o]) (by simp [results, Tryz.results29, go_sem, *]) rfl ⟨_, rfl, datOf_top (datOf_base (datOf_rows (lo := w.heap.size + 1 + 1 + 1)
    (by repeat (first | with_reducible exact R1''.out | with_reducible refine row_store ?_ (by simp)))
    (by repeat (first | with_reducible exact R2''.out | with_reducible refine row_store ?_ (by simp)))
    (by repeat (first | with_reducible exact R3.out | with_reducible refine row_store ?_ (by simp))) Hl.out P12.out P13.out P23.out) (by omega)) (Nat.le_refl _), ?_⟩
  repeat (first | with_reducible exact B3.out | with_reducible refine Below.setCell ?_ (by simp; try omega) _)

end Go.Proofs.YthnbaeamekolmaaGreatDoor

namespace Go.Proofs.YthnbaeamekolmaaGreatDoor
open Go.RowKit
set_option linter.unusedVariables false
set_option linter.unusedSimpArgs false

theorem ints_draws {w : World} {v : Value} {zs : List Int} (h : Ints w v zs) (n : Nat) : Ints (w.drewN n) v zs := h

theorem boolOf_true {w : World} {zs : List Int} {e : Ending} {w' : World} (h : BoolOf w (zs == zs) e w') : ∃ n : Nat, e = .returned (.bool true) ∧ w' = w.drewN n := by
  obtain ⟨n, he, hw⟩ := h
  exact ⟨n, by rw [he]; simp, hw⟩

set_option maxRecDepth 100000 in
set_option maxHeartbeats 2000000 in
theorem eqData_same (u v : Value) (d : Dt) (w : World) (hu : DatIn w u d) (hv : DatIn w v d) :
    Calls Tryz.prog 30 #[u, v] w fun e w' => e = .returned (.bool true) ∧ Below w.heap.size w w' := by
  obtain ⟨x, y, z, rfl, hx, hy, hz, lo⟩ := hu
  obtain ⟨x', y', z', rfl, hx', hy', hz', lo'⟩ := hv
  have Hx := Lib.hid hx
  have Hy := Lib.hid hy
  have Hz := Lib.hid hz
  have Hx' := Lib.hid hx'
  have Hy' := Lib.hid hy'
  have Hz' := Lib.hid hz'
  have BB : Hid (∀ (o o' : Obj) (n : Nat), Below w.heap.size w (((w.alloc o).alloc o').drewN n)) := Lib.hid fun o o' n => below_drewN (below_alloc (below_alloc (Below.refl _ _) _) _) n
  have th : (d.h != d.h) = false := by simp
  have tn : (d.n != d.n) = false := by simp
  have to : (d.o.toList != d.o.toList) = false := by simp
  clear hx hy hz lo hx' hy' hz' lo'
  go_enter Tryz.func30, Tryz.ntmps30
  go_wp2_with fail
  refine (eqInts_any _ _ d.s d.s _ (ints_below Hx.out (BB.out _ _ 0)) (ints_below Hx'.out (BB.out _ _ 0))).mono ?_
  intro e w1 hr
  obtain ⟨n1, rfl, rfl⟩ := boolOf_true hr
  clear hr
  go_wp2_with fail
  refine (eqInts_any _ _ d.b d.b _ (ints_below Hy.out (BB.out _ _ _)) (ints_below Hy'.out (BB.out _ _ _))).mono ?_
  intro e w2 hr
  obtain ⟨n2, rfl, rfl⟩ := boolOf_true hr
  clear hr
  rw [World.drewN_drewN]
  go_wp2_with fail
  refine (eqInts_any _ _ d.c d.c _ (ints_below Hz.out (BB.out _ _ _)) (ints_below Hz'.out (BB.out _ _ _))).mono ?_
  intro e w3 hr
  obtain ⟨n3, rfl, rfl⟩ := boolOf_true hr
  clear hr
  rw [World.drewN_drewN]
  go_wp2
  go_ret
  exact ⟨rfl, BB.out _ _ _⟩

/-- The data with marks from K on in its rows. -/
def markD (K : Nat) (d : Dt) : Dt := ⟨marksI K d.s.length, marksI (K + d.s.length) d.b.length, marksI (K + d.s.length + d.b.length) d.c.length, d.h, d.n, d.o⟩

/-- How many numbers its rows have. -/
def numD (d : Dt) : Nat := d.s.length + d.b.length + d.c.length

theorem row_mark {w w' : World} {lo : Nat} {v u : Value} {zs : List Int} (h : Row w lo v zs) (hg : w.grownBy w' u.ownBlock) (hp : Parted v u) : Row w' lo v zs :=
  row_keep h fun g hv => hg.block g (row_lt h g hv).2 (fun e => hp g hv e.symm)

/-- What laying marks leaves. -/
def MarkDOf (w : World) (lo hi : Nat) (v : Value) (d : Dt) (K : Nat) (e : Ending) (w' : World) : Prop := e = .returned (.int .i64 ((K + numD d : Nat) : Int)) ∧ DatOf w' lo hi v (markD K d) ∧ Within lo hi w w'

set_option maxRecDepth 100000 in
set_option maxHeartbeats 2000000 in
theorem markData_any (v : Value) (d : Dt) (lo hi K : Nat) (w : World) (hv : DatOf w lo hi v d) (hs : SmallD d) (hK : K ≤ 1048576) (hh : hi ≤ w.heap.size) :
    Calls Tryz.prog 31 #[v, .int .i64 K] w (MarkDOf w lo hi v d K) := by
  obtain ⟨x, y, z, rfl, hx, hy, hz, lo', p1, p2, p3, ph⟩ := hv
  obtain ⟨s1, s2, s3, s4⟩ := hs
  have lx := ph
  have GX : Hid (∀ g, x.ownBlock = some g → lo ≤ g ∧ g < hi) := Lib.hid fun g hg => ⟨(row_lt hx g hg).1, ph g (.inl hg)⟩
  have GY : Hid (∀ g, y.ownBlock = some g → lo ≤ g ∧ g < hi) := Lib.hid fun g hg => ⟨(row_lt hy g hg).1, ph g (.inr (.inl hg))⟩
  have GZ : Hid (∀ g, z.ownBlock = some g → lo ≤ g ∧ g < hi) := Lib.hid fun g hg => ⟨(row_lt hz g hg).1, ph g (.inr (.inr hg))⟩
  have P1 := Lib.hid p1
  have P2 := Lib.hid p2
  have P3 := Lib.hid p3
  have PH := Lib.hid ph
  have L := Lib.hid lo'
  have W0 : Hid (∀ o : Obj, Within lo hi w (w.alloc o)) := Lib.hid fun o => below_within (below_alloc (Below.refl _ _) o)
  obtain ⟨_, A1, k1, rfl, _⟩ := row_ints hx
  obtain ⟨_, A2, k2, rfl, _⟩ := row_ints hy
  obtain ⟨_, A3, k3, rfl, _⟩ := row_ints hz
  have HX := Lib.hid hx
  have HY := Lib.hid hy
  have HZ := Lib.hid hz
  clear hx hy hz lo' p1 p2 p3 ph lx
  go_enter Tryz.func31, Tryz.ntmps31
  go_wp2_with fail
  have WB := Lib.hid (whole_new w 40 #[.slice A1 d.s.length k1, .slice A2 d.b.length k2, .slice A3 d.c.length k3, .int .i64 d.h, .int .i64 d.n, .string d.o])
  refine (markInts_any _ lo K d.s _ (row_alloc HX.out _) (by omega) (by omega)).mono ?_
  rintro e w1 ⟨rfl, hr1, hg1⟩
  have hne : some w.heap.size ≠ (Value.slice A1 d.s.length k1).ownBlock := fun e => by have := GX.out _ e.symm; omega
  have WB1 := Lib.hid (whole_keep WB.out (hg1.block _ (by simp) hne))
  have N1 := Lib.hid (within_trans (W0.out _) (within_grown hg1 GX.out))
  have X1 := Lib.hid hr1
  have Y1 := Lib.hid (row_mark (row_alloc HY.out _) hg1 (parted_sym P1.out))
  have Z1 := Lib.hid (row_mark (row_alloc HZ.out _) hg1 (parted_sym P2.out))
  have b1 := whole_cell WB1.out 1
  simp at b1
  clear hr1 hg1 hne
  go_wp2_with fail
  rw [show ((K : Int) + d.s.length) = ((K + d.s.length : Nat) : Int) by omega]
  refine (markInts_any _ lo (K + d.s.length) d.b _ Y1.out (by omega) (by omega)).mono ?_
  rintro e w2 ⟨rfl, hr2, hg2⟩
  have hne : some w.heap.size ≠ (Value.slice A2 d.b.length k2).ownBlock := fun e => by have := GY.out _ e.symm; omega
  have WB2 := Lib.hid (whole_keep WB1.out (hg2.block _ (whole_lt WB1.out) hne))
  have N2 := Lib.hid (within_trans N1.out (within_grown hg2 GY.out))
  have Y2 := Lib.hid hr2
  have X2 := Lib.hid (row_keep X1.out fun g hv => hg2.block g (row_lt X1.out g hv).2 (fun e => P1.out g hv e.symm))
  have Z2 := Lib.hid (row_mark Z1.out hg2 (parted_sym P3.out))
  have b2 := whole_cell WB2.out 2
  simp at b2
  clear hr2 hg2 hne b1
  go_wp2_with fail
  rw [show ((K : Int) + d.s.length + d.b.length) = ((K + d.s.length + d.b.length : Nat) : Int) by omega]
  refine (markInts_any _ lo (K + d.s.length + d.b.length) d.c _ Z2.out (by omega) (by omega)).mono ?_
  rintro e w3 ⟨rfl, hr3, hg3⟩
  have N3 := Lib.hid (within_trans N2.out (within_grown hg3 GZ.out))
  have Z3 := Lib.hid hr3
  have X3 := Lib.hid (row_keep X2.out fun g hv => hg3.block g (row_lt X2.out g hv).2 (fun e => P2.out g hv e.symm))
  have Y3 := Lib.hid (row_keep Y2.out fun g hv => hg3.block g (row_lt Y2.out g hv).2 (fun e => P3.out g hv e.symm))
  clear hr3 hg3 b2
  go_wp2
  go_ret
  refine ⟨ret_int (by unfold numD; omega), ⟨_, _, _, rfl, X3.out, Y3.out, Z3.out, L.out, P1.out, P2.out, P3.out, PH.out⟩, N3.out⟩

set_option maxRecDepth 100000 in
set_option maxHeartbeats 2000000 in
theorem heldData_any (v : Value) (d : Dt) (K : Nat) (w : World) (hv : DatIn w v (markD K d)) (hs : SmallD d) (hK : K ≤ 1048576) :
    Calls Tryz.prog 32 #[v, .int .i64 K] w fun e w' => e = .returned (.int .i64 ((K + numD d : Nat) : Int)) ∧ Below w.heap.size w w' := by
  obtain ⟨x, y, z, rfl, hx, hy, hz, lo'⟩ := hv
  obtain ⟨s1, s2, s3, s4⟩ := hs
  have BB : Hid (∀ (o : Obj), Below w.heap.size w (w.alloc o)) := Lib.hid fun o => below_alloc (Below.refl _ _) _
  have HX : Hid (Ints w x (marksI K d.s.length)) := Lib.hid hx
  have HY : Hid (Ints w y (marksI (K + d.s.length) d.b.length)) := Lib.hid hy
  have HZ : Hid (Ints w z (marksI (K + d.s.length + d.b.length) d.c.length)) := Lib.hid hz
  have e1 : ((K : Int) + d.s.length) = ((K + d.s.length : Nat) : Int) := by omega
  have e2 : ((K : Int) + d.s.length + d.b.length) = ((K + d.s.length + d.b.length : Nat) : Int) := by omega
  have E1 := Lib.hid e1
  have E2 := Lib.hid e2
  clear hx hy hz lo' e1 e2
  go_enter Tryz.func32, Tryz.ntmps32
  go_wp2_with fail
  refine (heldInts_any _ d.s.length K _ (ints_below HX.out (BB.out _)) (by omega) (by omega)).mono ?_
  rintro e w1 ⟨rfl, rfl⟩
  go_wp2_with fail
  rw [E1.out]
  refine (heldInts_any _ d.b.length (K + d.s.length) _ (ints_below HY.out (BB.out _)) (by omega) (by omega)).mono ?_
  rintro e w1 ⟨rfl, rfl⟩
  go_wp2_with fail
  rw [E2.out]
  refine (heldInts_any _ d.c.length (K + d.s.length + d.b.length) _ (ints_below HZ.out (BB.out _)) (by omega) (by omega)).mono ?_
  rintro e w1 ⟨rfl, rfl⟩
  go_wp2
  go_ret
  exact ⟨ret_int (by unfold numD; omega), BB.out _⟩

end Go.Proofs.YthnbaeamekolmaaGreatDoor

namespace Go.Proofs.YthnbaeamekolmaaGreatDoor
open Go.RowKit
set_option linter.unusedVariables false
set_option linter.unusedSimpArgs false

/-- A base. -/
def baseB (n : Int) : Bool := inB n 2 16

theorem of_inB {n a b : Int} (h : inB n a b = true) : a ≤ n ∧ n ≤ b := by unfold inB at h; simpa using h
theorem inB_of {n a b : Int} (h1 : a ≤ n) (h2 : n ≤ b) : inB n a b = true := by unfold inB; simp [h1, h2]
theorem of_inB_false {n a b : Int} (h : inB n a b = false) : n < a ∨ b < n := by unfold inB at h; simp at h; omega

/-- What valid data is. -/
def DtFine (d : Dt) : Prop := d.s.length ≤ 32 ∧ d.b.length ≤ 32 ∧ d.c.length = 32 ∧ cellsB d.s = true ∧ cellsB d.b = true ∧ cellsB d.c = true ∧ 0 ≤ d.h ∧ d.h ≤ 32 ∧ baseB d.n = true ∧ d.o.size ≤ 300

instance (d : Dt) : Decidable (DtFine d) := by unfold DtFine; infer_instance

def dOK (d : Dt) : Bool := decide (DtFine d)

theorem dOK_true {d : Dt} (h : DtFine d) : dOK d = true := by unfold dOK; exact decide_eq_true h
theorem dOK_false {d : Dt} (h : ¬ DtFine d) : dOK d = false := by unfold dOK; exact decide_eq_false h
theorem dOK_fine {d : Dt} (h : dOK d = true) : DtFine d := by unfold dOK at h; exact of_decide_eq_true h

theorem fine_sl {d : Dt} (h : DtFine d) : d.s.length ≤ 32 := h.1
theorem fine_bl {d : Dt} (h : DtFine d) : d.b.length ≤ 32 := h.2.1
theorem fine_cl {d : Dt} (h : DtFine d) : d.c.length = 32 := h.2.2.1
theorem fine_sc {d : Dt} (h : DtFine d) : cellsB d.s = true := h.2.2.2.1
theorem fine_bc {d : Dt} (h : DtFine d) : cellsB d.b = true := h.2.2.2.2.1
theorem fine_cc {d : Dt} (h : DtFine d) : cellsB d.c = true := h.2.2.2.2.2.1
theorem fine_h0 {d : Dt} (h : DtFine d) : 0 ≤ d.h := h.2.2.2.2.2.2.1
theorem fine_h1 {d : Dt} (h : DtFine d) : d.h ≤ 32 := h.2.2.2.2.2.2.2.1
theorem fine_hh {d : Dt} (h : DtFine d) : inB d.h 0 32 = true := inB_of (fine_h0 h) (fine_h1 h)
theorem fine_n {d : Dt} (h : DtFine d) : baseB d.n = true := h.2.2.2.2.2.2.2.2.1
theorem fine_o {d : Dt} (h : DtFine d) : d.o.size ≤ 300 := h.2.2.2.2.2.2.2.2.2

set_option maxHeartbeats 400000 in
theorem bsOK_any (a : Int) (w : World) :
    Calls Tryz.prog 69 #[.int .i64 a] w fun e w' => e = .returned (.bool (baseB a)) ∧ w = w' := by
  by_cases h : 2 ≤ a
  · by_cases h' : a ≤ 16
    · have E : Hid (baseB a = true) := Lib.hid (inB_of h h')
      go_enter Tryz.func69, Tryz.ntmps69
      go_wp2
      go_ret
      exact ⟨ret_bool (by rw [E.out]), rfl⟩
    · have E : Hid (baseB a = false) := Lib.hid (by unfold baseB inB; exact decide_eq_false (by omega))
      go_enter Tryz.func69, Tryz.ntmps69
      go_wp2
      go_ret
      exact ⟨ret_bool (by rw [E.out]), rfl⟩
  · have E : Hid (baseB a = false) := Lib.hid (by unfold baseB inB; exact decide_eq_false (by omega))
    go_enter Tryz.func69, Tryz.ntmps69
    go_wp2
    go_ret
    exact ⟨ret_bool (by rw [E.out]), rfl⟩

set_option maxHeartbeats 400000 in
theorem sBs_any (a : Int) (w : World) :
    Calls Tryz.prog 133 #[.int .i64 a] w fun e w' => e = .returned (.bool (baseB a)) ∧ w = w' := by
  go_enter Tryz.func133, Tryz.ntmps133
  go_wp2_with fail
  refine (sIn_any _ _ _ _).mono ?_
  rintro e w' ⟨rfl, rfl⟩
  go_wp2
  go_ret
  exact ⟨ret_bool rfl, rfl⟩

set_option maxRecDepth 100000 in
set_option maxHeartbeats 1000000 in
theorem dataOK_any_0 (v : Value) (d : Dt) (w : World) (hv : DatIn w v d) (h0 : ¬ d.s.length ≤ 32) :
    Calls Tryz.prog 22 #[v] w fun e w' => e = .returned (.bool false) ∧ Below w.heap.size w w' := by
  obtain ⟨x, y, z, rfl, hx, hy, hz, lo⟩ := hv
  have BB : Hid (∀ (o : Obj), Below w.heap.size w (w.alloc o)) := Lib.hid fun o => below_alloc (Below.refl _ _) _
  have HX : Hid (∀ o : Obj, Ints (w.alloc o) x d.s) := Lib.hid fun o => ints_below hx (BB.out _)
  have HY : Hid (∀ o : Obj, Ints (w.alloc o) y d.b) := Lib.hid fun o => ints_below hy (BB.out _)
  have HZ : Hid (∀ o : Obj, Ints (w.alloc o) z d.c) := Lib.hid fun o => ints_below hz (BB.out _)
  obtain ⟨l1, A1, k1, rfl, _⟩ := hx
  obtain ⟨l2, A2, k2, rfl, _⟩ := hy
  obtain ⟨l3, A3, k3, rfl, _⟩ := hz
  unfold maxLen at l1 l2 l3 lo
  go_enter Tryz.func22, Tryz.ntmps22
  go_wp2_with (first | (go_at_call 68; (first | (with_reducible refine (allCells_any _ d.s _ (HX.out _)).mono ?_) | (with_reducible refine (allCells_any _ d.b _ (HY.out _)).mono ?_) | (with_reducible refine (allCells_any _ d.c _ (HZ.out _)).mono ?_)); rintro e w' ⟨rfl, rfl⟩) | (go_at_call 69; refine (bsOK_any _ _).mono ?_; rintro e w' ⟨rfl, rfl⟩))
  go_ret
  exact ⟨rfl, BB.out _⟩

set_option maxRecDepth 100000 in
set_option maxHeartbeats 1000000 in
theorem dataOK_any_1 (v : Value) (d : Dt) (w : World) (hv : DatIn w v d) (h0 : d.s.length ≤ 32) (h1 : cellsB d.s = false) :
    Calls Tryz.prog 22 #[v] w fun e w' => e = .returned (.bool false) ∧ Below w.heap.size w w' := by
  obtain ⟨x, y, z, rfl, hx, hy, hz, lo⟩ := hv
  have BB : Hid (∀ (o : Obj), Below w.heap.size w (w.alloc o)) := Lib.hid fun o => below_alloc (Below.refl _ _) _
  have HX : Hid (∀ o : Obj, Ints (w.alloc o) x d.s) := Lib.hid fun o => ints_below hx (BB.out _)
  have HY : Hid (∀ o : Obj, Ints (w.alloc o) y d.b) := Lib.hid fun o => ints_below hy (BB.out _)
  have HZ : Hid (∀ o : Obj, Ints (w.alloc o) z d.c) := Lib.hid fun o => ints_below hz (BB.out _)
  obtain ⟨l1, A1, k1, rfl, _⟩ := hx
  obtain ⟨l2, A2, k2, rfl, _⟩ := hy
  obtain ⟨l3, A3, k3, rfl, _⟩ := hz
  unfold maxLen at l1 l2 l3 lo
  go_enter Tryz.func22, Tryz.ntmps22
  go_wp2_with (first | (go_at_call 68; (first | (with_reducible refine (allCells_any _ d.s _ (HX.out _)).mono ?_) | (with_reducible refine (allCells_any _ d.b _ (HY.out _)).mono ?_) | (with_reducible refine (allCells_any _ d.c _ (HZ.out _)).mono ?_)); rintro e w' ⟨rfl, rfl⟩) | (go_at_call 69; refine (bsOK_any _ _).mono ?_; rintro e w' ⟨rfl, rfl⟩))
  go_ret
  exact ⟨rfl, BB.out _⟩

set_option maxRecDepth 100000 in
set_option maxHeartbeats 1000000 in
theorem dataOK_any_2 (v : Value) (d : Dt) (w : World) (hv : DatIn w v d) (h0 : d.s.length ≤ 32) (h1 : cellsB d.s = true) (h2 : ¬ d.b.length ≤ 32) :
    Calls Tryz.prog 22 #[v] w fun e w' => e = .returned (.bool false) ∧ Below w.heap.size w w' := by
  obtain ⟨x, y, z, rfl, hx, hy, hz, lo⟩ := hv
  have BB : Hid (∀ (o : Obj), Below w.heap.size w (w.alloc o)) := Lib.hid fun o => below_alloc (Below.refl _ _) _
  have HX : Hid (∀ o : Obj, Ints (w.alloc o) x d.s) := Lib.hid fun o => ints_below hx (BB.out _)
  have HY : Hid (∀ o : Obj, Ints (w.alloc o) y d.b) := Lib.hid fun o => ints_below hy (BB.out _)
  have HZ : Hid (∀ o : Obj, Ints (w.alloc o) z d.c) := Lib.hid fun o => ints_below hz (BB.out _)
  obtain ⟨l1, A1, k1, rfl, _⟩ := hx
  obtain ⟨l2, A2, k2, rfl, _⟩ := hy
  obtain ⟨l3, A3, k3, rfl, _⟩ := hz
  unfold maxLen at l1 l2 l3 lo
  go_enter Tryz.func22, Tryz.ntmps22
  go_wp2_with (first | (go_at_call 68; (first | (with_reducible refine (allCells_any _ d.s _ (HX.out _)).mono ?_) | (with_reducible refine (allCells_any _ d.b _ (HY.out _)).mono ?_) | (with_reducible refine (allCells_any _ d.c _ (HZ.out _)).mono ?_)); rintro e w' ⟨rfl, rfl⟩) | (go_at_call 69; refine (bsOK_any _ _).mono ?_; rintro e w' ⟨rfl, rfl⟩))
  go_ret
  exact ⟨rfl, BB.out _⟩

set_option maxRecDepth 100000 in
set_option maxHeartbeats 1000000 in
theorem dataOK_any_3 (v : Value) (d : Dt) (w : World) (hv : DatIn w v d) (h0 : d.s.length ≤ 32) (h1 : cellsB d.s = true) (h2 : d.b.length ≤ 32) (h3 : cellsB d.b = false) :
    Calls Tryz.prog 22 #[v] w fun e w' => e = .returned (.bool false) ∧ Below w.heap.size w w' := by
  obtain ⟨x, y, z, rfl, hx, hy, hz, lo⟩ := hv
  have BB : Hid (∀ (o : Obj), Below w.heap.size w (w.alloc o)) := Lib.hid fun o => below_alloc (Below.refl _ _) _
  have HX : Hid (∀ o : Obj, Ints (w.alloc o) x d.s) := Lib.hid fun o => ints_below hx (BB.out _)
  have HY : Hid (∀ o : Obj, Ints (w.alloc o) y d.b) := Lib.hid fun o => ints_below hy (BB.out _)
  have HZ : Hid (∀ o : Obj, Ints (w.alloc o) z d.c) := Lib.hid fun o => ints_below hz (BB.out _)
  obtain ⟨l1, A1, k1, rfl, _⟩ := hx
  obtain ⟨l2, A2, k2, rfl, _⟩ := hy
  obtain ⟨l3, A3, k3, rfl, _⟩ := hz
  unfold maxLen at l1 l2 l3 lo
  go_enter Tryz.func22, Tryz.ntmps22
  go_wp2_with (first | (go_at_call 68; (first | (with_reducible refine (allCells_any _ d.s _ (HX.out _)).mono ?_) | (with_reducible refine (allCells_any _ d.b _ (HY.out _)).mono ?_) | (with_reducible refine (allCells_any _ d.c _ (HZ.out _)).mono ?_)); rintro e w' ⟨rfl, rfl⟩) | (go_at_call 69; refine (bsOK_any _ _).mono ?_; rintro e w' ⟨rfl, rfl⟩))
  go_ret
  exact ⟨rfl, BB.out _⟩

set_option maxRecDepth 100000 in
set_option maxHeartbeats 1000000 in
theorem dataOK_any_4 (v : Value) (d : Dt) (w : World) (hv : DatIn w v d) (h0 : d.s.length ≤ 32) (h1 : cellsB d.s = true) (h2 : d.b.length ≤ 32) (h3 : cellsB d.b = true) (h4 : ¬ d.c.length = 32) :
    Calls Tryz.prog 22 #[v] w fun e w' => e = .returned (.bool false) ∧ Below w.heap.size w w' := by
  obtain ⟨x, y, z, rfl, hx, hy, hz, lo⟩ := hv
  have BB : Hid (∀ (o : Obj), Below w.heap.size w (w.alloc o)) := Lib.hid fun o => below_alloc (Below.refl _ _) _
  have HX : Hid (∀ o : Obj, Ints (w.alloc o) x d.s) := Lib.hid fun o => ints_below hx (BB.out _)
  have HY : Hid (∀ o : Obj, Ints (w.alloc o) y d.b) := Lib.hid fun o => ints_below hy (BB.out _)
  have HZ : Hid (∀ o : Obj, Ints (w.alloc o) z d.c) := Lib.hid fun o => ints_below hz (BB.out _)
  obtain ⟨l1, A1, k1, rfl, _⟩ := hx
  obtain ⟨l2, A2, k2, rfl, _⟩ := hy
  obtain ⟨l3, A3, k3, rfl, _⟩ := hz
  unfold maxLen at l1 l2 l3 lo
  have t4 : ((d.c.length : Int) == 32) = false := by rw [beq_eq_false_iff_ne]; omega
  clear h4
  go_enter Tryz.func22, Tryz.ntmps22
  go_wp2_with (first | (go_at_call 68; (first | (with_reducible refine (allCells_any _ d.s _ (HX.out _)).mono ?_) | (with_reducible refine (allCells_any _ d.b _ (HY.out _)).mono ?_) | (with_reducible refine (allCells_any _ d.c _ (HZ.out _)).mono ?_)); rintro e w' ⟨rfl, rfl⟩) | (go_at_call 69; refine (bsOK_any _ _).mono ?_; rintro e w' ⟨rfl, rfl⟩))
  go_ret
  exact ⟨rfl, BB.out _⟩

set_option maxRecDepth 100000 in
set_option maxHeartbeats 1000000 in
theorem dataOK_any_5 (v : Value) (d : Dt) (w : World) (hv : DatIn w v d) (h0 : d.s.length ≤ 32) (h1 : cellsB d.s = true) (h2 : d.b.length ≤ 32) (h3 : cellsB d.b = true) (h4 : d.c.length = 32) (h5 : cellsB d.c = false) :
    Calls Tryz.prog 22 #[v] w fun e w' => e = .returned (.bool false) ∧ Below w.heap.size w w' := by
  obtain ⟨x, y, z, rfl, hx, hy, hz, lo⟩ := hv
  have BB : Hid (∀ (o : Obj), Below w.heap.size w (w.alloc o)) := Lib.hid fun o => below_alloc (Below.refl _ _) _
  have HX : Hid (∀ o : Obj, Ints (w.alloc o) x d.s) := Lib.hid fun o => ints_below hx (BB.out _)
  have HY : Hid (∀ o : Obj, Ints (w.alloc o) y d.b) := Lib.hid fun o => ints_below hy (BB.out _)
  have HZ : Hid (∀ o : Obj, Ints (w.alloc o) z d.c) := Lib.hid fun o => ints_below hz (BB.out _)
  obtain ⟨l1, A1, k1, rfl, _⟩ := hx
  obtain ⟨l2, A2, k2, rfl, _⟩ := hy
  obtain ⟨l3, A3, k3, rfl, _⟩ := hz
  unfold maxLen at l1 l2 l3 lo
  have t4 : ((d.c.length : Int) == 32) = true := by rw [beq_iff_eq]; omega
  clear h4
  go_enter Tryz.func22, Tryz.ntmps22
  go_wp2_with (first | (go_at_call 68; (first | (with_reducible refine (allCells_any _ d.s _ (HX.out _)).mono ?_) | (with_reducible refine (allCells_any _ d.b _ (HY.out _)).mono ?_) | (with_reducible refine (allCells_any _ d.c _ (HZ.out _)).mono ?_)); rintro e w' ⟨rfl, rfl⟩) | (go_at_call 69; refine (bsOK_any _ _).mono ?_; rintro e w' ⟨rfl, rfl⟩))
  go_ret
  exact ⟨rfl, BB.out _⟩

set_option maxRecDepth 100000 in
set_option maxHeartbeats 1000000 in
theorem dataOK_any_6 (v : Value) (d : Dt) (w : World) (hv : DatIn w v d) (h0 : d.s.length ≤ 32) (h1 : cellsB d.s = true) (h2 : d.b.length ≤ 32) (h3 : cellsB d.b = true) (h4 : d.c.length = 32) (h5 : cellsB d.c = true) (h6 : ¬ 0 ≤ d.h) :
    Calls Tryz.prog 22 #[v] w fun e w' => e = .returned (.bool false) ∧ Below w.heap.size w w' := by
  obtain ⟨x, y, z, rfl, hx, hy, hz, lo⟩ := hv
  have BB : Hid (∀ (o : Obj), Below w.heap.size w (w.alloc o)) := Lib.hid fun o => below_alloc (Below.refl _ _) _
  have HX : Hid (∀ o : Obj, Ints (w.alloc o) x d.s) := Lib.hid fun o => ints_below hx (BB.out _)
  have HY : Hid (∀ o : Obj, Ints (w.alloc o) y d.b) := Lib.hid fun o => ints_below hy (BB.out _)
  have HZ : Hid (∀ o : Obj, Ints (w.alloc o) z d.c) := Lib.hid fun o => ints_below hz (BB.out _)
  obtain ⟨l1, A1, k1, rfl, _⟩ := hx
  obtain ⟨l2, A2, k2, rfl, _⟩ := hy
  obtain ⟨l3, A3, k3, rfl, _⟩ := hz
  unfold maxLen at l1 l2 l3 lo
  have t4 : ((d.c.length : Int) == 32) = true := by rw [beq_iff_eq]; omega
  clear h4
  go_enter Tryz.func22, Tryz.ntmps22
  go_wp2_with (first | (go_at_call 68; (first | (with_reducible refine (allCells_any _ d.s _ (HX.out _)).mono ?_) | (with_reducible refine (allCells_any _ d.b _ (HY.out _)).mono ?_) | (with_reducible refine (allCells_any _ d.c _ (HZ.out _)).mono ?_)); rintro e w' ⟨rfl, rfl⟩) | (go_at_call 69; refine (bsOK_any _ _).mono ?_; rintro e w' ⟨rfl, rfl⟩))
  go_ret
  exact ⟨rfl, BB.out _⟩

set_option maxRecDepth 100000 in
set_option maxHeartbeats 1000000 in
theorem dataOK_any_7 (v : Value) (d : Dt) (w : World) (hv : DatIn w v d) (h0 : d.s.length ≤ 32) (h1 : cellsB d.s = true) (h2 : d.b.length ≤ 32) (h3 : cellsB d.b = true) (h4 : d.c.length = 32) (h5 : cellsB d.c = true) (h6 : 0 ≤ d.h) (h7 : ¬ d.h ≤ 32) :
    Calls Tryz.prog 22 #[v] w fun e w' => e = .returned (.bool false) ∧ Below w.heap.size w w' := by
  obtain ⟨x, y, z, rfl, hx, hy, hz, lo⟩ := hv
  have BB : Hid (∀ (o : Obj), Below w.heap.size w (w.alloc o)) := Lib.hid fun o => below_alloc (Below.refl _ _) _
  have HX : Hid (∀ o : Obj, Ints (w.alloc o) x d.s) := Lib.hid fun o => ints_below hx (BB.out _)
  have HY : Hid (∀ o : Obj, Ints (w.alloc o) y d.b) := Lib.hid fun o => ints_below hy (BB.out _)
  have HZ : Hid (∀ o : Obj, Ints (w.alloc o) z d.c) := Lib.hid fun o => ints_below hz (BB.out _)
  obtain ⟨l1, A1, k1, rfl, _⟩ := hx
  obtain ⟨l2, A2, k2, rfl, _⟩ := hy
  obtain ⟨l3, A3, k3, rfl, _⟩ := hz
  unfold maxLen at l1 l2 l3 lo
  have t4 : ((d.c.length : Int) == 32) = true := by rw [beq_iff_eq]; omega
  clear h4
  go_enter Tryz.func22, Tryz.ntmps22
  go_wp2_with (first | (go_at_call 68; (first | (with_reducible refine (allCells_any _ d.s _ (HX.out _)).mono ?_) | (with_reducible refine (allCells_any _ d.b _ (HY.out _)).mono ?_) | (with_reducible refine (allCells_any _ d.c _ (HZ.out _)).mono ?_)); rintro e w' ⟨rfl, rfl⟩) | (go_at_call 69; refine (bsOK_any _ _).mono ?_; rintro e w' ⟨rfl, rfl⟩))
  go_ret
  exact ⟨rfl, BB.out _⟩

set_option maxRecDepth 100000 in
set_option maxHeartbeats 1000000 in
theorem dataOK_any_8 (v : Value) (d : Dt) (w : World) (hv : DatIn w v d) (h0 : d.s.length ≤ 32) (h1 : cellsB d.s = true) (h2 : d.b.length ≤ 32) (h3 : cellsB d.b = true) (h4 : d.c.length = 32) (h5 : cellsB d.c = true) (h6 : 0 ≤ d.h) (h7 : d.h ≤ 32) (h8 : baseB d.n = false) :
    Calls Tryz.prog 22 #[v] w fun e w' => e = .returned (.bool false) ∧ Below w.heap.size w w' := by
  obtain ⟨x, y, z, rfl, hx, hy, hz, lo⟩ := hv
  have BB : Hid (∀ (o : Obj), Below w.heap.size w (w.alloc o)) := Lib.hid fun o => below_alloc (Below.refl _ _) _
  have HX : Hid (∀ o : Obj, Ints (w.alloc o) x d.s) := Lib.hid fun o => ints_below hx (BB.out _)
  have HY : Hid (∀ o : Obj, Ints (w.alloc o) y d.b) := Lib.hid fun o => ints_below hy (BB.out _)
  have HZ : Hid (∀ o : Obj, Ints (w.alloc o) z d.c) := Lib.hid fun o => ints_below hz (BB.out _)
  obtain ⟨l1, A1, k1, rfl, _⟩ := hx
  obtain ⟨l2, A2, k2, rfl, _⟩ := hy
  obtain ⟨l3, A3, k3, rfl, _⟩ := hz
  unfold maxLen at l1 l2 l3 lo
  have t4 : ((d.c.length : Int) == 32) = true := by rw [beq_iff_eq]; omega
  clear h4
  go_enter Tryz.func22, Tryz.ntmps22
  go_wp2_with (first | (go_at_call 68; (first | (with_reducible refine (allCells_any _ d.s _ (HX.out _)).mono ?_) | (with_reducible refine (allCells_any _ d.b _ (HY.out _)).mono ?_) | (with_reducible refine (allCells_any _ d.c _ (HZ.out _)).mono ?_)); rintro e w' ⟨rfl, rfl⟩) | (go_at_call 69; refine (bsOK_any _ _).mono ?_; rintro e w' ⟨rfl, rfl⟩))
  go_ret
  exact ⟨rfl, BB.out _⟩

set_option maxRecDepth 100000 in
set_option maxHeartbeats 1000000 in
theorem dataOK_any_9 (v : Value) (d : Dt) (w : World) (hv : DatIn w v d) (h0 : d.s.length ≤ 32) (h1 : cellsB d.s = true) (h2 : d.b.length ≤ 32) (h3 : cellsB d.b = true) (h4 : d.c.length = 32) (h5 : cellsB d.c = true) (h6 : 0 ≤ d.h) (h7 : d.h ≤ 32) (h8 : baseB d.n = true) (h9 : ¬ d.o.size ≤ 300) :
    Calls Tryz.prog 22 #[v] w fun e w' => e = .returned (.bool false) ∧ Below w.heap.size w w' := by
  obtain ⟨x, y, z, rfl, hx, hy, hz, lo⟩ := hv
  have BB : Hid (∀ (o : Obj), Below w.heap.size w (w.alloc o)) := Lib.hid fun o => below_alloc (Below.refl _ _) _
  have HX : Hid (∀ o : Obj, Ints (w.alloc o) x d.s) := Lib.hid fun o => ints_below hx (BB.out _)
  have HY : Hid (∀ o : Obj, Ints (w.alloc o) y d.b) := Lib.hid fun o => ints_below hy (BB.out _)
  have HZ : Hid (∀ o : Obj, Ints (w.alloc o) z d.c) := Lib.hid fun o => ints_below hz (BB.out _)
  obtain ⟨l1, A1, k1, rfl, _⟩ := hx
  obtain ⟨l2, A2, k2, rfl, _⟩ := hy
  obtain ⟨l3, A3, k3, rfl, _⟩ := hz
  unfold maxLen at l1 l2 l3 lo
  have t4 : ((d.c.length : Int) == 32) = true := by rw [beq_iff_eq]; omega
  clear h4
  go_enter Tryz.func22, Tryz.ntmps22
  go_wp2_with (first | (go_at_call 68; (first | (with_reducible refine (allCells_any _ d.s _ (HX.out _)).mono ?_) | (with_reducible refine (allCells_any _ d.b _ (HY.out _)).mono ?_) | (with_reducible refine (allCells_any _ d.c _ (HZ.out _)).mono ?_)); rintro e w' ⟨rfl, rfl⟩) | (go_at_call 69; refine (bsOK_any _ _).mono ?_; rintro e w' ⟨rfl, rfl⟩))
  go_ret
  exact ⟨ret_bool (by simp; omega), BB.out _⟩

set_option maxRecDepth 100000 in
set_option maxHeartbeats 1000000 in
theorem dataOK_any_10 (v : Value) (d : Dt) (w : World) (hv : DatIn w v d) (h0 : d.s.length ≤ 32) (h1 : cellsB d.s = true) (h2 : d.b.length ≤ 32) (h3 : cellsB d.b = true) (h4 : d.c.length = 32) (h5 : cellsB d.c = true) (h6 : 0 ≤ d.h) (h7 : d.h ≤ 32) (h8 : baseB d.n = true) (h9 : d.o.size ≤ 300) :
    Calls Tryz.prog 22 #[v] w fun e w' => e = .returned (.bool true) ∧ Below w.heap.size w w' := by
  obtain ⟨x, y, z, rfl, hx, hy, hz, lo⟩ := hv
  have BB : Hid (∀ (o : Obj), Below w.heap.size w (w.alloc o)) := Lib.hid fun o => below_alloc (Below.refl _ _) _
  have HX : Hid (∀ o : Obj, Ints (w.alloc o) x d.s) := Lib.hid fun o => ints_below hx (BB.out _)
  have HY : Hid (∀ o : Obj, Ints (w.alloc o) y d.b) := Lib.hid fun o => ints_below hy (BB.out _)
  have HZ : Hid (∀ o : Obj, Ints (w.alloc o) z d.c) := Lib.hid fun o => ints_below hz (BB.out _)
  obtain ⟨l1, A1, k1, rfl, _⟩ := hx
  obtain ⟨l2, A2, k2, rfl, _⟩ := hy
  obtain ⟨l3, A3, k3, rfl, _⟩ := hz
  unfold maxLen at l1 l2 l3 lo
  have t4 : ((d.c.length : Int) == 32) = true := by rw [beq_iff_eq]; omega
  clear h4
  go_enter Tryz.func22, Tryz.ntmps22
  go_wp2_with (first | (go_at_call 68; (first | (with_reducible refine (allCells_any _ d.s _ (HX.out _)).mono ?_) | (with_reducible refine (allCells_any _ d.b _ (HY.out _)).mono ?_) | (with_reducible refine (allCells_any _ d.c _ (HZ.out _)).mono ?_)); rintro e w' ⟨rfl, rfl⟩) | (go_at_call 69; refine (bsOK_any _ _).mono ?_; rintro e w' ⟨rfl, rfl⟩))
  go_ret
  exact ⟨ret_bool (by simp; omega), BB.out _⟩

theorem dataOK_any (v : Value) (d : Dt) (w : World) (hv : DatIn w v d) :
    Calls Tryz.prog 22 #[v] w fun e w' => e = .returned (.bool (dOK d)) ∧ Below w.heap.size w w' := by
  by_cases h0 : d.s.length ≤ 32
  rotate_left
  · rw [dOK_false (fun q => absurd (fine_sl q) (by simp [h0]))]; exact dataOK_any_0 v d w hv h0
  cases h1 : cellsB d.s
  · rw [dOK_false (fun q => absurd (fine_sc q) (by simp [h1]))]; exact dataOK_any_1 v d w hv h0 h1
  by_cases h2 : d.b.length ≤ 32
  rotate_left
  · rw [dOK_false (fun q => absurd (fine_bl q) (by simp [h2]))]; exact dataOK_any_2 v d w hv h0 h1 h2
  cases h3 : cellsB d.b
  · rw [dOK_false (fun q => absurd (fine_bc q) (by simp [h3]))]; exact dataOK_any_3 v d w hv h0 h1 h2 h3
  by_cases h4 : d.c.length = 32
  rotate_left
  · rw [dOK_false (fun q => absurd (fine_cl q) (by simp [h4]))]; exact dataOK_any_4 v d w hv h0 h1 h2 h3 h4
  cases h5 : cellsB d.c
  · rw [dOK_false (fun q => absurd (fine_cc q) (by simp [h5]))]; exact dataOK_any_5 v d w hv h0 h1 h2 h3 h4 h5
  by_cases h6 : 0 ≤ d.h
  rotate_left
  · rw [dOK_false (fun q => absurd (fine_h0 q) (by simp [h6]))]; exact dataOK_any_6 v d w hv h0 h1 h2 h3 h4 h5 h6
  by_cases h7 : d.h ≤ 32
  rotate_left
  · rw [dOK_false (fun q => absurd (fine_h1 q) (by simp [h7]))]; exact dataOK_any_7 v d w hv h0 h1 h2 h3 h4 h5 h6 h7
  cases h8 : baseB d.n
  · rw [dOK_false (fun q => absurd (fine_n q) (by simp [h8]))]; exact dataOK_any_8 v d w hv h0 h1 h2 h3 h4 h5 h6 h7 h8
  by_cases h9 : d.o.size ≤ 300
  rotate_left
  · rw [dOK_false (fun q => absurd (fine_o q) (by simp [h9]))]; exact dataOK_any_9 v d w hv h0 h1 h2 h3 h4 h5 h6 h7 h8 h9
  rw [dOK_true ⟨h0, h2, h4, h1, h3, h5, (show 0 ≤ d.h ∧ d.h ≤ 32 from ⟨h6, h7⟩).1, (show 0 ≤ d.h ∧ d.h ≤ 32 from ⟨h6, h7⟩).2, h8, h9⟩]
  exact dataOK_any_10 v d w hv h0 h1 h2 h3 h4 h5 h6 h7 h8 h9

set_option maxRecDepth 100000 in
set_option maxHeartbeats 1000000 in
theorem sOK_any_0 (v : Value) (d : Dt) (w : World) (hv : DatIn w v d) (h0 : ¬ d.s.length ≤ 32) :
    Calls Tryz.prog 62 #[v] w fun e w' => e = .returned (.bool false) ∧ Below w.heap.size w w' := by
  obtain ⟨x, y, z, rfl, hx, hy, hz, lo⟩ := hv
  have BB : Hid (∀ (o : Obj), Below w.heap.size w (w.alloc o)) := Lib.hid fun o => below_alloc (Below.refl _ _) _
  have HX : Hid (∀ o : Obj, Ints (w.alloc o) x d.s) := Lib.hid fun o => ints_below hx (BB.out _)
  have HY : Hid (∀ o : Obj, Ints (w.alloc o) y d.b) := Lib.hid fun o => ints_below hy (BB.out _)
  have HZ : Hid (∀ o : Obj, Ints (w.alloc o) z d.c) := Lib.hid fun o => ints_below hz (BB.out _)
  obtain ⟨l1, A1, k1, rfl, _⟩ := hx
  obtain ⟨l2, A2, k2, rfl, _⟩ := hy
  obtain ⟨l3, A3, k3, rfl, _⟩ := hz
  unfold maxLen at l1 l2 l3 lo
  go_enter Tryz.func62, Tryz.ntmps62
  go_wp2_with (first | (go_at_call 132; (first | (with_reducible refine (sCells_any _ d.s _ (HX.out _)).mono ?_) | (with_reducible refine (sCells_any _ d.b _ (HY.out _)).mono ?_) | (with_reducible refine (sCells_any _ d.c _ (HZ.out _)).mono ?_)); rintro e w' ⟨rfl, rfl⟩) | (go_at_call 133; refine (sBs_any _ _).mono ?_; rintro e w' ⟨rfl, rfl⟩) | (go_at_call 64; refine (sIn_any _ _ _ _).mono ?_; rintro e w' ⟨rfl, rfl⟩))
  go_ret
  exact ⟨rfl, BB.out _⟩

set_option maxRecDepth 100000 in
set_option maxHeartbeats 1000000 in
theorem sOK_any_1 (v : Value) (d : Dt) (w : World) (hv : DatIn w v d) (h0 : d.s.length ≤ 32) (h1 : ¬ d.b.length ≤ 32) :
    Calls Tryz.prog 62 #[v] w fun e w' => e = .returned (.bool false) ∧ Below w.heap.size w w' := by
  obtain ⟨x, y, z, rfl, hx, hy, hz, lo⟩ := hv
  have BB : Hid (∀ (o : Obj), Below w.heap.size w (w.alloc o)) := Lib.hid fun o => below_alloc (Below.refl _ _) _
  have HX : Hid (∀ o : Obj, Ints (w.alloc o) x d.s) := Lib.hid fun o => ints_below hx (BB.out _)
  have HY : Hid (∀ o : Obj, Ints (w.alloc o) y d.b) := Lib.hid fun o => ints_below hy (BB.out _)
  have HZ : Hid (∀ o : Obj, Ints (w.alloc o) z d.c) := Lib.hid fun o => ints_below hz (BB.out _)
  obtain ⟨l1, A1, k1, rfl, _⟩ := hx
  obtain ⟨l2, A2, k2, rfl, _⟩ := hy
  obtain ⟨l3, A3, k3, rfl, _⟩ := hz
  unfold maxLen at l1 l2 l3 lo
  go_enter Tryz.func62, Tryz.ntmps62
  go_wp2_with (first | (go_at_call 132; (first | (with_reducible refine (sCells_any _ d.s _ (HX.out _)).mono ?_) | (with_reducible refine (sCells_any _ d.b _ (HY.out _)).mono ?_) | (with_reducible refine (sCells_any _ d.c _ (HZ.out _)).mono ?_)); rintro e w' ⟨rfl, rfl⟩) | (go_at_call 133; refine (sBs_any _ _).mono ?_; rintro e w' ⟨rfl, rfl⟩) | (go_at_call 64; refine (sIn_any _ _ _ _).mono ?_; rintro e w' ⟨rfl, rfl⟩))
  go_ret
  exact ⟨rfl, BB.out _⟩

set_option maxRecDepth 100000 in
set_option maxHeartbeats 1000000 in
theorem sOK_any_2 (v : Value) (d : Dt) (w : World) (hv : DatIn w v d) (h0 : d.s.length ≤ 32) (h1 : d.b.length ≤ 32) (h2 : ¬ d.c.length = 32) :
    Calls Tryz.prog 62 #[v] w fun e w' => e = .returned (.bool false) ∧ Below w.heap.size w w' := by
  obtain ⟨x, y, z, rfl, hx, hy, hz, lo⟩ := hv
  have BB : Hid (∀ (o : Obj), Below w.heap.size w (w.alloc o)) := Lib.hid fun o => below_alloc (Below.refl _ _) _
  have HX : Hid (∀ o : Obj, Ints (w.alloc o) x d.s) := Lib.hid fun o => ints_below hx (BB.out _)
  have HY : Hid (∀ o : Obj, Ints (w.alloc o) y d.b) := Lib.hid fun o => ints_below hy (BB.out _)
  have HZ : Hid (∀ o : Obj, Ints (w.alloc o) z d.c) := Lib.hid fun o => ints_below hz (BB.out _)
  obtain ⟨l1, A1, k1, rfl, _⟩ := hx
  obtain ⟨l2, A2, k2, rfl, _⟩ := hy
  obtain ⟨l3, A3, k3, rfl, _⟩ := hz
  unfold maxLen at l1 l2 l3 lo
  have t2 : ((d.c.length : Int) == 32) = false := by rw [beq_eq_false_iff_ne]; omega
  clear h2
  go_enter Tryz.func62, Tryz.ntmps62
  go_wp2_with (first | (go_at_call 132; (first | (with_reducible refine (sCells_any _ d.s _ (HX.out _)).mono ?_) | (with_reducible refine (sCells_any _ d.b _ (HY.out _)).mono ?_) | (with_reducible refine (sCells_any _ d.c _ (HZ.out _)).mono ?_)); rintro e w' ⟨rfl, rfl⟩) | (go_at_call 133; refine (sBs_any _ _).mono ?_; rintro e w' ⟨rfl, rfl⟩) | (go_at_call 64; refine (sIn_any _ _ _ _).mono ?_; rintro e w' ⟨rfl, rfl⟩))
  go_ret
  exact ⟨rfl, BB.out _⟩

set_option maxRecDepth 100000 in
set_option maxHeartbeats 1000000 in
theorem sOK_any_3 (v : Value) (d : Dt) (w : World) (hv : DatIn w v d) (h0 : d.s.length ≤ 32) (h1 : d.b.length ≤ 32) (h2 : d.c.length = 32) (h3 : cellsB d.s = false) :
    Calls Tryz.prog 62 #[v] w fun e w' => e = .returned (.bool false) ∧ Below w.heap.size w w' := by
  obtain ⟨x, y, z, rfl, hx, hy, hz, lo⟩ := hv
  have BB : Hid (∀ (o : Obj), Below w.heap.size w (w.alloc o)) := Lib.hid fun o => below_alloc (Below.refl _ _) _
  have HX : Hid (∀ o : Obj, Ints (w.alloc o) x d.s) := Lib.hid fun o => ints_below hx (BB.out _)
  have HY : Hid (∀ o : Obj, Ints (w.alloc o) y d.b) := Lib.hid fun o => ints_below hy (BB.out _)
  have HZ : Hid (∀ o : Obj, Ints (w.alloc o) z d.c) := Lib.hid fun o => ints_below hz (BB.out _)
  obtain ⟨l1, A1, k1, rfl, _⟩ := hx
  obtain ⟨l2, A2, k2, rfl, _⟩ := hy
  obtain ⟨l3, A3, k3, rfl, _⟩ := hz
  unfold maxLen at l1 l2 l3 lo
  have t2 : ((d.c.length : Int) == 32) = true := by rw [beq_iff_eq]; omega
  clear h2
  go_enter Tryz.func62, Tryz.ntmps62
  go_wp2_with (first | (go_at_call 132; (first | (with_reducible refine (sCells_any _ d.s _ (HX.out _)).mono ?_) | (with_reducible refine (sCells_any _ d.b _ (HY.out _)).mono ?_) | (with_reducible refine (sCells_any _ d.c _ (HZ.out _)).mono ?_)); rintro e w' ⟨rfl, rfl⟩) | (go_at_call 133; refine (sBs_any _ _).mono ?_; rintro e w' ⟨rfl, rfl⟩) | (go_at_call 64; refine (sIn_any _ _ _ _).mono ?_; rintro e w' ⟨rfl, rfl⟩))
  go_ret
  exact ⟨rfl, BB.out _⟩

set_option maxRecDepth 100000 in
set_option maxHeartbeats 1000000 in
theorem sOK_any_4 (v : Value) (d : Dt) (w : World) (hv : DatIn w v d) (h0 : d.s.length ≤ 32) (h1 : d.b.length ≤ 32) (h2 : d.c.length = 32) (h3 : cellsB d.s = true) (h4 : cellsB d.b = false) :
    Calls Tryz.prog 62 #[v] w fun e w' => e = .returned (.bool false) ∧ Below w.heap.size w w' := by
  obtain ⟨x, y, z, rfl, hx, hy, hz, lo⟩ := hv
  have BB : Hid (∀ (o : Obj), Below w.heap.size w (w.alloc o)) := Lib.hid fun o => below_alloc (Below.refl _ _) _
  have HX : Hid (∀ o : Obj, Ints (w.alloc o) x d.s) := Lib.hid fun o => ints_below hx (BB.out _)
  have HY : Hid (∀ o : Obj, Ints (w.alloc o) y d.b) := Lib.hid fun o => ints_below hy (BB.out _)
  have HZ : Hid (∀ o : Obj, Ints (w.alloc o) z d.c) := Lib.hid fun o => ints_below hz (BB.out _)
  obtain ⟨l1, A1, k1, rfl, _⟩ := hx
  obtain ⟨l2, A2, k2, rfl, _⟩ := hy
  obtain ⟨l3, A3, k3, rfl, _⟩ := hz
  unfold maxLen at l1 l2 l3 lo
  have t2 : ((d.c.length : Int) == 32) = true := by rw [beq_iff_eq]; omega
  clear h2
  go_enter Tryz.func62, Tryz.ntmps62
  go_wp2_with (first | (go_at_call 132; (first | (with_reducible refine (sCells_any _ d.s _ (HX.out _)).mono ?_) | (with_reducible refine (sCells_any _ d.b _ (HY.out _)).mono ?_) | (with_reducible refine (sCells_any _ d.c _ (HZ.out _)).mono ?_)); rintro e w' ⟨rfl, rfl⟩) | (go_at_call 133; refine (sBs_any _ _).mono ?_; rintro e w' ⟨rfl, rfl⟩) | (go_at_call 64; refine (sIn_any _ _ _ _).mono ?_; rintro e w' ⟨rfl, rfl⟩))
  go_ret
  exact ⟨rfl, BB.out _⟩

set_option maxRecDepth 100000 in
set_option maxHeartbeats 1000000 in
theorem sOK_any_5 (v : Value) (d : Dt) (w : World) (hv : DatIn w v d) (h0 : d.s.length ≤ 32) (h1 : d.b.length ≤ 32) (h2 : d.c.length = 32) (h3 : cellsB d.s = true) (h4 : cellsB d.b = true) (h5 : cellsB d.c = false) :
    Calls Tryz.prog 62 #[v] w fun e w' => e = .returned (.bool false) ∧ Below w.heap.size w w' := by
  obtain ⟨x, y, z, rfl, hx, hy, hz, lo⟩ := hv
  have BB : Hid (∀ (o : Obj), Below w.heap.size w (w.alloc o)) := Lib.hid fun o => below_alloc (Below.refl _ _) _
  have HX : Hid (∀ o : Obj, Ints (w.alloc o) x d.s) := Lib.hid fun o => ints_below hx (BB.out _)
  have HY : Hid (∀ o : Obj, Ints (w.alloc o) y d.b) := Lib.hid fun o => ints_below hy (BB.out _)
  have HZ : Hid (∀ o : Obj, Ints (w.alloc o) z d.c) := Lib.hid fun o => ints_below hz (BB.out _)
  obtain ⟨l1, A1, k1, rfl, _⟩ := hx
  obtain ⟨l2, A2, k2, rfl, _⟩ := hy
  obtain ⟨l3, A3, k3, rfl, _⟩ := hz
  unfold maxLen at l1 l2 l3 lo
  have t2 : ((d.c.length : Int) == 32) = true := by rw [beq_iff_eq]; omega
  clear h2
  go_enter Tryz.func62, Tryz.ntmps62
  go_wp2_with (first | (go_at_call 132; (first | (with_reducible refine (sCells_any _ d.s _ (HX.out _)).mono ?_) | (with_reducible refine (sCells_any _ d.b _ (HY.out _)).mono ?_) | (with_reducible refine (sCells_any _ d.c _ (HZ.out _)).mono ?_)); rintro e w' ⟨rfl, rfl⟩) | (go_at_call 133; refine (sBs_any _ _).mono ?_; rintro e w' ⟨rfl, rfl⟩) | (go_at_call 64; refine (sIn_any _ _ _ _).mono ?_; rintro e w' ⟨rfl, rfl⟩))
  go_ret
  exact ⟨rfl, BB.out _⟩

set_option maxRecDepth 100000 in
set_option maxHeartbeats 1000000 in
theorem sOK_any_6 (v : Value) (d : Dt) (w : World) (hv : DatIn w v d) (h0 : d.s.length ≤ 32) (h1 : d.b.length ≤ 32) (h2 : d.c.length = 32) (h3 : cellsB d.s = true) (h4 : cellsB d.b = true) (h5 : cellsB d.c = true) (h6 : inB d.h 0 32 = false) :
    Calls Tryz.prog 62 #[v] w fun e w' => e = .returned (.bool false) ∧ Below w.heap.size w w' := by
  obtain ⟨x, y, z, rfl, hx, hy, hz, lo⟩ := hv
  have BB : Hid (∀ (o : Obj), Below w.heap.size w (w.alloc o)) := Lib.hid fun o => below_alloc (Below.refl _ _) _
  have HX : Hid (∀ o : Obj, Ints (w.alloc o) x d.s) := Lib.hid fun o => ints_below hx (BB.out _)
  have HY : Hid (∀ o : Obj, Ints (w.alloc o) y d.b) := Lib.hid fun o => ints_below hy (BB.out _)
  have HZ : Hid (∀ o : Obj, Ints (w.alloc o) z d.c) := Lib.hid fun o => ints_below hz (BB.out _)
  obtain ⟨l1, A1, k1, rfl, _⟩ := hx
  obtain ⟨l2, A2, k2, rfl, _⟩ := hy
  obtain ⟨l3, A3, k3, rfl, _⟩ := hz
  unfold maxLen at l1 l2 l3 lo
  have t2 : ((d.c.length : Int) == 32) = true := by rw [beq_iff_eq]; omega
  clear h2
  go_enter Tryz.func62, Tryz.ntmps62
  go_wp2_with (first | (go_at_call 132; (first | (with_reducible refine (sCells_any _ d.s _ (HX.out _)).mono ?_) | (with_reducible refine (sCells_any _ d.b _ (HY.out _)).mono ?_) | (with_reducible refine (sCells_any _ d.c _ (HZ.out _)).mono ?_)); rintro e w' ⟨rfl, rfl⟩) | (go_at_call 133; refine (sBs_any _ _).mono ?_; rintro e w' ⟨rfl, rfl⟩) | (go_at_call 64; refine (sIn_any _ _ _ _).mono ?_; rintro e w' ⟨rfl, rfl⟩))
  go_ret
  exact ⟨rfl, BB.out _⟩

set_option maxRecDepth 100000 in
set_option maxHeartbeats 1000000 in
theorem sOK_any_7 (v : Value) (d : Dt) (w : World) (hv : DatIn w v d) (h0 : d.s.length ≤ 32) (h1 : d.b.length ≤ 32) (h2 : d.c.length = 32) (h3 : cellsB d.s = true) (h4 : cellsB d.b = true) (h5 : cellsB d.c = true) (h6 : inB d.h 0 32 = true) (h7 : baseB d.n = false) :
    Calls Tryz.prog 62 #[v] w fun e w' => e = .returned (.bool false) ∧ Below w.heap.size w w' := by
  obtain ⟨x, y, z, rfl, hx, hy, hz, lo⟩ := hv
  have BB : Hid (∀ (o : Obj), Below w.heap.size w (w.alloc o)) := Lib.hid fun o => below_alloc (Below.refl _ _) _
  have HX : Hid (∀ o : Obj, Ints (w.alloc o) x d.s) := Lib.hid fun o => ints_below hx (BB.out _)
  have HY : Hid (∀ o : Obj, Ints (w.alloc o) y d.b) := Lib.hid fun o => ints_below hy (BB.out _)
  have HZ : Hid (∀ o : Obj, Ints (w.alloc o) z d.c) := Lib.hid fun o => ints_below hz (BB.out _)
  obtain ⟨l1, A1, k1, rfl, _⟩ := hx
  obtain ⟨l2, A2, k2, rfl, _⟩ := hy
  obtain ⟨l3, A3, k3, rfl, _⟩ := hz
  unfold maxLen at l1 l2 l3 lo
  have t2 : ((d.c.length : Int) == 32) = true := by rw [beq_iff_eq]; omega
  clear h2
  go_enter Tryz.func62, Tryz.ntmps62
  go_wp2_with (first | (go_at_call 132; (first | (with_reducible refine (sCells_any _ d.s _ (HX.out _)).mono ?_) | (with_reducible refine (sCells_any _ d.b _ (HY.out _)).mono ?_) | (with_reducible refine (sCells_any _ d.c _ (HZ.out _)).mono ?_)); rintro e w' ⟨rfl, rfl⟩) | (go_at_call 133; refine (sBs_any _ _).mono ?_; rintro e w' ⟨rfl, rfl⟩) | (go_at_call 64; refine (sIn_any _ _ _ _).mono ?_; rintro e w' ⟨rfl, rfl⟩))
  go_ret
  exact ⟨rfl, BB.out _⟩

set_option maxRecDepth 100000 in
set_option maxHeartbeats 1000000 in
theorem sOK_any_8 (v : Value) (d : Dt) (w : World) (hv : DatIn w v d) (h0 : d.s.length ≤ 32) (h1 : d.b.length ≤ 32) (h2 : d.c.length = 32) (h3 : cellsB d.s = true) (h4 : cellsB d.b = true) (h5 : cellsB d.c = true) (h6 : inB d.h 0 32 = true) (h7 : baseB d.n = true) (h8 : ¬ d.o.size ≤ 300) :
    Calls Tryz.prog 62 #[v] w fun e w' => e = .returned (.bool false) ∧ Below w.heap.size w w' := by
  obtain ⟨x, y, z, rfl, hx, hy, hz, lo⟩ := hv
  have BB : Hid (∀ (o : Obj), Below w.heap.size w (w.alloc o)) := Lib.hid fun o => below_alloc (Below.refl _ _) _
  have HX : Hid (∀ o : Obj, Ints (w.alloc o) x d.s) := Lib.hid fun o => ints_below hx (BB.out _)
  have HY : Hid (∀ o : Obj, Ints (w.alloc o) y d.b) := Lib.hid fun o => ints_below hy (BB.out _)
  have HZ : Hid (∀ o : Obj, Ints (w.alloc o) z d.c) := Lib.hid fun o => ints_below hz (BB.out _)
  obtain ⟨l1, A1, k1, rfl, _⟩ := hx
  obtain ⟨l2, A2, k2, rfl, _⟩ := hy
  obtain ⟨l3, A3, k3, rfl, _⟩ := hz
  unfold maxLen at l1 l2 l3 lo
  have t2 : ((d.c.length : Int) == 32) = true := by rw [beq_iff_eq]; omega
  clear h2
  go_enter Tryz.func62, Tryz.ntmps62
  go_wp2_with (first | (go_at_call 132; (first | (with_reducible refine (sCells_any _ d.s _ (HX.out _)).mono ?_) | (with_reducible refine (sCells_any _ d.b _ (HY.out _)).mono ?_) | (with_reducible refine (sCells_any _ d.c _ (HZ.out _)).mono ?_)); rintro e w' ⟨rfl, rfl⟩) | (go_at_call 133; refine (sBs_any _ _).mono ?_; rintro e w' ⟨rfl, rfl⟩) | (go_at_call 64; refine (sIn_any _ _ _ _).mono ?_; rintro e w' ⟨rfl, rfl⟩))
  go_ret
  exact ⟨ret_bool (by simp; omega), BB.out _⟩

set_option maxRecDepth 100000 in
set_option maxHeartbeats 1000000 in
theorem sOK_any_9 (v : Value) (d : Dt) (w : World) (hv : DatIn w v d) (h0 : d.s.length ≤ 32) (h1 : d.b.length ≤ 32) (h2 : d.c.length = 32) (h3 : cellsB d.s = true) (h4 : cellsB d.b = true) (h5 : cellsB d.c = true) (h6 : inB d.h 0 32 = true) (h7 : baseB d.n = true) (h8 : d.o.size ≤ 300) :
    Calls Tryz.prog 62 #[v] w fun e w' => e = .returned (.bool true) ∧ Below w.heap.size w w' := by
  obtain ⟨x, y, z, rfl, hx, hy, hz, lo⟩ := hv
  have BB : Hid (∀ (o : Obj), Below w.heap.size w (w.alloc o)) := Lib.hid fun o => below_alloc (Below.refl _ _) _
  have HX : Hid (∀ o : Obj, Ints (w.alloc o) x d.s) := Lib.hid fun o => ints_below hx (BB.out _)
  have HY : Hid (∀ o : Obj, Ints (w.alloc o) y d.b) := Lib.hid fun o => ints_below hy (BB.out _)
  have HZ : Hid (∀ o : Obj, Ints (w.alloc o) z d.c) := Lib.hid fun o => ints_below hz (BB.out _)
  obtain ⟨l1, A1, k1, rfl, _⟩ := hx
  obtain ⟨l2, A2, k2, rfl, _⟩ := hy
  obtain ⟨l3, A3, k3, rfl, _⟩ := hz
  unfold maxLen at l1 l2 l3 lo
  have t2 : ((d.c.length : Int) == 32) = true := by rw [beq_iff_eq]; omega
  clear h2
  go_enter Tryz.func62, Tryz.ntmps62
  go_wp2_with (first | (go_at_call 132; (first | (with_reducible refine (sCells_any _ d.s _ (HX.out _)).mono ?_) | (with_reducible refine (sCells_any _ d.b _ (HY.out _)).mono ?_) | (with_reducible refine (sCells_any _ d.c _ (HZ.out _)).mono ?_)); rintro e w' ⟨rfl, rfl⟩) | (go_at_call 133; refine (sBs_any _ _).mono ?_; rintro e w' ⟨rfl, rfl⟩) | (go_at_call 64; refine (sIn_any _ _ _ _).mono ?_; rintro e w' ⟨rfl, rfl⟩))
  go_ret
  exact ⟨ret_bool (by simp; omega), BB.out _⟩

theorem sOK_any (v : Value) (d : Dt) (w : World) (hv : DatIn w v d) :
    Calls Tryz.prog 62 #[v] w fun e w' => e = .returned (.bool (dOK d)) ∧ Below w.heap.size w w' := by
  by_cases h0 : d.s.length ≤ 32
  rotate_left
  · rw [dOK_false (fun q => absurd (fine_sl q) (by simp [h0]))]; exact sOK_any_0 v d w hv h0
  by_cases h1 : d.b.length ≤ 32
  rotate_left
  · rw [dOK_false (fun q => absurd (fine_bl q) (by simp [h1]))]; exact sOK_any_1 v d w hv h0 h1
  by_cases h2 : d.c.length = 32
  rotate_left
  · rw [dOK_false (fun q => absurd (fine_cl q) (by simp [h2]))]; exact sOK_any_2 v d w hv h0 h1 h2
  cases h3 : cellsB d.s
  · rw [dOK_false (fun q => absurd (fine_sc q) (by simp [h3]))]; exact sOK_any_3 v d w hv h0 h1 h2 h3
  cases h4 : cellsB d.b
  · rw [dOK_false (fun q => absurd (fine_bc q) (by simp [h4]))]; exact sOK_any_4 v d w hv h0 h1 h2 h3 h4
  cases h5 : cellsB d.c
  · rw [dOK_false (fun q => absurd (fine_cc q) (by simp [h5]))]; exact sOK_any_5 v d w hv h0 h1 h2 h3 h4 h5
  cases h6 : inB d.h 0 32
  · rw [dOK_false (fun q => absurd (fine_hh q) (by simp [h6]))]; exact sOK_any_6 v d w hv h0 h1 h2 h3 h4 h5 h6
  cases h7 : baseB d.n
  · rw [dOK_false (fun q => absurd (fine_n q) (by simp [h7]))]; exact sOK_any_7 v d w hv h0 h1 h2 h3 h4 h5 h6 h7
  by_cases h8 : d.o.size ≤ 300
  rotate_left
  · rw [dOK_false (fun q => absurd (fine_o q) (by simp [h8]))]; exact sOK_any_8 v d w hv h0 h1 h2 h3 h4 h5 h6 h7 h8
  rw [dOK_true ⟨h0, h1, h2, h3, h4, h5, (of_inB h6).1, (of_inB h6).2, h7, h8⟩]
  exact sOK_any_9 v d w hv h0 h1 h2 h3 h4 h5 h6 h7 h8

end Go.Proofs.YthnbaeamekolmaaGreatDoor

namespace Go.Proofs.YthnbaeamekolmaaGreatDoor
open Go.Joins Go.ChangeShapes Go.WideShapes Go.RowKit Go.Deep Go.ChangeAt
set_option linter.unusedVariables false
set_option linter.unusedSimpArgs false

theorem datIn_form {w : World} {v : Value} {d : Dt} (h : DatIn w v d) : ∃ A1 k1 A2 k2 A3 k3, v = .agg #[.slice A1 d.s.length k1, .slice A2 d.b.length k2, .slice A3 d.c.length k3, .int .i64 d.h, .int .i64 d.n, .string d.o] := by
  obtain ⟨x, y, z, rfl, ⟨_, A1, k1, rfl, _⟩, ⟨_, A2, k2, rfl, _⟩, ⟨_, A3, k3, rfl, _⟩, _⟩ := h
  exact ⟨_, _, _, _, _, _, rfl⟩

/-- The same laws, the world's change first: it says which worlds are meant. -/
theorem whole_b {w w' : World} {g : Nat} {t : TypeId} {cs : Array Value} (hb : Below w.heap.size w w') (h : Whole w g t cs) : Whole w' g t cs := whole_below h hb

theorem datIn_b {w w' : World} {v : Value} {d : Dt} (hb : Below w.heap.size w w') (h : DatIn w v d) : DatIn w' v d := datIn_below h hb

theorem datOf_b {w w' : World} {lo hi : Nat} {v : Value} {d : Dt} (hb : Below w.heap.size w w') (h : DatOf w lo hi v d) : DatOf w' lo hi v d := datOf_below h hb

theorem below_b {a b c : World} (k : Below b.heap.size b c) (h : Below a.heap.size a b) : Below a.heap.size a c := below_step h k

theorem six_cells {w : World} {g : Nat} {t : TypeId} {a b c d e f : Value} (h : Whole w g t #[a, b, c, d, e, f]) :
    w.cell? ⟨g, 0, none⟩ = some a ∧ w.cell? ⟨g, 1, none⟩ = some b ∧ w.cell? ⟨g, 2, none⟩ = some c ∧ w.cell? ⟨g, 3, none⟩ = some d ∧ w.cell? ⟨g, 4, none⟩ = some e ∧ w.cell? ⟨g, 5, none⟩ = some f :=
  ⟨whole_cell h 0, whole_cell h 1, whole_cell h 2, whole_cell h 3, whole_cell h 4, whole_cell h 5⟩

section
variable {H : Type} {enc : TypeId × Value → H} {w : World} {base : Nat} {spare : Nat → Bool} {held : Bool}

theorem ints_of_trod {fuel : Nat} {v : Value} {x : DataW H × List MemPlace} (h : DataW.trod enc Tryz.prog w base (fun _ => true) held fuel 23 [v] = some x) : ∃ zs, Ints w v zs := by
  rcases open_ints Tryz.underlying23 Tryz.underlying3 (by kernel_rfl) h with ⟨hcs, _⟩ | ⟨a, l, c, zs, hcs, _, hl, hm, hz, _, hcell, hwz⟩
  · simp only [List.cons.injEq, and_true] at hcs
    subst hcs
    exact ⟨[], ints_nil w⟩
  · simp only [List.cons.injEq, and_true] at hcs
    subst hcs
    simp only [if_true] at hz
    have hlen : (zs.take l).length = l := by rw [List.length_take]; omega
    refine ⟨zs.take l, by rw [hlen]; omega, some a, c, by rw [hlen], fun _ => ⟨a, rfl, fun k hk => ?_⟩⟩
    rw [hlen] at hk
    rw [hcell k (by omega)]
    simp [List.getD_eq_getElem?_getD, show k < zs.length by omega]

set_option maxRecDepth 100000 in
theorem open_data {r : Reach} {b0 : Nat} {v : Value} {d : DataW H} {p : List MemPlace} (hv : Value.okWide Tryz.prog w r b0 25 v) (h : DataW.Trod enc Tryz.prog w base (fun _ => true) held 25 v d p) :
    ∃ D : Dt, DatIn w v D := by
  obtain ⟨cs, rfl, hsz⟩ := okWide_struct Tryz.underlying25 hv
  have hC : Tryz.prog.cellsOf 25 = 6 := by kernel_rfl
  rw [hC] at hsz
  obtain ⟨l⟩ := cs
  match l, hsz with
  | [c0, c1, c2, c3, c4, c5], _ =>
    obtain ⟨fuel, hf⟩ := h
    obtain ⟨xs, n, _, hx, _, hlen, hg⟩ := DataW.trod_struct Tryz.underlying25 hf
    have one : ∀ t, t = 23 ∨ t = 3 ∨ t = 9 → Tryz.prog.cellsOf t = 1 := by
      rintro t (rfl | rfl | rfl) <;> kernel_rfl
    match xs, hlen with
    | [y0, y1, y2, y3, y4, y5], _ =>
      have g0 := hg 0 _ rfl
      have g1 := hg 1 _ rfl
      have g2 := hg 2 _ rfl
      have g3 := hg 3 _ rfl
      have g4 := hg 4 _ rfl
      have g5 := hg 5 _ rfl
      simp [Value.cells, one] at g0 g1 g2 g3 g4 g5
      obtain ⟨zs, hs⟩ := ints_of_trod g0
      obtain ⟨zb, hb⟩ := ints_of_trod g1
      obtain ⟨zc, hc⟩ := ints_of_trod g2
      obtain ⟨n3, e3, _, _⟩ := DataW.trod_int Tryz.underlying3 g3
      obtain ⟨n4, e4, _, _⟩ := DataW.trod_int Tryz.underlying3 g4
      obtain ⟨s5, e5, _, l5⟩ := DataW.trod_string Tryz.underlying9 g5
      simp only [List.cons.injEq, and_true] at e3 e4 e5
      subst e3 e4 e5
      exact ⟨⟨zs, zb, zc, n3, n4, s5⟩, c0, c1, c2, rfl, hs, hb, hc, l5⟩

end

end Go.Proofs.YthnbaeamekolmaaGreatDoor

namespace Go.Proofs.YthnbaeamekolmaaGreatDoor
open Go.RowKit
set_option linter.unusedVariables false
set_option linter.unusedSimpArgs false

/-- 'append([]int{}, xs...)': a row of the call's own, of these numbers. -/
theorem wpList_append_new {W0 : World} {ops : Array Oper} {rest : List Oper} {o : Oper} {a : Act} {Q : Exit → Act → World → Prop} (hgd : o.guard = none) (s x : Operand)
    (ho : o.op = .call { callee := .builtin .append, args := #[s, x], argTypes := #[23, 23] }) (hty : o.type = 23)
    (g : Nat) (hs : a.eval s = .slice (some ⟨g, 0, none⟩) 0 0) (hgs : g = W0.heap.size) (u : Value) (zs : List Int) (hx : a.eval x = u) (hz : Ints W0 u zs) (hl : zs.length ≤ 1099511627776)
    (h : ∀ B m w', Row w' W0.heap.size (.slice B zs.length m) zs → Below W0.heap.size W0 w' → wpList Tryz.prog ops Q rest (a.put o.dst (.slice B zs.length m)) w') :
    wpList Tryz.prog ops Q (o :: rest) a (W0.alloc (.cells #[] 3)) := by
  subst hgs
  have ho0 : Row (W0.alloc (.cells #[] 3)) W0.heap.size (.slice (some ⟨W0.heap.size, 0, none⟩) 0 0) [] := World.ownsRow_made W0 #[] 0 (Nat.le_refl _) (by unfold maxLen; omega) rfl
  refine wpList_append_ints hgd s x ho hty W0.heap.size _ [] ho0 u zs (ints_below hz (below_alloc (Below.refl _ _) _)) hs hx (by simpa using hl) (by simp) ?_
  intro v' w' hr hg _
  rw [List.nil_append] at hr
  obtain ⟨_, B, m, rfl, _⟩ := row_ints hr
  refine h B m w' hr ?_
  exact (below_alloc (Below.refl _ _) _).grown hg (by simp) (fun k hk => by simp [Value.ownBlock] at hk; omega)

/-- What a copy of data leaves. -/
def CopyOf (w : World) (d : Dt) (e : Ending) (w' : World) : Prop := ∃ u, e = .returned u ∧ DatOf w' w.heap.size w'.heap.size u d ∧ Below w.heap.size w w'

set_option maxRecDepth 100000 in
set_option maxHeartbeats 2000000 in
theorem sOwn_any (v : Value) (d : Dt) (w : World) (hv : DatIn w v d) (hs : SmallD d) :
    Calls Tryz.prog 66 #[v] w (CopyOf w d) := by
  obtain ⟨x, y, z, rfl, hx, hy, hz, lo⟩ := hv
  have Hx := Lib.hid hx
  have Hy := Lib.hid hy
  have Hz := Lib.hid hz
  have Hs := Lib.hid hs
  have Hl := Lib.hid lo
  obtain ⟨_, A1, k1, rfl, _⟩ := hx
  obtain ⟨_, A2, k2, rfl, _⟩ := hy
  obtain ⟨_, A3, k3, rfl, _⟩ := hz
  clear hs lo
  go_enter Tryz.func66, Tryz.ntmps66
  go_wp2_with (first
    | (at_builtin; refine wpList_append_new rfl _ _ rfl rfl _ rfl (by simp) (.slice A1 d.s.length k1) d.s rfl (ints_below Hx.out (below_alloc (below_alloc (Below.refl _ _) _) _)) (by have := Hs.out.1; omega) ?_; intro B1' m1 w1 hr hb
       have B1 : Below w.heap.size w w1 := (below_alloc (below_alloc (Below.refl _ _) _) _).trans (hb.mono (below_alloc (below_alloc (Below.refl _ _) _) _).size)
       have V1 := whole_b hb (whole_alloc (whole_new w _ _) _)
       have T1 := whole_b hb (whole_new1 w _ _ _)
       have R11 : Row w1 (w.heap.size + 1 + 1) (.slice B1' d.s.length m1) d.s := by simpa using hr
       have zv1 := whole_lt V1
       have zt1 := whole_lt T1
       obtain ⟨c0, c1, c2, c3, c4, c5⟩ := six_cells V1
       have f1 := whole_free V1 0
       clear hr hb)
    | (at_builtin; refine wpList_append_new rfl _ _ rfl rfl _ rfl (by simp) (.slice A2 d.b.length k2) d.b rfl (ints_below Hy.out (B1.setCell (p := ⟨w.heap.size, 0, none⟩) (Nat.le_refl _) _)) (by have := Hs.out.2.1; omega) ?_; clear c0 c1 c2 c3 c4 c5 f1; intro B2' m2 w2 hr hb
       have B2 : Below w.heap.size w w2 := (B1.setCell (p := ⟨w.heap.size, 0, none⟩) (Nat.le_refl _) _).trans (hb.mono (B1.setCell (p := ⟨w.heap.size, 0, none⟩) (Nat.le_refl _) _).size)
       have V2 := whole_b hb (whole_set V1 0 (.slice B1' d.s.length m1))
       have T2 := whole_b hb (whole_far T1 (p := ⟨w.heap.size, 0, none⟩) (by simp) (.slice B1' d.s.length m1))
       have R12 : Row w2 (w.heap.size + 1 + 1) _ d.s := row_below (row_store (g := w.heap.size) (i := 0) (u := .slice B1' d.s.length m1) R11 (by omega)) hb
       have P12 := parted_later (row_store (g := w.heap.size) (i := 0) (u := .slice B1' d.s.length m1) R11 (by omega)) hr
       have R22 : Row w2 (w.heap.size + 1 + 1) (.slice B2' d.b.length m2) d.b := row_base hr (by have := B1.size; have := whole_lt T1; simp; omega)
       have zv2 := whole_lt V2
       have zt2 := whole_lt T2
       obtain ⟨c0, c1, c2, c3, c4, c5⟩ := six_cells V2
       have f2 := whole_free V2 1
       clear hr hb)
    | (at_builtin; refine wpList_append_new rfl _ _ rfl rfl _ rfl (by simp) (.slice A3 d.c.length k3) d.c rfl (ints_below Hz.out (B2.setCell (p := ⟨w.heap.size, 1, none⟩) (Nat.le_refl _) _)) (by have := Hs.out.2.2.1; omega) ?_; clear c0 c1 c2 c3 c4 c5 f2; intro B3' m3 w3 hr hb
       have B3 : Below w.heap.size w w3 := (B2.setCell (p := ⟨w.heap.size, 1, none⟩) (Nat.le_refl _) _).trans (hb.mono (B2.setCell (p := ⟨w.heap.size, 1, none⟩) (Nat.le_refl _) _).size)
       have V3 := whole_b hb (whole_set V2 1 (.slice B2' d.b.length m2))
       have T3 := whole_b hb (whole_far T2 (p := ⟨w.heap.size, 1, none⟩) (by simp) (.slice B2' d.b.length m2))
       have R13 : Row w3 (w.heap.size + 1 + 1) _ d.s := row_below (row_store (g := w.heap.size) (i := 1) (u := .slice B2' d.b.length m2) R12 (by omega)) hb
       have R23 : Row w3 (w.heap.size + 1 + 1) _ d.b := row_below (row_store (g := w.heap.size) (i := 1) (u := .slice B2' d.b.length m2) R22 (by omega)) hb
       have P13 := parted_later (row_store (g := w.heap.size) (i := 1) (u := .slice B2' d.b.length m2) R12 (by omega)) hr
       have P23 := parted_later (row_store (g := w.heap.size) (i := 1) (u := .slice B2' d.b.length m2) R22 (by omega)) hr
       have R33 : Row w3 (w.heap.size + 1 + 1) (.slice B3' d.c.length m3) d.c := row_base hr (by have := B2.size; have := whole_lt T2; simp; omega)
       have zv3 := whole_lt V3
       have zt3 := whole_lt T3
       obtain ⟨c0, c1, c2, c3, c4, c5⟩ := six_cells V3
       have f3 := whole_free V3 2
       obtain ⟨r0, r1, r2, r3, r4, r5⟩ := six_cells T3
       have fr := whole_free T3
       clear hr hb))
  refine bodyPost_ret (v := .agg #[.slice B1' d.s.length m1, .slice B2' d.b.length m2, .slice B3' d.c.length m3, .int .i64 d.h, .int .i64 d.n, .string d.o]) (by simp [results, Tryz.results66, go_sem, *]) rfl ⟨_, rfl, datOf_top (datOf_base (datOf_rows (lo := w.heap.size + 1 + 1)
    (by repeat (first | with_reducible exact R13 | ((with_reducible refine row_store ?_ ?hh); case hh => omega)))
    (by repeat (first | with_reducible exact R23 | ((with_reducible refine row_store ?_ ?hh); case hh => omega)))
    (by repeat (first | with_reducible exact R33 | ((with_reducible refine row_store ?_ ?hh); case hh => omega))) Hl.out P12 P13 P23) (by omega)) (Nat.le_refl _), ?_⟩
  repeat (first | with_reducible exact B3 | with_reducible refine Below.setCell ?_ (by simp; try omega) _)

set_option maxRecDepth 100000 in
set_option maxHeartbeats 2000000 in
theorem ownData_any (v : Value) (d : Dt) (w : World) (hv : DatIn w v d) (hs : SmallD d) :
    Calls Tryz.prog 60 #[v] w (CopyOf w d) := by
  obtain ⟨x, y, z, rfl, hx, hy, hz, lo⟩ := hv
  have Hx := Lib.hid hx
  have Hy := Lib.hid hy
  have Hz := Lib.hid hz
  have Hs := Lib.hid hs
  have Hl := Lib.hid lo
  obtain ⟨_, A1, k1, rfl, _⟩ := hx
  obtain ⟨_, A2, k2, rfl, _⟩ := hy
  obtain ⟨_, A3, k3, rfl, _⟩ := hz
  clear hs lo
  go_enter Tryz.func60, Tryz.ntmps60
  go_wp2_with fail
  refine (copyCells_any _ d.s _ (ints_below Hx.out (below_alloc (below_alloc (Below.refl _ _) _) _)) (by have := Hs.out.1; omega)).mono ?_
  rintro e w1 ⟨q, rfl, hr, -, hb⟩
  obtain ⟨_, B1', m1, rfl, _⟩ := row_ints hr
  have B1 : Below w.heap.size w w1 := (below_alloc (below_alloc (Below.refl _ _) _) _).trans (hb.mono (below_alloc (below_alloc (Below.refl _ _) _) _).size)
  have V1 := whole_b hb (whole_alloc (whole_new w _ _) _)
  have T1 := whole_b hb (whole_new1 w _ _ _)
  have R11 : Row w1 (w.heap.size + 1 + 1) (.slice B1' d.s.length m1) d.s := by simpa using hr
  have zv1 := whole_lt V1
  have zt1 := whole_lt T1
  obtain ⟨c0, c1, c2, c3, c4, c5⟩ := six_cells V1
  have f1 := whole_free V1 0
  clear hr hb
  go_wp2_with fail
  clear c0 c1 c2 c3 c4 c5 f1
  refine (copyCells_any _ d.b _ (ints_below Hy.out (B1.setCell (p := ⟨w.heap.size, 0, none⟩) (Nat.le_refl _) _)) (by have := Hs.out.2.1; omega)).mono ?_
  rintro e w2 ⟨q, rfl, hr, -, hb⟩
  obtain ⟨_, B2', m2, rfl, _⟩ := row_ints hr
  have B2 : Below w.heap.size w w2 := (B1.setCell (p := ⟨w.heap.size, 0, none⟩) (Nat.le_refl _) _).trans (hb.mono (B1.setCell (p := ⟨w.heap.size, 0, none⟩) (Nat.le_refl _) _).size)
  have V2 := whole_b hb (whole_set V1 0 (.slice B1' d.s.length m1))
  have T2 := whole_b hb (whole_far T1 (p := ⟨w.heap.size, 0, none⟩) (by simp) (.slice B1' d.s.length m1))
  have R12 : Row w2 (w.heap.size + 1 + 1) _ d.s := row_below (row_store (g := w.heap.size) (i := 0) (u := .slice B1' d.s.length m1) R11 (by omega)) hb
  have P12 := parted_later (row_store (g := w.heap.size) (i := 0) (u := .slice B1' d.s.length m1) R11 (by omega)) hr
  have R22 : Row w2 (w.heap.size + 1 + 1) (.slice B2' d.b.length m2) d.b := row_base hr (by have := B1.size; have := whole_lt T1; simp; omega)
  have zv2 := whole_lt V2
  have zt2 := whole_lt T2
  obtain ⟨c0, c1, c2, c3, c4, c5⟩ := six_cells V2
  have f2 := whole_free V2 1
  clear hr hb
  go_wp2_with fail
  clear c0 c1 c2 c3 c4 c5 f2
  refine (copyCells_any _ d.c _ (ints_below Hz.out (B2.setCell (p := ⟨w.heap.size, 1, none⟩) (Nat.le_refl _) _)) (by have := Hs.out.2.2.1; omega)).mono ?_
  rintro e w3 ⟨q, rfl, hr, -, hb⟩
  obtain ⟨_, B3', m3, rfl, _⟩ := row_ints hr
  have B3 : Below w.heap.size w w3 := (B2.setCell (p := ⟨w.heap.size, 1, none⟩) (Nat.le_refl _) _).trans (hb.mono (B2.setCell (p := ⟨w.heap.size, 1, none⟩) (Nat.le_refl _) _).size)
  have V3 := whole_b hb (whole_set V2 1 (.slice B2' d.b.length m2))
  have T3 := whole_b hb (whole_far T2 (p := ⟨w.heap.size, 1, none⟩) (by simp) (.slice B2' d.b.length m2))
  have R13 : Row w3 (w.heap.size + 1 + 1) _ d.s := row_below (row_store (g := w.heap.size) (i := 1) (u := .slice B2' d.b.length m2) R12 (by omega)) hb
  have R23 : Row w3 (w.heap.size + 1 + 1) _ d.b := row_below (row_store (g := w.heap.size) (i := 1) (u := .slice B2' d.b.length m2) R22 (by omega)) hb
  have P13 := parted_later (row_store (g := w.heap.size) (i := 1) (u := .slice B2' d.b.length m2) R12 (by omega)) hr
  have P23 := parted_later (row_store (g := w.heap.size) (i := 1) (u := .slice B2' d.b.length m2) R22 (by omega)) hr
  have R33 : Row w3 (w.heap.size + 1 + 1) (.slice B3' d.c.length m3) d.c := row_base hr (by have := B2.size; have := whole_lt T2; simp; omega)
  have zv3 := whole_lt V3
  have zt3 := whole_lt T3
  obtain ⟨c0, c1, c2, c3, c4, c5⟩ := six_cells V3
  have f3 := whole_free V3 2
  obtain ⟨r0, r1, r2, r3, r4, r5⟩ := six_cells T3
  have fr := whole_free T3
  clear hr hb
  go_wp2
  refine bodyPost_ret (v := .agg #[.slice B1' d.s.length m1, .slice B2' d.b.length m2, .slice B3' d.c.length m3, .int .i64 d.h, .int .i64 d.n, .string d.o]) (by simp [results, Tryz.results60, go_sem, *]) rfl ⟨_, rfl, datOf_top (datOf_base (datOf_rows (lo := w.heap.size + 1 + 1)
    (by repeat (first | with_reducible exact R13 | ((with_reducible refine row_store ?_ ?hh); case hh => omega)))
    (by repeat (first | with_reducible exact R23 | ((with_reducible refine row_store ?_ ?hh); case hh => omega)))
    (by repeat (first | with_reducible exact R33 | ((with_reducible refine row_store ?_ ?hh); case hh => omega))) Hl.out P12 P13 P23) (by omega)) (Nat.le_refl _), ?_⟩
  repeat (first | with_reducible exact B3 | with_reducible refine Below.setCell ?_ (by simp; try omega) _)

end Go.Proofs.YthnbaeamekolmaaGreatDoor

namespace Go.Proofs.YthnbaeamekolmaaGreatDoor
open Go.RowKit
set_option linter.unusedVariables false
set_option linter.unusedSimpArgs false

/-- Push: the data, the throw, the code. -/
def dPush (d : Dt) (n : Int) : Dt × Int × Int :=
  if dOK d = false then (noDt, 0, 1) else if cellB n = false then (noDt, 0, 4) else if d.s.length = 32 then (d, -3, 0) else ({ d with s := d.s ++ [n] }, 0, 0)
/-- The top of the stack. -/
def topOf (d : Dt) : Int := d.s.getLastD 0
/-- Pop: the data, the top, the throw, the code. -/
def dPop (d : Dt) : Dt × Int × Int × Int :=
  if dOK d = false then (noDt, 0, 0, 1) else if d.s.length = 0 then (d, 0, -4, 0) else ({ d with s := d.s.dropLast }, topOf d, 0, 0)
/-- The place of an address. -/
def dPlace (d : Dt) (x : Int) : Option Nat := if 4096 ≤ x ∧ x < 4096 + 4 * d.h ∧ x % 4 = 0 then some ((x - 4096) / 4).toNat else none
/-- Fetch: the cell, the throw, the code. -/
def dFetch (d : Dt) (x : Int) : Int × Int × Int :=
  if dOK d = false then (0, 0, 1) else match dPlace d x with | none => (0, -9, 0) | some k => (d.c.getD k 0, 0, 0)
/-- Store. -/
def dStore (d : Dt) (x n : Int) : Dt × Int × Int :=
  if dOK d = false then (noDt, 0, 1) else if cellB n = false then (noDt, 0, 4) else match dPlace d x with | none => (d, -9, 0) | some k => ({ d with c := d.c.set k n }, 0, 0)
/-- Zeros at k places from a on. -/
def zeroN (c : List Int) (a k : Nat) : List Int := c.take a ++ (List.replicate k 0 ++ c.drop (a + k))
/-- Is the number of bytes a move of the end? -/
def goodMove (d : Dt) (n : Int) : Prop := n.tmod 4 = 0 ∧ 0 ≤ d.h + n.tdiv 4 ∧ d.h + n.tdiv 4 ≤ 32
instance (d : Dt) (n : Int) : Decidable (goodMove d n) := by unfold goodMove; infer_instance
/-- AllotCells. -/
def dAllot (d : Dt) (n : Int) : Dt × Int × Int :=
  if dOK d = false then (noDt, 0, 1) else if cellB n = false then (noDt, 0, 4) else if goodMove d n then ({ d with c := zeroN d.c d.h.toNat (n.tdiv 4).toNat, h := d.h + n.tdiv 4 }, 0, 0) else (d, -8, 0)
/-- Say. -/
def dSay (d : Dt) (t : ByteArray) : Dt × Int × Int :=
  if 65536 < t.size then (noDt, 0, 2) else if dOK d = false then (noDt, 0, 1) else if 300 < d.o.size + t.size then (d, -17, 0) else ({ d with o := d.o ++ t }, 0, 0)

theorem fine_small {d : Dt} (h : DtFine d) : SmallD d := by
  have h1 := fine_sl h; have h2 := fine_bl h; have h3 := fine_cl h; have h4 := fine_o h
  exact ⟨by omega, by omega, by omega, by omega⟩

/-- Data that reads, and one more result or two. -/
def ReadOf (w : World) (r : Dt) (rest : List Int) (e : Ending) (w' : World) : Prop := ∃ u, e = .returned (.tuple (u :: rest.map (Value.int .i64)).toArray) ∧ DatIn w' u r ∧ Below w.heap.size w w'

/-- Data handed back in memory of its own, and two or three results more. -/
def ResOf (w : World) (r : Dt) (rest : List Int) (e : Ending) (w' : World) : Prop := ∃ u, e = .returned (.tuple (u :: rest.map (Value.int .i64)).toArray) ∧ DatOf w' w.heap.size w'.heap.size u r ∧ Below w.heap.size w w'

/-- Data with another stack. -/
theorem datIn_stack {w : World} {A1 A2 A3 : Option Addr} {k1 k2 k3 n : Nat} {d : Dt} (h : DatIn w (.agg #[.slice A1 d.s.length k1, .slice A2 d.b.length k2, .slice A3 d.c.length k3, .int .i64 d.h, .int .i64 d.n, .string d.o]) d) {x : Value} {zs : List Int} (hx : Ints w x zs) :
    DatIn w (.agg #[x, .slice A2 d.b.length k2, .slice A3 d.c.length k3, .int .i64 d.h, .int .i64 d.n, .string d.o]) { d with s := zs } := by
  obtain ⟨x0, y0, z0, hv, h1, h2, h3, h4⟩ := h
  simp only [Value.agg.injEq, Array.mk.injEq, List.cons.injEq, and_true, true_and] at hv
  obtain ⟨rfl, rfl, rfl⟩ := hv
  exact ⟨_, _, _, rfl, hx, h2, h3, h4⟩

theorem datIn_cells {w : World} {A1 A2 A3 : Option Addr} {k1 k2 k3 n : Nat} {d : Dt} {h' : Int} (h : DatIn w (.agg #[.slice A1 d.s.length k1, .slice A2 d.b.length k2, .slice A3 d.c.length k3, .int .i64 d.h, .int .i64 d.n, .string d.o]) d) {x : Value} {zs : List Int} (hx : Ints w x zs) :
    DatIn w (.agg #[.slice A1 d.s.length k1, .slice A2 d.b.length k2, x, .int .i64 h', .int .i64 d.n, .string d.o]) { d with c := zs, h := h' } := by
  obtain ⟨x0, y0, z0, hv, h1, h2, h3, h4⟩ := h
  simp only [Value.agg.injEq, Array.mk.injEq, List.cons.injEq, and_true, true_and] at hv
  obtain ⟨rfl, rfl, rfl⟩ := hv
  exact ⟨_, _, _, rfl, h1, h2, hx, h4⟩

theorem datIn_out {w : World} {A1 A2 A3 : Option Addr} {k1 k2 k3 : Nat} {d : Dt} {t : ByteArray} (h : DatIn w (.agg #[.slice A1 d.s.length k1, .slice A2 d.b.length k2, .slice A3 d.c.length k3, .int .i64 d.h, .int .i64 d.n, .string d.o]) d) (ht : t.size ≤ maxLen) :
    DatIn w (.agg #[.slice A1 d.s.length k1, .slice A2 d.b.length k2, .slice A3 d.c.length k3, .int .i64 d.h, .int .i64 d.n, .string t]) { d with o := t } := by
  obtain ⟨x0, y0, z0, hv, h1, h2, h3, h4⟩ := h
  simp only [Value.agg.injEq, Array.mk.injEq, List.cons.injEq, and_true, true_and] at hv
  obtain ⟨rfl, rfl, rfl⟩ := hv
  exact ⟨_, _, _, rfl, h1, h2, h3, ht⟩

theorem ints_store {w : World} {base g i : Nat} {v u : Value} {zs : List Int} (h : Row w base v zs) (hg : g < base) : Ints (w.setCell ⟨g, i, none⟩ u) v zs := row_ints (row_store h hg)

/-- One number in a new block. -/
theorem ints_one (w : World) (n : Int) : Ints (w.alloc (.cells #[.int .i64 n] 3)) (.slice (some ⟨w.heap.size, 0, none⟩) 1 1) [n] :=
  row_ints (base := 0) (zs := [n]) (row_whole (whole_new w _ _) (Nat.zero_le _) (by unfold maxLen; simp))

end Go.Proofs.YthnbaeamekolmaaGreatDoor
