/- A script's data as a value: what reads as it, what is owned as it; its size, its copy out of an argument. -/
import Derived.Test.YthnbaeamekolmaaGreatDoorRowB
import Derived.Laws.Tables
namespace Go.Proofs.YthnbaeamekolmaaGreatDoor
open Go.RowKit
set_option linter.unusedVariables false
set_option linter.unusedSimpArgs false

/-- A script's data: the stacks, the cells, how many are allotted, the base, the output. -/
structure Dt where
  s : List Int
  b : List Int
  c : List Int
  h : Int
  n : Int
  o : ByteArray

/-- No block is both's. -/
def Parted (x y : Value) : Prop := ∀ g, x.ownBlock = some g → y.ownBlock ≠ some g

/-- The value reads as this data. -/
def DatIn (w : World) (v : Value) (d : Dt) : Prop :=
  ∃ x y z, v = .agg #[x, y, z, .int .i64 d.h, .int .i64 d.n, .string d.o] ∧ Ints w x d.s ∧ Ints w y d.b ∧ Ints w z d.c ∧ d.o.size ≤ maxLen

/-- The value is this data, its rows in blocks of their own from lo on and below hi. -/
def DatOf (w : World) (lo hi : Nat) (v : Value) (d : Dt) : Prop :=
  ∃ x y z, v = .agg #[x, y, z, .int .i64 d.h, .int .i64 d.n, .string d.o] ∧ Row w lo x d.s ∧ Row w lo y d.b ∧ Row w lo z d.c ∧ d.o.size ≤ maxLen ∧ Parted x y ∧ Parted x z ∧ Parted y z ∧
    ∀ g, x.ownBlock = some g ∨ y.ownBlock = some g ∨ z.ownBlock = some g → g < hi

/-- Blocks that were there turn from lo to hi alone. -/
structure Within (lo hi : Nat) (w w' : World) : Prop where
  os : w'.os = w.os
  tape : w'.tape = w.tape
  output : w'.output = w.output
  size : w.heap.size ≤ w'.heap.size
  block : ∀ k, k < w.heap.size → (k < lo ∨ hi ≤ k) → w'.heap[k]? = w.heap[k]?

theorem within_below {lo hi : Nat} {w w' : World} (h : Within lo hi w w') (hl : lo ≤ w.heap.size) : Below lo w w' := ⟨h.os, h.tape, h.output, h.size, fun k hk => h.block k (by omega) (.inl hk)⟩

theorem below_within {lo hi : Nat} {w w' : World} (h : Below w.heap.size w w') : Within lo hi w w' := ⟨h.os, h.tape, h.output, h.size, fun k hk _ => h.block k hk⟩

theorem within_trans {lo hi : Nat} {a b c : World} (h : Within lo hi a b) (k : Within lo hi b c) : Within lo hi a c :=
  ⟨k.os.trans h.os, k.tape.trans h.tape, k.output.trans h.output, Nat.le_trans h.size k.size, fun i hi' ho => (k.block i (Nat.lt_of_lt_of_le hi' h.size) ho).trans (h.block i hi' ho)⟩

theorem within_grown {lo hi : Nat} {w w' : World} {r : Option Nat} (h : w.grownBy w' r) (hr : ∀ g, r = some g → lo ≤ g ∧ g < hi) : Within lo hi w w' :=
  ⟨h.os, h.tape, h.output, h.size, fun k hk ho => h.block k hk (fun e => by have := hr k e.symm; omega)⟩

theorem below_step {a b c : World} (h : Below a.heap.size a b) (k : Below b.heap.size b c) : Below a.heap.size a c := h.trans (k.mono h.size)

theorem below_alloc {a b : World} (h : Below a.heap.size a b) (o : Obj) : Below a.heap.size a (b.alloc o) := h.alloc h.size o

theorem below_drewN {B : Nat} {a b : World} (h : Below B a b) (n : Nat) : Below B a (b.drewN n) := ⟨h.os, h.tape, h.output, h.size, h.block⟩

theorem parted_sym {x y : Value} (h : Parted x y) : Parted y x := fun g hg hx => h g hx hg

theorem parted_nil (x : Value) : Parted (.slice none 0 0) x := fun g hg => by simp [Value.ownBlock] at hg

/-- A row that was there, and one made since. -/
theorem parted_later {w w' : World} {lo : Nat} {x y : Value} {p q : List Int} (h : Row w lo x p) (k : Row w' w.heap.size y q) : Parted x y := fun g hg hy => by
  have h1 := row_lt h g hg
  have h2 := row_lt k g hy
  omega

theorem datIn_keep {w w' : World} {v : Value} {d : Dt} (h : DatIn w v d) (hk : ∀ (x : Addr) (u : Value), w.cell? x = some u → w'.cell? x = some u) : DatIn w' v d := by
  obtain ⟨x, y, z, hv, h1, h2, h3, h4⟩ := h
  exact ⟨x, y, z, hv, ints_keep h1 hk, ints_keep h2 hk, ints_keep h3 hk, h4⟩

theorem datIn_below {w w' : World} {v : Value} {d : Dt} (h : DatIn w v d) (hb : Below w.heap.size w w') : DatIn w' v d :=
  datIn_keep h fun x u hx => by rw [hb.cell (World.block_lt_of_cell? w x hx)]; exact hx

theorem datOf_in {w : World} {lo hi : Nat} {v : Value} {d : Dt} (h : DatOf w lo hi v d) : DatIn w v d := by
  obtain ⟨x, y, z, hv, h1, h2, h3, h4, _⟩ := h
  exact ⟨x, y, z, hv, row_ints h1, row_ints h2, row_ints h3, h4⟩

theorem datOf_keep {w w' : World} {lo hi : Nat} {v : Value} {d : Dt} (h : DatOf w lo hi v d) (hk : ∀ g, g < w.heap.size → lo ≤ g → g < hi → w'.heap[g]? = w.heap[g]?) : DatOf w' lo hi v d := by
  obtain ⟨x, y, z, hv, h1, h2, h3, h4, p1, p2, p3, hh⟩ := h
  exact ⟨x, y, z, hv, row_keep h1 fun g hg => hk g (row_lt h1 g hg).2 (row_lt h1 g hg).1 (hh g (.inl hg)), row_keep h2 fun g hg => hk g (row_lt h2 g hg).2 (row_lt h2 g hg).1 (hh g (.inr (.inl hg))),
    row_keep h3 fun g hg => hk g (row_lt h3 g hg).2 (row_lt h3 g hg).1 (hh g (.inr (.inr hg))), h4, p1, p2, p3, hh⟩

theorem datOf_below {w w' : World} {lo hi : Nat} {v : Value} {d : Dt} (h : DatOf w lo hi v d) (hb : Below w.heap.size w w') : DatOf w' lo hi v d := datOf_keep h fun g hg _ _ => hb.block g hg

theorem datOf_within {w w' : World} {lo hi lo' hi' : Nat} {v : Value} {d : Dt} (h : DatOf w lo hi v d) (hb : Within lo' hi' w w') (ha : hi ≤ lo' ∨ hi' ≤ lo) : DatOf w' lo hi v d :=
  datOf_keep h fun g hg h1 h2 => hb.block g hg (by omega)

theorem datOf_base {w : World} {lo lo' hi : Nat} {v : Value} {d : Dt} (h : DatOf w lo hi v d) (hl : lo' ≤ lo) : DatOf w lo' hi v d := by
  obtain ⟨x, y, z, hv, h1, h2, h3, h4, p⟩ := h
  exact ⟨x, y, z, hv, row_base h1 hl, row_base h2 hl, row_base h3 hl, h4, p⟩

theorem datOf_top {w : World} {lo hi hi' : Nat} {v : Value} {d : Dt} (h : DatOf w lo hi v d) (hl : hi ≤ hi') : DatOf w lo hi' v d := by
  obtain ⟨x, y, z, hv, h1, h2, h3, h4, p1, p2, p3, hh⟩ := h
  exact ⟨x, y, z, hv, h1, h2, h3, h4, p1, p2, p3, fun g hg => Nat.lt_of_lt_of_le (hh g hg) hl⟩

/-- Three rows, made one after another. -/
theorem datOf_rows {w : World} {lo : Nat} {x y z : Value} {d : Dt} (h1 : Row w lo x d.s) (h2 : Row w lo y d.b) (h3 : Row w lo z d.c) (h4 : d.o.size ≤ maxLen) (p1 : Parted x y) (p2 : Parted x z) (p3 : Parted y z) :
    DatOf w lo w.heap.size (.agg #[x, y, z, .int .i64 d.h, .int .i64 d.n, .string d.o]) d :=
  ⟨x, y, z, rfl, h1, h2, h3, h4, p1, p2, p3, fun g hg => by
    rcases hg with hg | hg | hg
    · exact (row_lt h1 g hg).2
    · exact (row_lt h2 g hg).2
    · exact (row_lt h3 g hg).2⟩

/-- No data. -/
def noDt : Dt := ⟨[], [], [], 0, 0, ByteArray.empty⟩

theorem datOf_none (w : World) (lo hi : Nat) : DatOf w lo hi (.agg #[.slice none 0 0, .slice none 0 0, .slice none 0 0, .int .i64 0, .int .i64 0, .string ByteArray.empty]) noDt :=
  ⟨_, _, _, rfl, row_nil w lo, row_nil w lo, row_nil w lo, by decide, parted_nil _, parted_nil _, parted_nil _, fun g hg => by simp [Value.ownBlock] at hg⟩

theorem size_dt : (Tryz.prog.info? 40).map (·.size) = some 6 := by kernel_rfl

theorem wpList_load_dt {ops : Array Oper} {rest : List Oper} {o : Oper} {a : Act} {w : World} {Q : Exit → Act → World → Prop} (hgd : o.guard = none) (x : Operand) (ho : o.op = .load 40 x)
    (g : Nat) (hx : a.eval x = .pointer (some ⟨g, 0, none⟩)) (t : TypeId) (c0 c1 c2 c3 c4 c5 : Value) (hg : Whole w g t #[c0, c1, c2, c3, c4, c5])
    (h : wpList Tryz.prog ops Q rest (a.put o.dst (.agg #[c0, c1, c2, c3, c4, c5])) w) : wpList Tryz.prog ops Q (o :: rest) a w :=
  wpList_load_row hgd 40 x ho g hx t _ (0, 0) _ hg Tryz.underlying40 rfl size_dt h

theorem results_dt {fn : Func} {p : Tmp} (h : fn.results = #[.cell p 40]) (tmps : Array Value) (w : World) (g : Nat) (t : TypeId) (c0 c1 c2 c3 c4 c5 : Value)
    (hp : tmps.getD p undef = .pointer (some ⟨g, 0, none⟩)) (hg : Whole w g t #[c0, c1, c2, c3, c4, c5]) : (results fn tmps).run Tryz.prog w = .ok (.agg #[c0, c1, c2, c3, c4, c5]) w :=
  results_cell_row h tmps w g t _ (0, 0) _ hp hg Tryz.underlying40 rfl size_dt

/-- The data is small. -/
def SmallD (d : Dt) : Prop := d.s.length ≤ 1048576 ∧ d.b.length ≤ 1048576 ∧ d.c.length ≤ 1048576 ∧ d.o.size ≤ 1048576

/-- What is left of a size: below 0, or the data is small. -/
def SzOf (w : World) (d : Dt) (e : Ending) (w' : World) : Prop := ∃ r : Int, e = .returned (.int .i64 r) ∧ (r = -1 ∨ (0 ≤ r ∧ r ≤ 1048576 ∧ SmallD d)) ∧ Below w.heap.size w w'

set_option maxRecDepth 100000 in
set_option maxHeartbeats 1000000 in
theorem szData_any (v : Value) (d : Dt) (left : Int) (w : World) (hv : DatIn w v d) (h0 : 0 ≤ left) (h1 : left ≤ 1048576) :
    Calls Tryz.prog 28 #[v, .int .i64 left] w (SzOf w d) := by
  obtain ⟨x, y, z, rfl, ⟨ls, A, ca, rfl, _⟩, ⟨lb, B, cb, rfl, _⟩, ⟨lc, C, cc, rfl, _⟩, lo⟩ := hv
  have Ls := Lib.hid ls
  have Lb := Lib.hid lb
  have Lc := Lib.hid lc
  unfold maxLen at ls lb lc lo
  have SM : Hid (SmallD d ↔ d.s.length ≤ 1048576 ∧ d.b.length ≤ 1048576 ∧ d.c.length ≤ 1048576 ∧ d.o.size ≤ 1048576) := Lib.hid Iff.rfl
  by_cases t1 : left - d.s.length < 0
  · have e1 : leftOf left d.s.length = -1 := by unfold leftOf; rw [if_pos t1]
    go_enter Tryz.func28, Tryz.ntmps28
    go_wp2_with (go_at_call 72; refine (szInts_any _ _ _ _ _ (by first | exact Ls.out | exact Lb.out | exact Lc.out) (by omega) (by omega)).mono ?_; rintro e w' ⟨rfl, rfl⟩)
    go_ret
    exact ⟨_, rfl, .inl rfl, below_alloc (Below.refl _ _) _⟩
  · have e1 : leftOf left d.s.length = left - d.s.length := by unfold leftOf; rw [if_neg t1]
    have q1 : 0 ≤ left - d.s.length := by omega
    by_cases t2 : left - d.s.length - d.b.length < 0
    · have e2 : leftOf (left - d.s.length) d.b.length = -1 := by unfold leftOf; rw [if_pos t2]
      go_enter Tryz.func28, Tryz.ntmps28
      go_wp2_with (go_at_call 72; refine (szInts_any _ _ _ _ _ (by first | exact Ls.out | exact Lb.out | exact Lc.out) (by omega) (by omega)).mono ?_; rintro e w' ⟨rfl, rfl⟩)
      go_ret
      exact ⟨_, rfl, .inl rfl, below_alloc (Below.refl _ _) _⟩
    · have e2 : leftOf (left - d.s.length) d.b.length = left - d.s.length - d.b.length := by unfold leftOf; rw [if_neg t2]
      have q2 : 0 ≤ left - d.s.length - d.b.length := by omega
      by_cases t3 : left - d.s.length - d.b.length - d.c.length < 0
      · have e3 : leftOf (left - d.s.length - d.b.length) d.c.length = -1 := by unfold leftOf; rw [if_pos t3]
        go_enter Tryz.func28, Tryz.ntmps28
        go_wp2_with (go_at_call 72; refine (szInts_any _ _ _ _ _ (by first | exact Ls.out | exact Lb.out | exact Lc.out) (by omega) (by omega)).mono ?_; rintro e w' ⟨rfl, rfl⟩)
        go_ret
        exact ⟨_, rfl, .inl rfl, below_alloc (Below.refl _ _) _⟩
      · have e3 : leftOf (left - d.s.length - d.b.length) d.c.length = left - d.s.length - d.b.length - d.c.length := by unfold leftOf; rw [if_neg t3]
        have q3 : 0 ≤ left - d.s.length - d.b.length - d.c.length := by omega
        by_cases t4 : left - d.s.length - d.b.length - d.c.length - d.o.size < 0
        all_goals
          go_enter Tryz.func28, Tryz.ntmps28
          go_wp2_with (go_at_call 72; refine (szInts_any _ _ _ _ _ (by first | exact Ls.out | exact Lb.out | exact Lc.out) (by omega) (by omega)).mono ?_; rintro e w' ⟨rfl, rfl⟩)
          go_ret
        · exact ⟨_, rfl, .inl rfl, below_alloc (Below.refl _ _) _⟩
        · exact ⟨_, rfl, .inr ⟨by omega, by omega, SM.out.2 ⟨by omega, by omega, by omega, by omega⟩⟩, below_alloc (Below.refl _ _) _⟩

end Go.Proofs.YthnbaeamekolmaaGreatDoor
