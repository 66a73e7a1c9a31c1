/- PkB: several of my texts, laid together: HoA, HoB, Onl, HsA, HsB, HsC, HsD, HsE, HsF, HsJ, HsK, HcA, HoL. -/
import Derived.Test.YtkcogfgjabemfaaGreatDoorBoB
import Derived.Test.YtkcogfgjabemfaaGreatDoorDeB
import Derived.Test.YtkcogfgjabemfaaGreatDoorDatC
import Derived.Test.YtkcogfgjabemfaaGreatDoorDatD
import Derived.Test.YtkcogfgjabemfaaGreatDoorDatO
import Derived.Test.YtkcogfgjabemfaaGreatDoorDatP
import Derived.RegionTactic
import Derived.Test.YtkcogfgjabemfaaGreatDoorDatL
import Derived.Deep.Slices
import Derived.Deep.Grids
namespace Go.Proofs.YtkcogfgjabemfaaGreatDoor
open Go.RowKit
set_option linter.unusedVariables false
set_option linter.unusedSimpArgs false

/-- A host: what is granted, the store, the answers, the clock, the deeds. -/
structure Ht where
  g : List Bool
  s : List Int
  n : List Int
  c : Int
  d : List Dd

/-- The value reads as this host. -/
def HostIn (w : World) (v : Value) (h : Ht) : Prop :=
  ∃ x y z q, v = .agg #[x, y, z, .int .i64 h.c, q] ∧ Bols w x h.g ∧ Ints w y h.s ∧ Ints w z h.n ∧ Dds w q h.d

/-- The value is this host, its rows in blocks of their own from lo on and below hi. -/
def HostOf (w : World) (lo hi : Nat) (v : Value) (h : Ht) : Prop :=
  ∃ x y z q, v = .agg #[x, y, z, .int .i64 h.c, q] ∧ BoRow w lo x h.g ∧ Row w lo y h.s ∧ Row w lo z h.n ∧ DRow w lo q h.d ∧ Parted x y ∧ Parted x z ∧ Parted x q ∧ Parted y z ∧ Parted y q ∧ Parted z q ∧
    ∀ g, x.ownBlock = some g ∨ y.ownBlock = some g ∨ z.ownBlock = some g ∨ q.ownBlock = some g → g < hi

theorem parted_lt {x y : Value} {n : Nat} (h : ∀ g, x.ownBlock = some g → g < n) (k : ∀ g, y.ownBlock = some g → n ≤ g) : Parted x y := fun g hg hy => by
  have h1 := h g hg
  have h2 := k g hy
  omega

theorem borow_store {w : World} {lo g i : Nat} {v u : Value} {zs : List Bool} (h : BoRow w lo v zs) (hg : g < lo) : BoRow (w.setCell ⟨g, i, none⟩ u) lo v zs :=
  borow_keep h fun k hk => Below.heap_setCell w _ u k (by have := borow_lt h k hk; show k ≠ g; omega)

theorem drow_store {w : World} {lo g i : Nat} {v u : Value} {zs : List Dd} (h : DRow w lo v zs) (hg : g < lo) : DRow (w.setCell ⟨g, i, none⟩ u) lo v zs :=
  drow_keep h fun k hk => Below.heap_setCell w _ u k (by have := drow_lt h k hk; show k ≠ g; omega)

theorem hostIn_keep {w w' : World} {v : Value} {h : Ht} (hv : HostIn w v h) (hk : ∀ (x : Addr) (u : Value), w.cell? x = some u → w'.cell? x = some u) : HostIn w' v h := by
  obtain ⟨x, y, z, q, e, h1, h2, h3, h4⟩ := hv
  exact ⟨x, y, z, q, e, bols_keep h1 hk, ints_keep h2 hk, ints_keep h3 hk, dds_keep h4 hk⟩

theorem hostIn_below {w w' : World} {v : Value} {h : Ht} (hv : HostIn w v h) (hb : Below w.heap.size w w') : HostIn w' v h := hostIn_keep hv (cell_kept hb)

theorem hostOf_in {w : World} {lo hi : Nat} {v : Value} {h : Ht} (hv : HostOf w lo hi v h) : HostIn w v h := by
  obtain ⟨x, y, z, q, e, h1, h2, h3, h4, _⟩ := hv
  exact ⟨x, y, z, q, e, borow_bols h1, row_ints h2, row_ints h3, drow_dds h4⟩

theorem hostOf_keep {w w' : World} {lo hi : Nat} {v : Value} {h : Ht} (hv : HostOf w lo hi v h) (hk : ∀ g, g < w.heap.size → lo ≤ g → g < hi → w'.heap[g]? = w.heap[g]?) : HostOf w' lo hi v h := by
  obtain ⟨x, y, z, q, e, h1, h2, h3, h4, p1, p2, p3, p4, p5, p6, hh⟩ := hv
  exact ⟨x, y, z, q, e, borow_keep h1 fun g hg => hk g (borow_lt h1 g hg).2 (borow_lt h1 g hg).1 (hh g (.inl hg)), row_keep h2 fun g hg => hk g (row_lt h2 g hg).2 (row_lt h2 g hg).1 (hh g (.inr (.inl hg))),
    row_keep h3 fun g hg => hk g (row_lt h3 g hg).2 (row_lt h3 g hg).1 (hh g (.inr (.inr (.inl hg)))), drow_keep h4 fun g hg => hk g (drow_lt h4 g hg).2 (drow_lt h4 g hg).1 (hh g (.inr (.inr (.inr hg)))), p1, p2, p3, p4, p5, p6, hh⟩

theorem hostOf_below {w w' : World} {lo hi : Nat} {v : Value} {h : Ht} (hv : HostOf w lo hi v h) (hb : Below w.heap.size w w') : HostOf w' lo hi v h := hostOf_keep hv fun g hg _ _ => hb.block g hg

theorem hostOf_b {w w' : World} {lo hi : Nat} {v : Value} {h : Ht} (hb : Below w.heap.size w w') (hv : HostOf w lo hi v h) : HostOf w' lo hi v h := hostOf_below hv hb

theorem hostOf_within {w w' : World} {lo hi lo' hi' : Nat} {v : Value} {h : Ht} (hv : HostOf w lo hi v h) (hb : Within lo' hi' w w') (ha : hi ≤ lo' ∨ hi' ≤ lo) : HostOf w' lo hi v h :=
  hostOf_keep hv fun g hg h1 h2 => hb.block g hg (by omega)

theorem hostOf_base {w : World} {lo lo' hi : Nat} {v : Value} {h : Ht} (hv : HostOf w lo hi v h) (hl : lo' ≤ lo) : HostOf w lo' hi v h := by
  obtain ⟨x, y, z, q, e, h1, h2, h3, h4, p⟩ := hv
  exact ⟨x, y, z, q, e, borow_base h1 hl, row_base h2 hl, row_base h3 hl, drow_base h4 hl, p⟩

theorem hostOf_top {w : World} {lo hi hi' : Nat} {v : Value} {h : Ht} (hv : HostOf w lo hi v h) (hl : hi ≤ hi') : HostOf w lo hi' v h := by
  obtain ⟨x, y, z, q, e, h1, h2, h3, h4, p1, p2, p3, p4, p5, p6, hh⟩ := hv
  exact ⟨x, y, z, q, e, h1, h2, h3, h4, p1, p2, p3, p4, p5, p6, fun g hg => Nat.lt_of_lt_of_le (hh g hg) hl⟩

theorem hostOf_rows {w : World} {lo : Nat} {x y z q : Value} {h : Ht} (h1 : BoRow w lo x h.g) (h2 : Row w lo y h.s) (h3 : Row w lo z h.n) (h4 : DRow w lo q h.d) (p1 : Parted x y) (p2 : Parted x z) (p3 : Parted x q) (p4 : Parted y z) (p5 : Parted y q) (p6 : Parted z q) :
    HostOf w lo w.heap.size (.agg #[x, y, z, .int .i64 h.c, q]) h :=
  ⟨x, y, z, q, rfl, h1, h2, h3, h4, p1, p2, p3, p4, p5, p6, fun g hg => by
    rcases hg with hg | hg | hg | hg
    · exact (borow_lt h1 g hg).2
    · exact (row_lt h2 g hg).2
    · exact (row_lt h3 g hg).2
    · exact (drow_lt h4 g hg).2⟩

theorem hostIn_form {w : World} {v : Value} {h : Ht} (hv : HostIn w v h) : ∃ A1 k1 A2 k2 A3 k3 A4 k4, v = .agg #[.slice A1 h.g.length k1, .slice A2 h.s.length k2, .slice A3 h.n.length k3, .int .i64 h.c, .slice A4 h.d.length k4] := by
  obtain ⟨x, y, z, q, rfl, ⟨_, A1, k1, rfl, _⟩, ⟨_, A2, k2, rfl, _⟩, ⟨_, A3, k3, rfl, _⟩, ⟨_, A4, k4, rfl, _⟩⟩ := hv
  exact ⟨_, _, _, _, _, _, _, _, rfl⟩

/-- No host. -/
def noHt : Ht := ⟨[], [], [], 0, []⟩

theorem hostOf_none (w : World) (lo hi : Nat) : HostOf w lo hi (.agg #[.slice none 0 0, .slice none 0 0, .slice none 0 0, .int .i64 0, .slice none 0 0]) noHt :=
  ⟨_, _, _, _, rfl, borow_nil w lo, row_nil w lo, row_nil w lo, drow_nil w lo, parted_nil _, parted_nil _, parted_nil _, parted_nil _, parted_nil _, parted_nil _, fun g hg => by simp [Value.ownBlock] at hg⟩

/-- The host is small. -/
def SmallH (h : Ht) : Prop := h.g.length ≤ 1048576 ∧ h.s.length ≤ 1048576 ∧ h.n.length ≤ 1048576 ∧ h.d.length ≤ 1048576

theorem small_noHt : SmallH noHt := by unfold SmallH noHt; decide

theorem five_cells {w : World} {g : Nat} {t : TypeId} {a b c d e : Value} (h : Whole w g t #[a, b, c, d, e]) :
    w.cell? ⟨g, 0, none⟩ = some a ∧ w.cell? ⟨g, 1, none⟩ = some b ∧ w.cell? ⟨g, 2, none⟩ = some c ∧ w.cell? ⟨g, 3, none⟩ = some d ∧ w.cell? ⟨g, 4, none⟩ = some e :=
  ⟨whole_cell h 0, whole_cell h 1, whole_cell h 2, whole_cell h 3, whole_cell h 4⟩

/-- What is left of a size: below 0, or the host is small. -/
def SzHOf (w : World) (h : Ht) (e : Ending) (w' : World) : Prop := ∃ r : Int, e = .returned (.int .i64 r) ∧ (r = -1 ∨ (0 ≤ r ∧ r ≤ 1048576 ∧ SmallH h)) ∧ Below w.heap.size w w'

set_option maxRecDepth 100000 in
set_option maxHeartbeats 1000000 in
theorem szHost_any (v : Value) (h : Ht) (left : Int) (w : World) (hv : HostIn w v h) (h0 : 0 ≤ left) (h1 : left ≤ 1048576) :
    Calls Tryz.prog 15 #[v, .int .i64 left] w (SzHOf w h) := by
  obtain ⟨x, y, z, q, rfl, ⟨l1, A, ca, rfl, _⟩, ⟨l2, B, cb, rfl, _⟩, ⟨l3, C, cc, rfl, _⟩, ⟨l4, D, cd, rfl, _⟩⟩ := hv
  have L1 := Lib.hid l1
  have L2 := Lib.hid l2
  have L3 := Lib.hid l3
  have L4 := Lib.hid l4
  unfold maxLen at l1 l2 l3 l4
  have SM : Hid (SmallH h ↔ h.g.length ≤ 1048576 ∧ h.s.length ≤ 1048576 ∧ h.n.length ≤ 1048576 ∧ h.d.length ≤ 1048576) := Lib.hid Iff.rfl
  by_cases t1 : left - h.g.length < 0
  · have e1 : leftOf left h.g.length = -1 := by unfold leftOf; rw [if_pos t1]
    go_enter Tryz.func15, Tryz.ntmps15
    go_wp2_with (first | (go_at_call 13; refine (szInts_any _ _ _ _ _ (by first | exact L2.out | exact L3.out) (by omega) (by omega)).mono ?_; rintro e w' ⟨rfl, rfl⟩) | (go_at_call 35; refine (szBools_any _ _ _ _ _ L1.out (by omega) (by omega)).mono ?_; rintro e w' ⟨rfl, rfl⟩) | (go_at_call 36; refine (szDeeds_any _ _ _ _ _ L4.out (by omega) (by omega)).mono ?_; rintro e w' ⟨rfl, rfl⟩))
    go_ret
    exact ⟨_, rfl, .inl rfl, below_alloc (Below.refl _ _) _⟩
  · have e1 : leftOf left h.g.length = left - h.g.length := by unfold leftOf; rw [if_neg t1]
    have q1 : 0 ≤ left - h.g.length := by omega
    by_cases t2 : left - h.g.length - h.s.length < 0
    · have e2 : leftOf (left - h.g.length) h.s.length = -1 := by unfold leftOf; rw [if_pos t2]
      go_enter Tryz.func15, Tryz.ntmps15
      go_wp2_with (first | (go_at_call 13; refine (szInts_any _ _ _ _ _ (by first | exact L2.out | exact L3.out) (by omega) (by omega)).mono ?_; rintro e w' ⟨rfl, rfl⟩) | (go_at_call 35; refine (szBools_any _ _ _ _ _ L1.out (by omega) (by omega)).mono ?_; rintro e w' ⟨rfl, rfl⟩) | (go_at_call 36; refine (szDeeds_any _ _ _ _ _ L4.out (by omega) (by omega)).mono ?_; rintro e w' ⟨rfl, rfl⟩))
      go_ret
      exact ⟨_, rfl, .inl rfl, below_alloc (Below.refl _ _) _⟩
    · have e2 : leftOf (left - h.g.length) h.s.length = left - h.g.length - h.s.length := by unfold leftOf; rw [if_neg t2]
      have q2 : 0 ≤ left - h.g.length - h.s.length := by omega
      by_cases t3 : left - h.g.length - h.s.length - h.n.length < 0
      · have e3 : leftOf (left - h.g.length - h.s.length) h.n.length = -1 := by unfold leftOf; rw [if_pos t3]
        go_enter Tryz.func15, Tryz.ntmps15
        go_wp2_with (first | (go_at_call 13; refine (szInts_any _ _ _ _ _ (by first | exact L2.out | exact L3.out) (by omega) (by omega)).mono ?_; rintro e w' ⟨rfl, rfl⟩) | (go_at_call 35; refine (szBools_any _ _ _ _ _ L1.out (by omega) (by omega)).mono ?_; rintro e w' ⟨rfl, rfl⟩) | (go_at_call 36; refine (szDeeds_any _ _ _ _ _ L4.out (by omega) (by omega)).mono ?_; rintro e w' ⟨rfl, rfl⟩))
        go_ret
        exact ⟨_, rfl, .inl rfl, below_alloc (Below.refl _ _) _⟩
      · have e3 : leftOf (left - h.g.length - h.s.length) h.n.length = left - h.g.length - h.s.length - h.n.length := by unfold leftOf; rw [if_neg t3]
        have q3 : 0 ≤ left - h.g.length - h.s.length - h.n.length := by omega
        by_cases t4 : left - h.g.length - h.s.length - h.n.length - h.d.length < 0
        · have e4 : leftOf (left - h.g.length - h.s.length - h.n.length) h.d.length = -1 := by unfold leftOf; rw [if_pos t4]
          go_enter Tryz.func15, Tryz.ntmps15
          go_wp2_with (first | (go_at_call 13; refine (szInts_any _ _ _ _ _ (by first | exact L2.out | exact L3.out) (by omega) (by omega)).mono ?_; rintro e w' ⟨rfl, rfl⟩) | (go_at_call 35; refine (szBools_any _ _ _ _ _ L1.out (by omega) (by omega)).mono ?_; rintro e w' ⟨rfl, rfl⟩) | (go_at_call 36; refine (szDeeds_any _ _ _ _ _ L4.out (by omega) (by omega)).mono ?_; rintro e w' ⟨rfl, rfl⟩))
          go_ret
          exact ⟨_, rfl, .inl rfl, below_alloc (Below.refl _ _) _⟩
        · have e4 : leftOf (left - h.g.length - h.s.length - h.n.length) h.d.length = left - h.g.length - h.s.length - h.n.length - h.d.length := by unfold leftOf; rw [if_neg t4]
          have q4 : 0 ≤ left - h.g.length - h.s.length - h.n.length - h.d.length := by omega
          go_enter Tryz.func15, Tryz.ntmps15
          go_wp2_with (first | (go_at_call 13; refine (szInts_any _ _ _ _ _ (by first | exact L2.out | exact L3.out) (by omega) (by omega)).mono ?_; rintro e w' ⟨rfl, rfl⟩) | (go_at_call 35; refine (szBools_any _ _ _ _ _ L1.out (by omega) (by omega)).mono ?_; rintro e w' ⟨rfl, rfl⟩) | (go_at_call 36; refine (szDeeds_any _ _ _ _ _ L4.out (by omega) (by omega)).mono ?_; rintro e w' ⟨rfl, rfl⟩))
          go_ret
          exact ⟨_, rfl, .inr ⟨by omega, by omega, SM.out.2 ⟨by omega, by omega, by omega, by omega⟩⟩, below_alloc (Below.refl _ _) _⟩

set_option maxRecDepth 100000 in
set_option maxHeartbeats 4000000 in
theorem toHost_any (v : Value) (h : Ht) (w : World) (hv : HostIn w v h) (hs : SmallH h) :
    Calls Tryz.prog 23 #[v] w fun e w' => ∃ u, e = .returned u ∧ HostOf w' w.heap.size w'.heap.size u h ∧ Below w.heap.size w w' := by
  obtain ⟨x, y, z, q, rfl, hx, hy, hz, hq⟩ := hv
  have H1 := Lib.hid hx
  have H2 := Lib.hid hy
  have H3 := Lib.hid hz
  have H4 := Lib.hid hq
  have Hs := Lib.hid hs
  clear hx hy hz hq hs
  go_enter Tryz.func23, Tryz.ntmps23
  go_wp2_with fail
  refine (toBools_any _ h.g _ (bols_below H1.out (below_alloc (below_alloc (below_alloc (Below.refl _ _) _) _) _)) (by have := Hs.out.1; omega)).mono ?_
  rintro e w1 ⟨v1, rfl, hr1, -, hb1⟩
  have z1 : w.heap.size + 1 + 1 + 1 ≤ w1.heap.size := by have := hb1.size; simp at this; omega
  have B1 : Hid (Below w.heap.size w w1) := Lib.hid (below_step (below_alloc (below_alloc (below_alloc (Below.refl _ _) _) _) _) hb1)
  have WA1 := Lib.hid (whole_below (whole_alloc (whole_alloc (whole_new w _ _) _) _) hb1)
  have WR1 := Lib.hid (whole_below (whole_alloc (whole_new1 w _ _ _) _) hb1)
  have WO1 := Lib.hid (whole_below (whole_new2 w _ _ _ _) hb1)
  obtain ⟨_, A1, k1, rfl, _⟩ := borow_bols hr1
  have R1_1 : Hid (BoRow w1 (w.heap.size + 1 + 1 + 1) _ h.g) := Lib.hid (by simpa using hr1)
  have ca := whole_cell WA1.out 1
  have co := whole_cell WO1.out 0
  have fo := whole_free WO1.out
  clear hr1 hb1
  simp at ca co
  go_wp2_with fail
  clear ca co fo
  have B1' := Lib.hid (B1.out.setCell (p := ⟨w.heap.size + 1 + 1, 0, none⟩) (by simp; omega) (.slice A1 h.g.length k1))
  refine (toInts_any _ h.s _ (ints_below H2.out B1'.out) (by have := Hs.out.2.1; omega)).mono ?_
  rintro e w2 ⟨v2, rfl, hr2, -, hb2⟩
  have R1_2 := Lib.hid (borow_below (borow_store (u := .slice A1 h.g.length k1) (i := 0) R1_1.out (Nat.lt_succ_self (w.heap.size + 1 + 1))) hb2)
  have z2 : w.heap.size + 1 + 1 + 1 ≤ w2.heap.size := by have := hb2.size; simp at this; omega
  have B2 : Hid (Below w.heap.size w w2) := Lib.hid (B1'.out.trans (hb2.mono B1'.out.size))
  have WA2 := Lib.hid (whole_below (whole_far WA1.out (p := ⟨w.heap.size + 1 + 1, 0, none⟩) (by simp; omega) (.slice A1 h.g.length k1)) hb2)
  have WR2 := Lib.hid (whole_below (whole_far WR1.out (p := ⟨w.heap.size + 1 + 1, 0, none⟩) (by simp) (.slice A1 h.g.length k1)) hb2)
  have WO2 := Lib.hid (whole_below (whole_set WO1.out 0 (.slice A1 h.g.length k1)) hb2)
  obtain ⟨_, A2, k2, rfl, _⟩ := row_ints hr2
  have P12 := Lib.hid (parted_lt (fun g hg => (borow_lt R1_1.out g hg).2) (fun g hg => by have h1 := (row_lt hr2 g hg).1; simpa using h1))
  have R2_2 : Hid (Row w2 (w.heap.size + 1 + 1 + 1) _ h.s) := Lib.hid (row_base hr2 (by simp; omega))
  have ca := whole_cell WA2.out 2
  have co := whole_cell WO2.out 1
  have fo := whole_free WO2.out
  clear hr2 hb2
  simp at ca co
  go_wp2_with fail
  clear ca co fo
  have B2' := Lib.hid (B2.out.setCell (p := ⟨w.heap.size + 1 + 1, 1, none⟩) (by simp; omega) (.slice A2 h.s.length k2))
  refine (toInts_any _ h.n _ (ints_below H3.out B2'.out) (by have := Hs.out.2.2.1; omega)).mono ?_
  rintro e w3 ⟨v3, rfl, hr3, -, hb3⟩
  have R1_3 := Lib.hid (borow_below (borow_store (u := .slice A2 h.s.length k2) (i := 1) R1_2.out (Nat.lt_succ_self (w.heap.size + 1 + 1))) hb3)
  have R2_3 := Lib.hid (row_below (row_store (u := .slice A2 h.s.length k2) (i := 1) R2_2.out (Nat.lt_succ_self (w.heap.size + 1 + 1))) hb3)
  have z3 : w.heap.size + 1 + 1 + 1 ≤ w3.heap.size := by have := hb3.size; simp at this; omega
  have B3 : Hid (Below w.heap.size w w3) := Lib.hid (B2'.out.trans (hb3.mono B2'.out.size))
  have WA3 := Lib.hid (whole_below (whole_far WA2.out (p := ⟨w.heap.size + 1 + 1, 1, none⟩) (by simp; omega) (.slice A2 h.s.length k2)) hb3)
  have WR3 := Lib.hid (whole_below (whole_far WR2.out (p := ⟨w.heap.size + 1 + 1, 1, none⟩) (by simp) (.slice A2 h.s.length k2)) hb3)
  have WO3 := Lib.hid (whole_below (whole_set WO2.out 1 (.slice A2 h.s.length k2)) hb3)
  obtain ⟨_, A3, k3, rfl, _⟩ := row_ints hr3
  have P13 := Lib.hid (parted_lt (fun g hg => (borow_lt R1_2.out g hg).2) (fun g hg => by have h1 := (row_lt hr3 g hg).1; simpa using h1))
  have P23 := Lib.hid (parted_lt (fun g hg => (row_lt R2_2.out g hg).2) (fun g hg => by have h1 := (row_lt hr3 g hg).1; simpa using h1))
  have R3_3 : Hid (Row w3 (w.heap.size + 1 + 1 + 1) _ h.n) := Lib.hid (row_base hr3 (by simp; omega))
  have ca := whole_cell WA3.out 4
  have cc := whole_cell WA3.out 3
  have co3 := whole_cell WO3.out 3
  have co := whole_cell WO3.out 2
  have fo := whole_free WO3.out
  clear hr3 hb3
  simp at ca co cc co3
  go_wp2_with fail
  clear ca co cc co3 fo
  have B3' := Lib.hid ((B3.out.setCell (p := ⟨w.heap.size + 1 + 1, 2, none⟩) (by simp; omega) (.slice A3 h.n.length k3)).setCell (p := ⟨w.heap.size + 1 + 1, 3, none⟩) (by simp; omega) (.int .i64 h.c))
  refine (toDeedS_any _ h.d _ (dds_below H4.out B3'.out) Hs.out.2.2.2).mono ?_
  rintro e w4 ⟨v4, rfl, hr4, -, hb4⟩
  have R1_4 := Lib.hid (borow_below (borow_store (u := .int .i64 h.c) (i := 3) (borow_store (u := .slice A3 h.n.length k3) (i := 2) R1_3.out (Nat.lt_succ_self (w.heap.size + 1 + 1))) (Nat.lt_succ_self (w.heap.size + 1 + 1))) hb4)
  have R2_4 := Lib.hid (row_below (row_store (u := .int .i64 h.c) (i := 3) (row_store (u := .slice A3 h.n.length k3) (i := 2) R2_3.out (Nat.lt_succ_self (w.heap.size + 1 + 1))) (Nat.lt_succ_self (w.heap.size + 1 + 1))) hb4)
  have R3_4 := Lib.hid (row_below (row_store (u := .int .i64 h.c) (i := 3) (row_store (u := .slice A3 h.n.length k3) (i := 2) R3_3.out (Nat.lt_succ_self (w.heap.size + 1 + 1))) (Nat.lt_succ_self (w.heap.size + 1 + 1))) hb4)
  have z4 : w.heap.size + 1 + 1 + 1 ≤ w4.heap.size := by have := hb4.size; simp at this; omega
  have B4 : Hid (Below w.heap.size w w4) := Lib.hid (B3'.out.trans (hb4.mono B3'.out.size))
  have WA4 := Lib.hid (whole_below (whole_far (whole_far WA3.out (p := ⟨w.heap.size + 1 + 1, 2, none⟩) (by simp; omega) (.slice A3 h.n.length k3)) (p := ⟨w.heap.size + 1 + 1, 3, none⟩) (by simp; omega) (.int .i64 h.c)) hb4)
  have WR4 := Lib.hid (whole_below (whole_far (whole_far WR3.out (p := ⟨w.heap.size + 1 + 1, 2, none⟩) (by simp) (.slice A3 h.n.length k3)) (p := ⟨w.heap.size + 1 + 1, 3, none⟩) (by simp) (.int .i64 h.c)) hb4)
  have WO4 := Lib.hid (whole_below (whole_set (whole_set WO3.out 2 (.slice A3 h.n.length k3)) 3 (.int .i64 h.c)) hb4)
  obtain ⟨_, A4, k4, rfl, _⟩ := drow_dds hr4
  have P14 := Lib.hid (parted_lt (fun g hg => (borow_lt R1_3.out g hg).2) (fun g hg => by have h1 := (drow_lt hr4 g hg).1; simpa using h1))
  have P24 := Lib.hid (parted_lt (fun g hg => (row_lt R2_3.out g hg).2) (fun g hg => by have h1 := (drow_lt hr4 g hg).1; simpa using h1))
  have P34 := Lib.hid (parted_lt (fun g hg => (row_lt R3_3.out g hg).2) (fun g hg => by have h1 := (drow_lt hr4 g hg).1; simpa using h1))
  have R4_4 : Hid (DRow w4 (w.heap.size + 1 + 1 + 1) _ h.d) := Lib.hid (drow_base hr4 (by simp; omega))
  have o0 := whole_cell WO4.out 0
  have o1 := whole_cell WO4.out 1
  have o2 := whole_cell WO4.out 2
  have o3 := whole_cell WO4.out 3
  have o4 := whole_cell WO4.out 4
  have r0 := whole_cell WR4.out 0
  have r1 := whole_cell WR4.out 1
  have r2 := whole_cell WR4.out 2
  have r3 := whole_cell WR4.out 3
  have r4 := whole_cell WR4.out 4
  have fo := whole_free WO4.out
  have fr := whole_free WR4.out
  clear WA1 WR1 WO1 B1 B1' WA2 WR2 WO2 B2 B2' WA3 WR3 WO3 B3 B3' hr4 hb4
  simp at o0 o1 o2 o3 o4 r0 r1 r2 r3 r4
  go_wp2
  refine bodyPost_ret (v := .agg #[.slice A1 h.g.length k1, .slice A2 h.s.length k2, .slice A3 h.n.length k3, .int .i64 h.c, .slice A4 h.d.length k4]) (by simp [results, Tryz.results23, go_sem, *]) rfl ⟨_, rfl, hostOf_top (hostOf_base (hostOf_rows (lo := w.heap.size + 1 + 1 + 1)
    (by repeat (first | with_reducible exact R1_4.out | with_reducible refine borow_store ?_ (by simp)))
    (by repeat (first | with_reducible exact R2_4.out | with_reducible refine row_store ?_ (by simp)))
    (by repeat (first | with_reducible exact R3_4.out | with_reducible refine row_store ?_ (by simp)))
    (by repeat (first | with_reducible exact R4_4.out | with_reducible refine drow_store ?_ (by simp)))
    P12.out P13.out P14.out P23.out P24.out P34.out) (by omega)) (Nat.le_refl _), ?_⟩
  repeat (first | with_reducible exact B4.out | with_reducible refine Below.setCell ?_ (by simp; try omega) _)

end Go.Proofs.YtkcogfgjabemfaaGreatDoor

namespace Go.Proofs.YtkcogfgjabemfaaGreatDoor
open Go.RowKit
set_option linter.unusedVariables false
set_option linter.unusedSimpArgs false

theorem boolOfB_true {w : World} {zs : List Bool} {e : Ending} {w' : World} (h : BoolOf w (zs == zs) e w') : ∃ n : Nat, e = .returned (.bool true) ∧ w' = w.drewN n := by
  obtain ⟨n, he, hw⟩ := h
  exact ⟨n, by rw [he]; simp, hw⟩

set_option maxRecDepth 100000 in
set_option maxHeartbeats 2000000 in
theorem eqHost_same (u v : Value) (h : Ht) (w : World) (hu : HostIn w u h) (hv : HostIn w v h) :
    Calls Tryz.prog 31 #[u, v] w fun e w' => e = .returned (.bool true) ∧ Below w.heap.size w w' := by
  obtain ⟨x, y, z, q, rfl, hx, hy, hz, hq⟩ := hu
  obtain ⟨x', y', z', q', rfl, hx', hy', hz', hq'⟩ := hv
  have Hx := Lib.hid hx
  have Hy := Lib.hid hy
  have Hz := Lib.hid hz
  have Hq := Lib.hid hq
  have Hx' := Lib.hid hx'
  have Hy' := Lib.hid hy'
  have Hz' := Lib.hid hz'
  have Hq' := Lib.hid hq'
  have BB : Hid (∀ (o o' : Obj) (n : Nat), Below w.heap.size w (((w.alloc o).alloc o').drewN n)) := Lib.hid fun o o' n => below_drewN (below_alloc (below_alloc (Below.refl _ _) _) _) n
  have tc : (h.c != h.c) = false := by simp
  clear hx hy hz hq hx' hy' hz' hq'
  go_enter Tryz.func31, Tryz.ntmps31
  go_wp2_with fail
  refine (eqBools_any _ _ h.g h.g _ (bols_below Hx.out (BB.out _ _ 0)) (bols_below Hx'.out (BB.out _ _ 0))).mono ?_
  intro e w1 hr
  obtain ⟨n1, rfl, rfl⟩ := boolOfB_true hr
  clear hr
  go_wp2_with fail
  refine (eqInts_any _ _ h.s h.s _ (ints_below Hy.out (BB.out _ _ _)) (ints_below Hy'.out (BB.out _ _ _))).mono ?_
  intro e w2 hr
  obtain ⟨n2, rfl, rfl⟩ := boolOf_true hr
  clear hr
  rw [World.drewN_drewN]
  go_wp2_with fail
  refine (eqInts_any _ _ h.n h.n _ (ints_below Hz.out (BB.out _ _ _)) (ints_below Hz'.out (BB.out _ _ _))).mono ?_
  intro e w3 hr
  obtain ⟨n3, rfl, rfl⟩ := boolOf_true hr
  clear hr
  rw [World.drewN_drewN]
  go_wp2_with fail
  refine (eqDeedS_same _ _ h.d _ (dds_below Hq.out (BB.out _ _ _)) (dds_below Hq'.out (BB.out _ _ _))).mono ?_
  rintro e w4 ⟨rfl, hb4⟩
  have B4 := Lib.hid (below_step (BB.out _ _ _) hb4)
  clear hb4
  go_wp2
  go_ret
  exact ⟨rfl, B4.out⟩

/-- The host with marks from K on in its rows. -/
def markH (K : Nat) (h : Ht) : Ht := ⟨marksB K h.g.length, marksI (K + h.g.length) h.s.length, marksI (K + h.g.length + h.s.length) h.n.length, h.c, marksD (K + h.g.length + h.s.length + h.n.length) h.d.length⟩

/-- How many numbers its rows have. -/
def numH (h : Ht) : Nat := h.g.length + h.s.length + h.n.length + 4 * h.d.length

theorem borow_mark {w w' : World} {lo : Nat} {v u : Value} {zs : List Bool} (h : BoRow w lo v zs) (hg : w.grownBy w' u.ownBlock) (hp : Parted v u) : BoRow w' lo v zs :=
  borow_keep h fun g hv => hg.block g (borow_lt h g hv).2 (fun e => hp g hv e.symm)

theorem drow_mark {w w' : World} {lo : Nat} {v u : Value} {zs : List Dd} (h : DRow w lo v zs) (hg : w.grownBy w' u.ownBlock) (hp : Parted v u) : DRow w' lo v zs :=
  drow_keep h fun g hv => hg.block g (drow_lt h g hv).2 (fun e => hp g hv e.symm)

/-- What laying marks leaves. -/
def MarkHOf (w : World) (lo hi : Nat) (v : Value) (h : Ht) (K : Nat) (e : Ending) (w' : World) : Prop := e = .returned (.int .i64 ((K + numH h : Nat) : Int)) ∧ HostOf w' lo hi v (markH K h) ∧ Within lo hi w w'

end Go.Proofs.YtkcogfgjabemfaaGreatDoor

namespace Go.Proofs.YtkcogfgjabemfaaGreatDoor
open Go.RowKit
set_option linter.unusedVariables false
set_option linter.unusedSimpArgs false

/-- Blocks that were there turn in this set alone. -/
structure Only (S : Nat → Prop) (w w' : World) : Prop where
  os : w'.os = w.os
  tape : w'.tape = w.tape
  output : w'.output = w.output
  size : w.heap.size ≤ w'.heap.size
  block : ∀ k, k < w.heap.size → ¬ S k → w'.heap[k]? = w.heap[k]?

theorem below_only {S : Nat → Prop} {w w' : World} (h : Below w.heap.size w w') : Only S w w' := ⟨h.os, h.tape, h.output, h.size, fun k hk _ => h.block k hk⟩

theorem only_trans {S : Nat → Prop} {a b c : World} (h : Only S a b) (k : Only S b c) : Only S a c :=
  ⟨k.os.trans h.os, k.tape.trans h.tape, k.output.trans h.output, Nat.le_trans h.size k.size, fun i hi' ho => (k.block i (Nat.lt_of_lt_of_le hi' h.size) ho).trans (h.block i hi' ho)⟩

theorem only_grown {S : Nat → Prop} {w w' : World} {r : Option Nat} (h : w.grownBy w' r) (hr : ∀ g, r = some g → S g) : Only S w w' :=
  ⟨h.os, h.tape, h.output, h.size, fun k hk ho => h.block k hk (fun e => ho (hr k e.symm))⟩

theorem only_mono {S T : Nat → Prop} {w w' : World} (h : Only S w w') (hs : ∀ k, S k → T k) : Only T w w' := ⟨h.os, h.tape, h.output, h.size, fun k hk ho => h.block k hk (fun q => ho (hs k q))⟩

theorem only_below {S : Nat → Prop} {w w' : World} {lo : Nat} (h : Only S w w') (hl : lo ≤ w.heap.size) (hs : ∀ k, S k → lo ≤ k) : Below lo w w' :=
  ⟨h.os, h.tape, h.output, h.size, fun k hk => h.block k (by omega) (fun q => by have := hs k q; omega)⟩

theorem only_within {S : Nat → Prop} {w w' : World} {lo hi : Nat} (h : Only S w w') (hs : ∀ k, S k → lo ≤ k ∧ k < hi) : Within lo hi w w' :=
  ⟨h.os, h.tape, h.output, h.size, fun k hk ho => h.block k hk (fun q => by have := hs k q; omega)⟩

/-- The block is that of one of the value's slices. -/
def Mine (v : Value) (g : Nat) : Prop := ∃ cs, v = .agg cs ∧ ∃ x ∈ cs.toList, x.ownBlock = some g

theorem mine_agg {l : List Value} {g : Nat} : Mine (.agg l.toArray) g ↔ ∃ x ∈ l, x.ownBlock = some g := by
  constructor
  · rintro ⟨cs, h, x, hx, e⟩
    injection h with h
    subst h
    exact ⟨x, by simpa using hx, e⟩
  · rintro ⟨x, hx, e⟩
    exact ⟨_, rfl, x, by simpa using hx, e⟩

theorem hostOf_mine {w : World} {lo hi : Nat} {v : Value} {h : Ht} (H : HostOf w lo hi v h) {g : Nat} (hg : Mine v g) : lo ≤ g ∧ g < hi := by
  obtain ⟨x, y, z, q, rfl, h1, h2, h3, h4, _, _, _, _, _, _, hh⟩ := H
  obtain ⟨u, hu, e⟩ := mine_agg.1 hg
  simp only [List.mem_cons, List.not_mem_nil, or_false] at hu
  rcases hu with rfl | rfl | rfl | rfl | rfl
  · exact ⟨(borow_lt h1 g e).1, hh g (.inl e)⟩
  · exact ⟨(row_lt h2 g e).1, hh g (.inr (.inl e))⟩
  · exact ⟨(row_lt h3 g e).1, hh g (.inr (.inr (.inl e)))⟩
  · simp [Value.ownBlock] at e
  · exact ⟨(drow_lt h4 g e).1, hh g (.inr (.inr (.inr e)))⟩

theorem datOf_mine {w : World} {lo hi : Nat} {v : Value} {d : Dt} (H : DatOf w lo hi v d) {g : Nat} (hg : Mine v g) : lo ≤ g ∧ g < hi := by
  obtain ⟨x, y, z, rfl, h1, h2, h3, _, _, _, _, hh⟩ := H
  obtain ⟨u, hu, e⟩ := mine_agg.1 hg
  simp only [List.mem_cons, List.not_mem_nil, or_false] at hu
  rcases hu with rfl | rfl | rfl | rfl | rfl | rfl
  · exact ⟨(row_lt h1 g e).1, hh g (.inl e)⟩
  · exact ⟨(row_lt h2 g e).1, hh g (.inr (.inl e))⟩
  · exact ⟨(row_lt h3 g e).1, hh g (.inr (.inr e))⟩
  · simp [Value.ownBlock] at e
  · simp [Value.ownBlock] at e
  · simp [Value.ownBlock] at e

theorem hostOf_only {S : Nat → Prop} {w w' : World} {lo hi : Nat} {v : Value} {h : Ht} (H : HostOf w lo hi v h) (hb : Only S w w') (hs : ∀ g, Mine v g → ¬ S g) : HostOf w' lo hi v h := by
  obtain ⟨x, y, z, q, rfl, h1, h2, h3, h4, p1, p2, p3, p4, p5, p6, hh⟩ := H
  have hm : ∀ u ∈ [x, y, z, .int .i64 h.c, q], ∀ g, u.ownBlock = some g → ¬ S g := fun u hu g e => hs g (mine_agg.2 ⟨u, hu, e⟩)
  exact ⟨x, y, z, q, rfl, borow_keep h1 fun g hg => hb.block g (borow_lt h1 g hg).2 (hm x (by simp) g hg), row_keep h2 fun g hg => hb.block g (row_lt h2 g hg).2 (hm y (by simp) g hg),
    row_keep h3 fun g hg => hb.block g (row_lt h3 g hg).2 (hm z (by simp) g hg), drow_keep h4 fun g hg => hb.block g (drow_lt h4 g hg).2 (hm q (by simp) g hg), p1, p2, p3, p4, p5, p6, hh⟩

theorem datOf_only {S : Nat → Prop} {w w' : World} {lo hi : Nat} {v : Value} {d : Dt} (H : DatOf w lo hi v d) (hb : Only S w w') (hs : ∀ g, Mine v g → ¬ S g) : DatOf w' lo hi v d := by
  obtain ⟨x, y, z, rfl, h1, h2, h3, h4, p1, p2, p3, hh⟩ := H
  have hm : ∀ u ∈ [x, y, z, .int .i64 d.h, .int .i64 d.n, .string d.o], ∀ g, u.ownBlock = some g → ¬ S g := fun u hu g e => hs g (mine_agg.2 ⟨u, hu, e⟩)
  exact ⟨x, y, z, rfl, row_keep h1 fun g hg => hb.block g (row_lt h1 g hg).2 (hm x (by simp) g hg), row_keep h2 fun g hg => hb.block g (row_lt h2 g hg).2 (hm y (by simp) g hg),
    row_keep h3 fun g hg => hb.block g (row_lt h3 g hg).2 (hm z (by simp) g hg), h4, p1, p2, p3, hh⟩

end Go.Proofs.YtkcogfgjabemfaaGreatDoor

namespace Go.Proofs.YtkcogfgjabemfaaGreatDoor
open Go.RowKit
set_option linter.unusedVariables false
set_option linter.unusedSimpArgs false

/-- A valid deed. -/
def ddB (x : Dd) : Bool := inB x.p 0 3 && cellB x.a && cellB x.b && cellB x.r

def ddsB (Q : List Dd) : Bool := Q.all ddB

theorem ddsB_at {l : List Dd} (h : ddsB l = true) {n : Dd} (hn : n ∈ l) : ddB n = true := List.all_eq_true.1 h n hn

/-- The first k are valid. -/
def DdsTo (l : List Dd) (k : Nat) : Prop := ∀ n ∈ l.take k, ddB n = true

theorem ddsTo_zero (l : List Dd) : DdsTo l 0 := by intro n hn; simp at hn

theorem ddsTo_next {l : List Dd} {k : Nat} (h : DdsTo l k) (hk : k < l.length) (e : ddB l[k] = true) : DdsTo l (k + 1) := by
  intro n hn
  rw [List.take_succ_eq_append_getElem hk] at hn
  rcases List.mem_append.1 hn with hn | hn
  · exact h n hn
  · rw [List.mem_singleton.1 hn]; exact e

theorem ddsTo_end {l : List Dd} (h : DdsTo l l.length) : ddsB l = true := by
  unfold DdsTo at h; rw [List.take_length] at h; exact List.all_eq_true.2 h

theorem dds_not {l : List Dd} {k : Nat} (hk : k < l.length) (e : ddB l[k] = false) : ddsB l = false := by
  cases h : ddsB l
  · rfl
  · rw [ddsB_at h (List.getElem_mem hk)] at e; cases e

/-- What a valid host is. -/
def HtFine (h : Ht) : Prop := h.g.length = 4 ∧ h.s.length = 8 ∧ h.n.length ≤ 20 ∧ h.d.length ≤ 40 ∧ cellsB h.s = true ∧ cellsB h.n = true ∧ inB h.c 0 2147483647 = true ∧ ddsB h.d = true

instance (h : Ht) : Decidable (HtFine h) := by unfold HtFine; infer_instance

def hOK (h : Ht) : Bool := decide (HtFine h)

theorem hOK_true {h : Ht} (q : HtFine h) : hOK h = true := by unfold hOK; exact decide_eq_true q
theorem hOK_false {h : Ht} (q : ¬ HtFine h) : hOK h = false := by unfold hOK; exact decide_eq_false q
theorem hOK_fine {h : Ht} (q : hOK h = true) : HtFine h := by unfold hOK at q; exact of_decide_eq_true q

theorem fineH_g {h : Ht} (q : HtFine h) : h.g.length = 4 := q.1
theorem fineH_s {h : Ht} (q : HtFine h) : h.s.length = 8 := q.2.1
theorem fineH_n {h : Ht} (q : HtFine h) : h.n.length ≤ 20 := q.2.2.1
theorem fineH_d {h : Ht} (q : HtFine h) : h.d.length ≤ 40 := q.2.2.2.1
theorem fineH_sc {h : Ht} (q : HtFine h) : cellsB h.s = true := q.2.2.2.2.1
theorem fineH_nc {h : Ht} (q : HtFine h) : cellsB h.n = true := q.2.2.2.2.2.1
theorem fineH_c {h : Ht} (q : HtFine h) : inB h.c 0 2147483647 = true := q.2.2.2.2.2.2.1
theorem fineH_dd {h : Ht} (q : HtFine h) : ddsB h.d = true := q.2.2.2.2.2.2.2

theorem fineH_small {h : Ht} (q : HtFine h) : SmallH h := by
  have h1 := fineH_g q
  have h2 := fineH_s q
  have h3 := fineH_n q
  have h4 := fineH_d q
  exact ⟨by omega, by omega, by omega, by omega⟩

set_option maxRecDepth 100000 in
set_option maxHeartbeats 1000000 in
theorem sDeed_any (x : Dd) (w : World) :
    Calls Tryz.prog 67 #[.agg #[.int .i64 x.p, .int .i64 x.a, .int .i64 x.b, .int .i64 x.r]] w fun e w' => e = .returned (.bool (ddB x)) ∧ Below w.heap.size w w' := by
  have BB : Hid (∀ (o : Obj), Below w.heap.size w (w.alloc o)) := Lib.hid fun o => below_alloc (Below.refl _ _) _
  have DB : Hid (ddB x = (inB x.p 0 3 && cellB x.a && cellB x.b && cellB x.r)) := Lib.hid rfl
  cases t0 : inB x.p 0 3
  · go_enter Tryz.func67, Tryz.ntmps67
    go_wp2_with (first | (go_at_call 43; refine (sIn_any _ _ _ _).mono ?_; rintro e w' ⟨rfl, rfl⟩) | (go_at_call 65; refine (sCell_any _ _).mono ?_; rintro e w' ⟨rfl, rfl⟩))
    go_ret
    exact ⟨ret_bool (by rw [DB.out]; simp [t0]), BB.out _⟩
  · have z0 : True := trivial
    cases t1 : cellB x.a
    · go_enter Tryz.func67, Tryz.ntmps67
      go_wp2_with (first | (go_at_call 43; refine (sIn_any _ _ _ _).mono ?_; rintro e w' ⟨rfl, rfl⟩) | (go_at_call 65; refine (sCell_any _ _).mono ?_; rintro e w' ⟨rfl, rfl⟩))
      go_ret
      exact ⟨ret_bool (by rw [DB.out]; simp [t0, t1]), BB.out _⟩
    · have z1 : True := trivial
      cases t2 : cellB x.b
      · go_enter Tryz.func67, Tryz.ntmps67
        go_wp2_with (first | (go_at_call 43; refine (sIn_any _ _ _ _).mono ?_; rintro e w' ⟨rfl, rfl⟩) | (go_at_call 65; refine (sCell_any _ _).mono ?_; rintro e w' ⟨rfl, rfl⟩))
        go_ret
        exact ⟨ret_bool (by rw [DB.out]; simp [t0, t1, t2]), BB.out _⟩
      · have z2 : True := trivial
        cases t3 : cellB x.r
        · go_enter Tryz.func67, Tryz.ntmps67
          go_wp2_with (first | (go_at_call 43; refine (sIn_any _ _ _ _).mono ?_; rintro e w' ⟨rfl, rfl⟩) | (go_at_call 65; refine (sCell_any _ _).mono ?_; rintro e w' ⟨rfl, rfl⟩))
          go_ret
          exact ⟨ret_bool (by rw [DB.out]; simp [t0, t1, t2, t3]), BB.out _⟩
        · go_enter Tryz.func67, Tryz.ntmps67
          go_wp2_with (first | (go_at_call 43; refine (sIn_any _ _ _ _).mono ?_; rintro e w' ⟨rfl, rfl⟩) | (go_at_call 65; refine (sCell_any _ _).mono ?_; rintro e w' ⟨rfl, rfl⟩))
          go_ret
          exact ⟨ret_bool (by rw [DB.out]; simp [t0, t1, t2, t3]), BB.out _⟩

set_option maxRecDepth 100000 in
set_option maxHeartbeats 1000000 in
theorem sHOK_any_0 (v : Value) (h : Ht) (w : World) (hv : HostIn w v h) (h0 : ¬ h.g.length = 4) :
    Calls Tryz.prog 41 #[v] w fun e w' => e = .returned (.bool (false)) ∧ Below w.heap.size w w' := by
  obtain ⟨x, y, z, q, rfl, hx, hy, hz, hq⟩ := hv
  have BB : Hid (∀ (o : Obj), Below w.heap.size w (w.alloc o)) := Lib.hid fun o => below_alloc (Below.refl _ _) _
  have HY : Hid (∀ o : Obj, Ints (w.alloc o) y h.s) := Lib.hid fun o => ints_below hy (BB.out _)
  have HZ : Hid (∀ o : Obj, Ints (w.alloc o) z h.n) := Lib.hid fun o => ints_below hz (BB.out _)
  have HQ : Hid (∀ o : Obj, Dds (w.alloc o) q h.d) := Lib.hid fun o => dds_below hq (BB.out _)
  obtain ⟨l1, A1, k1, rfl, _⟩ := hx
  obtain ⟨l2, A2, k2, rfl, _⟩ := hy
  obtain ⟨l3, A3, k3, rfl, _⟩ := hz
  obtain ⟨l4, A4, k4, rfl, _⟩ := hq
  unfold maxLen at l1 l2 l3 l4
  have t0 : ((h.g.length : Int) != 4) = true := by rw [bne_iff_ne]; omega
  have u0 : ((h.g.length : Int) == 4) = false := by rw [beq_eq_false_iff_ne]; omega
  clear h0
  go_enter Tryz.func41, Tryz.ntmps41
  go_wp2_with (first | (go_at_call 39; (first | (with_reducible refine (sCells_any _ h.s _ (HY.out _)).mono ?_) | (with_reducible refine (sCells_any _ h.n _ (HZ.out _)).mono ?_)); rintro e w' ⟨rfl, rfl⟩) | (go_at_call 43; refine (sIn_any _ _ _ _).mono ?_; rintro e w' ⟨rfl, rfl⟩))
  go_ret
  exact ⟨rfl, BB.out _⟩

set_option maxRecDepth 100000 in
set_option maxHeartbeats 1000000 in
theorem sHOK_any_1 (v : Value) (h : Ht) (w : World) (hv : HostIn w v h) (h0 : h.g.length = 4) (h1 : ¬ h.s.length = 8) :
    Calls Tryz.prog 41 #[v] w fun e w' => e = .returned (.bool (false)) ∧ Below w.heap.size w w' := by
  obtain ⟨x, y, z, q, rfl, hx, hy, hz, hq⟩ := hv
  have BB : Hid (∀ (o : Obj), Below w.heap.size w (w.alloc o)) := Lib.hid fun o => below_alloc (Below.refl _ _) _
  have HY : Hid (∀ o : Obj, Ints (w.alloc o) y h.s) := Lib.hid fun o => ints_below hy (BB.out _)
  have HZ : Hid (∀ o : Obj, Ints (w.alloc o) z h.n) := Lib.hid fun o => ints_below hz (BB.out _)
  have HQ : Hid (∀ o : Obj, Dds (w.alloc o) q h.d) := Lib.hid fun o => dds_below hq (BB.out _)
  obtain ⟨l1, A1, k1, rfl, _⟩ := hx
  obtain ⟨l2, A2, k2, rfl, _⟩ := hy
  obtain ⟨l3, A3, k3, rfl, _⟩ := hz
  obtain ⟨l4, A4, k4, rfl, _⟩ := hq
  unfold maxLen at l1 l2 l3 l4
  have t0 : ((h.g.length : Int) != 4) = false := by rw [bne_eq_false_iff_eq]; omega
  have u0 : ((h.g.length : Int) == 4) = true := by rw [beq_iff_eq]; omega
  clear h0
  have t1 : ((h.s.length : Int) != 8) = true := by rw [bne_iff_ne]; omega
  have u1 : ((h.s.length : Int) == 8) = false := by rw [beq_eq_false_iff_ne]; omega
  clear h1
  go_enter Tryz.func41, Tryz.ntmps41
  go_wp2_with (first | (go_at_call 39; (first | (with_reducible refine (sCells_any _ h.s _ (HY.out _)).mono ?_) | (with_reducible refine (sCells_any _ h.n _ (HZ.out _)).mono ?_)); rintro e w' ⟨rfl, rfl⟩) | (go_at_call 43; refine (sIn_any _ _ _ _).mono ?_; rintro e w' ⟨rfl, rfl⟩))
  go_ret
  exact ⟨rfl, BB.out _⟩

set_option maxRecDepth 100000 in
set_option maxHeartbeats 1000000 in
theorem sHOK_any_2 (v : Value) (h : Ht) (w : World) (hv : HostIn w v h) (h0 : h.g.length = 4) (h1 : h.s.length = 8) (h2 : ¬ h.n.length ≤ 20) :
    Calls Tryz.prog 41 #[v] w fun e w' => e = .returned (.bool (false)) ∧ Below w.heap.size w w' := by
  obtain ⟨x, y, z, q, rfl, hx, hy, hz, hq⟩ := hv
  have BB : Hid (∀ (o : Obj), Below w.heap.size w (w.alloc o)) := Lib.hid fun o => below_alloc (Below.refl _ _) _
  have HY : Hid (∀ o : Obj, Ints (w.alloc o) y h.s) := Lib.hid fun o => ints_below hy (BB.out _)
  have HZ : Hid (∀ o : Obj, Ints (w.alloc o) z h.n) := Lib.hid fun o => ints_below hz (BB.out _)
  have HQ : Hid (∀ o : Obj, Dds (w.alloc o) q h.d) := Lib.hid fun o => dds_below hq (BB.out _)
  obtain ⟨l1, A1, k1, rfl, _⟩ := hx
  obtain ⟨l2, A2, k2, rfl, _⟩ := hy
  obtain ⟨l3, A3, k3, rfl, _⟩ := hz
  obtain ⟨l4, A4, k4, rfl, _⟩ := hq
  unfold maxLen at l1 l2 l3 l4
  have t0 : ((h.g.length : Int) != 4) = false := by rw [bne_eq_false_iff_eq]; omega
  have u0 : ((h.g.length : Int) == 4) = true := by rw [beq_iff_eq]; omega
  clear h0
  have t1 : ((h.s.length : Int) != 8) = false := by rw [bne_eq_false_iff_eq]; omega
  have u1 : ((h.s.length : Int) == 8) = true := by rw [beq_iff_eq]; omega
  clear h1
  go_enter Tryz.func41, Tryz.ntmps41
  go_wp2_with (first | (go_at_call 39; (first | (with_reducible refine (sCells_any _ h.s _ (HY.out _)).mono ?_) | (with_reducible refine (sCells_any _ h.n _ (HZ.out _)).mono ?_)); rintro e w' ⟨rfl, rfl⟩) | (go_at_call 43; refine (sIn_any _ _ _ _).mono ?_; rintro e w' ⟨rfl, rfl⟩))
  go_ret
  exact ⟨rfl, BB.out _⟩

set_option maxRecDepth 100000 in
set_option maxHeartbeats 1000000 in
theorem sHOK_any_3 (v : Value) (h : Ht) (w : World) (hv : HostIn w v h) (h0 : h.g.length = 4) (h1 : h.s.length = 8) (h2 : h.n.length ≤ 20) (h3 : ¬ h.d.length ≤ 40) :
    Calls Tryz.prog 41 #[v] w fun e w' => e = .returned (.bool (false)) ∧ Below w.heap.size w w' := by
  obtain ⟨x, y, z, q, rfl, hx, hy, hz, hq⟩ := hv
  have BB : Hid (∀ (o : Obj), Below w.heap.size w (w.alloc o)) := Lib.hid fun o => below_alloc (Below.refl _ _) _
  have HY : Hid (∀ o : Obj, Ints (w.alloc o) y h.s) := Lib.hid fun o => ints_below hy (BB.out _)
  have HZ : Hid (∀ o : Obj, Ints (w.alloc o) z h.n) := Lib.hid fun o => ints_below hz (BB.out _)
  have HQ : Hid (∀ o : Obj, Dds (w.alloc o) q h.d) := Lib.hid fun o => dds_below hq (BB.out _)
  obtain ⟨l1, A1, k1, rfl, _⟩ := hx
  obtain ⟨l2, A2, k2, rfl, _⟩ := hy
  obtain ⟨l3, A3, k3, rfl, _⟩ := hz
  obtain ⟨l4, A4, k4, rfl, _⟩ := hq
  unfold maxLen at l1 l2 l3 l4
  have t0 : ((h.g.length : Int) != 4) = false := by rw [bne_eq_false_iff_eq]; omega
  have u0 : ((h.g.length : Int) == 4) = true := by rw [beq_iff_eq]; omega
  clear h0
  have t1 : ((h.s.length : Int) != 8) = false := by rw [bne_eq_false_iff_eq]; omega
  have u1 : ((h.s.length : Int) == 8) = true := by rw [beq_iff_eq]; omega
  clear h1
  go_enter Tryz.func41, Tryz.ntmps41
  go_wp2_with (first | (go_at_call 39; (first | (with_reducible refine (sCells_any _ h.s _ (HY.out _)).mono ?_) | (with_reducible refine (sCells_any _ h.n _ (HZ.out _)).mono ?_)); rintro e w' ⟨rfl, rfl⟩) | (go_at_call 43; refine (sIn_any _ _ _ _).mono ?_; rintro e w' ⟨rfl, rfl⟩))
  go_ret
  exact ⟨rfl, BB.out _⟩

set_option maxRecDepth 100000 in
set_option maxHeartbeats 1000000 in
theorem sHOK_any_4 (v : Value) (h : Ht) (w : World) (hv : HostIn w v h) (h0 : h.g.length = 4) (h1 : h.s.length = 8) (h2 : h.n.length ≤ 20) (h3 : h.d.length ≤ 40) (h4 : cellsB h.s = false) :
    Calls Tryz.prog 41 #[v] w fun e w' => e = .returned (.bool (false)) ∧ Below w.heap.size w w' := by
  obtain ⟨x, y, z, q, rfl, hx, hy, hz, hq⟩ := hv
  have BB : Hid (∀ (o : Obj), Below w.heap.size w (w.alloc o)) := Lib.hid fun o => below_alloc (Below.refl _ _) _
  have HY : Hid (∀ o : Obj, Ints (w.alloc o) y h.s) := Lib.hid fun o => ints_below hy (BB.out _)
  have HZ : Hid (∀ o : Obj, Ints (w.alloc o) z h.n) := Lib.hid fun o => ints_below hz (BB.out _)
  have HQ : Hid (∀ o : Obj, Dds (w.alloc o) q h.d) := Lib.hid fun o => dds_below hq (BB.out _)
  obtain ⟨l1, A1, k1, rfl, _⟩ := hx
  obtain ⟨l2, A2, k2, rfl, _⟩ := hy
  obtain ⟨l3, A3, k3, rfl, _⟩ := hz
  obtain ⟨l4, A4, k4, rfl, _⟩ := hq
  unfold maxLen at l1 l2 l3 l4
  have t0 : ((h.g.length : Int) != 4) = false := by rw [bne_eq_false_iff_eq]; omega
  have u0 : ((h.g.length : Int) == 4) = true := by rw [beq_iff_eq]; omega
  clear h0
  have t1 : ((h.s.length : Int) != 8) = false := by rw [bne_eq_false_iff_eq]; omega
  have u1 : ((h.s.length : Int) == 8) = true := by rw [beq_iff_eq]; omega
  clear h1
  go_enter Tryz.func41, Tryz.ntmps41
  go_wp2_with (first | (go_at_call 39; (first | (with_reducible refine (sCells_any _ h.s _ (HY.out _)).mono ?_) | (with_reducible refine (sCells_any _ h.n _ (HZ.out _)).mono ?_)); rintro e w' ⟨rfl, rfl⟩) | (go_at_call 43; refine (sIn_any _ _ _ _).mono ?_; rintro e w' ⟨rfl, rfl⟩))
  go_ret
  exact ⟨rfl, BB.out _⟩

set_option maxRecDepth 100000 in
set_option maxHeartbeats 1000000 in
theorem sHOK_any_5 (v : Value) (h : Ht) (w : World) (hv : HostIn w v h) (h0 : h.g.length = 4) (h1 : h.s.length = 8) (h2 : h.n.length ≤ 20) (h3 : h.d.length ≤ 40) (h4 : cellsB h.s = true) (h5 : cellsB h.n = false) :
    Calls Tryz.prog 41 #[v] w fun e w' => e = .returned (.bool (false)) ∧ Below w.heap.size w w' := by
  obtain ⟨x, y, z, q, rfl, hx, hy, hz, hq⟩ := hv
  have BB : Hid (∀ (o : Obj), Below w.heap.size w (w.alloc o)) := Lib.hid fun o => below_alloc (Below.refl _ _) _
  have HY : Hid (∀ o : Obj, Ints (w.alloc o) y h.s) := Lib.hid fun o => ints_below hy (BB.out _)
  have HZ : Hid (∀ o : Obj, Ints (w.alloc o) z h.n) := Lib.hid fun o => ints_below hz (BB.out _)
  have HQ : Hid (∀ o : Obj, Dds (w.alloc o) q h.d) := Lib.hid fun o => dds_below hq (BB.out _)
  obtain ⟨l1, A1, k1, rfl, _⟩ := hx
  obtain ⟨l2, A2, k2, rfl, _⟩ := hy
  obtain ⟨l3, A3, k3, rfl, _⟩ := hz
  obtain ⟨l4, A4, k4, rfl, _⟩ := hq
  unfold maxLen at l1 l2 l3 l4
  have t0 : ((h.g.length : Int) != 4) = false := by rw [bne_eq_false_iff_eq]; omega
  have u0 : ((h.g.length : Int) == 4) = true := by rw [beq_iff_eq]; omega
  clear h0
  have t1 : ((h.s.length : Int) != 8) = false := by rw [bne_eq_false_iff_eq]; omega
  have u1 : ((h.s.length : Int) == 8) = true := by rw [beq_iff_eq]; omega
  clear h1
  go_enter Tryz.func41, Tryz.ntmps41
  go_wp2_with (first | (go_at_call 39; (first | (with_reducible refine (sCells_any _ h.s _ (HY.out _)).mono ?_) | (with_reducible refine (sCells_any _ h.n _ (HZ.out _)).mono ?_)); rintro e w' ⟨rfl, rfl⟩) | (go_at_call 43; refine (sIn_any _ _ _ _).mono ?_; rintro e w' ⟨rfl, rfl⟩))
  go_ret
  exact ⟨rfl, BB.out _⟩

set_option maxRecDepth 100000 in
set_option maxHeartbeats 1000000 in
theorem sHOK_any_6 (v : Value) (h : Ht) (w : World) (hv : HostIn w v h) (h0 : h.g.length = 4) (h1 : h.s.length = 8) (h2 : h.n.length ≤ 20) (h3 : h.d.length ≤ 40) (h4 : cellsB h.s = true) (h5 : cellsB h.n = true) (h6 : inB h.c 0 2147483647 = false) :
    Calls Tryz.prog 41 #[v] w fun e w' => e = .returned (.bool (false)) ∧ Below w.heap.size w w' := by
  obtain ⟨x, y, z, q, rfl, hx, hy, hz, hq⟩ := hv
  have BB : Hid (∀ (o : Obj), Below w.heap.size w (w.alloc o)) := Lib.hid fun o => below_alloc (Below.refl _ _) _
  have HY : Hid (∀ o : Obj, Ints (w.alloc o) y h.s) := Lib.hid fun o => ints_below hy (BB.out _)
  have HZ : Hid (∀ o : Obj, Ints (w.alloc o) z h.n) := Lib.hid fun o => ints_below hz (BB.out _)
  have HQ : Hid (∀ o : Obj, Dds (w.alloc o) q h.d) := Lib.hid fun o => dds_below hq (BB.out _)
  obtain ⟨l1, A1, k1, rfl, _⟩ := hx
  obtain ⟨l2, A2, k2, rfl, _⟩ := hy
  obtain ⟨l3, A3, k3, rfl, _⟩ := hz
  obtain ⟨l4, A4, k4, rfl, _⟩ := hq
  unfold maxLen at l1 l2 l3 l4
  have t0 : ((h.g.length : Int) != 4) = false := by rw [bne_eq_false_iff_eq]; omega
  have u0 : ((h.g.length : Int) == 4) = true := by rw [beq_iff_eq]; omega
  clear h0
  have t1 : ((h.s.length : Int) != 8) = false := by rw [bne_eq_false_iff_eq]; omega
  have u1 : ((h.s.length : Int) == 8) = true := by rw [beq_iff_eq]; omega
  clear h1
  go_enter Tryz.func41, Tryz.ntmps41
  go_wp2_with (first | (go_at_call 39; (first | (with_reducible refine (sCells_any _ h.s _ (HY.out _)).mono ?_) | (with_reducible refine (sCells_any _ h.n _ (HZ.out _)).mono ?_)); rintro e w' ⟨rfl, rfl⟩) | (go_at_call 43; refine (sIn_any _ _ _ _).mono ?_; rintro e w' ⟨rfl, rfl⟩))
  go_ret
  exact ⟨rfl, BB.out _⟩

set_option maxRecDepth 100000 in
set_option maxHeartbeats 1000000 in
theorem sHOK_any_7 (v : Value) (h : Ht) (w : World) (hv : HostIn w v h) (h0 : h.g.length = 4) (h1 : h.s.length = 8) (h2 : h.n.length ≤ 20) (h3 : h.d.length ≤ 40) (h4 : cellsB h.s = true) (h5 : cellsB h.n = true) (h6 : inB h.c 0 2147483647 = true) :
    Calls Tryz.prog 41 #[v] w fun e w' => e = .returned (.bool (ddsB h.d)) ∧ Below w.heap.size w w' := by
  obtain ⟨x, y, z, q, rfl, hx, hy, hz, hq⟩ := hv
  have BB : Hid (∀ (o : Obj), Below w.heap.size w (w.alloc o)) := Lib.hid fun o => below_alloc (Below.refl _ _) _
  have HY : Hid (∀ o : Obj, Ints (w.alloc o) y h.s) := Lib.hid fun o => ints_below hy (BB.out _)
  have HZ : Hid (∀ o : Obj, Ints (w.alloc o) z h.n) := Lib.hid fun o => ints_below hz (BB.out _)
  have HQ : Hid (∀ o : Obj, Dds (w.alloc o) q h.d) := Lib.hid fun o => dds_below hq (BB.out _)
  obtain ⟨l1, A1, k1, rfl, _⟩ := hx
  obtain ⟨l2, A2, k2, rfl, _⟩ := hy
  obtain ⟨l3, A3, k3, rfl, _⟩ := hz
  obtain ⟨l4, A4, k4, rfl, _⟩ := hq
  unfold maxLen at l1 l2 l3 l4
  have t0 : ((h.g.length : Int) != 4) = false := by rw [bne_eq_false_iff_eq]; omega
  have u0 : ((h.g.length : Int) == 4) = true := by rw [beq_iff_eq]; omega
  clear h0
  have t1 : ((h.s.length : Int) != 8) = false := by rw [bne_eq_false_iff_eq]; omega
  have u1 : ((h.s.length : Int) == 8) = true := by rw [beq_iff_eq]; omega
  clear h1
  go_enter Tryz.func41, Tryz.ntmps41
  have WB := Lib.hid (whole_new w 41 #[.slice A1 h.g.length k1, .slice A2 h.s.length k2, .slice A3 h.n.length k3, .int .i64 h.c, .slice A4 h.d.length k4])
  go_wp2_with (first | (go_at_call 39; (first | (with_reducible refine (sCells_any _ h.s _ (HY.out _)).mono ?_) | (with_reducible refine (sCells_any _ h.n _ (HZ.out _)).mono ?_)); rintro e w' ⟨rfl, rfl⟩) | (go_at_call 43; refine (sIn_any _ _ _ _).mono ?_; rintro e w' ⟨rfl, rfl⟩))
  go_loopw [3] (fun i wr => ∃ k : Nat, k ≤ h.d.length ∧ i = .int .i64 k ∧ DdsTo h.d k ∧ Below w.heap.size w wr ∧ Dds wr (.slice A4 h.d.length k4) h.d ∧ Whole wr w.heap.size 41 #[.slice A1 h.g.length k1, .slice A2 h.s.length k2, .slice A3 h.n.length k3, .int .i64 h.c, .slice A4 h.d.length k4]) (fun i _ => h.d.length - (intOf i).toNat)
  case atStart => exact ⟨0, Nat.zero_le _, rfl, ddsTo_zero _, BB.out _, HQ.out _, WB.out⟩
  case round =>
    obtain ⟨k, hk, rfl, hat, hb, hq, hw⟩ := hrel
    have AT := Lib.hid hat
    have B := Lib.hid hb
    have W := Lib.hid hw
    have Q := Lib.hid hq
    have c4 := whole_cell hw 4
    simp at c4
    clear hat hb hw
    by_cases hlt : k < h.d.length
    · obtain ⟨_, A', cap', e', hc⟩ := hq
      simp only [Value.slice.injEq, true_and] at e'
      obtain ⟨rfl, rfl⟩ := e'
      obtain ⟨ad, rfl, hd⟩ := hc (by omega)
      obtain ⟨d0, d1, d2, d3⟩ := hd k hlt
      clear hc hd
      cases e : ddB h.d[k]
      · have NO := Lib.hid (dds_not hlt e)
        go_wp2_with (go_at_call 67; refine (sDeed_any _ _).mono ?_; rintro e w2 ⟨rfl, hb2⟩; have B2 := Lib.hid (below_step B.out hb2); clear hb2)
        go_ret
        exact ⟨ret_bool NO.out.symm, B2.out⟩
      · have NX := Lib.hid (ddsTo_next AT.out hlt e)
        go_wp2_with (go_at_call 67; refine (sDeed_any _ _).mono ?_; rintro e w2 ⟨rfl, hb2⟩; have B2 := Lib.hid (below_step B.out hb2); have Q2 := Lib.hid (dds_below Q.out hb2); have W2 := Lib.hid (whole_below W.out hb2); clear hb2)
        go_roundw
        case rel => exact ⟨k + 1, by omega, by go_num, NX.out, B2.out, Q2.out, W2.out⟩
        case measure => simp [intOf]; omega
    · obtain rfl : k = h.d.length := by omega
      have E := Lib.hid (ddsTo_end AT.out)
      clear hq
      go_wp2
      go_ret
      exact ⟨ret_bool E.out.symm, B.out⟩

theorem sHOK_any (v : Value) (h : Ht) (w : World) (hv : HostIn w v h) :
    Calls Tryz.prog 41 #[v] w fun e w' => e = .returned (.bool (hOK h)) ∧ Below w.heap.size w w' := by
  by_cases h0 : h.g.length = 4
  rotate_left
  · rw [hOK_false (fun q => absurd (fineH_g q) (by simp [h0]))]; exact sHOK_any_0 v h w hv h0
  by_cases h1 : h.s.length = 8
  rotate_left
  · rw [hOK_false (fun q => absurd (fineH_s q) (by simp [h1]))]; exact sHOK_any_1 v h w hv h0 h1
  by_cases h2 : h.n.length ≤ 20
  rotate_left
  · rw [hOK_false (fun q => absurd (fineH_n q) (by simp [h2]))]; exact sHOK_any_2 v h w hv h0 h1 h2
  by_cases h3 : h.d.length ≤ 40
  rotate_left
  · rw [hOK_false (fun q => absurd (fineH_d q) (by simp [h3]))]; exact sHOK_any_3 v h w hv h0 h1 h2 h3
  cases h4 : cellsB h.s
  · rw [hOK_false (fun q => absurd (fineH_sc q) (by simp [h4]))]; exact sHOK_any_4 v h w hv h0 h1 h2 h3 h4
  cases h5 : cellsB h.n
  · rw [hOK_false (fun q => absurd (fineH_nc q) (by simp [h5]))]; exact sHOK_any_5 v h w hv h0 h1 h2 h3 h4 h5
  cases h6 : inB h.c 0 2147483647
  · rw [hOK_false (fun q => absurd (fineH_c q) (by simp [h6]))]; exact sHOK_any_6 v h w hv h0 h1 h2 h3 h4 h5 h6
  have e : hOK h = ddsB h.d := by
    cases h7 : ddsB h.d
    · exact hOK_false fun q => absurd (fineH_dd q) (by simp [h7])
    · exact hOK_true ⟨h0, h1, h2, h3, h4, h5, h6, h7⟩
  rw [e]
  exact sHOK_any_7 v h w hv h0 h1 h2 h3 h4 h5 h6

end Go.Proofs.YtkcogfgjabemfaaGreatDoor

namespace Go.Proofs.YtkcogfgjabemfaaGreatDoor
open Go.RowKit
set_option linter.unusedVariables false
set_option linter.unusedSimpArgs false

/-- Append of a row of numbers that reads, nil or not, onto a row of the call's own. -/
theorem run_append_bools (w : World) (base : Nat) (v : Value) (ys : List Bool) (hown : BoRow w base v ys) (x : Value) (zs : List Bool) (hz : Bols w x zs) (hl : ys.length + zs.length ≤ 1099511627776) (hbase : base ≤ w.heap.size) :
    ∃ v' w', (Builtin.append_ #[26, 26] 26 #[v, x]).run Tryz.prog w = .ok v' w' ∧ BoRow w' base v' (ys ++ zs) ∧ w.grownBy w' v.ownBlock ∧ (v'.ownBlock = v.ownBlock ∨ v'.ownBlock = some w.heap.size) := by
  obtain ⟨i0, hi0, hz0, hz1, hz2⟩ := info_parts own_infoB
  obtain ⟨zm, A, cap, rfl, hc⟩ := hz
  have fin : ∀ ad, A = some ad → ∃ v' w', (Builtin.append_ #[26, 26] 26 #[v, .slice A zs.length cap]).run Tryz.prog w = .ok v' w' ∧ BoRow w' base v' (ys ++ zs) ∧ w.grownBy w' v.ownBlock ∧ (v'.ownBlock = v.ownBlock ∨ v'.ownBlock = some w.heap.size) := by
    rintro ad rfl
    obtain ⟨v', w', hr, h2, h3, _, h5⟩ := run_append_own_at (P := Tryz.prog) w base 26 26 4 i0 _ 1 1 Tryz.underlying26 hi0 hz0 hz1 hz2 rfl (by omega) v ys.length _ hown ad zs.length cap (zs.map (Value.bool)) (by simp)
      (fun j u hu => by
        rcases Nat.lt_or_ge j zs.length with hj | hj
        · obtain ⟨ad', ha, hc⟩ := hc (by omega)
          obtain rfl := Option.some.inj ha
          rw [hc j hj]
          simpa [hj] using hu
        · simp [hj] at hu) (fun u hu => by obtain ⟨z, _, rfl⟩ := List.mem_map.1 hu; rfl) (by unfold maxLen; omega) (by omega) hbase
    exact ⟨v', w', hr, by unfold BoRow; rw [List.map_append, List.length_append]; exact h2, h3, h5⟩
  rcases A with _ | ad
  · have h0 : zs = [] := by
      rcases Nat.eq_zero_or_pos zs.length with h0 | h0
      · exact List.eq_nil_of_length_eq_zero h0
      · obtain ⟨ad, ha, _⟩ := hc h0; cases ha
    subst h0
    refine ⟨v, w, ?_, by rw [List.append_nil]; exact hown, World.grownBy.refl w _, .inl rfl⟩
    rcases hown.2 with ⟨rfl, h0⟩ | ⟨g, cap', cur, rfl, _, _, hnc, _⟩
    · simp [Builtin.append_, run_underlying Tryz.underlying26, sizeOf, typeInfo, hi0, Builtin.lenOf, Builtin.firstCells]
    · simp [Builtin.append_, run_underlying Tryz.underlying26, sizeOf, typeInfo, hi0, Builtin.lenOf, Builtin.firstCells, hnc, storeCells]
  · exact fin ad rfl

theorem wpList_append_bools {w : World} {ops : Array Oper} {rest : List Oper} {o : Oper} {a : Act} {Q : Exit → Act → World → Prop} (hgd : o.guard = none) (s x : Operand)
    (ho : o.op = .call { callee := .builtin .append, args := #[s, x], argTypes := #[26, 26] }) (hty : o.type = 26)
    (base : Nat) (v : Value) (ys : List Bool) (hown : BoRow w base v ys) (u : Value) (zs : List Bool) (hz : Bols w u zs) (hs : a.eval s = v) (hx : a.eval x = u) (hl : ys.length + zs.length ≤ 1099511627776) (hbase : base ≤ w.heap.size)
    (h : ∀ v' w', BoRow w' base v' (ys ++ zs) → w.grownBy w' v.ownBlock → (v'.ownBlock = v.ownBlock ∨ v'.ownBlock = some w.heap.size) → wpList Tryz.prog ops Q rest (a.put o.dst v') w') :
    wpList Tryz.prog ops Q (o :: rest) a w := by
  refine wpList_plain hgd fun K hK => ?_
  obtain ⟨v', w', hrun, h2, h3, h4⟩ := run_append_bools w base v ys hown u zs hz hl hbase
  unfold Oper.wp execOp
  simp only [ho, hty, resolve, invoke, builtin, Sem.run_bind, Sem.run_pure, Result.andThen_ok, List.map_toArray, List.map_cons, List.map_nil, hs, hx, hrun]
  exact hK _ _ (h v' w' h2 h3 h4)

/-- 'append([]int{}, xs...)': a row of the call's own, of these numbers. -/
theorem wpList_append_newbo {W0 : World} {ops : Array Oper} {rest : List Oper} {o : Oper} {a : Act} {Q : Exit → Act → World → Prop} (hgd : o.guard = none) (s x : Operand)
    (ho : o.op = .call { callee := .builtin .append, args := #[s, x], argTypes := #[26, 26] }) (hty : o.type = 26)
    (g : Nat) (hs : a.eval s = .slice (some ⟨g, 0, none⟩) 0 0) (hgs : g = W0.heap.size) (u : Value) (zs : List Bool) (hx : a.eval x = u) (hz : Bols W0 u zs) (hl : zs.length ≤ 1099511627776)
    (h : ∀ B m w', BoRow w' W0.heap.size (.slice B zs.length m) zs → Below W0.heap.size W0 w' → wpList Tryz.prog ops Q rest (a.put o.dst (.slice B zs.length m)) w') :
    wpList Tryz.prog ops Q (o :: rest) a (W0.alloc (.cells #[] 4)) := by
  subst hgs
  have ho0 : BoRow (W0.alloc (.cells #[] 4)) W0.heap.size (.slice (some ⟨W0.heap.size, 0, none⟩) 0 0) [] := World.ownsRow_made W0 #[] 0 (Nat.le_refl _) (by unfold maxLen; omega) rfl
  refine wpList_append_bools hgd s x ho hty W0.heap.size _ [] ho0 u zs (bols_below hz (below_alloc (Below.refl _ _) _)) hs hx (by simpa using hl) (by simp) ?_
  intro v' w' hr hg _
  rw [List.nil_append] at hr
  obtain ⟨_, B, m, rfl, _⟩ := borow_bols hr
  refine h B m w' hr ?_
  exact (below_alloc (Below.refl _ _) _).grown hg (by simp) (fun k hk => by simp [Value.ownBlock] at hk; omega)

theorem dcells_add (P Q : List Dd) : dcells (P ++ Q) = dcells P ++ dcells Q := by unfold dcells; rw [List.flatMap_append]

theorem dcells_oneCell (Q : List Dd) : ∀ u ∈ dcells Q, u.oneCell' = true := by
  intro u hu
  unfold dcells at hu
  obtain ⟨x, _, hx⟩ := List.mem_flatMap.1 hu
  unfold dcs at hx
  simp at hx
  rcases hx with rfl | rfl | rfl | rfl <;> rfl

/-- The cells of readable deeds, one by one. -/
theorem dds_cells {w : World} {ad : Addr} {Q : List Dd} (h : ∀ k (h : k < Q.length), DdAt w (ad.add (k * 4)) Q[k]) (j : Nat) (u : Value) (hu : (dcells Q)[j]? = some u) : w.cell? (ad.add j) = some u := by
  have hj : j < (dcells Q).length := (List.getElem?_eq_some_iff.1 hu).1
  rw [dcells_len] at hj
  have hk : j / 4 < Q.length := by omega
  have h1 := dcells_at Q (j / 4) (j % 4) hk (by omega)
  rw [show j / 4 * 4 + j % 4 = j by omega, hu] at h1
  obtain ⟨a0, a1, a2, a3⟩ := h (j / 4) hk
  have ab : ∀ n, (ad.add n).block = ad.block ∧ (ad.add n).off = ad.off + n := by
    intro n
    cases n with
    | zero => rw [Addr.add_zero']; exact ⟨rfl, rfl⟩
    | succ m => rw [Addr.add_succ']; exact ⟨rfl, rfl⟩
  rw [(ab _).1, (ab _).2] at a1 a2 a3
  have : j % 4 = 0 ∨ j % 4 = 1 ∨ j % 4 = 2 ∨ j % 4 = 3 := by omega
  rcases this with e | e | e | e
  · rw [show j = j / 4 * 4 by omega, a0]; rw [e] at h1; simpa [dcs] using h1.symm
  · rw [show j = j / 4 * 4 + 1 by omega, Addr.add_succ', ← Nat.add_assoc, a1]; rw [e] at h1; simpa [dcs] using h1.symm
  · rw [show j = j / 4 * 4 + 2 by omega, Addr.add_succ', show ad.off + (j / 4 * 4 + 1 + 1) = ad.off + j / 4 * 4 + 2 by omega, a2]; rw [e] at h1; simpa [dcs] using h1.symm
  · rw [show j = j / 4 * 4 + 3 by omega, Addr.add_succ', show ad.off + (j / 4 * 4 + 2 + 1) = ad.off + j / 4 * 4 + 3 by omega, a3]; rw [e] at h1; simpa [dcs] using h1.symm

/-- Append of deeds that read, nil or not, onto deeds of the call's own. -/
theorem run_append_deeds (w : World) (base : Nat) (v : Value) (ys : List Dd) (hown : DRow w base v ys) (x : Value) (zs : List Dd) (hz : Dds w x zs) (hl : ys.length + zs.length ≤ 1099511627776) (hbase : base ≤ w.heap.size) :
    ∃ v' w', (Builtin.append_ #[39, 39] 39 #[v, x]).run Tryz.prog w = .ok v' w' ∧ DRow w' base v' (ys ++ zs) ∧ w.grownBy w' v.ownBlock ∧ (v'.ownBlock = v.ownBlock ∨ v'.ownBlock = some w.heap.size) := by
  obtain ⟨i0, hi0, hz0, hz1, hz2⟩ := info_parts own_infoDd
  obtain ⟨zm, A, cap, rfl, hc⟩ := hz
  have fin : ∀ ad, A = some ad → ∃ v' w', (Builtin.append_ #[39, 39] 39 #[v, .slice A zs.length cap]).run Tryz.prog w = .ok v' w' ∧ DRow w' base v' (ys ++ zs) ∧ w.grownBy w' v.ownBlock ∧ (v'.ownBlock = v.ownBlock ∨ v'.ownBlock = some w.heap.size) := by
    rintro ad rfl
    obtain ⟨v', w', hr, h2, h3, _, h5⟩ := run_append_own_at (P := Tryz.prog) w base 39 39 109 i0 _ 4 32 Tryz.underlying39 hi0 hz0 hz1 hz2 rfl (by omega) v ys.length _ hown ad zs.length cap (dcells zs) (dcells_len zs)
      (fun j u hu => by
        have hj : j < (dcells zs).length := (List.getElem?_eq_some_iff.1 hu).1
        rw [dcells_len] at hj
        obtain ⟨ad', ha, hc⟩ := hc (by omega)
        obtain rfl := Option.some.inj ha
        exact dds_cells hc j u hu) (dcells_oneCell zs) (by unfold maxLen; omega) (by omega) hbase
    exact ⟨v', w', hr, by unfold DRow; rw [dcells_add, List.length_append]; exact h2, h3, h5⟩
  rcases A with _ | ad
  · have h0 : zs = [] := by
      rcases Nat.eq_zero_or_pos zs.length with h0 | h0
      · exact List.eq_nil_of_length_eq_zero h0
      · obtain ⟨ad, ha, _⟩ := hc h0; cases ha
    subst h0
    refine ⟨v, w, ?_, by rw [List.append_nil]; exact hown, World.grownBy.refl w _, .inl rfl⟩
    rcases hown.2 with ⟨rfl, h0⟩ | ⟨g, cap', cur, rfl, _, _, hnc, _⟩
    · simp [Builtin.append_, run_underlying Tryz.underlying39, sizeOf, typeInfo, hi0, Builtin.lenOf, Builtin.firstCells]
    · simp [Builtin.append_, run_underlying Tryz.underlying39, sizeOf, typeInfo, hi0, Builtin.lenOf, Builtin.firstCells, hnc, storeCells]
  · exact fin ad rfl

theorem wpList_append_deeds {w : World} {ops : Array Oper} {rest : List Oper} {o : Oper} {a : Act} {Q : Exit → Act → World → Prop} (hgd : o.guard = none) (s x : Operand)
    (ho : o.op = .call { callee := .builtin .append, args := #[s, x], argTypes := #[39, 39] }) (hty : o.type = 39)
    (base : Nat) (v : Value) (ys : List Dd) (hown : DRow w base v ys) (u : Value) (zs : List Dd) (hz : Dds w u zs) (hs : a.eval s = v) (hx : a.eval x = u) (hl : ys.length + zs.length ≤ 1099511627776) (hbase : base ≤ w.heap.size)
    (h : ∀ v' w', DRow w' base v' (ys ++ zs) → w.grownBy w' v.ownBlock → (v'.ownBlock = v.ownBlock ∨ v'.ownBlock = some w.heap.size) → wpList Tryz.prog ops Q rest (a.put o.dst v') w') :
    wpList Tryz.prog ops Q (o :: rest) a w := by
  refine wpList_plain hgd fun K hK => ?_
  obtain ⟨v', w', hrun, h2, h3, h4⟩ := run_append_deeds w base v ys hown u zs hz hl hbase
  unfold Oper.wp execOp
  simp only [ho, hty, resolve, invoke, builtin, Sem.run_bind, Sem.run_pure, Result.andThen_ok, List.map_toArray, List.map_cons, List.map_nil, hs, hx, hrun]
  exact hK _ _ (h v' w' h2 h3 h4)

/-- 'append([]Deed{}, xs...)': a row of the call's own, of these deeds. -/
theorem wpList_append_newdd {W0 : World} {ops : Array Oper} {rest : List Oper} {o : Oper} {a : Act} {Q : Exit → Act → World → Prop} (hgd : o.guard = none) (s x : Operand)
    (ho : o.op = .call { callee := .builtin .append, args := #[s, x], argTypes := #[39, 39] }) (hty : o.type = 39)
    (g : Nat) (hs : a.eval s = .slice (some ⟨g, 0, none⟩) 0 0) (hgs : g = W0.heap.size) (u : Value) (zs : List Dd) (hx : a.eval x = u) (hz : Dds W0 u zs) (hl : zs.length ≤ 1099511627776)
    (h : ∀ B m w', DRow w' W0.heap.size (.slice B zs.length m) zs → Below W0.heap.size W0 w' → wpList Tryz.prog ops Q rest (a.put o.dst (.slice B zs.length m)) w') :
    wpList Tryz.prog ops Q (o :: rest) a (W0.alloc (.cells #[] 109)) := by
  subst hgs
  have ho0 : DRow (W0.alloc (.cells #[] 109)) W0.heap.size (.slice (some ⟨W0.heap.size, 0, none⟩) 0 0) [] := World.ownsRow_made W0 #[] 0 (Nat.le_refl _) (by unfold maxLen; omega) rfl
  refine wpList_append_deeds hgd s x ho hty W0.heap.size _ [] ho0 u zs (dds_below hz (below_alloc (Below.refl _ _) _)) hs hx (by simpa using hl) (by simp) ?_
  intro v' w' hr hg _
  rw [List.nil_append] at hr
  obtain ⟨_, B, m, rfl, _⟩ := drow_dds hr
  refine h B m w' hr ?_
  exact (below_alloc (Below.refl _ _) _).grown hg (by simp) (fun k hk => by simp [Value.ownBlock] at hk; omega)

end Go.Proofs.YtkcogfgjabemfaaGreatDoor

namespace Go.Proofs.YtkcogfgjabemfaaGreatDoor
open Go.RowKit
set_option linter.unusedVariables false
set_option linter.unusedSimpArgs false

/-- What a copy of a host leaves. -/
def HCopyOf (w : World) (h : Ht) (e : Ending) (w' : World) : Prop := ∃ u, e = .returned u ∧ HostOf w' w.heap.size w'.heap.size u h ∧ Below w.heap.size w w'

end Go.Proofs.YtkcogfgjabemfaaGreatDoor

namespace Go.Proofs.YtkcogfgjabemfaaGreatDoor
open Go.RowKit
set_option linter.unusedVariables false
set_option linter.unusedSimpArgs false

theorem hostOf_store {w : World} {lo hi g i : Nat} {v u : Value} {h : Ht} (H : HostOf w lo hi v h) (hg : g < lo) : HostOf (w.setCell ⟨g, i, none⟩ u) lo hi v h :=
  hostOf_keep H fun k _ h1 _ => Below.heap_setCell w _ u k (by show k ≠ g; omega)

theorem row_far {w : World} {lo g i : Nat} {v u : Value} {zs : List Int} (h : Row w lo v zs) (hp : ∀ k, v.ownBlock = some k → k ≠ g) : Row (w.setCell ⟨g, i, none⟩ u) lo v zs := row_keep h fun k hk => Below.heap_setCell w _ u k (hp k hk)

theorem borow_far {w : World} {lo g i : Nat} {v u : Value} {zs : List Bool} (h : BoRow w lo v zs) (hp : ∀ k, v.ownBlock = some k → k ≠ g) : BoRow (w.setCell ⟨g, i, none⟩ u) lo v zs := borow_keep h fun k hk => Below.heap_setCell w _ u k (hp k hk)

theorem drow_far {w : World} {lo g i : Nat} {v u : Value} {zs : List Dd} (h : DRow w lo v zs) (hp : ∀ k, v.ownBlock = some k → k ≠ g) : DRow (w.setCell ⟨g, i, none⟩ u) lo v zs := drow_keep h fun k hk => Below.heap_setCell w _ u k (hp k hk)

theorem parted_ne {x : Value} {g : Nat} {n m : Nat} (h : Parted (.slice (some ⟨g, 0, none⟩) n m) x) : ∀ k, x.ownBlock = some k → k ≠ g := fun k hk e => h g rfl (by rw [hk, e])

theorem hostOf_grant {w : World} {lo hi g m k : Nat} {y z q : Value} {h : Ht} (yes : Bool) (H : HostOf w lo hi (.agg #[.slice (some ⟨g, 0, none⟩) h.g.length m, y, z, .int .i64 h.c, q]) h) :
    HostOf (w.setCell ⟨g, k, none⟩ (.bool yes)) lo hi (.agg #[.slice (some ⟨g, 0, none⟩) h.g.length m, y, z, .int .i64 h.c, q]) { h with g := h.g.set k yes } := by
  obtain ⟨x', y', z', q', e, h1, h2, h3, h4, p1, p2, p3, p4, p5, p6, hh⟩ := H
  simp only [Value.agg.injEq, Array.mk.injEq, List.cons.injEq, and_true, true_and] at e
  obtain ⟨rfl, rfl, rfl, rfl⟩ := e
  exact ⟨_, _, _, _, rfl, (borow_set h1 k yes).1, row_far h2 (parted_ne p1), row_far h3 (parted_ne p2), drow_far h4 (parted_ne p3), p1, p2, p3, p4, p5, p6, hh⟩

end Go.Proofs.YtkcogfgjabemfaaGreatDoor

namespace Go.Proofs.YtkcogfgjabemfaaGreatDoor
open Go.RowKit
set_option linter.unusedVariables false
set_option linter.unusedSimpArgs false

/-- What granting comes to. -/
def hGrant (h : Ht) (c : Int) (yes : Bool) : Ht × Int := if hOK h then if inB c 0 3 then ({ h with g := h.g.set c.toNat yes }, 0) else (noHt, 9) else (noHt, 1)

/-- A host handed back in memory of its own, and a code. -/
def HResOf (w : World) (r : Ht × Int) (e : Ending) (w' : World) : Prop := ∃ u, e = .returned (.tuple #[u, .int .i64 r.2]) ∧ HostOf w' w.heap.size w'.heap.size u r.1 ∧ Below w.heap.size w w'

theorem hres_none {w w' : World} {c : Int} (hb : Below w.heap.size w w') : HResOf w (noHt, c) (.returned (.tuple #[.agg #[.slice none 0 0, .slice none 0 0, .slice none 0 0, .int .i64 0, .slice none 0 0], .int .i64 c])) w' :=
  ⟨_, rfl, hostOf_none _ _ _, hb⟩

end Go.Proofs.YtkcogfgjabemfaaGreatDoor

namespace Go.Proofs.YtkcogfgjabemfaaGreatDoor
open Go.RowKit
set_option linter.unusedVariables false
set_option linter.unusedSimpArgs false

/-- Five cells written, one after the other. -/
def set5 (w : World) (g : Nat) (a b c d e : Value) : World := ((((w.setCell ⟨g, 0, none⟩ a).setCell ⟨g, 1, none⟩ b).setCell ⟨g, 2, none⟩ c).setCell ⟨g, 3, none⟩ d).setCell ⟨g, 4, none⟩ e

theorem whole_set5 {w : World} {g : Nat} {t : TypeId} {p0 p1 p2 p3 p4 : Value} (h : Whole w g t #[p0, p1, p2, p3, p4]) (a b c d e : Value) : Whole (set5 w g a b c d e) g t #[a, b, c, d, e] :=
  whole_set (whole_set (whole_set (whole_set (whole_set h 0 a) 1 b) 2 c) 3 d) 4 e

theorem whole_far5 {w : World} {g k : Nat} {t : TypeId} {cs : Array Value} (h : Whole w g t cs) (hp : g ≠ k) (a b c d e : Value) : Whole (set5 w k a b c d e) g t cs :=
  whole_far (whole_far (whole_far (whole_far (whole_far h (p := ⟨k, 0, none⟩) hp a) (p := ⟨k, 1, none⟩) hp b) (p := ⟨k, 2, none⟩) hp c) (p := ⟨k, 3, none⟩) hp d) (p := ⟨k, 4, none⟩) hp e

theorem below_set5 {B k : Nat} {w0 w : World} (hb : Below B w0 w) (hk : B ≤ k) (a b c d e : Value) : Below B w0 (set5 w k a b c d e) :=
  ((((hb.setCell (p := ⟨k, 0, none⟩) hk a).setCell (p := ⟨k, 1, none⟩) hk b).setCell (p := ⟨k, 2, none⟩) hk c).setCell (p := ⟨k, 3, none⟩) hk d).setCell (p := ⟨k, 4, none⟩) hk e

theorem hostOf_set5 {w : World} {lo hi k : Nat} {v : Value} {h : Ht} (H : HostOf w lo hi v h) (hk : k < lo) (a b c d e : Value) : HostOf (set5 w k a b c d e) lo hi v h :=
  hostOf_store (hostOf_store (hostOf_store (hostOf_store (hostOf_store H hk) hk) hk) hk) hk

theorem set5_size (w : World) (k : Nat) (a b c d e : Value) : (set5 w k a b c d e).heap.size = w.heap.size := by unfold set5; simp

theorem hostOf_alloc {w : World} {lo hi : Nat} {v : Value} {h : Ht} (H : HostOf w lo hi v h) (o : Obj) : HostOf (w.alloc o) lo hi v h := hostOf_below H (below_alloc (Below.refl _ _) o)

theorem hostOf_thirdRow {w : World} {lo hi : Nat} {x y z q : Value} {h : Ht} {c : Int} (H : HostOf w lo hi (.agg #[x, y, z, .int .i64 c, q]) h) : Row w lo z h.n := by
  obtain ⟨x', y', z', q', e, h1, h2, h3, h4, _⟩ := H
  simp only [Value.agg.injEq, Array.mk.injEq, List.cons.injEq, and_true, true_and] at e
  obtain ⟨rfl, rfl, rfl, _, rfl⟩ := e
  exact h3

theorem ints_oneAt (w : World) (n : Int) {g : Nat} (hg : g = w.heap.size) : Ints (w.alloc (.cells #[.int .i64 n] 3)) (.slice (some ⟨g, 0, none⟩) 1 1) [n] := by
  subst hg
  exact ints_one w n

/-- A host's answers turned in a row of their own. -/
theorem hostOf_third {w w' : World} {lo hi : Nat} {x y z z' q : Value} {h : Ht} {N : List Int} (H : HostOf w lo hi (.agg #[x, y, z, .int .i64 h.c, q]) h) (hg : w.grownBy w' z.ownBlock) (hr : Row w' lo z' N)
    (ho : ∀ g, z'.ownBlock = some g → z.ownBlock = some g ∨ hi ≤ g) (hi' : hi ≤ w'.heap.size) : HostOf w' lo w'.heap.size (.agg #[x, y, z', .int .i64 h.c, q]) { h with n := N } := by
  obtain ⟨x', y', z0, q', e, h1, h2, h3, h4, p1, p2, p3, p4, p5, p6, hh⟩ := H
  simp only [Value.agg.injEq, Array.mk.injEq, List.cons.injEq, and_true, true_and] at e
  obtain ⟨rfl, rfl, rfl, rfl⟩ := e
  have pt : ∀ a : Value, Parted a z → (∀ g, a.ownBlock = some g → g < hi) → Parted a z' := fun a p l g ha hz => by
    rcases ho g hz with h | h
    · exact p g ha h
    · have := l g ha; omega
  refine ⟨_, _, _, _, rfl, borow_mark h1 hg p2, row_mark h2 hg p4, hr, drow_mark h4 hg (parted_sym p6), p1, pt _ p2 (fun g hg => hh g (.inl hg)), p3, pt _ p4 (fun g hg => hh g (.inr (.inl hg))), p5, parted_sym (pt _ (parted_sym p6) (fun g hg => hh g (.inr (.inr (.inr hg))))), fun g hg => ?_⟩
  rcases hg with hg | hg | hg | hg
  · exact Nat.lt_of_lt_of_le (hh g (.inl hg)) hi'
  · exact Nat.lt_of_lt_of_le (hh g (.inr (.inl hg))) hi'
  · exact (row_lt hr g hg).2
  · exact Nat.lt_of_lt_of_le (hh g (.inr (.inr (.inr hg)))) hi'

/-- What laying an answer by comes to. -/
def hAnswer (h : Ht) (n : Int) : Ht × Int := if hOK h then if cellB n then if h.n.length = 20 then (h, 7) else ({ h with n := h.n ++ [n] }, 0) else (noHt, 4) else (noHt, 1)

end Go.Proofs.YtkcogfgjabemfaaGreatDoor

namespace Go.Proofs.YtkcogfgjabemfaaGreatDoor
open Go.RowKit
set_option linter.unusedVariables false
set_option linter.unusedSimpArgs false

/-- How many cells a capability takes. -/
def capTakes (c : Nat) : Nat := [1, 2, 1, 0].getD c 0

end Go.Proofs.YtkcogfgjabemfaaGreatDoor

namespace Go.Proofs.YtkcogfgjabemfaaGreatDoor
open Go.RowKit
set_option linter.unusedVariables false
set_option linter.unusedSimpArgs false

/-- What a granted call comes to, of what lies on the stack: a below b. The host, the cell, the throw. -/
def hDo (h : Ht) (c : Nat) (a b : Int) : Ht × Int × Int :=
  if c = 0 then (if inB b 0 7 then ({ h with d := h.d ++ [⟨0, b, 0, h.s.getD b.toNat 0⟩] }, h.s.getD b.toNat 0, 0) else (h, 0, -9))
  else if c = 1 then (if inB b 0 7 then ({ h with s := h.s.set b.toNat a, d := h.d ++ [⟨1, b, a, 0⟩] }, 0, 0) else (h, 0, -9))
  else if c = 2 then ({ h with n := h.n.tail, d := h.d ++ [⟨2, b, 0, h.n.headD 0⟩] }, h.n.headD 0, 0)
  else ({ h with d := h.d ++ [⟨3, 0, 0, h.c⟩] }, h.c, 0)

/-- The value reads as this host wherever the blocks from lo on are as here. -/
def HostSt (w : World) (lo : Nat) (v : Value) (h : Ht) : Prop := ∀ W' : World, (∀ g, lo ≤ g → g < w.heap.size → W'.heap[g]? = w.heap[g]?) → HostIn W' v h

theorem hostSt_of {w : World} {lo' lo hi : Nat} {v : Value} {h : Ht} (hl : lo' ≤ lo) (H : HostOf w lo hi v h) : HostSt w lo' v h := fun W' hW => hostOf_in (hostOf_keep H fun g hg h1 _ => hW g (by omega) hg)

theorem hostSt_now {w : World} {lo : Nat} {v : Value} {h : Ht} (H : HostSt w lo v h) : HostIn w v h := H w fun _ _ _ => rfl

/-- A host that reads, and two numbers. -/
def HDoOf (w : World) (r : Ht × Int × Int) (e : Ending) (w' : World) : Prop := ∃ u, e = .returned (.tuple #[u, .int .i64 r.2.1, .int .i64 r.2.2]) ∧ HostSt w' w.heap.size u r.1 ∧ Below w.heap.size w w'

theorem whole_at {w : World} {g : Nat} {t : TypeId} {cs : Array Value} (hg : g = w.heap.size) : Whole (w.alloc (.cells cs t)) g t cs := by
  subst hg
  exact whole_new w t cs

theorem four_cells {w : World} {g : Nat} {t : TypeId} {a b c d : Value} (h : Whole w g t #[a, b, c, d]) :
    w.cell? ⟨g, 0, none⟩ = some a ∧ w.cell? ⟨g, 1, none⟩ = some b ∧ w.cell? ⟨g, 2, none⟩ = some c ∧ w.cell? ⟨g, 3, none⟩ = some d :=
  ⟨whole_cell h 0, whole_cell h 1, whole_cell h 2, whole_cell h 3⟩

theorem dds_oneAt (w : World) (x : Dd) {g : Nat} (hg : g = w.heap.size) : Dds (w.alloc (.cells #[.int .i64 x.p, .int .i64 x.a, .int .i64 x.b, .int .i64 x.r] 109)) (.slice (some ⟨g, 0, none⟩) 1 1) [x] := by
  obtain ⟨c0, c1, c2, c3⟩ := four_cells (whole_at (t := 109) (cs := #[.int .i64 x.p, .int .i64 x.a, .int .i64 x.b, .int .i64 x.r]) hg)
  refine ⟨by unfold maxLen; simp, some ⟨g, 0, none⟩, 1, rfl, fun _ => ⟨_, rfl, fun k hk => ?_⟩⟩
  have hk0 : k = 0 := by simp at hk; omega
  subst hk0
  rw [show (⟨g, 0, none⟩ : Addr).add (0 * 4) = ⟨g, 0, none⟩ by rw [Addr.add_lit]]
  exact ⟨c0, c1, c2, c3⟩

theorem hostOf_secondRow {w : World} {lo hi : Nat} {x y z q : Value} {h : Ht} {c : Int} (H : HostOf w lo hi (.agg #[x, y, z, .int .i64 c, q]) h) : Row w lo y h.s := by
  obtain ⟨x', y', z', q', e, h1, h2, h3, h4, _⟩ := H
  simp only [Value.agg.injEq, Array.mk.injEq, List.cons.injEq, and_true, true_and] at e
  obtain ⟨rfl, rfl, rfl, _, rfl⟩ := e
  exact h2

theorem hostOf_deedRow {w : World} {lo hi : Nat} {x y z q : Value} {h : Ht} {c : Int} (H : HostOf w lo hi (.agg #[x, y, z, .int .i64 c, q]) h) : DRow w lo q h.d := by
  obtain ⟨x', y', z', q', e, h1, h2, h3, h4, _⟩ := H
  simp only [Value.agg.injEq, Array.mk.injEq, List.cons.injEq, and_true, true_and] at e
  obtain ⟨rfl, rfl, rfl, _, rfl⟩ := e
  exact h4

/-- A cell of a host's store written. -/
theorem hostOf_put {w : World} {lo hi g m k : Nat} {x z q : Value} {h : Ht} (n : Int) (H : HostOf w lo hi (.agg #[x, .slice (some ⟨g, 0, none⟩) h.s.length m, z, .int .i64 h.c, q]) h) :
    HostOf (w.setCell ⟨g, k, none⟩ (.int .i64 n)) lo hi (.agg #[x, .slice (some ⟨g, 0, none⟩) h.s.length m, z, .int .i64 h.c, q]) { h with s := h.s.set k n } := by
  obtain ⟨x', y', z', q', e, h1, h2, h3, h4, p1, p2, p3, p4, p5, p6, hh⟩ := H
  simp only [Value.agg.injEq, Array.mk.injEq, List.cons.injEq, and_true, true_and] at e
  obtain ⟨rfl, rfl, rfl, rfl⟩ := e
  exact ⟨_, _, _, _, rfl, borow_far h1 (parted_ne (parted_sym p1)), (row_set h2 k n).1, row_far h3 (parted_ne p4), drow_far h4 (parted_ne p5), p1, p2, p3, p4, p5, p6, hh⟩

/-- A host's deeds turned in a row of their own. -/
theorem hostOf_deeds {w w' : World} {lo hi : Nat} {x y z q q' : Value} {h : Ht} {N : List Dd} (H : HostOf w lo hi (.agg #[x, y, z, .int .i64 h.c, q]) h) (hg : w.grownBy w' q.ownBlock) (hr : DRow w' lo q' N)
    (ho : ∀ g, q'.ownBlock = some g → q.ownBlock = some g ∨ hi ≤ g) (hi' : hi ≤ w'.heap.size) : HostOf w' lo w'.heap.size (.agg #[x, y, z, .int .i64 h.c, q']) { h with d := N } := by
  obtain ⟨x', y', z0, q0, e, h1, h2, h3, h4, p1, p2, p3, p4, p5, p6, hh⟩ := H
  simp only [Value.agg.injEq, Array.mk.injEq, List.cons.injEq, and_true, true_and] at e
  obtain ⟨rfl, rfl, rfl, rfl⟩ := e
  have pt : ∀ a : Value, Parted a q → (∀ g, a.ownBlock = some g → g < hi) → Parted a q' := fun a p l g ha hz => by
    rcases ho g hz with h | h
    · exact p g ha h
    · have := l g ha; omega
  refine ⟨_, _, _, _, rfl, borow_mark h1 hg p3, row_mark h2 hg p5, row_mark h3 hg p6, hr, p1, p2, pt _ p3 (fun g hg => hh g (.inl hg)), p4, pt _ p5 (fun g hg => hh g (.inr (.inl hg))), pt _ p6 (fun g hg => hh g (.inr (.inr (.inl hg)))), fun g hg => ?_⟩
  rcases hg with hg | hg | hg | hg
  · exact Nat.lt_of_lt_of_le (hh g (.inl hg)) hi'
  · exact Nat.lt_of_lt_of_le (hh g (.inr (.inl hg))) hi'
  · exact Nat.lt_of_lt_of_le (hh g (.inr (.inr (.inl hg)))) hi'
  · exact (drow_lt hr g hg).2

theorem ints_tail {w : World} {ad : Addr} {n m : Nat} {a : Int} {zs : List Int} (hs : n = zs.length) (h : Ints w (.slice (some ad) (a :: zs).length m) (a :: zs)) {p : Nat} : Ints w (.slice (some (ad.add 1)) n p) zs := by
  subst hs
  obtain ⟨hl, A, cap, e, hc⟩ := h
  simp only [Value.slice.injEq, true_and] at e
  obtain ⟨rfl, rfl⟩ := e
  refine ⟨by simp at hl; omega, _, _, rfl, fun hp => ⟨_, rfl, fun k hk => ?_⟩⟩
  obtain ⟨ad', e, hc⟩ := hc (by simp)
  obtain rfl := Option.some.inj e
  have := hc (k + 1) (by simp <;> omega)
  rw [show (ad.add 1).add k = ad.add (k + 1) by rw [Addr.add_add]; congr 1; omega]
  simpa using this

theorem hostIn_third {w : World} {x y z q : Value} {h : Ht} {N : List Int} {z' : Value} (H : HostIn w (.agg #[x, y, z, .int .i64 h.c, q]) h) (hz : Ints w z' N) : HostIn w (.agg #[x, y, z', .int .i64 h.c, q]) { h with n := N } := by
  obtain ⟨x', y', z0, q0, e, h1, h2, h3, h4⟩ := H
  simp only [Value.agg.injEq, Array.mk.injEq, List.cons.injEq, and_true, true_and] at e
  obtain ⟨rfl, rfl, rfl, rfl⟩ := e
  exact ⟨_, _, _, _, rfl, h1, h2, hz, h4⟩

theorem hostOf_thirdInts {w : World} {lo hi : Nat} {x y z q : Value} {h : Ht} {c : Int} (H : HostOf w lo hi (.agg #[x, y, z, .int .i64 c, q]) h) : Ints w z h.n := row_ints (hostOf_thirdRow H)

theorem hostOf_drew {w : World} {lo hi : Nat} {v : Value} {h : Ht} (H : HostOf w lo hi v h) : HostOf w.drew lo hi v h := H

theorem hostIn_ask {w : World} {x y q : Value} {h : Ht} {g m n p : Nat} {n0 : Int} {ns : List Int} {PA : Option Addr} (e : h.n = n0 :: ns) (hn : n = ns.length) (hp : n = 0 ∨ PA = some ⟨g, 1, none⟩) (H : HostIn w (.agg #[x, y, .slice (some ⟨g, 0, none⟩) h.n.length m, .int .i64 h.c, q]) h) :
    HostIn w (.agg #[x, y, .slice PA n p, .int .i64 h.c, q]) { h with n := ns } := by
  refine hostIn_third H ?_
  obtain ⟨x', y', z0, q0, e', h1, h2, h3, h4⟩ := H
  simp only [Value.agg.injEq, Array.mk.injEq, List.cons.injEq, and_true, true_and] at e'
  obtain ⟨rfl, rfl, rfl, rfl⟩ := e'
  rw [e] at h3
  rcases hp with rfl | rfl
  · have : ns = [] := List.eq_nil_of_length_eq_zero hn.symm
    subst this
    exact ⟨Nat.zero_le _, PA, p, rfl, fun h => absurd h (by simp)⟩
  · exact ints_tail (ad := ⟨g, 0, none⟩) hn h3

theorem hostSt_ask {w : World} {x y q : Value} {h : Ht} {g m n p lo' lo hi : Nat} {n0 : Int} {ns : List Int} {PA : Option Addr} (e : h.n = n0 :: ns) (hn : n = ns.length) (hp : n = 0 ∨ PA = some ⟨g, 1, none⟩) (hl : lo' ≤ lo) (H : HostOf w lo hi (.agg #[x, y, .slice (some ⟨g, 0, none⟩) h.n.length m, .int .i64 h.c, q]) h) :
    HostSt w lo' (.agg #[x, y, .slice PA n p, .int .i64 h.c, q]) { h with n := ns } := fun W' hW => hostIn_ask e hn hp (hostSt_of hl H W' hW)

end Go.Proofs.YtkcogfgjabemfaaGreatDoor

namespace Go.Proofs.YtkcogfgjabemfaaGreatDoor
open Go.RowKit
set_option linter.unusedVariables false
set_option linter.unusedSimpArgs false

/-- A row of the call's own, or what is left of one behind its first cell. -/
def TRow (w : World) (base : Nat) (v : Value) (zs : List Int) : Prop :=
  Row w base v zs ∨ (∃ g cap a, v = .slice (some ⟨g, 1, none⟩) zs.length cap ∧ Row w base (.slice (some ⟨g, 0, none⟩) (a :: zs).length (cap + 1)) (a :: zs)) ∨ (zs = [] ∧ ∃ g, v = .slice (some ⟨g, 0, none⟩) 0 0 ∧ base ≤ g ∧ g < w.heap.size)

theorem trow_row {w : World} {base : Nat} {v : Value} {zs : List Int} (h : Row w base v zs) : TRow w base v zs := .inl h

theorem trow_lt {w : World} {base : Nat} {v : Value} {zs : List Int} (h : TRow w base v zs) : ∀ g, v.ownBlock = some g → base ≤ g ∧ g < w.heap.size := by
  rcases h with h | ⟨g, cap, a, rfl, h⟩ | ⟨rfl, g, rfl, h1, h2⟩
  · exact row_lt h
  · intro k hk
    exact row_lt h k (by simpa [Value.ownBlock] using hk)
  · intro k hk
    have : g = k := by simpa [Value.ownBlock] using hk
    subst this
    exact ⟨h1, h2⟩

theorem trow_keep {w w' : World} {base : Nat} {v : Value} {zs : List Int} (h : TRow w base v zs) (hs : w.heap.size ≤ w'.heap.size) (hk : ∀ g, v.ownBlock = some g → w'.heap[g]? = w.heap[g]?) : TRow w' base v zs := by
  rcases h with h | ⟨g, cap, a, rfl, h⟩ | ⟨rfl, g, rfl, h1, h2⟩
  · exact .inl (row_keep h hk)
  · exact .inr (.inl ⟨g, cap, a, rfl, row_keep h fun k hq => hk k (by simpa [Value.ownBlock] using hq)⟩)
  · exact .inr (.inr ⟨rfl, g, rfl, h1, by omega⟩)

theorem trow_base {w : World} {base base' : Nat} {v : Value} {zs : List Int} (h : TRow w base v zs) (hb : base' ≤ base) : TRow w base' v zs := by
  rcases h with h | ⟨g, cap, a, rfl, h⟩ | ⟨rfl, g, rfl, h1, h2⟩
  · exact .inl (row_base h hb)
  · exact .inr (.inl ⟨g, cap, a, rfl, row_base h hb⟩)
  · exact .inr (.inr ⟨rfl, g, rfl, by omega, h2⟩)

theorem ints_tail1 {w : World} {g cap : Nat} {a : Int} {zs : List Int} (h : Ints w (.slice (some ⟨g, 0, none⟩) (a :: zs).length (cap + 1)) (a :: zs)) : Ints w (.slice (some ⟨g, 1, none⟩) zs.length cap) zs :=
  ints_tail (ad := ⟨g, 0, none⟩) (p := cap) rfl h

theorem trow_ints {w : World} {base : Nat} {v : Value} {zs : List Int} (h : TRow w base v zs) : Ints w v zs := by
  rcases h with h | ⟨g, cap, a, rfl, h⟩ | ⟨rfl, g, rfl, h1, h2⟩
  · exact row_ints h
  · exact ints_tail1 (row_ints h)
  · exact ⟨Nat.zero_le _, _, _, rfl, fun h => absurd h (by simp)⟩

/-- What laying marks leaves. -/
def MarkTOf (w : World) (base : Nat) (v : Value) (n K : Nat) (e : Ending) (w' : World) : Prop := e = .returned (.int .i64 ((K : Int) + n)) ∧ TRow w' base v (marksI K n) ∧ w.grownBy w' v.ownBlock

/-- The value is this host, its rows in blocks of their own from lo on; of the answers' row the first cell may be gone. -/
def HostT (w : World) (lo : Nat) (v : Value) (h : Ht) : Prop :=
  ∃ x y z q, v = .agg #[x, y, z, .int .i64 h.c, q] ∧ BoRow w lo x h.g ∧ Row w lo y h.s ∧ TRow w lo z h.n ∧ DRow w lo q h.d ∧ Parted x y ∧ Parted x z ∧ Parted x q ∧ Parted y z ∧ Parted y q ∧ Parted z q

theorem hostT_of {w : World} {lo hi : Nat} {v : Value} {h : Ht} (H : HostOf w lo hi v h) : HostT w lo v h := by
  obtain ⟨x, y, z, q, e, h1, h2, h3, h4, p1, p2, p3, p4, p5, p6, _⟩ := H
  exact ⟨x, y, z, q, e, h1, h2, .inl h3, h4, p1, p2, p3, p4, p5, p6⟩

theorem hostT_in {w : World} {lo : Nat} {v : Value} {h : Ht} (H : HostT w lo v h) : HostIn w v h := by
  obtain ⟨x, y, z, q, e, h1, h2, h3, h4, _⟩ := H
  exact ⟨x, y, z, q, e, borow_bols h1, row_ints h2, trow_ints h3, drow_dds h4⟩

theorem hostT_keep {w w' : World} {lo : Nat} {v : Value} {h : Ht} (H : HostT w lo v h) (hs : w.heap.size ≤ w'.heap.size) (hk : ∀ g, Mine v g → w'.heap[g]? = w.heap[g]?) : HostT w' lo v h := by
  obtain ⟨x, y, z, q, rfl, h1, h2, h3, h4, p⟩ := H
  have hm : ∀ u ∈ [x, y, z, .int .i64 h.c, q], ∀ g, u.ownBlock = some g → w'.heap[g]? = w.heap[g]? := fun u hu g e => hk g (mine_agg.2 ⟨u, hu, e⟩)
  exact ⟨x, y, z, q, rfl, borow_keep h1 (hm x (by simp)), row_keep h2 (hm y (by simp)), trow_keep h3 hs (hm z (by simp)), drow_keep h4 (hm q (by simp)), p⟩

theorem hostT_mine {w : World} {lo : Nat} {v : Value} {h : Ht} (H : HostT w lo v h) {g : Nat} (hg : Mine v g) : lo ≤ g ∧ g < w.heap.size := by
  obtain ⟨x, y, z, q, rfl, h1, h2, h3, h4, _⟩ := H
  obtain ⟨u, hu, e⟩ := mine_agg.1 hg
  simp only [List.mem_cons, List.not_mem_nil, or_false] at hu
  rcases hu with rfl | rfl | rfl | rfl | rfl
  · exact borow_lt h1 g e
  · exact row_lt h2 g e
  · exact trow_lt h3 g e
  · simp [Value.ownBlock] at e
  · exact drow_lt h4 g e

theorem hostT_below {w w' : World} {lo : Nat} {v : Value} {h : Ht} (H : HostT w lo v h) (hb : Below w.heap.size w w') : HostT w' lo v h := hostT_keep H hb.size fun g hg => hb.block g (hostT_mine H hg).2

theorem hostT_only {S : Nat → Prop} {w w' : World} {lo : Nat} {v : Value} {h : Ht} (H : HostT w lo v h) (hb : Only S w w') (hs : ∀ g, Mine v g → ¬ S g) : HostT w' lo v h := hostT_keep H hb.size fun g hg => hb.block g (hostT_mine H hg).2 (hs g hg)

theorem hostT_base {w : World} {lo lo' : Nat} {v : Value} {h : Ht} (H : HostT w lo v h) (hl : lo' ≤ lo) : HostT w lo' v h := by
  obtain ⟨x, y, z, q, e, h1, h2, h3, h4, p⟩ := H
  exact ⟨x, y, z, q, e, borow_base h1 hl, row_base h2 hl, trow_base h3 hl, drow_base h4 hl, p⟩

theorem hostT_store {w : World} {lo g i : Nat} {v u : Value} {h : Ht} (H : HostT w lo v h) (hg : ∀ k, Mine v k → k ≠ g) : HostT (w.setCell ⟨g, i, none⟩ u) lo v h :=
  hostT_keep H (by simp [World.setCell]) fun k hk => Below.heap_setCell w _ u k (hg k hk)

theorem trow_mark {w w' : World} {lo : Nat} {v u : Value} {zs : List Int} (h : TRow w lo v zs) (hg : w.grownBy w' u.ownBlock) (hp : Parted v u) : TRow w' lo v zs :=
  trow_keep h hg.size fun g hv => hg.block g (trow_lt h g hv).2 (fun e => hp g hv e.symm)

theorem trow_alloc {w : World} {base : Nat} {v : Value} {zs : List Int} (h : TRow w base v zs) (o : Obj) : TRow (w.alloc o) base v zs := trow_keep h (by simp) fun g hg => Below.heap_alloc w o g (trow_lt h g hg).2

end Go.Proofs.YtkcogfgjabemfaaGreatDoor

namespace Go.Proofs.YtkcogfgjabemfaaGreatDoor
open Go.Joins Go.ChangeShapes Go.WideShapes Go.RowKit Go.Deep Go.ChangeAt
set_option linter.unusedVariables false
set_option linter.unusedSimpArgs false

section
variable {H : Type} {enc : TypeId × Value → H} {w : World} {base : Nat} {spare : Nat → Bool} {held : Bool}

theorem bols_of_trod {fuel : Nat} {v : Value} {x : DataW H × List MemPlace} (h : DataW.trod enc Tryz.prog w base (fun _ => true) held fuel 26 [v] = some x) : ∃ zs, Bols w v zs := by
  rcases open_bools Tryz.underlying26 Tryz.underlying4 (by kernel_rfl) h with ⟨hcs, _⟩ | ⟨a, l, c, B, hcs, _, hl, hm, _, hcell⟩
  · simp only [List.cons.injEq, and_true] at hcs
    subst hcs
    exact ⟨[], Nat.zero_le _, none, 0, rfl, fun h => absurd h (by simp)⟩
  · simp only [List.cons.injEq, and_true] at hcs
    subst hcs
    refine ⟨(List.range l).map B, by simp; omega, some a, c, by simp, fun _ => ⟨a, rfl, fun k hk => ?_⟩⟩
    simp at hk
    rw [hcell k (by omega)]
    simp

theorem deed_one : Tryz.prog.cellsOf 3 = 1 := by kernel_rfl

theorem deed_of_trod {fuel : Nat} {cs : List Value} {x : DataW H × List MemPlace} (hl : cs.length = 4) (h : DataW.trod enc Tryz.prog w base spare held fuel 115 cs = some x) : ∃ y : Dd, cs = [.int .i64 y.p, .int .i64 y.a, .int .i64 y.b, .int .i64 y.r] := by
  match cs, hl with
  | [c0, c1, c2, c3], _ =>
    obtain ⟨xs, n, _, hx, _, hlen, hg⟩ := DataW.trod_struct Tryz.underlying115 h
    match xs, hlen with
    | [y0, y1, y2, y3], _ =>
      have g0 := hg 0 _ rfl
      have g1 := hg 1 _ rfl
      have g2 := hg 2 _ rfl
      have g3 := hg 3 _ rfl
      simp [deed_one] at g0 g1 g2 g3
      obtain ⟨n0, e0, _, _⟩ := DataW.trod_int Tryz.underlying3 g0
      obtain ⟨n1, e1, _, _⟩ := DataW.trod_int Tryz.underlying3 g1
      obtain ⟨n2, e2, _, _⟩ := DataW.trod_int Tryz.underlying3 g2
      obtain ⟨n3, e3, _, _⟩ := DataW.trod_int Tryz.underlying3 g3
      simp only [List.cons.injEq, and_true] at e0 e1 e2 e3
      subst e0 e1 e2 e3
      exact ⟨⟨n0, n1, n2, n3⟩, rfl⟩

theorem choose_deeds {len : Nat} {p : Nat → Dd → Prop} (h : ∀ i, i < len → ∃ x, p i x) : ∃ Q : List Dd, Q.length = len ∧ ∀ i (hi : i < Q.length), p i Q[i] := by
  induction len with
  | zero => exact ⟨[], rfl, fun i hi => by simp at hi⟩
  | succ m ih =>
    obtain ⟨Q, hl, hq⟩ := ih (fun i hi => h i (by omega))
    obtain ⟨x, hx⟩ := h m (by omega)
    refine ⟨Q ++ [x], by simp [hl], fun i hi => ?_⟩
    by_cases e : i < Q.length
    · rw [List.getElem_append_left e]; exact hq i e
    · have : i = m := by simp at hi; omega
      subst this
      rw [List.getElem_append_right (by omega)]
      simp [hl]
      exact hx

theorem dds_of_trod {fuel : Nat} {A : Option Addr} {l c : Nat} {x : DataW H × List MemPlace} (hf : DataW.trod enc Tryz.prog w base (fun _ => true) held fuel 27 [.slice A l c] = some x) : ∃ D : List Dd, Dds w (.slice A l c) D := by
  have hC : Tryz.prog.cellsOf 115 = 4 := by kernel_rfl
  rcases open_slice Tryz.underlying27 hf with ⟨hcs, _⟩ | ⟨a, len, cap, m, n, D, Pl, hcs, hb, hl, hm, hmm, hx, hi⟩
  · simp at hcs
    obtain ⟨rfl, rfl, rfl⟩ := hcs
    exact ⟨[], dds_nil w⟩
  · simp at hcs
    obtain ⟨rfl, rfl, rfl⟩ := hcs
    simp only [if_true] at hmm
    obtain ⟨Q, hlen, hq⟩ := choose_deeds (len := l) (p := fun i x => DdAt w (a.add (i * 4)) x) (fun i hil => by
      obtain ⟨cs', h1, h2⟩ := hi i (by omega)
      rw [hC] at h1
      obtain ⟨_, hcl, hat⟩ := World.cells?_some h1
      obtain ⟨y, rfl⟩ := deed_of_trod hcl h2
      refine ⟨y, ?_, ?_, ?_, ?_⟩
      · have := hat 0 (by omega); rw [Addr.add_zero'] at this; simpa using this
      · have := hat 1 (by omega); rw [Addr.add_succ'] at this; simpa using this
      · have := hat 2 (by omega); rw [Addr.add_succ'] at this; simpa using this
      · have := hat 3 (by omega); rw [Addr.add_succ'] at this; simpa using this)
    exact ⟨Q, by rw [hlen]; omega, some a, c, by rw [hlen], fun _ => ⟨a, rfl, fun k hk => hq k hk⟩⟩

set_option maxRecDepth 100000 in
theorem open_deeds {r : Reach} {b0 : Nat} {v : Value} {d : DataW H} {p : List MemPlace} (hv : Value.okWide Tryz.prog w r b0 27 v) (h : DataW.Trod enc Tryz.prog w base (fun _ => true) held 27 v d p) : ∃ D : List Dd, Dds w v D := by
  obtain ⟨A, l, c, rfl⟩ := okWide_slice Tryz.underlying27 hv
  obtain ⟨fuel, hf⟩ := h
  exact dds_of_trod (fuel := fuel) (x := (d, p)) (by simpa [Value.cells] using hf)

set_option maxRecDepth 100000 in
theorem open_host {r : Reach} {b0 : Nat} {v : Value} {d : DataW H} {p : List MemPlace} (hv : Value.okWide Tryz.prog w r b0 29 v) (h : DataW.Trod enc Tryz.prog w base (fun _ => true) held 29 v d p) :
    ∃ D : Ht, HostIn w v D := by
  obtain ⟨cs, rfl, hsz⟩ := okWide_struct Tryz.underlying29 hv
  have hC : Tryz.prog.cellsOf 29 = 5 := by kernel_rfl
  rw [hC] at hsz
  obtain ⟨l⟩ := cs
  match l, hsz with
  | [c0, c1, c2, c3, c4], _ =>
    obtain ⟨fuel, hf⟩ := h
    obtain ⟨xs, n, _, hx, _, hlen, hg⟩ := DataW.trod_struct Tryz.underlying29 hf
    have one : ∀ t, t = 23 ∨ t = 3 ∨ t = 26 ∨ t = 27 → Tryz.prog.cellsOf t = 1 := by
      rintro t (rfl | rfl | rfl | rfl) <;> kernel_rfl
    match xs, hlen with
    | [y0, y1, y2, y3, y4], _ =>
      have g0 := hg 0 _ rfl
      have g1 := hg 1 _ rfl
      have g2 := hg 2 _ rfl
      have g3 := hg 3 _ rfl
      have g4 := hg 4 _ rfl
      simp [Value.cells, one] at g0 g1 g2 g3 g4
      obtain ⟨zg, hgr⟩ := bols_of_trod g0
      obtain ⟨zs, hs⟩ := ints_of_trod g1
      obtain ⟨zn, hn⟩ := ints_of_trod g2
      obtain ⟨n3, e3, _, _⟩ := DataW.trod_int Tryz.underlying3 g3
      have h4 : ∃ zd, Dds w c4 zd := by
        rcases open_slice Tryz.underlying27 g4 with ⟨hcs, _⟩ | ⟨a, len, cap, m, n, D, Pl, hcs, _⟩ <;>
          (simp only [List.cons.injEq, and_true] at hcs; subst hcs; exact dds_of_trod g4)
      obtain ⟨zd, hd⟩ := h4
      simp only [List.cons.injEq, and_true] at e3
      subst e3
      exact ⟨⟨zg, zs, zn, n3, zd⟩, c0, c1, c2, c4, rfl, hgr, hs, hn, hd⟩
set_option maxRecDepth 100000 in
theorem open_intsA {r : Reach} {b0 : Nat} {v : Value} {d : DataW H} {p : List MemPlace} (hv : Value.okWide Tryz.prog w r b0 23 v) (h : DataW.Trod enc Tryz.prog w base (fun _ => true) held 23 v d p) : ∃ D : List Int, Ints w v D := by
  obtain ⟨A, n, c, rfl⟩ := okWide_slice Tryz.underlying23 hv
  obtain ⟨fuel, hf⟩ := h
  exact ints_of_trod hf

end

end Go.Proofs.YtkcogfgjabemfaaGreatDoor
