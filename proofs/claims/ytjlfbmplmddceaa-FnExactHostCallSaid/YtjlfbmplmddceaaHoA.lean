/- A host as a value: what reads as this host, what is owned as it; the laws' copy out of an argument. -/
import Derived.Test.YtjlfbmplmddceaaBoB
import Derived.Test.YtjlfbmplmddceaaDeB
import Derived.Test.YtjlfbmplmddceaaDatC
namespace Go.Proofs.Ytjlfbmplmddceaa
open Go.RowKit
set_option linter.unusedVariables false
set_option linter.unusedSimpArgs false

/-- A host: what is granted, the store, the answers, the clock, the deeds. -/
structure Ht where
  g : List Bool
  s : List Int
  n : List Int
  c : Int
  d : List Dd

/-- The value reads as this host. -/
def HostIn (w : World) (v : Value) (h : Ht) : Prop :=
  ∃ x y z q, v = .agg #[x, y, z, .int .i64 h.c, q] ∧ Bols w x h.g ∧ Ints w y h.s ∧ Ints w z h.n ∧ Dds w q h.d

/-- The value is this host, its rows in blocks of their own from lo on and below hi. -/
def HostOf (w : World) (lo hi : Nat) (v : Value) (h : Ht) : Prop :=
  ∃ x y z q, v = .agg #[x, y, z, .int .i64 h.c, q] ∧ BoRow w lo x h.g ∧ Row w lo y h.s ∧ Row w lo z h.n ∧ DRow w lo q h.d ∧ Parted x y ∧ Parted x z ∧ Parted x q ∧ Parted y z ∧ Parted y q ∧ Parted z q ∧
    ∀ g, x.ownBlock = some g ∨ y.ownBlock = some g ∨ z.ownBlock = some g ∨ q.ownBlock = some g → g < hi

theorem parted_lt {x y : Value} {n : Nat} (h : ∀ g, x.ownBlock = some g → g < n) (k : ∀ g, y.ownBlock = some g → n ≤ g) : Parted x y := fun g hg hy => by
  have h1 := h g hg
  have h2 := k g hy
  omega

theorem borow_store {w : World} {lo g i : Nat} {v u : Value} {zs : List Bool} (h : BoRow w lo v zs) (hg : g < lo) : BoRow (w.setCell ⟨g, i, none⟩ u) lo v zs :=
  borow_keep h fun k hk => Below.heap_setCell w _ u k (by have := borow_lt h k hk; show k ≠ g; omega)

theorem drow_store {w : World} {lo g i : Nat} {v u : Value} {zs : List Dd} (h : DRow w lo v zs) (hg : g < lo) : DRow (w.setCell ⟨g, i, none⟩ u) lo v zs :=
  drow_keep h fun k hk => Below.heap_setCell w _ u k (by have := drow_lt h k hk; show k ≠ g; omega)

theorem hostIn_keep {w w' : World} {v : Value} {h : Ht} (hv : HostIn w v h) (hk : ∀ (x : Addr) (u : Value), w.cell? x = some u → w'.cell? x = some u) : HostIn w' v h := by
  obtain ⟨x, y, z, q, e, h1, h2, h3, h4⟩ := hv
  exact ⟨x, y, z, q, e, bols_keep h1 hk, ints_keep h2 hk, ints_keep h3 hk, dds_keep h4 hk⟩

theorem hostIn_below {w w' : World} {v : Value} {h : Ht} (hv : HostIn w v h) (hb : Below w.heap.size w w') : HostIn w' v h := hostIn_keep hv (cell_kept hb)

theorem hostOf_in {w : World} {lo hi : Nat} {v : Value} {h : Ht} (hv : HostOf w lo hi v h) : HostIn w v h := by
  obtain ⟨x, y, z, q, e, h1, h2, h3, h4, _⟩ := hv
  exact ⟨x, y, z, q, e, borow_bols h1, row_ints h2, row_ints h3, drow_dds h4⟩

theorem hostOf_keep {w w' : World} {lo hi : Nat} {v : Value} {h : Ht} (hv : HostOf w lo hi v h) (hk : ∀ g, g < w.heap.size → lo ≤ g → g < hi → w'.heap[g]? = w.heap[g]?) : HostOf w' lo hi v h := by
  obtain ⟨x, y, z, q, e, h1, h2, h3, h4, p1, p2, p3, p4, p5, p6, hh⟩ := hv
  exact ⟨x, y, z, q, e, borow_keep h1 fun g hg => hk g (borow_lt h1 g hg).2 (borow_lt h1 g hg).1 (hh g (.inl hg)), row_keep h2 fun g hg => hk g (row_lt h2 g hg).2 (row_lt h2 g hg).1 (hh g (.inr (.inl hg))),
    row_keep h3 fun g hg => hk g (row_lt h3 g hg).2 (row_lt h3 g hg).1 (hh g (.inr (.inr (.inl hg)))), drow_keep h4 fun g hg => hk g (drow_lt h4 g hg).2 (drow_lt h4 g hg).1 (hh g (.inr (.inr (.inr hg)))), p1, p2, p3, p4, p5, p6, hh⟩

theorem hostOf_below {w w' : World} {lo hi : Nat} {v : Value} {h : Ht} (hv : HostOf w lo hi v h) (hb : Below w.heap.size w w') : HostOf w' lo hi v h := hostOf_keep hv fun g hg _ _ => hb.block g hg

theorem hostOf_b {w w' : World} {lo hi : Nat} {v : Value} {h : Ht} (hb : Below w.heap.size w w') (hv : HostOf w lo hi v h) : HostOf w' lo hi v h := hostOf_below hv hb

theorem hostOf_within {w w' : World} {lo hi lo' hi' : Nat} {v : Value} {h : Ht} (hv : HostOf w lo hi v h) (hb : Within lo' hi' w w') (ha : hi ≤ lo' ∨ hi' ≤ lo) : HostOf w' lo hi v h :=
  hostOf_keep hv fun g hg h1 h2 => hb.block g hg (by omega)

theorem hostOf_base {w : World} {lo lo' hi : Nat} {v : Value} {h : Ht} (hv : HostOf w lo hi v h) (hl : lo' ≤ lo) : HostOf w lo' hi v h := by
  obtain ⟨x, y, z, q, e, h1, h2, h3, h4, p⟩ := hv
  exact ⟨x, y, z, q, e, borow_base h1 hl, row_base h2 hl, row_base h3 hl, drow_base h4 hl, p⟩

theorem hostOf_top {w : World} {lo hi hi' : Nat} {v : Value} {h : Ht} (hv : HostOf w lo hi v h) (hl : hi ≤ hi') : HostOf w lo hi' v h := by
  obtain ⟨x, y, z, q, e, h1, h2, h3, h4, p1, p2, p3, p4, p5, p6, hh⟩ := hv
  exact ⟨x, y, z, q, e, h1, h2, h3, h4, p1, p2, p3, p4, p5, p6, fun g hg => Nat.lt_of_lt_of_le (hh g hg) hl⟩

theorem hostOf_rows {w : World} {lo : Nat} {x y z q : Value} {h : Ht} (h1 : BoRow w lo x h.g) (h2 : Row w lo y h.s) (h3 : Row w lo z h.n) (h4 : DRow w lo q h.d) (p1 : Parted x y) (p2 : Parted x z) (p3 : Parted x q) (p4 : Parted y z) (p5 : Parted y q) (p6 : Parted z q) :
    HostOf w lo w.heap.size (.agg #[x, y, z, .int .i64 h.c, q]) h :=
  ⟨x, y, z, q, rfl, h1, h2, h3, h4, p1, p2, p3, p4, p5, p6, fun g hg => by
    rcases hg with hg | hg | hg | hg
    · exact (borow_lt h1 g hg).2
    · exact (row_lt h2 g hg).2
    · exact (row_lt h3 g hg).2
    · exact (drow_lt h4 g hg).2⟩

theorem hostIn_form {w : World} {v : Value} {h : Ht} (hv : HostIn w v h) : ∃ A1 k1 A2 k2 A3 k3 A4 k4, v = .agg #[.slice A1 h.g.length k1, .slice A2 h.s.length k2, .slice A3 h.n.length k3, .int .i64 h.c, .slice A4 h.d.length k4] := by
  obtain ⟨x, y, z, q, rfl, ⟨_, A1, k1, rfl, _⟩, ⟨_, A2, k2, rfl, _⟩, ⟨_, A3, k3, rfl, _⟩, ⟨_, A4, k4, rfl, _⟩⟩ := hv
  exact ⟨_, _, _, _, _, _, _, _, rfl⟩

/-- No host. -/
def noHt : Ht := ⟨[], [], [], 0, []⟩

theorem hostOf_none (w : World) (lo hi : Nat) : HostOf w lo hi (.agg #[.slice none 0 0, .slice none 0 0, .slice none 0 0, .int .i64 0, .slice none 0 0]) noHt :=
  ⟨_, _, _, _, rfl, borow_nil w lo, row_nil w lo, row_nil w lo, drow_nil w lo, parted_nil _, parted_nil _, parted_nil _, parted_nil _, parted_nil _, parted_nil _, fun g hg => by simp [Value.ownBlock] at hg⟩

/-- The host is small. -/
def SmallH (h : Ht) : Prop := h.g.length ≤ 1048576 ∧ h.s.length ≤ 1048576 ∧ h.n.length ≤ 1048576 ∧ h.d.length ≤ 1048576

theorem small_noHt : SmallH noHt := by unfold SmallH noHt; decide

theorem five_cells {w : World} {g : Nat} {t : TypeId} {a b c d e : Value} (h : Whole w g t #[a, b, c, d, e]) :
    w.cell? ⟨g, 0, none⟩ = some a ∧ w.cell? ⟨g, 1, none⟩ = some b ∧ w.cell? ⟨g, 2, none⟩ = some c ∧ w.cell? ⟨g, 3, none⟩ = some d ∧ w.cell? ⟨g, 4, none⟩ = some e :=
  ⟨whole_cell h 0, whole_cell h 1, whole_cell h 2, whole_cell h 3, whole_cell h 4⟩

/-- What is left of a size: below 0, or the host is small. -/
def SzHOf (w : World) (h : Ht) (e : Ending) (w' : World) : Prop := ∃ r : Int, e = .returned (.int .i64 r) ∧ (r = -1 ∨ (0 ≤ r ∧ r ≤ 1048576 ∧ SmallH h)) ∧ Below w.heap.size w w'

set_option maxRecDepth 100000 in
set_option maxHeartbeats 1000000 in
theorem szHost_any (v : Value) (h : Ht) (left : Int) (w : World) (hv : HostIn w v h) (h0 : 0 ≤ left) (h1 : left ≤ 1048576) :
    Calls Try.prog 6 #[v, .int .i64 left] w (SzHOf w h) := by
  obtain ⟨x, y, z, q, rfl, ⟨l1, A, ca, rfl, _⟩, ⟨l2, B, cb, rfl, _⟩, ⟨l3, C, cc, rfl, _⟩, ⟨l4, D, cd, rfl, _⟩⟩ := hv
  have L1 := Lib.hid l1
  have L2 := Lib.hid l2
  have L3 := Lib.hid l3
  have L4 := Lib.hid l4
  unfold maxLen at l1 l2 l3 l4
  have SM : Hid (SmallH h ↔ h.g.length ≤ 1048576 ∧ h.s.length ≤ 1048576 ∧ h.n.length ≤ 1048576 ∧ h.d.length ≤ 1048576) := Lib.hid Iff.rfl
  by_cases t1 : left - h.g.length < 0
  · have e1 : leftOf left h.g.length = -1 := by unfold leftOf; rw [if_pos t1]
    go_enter Try.func6, Try.ntmps6
    go_wp2_with (first | (go_at_call 38; refine (szInts_any _ _ _ _ _ (by first | exact L2.out | exact L3.out) (by omega) (by omega)).mono ?_; rintro e w' ⟨rfl, rfl⟩) | (go_at_call 37; refine (szBools_any _ _ _ _ _ L1.out (by omega) (by omega)).mono ?_; rintro e w' ⟨rfl, rfl⟩) | (go_at_call 39; refine (szDeeds_any _ _ _ _ _ L4.out (by omega) (by omega)).mono ?_; rintro e w' ⟨rfl, rfl⟩))
    go_ret
    exact ⟨_, rfl, .inl rfl, below_alloc (Below.refl _ _) _⟩
  · have e1 : leftOf left h.g.length = left - h.g.length := by unfold leftOf; rw [if_neg t1]
    have q1 : 0 ≤ left - h.g.length := by omega
    by_cases t2 : left - h.g.length - h.s.length < 0
    · have e2 : leftOf (left - h.g.length) h.s.length = -1 := by unfold leftOf; rw [if_pos t2]
      go_enter Try.func6, Try.ntmps6
      go_wp2_with (first | (go_at_call 38; refine (szInts_any _ _ _ _ _ (by first | exact L2.out | exact L3.out) (by omega) (by omega)).mono ?_; rintro e w' ⟨rfl, rfl⟩) | (go_at_call 37; refine (szBools_any _ _ _ _ _ L1.out (by omega) (by omega)).mono ?_; rintro e w' ⟨rfl, rfl⟩) | (go_at_call 39; refine (szDeeds_any _ _ _ _ _ L4.out (by omega) (by omega)).mono ?_; rintro e w' ⟨rfl, rfl⟩))
      go_ret
      exact ⟨_, rfl, .inl rfl, below_alloc (Below.refl _ _) _⟩
    · have e2 : leftOf (left - h.g.length) h.s.length = left - h.g.length - h.s.length := by unfold leftOf; rw [if_neg t2]
      have q2 : 0 ≤ left - h.g.length - h.s.length := by omega
      by_cases t3 : left - h.g.length - h.s.length - h.n.length < 0
      · have e3 : leftOf (left - h.g.length - h.s.length) h.n.length = -1 := by unfold leftOf; rw [if_pos t3]
        go_enter Try.func6, Try.ntmps6
        go_wp2_with (first | (go_at_call 38; refine (szInts_any _ _ _ _ _ (by first | exact L2.out | exact L3.out) (by omega) (by omega)).mono ?_; rintro e w' ⟨rfl, rfl⟩) | (go_at_call 37; refine (szBools_any _ _ _ _ _ L1.out (by omega) (by omega)).mono ?_; rintro e w' ⟨rfl, rfl⟩) | (go_at_call 39; refine (szDeeds_any _ _ _ _ _ L4.out (by omega) (by omega)).mono ?_; rintro e w' ⟨rfl, rfl⟩))
        go_ret
        exact ⟨_, rfl, .inl rfl, below_alloc (Below.refl _ _) _⟩
      · have e3 : leftOf (left - h.g.length - h.s.length) h.n.length = left - h.g.length - h.s.length - h.n.length := by unfold leftOf; rw [if_neg t3]
        have q3 : 0 ≤ left - h.g.length - h.s.length - h.n.length := by omega
        by_cases t4 : left - h.g.length - h.s.length - h.n.length - h.d.length < 0
        · have e4 : leftOf (left - h.g.length - h.s.length - h.n.length) h.d.length = -1 := by unfold leftOf; rw [if_pos t4]
          go_enter Try.func6, Try.ntmps6
          go_wp2_with (first | (go_at_call 38; refine (szInts_any _ _ _ _ _ (by first | exact L2.out | exact L3.out) (by omega) (by omega)).mono ?_; rintro e w' ⟨rfl, rfl⟩) | (go_at_call 37; refine (szBools_any _ _ _ _ _ L1.out (by omega) (by omega)).mono ?_; rintro e w' ⟨rfl, rfl⟩) | (go_at_call 39; refine (szDeeds_any _ _ _ _ _ L4.out (by omega) (by omega)).mono ?_; rintro e w' ⟨rfl, rfl⟩))
          go_ret
          exact ⟨_, rfl, .inl rfl, below_alloc (Below.refl _ _) _⟩
        · have e4 : leftOf (left - h.g.length - h.s.length - h.n.length) h.d.length = left - h.g.length - h.s.length - h.n.length - h.d.length := by unfold leftOf; rw [if_neg t4]
          have q4 : 0 ≤ left - h.g.length - h.s.length - h.n.length - h.d.length := by omega
          go_enter Try.func6, Try.ntmps6
          go_wp2_with (first | (go_at_call 38; refine (szInts_any _ _ _ _ _ (by first | exact L2.out | exact L3.out) (by omega) (by omega)).mono ?_; rintro e w' ⟨rfl, rfl⟩) | (go_at_call 37; refine (szBools_any _ _ _ _ _ L1.out (by omega) (by omega)).mono ?_; rintro e w' ⟨rfl, rfl⟩) | (go_at_call 39; refine (szDeeds_any _ _ _ _ _ L4.out (by omega) (by omega)).mono ?_; rintro e w' ⟨rfl, rfl⟩))
          go_ret
          exact ⟨_, rfl, .inr ⟨by omega, by omega, SM.out.2 ⟨by omega, by omega, by omega, by omega⟩⟩, below_alloc (Below.refl _ _) _⟩

set_option maxRecDepth 100000 in
set_option maxHeartbeats 4000000 in
theorem toHost_any (v : Value) (h : Ht) (w : World) (hv : HostIn w v h) (hs : SmallH h) :
    Calls Try.prog 9 #[v] w fun e w' => ∃ u, e = .returned u ∧ HostOf w' w.heap.size w'.heap.size u h ∧ Below w.heap.size w w' := by
  obtain ⟨x, y, z, q, rfl, hx, hy, hz, hq⟩ := hv
  have H1 := Lib.hid hx
  have H2 := Lib.hid hy
  have H3 := Lib.hid hz
  have H4 := Lib.hid hq
  have Hs := Lib.hid hs
  clear hx hy hz hq hs
  go_enter Try.func9, Try.ntmps9
  go_wp2_with fail
  refine (toBools_any _ h.g _ (bols_below H1.out (below_alloc (below_alloc (below_alloc (Below.refl _ _) _) _) _)) (by have := Hs.out.1; omega)).mono ?_
  rintro e w1 ⟨v1, rfl, hr1, -, hb1⟩
  have z1 : w.heap.size + 1 + 1 + 1 ≤ w1.heap.size := by have := hb1.size; simp at this; omega
  have B1 : Hid (Below w.heap.size w w1) := Lib.hid (below_step (below_alloc (below_alloc (below_alloc (Below.refl _ _) _) _) _) hb1)
  have WA1 := Lib.hid (whole_below (whole_alloc (whole_alloc (whole_new w _ _) _) _) hb1)
  have WR1 := Lib.hid (whole_below (whole_alloc (whole_new1 w _ _ _) _) hb1)
  have WO1 := Lib.hid (whole_below (whole_new2 w _ _ _ _) hb1)
  obtain ⟨_, A1, k1, rfl, _⟩ := borow_bols hr1
  have R1_1 : Hid (BoRow w1 (w.heap.size + 1 + 1 + 1) _ h.g) := Lib.hid (by simpa using hr1)
  have ca := whole_cell WA1.out 1
  have co := whole_cell WO1.out 0
  have fo := whole_free WO1.out
  clear hr1 hb1
  simp at ca co
  go_wp2_with fail
  clear ca co fo
  have B1' := Lib.hid (B1.out.setCell (p := ⟨w.heap.size + 1 + 1, 0, none⟩) (by simp; omega) (.slice A1 h.g.length k1))
  refine (toInts_any _ h.s _ (ints_below H2.out B1'.out) (by have := Hs.out.2.1; omega)).mono ?_
  rintro e w2 ⟨v2, rfl, hr2, -, hb2⟩
  have R1_2 := Lib.hid (borow_below (borow_store (u := .slice A1 h.g.length k1) (i := 0) R1_1.out (Nat.lt_succ_self (w.heap.size + 1 + 1))) hb2)
  have z2 : w.heap.size + 1 + 1 + 1 ≤ w2.heap.size := by have := hb2.size; simp at this; omega
  have B2 : Hid (Below w.heap.size w w2) := Lib.hid (B1'.out.trans (hb2.mono B1'.out.size))
  have WA2 := Lib.hid (whole_below (whole_far WA1.out (p := ⟨w.heap.size + 1 + 1, 0, none⟩) (by simp; omega) (.slice A1 h.g.length k1)) hb2)
  have WR2 := Lib.hid (whole_below (whole_far WR1.out (p := ⟨w.heap.size + 1 + 1, 0, none⟩) (by simp) (.slice A1 h.g.length k1)) hb2)
  have WO2 := Lib.hid (whole_below (whole_set WO1.out 0 (.slice A1 h.g.length k1)) hb2)
  obtain ⟨_, A2, k2, rfl, _⟩ := row_ints hr2
  have P12 := Lib.hid (parted_lt (fun g hg => (borow_lt R1_1.out g hg).2) (fun g hg => by have h1 := (row_lt hr2 g hg).1; simpa using h1))
  have R2_2 : Hid (Row w2 (w.heap.size + 1 + 1 + 1) _ h.s) := Lib.hid (row_base hr2 (by simp; omega))
  have ca := whole_cell WA2.out 2
  have co := whole_cell WO2.out 1
  have fo := whole_free WO2.out
  clear hr2 hb2
  simp at ca co
  go_wp2_with fail
  clear ca co fo
  have B2' := Lib.hid (B2.out.setCell (p := ⟨w.heap.size + 1 + 1, 1, none⟩) (by simp; omega) (.slice A2 h.s.length k2))
  refine (toInts_any _ h.n _ (ints_below H3.out B2'.out) (by have := Hs.out.2.2.1; omega)).mono ?_
  rintro e w3 ⟨v3, rfl, hr3, -, hb3⟩
  have R1_3 := Lib.hid (borow_below (borow_store (u := .slice A2 h.s.length k2) (i := 1) R1_2.out (Nat.lt_succ_self (w.heap.size + 1 + 1))) hb3)
  have R2_3 := Lib.hid (row_below (row_store (u := .slice A2 h.s.length k2) (i := 1) R2_2.out (Nat.lt_succ_self (w.heap.size + 1 + 1))) hb3)
  have z3 : w.heap.size + 1 + 1 + 1 ≤ w3.heap.size := by have := hb3.size; simp at this; omega
  have B3 : Hid (Below w.heap.size w w3) := Lib.hid (B2'.out.trans (hb3.mono B2'.out.size))
  have WA3 := Lib.hid (whole_below (whole_far WA2.out (p := ⟨w.heap.size + 1 + 1, 1, none⟩) (by simp; omega) (.slice A2 h.s.length k2)) hb3)
  have WR3 := Lib.hid (whole_below (whole_far WR2.out (p := ⟨w.heap.size + 1 + 1, 1, none⟩) (by simp) (.slice A2 h.s.length k2)) hb3)
  have WO3 := Lib.hid (whole_below (whole_set WO2.out 1 (.slice A2 h.s.length k2)) hb3)
  obtain ⟨_, A3, k3, rfl, _⟩ := row_ints hr3
  have P13 := Lib.hid (parted_lt (fun g hg => (borow_lt R1_2.out g hg).2) (fun g hg => by have h1 := (row_lt hr3 g hg).1; simpa using h1))
  have P23 := Lib.hid (parted_lt (fun g hg => (row_lt R2_2.out g hg).2) (fun g hg => by have h1 := (row_lt hr3 g hg).1; simpa using h1))
  have R3_3 : Hid (Row w3 (w.heap.size + 1 + 1 + 1) _ h.n) := Lib.hid (row_base hr3 (by simp; omega))
  have ca := whole_cell WA3.out 4
  have cc := whole_cell WA3.out 3
  have co3 := whole_cell WO3.out 3
  have co := whole_cell WO3.out 2
  have fo := whole_free WO3.out
  clear hr3 hb3
  simp at ca co cc co3
  go_wp2_with fail
  clear ca co cc co3 fo
  have B3' := Lib.hid ((B3.out.setCell (p := ⟨w.heap.size + 1 + 1, 2, none⟩) (by simp; omega) (.slice A3 h.n.length k3)).setCell (p := ⟨w.heap.size + 1 + 1, 3, none⟩) (by simp; omega) (.int .i64 h.c))
  refine (toDeedS_any _ h.d _ (dds_below H4.out B3'.out) Hs.out.2.2.2).mono ?_
  rintro e w4 ⟨v4, rfl, hr4, -, hb4⟩
  have R1_4 := Lib.hid (borow_below (borow_store (u := .int .i64 h.c) (i := 3) (borow_store (u := .slice A3 h.n.length k3) (i := 2) R1_3.out (Nat.lt_succ_self (w.heap.size + 1 + 1))) (Nat.lt_succ_self (w.heap.size + 1 + 1))) hb4)
  have R2_4 := Lib.hid (row_below (row_store (u := .int .i64 h.c) (i := 3) (row_store (u := .slice A3 h.n.length k3) (i := 2) R2_3.out (Nat.lt_succ_self (w.heap.size + 1 + 1))) (Nat.lt_succ_self (w.heap.size + 1 + 1))) hb4)
  have R3_4 := Lib.hid (row_below (row_store (u := .int .i64 h.c) (i := 3) (row_store (u := .slice A3 h.n.length k3) (i := 2) R3_3.out (Nat.lt_succ_self (w.heap.size + 1 + 1))) (Nat.lt_succ_self (w.heap.size + 1 + 1))) hb4)
  have z4 : w.heap.size + 1 + 1 + 1 ≤ w4.heap.size := by have := hb4.size; simp at this; omega
  have B4 : Hid (Below w.heap.size w w4) := Lib.hid (B3'.out.trans (hb4.mono B3'.out.size))
  have WA4 := Lib.hid (whole_below (whole_far (whole_far WA3.out (p := ⟨w.heap.size + 1 + 1, 2, none⟩) (by simp; omega) (.slice A3 h.n.length k3)) (p := ⟨w.heap.size + 1 + 1, 3, none⟩) (by simp; omega) (.int .i64 h.c)) hb4)
  have WR4 := Lib.hid (whole_below (whole_far (whole_far WR3.out (p := ⟨w.heap.size + 1 + 1, 2, none⟩) (by simp) (.slice A3 h.n.length k3)) (p := ⟨w.heap.size + 1 + 1, 3, none⟩) (by simp) (.int .i64 h.c)) hb4)
  have WO4 := Lib.hid (whole_below (whole_set (whole_set WO3.out 2 (.slice A3 h.n.length k3)) 3 (.int .i64 h.c)) hb4)
  obtain ⟨_, A4, k4, rfl, _⟩ := drow_dds hr4
  have P14 := Lib.hid (parted_lt (fun g hg => (borow_lt R1_3.out g hg).2) (fun g hg => by have h1 := (drow_lt hr4 g hg).1; simpa using h1))
  have P24 := Lib.hid (parted_lt (fun g hg => (row_lt R2_3.out g hg).2) (fun g hg => by have h1 := (drow_lt hr4 g hg).1; simpa using h1))
  have P34 := Lib.hid (parted_lt (fun g hg => (row_lt R3_3.out g hg).2) (fun g hg => by have h1 := (drow_lt hr4 g hg).1; simpa using h1))
  have R4_4 : Hid (DRow w4 (w.heap.size + 1 + 1 + 1) _ h.d) := Lib.hid (drow_base hr4 (by simp; omega))
  have o0 := whole_cell WO4.out 0
  have o1 := whole_cell WO4.out 1
  have o2 := whole_cell WO4.out 2
  have o3 := whole_cell WO4.out 3
  have o4 := whole_cell WO4.out 4
  have r0 := whole_cell WR4.out 0
  have r1 := whole_cell WR4.out 1
  have r2 := whole_cell WR4.out 2
  have r3 := whole_cell WR4.out 3
  have r4 := whole_cell WR4.out 4
  have fo := whole_free WO4.out
  have fr := whole_free WR4.out
  clear WA1 WR1 WO1 B1 B1' WA2 WR2 WO2 B2 B2' WA3 WR3 WO3 B3 B3' hr4 hb4
  simp at o0 o1 o2 o3 o4 r0 r1 r2 r3 r4
  go_wp2
  refine bodyPost_ret (v := .agg #[.slice A1 h.g.length k1, .slice A2 h.s.length k2, .slice A3 h.n.length k3, .int .i64 h.c, .slice A4 h.d.length k4]) (by simp [results, Try.results9, go_sem, *]) rfl ⟨_, rfl, hostOf_top (hostOf_base (hostOf_rows (lo := w.heap.size + 1 + 1 + 1)
    (by repeat (first | with_reducible exact R1_4.out | with_reducible refine borow_store ?_ (by simp)))
    (by repeat (first | with_reducible exact R2_4.out | with_reducible refine row_store ?_ (by simp)))
    (by repeat (first | with_reducible exact R3_4.out | with_reducible refine row_store ?_ (by simp)))
    (by repeat (first | with_reducible exact R4_4.out | with_reducible refine drow_store ?_ (by simp)))
    P12.out P13.out P14.out P23.out P24.out P34.out) (by omega)) (Nat.le_refl _), ?_⟩
  repeat (first | with_reducible exact B4.out | with_reducible refine Below.setCell ?_ (by simp; try omega) _)

end Go.Proofs.Ytjlfbmplmddceaa
