/- A host as a value: what reads as this host, what is owned as it; the laws' copy out of an argument. -/
import Derived.Test.YtkcogfgjabemfaaBoB
import Derived.Test.YtkcogfgjabemfaaDeB
import Derived.Test.YtkcogfgjabemfaaDatC
namespace Go.Proofs.Ytkcogfgjabemfaa
open Go.RowKit
set_option linter.unusedVariables false
set_option linter.unusedSimpArgs false

/-- A host: what is granted, the store, the answers, the clock, the deeds. -/
structure Ht where
  g : List Bool
  s : List Int
  n : List Int
  c : Int
  d : List Dd

/-- The value reads as this host. -/
def HostIn (w : World) (v : Value) (h : Ht) : Prop :=
  ∃ x y z q, v = .agg #[x, y, z, .int .i64 h.c, q] ∧ Bols w x h.g ∧ Ints w y h.s ∧ Ints w z h.n ∧ Dds w q h.d

/-- The value is this host, its rows in blocks of their own from lo on and below hi. -/
def HostOf (w : World) (lo hi : Nat) (v : Value) (h : Ht) : Prop :=
  ∃ x y z q, v = .agg #[x, y, z, .int .i64 h.c, q] ∧ BoRow w lo x h.g ∧ Row w lo y h.s ∧ Row w lo z h.n ∧ DRow w lo q h.d ∧ Parted x y ∧ Parted x z ∧ Parted x q ∧ Parted y z ∧ Parted y q ∧ Parted z q ∧
    ∀ g, x.ownBlock = some g ∨ y.ownBlock = some g ∨ z.ownBlock = some g ∨ q.ownBlock = some g → g < hi

theorem parted_lt {x y : Value} {n : Nat} (h : ∀ g, x.ownBlock = some g → g < n) (k : ∀ g, y.ownBlock = some g → n ≤ g) : Parted x y := fun g hg hy => by
  have h1 := h g hg
  have h2 := k g hy
  omega

theorem borow_store {w : World} {lo g i : Nat} {v u : Value} {zs : List Bool} (h : BoRow w lo v zs) (hg : g < lo) : BoRow (w.setCell ⟨g, i, none⟩ u) lo v zs :=
  borow_keep h fun k hk => Below.heap_setCell w _ u k (by have := borow_lt h k hk; show k ≠ g; omega)

theorem drow_store {w : World} {lo g i : Nat} {v u : Value} {zs : List Dd} (h : DRow w lo v zs) (hg : g < lo) : DRow (w.setCell ⟨g, i, none⟩ u) lo v zs :=
  drow_keep h fun k hk => Below.heap_setCell w _ u k (by have := drow_lt h k hk; show k ≠ g; omega)

theorem hostIn_keep {w w' : World} {v : Value} {h : Ht} (hv : HostIn w v h) (hk : ∀ (x : Addr) (u : Value), w.cell? x = some u → w'.cell? x = some u) : HostIn w' v h := by
  obtain ⟨x, y, z, q, e, h1, h2, h3, h4⟩ := hv
  exact ⟨x, y, z, q, e, bols_keep h1 hk, ints_keep h2 hk, ints_keep h3 hk, dds_keep h4 hk⟩

theorem hostIn_below {w w' : World} {v : Value} {h : Ht} (hv : HostIn w v h) (hb : Below w.heap.size w w') : HostIn w' v h := hostIn_keep hv (cell_kept hb)

theorem hostOf_in {w : World} {lo hi : Nat} {v : Value} {h : Ht} (hv : HostOf w lo hi v h) : HostIn w v h := by
  obtain ⟨x, y, z, q, e, h1, h2, h3, h4, _⟩ := hv
  exact ⟨x, y, z, q, e, borow_bols h1, row_ints h2, row_ints h3, drow_dds h4⟩

theorem hostOf_keep {w w' : World} {lo hi : Nat} {v : Value} {h : Ht} (hv : HostOf w lo hi v h) (hk : ∀ g, g < w.heap.size → lo ≤ g → g < hi → w'.heap[g]? = w.heap[g]?) : HostOf w' lo hi v h := by
  obtain ⟨x, y, z, q, e, h1, h2, h3, h4, p1, p2, p3, p4, p5, p6, hh⟩ := hv
  exact ⟨x, y, z, q, e, borow_keep h1 fun g hg => hk g (borow_lt h1 g hg).2 (borow_lt h1 g hg).1 (hh g (.inl hg)), row_keep h2 fun g hg => hk g (row_lt h2 g hg).2 (row_lt h2 g hg).1 (hh g (.inr (.inl hg))),
    row_keep h3 fun g hg => hk g (row_lt h3 g hg).2 (row_lt h3 g hg).1 (hh g (.inr (.inr (.inl hg)))), drow_keep h4 fun g hg => hk g (drow_lt h4 g hg).2 (drow_lt h4 g hg).1 (hh g (.inr (.inr (.inr hg)))), p1, p2, p3, p4, p5, p6, hh⟩

theorem hostOf_below {w w' : World} {lo hi : Nat} {v : Value} {h : Ht} (hv : HostOf w lo hi v h) (hb : Below w.heap.size w w') : HostOf w' lo hi v h := hostOf_keep hv fun g hg _ _ => hb.block g hg

theorem hostOf_b {w w' : World} {lo hi : Nat} {v : Value} {h : Ht} (hb : Below w.heap.size w w') (hv : HostOf w lo hi v h) : HostOf w' lo hi v h := hostOf_below hv hb

theorem hostOf_within {w w' : World} {lo hi lo' hi' : Nat} {v : Value} {h : Ht} (hv : HostOf w lo hi v h) (hb : Within lo' hi' w w') (ha : hi ≤ lo' ∨ hi' ≤ lo) : HostOf w' lo hi v h :=
  hostOf_keep hv fun g hg h1 h2 => hb.block g hg (by omega)

theorem hostOf_base {w : World} {lo lo' hi : Nat} {v : Value} {h : Ht} (hv : HostOf w lo hi v h) (hl : lo' ≤ lo) : HostOf w lo' hi v h := by
  obtain ⟨x, y, z, q, e, h1, h2, h3, h4, p⟩ := hv
  exact ⟨x, y, z, q, e, borow_base h1 hl, row_base h2 hl, row_base h3 hl, drow_base h4 hl, p⟩

theorem hostOf_top {w : World} {lo hi hi' : Nat} {v : Value} {h : Ht} (hv : HostOf w lo hi v h) (hl : hi ≤ hi') : HostOf w lo hi' v h := by
  obtain ⟨x, y, z, q, e, h1, h2, h3, h4, p1, p2, p3, p4, p5, p6, hh⟩ := hv
  exact ⟨x, y, z, q, e, h1, h2, h3, h4, p1, p2, p3, p4, p5, p6, fun g hg => Nat.lt_of_lt_of_le (hh g hg) hl⟩

theorem hostOf_rows {w : World} {lo : Nat} {x y z q : Value} {h : Ht} (h1 : BoRow w lo x h.g) (h2 : Row w lo y h.s) (h3 : Row w lo z h.n) (h4 : DRow w lo q h.d) (p1 : Parted x y) (p2 : Parted x z) (p3 : Parted x q) (p4 : Parted y z) (p5 : Parted y q) (p6 : Parted z q) :
    HostOf w lo w.heap.size (.agg #[x, y, z, .int .i64 h.c, q]) h :=
  ⟨x, y, z, q, rfl, h1, h2, h3, h4, p1, p2, p3, p4, p5, p6, fun g hg => by
    rcases hg with hg | hg | hg | hg
    · exact (borow_lt h1 g hg).2
    · exact (row_lt h2 g hg).2
    · exact (row_lt h3 g hg).2
    · exact (drow_lt h4 g hg).2⟩

theorem hostIn_form {w : World} {v : Value} {h : Ht} (hv : HostIn w v h) : ∃ A1 k1 A2 k2 A3 k3 A4 k4, v = .agg #[.slice A1 h.g.length k1, .slice A2 h.s.length k2, .slice A3 h.n.length k3, .int .i64 h.c, .slice A4 h.d.length k4] := by
  obtain ⟨x, y, z, q, rfl, ⟨_, A1, k1, rfl, _⟩, ⟨_, A2, k2, rfl, _⟩, ⟨_, A3, k3, rfl, _⟩, ⟨_, A4, k4, rfl, _⟩⟩ := hv
  exact ⟨_, _, _, _, _, _, _, _, rfl⟩

/-- No host. -/
def noHt : Ht := ⟨[], [], [], 0, []⟩

theorem hostOf_none (w : World) (lo hi : Nat) : HostOf w lo hi (.agg #[.slice none 0 0, .slice none 0 0, .slice none 0 0, .int .i64 0, .slice none 0 0]) noHt :=
  ⟨_, _, _, _, rfl, borow_nil w lo, row_nil w lo, row_nil w lo, drow_nil w lo, parted_nil _, parted_nil _, parted_nil _, parted_nil _, parted_nil _, parted_nil _, fun g hg => by simp [Value.ownBlock] at hg⟩

/-- The host is small. -/
def SmallH (h : Ht) : Prop := h.g.length ≤ 1048576 ∧ h.s.length ≤ 1048576 ∧ h.n.length ≤ 1048576 ∧ h.d.length ≤ 1048576

theorem small_noHt : SmallH noHt := by unfold SmallH noHt; decide

theorem five_cells {w : World} {g : Nat} {t : TypeId} {a b c d e : Value} (h : Whole w g t #[a, b, c, d, e]) :
    w.cell? ⟨g, 0, none⟩ = some a ∧ w.cell? ⟨g, 1, none⟩ = some b ∧ w.cell? ⟨g, 2, none⟩ = some c ∧ w.cell? ⟨g, 3, none⟩ = some d ∧ w.cell? ⟨g, 4, none⟩ = some e :=
  ⟨whole_cell h 0, whole_cell h 1, whole_cell h 2, whole_cell h 3, whole_cell h 4⟩

/-- What is left of a size: below 0, or the host is small. -/
def SzHOf (w : World) (h : Ht) (e : Ending) (w' : World) : Prop := ∃ r : Int, e = .returned (.int .i64 r) ∧ (r = -1 ∨ (0 ≤ r ∧ r ≤ 1048576 ∧ SmallH h)) ∧ Below w.heap.size w w'

end Go.Proofs.Ytkcogfgjabemfaa
