/- QkD: several of my texts, laid together: McA, McB, McC, McR, McL. -/
import Derived.Test.YthnbaeamekolmaaGreatDoorQkA
import Derived.Test.YthnbaeamekolmaaGreatDoorQkB
import Derived.Test.YthnbaeamekolmaaGreatDoorDatL
import Derived.Deep.Slices
import Derived.Deep.Grids
import Derived.Laws.Rows
import Derived.Laws.Tables
import Derived.Deep.WholeRow
import Derived.OrdersHeld
namespace Go.Proofs.YthnbaeamekolmaaGreatDoor
open Go.Joins Go.ChangeShapes Go.WideShapes Go.RowKit Go.Deep Go.ChangeAt
set_option linter.unusedVariables false
set_option linter.unusedSimpArgs false

/-- A machine: its words, its code, its data, its host, its calls, the next address, the fuel. -/
structure Mc where
  w : List Wd
  k : List Int
  d : Dt
  h : Ht
  c : List Cl
  i : Int
  f : Int

/-- The argument reads as this machine. -/
def MchL (w : World) (v : Value) (m : Mc) : Prop :=
  ∃ x k a b c g s n q z, v = .agg #[x, k, a, b, c, .int .i64 m.d.h, .int .i64 m.d.n, .string m.d.o, g, s, n, .int .i64 m.h.c, q, z, .int .i64 m.i, .int .i64 m.f] ∧ WdsL w x m.w ∧ Ints w k m.k ∧ DatIn w (.agg #[a, b, c, .int .i64 m.d.h, .int .i64 m.d.n, .string m.d.o]) m.d ∧ HostIn w (.agg #[g, s, n, .int .i64 m.h.c, q]) m.h ∧ Cls w z m.c

/-- The value reads as this machine. -/
def MchIn (w : World) (v : Value) (m : Mc) : Prop :=
  ∃ x k a b c g s n q z, v = .agg #[x, k, a, b, c, .int .i64 m.d.h, .int .i64 m.d.n, .string m.d.o, g, s, n, .int .i64 m.h.c, q, z, .int .i64 m.i, .int .i64 m.f] ∧ Wds w x m.w ∧ Ints w k m.k ∧ DatIn w (.agg #[a, b, c, .int .i64 m.d.h, .int .i64 m.d.n, .string m.d.o]) m.d ∧ HostIn w (.agg #[g, s, n, .int .i64 m.h.c, q]) m.h ∧ Cls w z m.c

/-- The block is the value's own. -/
def Blk (v : Value) (g : Nat) : Prop := v.ownBlock = some g ∨ Mine v g

/-- No block is both's. -/
def Sep (u v : Value) : Prop := ∀ g, Blk u g → ¬ Blk v g

/-- The value is this machine, its rows in blocks of their own from lo on. -/
def MchT (w : World) (lo : Nat) (v : Value) (m : Mc) : Prop :=
  ∃ x k a b c g s n q z, v = .agg #[x, k, a, b, c, .int .i64 m.d.h, .int .i64 m.d.n, .string m.d.o, g, s, n, .int .i64 m.h.c, q, z, .int .i64 m.i, .int .i64 m.f] ∧ WRow w lo x m.w ∧ Row w lo k m.k ∧ DatOf w lo w.heap.size (.agg #[a, b, c, .int .i64 m.d.h, .int .i64 m.d.n, .string m.d.o]) m.d ∧ HostT w lo (.agg #[g, s, n, .int .i64 m.h.c, q]) m.h ∧ CRow w lo z m.c ∧
    Sep x k ∧ Sep x (.agg #[a, b, c, .int .i64 m.d.h, .int .i64 m.d.n, .string m.d.o]) ∧ Sep x (.agg #[g, s, n, .int .i64 m.h.c, q]) ∧ Sep x z ∧ Sep k (.agg #[a, b, c, .int .i64 m.d.h, .int .i64 m.d.n, .string m.d.o]) ∧ Sep k (.agg #[g, s, n, .int .i64 m.h.c, q]) ∧ Sep k z ∧ Sep (.agg #[a, b, c, .int .i64 m.d.h, .int .i64 m.d.n, .string m.d.o]) (.agg #[g, s, n, .int .i64 m.h.c, q]) ∧ Sep (.agg #[a, b, c, .int .i64 m.d.h, .int .i64 m.d.n, .string m.d.o]) z ∧ Sep (.agg #[g, s, n, .int .i64 m.h.c, q]) z

theorem mchL_keep {w w' : World} {v : Value} {m : Mc} (hv : MchL w v m) (hk : ∀ (x : Addr) (u : Value), w.cell? x = some u → w'.cell? x = some u) : MchL w' v m := by
  obtain ⟨x, k, a, b, c, g, s, n, q, z, e, h1, h2, h3, h4, h5⟩ := hv
  exact ⟨x, k, a, b, c, g, s, n, q, z, e, wdsL_keep h1 hk, ints_keep h2 hk, datIn_keep h3 hk, hostIn_keep h4 hk, cls_keep h5 hk⟩

theorem mchL_below {w w' : World} {v : Value} {m : Mc} (hv : MchL w v m) (hb : Below w.heap.size w w') : MchL w' v m := mchL_keep hv (cell_kept hb)

theorem mchIn_keep {w w' : World} {v : Value} {m : Mc} (hv : MchIn w v m) (hk : ∀ (x : Addr) (u : Value), w.cell? x = some u → w'.cell? x = some u) : MchIn w' v m := by
  obtain ⟨x, k, a, b, c, g, s, n, q, z, e, h1, h2, h3, h4, h5⟩ := hv
  exact ⟨x, k, a, b, c, g, s, n, q, z, e, wds_keep h1 hk, ints_keep h2 hk, datIn_keep h3 hk, hostIn_keep h4 hk, cls_keep h5 hk⟩

theorem mchIn_below {w w' : World} {v : Value} {m : Mc} (hv : MchIn w v m) (hb : Below w.heap.size w w') : MchIn w' v m := mchIn_keep hv (cell_kept hb)

theorem mchT_in {w : World} {lo : Nat} {v : Value} {m : Mc} (hv : MchT w lo v m) : MchIn w v m := by
  obtain ⟨x, k, a, b, c, g, s, n, q, z, e, h1, h2, h3, h4, h5, _⟩ := hv
  exact ⟨x, k, a, b, c, g, s, n, q, z, e, wrow_wds h1, row_ints h2, datOf_in h3, hostT_in h4, crow_dds h5⟩

theorem mchIn_form {w : World} {v : Value} {m : Mc} (hv : MchIn w v m) : ∃ A1 k1 A2 k2 A3 k3 A4 k4 A5 k5 A6 k6 A7 k7 A8 k8 A9 k9 A0 k0, v = .agg #[.slice A1 m.w.length k1, .slice A2 m.k.length k2, .slice A3 m.d.s.length k3, .slice A4 m.d.b.length k4, .slice A5 m.d.c.length k5, .int .i64 m.d.h, .int .i64 m.d.n, .string m.d.o, .slice A6 m.h.g.length k6, .slice A7 m.h.s.length k7, .slice A8 m.h.n.length k8, .int .i64 m.h.c, .slice A9 m.h.d.length k9, .slice A0 m.c.length k0, .int .i64 m.i, .int .i64 m.f] := by
  obtain ⟨x, k, a, b, c, g, s, n, q, z, rfl, h1, ⟨_, A2, k2, rfl, _⟩, h3, h4, ⟨_, A0, k0, rfl, _⟩⟩ := hv
  obtain ⟨A1, k1, rfl, _⟩ := wds_form h1
  obtain ⟨A3, k3, A4, k4, A5, k5, e3⟩ := datIn_form h3
  obtain ⟨A6, k6, A7, k7, A8, k8, A9, k9, e4⟩ := hostIn_form h4
  simp only [Value.agg.injEq, Array.mk.injEq, List.cons.injEq, and_true, true_and] at e3 e4
  obtain ⟨rfl, rfl, rfl⟩ := e3
  obtain ⟨rfl, rfl, rfl, rfl⟩ := e4
  exact ⟨_, _, _, _, _, _, _, _, _, _, _, _, _, _, _, _, _, _, _, _, rfl⟩

theorem mchL_form {w : World} {v : Value} {m : Mc} (hv : MchL w v m) : ∃ A1 k1 A2 k2 A3 k3 A4 k4 A5 k5 A6 k6 A7 k7 A8 k8 A9 k9 A0 k0, v = .agg #[.slice A1 m.w.length k1, .slice A2 m.k.length k2, .slice A3 m.d.s.length k3, .slice A4 m.d.b.length k4, .slice A5 m.d.c.length k5, .int .i64 m.d.h, .int .i64 m.d.n, .string m.d.o, .slice A6 m.h.g.length k6, .slice A7 m.h.s.length k7, .slice A8 m.h.n.length k8, .int .i64 m.h.c, .slice A9 m.h.d.length k9, .slice A0 m.c.length k0, .int .i64 m.i, .int .i64 m.f] := by
  obtain ⟨x, k, a, b, c, g, s, n, q, z, rfl, h1, ⟨_, A2, k2, rfl, _⟩, h3, h4, ⟨_, A0, k0, rfl, _⟩⟩ := hv
  obtain ⟨A1, k1, rfl, _⟩ := wdsL_form h1
  obtain ⟨A3, k3, A4, k4, A5, k5, e3⟩ := datIn_form h3
  obtain ⟨A6, k6, A7, k7, A8, k8, A9, k9, e4⟩ := hostIn_form h4
  simp only [Value.agg.injEq, Array.mk.injEq, List.cons.injEq, and_true, true_and] at e3 e4
  obtain ⟨rfl, rfl, rfl⟩ := e3
  obtain ⟨rfl, rfl, rfl, rfl⟩ := e4
  exact ⟨_, _, _, _, _, _, _, _, _, _, _, _, _, _, _, _, _, _, _, _, rfl⟩

theorem only_gb {G : Nat} {w w' : World} (h : Only (fun k => k = G) w w') : w.grownBy w' (some G) := ⟨h.os, h.tape, h.output, h.size, fun k hk hne => h.block k hk (fun e => hne (by rw [e]))⟩

theorem wrow_on {w w' : World} {lo G : Nat} {v : Value} {Q : List Wd} (hn : Only (fun k => k = G) w w') (hg : G < lo) (h : WRow w lo v Q) : WRow w' lo v Q := wrow_apart h (only_gb hn) (fun g e q => by have := wrow_lt h g e; simp only [Option.some.injEq] at q; omega)
theorem row_on {w w' : World} {lo G : Nat} {v : Value} {Q : List Int} (hn : Only (fun k => k = G) w w') (hg : G < lo) (h : Row w lo v Q) : Row w' lo v Q := row_keep h fun g e => hn.block g (row_lt h g e).2 (fun q => by have := row_lt h g e; omega)
theorem crow_on {w w' : World} {lo G : Nat} {v : Value} {Q : List Cl} (hn : Only (fun k => k = G) w w') (hg : G < lo) (h : CRow w lo v Q) : CRow w' lo v Q := crow_keep h fun g e => hn.block g (crow_lt h g e).2 (fun q => by have := crow_lt h g e; omega)
theorem hostT_on {w w' : World} {lo G : Nat} {v : Value} {h : Ht} (hn : Only (fun k => k = G) w w') (hg : G < lo) (H : HostT w lo v h) : HostT w' lo v h := hostT_only H hn fun g e q => by have := hostT_mine H e; omega
theorem datOf_on {w w' : World} {lo hi G : Nat} {v : Value} {d : Dt} (hn : Only (fun k => k = G) w w') (hg : G < lo) (H : DatOf w lo hi v d) : DatOf w' lo hi v d := datOf_only H hn fun g e q => by have := datOf_mine H e; omega

theorem blk_slice {A : Option Addr} {n c g : Nat} (h : Blk (.slice A n c) g) : (Value.slice A n c).ownBlock = some g := by
  rcases h with h | ⟨cs, e, _⟩
  · exact h
  · cases e

theorem blk_agg {cs : Array Value} {g : Nat} (h : Blk (.agg cs) g) : Mine (.agg cs) g := by
  rcases h with h | h
  · simp [Value.ownBlock] at h
  · exact h

theorem sep_lt {u v : Value} {n : Nat} (h : ∀ g, Blk u g → g < n) (k : ∀ g, Blk v g → n ≤ g) : Sep u v := fun g hg hv => by
  have h1 := h g hg
  have h2 := k g hv
  omega

/-- The machine is small. -/
def SmallM (m : Mc) : Prop := SmallW m.w ∧ m.k.length ≤ 1048576 ∧ SmallD m.d ∧ SmallH m.h ∧ m.c.length ≤ 1048576

/-- What is left of a size: below 0, or the machine is small. -/
def SzMOf (w : World) (m : Mc) (e : Ending) (w' : World) : Prop := ∃ r : Int, e = .returned (.int .i64 r) ∧ (r = -1 ∨ (0 ≤ r ∧ r ≤ 1048576 ∧ SmallM m)) ∧ Below w.heap.size w w'

set_option maxRecDepth 100000 in
set_option maxHeartbeats 1000000 in
theorem szWordSL_any (v : Value) (Q : List Wd) (left : Int) (w : World) (hv : WdsL w v Q) (h0 : 0 ≤ left) (h1 : left ≤ 1048576) :
    Calls Tryz.prog 74 #[v, .int .i64 left] w (SzOfW w Q) := by
  have HV := Lib.hid hv
  obtain ⟨hl, hn, A, cap, rfl, hc⟩ := hv
  have HN := Lib.hid hn
  unfold maxLen at hl
  clear hc hn
  by_cases h0' : left - (Q.length : Int) < 0
  · go_enter Tryz.func74, Tryz.ntmps74
    go_wp2
    go_ret
    exact ⟨-1, rfl, .inl rfl, Below.refl _ _⟩
  · go_enter Tryz.func74, Tryz.ntmps74
    go_wp2
    go_loopw [5, 1] (fun i l wr => ∃ (k : Nat) (r : Int), k ≤ Q.length ∧ i = .int .i64 k ∧ l = .int .i64 r ∧ 0 ≤ r ∧ r ≤ 1048576 ∧ SmallTo Q k ∧ Below w.heap.size w wr) (fun i _ _ => Q.length - (intOf i).toNat)
    case atStart => exact ⟨0, left - (Q.length : Int), Nat.zero_le _, rfl, rfl, by omega, by omega, fun x hx => by simp at hx, Below.refl _ _⟩
    case round =>
      obtain ⟨k, r, hk, rfl, rfl, hr0, hr1, hs, hb⟩ := hrel
      have HS := Lib.hid hs
      have HB := Lib.hid hb
      clear hs hb
      by_cases hlt : k < Q.length
      · obtain ⟨_, _, A', cap', e', hc⟩ := wdsL_below HV.out HB.out
        simp only [Value.slice.injEq, true_and] at e'
        obtain ⟨rfl, rfl⟩ := e'
        obtain ⟨ad, rfl, hd⟩ := hc (by omega)
        obtain ⟨c0, c1, c2⟩ := hd k hlt
        have hxs : Q[k].n.size ≤ maxLen := HN.out _ (List.getElem_mem hlt)
        have HX := Lib.hid hxs
        clear hc hd hxs
        go_wp2_with fail
        refine (szWord_any _ _ _ hr0 hr1 HX.out).mono ?_
        rintro e w1 ⟨rfl, hb1⟩
        have B1 := Lib.hid (below_stepW HB.out hb1)
        clear hb1 c0 c1 c2
        by_cases hs : r - (Q[k].n.size : Int) < 0
        · rw [if_pos hs]
          clear hs
          go_wp2
          go_ret
          exact ⟨-1, rfl, .inl rfl, B1.out⟩
        · rw [if_neg hs]
          have NX := Lib.hid (smallTo_next HS.out hlt (by omega))
          generalize hz : (Q[k].n.size : Int) = z at *
          have z0 : 0 ≤ z := by omega
          clear hz
          go_wp2
          go_roundw
          case rel => exact ⟨k + 1, r - z, by omega, by go_num, rfl, by omega, by omega, NX.out, B1.out⟩
          case measure => simp [intOf]; omega
      · obtain rfl : k = Q.length := by omega
        clear hlt
        go_wp2
        go_ret
        exact ⟨r, rfl, .inr ⟨hr0, hr1, by omega, smallTo_end HS.out⟩, HB.out⟩

theorem cells_sixteen {w : World} {g : Nat} {t : TypeId} {c0 c1 c2 c3 c4 c5 c6 c7 c8 c9 c10 c11 c12 c13 c14 c15 : Value} (h : Whole w g t #[c0, c1, c2, c3, c4, c5, c6, c7, c8, c9, c10, c11, c12, c13, c14, c15]) :
    w.cell? ⟨g, 0, none⟩ = some c0 ∧ w.cell? ⟨g, 1, none⟩ = some c1 ∧ w.cell? ⟨g, 2, none⟩ = some c2 ∧ w.cell? ⟨g, 3, none⟩ = some c3 ∧ w.cell? ⟨g, 4, none⟩ = some c4 ∧ w.cell? ⟨g, 5, none⟩ = some c5 ∧ w.cell? ⟨g, 6, none⟩ = some c6 ∧ w.cell? ⟨g, 7, none⟩ = some c7 ∧ w.cell? ⟨g, 8, none⟩ = some c8 ∧ w.cell? ⟨g, 9, none⟩ = some c9 ∧ w.cell? ⟨g, 10, none⟩ = some c10 ∧ w.cell? ⟨g, 11, none⟩ = some c11 ∧ w.cell? ⟨g, 12, none⟩ = some c12 ∧ w.cell? ⟨g, 13, none⟩ = some c13 ∧ w.cell? ⟨g, 14, none⟩ = some c14 ∧ w.cell? ⟨g, 15, none⟩ = some c15 :=
  ⟨whole_cell h 0, whole_cell h 1, whole_cell h 2, whole_cell h 3, whole_cell h 4, whole_cell h 5, whole_cell h 6, whole_cell h 7, whole_cell h 8, whole_cell h 9, whole_cell h 10, whole_cell h 11, whole_cell h 12, whole_cell h 13, whole_cell h 14, whole_cell h 15⟩

set_option maxRecDepth 100000 in
set_option maxHeartbeats 2000000 in
theorem szMachine_any (v : Value) (m : Mc) (left : Int) (w : World) (hv : MchL w v m) (h0 : 0 ≤ left) (h1 : left ≤ 1048576) :
    Calls Tryz.prog 36 #[v, .int .i64 left] w (SzMOf w m) := by
  obtain ⟨A1, k1, A2, k2, A3, k3, A4, k4, A5, k5, A6, k6, A7, k7, A8, k8, A9, k9, A0, k0, rfl⟩ := mchL_form hv
  obtain ⟨x, k, a, b, c, g, s, n, q, z, e, hx, hk, hd, hh, hz⟩ := hv
  simp only [Value.agg.injEq, Array.mk.injEq, List.cons.injEq, and_true, true_and] at e
  obtain ⟨rfl, rfl, rfl, rfl, rfl, rfl, rfl, rfl, rfl, rfl⟩ := e
  have HX := Lib.hid hx
  have HK := Lib.hid hk.1
  have HD := Lib.hid hd
  have HH := Lib.hid hh
  have HZ := Lib.hid hz.1
  clear hx hk hd hh hz
  go_enter Tryz.func36, Tryz.ntmps36
  go_wp2_with fail
  refine (szWordSL_any _ m.w _ _ (wdsL_below HX.out (below_alloc (Below.refl _ _) _)) h0 h1).mono ?_
  rintro e w1 ⟨r1, rfl, hr, hb⟩
  have B1 := Lib.hid (below_step (below_alloc (Below.refl _ _) _) hb)
  have W1 := Lib.hid (whole_b hb (whole_new w _ _))
  clear hb
  rcases hr with rfl | ⟨h0, h1, S1⟩
  · go_wp2
    go_ret
    exact ⟨_, rfl, .inl rfl, B1.out⟩
  have S1 := Lib.hid S1
  have z1 := whole_lt W1.out
  obtain ⟨c0, c1, c2, c3, c4, c5, c6, c7, c8, c9, c10, c11, c12, c13, c14, c15⟩ := cells_sixteen W1.out
  go_wp2_with fail
  clear c0 c1 c2 c3 c4 c5 c6 c7 c8 c9 c10 c11 c12 c13 c14 c15
  refine (szInts_any _ _ _ _ _ HK.out h0 h1).mono ?_
  rintro e w2 ⟨rfl, rfl⟩
  have HK' := HK.out
  unfold maxLen at HK'
  by_cases t2 : r1 - m.k.length < 0
  · rw [show leftOf r1 m.k.length = -1 by unfold leftOf; rw [if_pos t2]]
    go_wp2
    go_ret
    exact ⟨_, rfl, .inl rfl, B1.out⟩
  rw [show leftOf r1 m.k.length = r1 - m.k.length by unfold leftOf; rw [if_neg t2]]
  have S2 : Hid (m.k.length ≤ 1048576) := Lib.hid (by omega)
  obtain ⟨r2, hr2⟩ : ∃ r : Int, r = r1 - m.k.length := ⟨_, rfl⟩
  have h0' : 0 ≤ r2 := by omega
  have h1' : r2 ≤ 1048576 := by omega
  rw [← hr2]
  clear hr2 t2 HK' h0 h1
  obtain ⟨c0, c1, c2, c3, c4, c5, c6, c7, c8, c9, c10, c11, c12, c13, c14, c15⟩ := cells_sixteen W1.out
  go_wp2_with fail
  clear c0 c1 c2 c3 c4 c5 c6 c7 c8 c9 c10 c11 c12 c13 c14 c15
  refine (szData_any _ m.d _ _ (datIn_below HD.out B1.out) h0' h1').mono ?_
  rintro e w3 ⟨r3, rfl, hr, hb⟩
  have B3 := Lib.hid (below_step B1.out hb)
  have W3 := Lib.hid (whole_b hb W1.out)
  clear hb
  rcases hr with rfl | ⟨h0, h1, S3⟩
  · go_wp2
    go_ret
    exact ⟨_, rfl, .inl rfl, B3.out⟩
  have S3 := Lib.hid S3
  have z3 := whole_lt W3.out
  obtain ⟨c0, c1, c2, c3, c4, c5, c6, c7, c8, c9, c10, c11, c12, c13, c14, c15⟩ := cells_sixteen W3.out
  go_wp2_with fail
  clear c0 c1 c2 c3 c4 c5 c6 c7 c8 c9 c10 c11 c12 c13 c14 c15
  refine (szHost_any _ m.h _ _ (hostIn_below HH.out B3.out) h0 h1).mono ?_
  rintro e w4 ⟨r4, rfl, hr, hb⟩
  have B4 := Lib.hid (below_step B3.out hb)
  have W4 := Lib.hid (whole_b hb W3.out)
  clear hb
  rcases hr with rfl | ⟨h0, h1, S4⟩
  · go_wp2
    go_ret
    exact ⟨_, rfl, .inl rfl, B4.out⟩
  have S4 := Lib.hid S4
  have z4 := whole_lt W4.out
  obtain ⟨c0, c1, c2, c3, c4, c5, c6, c7, c8, c9, c10, c11, c12, c13, c14, c15⟩ := cells_sixteen W4.out
  go_wp2_with fail
  clear c0 c1 c2 c3 c4 c5 c6 c7 c8 c9 c10 c11 c12 c13 c14 c15
  refine (szCalls_any _ _ _ _ _ HZ.out h0 h1).mono ?_
  rintro e w5 ⟨rfl, rfl⟩
  have HZ' := HZ.out
  unfold maxLen at HZ'
  by_cases t5 : r4 - m.c.length < 0
  · rw [show leftOf r4 m.c.length = -1 by unfold leftOf; rw [if_pos t5]]
    go_wp2
    go_ret
    exact ⟨_, rfl, .inl rfl, B4.out⟩
  rw [show leftOf r4 m.c.length = r4 - m.c.length by unfold leftOf; rw [if_neg t5]]
  go_wp2
  go_ret
  exact ⟨_, rfl, .inr ⟨by omega, by omega, S1.out, S2.out, S3.out, S4.out, by omega⟩, B4.out⟩

end Go.Proofs.YthnbaeamekolmaaGreatDoor

namespace Go.Proofs.YthnbaeamekolmaaGreatDoor
open Go.RowKit
set_option linter.unusedVariables false
set_option linter.unusedSimpArgs false

theorem whole_onl {S : Nat → Prop} {w w' : World} {g : Nat} {t : TypeId} {cs : Array Value} (h : Whole w g t cs) (hb : Only S w w') (hs : ¬ S g) : Whole w' g t cs := whole_keep h (hb.block g (whole_lt h) hs)

theorem mc_put {w : World} {G i : Nat} (u : Value) : Only (fun k => k = G) w (w.setCell ⟨G, i, none⟩ u) := ⟨rfl, rfl, rfl, by simp, fun k hk hne => Below.heap_setCell w _ u k (fun e => hne e)⟩

set_option maxRecDepth 100000 in
set_option maxHeartbeats 4000000 in
theorem toMachine_any (v : Value) (m : Mc) (w : World) (hv : MchL w v m) (hs : SmallM m) :
    Calls Tryz.prog 40 #[v] w fun e w' => ∃ u, e = .returned u ∧ MchT w' w.heap.size u m ∧ Below w.heap.size w w' := by
  have HS := Lib.hid hs
  obtain ⟨a1, b1, a2, b2, a3, b3, a4, b4, a5, b5, a6, b6, a7, b7, a8, b8, a9, b9, a0, b0, rfl⟩ := mchL_form hv
  obtain ⟨x, k, a, b, c, g, s, n, q, z, e, hx, hk, hd, hh, hz⟩ := hv
  simp only [Value.agg.injEq, Array.mk.injEq, List.cons.injEq, and_true, true_and] at e
  obtain ⟨rfl, rfl, rfl, rfl, rfl, rfl, rfl, rfl, rfl, rfl⟩ := e
  have HX := Lib.hid hx
  have HK := Lib.hid hk
  have HD := Lib.hid hd
  have HH := Lib.hid hh
  have HZ := Lib.hid hz
  clear hx hk hd hh hz hs
  go_enter Tryz.func40, Tryz.ntmps40
  go_wp2_with fail
  refine (toWordS_any _ m.w _ (wdsL_below HX.out (below_alloc (below_alloc (below_alloc (Below.refl _ _) _) _) _)) HS.out.1.1).mono ?_
  rintro e w1 ⟨v1, rfl, hr, -, hb⟩
  obtain ⟨A1, k1, rfl, -, -, -⟩ := wds_form (wrow_wds hr)
  have z1 : w.heap.size + 1 + 1 + 1 ≤ w1.heap.size := by have := hb.size; simp at this; omega
  have B1 : Hid (Below w.heap.size w w1) := Lib.hid (below_step (below_alloc (below_alloc (below_alloc (Below.refl _ _) _) _) _) hb)
  have WA1 := Lib.hid (whole_below (whole_alloc (whole_alloc (whole_new w _ _) _) _) hb)
  have WR1 := Lib.hid (whole_below (whole_alloc (whole_new1 w _ _ _) _) hb)
  have WO1 := Lib.hid (whole_below (whole_new2 w _ _ _ _) hb)
  have P1 : Hid (WRow w1 (w.heap.size + 1 + 1 + 1) (.slice A1 m.w.length k1) m.w) := Lib.hid (by simpa using hr)
  have L1 : Hid (∀ g, Blk (.slice A1 m.w.length k1) g → g < w1.heap.size) := Lib.hid fun g hg => (wrow_lt hr g (blk_slice hg)).2
  have BS1 : Hid (Below w.heap.size w (w1.setCell ⟨w.heap.size + 1 + 1, 0, none⟩ (.slice A1 m.w.length k1))) := Lib.hid (B1.out.trans (only_below (mc_put (w := w1) (G := w.heap.size + 1 + 1) (i := 0) (.slice A1 m.w.length k1)) B1.out.size (fun k e => by omega)))
  clear hr hb
  have ca1 := whole_cell WA1.out 1
  have co0 := whole_cell WO1.out 0
  have fo := whole_free WO1.out
  simp at ca1 co0
  go_wp2_with fail
  clear fo ca1 co0
  refine (toInts_any _ m.k _ (ints_below HK.out BS1.out) (by have := HS.out.2.1; omega)).mono ?_
  rintro e w2 ⟨v2, rfl, hr, -, hb⟩
  obtain ⟨_, A2, k2, rfl, _⟩ := row_ints hr
  have ON2 : Hid (Only (fun k => k = w.heap.size + 1 + 1) w1 w2) := Lib.hid (only_trans (mc_put (w := w1) (G := w.heap.size + 1 + 1) (i := 0) (.slice A1 m.w.length k1)) (below_only hb))
  have y2 : w1.heap.size ≤ w2.heap.size := ON2.out.size
  have z2 : w.heap.size + 1 + 1 + 1 ≤ w2.heap.size := by omega
  have B2 : Hid (Below w.heap.size w w2) := Lib.hid (B1.out.trans (only_below ON2.out B1.out.size (fun k e => by omega)))
  have WA2 := Lib.hid (whole_onl WA1.out ON2.out (by omega))
  have WR2 := Lib.hid (whole_onl WR1.out ON2.out (by omega))
  have WO2 := Lib.hid (whole_below (whole_set WO1.out 0 (.slice A1 m.w.length k1)) hb)
  have P1 := Lib.hid (wrow_on ON2.out (by omega) P1.out)
  have P2 : Hid (Row w2 (w.heap.size + 1 + 1 + 1) (.slice A2 m.k.length k2) m.k) := Lib.hid (row_base hr (by simp; omega))
  have L2 : Hid (∀ g, Blk (.slice A2 m.k.length k2) g → g < w2.heap.size) := Lib.hid fun g hg => (row_lt hr g (blk_slice hg)).2
  have G2 : Hid (∀ g, Blk (.slice A2 m.k.length k2) g → w1.heap.size ≤ g) := Lib.hid fun g hg => by have h := (row_lt hr g (blk_slice hg)).1; simpa using h
  clear ON2 WA1 WR1 WO1 BS1 B1
  have BS2 : Hid (Below w.heap.size w (w2.setCell ⟨w.heap.size + 1 + 1, 1, none⟩ (.slice A2 m.k.length k2))) := Lib.hid (B2.out.trans (only_below (mc_put (w := w2) (G := w.heap.size + 1 + 1) (i := 1) (.slice A2 m.k.length k2)) B2.out.size (fun k e => by omega)))
  clear hr hb
  have ca2 := whole_cell WA2.out 2
  have ca3 := whole_cell WA2.out 3
  have ca4 := whole_cell WA2.out 4
  have ca5 := whole_cell WA2.out 5
  have ca6 := whole_cell WA2.out 6
  have ca7 := whole_cell WA2.out 7
  have co1 := whole_cell WO2.out 1
  have fo := whole_free WO2.out
  simp at ca2 ca3 ca4 ca5 ca6 ca7 co1
  go_wp2_with fail
  clear fo ca2 ca3 ca4 ca5 ca6 ca7 co1
  refine (toData_any _ m.d _ (datIn_below HD.out BS2.out) HS.out.2.2.1).mono ?_
  rintro e w3 ⟨v3, rfl, hr, hb⟩
  obtain ⟨A3, k3, A4, k4, A5, k5, rfl⟩ := datIn_form (datOf_in hr)
  have ON3 : Hid (Only (fun k => k = w.heap.size + 1 + 1) w2 w3) := Lib.hid (only_trans (mc_put (w := w2) (G := w.heap.size + 1 + 1) (i := 1) (.slice A2 m.k.length k2)) (below_only hb))
  have y3 : w2.heap.size ≤ w3.heap.size := ON3.out.size
  have z3 : w.heap.size + 1 + 1 + 1 ≤ w3.heap.size := by omega
  have B3 : Hid (Below w.heap.size w w3) := Lib.hid (B2.out.trans (only_below ON3.out B2.out.size (fun k e => by omega)))
  have WA3 := Lib.hid (whole_onl WA2.out ON3.out (by omega))
  have WR3 := Lib.hid (whole_onl WR2.out ON3.out (by omega))
  have WO3 := Lib.hid (whole_below (whole_set WO2.out 1 (.slice A2 m.k.length k2)) hb)
  have P1 := Lib.hid (wrow_on ON3.out (by omega) P1.out)
  have P2 := Lib.hid (row_on ON3.out (by omega) P2.out)
  have P3 : Hid (DatOf w3 (w.heap.size + 1 + 1 + 1) w3.heap.size (.agg #[.slice A3 m.d.s.length k3, .slice A4 m.d.b.length k4, .slice A5 m.d.c.length k5, .int .i64 m.d.h, .int .i64 m.d.n, .string m.d.o]) m.d) := Lib.hid (datOf_base hr (by simp; omega))
  have L3 : Hid (∀ g, Blk (.agg #[.slice A3 m.d.s.length k3, .slice A4 m.d.b.length k4, .slice A5 m.d.c.length k5, .int .i64 m.d.h, .int .i64 m.d.n, .string m.d.o]) g → g < w3.heap.size) := Lib.hid fun g hg => (datOf_mine hr (blk_agg hg)).2
  have G3 : Hid (∀ g, Blk (.agg #[.slice A3 m.d.s.length k3, .slice A4 m.d.b.length k4, .slice A5 m.d.c.length k5, .int .i64 m.d.h, .int .i64 m.d.n, .string m.d.o]) g → w2.heap.size ≤ g) := Lib.hid fun g hg => by have h := (datOf_mine hr (blk_agg hg)).1; simpa using h
  clear ON3 WA2 WR2 WO2 BS2 B2
  have BS3 : Hid (Below w.heap.size w ((((((w3.setCell ⟨w.heap.size + 1 + 1, 2, none⟩ (.slice A3 m.d.s.length k3)).setCell ⟨w.heap.size + 1 + 1, 3, none⟩ (.slice A4 m.d.b.length k4)).setCell ⟨w.heap.size + 1 + 1, 4, none⟩ (.slice A5 m.d.c.length k5)).setCell ⟨w.heap.size + 1 + 1, 5, none⟩ (.int .i64 m.d.h)).setCell ⟨w.heap.size + 1 + 1, 6, none⟩ (.int .i64 m.d.n)).setCell ⟨w.heap.size + 1 + 1, 7, none⟩ (.string m.d.o))) := Lib.hid (B3.out.trans (only_below (only_trans (only_trans (only_trans (only_trans (only_trans (mc_put (w := w3) (G := w.heap.size + 1 + 1) (i := 2) (.slice A3 m.d.s.length k3)) (mc_put (G := w.heap.size + 1 + 1) (i := 3) (.slice A4 m.d.b.length k4))) (mc_put (G := w.heap.size + 1 + 1) (i := 4) (.slice A5 m.d.c.length k5))) (mc_put (G := w.heap.size + 1 + 1) (i := 5) (.int .i64 m.d.h))) (mc_put (G := w.heap.size + 1 + 1) (i := 6) (.int .i64 m.d.n))) (mc_put (G := w.heap.size + 1 + 1) (i := 7) (.string m.d.o))) B3.out.size (fun k e => by omega)))
  clear hr hb
  have ca8 := whole_cell WA3.out 8
  have ca9 := whole_cell WA3.out 9
  have ca10 := whole_cell WA3.out 10
  have ca11 := whole_cell WA3.out 11
  have ca12 := whole_cell WA3.out 12
  have co2 := whole_cell WO3.out 2
  have co3 := whole_cell WO3.out 3
  have co4 := whole_cell WO3.out 4
  have co5 := whole_cell WO3.out 5
  have co6 := whole_cell WO3.out 6
  have co7 := whole_cell WO3.out 7
  have fo := whole_free WO3.out
  simp at ca8 ca9 ca10 ca11 ca12 co2 co3 co4 co5 co6 co7
  go_wp2_with fail
  clear fo ca8 ca9 ca10 ca11 ca12 co2 co3 co4 co5 co6 co7
  refine (toHost_any _ m.h _ (hostIn_below HH.out BS3.out) HS.out.2.2.2.1).mono ?_
  rintro e w4 ⟨v4, rfl, hr, hb⟩
  obtain ⟨A6, k6, A7, k7, A8, k8, A9, k9, rfl⟩ := hostIn_form (hostOf_in hr)
  have ON4 : Hid (Only (fun k => k = w.heap.size + 1 + 1) w3 w4) := Lib.hid (only_trans (only_trans (only_trans (only_trans (only_trans (only_trans (mc_put (w := w3) (G := w.heap.size + 1 + 1) (i := 2) (.slice A3 m.d.s.length k3)) (mc_put (G := w.heap.size + 1 + 1) (i := 3) (.slice A4 m.d.b.length k4))) (mc_put (G := w.heap.size + 1 + 1) (i := 4) (.slice A5 m.d.c.length k5))) (mc_put (G := w.heap.size + 1 + 1) (i := 5) (.int .i64 m.d.h))) (mc_put (G := w.heap.size + 1 + 1) (i := 6) (.int .i64 m.d.n))) (mc_put (G := w.heap.size + 1 + 1) (i := 7) (.string m.d.o))) (below_only hb))
  have y4 : w3.heap.size ≤ w4.heap.size := ON4.out.size
  have z4 : w.heap.size + 1 + 1 + 1 ≤ w4.heap.size := by omega
  have B4 : Hid (Below w.heap.size w w4) := Lib.hid (B3.out.trans (only_below ON4.out B3.out.size (fun k e => by omega)))
  have WA4 := Lib.hid (whole_onl WA3.out ON4.out (by omega))
  have WR4 := Lib.hid (whole_onl WR3.out ON4.out (by omega))
  have WO4 := Lib.hid (whole_below (whole_set (whole_set (whole_set (whole_set (whole_set (whole_set WO3.out 2 (.slice A3 m.d.s.length k3)) 3 (.slice A4 m.d.b.length k4)) 4 (.slice A5 m.d.c.length k5)) 5 (.int .i64 m.d.h)) 6 (.int .i64 m.d.n)) 7 (.string m.d.o)) hb)
  have P1 := Lib.hid (wrow_on ON4.out (by omega) P1.out)
  have P2 := Lib.hid (row_on ON4.out (by omega) P2.out)
  have P3 := Lib.hid (datOf_on ON4.out (by omega) P3.out)
  have P4 : Hid (HostT w4 (w.heap.size + 1 + 1 + 1) (.agg #[.slice A6 m.h.g.length k6, .slice A7 m.h.s.length k7, .slice A8 m.h.n.length k8, .int .i64 m.h.c, .slice A9 m.h.d.length k9]) m.h) := Lib.hid (hostT_base (hostT_of hr) (by simp; omega))
  have L4 : Hid (∀ g, Blk (.agg #[.slice A6 m.h.g.length k6, .slice A7 m.h.s.length k7, .slice A8 m.h.n.length k8, .int .i64 m.h.c, .slice A9 m.h.d.length k9]) g → g < w4.heap.size) := Lib.hid fun g hg => (hostOf_mine hr (blk_agg hg)).2
  have G4 : Hid (∀ g, Blk (.agg #[.slice A6 m.h.g.length k6, .slice A7 m.h.s.length k7, .slice A8 m.h.n.length k8, .int .i64 m.h.c, .slice A9 m.h.d.length k9]) g → w3.heap.size ≤ g) := Lib.hid fun g hg => by have h := (hostOf_mine hr (blk_agg hg)).1; simpa using h
  clear ON4 WA3 WR3 WO3 BS3 B3
  have BS4 : Hid (Below w.heap.size w (((((w4.setCell ⟨w.heap.size + 1 + 1, 8, none⟩ (.slice A6 m.h.g.length k6)).setCell ⟨w.heap.size + 1 + 1, 9, none⟩ (.slice A7 m.h.s.length k7)).setCell ⟨w.heap.size + 1 + 1, 10, none⟩ (.slice A8 m.h.n.length k8)).setCell ⟨w.heap.size + 1 + 1, 11, none⟩ (.int .i64 m.h.c)).setCell ⟨w.heap.size + 1 + 1, 12, none⟩ (.slice A9 m.h.d.length k9))) := Lib.hid (B4.out.trans (only_below (only_trans (only_trans (only_trans (only_trans (mc_put (w := w4) (G := w.heap.size + 1 + 1) (i := 8) (.slice A6 m.h.g.length k6)) (mc_put (G := w.heap.size + 1 + 1) (i := 9) (.slice A7 m.h.s.length k7))) (mc_put (G := w.heap.size + 1 + 1) (i := 10) (.slice A8 m.h.n.length k8))) (mc_put (G := w.heap.size + 1 + 1) (i := 11) (.int .i64 m.h.c))) (mc_put (G := w.heap.size + 1 + 1) (i := 12) (.slice A9 m.h.d.length k9))) B4.out.size (fun k e => by omega)))
  clear hr hb
  have ca13 := whole_cell WA4.out 13
  have co8 := whole_cell WO4.out 8
  have co9 := whole_cell WO4.out 9
  have co10 := whole_cell WO4.out 10
  have co11 := whole_cell WO4.out 11
  have co12 := whole_cell WO4.out 12
  have fo := whole_free WO4.out
  simp at ca13 co8 co9 co10 co11 co12
  go_wp2_with fail
  clear fo ca13 co8 co9 co10 co11 co12
  refine (toCallS_any _ m.c _ (cls_below HZ.out BS4.out) HS.out.2.2.2.2).mono ?_
  rintro e w5 ⟨v5, rfl, hr, -, hb⟩
  obtain ⟨_, A0, k0, rfl, _⟩ := crow_dds hr
  have ON5 : Hid (Only (fun k => k = w.heap.size + 1 + 1) w4 w5) := Lib.hid (only_trans (only_trans (only_trans (only_trans (only_trans (mc_put (w := w4) (G := w.heap.size + 1 + 1) (i := 8) (.slice A6 m.h.g.length k6)) (mc_put (G := w.heap.size + 1 + 1) (i := 9) (.slice A7 m.h.s.length k7))) (mc_put (G := w.heap.size + 1 + 1) (i := 10) (.slice A8 m.h.n.length k8))) (mc_put (G := w.heap.size + 1 + 1) (i := 11) (.int .i64 m.h.c))) (mc_put (G := w.heap.size + 1 + 1) (i := 12) (.slice A9 m.h.d.length k9))) (below_only hb))
  have y5 : w4.heap.size ≤ w5.heap.size := ON5.out.size
  have z5 : w.heap.size + 1 + 1 + 1 ≤ w5.heap.size := by omega
  have B5 : Hid (Below w.heap.size w w5) := Lib.hid (B4.out.trans (only_below ON5.out B4.out.size (fun k e => by omega)))
  have WA5 := Lib.hid (whole_onl WA4.out ON5.out (by omega))
  have WR5 := Lib.hid (whole_onl WR4.out ON5.out (by omega))
  have WO5 := Lib.hid (whole_below (whole_set (whole_set (whole_set (whole_set (whole_set WO4.out 8 (.slice A6 m.h.g.length k6)) 9 (.slice A7 m.h.s.length k7)) 10 (.slice A8 m.h.n.length k8)) 11 (.int .i64 m.h.c)) 12 (.slice A9 m.h.d.length k9)) hb)
  have P1 := Lib.hid (wrow_on ON5.out (by omega) P1.out)
  have P2 := Lib.hid (row_on ON5.out (by omega) P2.out)
  have P3 := Lib.hid (datOf_on ON5.out (by omega) P3.out)
  have P4 := Lib.hid (hostT_on ON5.out (by omega) P4.out)
  have P5 : Hid (CRow w5 (w.heap.size + 1 + 1 + 1) (.slice A0 m.c.length k0) m.c) := Lib.hid (crow_base hr (by simp; omega))
  have L5 : Hid (∀ g, Blk (.slice A0 m.c.length k0) g → g < w5.heap.size) := Lib.hid fun g hg => (crow_lt hr g (blk_slice hg)).2
  have G5 : Hid (∀ g, Blk (.slice A0 m.c.length k0) g → w4.heap.size ≤ g) := Lib.hid fun g hg => by have h := (crow_lt hr g (blk_slice hg)).1; simpa using h
  clear ON5 WA4 WR4 WO4 BS4 B4
  have BS5 : Hid (Below w.heap.size w (w5.setCell ⟨w.heap.size + 1 + 1, 13, none⟩ (.slice A0 m.c.length k0))) := Lib.hid (B5.out.trans (only_below (mc_put (w := w5) (G := w.heap.size + 1 + 1) (i := 13) (.slice A0 m.c.length k0)) B5.out.size (fun k e => by omega)))
  clear hr hb
  have ca14 := whole_cell WA5.out 14
  have ca15 := whole_cell WA5.out 15
  have co0 := whole_cell WO5.out 0
  have co1 := whole_cell WO5.out 1
  have co2 := whole_cell WO5.out 2
  have co3 := whole_cell WO5.out 3
  have co4 := whole_cell WO5.out 4
  have co5 := whole_cell WO5.out 5
  have co6 := whole_cell WO5.out 6
  have co7 := whole_cell WO5.out 7
  have co8 := whole_cell WO5.out 8
  have co9 := whole_cell WO5.out 9
  have co10 := whole_cell WO5.out 10
  have co11 := whole_cell WO5.out 11
  have co12 := whole_cell WO5.out 12
  have co13 := whole_cell WO5.out 13
  have co14 := whole_cell WO5.out 14
  have co15 := whole_cell WO5.out 15
  have cr0 := whole_cell WR5.out 0
  have cr1 := whole_cell WR5.out 1
  have cr2 := whole_cell WR5.out 2
  have cr3 := whole_cell WR5.out 3
  have cr4 := whole_cell WR5.out 4
  have cr5 := whole_cell WR5.out 5
  have cr6 := whole_cell WR5.out 6
  have cr7 := whole_cell WR5.out 7
  have cr8 := whole_cell WR5.out 8
  have cr9 := whole_cell WR5.out 9
  have cr10 := whole_cell WR5.out 10
  have cr11 := whole_cell WR5.out 11
  have cr12 := whole_cell WR5.out 12
  have cr13 := whole_cell WR5.out 13
  have cr14 := whole_cell WR5.out 14
  have cr15 := whole_cell WR5.out 15
  have fo := whole_free WO5.out
  have fr := whole_free WR5.out
  simp at ca14 ca15 co0 co1 co2 co3 co4 co5 co6 co7 co8 co9 co10 co11 co12 co13 co14 co15 cr0 cr1 cr2 cr3 cr4 cr5 cr6 cr7 cr8 cr9 cr10 cr11 cr12 cr13 cr14 cr15
  go_wp2
  have ONO : Only (fun k => k = w.heap.size + 1 + 1) w5 (((w5.setCell ⟨w.heap.size + 1 + 1, 13, none⟩ (.slice A0 m.c.length k0)).setCell ⟨w.heap.size + 1 + 1, 14, none⟩ (.int .i64 m.i)).setCell ⟨w.heap.size + 1 + 1, 15, none⟩ (.int .i64 m.f)) := (only_trans (only_trans (mc_put (w := w5) (G := w.heap.size + 1 + 1) (i := 13) (.slice A0 m.c.length k0)) (mc_put (G := w.heap.size + 1 + 1) (i := 14) (.int .i64 m.i))) (mc_put (G := w.heap.size + 1 + 1) (i := 15) (.int .i64 m.f)))
  have ONR := (only_trans (only_trans (only_trans (only_trans (only_trans (only_trans (only_trans (only_trans (only_trans (only_trans (only_trans (only_trans (only_trans (only_trans (only_trans (mc_put (w := (((w5.setCell ⟨w.heap.size + 1 + 1, 13, none⟩ (.slice A0 m.c.length k0)).setCell ⟨w.heap.size + 1 + 1, 14, none⟩ (.int .i64 m.i)).setCell ⟨w.heap.size + 1 + 1, 15, none⟩ (.int .i64 m.f))) (G := w.heap.size + 1) (i := 0) (.slice A1 m.w.length k1)) (mc_put (G := w.heap.size + 1) (i := 1) (.slice A2 m.k.length k2))) (mc_put (G := w.heap.size + 1) (i := 2) (.slice A3 m.d.s.length k3))) (mc_put (G := w.heap.size + 1) (i := 3) (.slice A4 m.d.b.length k4))) (mc_put (G := w.heap.size + 1) (i := 4) (.slice A5 m.d.c.length k5))) (mc_put (G := w.heap.size + 1) (i := 5) (.int .i64 m.d.h))) (mc_put (G := w.heap.size + 1) (i := 6) (.int .i64 m.d.n))) (mc_put (G := w.heap.size + 1) (i := 7) (.string m.d.o))) (mc_put (G := w.heap.size + 1) (i := 8) (.slice A6 m.h.g.length k6))) (mc_put (G := w.heap.size + 1) (i := 9) (.slice A7 m.h.s.length k7))) (mc_put (G := w.heap.size + 1) (i := 10) (.slice A8 m.h.n.length k8))) (mc_put (G := w.heap.size + 1) (i := 11) (.int .i64 m.h.c))) (mc_put (G := w.heap.size + 1) (i := 12) (.slice A9 m.h.d.length k9))) (mc_put (G := w.heap.size + 1) (i := 13) (.slice A0 m.c.length k0))) (mc_put (G := w.heap.size + 1) (i := 14) (.int .i64 m.i))) (mc_put (G := w.heap.size + 1) (i := 15) (.int .i64 m.f)))
  have P1 := wrow_on ONR (by omega) (wrow_on ONO (by omega) P1.out)
  have P2 := row_on ONR (by omega) (row_on ONO (by omega) P2.out)
  have P3 := datOf_on ONR (by omega) (datOf_on ONO (by omega) P3.out)
  have P4 := hostT_on ONR (by omega) (hostT_on ONO (by omega) P4.out)
  have P5 := crow_on ONR (by omega) (crow_on ONO (by omega) P5.out)
  refine bodyPost_ret (v := .agg #[.slice A1 m.w.length k1, .slice A2 m.k.length k2, .slice A3 m.d.s.length k3, .slice A4 m.d.b.length k4, .slice A5 m.d.c.length k5, .int .i64 m.d.h, .int .i64 m.d.n, .string m.d.o, .slice A6 m.h.g.length k6, .slice A7 m.h.s.length k7, .slice A8 m.h.n.length k8, .int .i64 m.h.c, .slice A9 m.h.d.length k9, .slice A0 m.c.length k0, .int .i64 m.i, .int .i64 m.f]) (by simp [results, Tryz.results40, go_sem, *]) rfl ⟨_, rfl, ⟨_, _, _, _, _, _, _, _, _, _, rfl, wrow_base P1 (by omega), row_base P2 (by omega), datOf_top (datOf_base P3 (by omega)) (by have := ONR.size; have := ONO.size; omega), hostT_base P4 (by omega), crow_base P5 (by omega), sep_lt (n := w1.heap.size) L1.out (fun g h => by have := G2.out g h; omega), sep_lt (n := w1.heap.size) L1.out (fun g h => by have := G3.out g h; omega), sep_lt (n := w1.heap.size) L1.out (fun g h => by have := G4.out g h; omega), sep_lt (n := w1.heap.size) L1.out (fun g h => by have := G5.out g h; omega), sep_lt (n := w2.heap.size) L2.out (fun g h => by have := G3.out g h; omega), sep_lt (n := w2.heap.size) L2.out (fun g h => by have := G4.out g h; omega), sep_lt (n := w2.heap.size) L2.out (fun g h => by have := G5.out g h; omega), sep_lt (n := w3.heap.size) L3.out (fun g h => by have := G4.out g h; omega), sep_lt (n := w3.heap.size) L3.out (fun g h => by have := G5.out g h; omega), sep_lt (n := w4.heap.size) L4.out (fun g h => by have := G5.out g h; omega)⟩, ?_⟩
  exact (B5.out.trans (only_below ONO B5.out.size (fun k e => by omega))).trans (only_below ONR (by have := B5.out.size; have := ONO.size; omega) (fun k e => by omega))

end Go.Proofs.YthnbaeamekolmaaGreatDoor

namespace Go.Proofs.YthnbaeamekolmaaGreatDoor
open Go.RowKit
set_option linter.unusedVariables false
set_option linter.unusedSimpArgs false

set_option maxRecDepth 100000 in
set_option maxHeartbeats 4000000 in
theorem eqMachine_same (u v : Value) (m : Mc) (w : World) (hu : MchIn w u m) (hv : MchIn w v m) :
    Calls Tryz.prog 48 #[u, v] w fun e w' => e = .returned (.bool true) ∧ Below w.heap.size w w' := by
  obtain ⟨A1, k1, A2, k2, A3, k3, A4, k4, A5, k5, A6, k6, A7, k7, A8, k8, A9, k9, A0, k0, rfl⟩ := mchIn_form hu
  obtain ⟨x, k, a, b, c, g, s, n, q, z, e, hx, hk, hd, hh, hz⟩ := hu
  simp only [Value.agg.injEq, Array.mk.injEq, List.cons.injEq, and_true, true_and] at e
  obtain ⟨rfl, rfl, rfl, rfl, rfl, rfl, rfl, rfl, rfl, rfl⟩ := e
  have UX := Lib.hid hx
  have UK := Lib.hid hk
  have UD := Lib.hid hd
  have UH := Lib.hid hh
  have UZ := Lib.hid hz
  clear hx hk hd hh hz
  obtain ⟨B1, j1, B2, j2, B3, j3, B4, j4, B5, j5, B6, j6, B7, j7, B8, j8, B9, j9, B0, j0, rfl⟩ := mchIn_form hv
  obtain ⟨x, k, a, b, c, g, s, n, q, z, e, hx, hk, hd, hh, hz⟩ := hv
  simp only [Value.agg.injEq, Array.mk.injEq, List.cons.injEq, and_true, true_and] at e
  obtain ⟨rfl, rfl, rfl, rfl, rfl, rfl, rfl, rfl, rfl, rfl⟩ := e
  have VX := Lib.hid hx
  have VK := Lib.hid hk
  have VD := Lib.hid hd
  have VH := Lib.hid hh
  have VZ := Lib.hid hz
  clear hx hk hd hh hz
  have BB : Below w.heap.size w ((w.alloc (.cells #[.slice A1 m.w.length k1, .slice A2 m.k.length k2, .slice A3 m.d.s.length k3, .slice A4 m.d.b.length k4, .slice A5 m.d.c.length k5, .int .i64 m.d.h, .int .i64 m.d.n, .string m.d.o, .slice A6 m.h.g.length k6, .slice A7 m.h.s.length k7, .slice A8 m.h.n.length k8, .int .i64 m.h.c, .slice A9 m.h.d.length k9, .slice A0 m.c.length k0, .int .i64 m.i, .int .i64 m.f] 46)).alloc (.cells #[.slice B1 m.w.length j1, .slice B2 m.k.length j2, .slice B3 m.d.s.length j3, .slice B4 m.d.b.length j4, .slice B5 m.d.c.length j5, .int .i64 m.d.h, .int .i64 m.d.n, .string m.d.o, .slice B6 m.h.g.length j6, .slice B7 m.h.s.length j7, .slice B8 m.h.n.length j8, .int .i64 m.h.c, .slice B9 m.h.d.length j9, .slice B0 m.c.length j0, .int .i64 m.i, .int .i64 m.f] 46)) := below_alloc (below_alloc (Below.refl _ _) _) _
  have ti : (m.i != m.i) = false := by simp
  have tf : (m.f != m.f) = false := by simp
  go_enter Tryz.func48, Tryz.ntmps48
  go_wp2_with fail
  refine (eqWordS_same _ _ m.w _ (wds_below UX.out BB) (wds_below VX.out BB)).mono ?_
  rintro e w1 ⟨rfl, hb⟩
  have B1 := Lib.hid (below_step BB hb)
  have W1 := Lib.hid (whole_b hb (whole_alloc (whole_new w _ _) _))
  have Y1 := Lib.hid (whole_b hb (whole_new1 w _ _ _))
  clear hb BB
  have zw := whole_lt W1.out
  have zy := whole_lt Y1.out
  obtain ⟨c0, c1, c2, c3, c4, c5, c6, c7, c8, c9, c10, c11, c12, c13, c14, c15⟩ := cells_sixteen W1.out
  obtain ⟨d0, d1, d2, d3, d4, d5, d6, d7, d8, d9, d10, d11, d12, d13, d14, d15⟩ := cells_sixteen Y1.out
  go_wp2_with fail
  clear zw zy c0 c1 c2 c3 c4 c5 c6 c7 c8 c9 c10 c11 c12 c13 c14 c15 d0 d1 d2 d3 d4 d5 d6 d7 d8 d9 d10 d11 d12 d13 d14 d15
  refine (eqInts_any _ _ m.k m.k _ (ints_below UK.out B1.out) (ints_below VK.out B1.out)).mono ?_
  intro e w2 hr
  obtain ⟨n2, rfl, rfl⟩ := boolOf_true hr
  clear hr
  have B2 := Lib.hid (below_drewN B1.out n2)
  have W2 : Hid (Whole (w1.drewN n2) _ _ _) := W1
  have Y2 : Hid (Whole (w1.drewN n2) _ _ _) := Y1
  generalize w1.drewN n2 = w2 at *
  have zw := whole_lt W2.out
  have zy := whole_lt Y2.out
  obtain ⟨c0, c1, c2, c3, c4, c5, c6, c7, c8, c9, c10, c11, c12, c13, c14, c15⟩ := cells_sixteen W2.out
  obtain ⟨d0, d1, d2, d3, d4, d5, d6, d7, d8, d9, d10, d11, d12, d13, d14, d15⟩ := cells_sixteen Y2.out
  go_wp2_with fail
  clear zw zy c0 c1 c2 c3 c4 c5 c6 c7 c8 c9 c10 c11 c12 c13 c14 c15 d0 d1 d2 d3 d4 d5 d6 d7 d8 d9 d10 d11 d12 d13 d14 d15
  refine (eqData_same _ _ m.d _ (datIn_below UD.out B2.out) (datIn_below VD.out B2.out)).mono ?_
  rintro e w3 ⟨rfl, hb⟩
  have B3 := Lib.hid (below_step B2.out hb)
  have W3 := Lib.hid (whole_b hb W2.out)
  have Y3 := Lib.hid (whole_b hb Y2.out)
  clear hb
  have zw := whole_lt W3.out
  have zy := whole_lt Y3.out
  obtain ⟨c0, c1, c2, c3, c4, c5, c6, c7, c8, c9, c10, c11, c12, c13, c14, c15⟩ := cells_sixteen W3.out
  obtain ⟨d0, d1, d2, d3, d4, d5, d6, d7, d8, d9, d10, d11, d12, d13, d14, d15⟩ := cells_sixteen Y3.out
  go_wp2_with fail
  clear zw zy c0 c1 c2 c3 c4 c5 c6 c7 c8 c9 c10 c11 c12 c13 c14 c15 d0 d1 d2 d3 d4 d5 d6 d7 d8 d9 d10 d11 d12 d13 d14 d15
  refine (eqHost_same _ _ m.h _ (hostIn_below UH.out B3.out) (hostIn_below VH.out B3.out)).mono ?_
  rintro e w4 ⟨rfl, hb⟩
  have B4 := Lib.hid (below_step B3.out hb)
  have W4 := Lib.hid (whole_b hb W3.out)
  have Y4 := Lib.hid (whole_b hb Y3.out)
  clear hb
  have zw := whole_lt W4.out
  have zy := whole_lt Y4.out
  obtain ⟨c0, c1, c2, c3, c4, c5, c6, c7, c8, c9, c10, c11, c12, c13, c14, c15⟩ := cells_sixteen W4.out
  obtain ⟨d0, d1, d2, d3, d4, d5, d6, d7, d8, d9, d10, d11, d12, d13, d14, d15⟩ := cells_sixteen Y4.out
  go_wp2_with fail
  clear zw zy c0 c1 c2 c3 c4 c5 c6 c7 c8 c9 c10 c11 c12 c13 c14 c15 d0 d1 d2 d3 d4 d5 d6 d7 d8 d9 d10 d11 d12 d13 d14 d15
  refine (eqCallS_same _ _ m.c _ (cls_below UZ.out B4.out) (cls_below VZ.out B4.out)).mono ?_
  rintro e w5 ⟨rfl, hb⟩
  have B5 := Lib.hid (below_step B4.out hb)
  have W5 := Lib.hid (whole_b hb W4.out)
  have Y5 := Lib.hid (whole_b hb Y4.out)
  clear hb
  have zw := whole_lt W5.out
  have zy := whole_lt Y5.out
  obtain ⟨c0, c1, c2, c3, c4, c5, c6, c7, c8, c9, c10, c11, c12, c13, c14, c15⟩ := cells_sixteen W5.out
  obtain ⟨d0, d1, d2, d3, d4, d5, d6, d7, d8, d9, d10, d11, d12, d13, d14, d15⟩ := cells_sixteen Y5.out
  go_wp2
  go_ret
  exact ⟨rfl, B5.out⟩

end Go.Proofs.YthnbaeamekolmaaGreatDoor

namespace Go.Proofs.YthnbaeamekolmaaGreatDoor
open Go.RowKit
set_option linter.unusedVariables false
set_option linter.unusedSimpArgs false

theorem size_mI : (Tryz.prog.info? 46).map (·.size) = some 16 := by kernel_rfl

theorem size_mL : (Tryz.prog.info? 32).map (·.size) = some 16 := by kernel_rfl

/-- A row of sixteen cells, each of one cell. -/
def Six10 (cs : Array Value) : Prop := cs.size = 16 ∧ cs.all (·.oneCell') = true

theorem mchL_cells {w : World} {v : Value} {m : Mc} (h : MchL w v m) : ∃ cs, v = .agg cs ∧ Six10 cs := by
  obtain ⟨A1, k1, A2, k2, A3, k3, A4, k4, A5, k5, A6, k6, A7, k7, A8, k8, A9, k9, A0, k0, rfl⟩ := mchL_form h
  exact ⟨_, rfl, rfl, by simp [Value.oneCell']⟩

theorem mchIn_cells {w : World} {v : Value} {m : Mc} (h : MchIn w v m) : ∃ cs, v = .agg cs ∧ Six10 cs := by
  obtain ⟨A1, k1, A2, k2, A3, k3, A4, k4, A5, k5, A6, k6, A7, k7, A8, k8, A9, k9, A0, k0, rfl⟩ := mchIn_form h
  exact ⟨_, rfl, rfl, by simp [Value.oneCell']⟩

theorem wpList_load_mI {ops : Array Oper} {rest : List Oper} {o : Oper} {a : Act} {w : World} {Q : Exit → Act → World → Prop} (hgd : o.guard = none) (x : Operand) (ho : o.op = .load 46 x)
    (g : Nat) (hx : a.eval x = .pointer (some ⟨g, 0, none⟩)) {t : TypeId} {cs : Array Value} (hg : Whole w g t cs) (hs : Six10 cs)
    (h : wpList Tryz.prog ops Q rest (a.put o.dst (.agg cs)) w) : wpList Tryz.prog ops Q (o :: rest) a w :=
  wpList_load_row hgd 46 x ho g hx t _ (0, 0) _ hg Tryz.underlying46 rfl (by rw [hs.1]; exact size_mI) h

theorem wpList_load_mL {ops : Array Oper} {rest : List Oper} {o : Oper} {a : Act} {w : World} {Q : Exit → Act → World → Prop} (hgd : o.guard = none) (x : Operand) (ho : o.op = .load 32 x)
    (g : Nat) (hx : a.eval x = .pointer (some ⟨g, 0, none⟩)) {t : TypeId} {cs : Array Value} (hg : Whole w g t cs) (hs : Six10 cs)
    (h : wpList Tryz.prog ops Q rest (a.put o.dst (.agg cs)) w) : wpList Tryz.prog ops Q (o :: rest) a w :=
  wpList_load_row hgd 32 x ho g hx t _ (0, 0) _ hg Tryz.underlying32 rfl (by rw [hs.1]; exact size_mL) h

theorem wpList_load_mIw {ops : Array Oper} {rest : List Oper} {o : Oper} {a : Act} {w : World} {Q : Exit → Act → World → Prop} (hw : Region.wanted o (yielded ops a.tmps) = true) (x : Operand) (ho : o.op = .load 46 x)
    (g : Nat) (hx : a.eval x = .pointer (some ⟨g, 0, none⟩)) {t : TypeId} {cs : Array Value} (hg : Whole w g t cs) (hs : Six10 cs)
    (h : wpList Tryz.prog ops Q rest (a.put o.dst (.agg cs)) w) : wpList Tryz.prog ops Q (o :: rest) a w :=
  wpList_step fun _ hK => by rw [if_pos hw]; exact wp_load_row 46 x ho g hx t _ (0, 0) _ hg Tryz.underlying46 rfl (by rw [hs.1]; exact size_mI) (hK _ _ h)

theorem wpList_store_mI {ops : Array Oper} {rest : List Oper} {o : Oper} {a : Act} {w : World} {Q : Exit → Act → World → Prop} (hgd : o.guard = none) (x y : Operand) (ho : o.op = .store 46 x y)
    (cs : Array Value) (hx : a.eval x = .pointer (some ⟨w.heap.size, 0, none⟩)) (hy : a.eval y = .agg cs) (t : TypeId) (hs : Six10 cs)
    (h : wpList Tryz.prog ops Q rest (a.put o.dst undef) (w.alloc (.cells cs t))) : wpList Tryz.prog ops Q (o :: rest) a (w.alloc (.cells #[.slice none 0 0, .slice none 0 0, .slice none 0 0, .slice none 0 0, .slice none 0 0, .int .i64 0, .int .i64 0, .string ⟨#[]⟩, .slice none 0 0, .slice none 0 0, .slice none 0 0, .int .i64 0, .slice none 0 0, .slice none 0 0, .int .i64 0, .int .i64 0] t)) :=
  wpList_store_row hgd 46 x y ho w.heap.size cs hx hy t #[.slice none 0 0, .slice none 0 0, .slice none 0 0, .slice none 0 0, .slice none 0 0, .int .i64 0, .int .i64 0, .string ⟨#[]⟩, .slice none 0 0, .slice none 0 0, .slice none 0 0, .int .i64 0, .slice none 0 0, .slice none 0 0, .int .i64 0, .int .i64 0] (heap_alloc_last w _) (by rw [hs.1]; exact size_mI) (by rw [hs.1]; rfl) hs.2 (by rw [World.setRow_alloc_new]; exact h)

theorem yields_load_row {P : Program} {ops : Array Oper} {S : World → Prop} {o : Oper} {a : Act} (hw : Region.wanted o (yielded ops a.tmps) = true) (ty : TypeId) (x : Operand) (ho : o.op = .load ty x)
    (g : Nat) (hx : a.eval x = .pointer (some ⟨g, 0, none⟩)) (t : TypeId) (cs : Array Value) (d : TypeDesc) (hS : ∀ w, S w → Whole w g t cs)
    (hu : P.underlying ty = some d) (hd : (match d with | .struct _ | .array _ _ => true | _ => false) = true) (hi : (P.info? ty).map (·.size) = some cs.size) : YieldsIf P ops S o (.agg cs) a :=
  .inl ⟨hw, fun w h => by
    unfold execOp
    simp only [ho, hx, Instr.loadAt, Instr.sureAddr, Sem.run_bind, Sem.run_pure, Result.andThen_ok, run_loadVar_row w g t ty cs (0, 0) d (hS w h) hu hd hi]⟩

theorem yields_load_mI {ops : Array Oper} {S : World → Prop} {o : Oper} {a : Act} (hw : Region.wanted o (yielded ops a.tmps) = true) (x : Operand) (ho : o.op = .load 46 x)
    (g : Nat) (hx : a.eval x = .pointer (some ⟨g, 0, none⟩)) {t : TypeId} {cs : Array Value} (hS : ∀ w, S w → Whole w g t cs) (hs : Six10 cs) : YieldsIf Tryz.prog ops S o (.agg cs) a :=
  yields_load_row hw _ x ho g hx t cs _ hS Tryz.underlying46 rfl (by rw [hs.1]; exact size_mI)

theorem yields_load_mL {ops : Array Oper} {S : World → Prop} {o : Oper} {a : Act} (hw : Region.wanted o (yielded ops a.tmps) = true) (x : Operand) (ho : o.op = .load 32 x)
    (g : Nat) (hx : a.eval x = .pointer (some ⟨g, 0, none⟩)) {t : TypeId} {cs : Array Value} (hS : ∀ w, S w → Whole w g t cs) (hs : Six10 cs) : YieldsIf Tryz.prog ops S o (.agg cs) a :=
  yields_load_row hw _ x ho g hx t cs _ hS Tryz.underlying32 rfl (by rw [hs.1]; exact size_mL)

end Go.Proofs.YthnbaeamekolmaaGreatDoor

namespace Go.Proofs.YthnbaeamekolmaaGreatDoor
open Go.Joins Go.ChangeShapes Go.WideShapes Go.RowKit Go.Deep Go.ChangeAt
set_option linter.unusedVariables false
set_option linter.unusedSimpArgs false

theorem mchIn_b {w w' : World} {v : Value} {m : Mc} (hb : Below w.heap.size w w') (h : MchIn w v m) : MchIn w' v m := mchIn_below h hb

theorem mchL_b {w w' : World} {v : Value} {m : Mc} (hb : Below w.heap.size w w') (h : MchL w v m) : MchL w' v m := mchL_below h hb

theorem mchT_in_b {w w' : World} {lo : Nat} {v : Value} {m : Mc} (hb : Below w.heap.size w w') (h : MchT w lo v m) : MchIn w' v m := mchIn_below (mchT_in h) hb

section
variable {H : Type} {enc : TypeId × Value → H} {w : World} {base : Nat} {spare : Nat → Bool} {held : Bool}

set_option maxRecDepth 100000 in
theorem call_one : ∀ t, t = 3 ∨ t = 4 → Tryz.prog.cellsOf t = 1 := by
  rintro t (rfl | rfl) <;> kernel_rfl

set_option maxRecDepth 100000 in
theorem call_of_trod {fuel : Nat} {cs : List Value} {x : DataW H × List MemPlace} (hl : cs.length = 4) (h : DataW.trod enc Tryz.prog w base spare held fuel 168 cs = some x) : ∃ y : Cl, cs = [.int .i64 y.i, .int .i64 y.f, .int .i64 y.d, .bool y.c] := by
  match cs, hl with
  | [c0, c1, c2, c3], _ =>
    obtain ⟨xs, n, _, hx, _, hlen, hg⟩ := DataW.trod_struct Tryz.underlying168 h
    match xs, hlen with
    | [y0, y1, y2, y3], _ =>
      have g0 := hg 0 _ rfl
      have g1 := hg 1 _ rfl
      have g2 := hg 2 _ rfl
      have g3 := hg 3 _ rfl
      simp [call_one] at g0 g1 g2 g3
      obtain ⟨n0, e0, _, _⟩ := DataW.trod_int Tryz.underlying3 g0
      obtain ⟨n1, e1, _, _⟩ := DataW.trod_int Tryz.underlying3 g1
      obtain ⟨n2, e2, _, _⟩ := DataW.trod_int Tryz.underlying3 g2
      obtain ⟨n3, e3, _⟩ := DataW.trod_bool Tryz.underlying4 g3
      simp only [List.cons.injEq, and_true] at e0 e1 e2 e3
      subst e0 e1 e2 e3
      exact ⟨⟨n0, n1, n2, n3⟩, rfl⟩

theorem choose_calls {len : Nat} {p : Nat → Cl → Prop} (h : ∀ i, i < len → ∃ x, p i x) : ∃ Q : List Cl, Q.length = len ∧ ∀ i (hi : i < Q.length), p i Q[i] := by
  induction len with
  | zero => exact ⟨[], rfl, fun i hi => by simp at hi⟩
  | succ m ih =>
    obtain ⟨Q, hl, hq⟩ := ih (fun i hi => h i (by omega))
    obtain ⟨x, hx⟩ := h m (by omega)
    refine ⟨Q ++ [x], by simp [hl], fun i hi => ?_⟩
    by_cases e : i < Q.length
    · rw [List.getElem_append_left e]; exact hq i e
    · have : i = m := by simp at hi; omega
      subst this
      rw [List.getElem_append_right (by omega)]
      simp [hl]
      exact hx

set_option maxRecDepth 100000 in
theorem cls_of_trod {fuel : Nat} {A : Option Addr} {l c : Nat} {x : DataW H × List MemPlace} (hf : DataW.trod enc Tryz.prog w base (fun _ => true) held fuel 30 [.slice A l c] = some x) : ∃ D : List Cl, Cls w (.slice A l c) D := by
  have hC : Tryz.prog.cellsOf 168 = 4 := by kernel_rfl
  rcases open_slice Tryz.underlying30 hf with ⟨hcs, _⟩ | ⟨a, len, cap, m, n, D, Pl, hcs, hb, hl, hm, hmm, hx, hi⟩
  · simp at hcs
    obtain ⟨rfl, rfl, rfl⟩ := hcs
    exact ⟨[], cls_nil w⟩
  · simp at hcs
    obtain ⟨rfl, rfl, rfl⟩ := hcs
    simp only [if_true] at hmm
    obtain ⟨Q, hlen, hq⟩ := choose_calls (len := l) (p := fun i x => ClAt w (a.add (i * 4)) x) (fun i hil => by
      obtain ⟨cs', h1, h2⟩ := hi i (by omega)
      rw [hC] at h1
      obtain ⟨_, hcl, hat⟩ := World.cells?_some h1
      obtain ⟨y, rfl⟩ := call_of_trod hcl h2
      refine ⟨y, ?_, ?_, ?_, ?_⟩
      · have := hat 0 (by omega); rw [Addr.add_zero'] at this; simpa using this
      · have := hat 1 (by omega); rw [Addr.add_succ'] at this; simpa using this
      · have := hat 2 (by omega); rw [Addr.add_succ'] at this; simpa using this
      · have := hat 3 (by omega); rw [Addr.add_succ'] at this; simpa using this)
    exact ⟨Q, by rw [hlen]; omega, some a, c, by rw [hlen], fun _ => ⟨a, rfl, fun k hk => hq k hk⟩⟩

set_option maxRecDepth 100000 in
theorem wdsL_of_trod {fuel : Nat} {A : Option Addr} {l c : Nat} {x : DataW H × List MemPlace} (hf : DataW.trod enc Tryz.prog w base (fun _ => true) held fuel 22 [.slice A l c] = some x) : ∃ D : List Wd, WdsL w (.slice A l c) D := by
  have hC : Tryz.prog.cellsOf 157 = 3 := by kernel_rfl
  rcases open_slice Tryz.underlying22 hf with ⟨hcs, _⟩ | ⟨a, len, cap, m, n, D, Pl, hcs, hb, hl, hm, hmm, hx, hi⟩
  · simp at hcs
    obtain ⟨rfl, rfl, rfl⟩ := hcs
    exact ⟨[], Nat.zero_le _, fun _ h => by simp at h, none, 0, rfl, fun h => absurd h (by simp)⟩
  · simp at hcs
    obtain ⟨rfl, rfl, rfl⟩ := hcs
    simp only [if_true] at hmm
    obtain ⟨Q, hlen, hq⟩ := choose_words (len := l) (p := fun i x => WdAt w (a.add (i * 3)) x ∧ x.n.size ≤ maxLen) (fun i hil => by
      obtain ⟨cs', h1, h2⟩ := hi i (by omega)
      rw [hC] at h1
      obtain ⟨_, hcl, hat⟩ := World.cells?_some h1
      obtain ⟨y, rfl, hn⟩ := word_of_trod hcl h2
      refine ⟨y, ⟨?_, ?_, ?_⟩, hn⟩
      · have := hat 0 (by omega); rw [Addr.add_zero'] at this; simpa using this
      · have := hat 1 (by omega); rw [Addr.add_succ'] at this; simpa using this
      · have := hat 2 (by omega); rw [Addr.add_succ'] at this; simpa using this)
    refine ⟨Q, by rw [hlen]; omega, fun x hx => ?_, some a, c, by rw [hlen], fun _ => ⟨a, rfl, fun k hk => (hq k hk).1⟩⟩
    obtain ⟨k, hk, rfl⟩ := List.mem_iff_getElem.1 hx
    exact (hq k hk).2

set_option maxRecDepth 100000 in
theorem data_of_trod {fuel : Nat} {c0 c1 c2 c3 c4 c5 : Value} {x : DataW H × List MemPlace} (hf : DataW.trod enc Tryz.prog w base (fun _ => true) held fuel 25 [c0, c1, c2, c3, c4, c5] = some x) :
    ∃ D : Dt, c3 = .int .i64 D.h ∧ c4 = .int .i64 D.n ∧ c5 = .string D.o ∧ DatIn w (.agg #[c0, c1, c2, .int .i64 D.h, .int .i64 D.n, .string D.o]) D := by
  obtain ⟨xs, n, _, hx, _, hlen, hg⟩ := DataW.trod_struct Tryz.underlying25 hf
  have one : ∀ t, t = 23 ∨ t = 3 ∨ t = 9 → Tryz.prog.cellsOf t = 1 := by
    rintro t (rfl | rfl | rfl) <;> kernel_rfl
  match xs, hlen with
  | [y0, y1, y2, y3, y4, y5], _ =>
    have g0 := hg 0 _ rfl
    have g1 := hg 1 _ rfl
    have g2 := hg 2 _ rfl
    have g3 := hg 3 _ rfl
    have g4 := hg 4 _ rfl
    have g5 := hg 5 _ rfl
    simp [Value.cells, one] at g0 g1 g2 g3 g4 g5
    obtain ⟨zs, hs⟩ := ints_of_trod g0
    obtain ⟨zb, hb⟩ := ints_of_trod g1
    obtain ⟨zc, hc⟩ := ints_of_trod g2
    obtain ⟨n3, e3, _, _⟩ := DataW.trod_int Tryz.underlying3 g3
    obtain ⟨n4, e4, _, _⟩ := DataW.trod_int Tryz.underlying3 g4
    obtain ⟨s5, e5, _, l5⟩ := DataW.trod_string Tryz.underlying9 g5
    simp only [List.cons.injEq, and_true] at e3 e4 e5
    exact ⟨⟨zs, zb, zc, n3, n4, s5⟩, e3, e4, e5, c0, c1, c2, rfl, hs, hb, hc, l5⟩

set_option maxRecDepth 100000 in
theorem host_of_trod {fuel : Nat} {c0 c1 c2 c3 c4 : Value} {x : DataW H × List MemPlace} (hf : DataW.trod enc Tryz.prog w base (fun _ => true) held fuel 29 [c0, c1, c2, c3, c4] = some x) :
    ∃ D : Ht, c3 = .int .i64 D.c ∧ HostIn w (.agg #[c0, c1, c2, .int .i64 D.c, c4]) D := by
  obtain ⟨xs, n, _, hx, _, hlen, hg⟩ := DataW.trod_struct Tryz.underlying29 hf
  have one : ∀ t, t = 23 ∨ t = 3 ∨ t = 26 ∨ t = 27 → Tryz.prog.cellsOf t = 1 := by
    rintro t (rfl | rfl | rfl | rfl) <;> kernel_rfl
  match xs, hlen with
  | [y0, y1, y2, y3, y4], _ =>
    have g0 := hg 0 _ rfl
    have g1 := hg 1 _ rfl
    have g2 := hg 2 _ rfl
    have g3 := hg 3 _ rfl
    have g4 := hg 4 _ rfl
    simp [Value.cells, one] at g0 g1 g2 g3 g4
    obtain ⟨zg, hgr⟩ := bols_of_trod g0
    obtain ⟨zs, hs⟩ := ints_of_trod g1
    obtain ⟨zn, hn⟩ := ints_of_trod g2
    obtain ⟨n3, e3, _, _⟩ := DataW.trod_int Tryz.underlying3 g3
    have h4 : ∃ zd, Dds w c4 zd := by
      rcases open_slice Tryz.underlying27 g4 with ⟨hcs, _⟩ | ⟨a, len, cap, m, n, D, Pl, hcs, _⟩ <;>
        (simp only [List.cons.injEq, and_true] at hcs; subst hcs; exact dds_of_trod g4)
    obtain ⟨zd, hd⟩ := h4
    simp only [List.cons.injEq, and_true] at e3
    exact ⟨⟨zg, zs, zn, n3, zd⟩, e3, c0, c1, c2, c4, rfl, hgr, hs, hn, hd⟩

set_option maxRecDepth 100000 in
set_option maxHeartbeats 1000000 in
theorem machine_of_trod {fuel : Nat} {c0 c1 c2 c3 c4 c5 c6 c7 c8 c9 c10 c11 c12 c13 c14 c15 : Value} {x : DataW H × List MemPlace} (hf : DataW.trod enc Tryz.prog w base (fun _ => true) held fuel 32 [c0, c1, c2, c3, c4, c5, c6, c7, c8, c9, c10, c11, c12, c13, c14, c15] = some x) :
    ∃ D : Mc, MchL w (.agg #[c0, c1, c2, c3, c4, c5, c6, c7, c8, c9, c10, c11, c12, c13, c14, c15]) D := by
  obtain ⟨xs, n, _, hx, _, hlen, hg⟩ := DataW.trod_struct Tryz.underlying32 hf
  have one : ∀ t, t = 23 ∨ t = 3 ∨ t = 22 ∨ t = 30 → Tryz.prog.cellsOf t = 1 := by
    rintro t (rfl | rfl | rfl | rfl) <;> kernel_rfl
  have six : Tryz.prog.cellsOf 25 = 6 := by kernel_rfl
  have five : Tryz.prog.cellsOf 29 = 5 := by kernel_rfl
  match xs, hlen with
  | [y0, y1, y2, y3, y4, y5, y6], _ =>
    have g0 := hg 0 _ rfl
    have g1 := hg 1 _ rfl
    have g2 := hg 2 _ rfl
    have g3 := hg 3 _ rfl
    have g4 := hg 4 _ rfl
    have g5 := hg 5 _ rfl
    have g6 := hg 6 _ rfl
    simp [Value.cells, one, six, five] at g0 g1 g2 g3 g4 g5 g6
    have h0 : ∃ zw, WdsL w c0 zw := by
      rcases open_slice Tryz.underlying22 g0 with ⟨hcs, _⟩ | ⟨a, len, cap, m, n, D, Pl, hcs, _⟩ <;>
        (simp only [List.cons.injEq, and_true] at hcs; subst hcs; exact wdsL_of_trod g0)
    obtain ⟨zw, hw⟩ := h0
    obtain ⟨zk, hk⟩ := ints_of_trod g1
    obtain ⟨zd, e5, e6, e7, hd⟩ := data_of_trod g2
    obtain ⟨zh, e11, hh⟩ := host_of_trod g3
    have h4 : ∃ zc, Cls w c13 zc := by
      rcases open_slice Tryz.underlying30 g4 with ⟨hcs, _⟩ | ⟨a, len, cap, m, n, D, Pl, hcs, _⟩ <;>
        (simp only [List.cons.injEq, and_true] at hcs; subst hcs; exact cls_of_trod g4)
    obtain ⟨zc, hc⟩ := h4
    obtain ⟨n5, e14, _, _⟩ := DataW.trod_int Tryz.underlying3 g5
    obtain ⟨n6, e15, _, _⟩ := DataW.trod_int Tryz.underlying3 g6
    simp only [List.cons.injEq, and_true] at e14 e15
    subst e5 e6 e7 e11 e14 e15
    exact ⟨⟨zw, zk, zd, zh, zc, n5, n6⟩, c0, c1, c2, c3, c4, c8, c9, c10, c12, c13, rfl, hw, hk, hd, hh, hc⟩

set_option maxRecDepth 100000 in
set_option maxHeartbeats 1000000 in
theorem open_machine {r : Reach} {b0 : Nat} {v : Value} {d : DataW H} {p : List MemPlace} (hv : Value.okWide Tryz.prog w r b0 32 v) (h : DataW.Trod enc Tryz.prog w base (fun _ => true) held 32 v d p) :
    ∃ D : Mc, MchL w v D := by
  obtain ⟨cs, rfl, hsz⟩ := okWide_struct Tryz.underlying32 hv
  have hC : Tryz.prog.cellsOf 32 = 16 := by kernel_rfl
  rw [hC] at hsz
  obtain ⟨l⟩ := cs
  match l, hsz with
  | [c0, c1, c2, c3, c4, c5, c6, c7, c8, c9, c10, c11, c12, c13, c14, c15], _ =>
    obtain ⟨fuel, hf⟩ := h
    exact machine_of_trod hf

end

end Go.Proofs.YthnbaeamekolmaaGreatDoor
