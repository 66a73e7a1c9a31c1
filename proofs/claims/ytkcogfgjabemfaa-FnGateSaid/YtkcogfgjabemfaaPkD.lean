/- PkD: several of my texts, laid together: HcK, HcJ, HcN, HiB, HiH, GtA, GtB. -/
import Derived.Test.YtkcogfgjabemfaaPkB
import Derived.Test.YtkcogfgjabemfaaPkC
import Derived.Test.YtkcogfgjabemfaaHsC
import Derived.Test.YtkcogfgjabemfaaDatO
import Derived.Deep.DeepCutAuto
import Derived.BigRegion
import Derived.Test.YtkcogfgjabemfaaHsG
import Derived.Test.YtkcogfgjabemfaaOnl
import Derived.Test.YtkcogfgjabemfaaHsA
import Derived.Test.YtkcogfgjabemfaaHoS
import Derived.Test.YtkcogfgjabemfaaDrC
import Derived.Laws.Rows
import Derived.Laws.Tables
import Derived.Laws.CopyOwn
import Derived.Deep.WholeRow
namespace Go.Proofs.Ytkcogfgjabemfaa
open Go.RowKit
set_option linter.unusedVariables false
set_option linter.unusedSimpArgs false

theorem hDo_small {h : Ht} (q : HtFine h) (c : Nat) (a b : Int) : SmallH (hDo h c a b).1 := by
  obtain ⟨q1, q2, q3, q4, _⟩ := q
  unfold hDo
  repeat' split
  all_goals (unfold SmallH; simp; omega)

theorem dPut_small {d : Dt} (q : DtFine d) (k : Nat) (L : List Int) (hL : L.length ≤ 1) : SmallD (dPut d k L).1 := by
  obtain ⟨q1, q2, q3, _, _, _, _, _, _, q4⟩ := q
  unfold dPut
  split
  · unfold SmallD; simp; omega
  · unfold SmallD; simp; omega

theorem hCall_small {h : Ht} {d : Dt} (q : HtFine h) (p : DtFine d) (c : Nat) : SmallH (hCall h d c).1 ∧ SmallD (hCall h d c).2.1 := by
  have s1 := fineH_small q
  have s2 := fine_small p
  unfold hCall
  by_cases h1 : h.g.getD c false = false
  · rw [if_pos h1]; exact ⟨s1, s2⟩
  rw [if_neg h1]
  by_cases h2 : h.d.length = 40
  · rw [if_pos h2]; exact ⟨s1, s2⟩
  rw [if_neg h2]
  by_cases h3 : d.s.length < capTakes c
  · rw [if_pos h3]; exact ⟨s1, s2⟩
  rw [if_neg h3]
  by_cases h4 : c = 3 ∧ d.s.length = 32
  · rw [if_pos h4]; exact ⟨s1, s2⟩
  rw [if_neg h4]
  by_cases h5 : (hDo h c (tp d 1) (tp d 0)).2.2 ≠ 0
  · rw [if_pos h5]; exact ⟨s1, s2⟩
  rw [if_neg h5]
  by_cases h6 : c = 1
  · rw [if_pos h6]; exact ⟨hDo_small q _ _ _, dPut_small p _ _ (by simp)⟩
  rw [if_neg h6]; exact ⟨hDo_small q _ _ _, dPut_small p _ _ (by simp)⟩

set_option maxRecDepth 100000 in
set_option maxHeartbeats 1000000 in
theorem sHostCall_badHost (v x : Value) (h : Ht) (d : Dt) (c : Int) (w : World) (hv : HostIn w v h) (hx : DatC w x d) (t0 : hOK h = false) :
    Calls Try.prog 12 #[v, x, .int .i64 c] w (HcRes w (noHt, noDt, 0, 1)) := by
  have HH := Lib.hid hv
  obtain ⟨A1, k1, A2, k2, A3, k3, A4, k4, rfl⟩ := hostIn_form hv
  obtain ⟨B1, j1, B2, j2, B3, j3, rfl, _⟩ := datIn_form hx.1
  clear hv hx
  go_enter Try.func12, Try.ntmps12
  go_wp2_with fail
  refine (sHOK_any _ h _ (hostIn_below HH.out (below_alloc (below_alloc (below_alloc (below_alloc (Below.refl _ _) _) _) _) _))).mono ?_
  rintro e w1 ⟨rfl, hb⟩
  have B1 : Below w.heap.size w w1 := below_step (below_alloc (below_alloc (below_alloc (below_alloc (Below.refl _ _) _) _) _) _) hb
  have T1 := whole_b hb (whole_alloc (whole_third w _ _ _ _) _)
  have U1 := whole_b hb (whole_fourth w _ _ _ _ _)
  have z1 := whole_lt T1
  have z2 := whole_lt U1
  clear hb
  rw [t0]
  obtain ⟨r0, r1, r2, r3, r4⟩ := five_cells T1
  obtain ⟨s0, s1, s2, s3, s4, s5⟩ := six_cells U1
  have fr := whole_free T1
  have fs := whole_free U1
  go_wp2
  refine bodyPost_ret (v := .tuple #[.agg #[.slice none 0 0, .slice none 0 0, .slice none 0 0, .int .i64 0, .slice none 0 0], .agg #[.slice none 0 0, .slice none 0 0, .slice none 0 0, .int .i64 0, .int .i64 0, .string ⟨#[]⟩], .int .i64 0, .int .i64 1]) (by simp [results, Try.results12, go_sem, *]) rfl ?_
  refine hcres_none ?_
  repeat (first | with_reducible exact B1 | with_reducible refine below_put ?_ (by omega) _)

set_option maxRecDepth 100000 in
set_option maxHeartbeats 1000000 in
theorem sHostCall_badData (v x : Value) (h : Ht) (d : Dt) (c : Int) (w : World) (hv : HostIn w v h) (hx : DatC w x d) (t0 : hOK h = true) (t1 : dOK d = false) :
    Calls Try.prog 12 #[v, x, .int .i64 c] w (HcRes w (noHt, noDt, 0, 1)) := by
  have HH := Lib.hid hv
  have HC := Lib.hid hx
  have HX := Lib.hid hx.1
  obtain ⟨A1, k1, A2, k2, A3, k3, A4, k4, rfl⟩ := hostIn_form hv
  obtain ⟨B1, j1, B2, j2, B3, j3, rfl, _⟩ := datIn_form hx.1
  clear hv hx
  go_enter Try.func12, Try.ntmps12
  go_wp2_with fail
  refine (sHOK_any _ h _ (hostIn_below HH.out (below_alloc (below_alloc (below_alloc (below_alloc (Below.refl _ _) _) _) _) _))).mono ?_
  rintro e w1 ⟨rfl, hb⟩
  have B1 : Below w.heap.size w w1 := below_step (below_alloc (below_alloc (below_alloc (below_alloc (Below.refl _ _) _) _) _) _) hb
  have V1 := whole_b hb (whole_alloc (whole_alloc (whole_second w _ _ _) _) _)
  have T1 := whole_b hb (whole_alloc (whole_third w _ _ _ _) _)
  have U1 := whole_b hb (whole_fourth w _ _ _ _ _)
  have z0 := whole_lt V1
  clear hb
  rw [t0]
  obtain ⟨v0, v1, v2, v3, v4, v5⟩ := six_cells V1
  go_wp2_with fail
  refine (sOK_any _ d _ (datIn_below HX.out B1)).mono ?_
  rintro e w2 ⟨rfl, hb⟩
  have B2 : Below w.heap.size w w2 := below_step B1 hb
  have T2 := whole_b hb T1
  have U2 := whole_b hb U1
  have z1 := whole_lt T2
  have z2 := whole_lt U2
  clear hb v0 v1 v2 v3 v4 v5 V1 T1 U1
  rw [t1]
  obtain ⟨r0, r1, r2, r3, r4⟩ := five_cells T2
  obtain ⟨s0, s1, s2, s3, s4, s5⟩ := six_cells U2
  have fr := whole_free T2
  have fs := whole_free U2
  go_wp2
  refine bodyPost_ret (v := .tuple #[.agg #[.slice none 0 0, .slice none 0 0, .slice none 0 0, .int .i64 0, .slice none 0 0], .agg #[.slice none 0 0, .slice none 0 0, .slice none 0 0, .int .i64 0, .int .i64 0, .string ⟨#[]⟩], .int .i64 0, .int .i64 1]) (by simp [results, Try.results12, go_sem, *]) rfl ?_
  refine hcres_none ?_
  repeat (first | with_reducible exact B2 | with_reducible refine below_put ?_ (by omega) _)

set_option maxRecDepth 100000 in
set_option maxHeartbeats 1000000 in
theorem sHostCall_badCap (v x : Value) (h : Ht) (d : Dt) (c : Int) (w : World) (hv : HostIn w v h) (hx : DatC w x d) (t0 : hOK h = true) (t1 : dOK d = true) (t2 : inB c 0 3 = false) :
    Calls Try.prog 12 #[v, x, .int .i64 c] w (HcRes w (noHt, noDt, 0, 9)) := by
  have HH := Lib.hid hv
  have HC := Lib.hid hx
  have HX := Lib.hid hx.1
  obtain ⟨A1, k1, A2, k2, A3, k3, A4, k4, rfl⟩ := hostIn_form hv
  obtain ⟨B1, j1, B2, j2, B3, j3, rfl, _⟩ := datIn_form hx.1
  clear hv hx
  go_enter Try.func12, Try.ntmps12
  go_wp2_with fail
  refine (sHOK_any _ h _ (hostIn_below HH.out (below_alloc (below_alloc (below_alloc (below_alloc (Below.refl _ _) _) _) _) _))).mono ?_
  rintro e w1 ⟨rfl, hb⟩
  have B1 : Below w.heap.size w w1 := below_step (below_alloc (below_alloc (below_alloc (below_alloc (Below.refl _ _) _) _) _) _) hb
  have V1 := whole_b hb (whole_alloc (whole_alloc (whole_second w _ _ _) _) _)
  have T1 := whole_b hb (whole_alloc (whole_third w _ _ _ _) _)
  have U1 := whole_b hb (whole_fourth w _ _ _ _ _)
  have z0 := whole_lt V1
  clear hb
  rw [t0]
  obtain ⟨v0, v1, v2, v3, v4, v5⟩ := six_cells V1
  go_wp2_with fail
  refine (sOK_any _ d _ (datIn_below HX.out B1)).mono ?_
  rintro e w2 ⟨rfl, hb⟩
  have B2 : Below w.heap.size w w2 := below_step B1 hb
  have T2 := whole_b hb T1
  have U2 := whole_b hb U1
  have z1 := whole_lt T2
  have z2 := whole_lt U2
  clear hb v0 v1 v2 v3 v4 v5 V1 T1 U1
  rw [t1]
  obtain ⟨r0, r1, r2, r3, r4⟩ := five_cells T2
  obtain ⟨s0, s1, s2, s3, s4, s5⟩ := six_cells U2
  have fr := whole_free T2
  have fs := whole_free U2
  go_wp2_with (go_at_call 58; refine (sIn_any _ _ _ _).mono ?_; rintro e w' ⟨rfl, rfl⟩)
  refine bodyPost_ret (v := .tuple #[.agg #[.slice none 0 0, .slice none 0 0, .slice none 0 0, .int .i64 0, .slice none 0 0], .agg #[.slice none 0 0, .slice none 0 0, .slice none 0 0, .int .i64 0, .int .i64 0, .string ⟨#[]⟩], .int .i64 0, .int .i64 9]) (by simp [results, Try.results12, go_sem, *]) rfl ?_
  refine hcres_none ?_
  repeat (first | with_reducible exact B2 | with_reducible refine below_put ?_ (by omega) _)

theorem cells_elevenS {W : World} {g k : Nat} {T U : TypeId} {a0 a1 a2 a3 a4 b0 b1 b2 b3 b4 b5 : Value} (h : Whole W g T #[a0, a1, a2, a3, a4]) (q : Whole W k U #[b0, b1, b2, b3, b4, b5]) :
    (W.cell? ⟨g, 0, none⟩ = some a0 ∧ W.cell? ⟨g, 1, none⟩ = some a1 ∧ W.cell? ⟨g, 2, none⟩ = some a2 ∧ W.cell? ⟨g, 3, none⟩ = some a3 ∧ W.cell? ⟨g, 4, none⟩ = some a4) ∧ (W.cell? ⟨k, 0, none⟩ = some b0 ∧ W.cell? ⟨k, 1, none⟩ = some b1 ∧ W.cell? ⟨k, 2, none⟩ = some b2 ∧ W.cell? ⟨k, 3, none⟩ = some b3 ∧ W.cell? ⟨k, 4, none⟩ = some b4 ∧ W.cell? ⟨k, 5, none⟩ = some b5) :=
  ⟨⟨whole_cell h 0, whole_cell h 1, whole_cell h 2, whole_cell h 3, whole_cell h 4⟩, ⟨whole_cell q 0, whole_cell q 1, whole_cell q 2, whole_cell q 3, whole_cell q 4, whole_cell q 5⟩⟩

theorem hcres_put {w W6 Wf : World} {m T U n5 : Nat} {u y : Value} {r : Ht × Dt × Int} (h5 : HostT W6 w.heap.size u r.1) (k5 : ∀ k, Mine u k → k < n5) (l5 : ∀ k, Mine u k → m ≤ k) (h6 : DatOf W6 w.heap.size W6.heap.size y r.2.1) (k6 : ∀ k, Mine y k → n5 ≤ k) (hT : T < m) (hU : U < m) (hm : m ≤ n5) (wT : w.heap.size ≤ T) (wU : w.heap.size ≤ U) (hb : Below w.heap.size w W6)
    (ho : Only (fun k => k = T ∨ k = U) W6 Wf) : HcRes w (r.1, r.2.1, r.2.2, 0) (.returned (.tuple #[u, y, .int .i64 r.2.2, .int .i64 0])) Wf := by
  refine ⟨_, _, rfl, hostT_only h5 ho (fun k hk q => ?_), datOf_top (datOf_only h6 ho (fun k hk q => ?_)) ho.size, fun k hk hq => ?_, ?_⟩
  · have := l5 k hk; rcases q with rfl | rfl <;> omega
  · have := k6 k hk; rcases q with rfl | rfl <;> omega
  · have := k5 k hk; have := k6 k hq; omega
  · refine hb.trans (only_below ho hb.size (fun k q => ?_))
    rcases q with rfl | rfl <;> omega

theorem whole_only {S : Nat → Prop} {w w' : World} {g : Nat} {t : TypeId} {cs : Array Value} (h : Whole w g t cs) (hb : Only S w w') (hs : ¬ S g) : Whole w' g t cs := whole_keep h (hb.block g (whole_lt h) hs)

set_option maxRecDepth 100000 in
set_option maxHeartbeats 4000000 in
theorem sHostCall_good (v x : Value) (h : Ht) (d : Dt) (c : Nat) (w : World) (hv : HostIn w v h) (hx : DatC w x d) (t0 : hOK h = true) (t1 : dOK d = true) (t2 : inB (c : Int) 0 3 = true) :
    Calls Try.prog 12 #[v, x, .int .i64 (c : Int)] w (HcRes w ((hCall h d c).1, (hCall h d c).2.1, (hCall h d c).2.2, 0)) := by
  have HF := Lib.hid (hOK_fine t0)
  have DF := Lib.hid (dOK_fine t1)
  have hc4 : c < 4 := by unfold inB at t2; simp at t2; omega
  have HH := Lib.hid hv
  have HC := Lib.hid hx
  have HX := Lib.hid hx.1
  obtain ⟨A1, k1, A2, k2, A3, k3, A4, k4, rfl⟩ := hostIn_form hv
  obtain ⟨D1, j1, D2, j2, D3, j3, rfl, _⟩ := datIn_form hx.1
  clear hv hx
  go_enter Try.func12, Try.ntmps12
  go_wp2_with fail
  refine (sHOK_any _ h _ (hostIn_below HH.out (below_alloc (below_alloc (below_alloc (below_alloc (Below.refl _ _) _) _) _) _))).mono ?_
  rintro e w1 ⟨rfl, hb⟩
  have B1 : Below w.heap.size w w1 := below_step (below_alloc (below_alloc (below_alloc (below_alloc (Below.refl _ _) _) _) _) _) hb
  have Q1 := whole_b hb (whole_alloc (whole_alloc (whole_alloc (whole_new w _ _) _) _) _)
  have V1 := whole_b hb (whole_alloc (whole_alloc (whole_second w _ _ _) _) _)
  have T1 := whole_b hb (whole_alloc (whole_third w _ _ _ _) _)
  have U1 := whole_b hb (whole_fourth w _ _ _ _ _)
  have z0 := whole_lt V1
  clear hb
  rw [t0]
  obtain ⟨v0, v1, v2, v3, v4, v5⟩ := six_cells V1
  go_wp2_with fail
  refine (sOK_any _ d _ (datIn_below HX.out B1)).mono ?_
  rintro e w2 ⟨rfl, hb⟩
  have B2 : Below w.heap.size w w2 := below_step B1 hb
  have T2 := whole_b hb T1
  have U2 := whole_b hb U1
  have z1 := whole_lt T2
  have z2 := whole_lt U2
  have Q2 := whole_b hb Q1
  have V2 := whole_b hb V1
  clear hb v0 v1 v2 v3 v4 v5 V1 T1 U1 Q1
  rw [t1]
  obtain ⟨r0, r1, r2, r3, r4⟩ := five_cells T2
  obtain ⟨s0, s1, s2, s3, s4, s5⟩ := six_cells U2
  have fr := whole_free T2
  have fs := whole_free U2
  have PC := Lib.hid (sCall_any _ _ h d c w2 (hostIn_below HH.out B2) (datC_below HC.out B2) HF.out DF.out hc4)
  obtain ⟨sm1, sm2⟩ := hCall_small HF.out DF.out c
  have S1 := Lib.hid sm1
  have S2 := Lib.hid sm2
  obtain ⟨⟨g0, g1, g2, g3, g4⟩, ⟨p0, p1, p2, p3, p4, p5⟩⟩ := cells_elevenS Q2 V2
  have zq := whole_lt Q2
  have zv := whole_lt V2
  generalize hCall h d c = pp at *
  clear sm1 sm2 r0 r1 r2 r3 r4 s0 s1 s2 s3 s4 s5 fr fs
  go_wp2_with (go_at_call 58; refine (sIn_any _ _ _ _).mono ?_; rintro e w' ⟨rfl, rfl⟩; rw [t2])
  refine PC.out.mono ?_
  rintro e w3 ⟨u, y, rfl, hu, hy, hb⟩
  have HU := Lib.hid hu
  have HY := Lib.hid hy.1
  obtain ⟨X1, m1, X2, m2, X3, m3, X4, m4, rfl⟩ := hostIn_form hu
  obtain ⟨Y1, l1, Y2, l2, Y3, l3, rfl⟩ := datIn_form hy.1
  have B3 : Below w.heap.size w w3 := below_step B2 hb
  have T3 := whole_b hb T2
  have U3 := whole_b hb U2
  have B23 := hb.size
  have ZT := whole_lt T3
  have ZU := whole_lt U3
  clear hu hy hb g0 g1 g2 g3 g4 p0 p1 p2 p3 p4 p5 T2 U2 Q2 V2 zq zv
  have B4x : Below w.heap.size w ((w3.alloc (.cells #[.slice X1 pp.1.g.length m1, .slice X2 pp.1.s.length m2, .slice X3 pp.1.n.length m3, .int .i64 pp.1.c, .slice X4 pp.1.d.length m4] 27)).alloc (.cells #[.slice Y1 pp.2.1.s.length l1, .slice Y2 pp.2.1.b.length l2, .slice Y3 pp.2.1.c.length l3, .int .i64 pp.2.1.h, .int .i64 pp.2.1.n, .string pp.2.1.o] 30)) := below_alloc (below_alloc B3 _) _
  have KB := Lib.hid B4x
  have P4 := whole_alloc (whole_new w3 27 #[.slice X1 pp.1.g.length m1, .slice X2 pp.1.s.length m2, .slice X3 pp.1.n.length m3, .int .i64 pp.1.c, .slice X4 pp.1.d.length m4]) (.cells #[.slice Y1 pp.2.1.s.length l1, .slice Y2 pp.2.1.b.length l2, .slice Y3 pp.2.1.c.length l3, .int .i64 pp.2.1.h, .int .i64 pp.2.1.n, .string pp.2.1.o] 30)
  have R4 : Whole ((w3.alloc (.cells #[.slice X1 pp.1.g.length m1, .slice X2 pp.1.s.length m2, .slice X3 pp.1.n.length m3, .int .i64 pp.1.c, .slice X4 pp.1.d.length m4] 27)).alloc (.cells #[.slice Y1 pp.2.1.s.length l1, .slice Y2 pp.2.1.b.length l2, .slice Y3 pp.2.1.c.length l3, .int .i64 pp.2.1.h, .int .i64 pp.2.1.n, .string pp.2.1.o] 30)) (w3.heap.size + 1) 30 #[.slice Y1 pp.2.1.s.length l1, .slice Y2 pp.2.1.b.length l2, .slice Y3 pp.2.1.c.length l3, .int .i64 pp.2.1.h, .int .i64 pp.2.1.n, .string pp.2.1.o] := whole_second w3 _ _ _
  have T4 := whole_alloc (whole_alloc T3 (.cells #[.slice X1 pp.1.g.length m1, .slice X2 pp.1.s.length m2, .slice X3 pp.1.n.length m3, .int .i64 pp.1.c, .slice X4 pp.1.d.length m4] 27)) (.cells #[.slice Y1 pp.2.1.s.length l1, .slice Y2 pp.2.1.b.length l2, .slice Y3 pp.2.1.c.length l3, .int .i64 pp.2.1.h, .int .i64 pp.2.1.n, .string pp.2.1.o] 30)
  have U4 := whole_alloc (whole_alloc U3 (.cells #[.slice X1 pp.1.g.length m1, .slice X2 pp.1.s.length m2, .slice X3 pp.1.n.length m3, .int .i64 pp.1.c, .slice X4 pp.1.d.length m4] 27)) (.cells #[.slice Y1 pp.2.1.s.length l1, .slice Y2 pp.2.1.b.length l2, .slice Y3 pp.2.1.c.length l3, .int .i64 pp.2.1.h, .int .i64 pp.2.1.n, .string pp.2.1.o] 30)
  have HU4 : HostIn ((w3.alloc (.cells #[.slice X1 pp.1.g.length m1, .slice X2 pp.1.s.length m2, .slice X3 pp.1.n.length m3, .int .i64 pp.1.c, .slice X4 pp.1.d.length m4] 27)).alloc (.cells #[.slice Y1 pp.2.1.s.length l1, .slice Y2 pp.2.1.b.length l2, .slice Y3 pp.2.1.c.length l3, .int .i64 pp.2.1.h, .int .i64 pp.2.1.n, .string pp.2.1.o] 30)) _ pp.1 := hostIn_below HU.out (below_alloc (below_alloc (Below.refl _ _) _) _)
  have HY4 : DatIn ((w3.alloc (.cells #[.slice X1 pp.1.g.length m1, .slice X2 pp.1.s.length m2, .slice X3 pp.1.n.length m3, .int .i64 pp.1.c, .slice X4 pp.1.d.length m4] 27)).alloc (.cells #[.slice Y1 pp.2.1.s.length l1, .slice Y2 pp.2.1.b.length l2, .slice Y3 pp.2.1.c.length l3, .int .i64 pp.2.1.h, .int .i64 pp.2.1.n, .string pp.2.1.o] 30)) _ pp.2.1 := datIn_below HY.out (below_alloc (below_alloc (Below.refl _ _) _) _)
  have JU := Lib.hid HU4
  have JY := Lib.hid HY4
  have zp := whole_lt P4
  clear T3 U3 HU4 HY4 B4x
  go_wp2
  have zs : w3.heap.size + 1 + 1 = ((w3.alloc (.cells #[.slice X1 pp.1.g.length m1, .slice X2 pp.1.s.length m2, .slice X3 pp.1.n.length m3, .int .i64 pp.1.c, .slice X4 pp.1.d.length m4] 27)).alloc (.cells #[.slice Y1 pp.2.1.s.length l1, .slice Y2 pp.2.1.b.length l2, .slice Y3 pp.2.1.c.length l3, .int .i64 pp.2.1.h, .int .i64 pp.2.1.n, .string pp.2.1.o] 30)).heap.size := by rw [size_two]
  generalize hW : World.alloc _ _ = W4 at *
  have ZS : w3.heap.size + 1 < W4.heap.size := by omega
  have ZB : w2.heap.size ≤ w3.heap.size := B23
  have zt := whole_lt T4
  have zu := whole_lt U4
  clear hW zs zp
  have HP := Lib.hid P4
  have HRR := Lib.hid R4
  have HT := Lib.hid T4
  have HUU := Lib.hid U4
  obtain ⟨⟨g0, g1, g2, g3, g4⟩, ⟨p0, p1, p2, p3, p4, p5⟩⟩ := cells_elevenS (whole_below P4 (Below.refl _ _).drew) (whole_below R4 (Below.refl _ _).drew)
  clear P4 R4 T4 U4 zt zu
  go_region_held3 (fun W => (W.cell? ⟨w3.heap.size, 0, none⟩ = some (.slice X1 pp.1.g.length m1) ∧ W.cell? ⟨w3.heap.size, 1, none⟩ = some (.slice X2 pp.1.s.length m2) ∧ W.cell? ⟨w3.heap.size, 2, none⟩ = some (.slice X3 pp.1.n.length m3) ∧ W.cell? ⟨w3.heap.size, 3, none⟩ = some (.int .i64 pp.1.c) ∧ W.cell? ⟨w3.heap.size, 4, none⟩ = some (.slice X4 pp.1.d.length m4)) ∧ (W.cell? ⟨w3.heap.size + 1, 0, none⟩ = some (.slice Y1 pp.2.1.s.length l1) ∧ W.cell? ⟨w3.heap.size + 1, 1, none⟩ = some (.slice Y2 pp.2.1.b.length l2) ∧ W.cell? ⟨w3.heap.size + 1, 2, none⟩ = some (.slice Y3 pp.2.1.c.length l3) ∧ W.cell? ⟨w3.heap.size + 1, 3, none⟩ = some (.int .i64 pp.2.1.h) ∧ W.cell? ⟨w3.heap.size + 1, 4, none⟩ = some (.int .i64 pp.2.1.n) ∧ W.cell? ⟨w3.heap.size + 1, 5, none⟩ = some (.string pp.2.1.o))) (first | with_reducible exact ⟨⟨b0, b1, b2, b3, b4⟩, ⟨d0, d1, d2, d3, d4, d5⟩⟩ | with_reducible exact ⟨⟨a0, a1, a2, a3, a4⟩, ⟨c0, c1, c2, c3, c4, c5⟩⟩ | with_reducible exact ⟨⟨g0, g1, g2, g3, g4⟩, ⟨p0, p1, p2, p3, p4, p5⟩⟩ | exact cells_elevenS (whole_only (S := fun k => k = w.heap.size + 1 + 1 ∨ k = w.heap.size + 1 + 1 + 1) HP6.out (by repeat (first | with_reducible exact only_refl _ _ | with_reducible refine only_set ?_ (.inl (by simp)) _ | with_reducible refine only_drew ?_)) (by omega)) (whole_only (S := fun k => k = w.heap.size + 1 + 1 ∨ k = w.heap.size + 1 + 1 + 1) HR6.out (by repeat (first | with_reducible exact only_refl _ _ | with_reducible refine only_set ?_ (.inl (by simp)) _ | with_reducible refine only_drew ?_)) (by omega)))
    (first
    | (go_at_call 60
       refine (sHOwn_any _ pp.1 _ (hostIn_below JU.out (Below.refl _ _).drew) S1.out).mono ?_
       rintro e w5 ⟨u5, rfl, ho5, hb5⟩
       have zb5 : W4.heap.size ≤ w5.heap.size := hb5.size
       have L5 := Lib.hid ((Below.refl W4.heap.size W4).drew.trans hb5)
       have HO5 := Lib.hid ho5
       obtain ⟨Z1, n1, Z2, n2, Z3, n3, Z4, n4, rfl⟩ := hostIn_form (hostOf_in ho5)
       have HP5 := Lib.hid (whole_below HP.out L5.out)
       have HR5 := Lib.hid (whole_below HRR.out L5.out)
       have HT5 := Lib.hid (whole_below HT.out L5.out)
       have HU5 := Lib.hid (whole_below HUU.out L5.out)
       obtain ⟨⟨a0, a1, a2, a3, a4⟩, ⟨c0, c1, c2, c3, c4, c5⟩⟩ := cells_elevenS HP5.out HR5.out
       have JY5 := Lib.hid (datIn_below JY.out L5.out)
       clear ho5 hb5)
    | (go_at_call 61
       refine (sOwn_any _ pp.2.1 _ JY5.out S2.out).mono ?_
       rintro e w6 ⟨u6, rfl, ho6, hb6⟩
       have zb6 : w5.heap.size ≤ w6.heap.size := hb6.size
       have L6 := Lib.hid hb6
       have HO6 := Lib.hid ho6
       obtain ⟨V1, q1, V2, q2, V3, q3, rfl⟩ := datIn_form (datOf_in ho6)
       have HP6 := Lib.hid (whole_below HP5.out hb6)
       have HR6 := Lib.hid (whole_below HR5.out hb6)
       have HT6 := Lib.hid (whole_below HT5.out hb6)
       have HU6 := Lib.hid (whole_below HU5.out hb6)
       obtain ⟨⟨b0, b1, b2, b3, b4⟩, ⟨d0, d1, d2, d3, d4, d5⟩⟩ := cells_elevenS HP6.out HR6.out
       obtain ⟨r0, r1, r2, r3, r4⟩ := five_cells HT6.out
       obtain ⟨s0, s1, s2, s3, s4, s5⟩ := six_cells HU6.out
       have fr := whole_free HT6.out
       have fs := whole_free HU6.out
       have zr := whole_lt HT6.out
       have zs := whole_lt HU6.out
       clear ho6 hb6))
  all_goals
    go_wp2
    refine bodyPost_ret (v := .tuple #[.agg #[.slice Z1 pp.1.g.length n1, .slice Z2 pp.1.s.length n2, .slice Z3 pp.1.n.length n3, .int .i64 pp.1.c, .slice Z4 pp.1.d.length n4], .agg #[.slice V1 pp.2.1.s.length q1, .slice V2 pp.2.1.b.length q2, .slice V3 pp.2.1.c.length q3, .int .i64 pp.2.1.h, .int .i64 pp.2.1.n, .string pp.2.1.o], .int .i64 pp.2.2, .int .i64 0]) (by simp [results, Try.results12, go_sem, *]) rfl ?_
    have zw : w.heap.size ≤ W4.heap.size := by omega
    refine hcres_put (T := w.heap.size + 1 + 1) (U := w.heap.size + 1 + 1 + 1) (m := W4.heap.size) (n5 := w5.heap.size) (hostT_below (hostT_base (hostT_of HO5.out) zw) L6.out) (fun k hk => (hostOf_mine HO5.out hk).2) (fun k hk => (hostOf_mine HO5.out hk).1) (datOf_base HO6.out (Nat.le_trans zw zb5)) (fun k hk => (datOf_mine HO6.out hk).1) (by omega) (by omega) (by omega) (by omega) (by omega) (below_step KB.out (L5.out.trans (L6.out.mono zb5))) ?_
    repeat (first | with_reducible exact only_refl _ _ | with_reducible refine only_set ?_ (.inl (by simp)) _ | with_reducible refine only_drew ?_)

end Go.Proofs.Ytkcogfgjabemfaa

namespace Go.Proofs.Ytkcogfgjabemfaa
open Go.RowKit
set_option linter.unusedVariables false
set_option linter.unusedSimpArgs false

/-- The two copies in boxes of their own. -/
def HcCut (w2 : World) (h : Ht) (d : Dt) (s10 s11 : Value) (wx : World) : Prop :=
  ∃ G E vh vd, s10 = .pointer (some ⟨G, 0, none⟩) ∧ s11 = .pointer (some ⟨E, 0, none⟩) ∧ Pair wx w2.heap.size G E vh vd h d ∧ (∀ x y z q, vh = .agg #[x, y, z, .int .i64 h.c, q] → Row wx w2.heap.size z h.n) ∧ Below w2.heap.size w2 wx

theorem own_type {w : World} {base : Nat} {t u : TypeId} {n k g : Nat} {v : Value} {cs : List Value} {ds : Array Value} (h : w.ownsRow base t k v n cs) (hw : w.heap[g]? = some (.cells ds u (0, 0))) (ht : t ≠ u) : v.ownBlock ≠ some g := by
  rcases h.2 with ⟨rfl, _⟩ | ⟨g', cap, cur, rfl, _, hh, _⟩
  · simp [Value.ownBlock]
  · intro he
    have e : g' = g := by simpa [Value.ownBlock] using he
    subst e
    rw [hh] at hw
    injection hw with hw
    injection hw with _ hq
    exact ht hq

theorem host_off {w : World} {lo hi g : Nat} {v : Value} {h : Ht} {u : TypeId} {ds : Array Value} (H : HostOf w lo hi v h) (hw : Whole w g u ds) (h1 : (3 : TypeId) ≠ u) (h2 : (4 : TypeId) ≠ u) (h3 : (37 : TypeId) ≠ u) : ∀ k, Mine v k → k ≠ g := by
  rintro k hk rfl
  obtain ⟨x, y, z, q, rfl, r1, r2, r3, r4, _⟩ := H
  obtain ⟨a, ha, e⟩ := mine_agg.1 hk
  simp only [List.mem_cons, List.not_mem_nil, or_false] at ha
  rcases ha with rfl | rfl | rfl | rfl | rfl
  · exact own_type r1 hw h2 e
  · exact own_type r2 hw h1 e
  · exact own_type r3 hw h1 e
  · simp [Value.ownBlock] at e
  · exact own_type r4 hw h3 e

theorem data_off {w : World} {lo hi g : Nat} {v : Value} {d : Dt} {u : TypeId} {ds : Array Value} (H : DatOf w lo hi v d) (hw : Whole w g u ds) (h1 : (3 : TypeId) ≠ u) : ∀ k, Mine v k → k ≠ g := by
  rintro k hk rfl
  obtain ⟨x, y, z, rfl, r1, r2, r3, _⟩ := H
  obtain ⟨a, ha, e⟩ := mine_agg.1 hk
  simp only [List.mem_cons, List.not_mem_nil, or_false] at ha
  rcases ha with rfl | rfl | rfl | rfl | rfl | rfl
  · exact own_type r1 hw h1 e
  · exact own_type r2 hw h1 e
  · exact own_type r3 hw h1 e
  · simp [Value.ownBlock] at e
  · simp [Value.ownBlock] at e
  · simp [Value.ownBlock] at e

/-- A block of another type than the rows'. -/
def Other (w : World) (k : Nat) : Prop := ∃ T cs, Whole w k T cs ∧ (3 : TypeId) ≠ T ∧ (4 : TypeId) ≠ T ∧ (37 : TypeId) ≠ T

theorem oth_host {w : World} {k : Nat} {cs : Array Value} (h : Whole w k 27 cs) : Other w k := ⟨_, _, h, by decide, by decide, by decide⟩

theorem oth_data {w : World} {k : Nat} {cs : Array Value} (h : Whole w k 30 cs) : Other w k := ⟨_, _, h, by decide, by decide, by decide⟩

theorem whole5 {W : World} {G : Nat} {a0 a1 a2 a3 a4 : Value} (h : Whole W G 27 #[.slice none 0 0, .slice none 0 0, .slice none 0 0, .int .i64 0, .slice none 0 0]) : Whole (((((W.setCell ⟨G, 0, none⟩ a0).setCell ⟨G, 1, none⟩ a1).setCell ⟨G, 2, none⟩ a2).setCell ⟨G, 3, none⟩ a3).setCell ⟨G, 4, none⟩ a4) G 27 #[a0, a1, a2, a3, a4] :=
  whole_set (whole_set (whole_set (whole_set (whole_set h 0 a0) 1 a1) 2 a2) 3 a3) 4 a4

theorem skip5 {W : World} {G K : Nat} {T : TypeId} {cs : Array Value} {a0 a1 a2 a3 a4 : Value} (h : Whole W K T cs) (ne : K ≠ G) : Whole (((((W.setCell ⟨G, 0, none⟩ a0).setCell ⟨G, 1, none⟩ a1).setCell ⟨G, 2, none⟩ a2).setCell ⟨G, 3, none⟩ a3).setCell ⟨G, 4, none⟩ a4) K T cs :=
  whole_far (whole_far (whole_far (whole_far (whole_far h (p := ⟨G, 0, none⟩) ne a0) (p := ⟨G, 1, none⟩) ne a1) (p := ⟨G, 2, none⟩) ne a2) (p := ⟨G, 3, none⟩) ne a3) (p := ⟨G, 4, none⟩) ne a4

theorem only5 {S : Nat → Prop} {a W : World} {G : Nat} {a0 a1 a2 a3 a4 : Value} (h : Only S a W) (hg : S G ∨ a.heap.size ≤ G) : Only S a (((((W.setCell ⟨G, 0, none⟩ a0).setCell ⟨G, 1, none⟩ a1).setCell ⟨G, 2, none⟩ a2).setCell ⟨G, 3, none⟩ a3).setCell ⟨G, 4, none⟩ a4) :=
  only_set (only_set (only_set (only_set (only_set h hg a0) hg a1) hg a2) hg a3) hg a4

theorem bput5 {lo : Nat} {a W : World} {G : Nat} {a0 a1 a2 a3 a4 : Value} (h : Below lo a W) (hg : lo ≤ G) : Below lo a (((((W.setCell ⟨G, 0, none⟩ a0).setCell ⟨G, 1, none⟩ a1).setCell ⟨G, 2, none⟩ a2).setCell ⟨G, 3, none⟩ a3).setCell ⟨G, 4, none⟩ a4) :=
  below_put (below_put (below_put (below_put (below_put h hg a0) hg a1) hg a2) hg a3) hg a4

theorem whole6 {W : World} {G : Nat} {a0 a1 a2 a3 a4 a5 : Value} (h : Whole W G 30 #[.slice none 0 0, .slice none 0 0, .slice none 0 0, .int .i64 0, .int .i64 0, .string ⟨#[]⟩]) : Whole ((((((W.setCell ⟨G, 0, none⟩ a0).setCell ⟨G, 1, none⟩ a1).setCell ⟨G, 2, none⟩ a2).setCell ⟨G, 3, none⟩ a3).setCell ⟨G, 4, none⟩ a4).setCell ⟨G, 5, none⟩ a5) G 30 #[a0, a1, a2, a3, a4, a5] :=
  whole_set (whole_set (whole_set (whole_set (whole_set (whole_set h 0 a0) 1 a1) 2 a2) 3 a3) 4 a4) 5 a5

theorem skip6 {W : World} {G K : Nat} {T : TypeId} {cs : Array Value} {a0 a1 a2 a3 a4 a5 : Value} (h : Whole W K T cs) (ne : K ≠ G) : Whole ((((((W.setCell ⟨G, 0, none⟩ a0).setCell ⟨G, 1, none⟩ a1).setCell ⟨G, 2, none⟩ a2).setCell ⟨G, 3, none⟩ a3).setCell ⟨G, 4, none⟩ a4).setCell ⟨G, 5, none⟩ a5) K T cs :=
  whole_far (whole_far (whole_far (whole_far (whole_far (whole_far h (p := ⟨G, 0, none⟩) ne a0) (p := ⟨G, 1, none⟩) ne a1) (p := ⟨G, 2, none⟩) ne a2) (p := ⟨G, 3, none⟩) ne a3) (p := ⟨G, 4, none⟩) ne a4) (p := ⟨G, 5, none⟩) ne a5

theorem only6 {S : Nat → Prop} {a W : World} {G : Nat} {a0 a1 a2 a3 a4 a5 : Value} (h : Only S a W) (hg : S G ∨ a.heap.size ≤ G) : Only S a ((((((W.setCell ⟨G, 0, none⟩ a0).setCell ⟨G, 1, none⟩ a1).setCell ⟨G, 2, none⟩ a2).setCell ⟨G, 3, none⟩ a3).setCell ⟨G, 4, none⟩ a4).setCell ⟨G, 5, none⟩ a5) :=
  only_set (only_set (only_set (only_set (only_set (only_set h hg a0) hg a1) hg a2) hg a3) hg a4) hg a5

theorem bput6 {lo : Nat} {a W : World} {G : Nat} {a0 a1 a2 a3 a4 a5 : Value} (h : Below lo a W) (hg : lo ≤ G) : Below lo a ((((((W.setCell ⟨G, 0, none⟩ a0).setCell ⟨G, 1, none⟩ a1).setCell ⟨G, 2, none⟩ a2).setCell ⟨G, 3, none⟩ a3).setCell ⟨G, 4, none⟩ a4).setCell ⟨G, 5, none⟩ a5) :=
  below_put (below_put (below_put (below_put (below_put (below_put h hg a0) hg a1) hg a2) hg a3) hg a4) hg a5

theorem whole_newH {w : World} {g : Nat} {t : TypeId} {cs : Array Value} (hg : g = w.heap.size) : Whole (w.alloc (.cells cs t)) g t cs := by
  subst hg
  exact whole_new w t cs

theorem size5 {W : World} {G : Nat} {a0 a1 a2 a3 a4 : Value} : (((((W.setCell ⟨G, 0, none⟩ a0).setCell ⟨G, 1, none⟩ a1).setCell ⟨G, 2, none⟩ a2).setCell ⟨G, 3, none⟩ a3).setCell ⟨G, 4, none⟩ a4).heap.size = W.heap.size := by simp [World.setCell]

theorem size6 {W : World} {G : Nat} {a0 a1 a2 a3 a4 a5 : Value} : ((((((W.setCell ⟨G, 0, none⟩ a0).setCell ⟨G, 1, none⟩ a1).setCell ⟨G, 2, none⟩ a2).setCell ⟨G, 3, none⟩ a3).setCell ⟨G, 4, none⟩ a4).setCell ⟨G, 5, none⟩ a5).heap.size = W.heap.size := by simp [World.setCell]

theorem hc_leaf {w2 W4 W : World} {G E m : Nat} {h : Ht} {d : Dt} {a0 a1 a2 a4 b0 b1 b2 : Value} (hG : Whole W G 27 #[a0, a1, a2, .int .i64 h.c, a4]) (hE : Whole W E 30 #[b0, b1, b2, .int .i64 d.h, .int .i64 d.n, .string d.o])
    (h3' : HostOf W4 w2.heap.size m (.agg #[a0, a1, a2, .int .i64 h.c, a4]) h) (h4' : DatOf W4 m W4.heap.size (.agg #[b0, b1, b2, .int .i64 d.h, .int .i64 d.n, .string d.o]) d) (ON : Only (Other W4) W4 W) (hm : w2.heap.size ≤ m) (lG : w2.heap.size ≤ G) (lE : w2.heap.size ≤ E) (hB : Below w2.heap.size w2 W) :
    HcCut w2 h d (.pointer (some ⟨G, 0, none⟩)) (.pointer (some ⟨E, 0, none⟩)) W := by
  have h3 := hostOf_only h3' ON (fun g hg q => by obtain ⟨T, cs, hw, q1, q2, q3⟩ := q; exact host_off h3' hw q1 q2 q3 g hg rfl)
  have h4 := datOf_only h4' ON (fun g hg q => by obtain ⟨T, cs, hw, q1, q2, q3⟩ := q; exact data_off h4' hw q1 g hg rfl)
  have ne : G ≠ E := by
    rintro rfl
    have h1 := hG
    have h2 := hE
    unfold Whole at h1 h2
    rw [h1] at h2
    injection h2 with h2
    injection h2 with _ hq
    exact absurd hq (by decide)
  have oG := host_off h3 hG (by decide) (by decide) (by decide)
  have oE := host_off h3 hE (by decide) (by decide) (by decide)
  have pG := data_off h4 hG (by decide)
  have pE := data_off h4 hE (by decide)
  refine ⟨G, E, _, _, rfl, rfl, ⟨⟨⟨_, _, _, _, rfl, hG⟩, hostT_of h3, oG⟩, ⟨_, _, _, rfl, hE⟩, datOf_top (datOf_base h4 hm) ON.size, ?_, pE, lG, lE⟩, ?_, hB⟩
  · rintro k (rfl | hk) hq
    · rcases hq with q | q
      · exact ne q
      · exact pG _ q rfl
    · rcases hq with rfl | q
      · exact oE _ hk rfl
      · have := (hostOf_mine h3 hk).2
        have := (datOf_mine h4 q).1
        omega
  · intro x y z q e
    obtain ⟨x', y', z', q', e', _, _, hz, _⟩ := h3
    rw [e] at e'
    simp only [Value.agg.injEq, Array.mk.injEq, List.cons.injEq, and_true, true_and] at e'
    obtain ⟨_, _, rfl, _⟩ := e'
    exact hz

theorem hcres_put2 {w W6 Wf : World} {T U lo : Nat} {u y : Value} {r : Ht × Dt × Int} (h5 : HostT W6 lo u r.1) (h6 : DatOf W6 lo W6.heap.size y r.2.1) (hd : ∀ k, Mine u k → ¬ Mine y k) (hT : T < lo) (hU : U < lo) (hl : w.heap.size ≤ lo) (wT : w.heap.size ≤ T) (wU : w.heap.size ≤ U) (hb : Below w.heap.size w W6)
    (ho : Only (fun k => k = T ∨ k = U) W6 Wf) : HcRes w (r.1, r.2.1, r.2.2, 0) (.returned (.tuple #[u, y, .int .i64 r.2.2, .int .i64 0])) Wf := by
  refine ⟨_, _, rfl, hostT_base (hostT_only h5 ho (fun k hk q => ?_)) hl, datOf_top (datOf_base (datOf_only h6 ho (fun k hk q => ?_)) hl) ho.size, hd, ?_⟩
  · have := (hostT_mine h5 hk).1; rcases q with rfl | rfl <;> omega
  · have := (datOf_mine h6 hk).1; rcases q with rfl | rfl <;> omega
  · refine hb.trans (only_below ho hb.size (fun k q => ?_))
    rcases q with rfl | rfl <;> omega

set_option maxRecDepth 100000 in
set_option maxHeartbeats 16000000 in
theorem iHostCall_good (v x : Value) (h : Ht) (d : Dt) (c : Nat) (w : World) (hv : HostIn w v h) (hx : DatIn w x d) (t0 : hOK h = true) (t1 : dOK d = true) (t2 : inB (c : Int) 0 3 = true) :
    Calls Try.prog 11 #[v, x, .int .i64 (c : Int)] w (HcRes w ((hCall h d c).1, (hCall h d c).2.1, (hCall h d c).2.2, 0)) := by
  have SH := Lib.hid (fineH_small (hOK_fine t0))
  have SD := Lib.hid (fine_small (dOK_fine t1))
  have HF := Lib.hid (hOK_fine t0)
  have DF := Lib.hid (dOK_fine t1)
  have hc4 : c < 4 := by unfold inB at t2; simp at t2; omega
  have HH := Lib.hid hv
  have HX := Lib.hid hx
  obtain ⟨A1, k1, A2, k2, A3, k3, A4, k4, rfl⟩ := hostIn_form hv
  obtain ⟨D1, j1, D2, j2, D3, j3, rfl, _⟩ := datIn_form hx
  clear hv hx
  go_enter Try.func11, Try.ntmps11
  go_wp2_with fail
  refine (iHOK_any _ h _ (hostIn_below HH.out (below_alloc (below_alloc (below_alloc (below_alloc (Below.refl _ _) _) _) _) _))).mono ?_
  rintro e w1 ⟨rfl, hb⟩
  have B1 : Below w.heap.size w w1 := below_step (below_alloc (below_alloc (below_alloc (below_alloc (Below.refl _ _) _) _) _) _) hb
  have Q1 := whole_b hb (whole_alloc (whole_alloc (whole_alloc (whole_new w _ _) _) _) _)
  have V1 := whole_b hb (whole_alloc (whole_alloc (whole_second w _ _ _) _) _)
  have T1 := whole_b hb (whole_alloc (whole_third w _ _ _ _) _)
  have U1 := whole_b hb (whole_fourth w _ _ _ _ _)
  have z0 := whole_lt V1
  clear hb
  rw [t0]
  obtain ⟨v0, v1, v2, v3, v4, v5⟩ := six_cells V1
  go_wp2_with fail
  refine (dataOK_any _ d _ (datIn_below HX.out B1)).mono ?_
  rintro e w2 ⟨rfl, hb⟩
  have B2 : Below w.heap.size w w2 := below_step B1 hb
  have T2 := whole_b hb T1
  have U2 := whole_b hb U1
  have z1 := whole_lt T2
  have z2 := whole_lt U2
  have Q2 := whole_b hb Q1
  have V2 := whole_b hb V1
  clear hb v0 v1 v2 v3 v4 v5 V1 T1 U1 Q1
  rw [t1]
  obtain ⟨r0, r1, r2, r3, r4⟩ := five_cells T2
  obtain ⟨s0, s1, s2, s3, s4, s5⟩ := six_cells U2
  have fr := whole_free T2
  have fs := whole_free U2
  go_wp2_with (go_at_call 52; refine (isCap_any _ _).mono ?_; rintro e w' ⟨rfl, rfl⟩)
  have HIN : Hid (∀ W, Below w2.heap.size w2 W → HostIn W _ h) := Lib.hid fun W hb => hostIn_below HH.out (below_step B2 hb)
  have DIN : Hid (∀ W, Below w2.heap.size w2 W → DatIn W _ d) := Lib.hid fun W hb => datIn_below HX.out (below_step B2 hb)
  have KQ := Lib.hid Q2
  have KV := Lib.hid V2
  have zq := whole_lt Q2
  have zv := whole_lt V2
  have KT := Lib.hid T2
  have KU := Lib.hid U2
  have KB := Lib.hid B2
  obtain ⟨⟨n0, n1, n2, n3, n4⟩, ⟨y0, y1, y2, y3, y4, y5⟩⟩ := cells_elevenS (whole_below Q2 (Below.refl _ _).drew) (whole_below V2 (Below.refl _ _).drew)
  clear r0 r1 r2 r3 r4 s0 s1 s2 s3 s4 s5 fr fs Q2 V2 T2 U2 B1 B2
  go_cut [10, 11] (fun s10 s11 wx => HcCut w2 h d s10 s11 wx)
  case first =>
    go_region_held3 (fun W => (W.cell? ⟨w.heap.size, 0, none⟩ = some (.slice A1 h.g.length k1) ∧ W.cell? ⟨w.heap.size, 1, none⟩ = some (.slice A2 h.s.length k2) ∧ W.cell? ⟨w.heap.size, 2, none⟩ = some (.slice A3 h.n.length k3) ∧ W.cell? ⟨w.heap.size, 3, none⟩ = some (.int .i64 h.c) ∧ W.cell? ⟨w.heap.size, 4, none⟩ = some (.slice A4 h.d.length k4)) ∧ (W.cell? ⟨w.heap.size + 1, 0, none⟩ = some (.slice D1 d.s.length j1) ∧ W.cell? ⟨w.heap.size + 1, 1, none⟩ = some (.slice D2 d.b.length j2) ∧ W.cell? ⟨w.heap.size + 1, 2, none⟩ = some (.slice D3 d.c.length j3) ∧ W.cell? ⟨w.heap.size + 1, 3, none⟩ = some (.int .i64 d.h) ∧ W.cell? ⟨w.heap.size + 1, 4, none⟩ = some (.int .i64 d.n) ∧ W.cell? ⟨w.heap.size + 1, 5, none⟩ = some (.string d.o)))
      (first | with_reducible exact ⟨⟨n0, n1, n2, n3, n4⟩, ⟨y0, y1, y2, y3, y4, y5⟩⟩ | exact cells_elevenS (whole_only (S := fun k => w2.heap.size ≤ k) KQ.out (by repeat (first | with_reducible exact only_refl _ _ | with_reducible exact OL4 | with_reducible exact OL3 | ((with_reducible refine only_set ?_ (.inl ?_) _); rotate_left; focus (show w2.heap.size ≤ _; first | omega | (simp; omega))) | with_reducible refine only_drew ?_ | with_reducible refine only_alloc ?_ _)) (by omega)) (whole_only (S := fun k => w2.heap.size ≤ k) KV.out (by repeat (first | with_reducible exact only_refl _ _ | with_reducible exact OL4 | with_reducible exact OL3 | ((with_reducible refine only_set ?_ (.inl ?_) _); rotate_left; focus (show w2.heap.size ≤ _; first | omega | (simp; omega))) | with_reducible refine only_drew ?_ | with_reducible refine only_alloc ?_ _)) (by omega)))
      (first
      | (go_at_call 53
         refine (ownHost_any _ h _ (HIN.out _ (by repeat (first | with_reducible assumption | with_reducible exact Below.refl _ _ | with_reducible refine below_alloc ?_ _ | with_reducible refine Below.drew ?_))) SH.out).mono ?_
         rintro e w3 ⟨u3, rfl, ho3, hb3⟩
         have L3 : Below w2.heap.size w2 w3 := below_step (by repeat (first | with_reducible assumption | with_reducible exact Below.refl _ _ | with_reducible refine below_alloc ?_ _ | with_reducible refine Below.drew ?_)) hb3
         have OL3 : Only (fun k => w2.heap.size ≤ k) w2 w3 := below_only L3
         have lz3 := L3.size
         have HO3 := Lib.hid (hostOf_base ho3 (show Below w2.heap.size w2 _ from by repeat (first | with_reducible assumption | with_reducible exact Below.refl _ _ | with_reducible refine below_alloc ?_ _ | with_reducible refine Below.drew ?_)).size)
         obtain ⟨X1, m1, X2, m2, X3, m3, X4, m4, rfl⟩ := hostIn_form (hostOf_in ho3)
         (try ((first | (with_reducible have gAw3 : Whole w3 (w2.heap.size) 27 #[.slice none 0 0, .slice none 0 0, .slice none 0 0, .int .i64 0, .slice none 0 0] := whole_b hb3 (whole_drewQ (whole_new _ _ _))) | (with_reducible have gAw3 : Whole w3 (w2.heap.size) 27 #[.slice none 0 0, .slice none 0 0, .slice none 0 0, .int .i64 0, .slice none 0 0] := whole_b hb3 (whole_drewQ (whole_alloc (whole_new _ _ _) _))) | (with_reducible have gAw3 : Whole w3 (w2.heap.size) 27 #[.slice none 0 0, .slice none 0 0, .slice none 0 0, .int .i64 0, .slice none 0 0] := whole_b hb3 (whole_drewQ (whole_second _ _ _ _))) | (with_reducible have gAw3 : Whole w3 (w2.heap.size) 27 #[.slice none 0 0, .slice none 0 0, .slice none 0 0, .int .i64 0, .slice none 0 0] := whole_b hb3 (whole_new _ _ _)) | (with_reducible have gAw3 : Whole w3 (w2.heap.size) 27 #[.slice none 0 0, .slice none 0 0, .slice none 0 0, .int .i64 0, .slice none 0 0] := whole_b hb3 (whole_alloc (whole_new _ _ _) _)) | (with_reducible have gAw3 : Whole w3 (w2.heap.size) 27 #[.slice none 0 0, .slice none 0 0, .slice none 0 0, .int .i64 0, .slice none 0 0] := whole_b hb3 (whole_second _ _ _ _))); obtain ⟨gAw3c0, gAw3c1, gAw3c2, gAw3c3, gAw3c4⟩ := five_cells gAw3; have gAw3f := whole_free gAw3; have gAw3l := whole_lt gAw3))
         (try ((first | (with_reducible have eAw3 : Whole w3 (w2.heap.size) 30 #[.slice none 0 0, .slice none 0 0, .slice none 0 0, .int .i64 0, .int .i64 0, .string ⟨#[]⟩] := whole_b hb3 (whole_drewQ (whole_new _ _ _))) | (with_reducible have eAw3 : Whole w3 (w2.heap.size) 30 #[.slice none 0 0, .slice none 0 0, .slice none 0 0, .int .i64 0, .int .i64 0, .string ⟨#[]⟩] := whole_b hb3 (whole_drewQ (whole_alloc (whole_new _ _ _) _))) | (with_reducible have eAw3 : Whole w3 (w2.heap.size) 30 #[.slice none 0 0, .slice none 0 0, .slice none 0 0, .int .i64 0, .int .i64 0, .string ⟨#[]⟩] := whole_b hb3 (whole_drewQ (whole_second _ _ _ _))) | (with_reducible have eAw3 : Whole w3 (w2.heap.size) 30 #[.slice none 0 0, .slice none 0 0, .slice none 0 0, .int .i64 0, .int .i64 0, .string ⟨#[]⟩] := whole_b hb3 (whole_new _ _ _)) | (with_reducible have eAw3 : Whole w3 (w2.heap.size) 30 #[.slice none 0 0, .slice none 0 0, .slice none 0 0, .int .i64 0, .int .i64 0, .string ⟨#[]⟩] := whole_b hb3 (whole_alloc (whole_new _ _ _) _)) | (with_reducible have eAw3 : Whole w3 (w2.heap.size) 30 #[.slice none 0 0, .slice none 0 0, .slice none 0 0, .int .i64 0, .int .i64 0, .string ⟨#[]⟩] := whole_b hb3 (whole_second _ _ _ _))); obtain ⟨eAw3c0, eAw3c1, eAw3c2, eAw3c3, eAw3c4, eAw3c5⟩ := six_cells eAw3; have eAw3f := whole_free eAw3; have eAw3l := whole_lt eAw3))
         (try ((first | (with_reducible have gBw3 : Whole w3 (w2.heap.size + 1) 27 #[.slice none 0 0, .slice none 0 0, .slice none 0 0, .int .i64 0, .slice none 0 0] := whole_b hb3 (whole_drewQ (whole_new _ _ _))) | (with_reducible have gBw3 : Whole w3 (w2.heap.size + 1) 27 #[.slice none 0 0, .slice none 0 0, .slice none 0 0, .int .i64 0, .slice none 0 0] := whole_b hb3 (whole_drewQ (whole_alloc (whole_new _ _ _) _))) | (with_reducible have gBw3 : Whole w3 (w2.heap.size + 1) 27 #[.slice none 0 0, .slice none 0 0, .slice none 0 0, .int .i64 0, .slice none 0 0] := whole_b hb3 (whole_drewQ (whole_second _ _ _ _))) | (with_reducible have gBw3 : Whole w3 (w2.heap.size + 1) 27 #[.slice none 0 0, .slice none 0 0, .slice none 0 0, .int .i64 0, .slice none 0 0] := whole_b hb3 (whole_new _ _ _)) | (with_reducible have gBw3 : Whole w3 (w2.heap.size + 1) 27 #[.slice none 0 0, .slice none 0 0, .slice none 0 0, .int .i64 0, .slice none 0 0] := whole_b hb3 (whole_alloc (whole_new _ _ _) _)) | (with_reducible have gBw3 : Whole w3 (w2.heap.size + 1) 27 #[.slice none 0 0, .slice none 0 0, .slice none 0 0, .int .i64 0, .slice none 0 0] := whole_b hb3 (whole_second _ _ _ _))); obtain ⟨gBw3c0, gBw3c1, gBw3c2, gBw3c3, gBw3c4⟩ := five_cells gBw3; have gBw3f := whole_free gBw3; have gBw3l := whole_lt gBw3))
         (try ((first | (with_reducible have eBw3 : Whole w3 (w2.heap.size + 1) 30 #[.slice none 0 0, .slice none 0 0, .slice none 0 0, .int .i64 0, .int .i64 0, .string ⟨#[]⟩] := whole_b hb3 (whole_drewQ (whole_new _ _ _))) | (with_reducible have eBw3 : Whole w3 (w2.heap.size + 1) 30 #[.slice none 0 0, .slice none 0 0, .slice none 0 0, .int .i64 0, .int .i64 0, .string ⟨#[]⟩] := whole_b hb3 (whole_drewQ (whole_alloc (whole_new _ _ _) _))) | (with_reducible have eBw3 : Whole w3 (w2.heap.size + 1) 30 #[.slice none 0 0, .slice none 0 0, .slice none 0 0, .int .i64 0, .int .i64 0, .string ⟨#[]⟩] := whole_b hb3 (whole_drewQ (whole_second _ _ _ _))) | (with_reducible have eBw3 : Whole w3 (w2.heap.size + 1) 30 #[.slice none 0 0, .slice none 0 0, .slice none 0 0, .int .i64 0, .int .i64 0, .string ⟨#[]⟩] := whole_b hb3 (whole_new _ _ _)) | (with_reducible have eBw3 : Whole w3 (w2.heap.size + 1) 30 #[.slice none 0 0, .slice none 0 0, .slice none 0 0, .int .i64 0, .int .i64 0, .string ⟨#[]⟩] := whole_b hb3 (whole_alloc (whole_new _ _ _) _)) | (with_reducible have eBw3 : Whole w3 (w2.heap.size + 1) 30 #[.slice none 0 0, .slice none 0 0, .slice none 0 0, .int .i64 0, .int .i64 0, .string ⟨#[]⟩] := whole_b hb3 (whole_second _ _ _ _))); obtain ⟨eBw3c0, eBw3c1, eBw3c2, eBw3c3, eBw3c4, eBw3c5⟩ := six_cells eBw3; have eBw3f := whole_free eBw3; have eBw3l := whole_lt eBw3))
         clear ho3)
      | (go_at_call 54
         refine (ownData_any _ d _ (DIN.out _ (by repeat (first | with_reducible assumption | with_reducible exact Below.refl _ _ | with_reducible refine below_alloc ?_ _ | with_reducible refine Below.drew ?_))) SD.out).mono ?_
         rintro e w4 ⟨u4, rfl, ho4, hb4⟩
         have L34 : Below w3.heap.size w3 w4 := below_step (by repeat (first | with_reducible assumption | with_reducible exact Below.refl _ _ | with_reducible refine below_alloc ?_ _ | with_reducible refine Below.drew ?_)) hb4
         have L4 : Below w2.heap.size w2 w4 := below_step L3 L34
         have OL4 : Only (fun k => w2.heap.size ≤ k) w2 w4 := below_only L4
         have lz4 := L34.size
         have HO4 := Lib.hid (hostOf_below HO3.out L34)
         have DO4 := Lib.hid (datOf_base ho4 (show Below w3.heap.size w3 _ from by repeat (first | with_reducible assumption | with_reducible exact Below.refl _ _ | with_reducible refine below_alloc ?_ _ | with_reducible refine Below.drew ?_)).size)
         obtain ⟨Y1, l1, Y2, l2, Y3, l3, rfl⟩ := datIn_form (datOf_in ho4)
         (try ((first | (with_reducible have gAw4 : Whole w4 (w2.heap.size) 27 #[.slice none 0 0, .slice none 0 0, .slice none 0 0, .int .i64 0, .slice none 0 0] := whole_b hb4 (gAw3)) | (with_reducible have gAw4 : Whole w4 (w2.heap.size) 27 #[.slice none 0 0, .slice none 0 0, .slice none 0 0, .int .i64 0, .slice none 0 0] := whole_b hb4 (whole_alloc gAw3 _)) | (with_reducible have gAw4 : Whole w4 (w2.heap.size) 27 #[.slice none 0 0, .slice none 0 0, .slice none 0 0, .int .i64 0, .slice none 0 0] := whole_b hb4 (whole_alloc (whole_alloc gAw3 _) _))); obtain ⟨gAw4c0, gAw4c1, gAw4c2, gAw4c3, gAw4c4⟩ := five_cells gAw4; have gAw4f := whole_free gAw4; have gAw4l := whole_lt gAw4))
         (try ((first | (with_reducible have eAw4 : Whole w4 (w2.heap.size) 30 #[.slice none 0 0, .slice none 0 0, .slice none 0 0, .int .i64 0, .int .i64 0, .string ⟨#[]⟩] := whole_b hb4 (eAw3)) | (with_reducible have eAw4 : Whole w4 (w2.heap.size) 30 #[.slice none 0 0, .slice none 0 0, .slice none 0 0, .int .i64 0, .int .i64 0, .string ⟨#[]⟩] := whole_b hb4 (whole_alloc eAw3 _)) | (with_reducible have eAw4 : Whole w4 (w2.heap.size) 30 #[.slice none 0 0, .slice none 0 0, .slice none 0 0, .int .i64 0, .int .i64 0, .string ⟨#[]⟩] := whole_b hb4 (whole_alloc (whole_alloc eAw3 _) _))); obtain ⟨eAw4c0, eAw4c1, eAw4c2, eAw4c3, eAw4c4, eAw4c5⟩ := six_cells eAw4; have eAw4f := whole_free eAw4; have eAw4l := whole_lt eAw4))
         (try ((first | (with_reducible have gBw4 : Whole w4 (w2.heap.size + 1) 27 #[.slice none 0 0, .slice none 0 0, .slice none 0 0, .int .i64 0, .slice none 0 0] := whole_b hb4 (gBw3)) | (with_reducible have gBw4 : Whole w4 (w2.heap.size + 1) 27 #[.slice none 0 0, .slice none 0 0, .slice none 0 0, .int .i64 0, .slice none 0 0] := whole_b hb4 (whole_alloc gBw3 _)) | (with_reducible have gBw4 : Whole w4 (w2.heap.size + 1) 27 #[.slice none 0 0, .slice none 0 0, .slice none 0 0, .int .i64 0, .slice none 0 0] := whole_b hb4 (whole_alloc (whole_alloc gBw3 _) _))); obtain ⟨gBw4c0, gBw4c1, gBw4c2, gBw4c3, gBw4c4⟩ := five_cells gBw4; have gBw4f := whole_free gBw4; have gBw4l := whole_lt gBw4))
         (try ((first | (with_reducible have eBw4 : Whole w4 (w2.heap.size + 1) 30 #[.slice none 0 0, .slice none 0 0, .slice none 0 0, .int .i64 0, .int .i64 0, .string ⟨#[]⟩] := whole_b hb4 (eBw3)) | (with_reducible have eBw4 : Whole w4 (w2.heap.size + 1) 30 #[.slice none 0 0, .slice none 0 0, .slice none 0 0, .int .i64 0, .int .i64 0, .string ⟨#[]⟩] := whole_b hb4 (whole_alloc eBw3 _)) | (with_reducible have eBw4 : Whole w4 (w2.heap.size + 1) 30 #[.slice none 0 0, .slice none 0 0, .slice none 0 0, .int .i64 0, .int .i64 0, .string ⟨#[]⟩] := whole_b hb4 (whole_alloc (whole_alloc eBw3 _) _))); obtain ⟨eBw4c0, eBw4c1, eBw4c2, eBw4c3, eBw4c4, eBw4c5⟩ := six_cells eBw4; have eBw4f := whole_free eBw4; have eBw4l := whole_lt eBw4))
         (try ((first | (with_reducible have gCw4 : Whole w4 (w3.heap.size) 27 #[.slice none 0 0, .slice none 0 0, .slice none 0 0, .int .i64 0, .slice none 0 0] := whole_b hb4 (whole_new _ _ _)) | (with_reducible have gCw4 : Whole w4 (w3.heap.size) 27 #[.slice none 0 0, .slice none 0 0, .slice none 0 0, .int .i64 0, .slice none 0 0] := whole_b hb4 (whole_alloc (whole_new _ _ _) _)) | (with_reducible have gCw4 : Whole w4 (w3.heap.size) 27 #[.slice none 0 0, .slice none 0 0, .slice none 0 0, .int .i64 0, .slice none 0 0] := whole_b hb4 (whole_second _ _ _ _))); obtain ⟨gCw4c0, gCw4c1, gCw4c2, gCw4c3, gCw4c4⟩ := five_cells gCw4; have gCw4f := whole_free gCw4; have gCw4l := whole_lt gCw4))
         (try ((first | (with_reducible have eCw4 : Whole w4 (w3.heap.size) 30 #[.slice none 0 0, .slice none 0 0, .slice none 0 0, .int .i64 0, .int .i64 0, .string ⟨#[]⟩] := whole_b hb4 (whole_new _ _ _)) | (with_reducible have eCw4 : Whole w4 (w3.heap.size) 30 #[.slice none 0 0, .slice none 0 0, .slice none 0 0, .int .i64 0, .int .i64 0, .string ⟨#[]⟩] := whole_b hb4 (whole_alloc (whole_new _ _ _) _)) | (with_reducible have eCw4 : Whole w4 (w3.heap.size) 30 #[.slice none 0 0, .slice none 0 0, .slice none 0 0, .int .i64 0, .int .i64 0, .string ⟨#[]⟩] := whole_b hb4 (whole_second _ _ _ _))); obtain ⟨eCw4c0, eCw4c1, eCw4c2, eCw4c3, eCw4c4, eCw4c5⟩ := six_cells eCw4; have eCw4f := whole_free eCw4; have eCw4l := whole_lt eCw4))
         (try ((first | (with_reducible have gDw4 : Whole w4 (w3.heap.size + 1) 27 #[.slice none 0 0, .slice none 0 0, .slice none 0 0, .int .i64 0, .slice none 0 0] := whole_b hb4 (whole_new _ _ _)) | (with_reducible have gDw4 : Whole w4 (w3.heap.size + 1) 27 #[.slice none 0 0, .slice none 0 0, .slice none 0 0, .int .i64 0, .slice none 0 0] := whole_b hb4 (whole_alloc (whole_new _ _ _) _)) | (with_reducible have gDw4 : Whole w4 (w3.heap.size + 1) 27 #[.slice none 0 0, .slice none 0 0, .slice none 0 0, .int .i64 0, .slice none 0 0] := whole_b hb4 (whole_second _ _ _ _))); obtain ⟨gDw4c0, gDw4c1, gDw4c2, gDw4c3, gDw4c4⟩ := five_cells gDw4; have gDw4f := whole_free gDw4; have gDw4l := whole_lt gDw4))
         (try ((first | (with_reducible have eDw4 : Whole w4 (w3.heap.size + 1) 30 #[.slice none 0 0, .slice none 0 0, .slice none 0 0, .int .i64 0, .int .i64 0, .string ⟨#[]⟩] := whole_b hb4 (whole_new _ _ _)) | (with_reducible have eDw4 : Whole w4 (w3.heap.size + 1) 30 #[.slice none 0 0, .slice none 0 0, .slice none 0 0, .int .i64 0, .int .i64 0, .string ⟨#[]⟩] := whole_b hb4 (whole_alloc (whole_new _ _ _) _)) | (with_reducible have eDw4 : Whole w4 (w3.heap.size + 1) 30 #[.slice none 0 0, .slice none 0 0, .slice none 0 0, .int .i64 0, .int .i64 0, .string ⟨#[]⟩] := whole_b hb4 (whole_second _ _ _ _))); obtain ⟨eDw4c0, eDw4c1, eDw4c2, eDw4c3, eDw4c4, eDw4c5⟩ := six_cells eDw4; have eDw4f := whole_free eDw4; have eDw4l := whole_lt eDw4))
         clear ho4))
    all_goals
      go_wp2_with fail
      go_meet
      refine hc_leaf (W4 := w4) (m := w3.heap.size) ?_ ?_ HO4.out DO4.out ?_ lz3 (by first | omega | (simp <;> omega)) (by first | omega | (simp <;> omega)) ?_
      · repeat (first | with_reducible assumption | ((with_reducible refine whole_newH ?_); (first | with_reducible rfl | with_reducible exact size5.symm | with_reducible exact size6.symm | (simp; done) | (simp [World.setCell]; done))) | with_reducible refine whole_alloc ?_ _ | with_reducible refine whole6 ?_ | with_reducible refine whole5 ?_ | with_reducible refine skip6 ?_ (by omega) | with_reducible refine skip5 ?_ (by omega))
      · repeat (first | with_reducible assumption | ((with_reducible refine whole_newH ?_); (first | with_reducible rfl | with_reducible exact size5.symm | with_reducible exact size6.symm | (simp; done) | (simp [World.setCell]; done))) | with_reducible refine whole_alloc ?_ _ | with_reducible refine whole6 ?_ | with_reducible refine whole5 ?_ | with_reducible refine skip6 ?_ (by omega) | with_reducible refine skip5 ?_ (by omega))
      · repeat (first | with_reducible exact only_refl _ _ | with_reducible refine only6 ?_ (.inl (oth_data (by with_reducible assumption))) | with_reducible refine only5 ?_ (.inl (oth_host (by with_reducible assumption))) | with_reducible refine only_alloc ?_ _ | with_reducible refine only_drew ?_)
      · repeat (first | with_reducible exact L4 | with_reducible refine below_alloc ?_ _ | with_reducible refine bput6 ?_ (by first | assumption | omega) | with_reducible refine bput5 ?_ (by first | assumption | omega))
  case rest =>
    obtain ⟨G, E, vh, vd, rfl, rfl, P, hr, hB⟩ := hcut
    have zt := whole_lt KT.out
    have zu := whole_lt KU.out
    have Tc := Lib.hid (whole_below KT.out hB)
    have Uc := Lib.hid (whole_below KU.out hB)
    have PC := Lib.hid (call_any wc w2.heap.size G E vh vd h d c P HF.out DF.out hc4 hr)
    have zl : w.heap.size ≤ w2.heap.size := KB.out.size
    have KB2 := Lib.hid (below_step KB.out hB)
    generalize hCall h d c = pp at *
    clear P hr hB n0 n1 n2 n3 n4 y0 y1 y2 y3 y4 y5 HIN DIN
    go_wp2_with fail
    refine PC.out.mono ?_
    rintro e w5 ⟨rfl, ⟨vh5, vd5, P5⟩, hb5⟩
    have B5 := Lib.hid (KB2.out.trans (hb5.mono zl))
    have T5 := whole_keep Tc.out (hb5.block _ zt)
    have U5 := whole_keep Uc.out (hb5.block _ zu)
    obtain ⟨⟨x5, y5, q5, t5, e5, hw5⟩, ht5, _⟩ := P5.host
    obtain ⟨i5, j5, k5, e6, hw6⟩ := P5.box
    have hd5 := P5.data
    obtain ⟨X1, m1, X2, m2, X3, m3, X4, m4, hv⟩ := hostIn_form (hostT_in ht5)
    rw [e5] at hv
    simp only [Value.agg.injEq, Array.mk.injEq, List.cons.injEq, and_true, true_and] at hv
    obtain ⟨rfl, rfl, rfl, rfl⟩ := hv
    obtain ⟨Y1, l1, Y2, l2, Y3, l3, hv2⟩ := datIn_form (datOf_in hd5)
    rw [e6] at hv2
    simp only [Value.agg.injEq, Array.mk.injEq, List.cons.injEq, and_true, true_and] at hv2
    obtain ⟨rfl, rfl, rfl⟩ := hv2
    subst e5 e6
    have HT5 := Lib.hid ht5
    have HD5 := Lib.hid hd5
    have AP5 := Lib.hid (fun k (a : Mine _ k) (b : Mine _ k) => P5.apart k (.inr a) (.inr b))
    obtain ⟨g0, g1, g2, g3, g4⟩ := five_cells hw5
    obtain ⟨p0, p1, p2, p3, p4, p5⟩ := six_cells hw6
    obtain ⟨r0, r1, r2, r3, r4⟩ := five_cells T5
    obtain ⟨s0, s1, s2, s3, s4, s5⟩ := six_cells U5
    have fr := whole_free T5
    have fs := whole_free U5
    have zg := whole_lt hw5
    have ze := whole_lt hw6
    have zr := whole_lt T5
    have zs := whole_lt U5
    have lg5 := P5.loG
    have le5 := P5.loE
    have d0 : ¬ (w.heap.size + 1 + 1 = G) := by omega
    have f0 : ¬ (G = w.heap.size + 1 + 1) := by omega
    have d1 : ¬ (w.heap.size + 1 + 1 = E) := by omega
    have f1 : ¬ (E = w.heap.size + 1 + 1) := by omega
    have d2 : ¬ (w.heap.size + 1 + 1 + 1 = G) := by omega
    have f2 : ¬ (G = w.heap.size + 1 + 1 + 1) := by omega
    have d3 : ¬ (w.heap.size + 1 + 1 + 1 = E) := by omega
    have f3 : ¬ (E = w.heap.size + 1 + 1 + 1) := by omega
    clear ht5 hd5 hw5 hw6 hb5 T5 U5 P5
    go_wp2
    go_region
    all_goals
      go_wp2
      refine bodyPost_ret (v := .tuple #[.agg #[.slice X1 pp.1.g.length m1, .slice X2 pp.1.s.length m2, .slice X3 pp.1.n.length m3, .int .i64 pp.1.c, .slice X4 pp.1.d.length m4], .agg #[.slice Y1 pp.2.1.s.length l1, .slice Y2 pp.2.1.b.length l2, .slice Y3 pp.2.1.c.length l3, .int .i64 pp.2.1.h, .int .i64 pp.2.1.n, .string pp.2.1.o], .int .i64 pp.2.2, .int .i64 0]) (by simp [results, Try.results11, go_sem, *]) rfl ?_
      refine hcres_put2 (T := w.heap.size + 1 + 1) (U := w.heap.size + 1 + 1 + 1) (lo := w2.heap.size) HT5.out HD5.out AP5.out zt zu zl (by omega) (by omega) B5.out ?_
      repeat (first | with_reducible exact only_refl _ _ | with_reducible refine only_set ?_ (.inl (by simp)) _ | with_reducible refine only_drew ?_)

end Go.Proofs.Ytkcogfgjabemfaa

namespace Go.Proofs.Ytkcogfgjabemfaa
open Go.RowKit
set_option linter.unusedVariables false
set_option linter.unusedSimpArgs false

theorem hHost_badHost {h : Ht} {d : Dt} {c : Int} (t0 : hOK h = false) : hHost h d c = (noHt, noDt, 0, 1) := by
  unfold hHost
  rw [t0]
  rfl

theorem hHost_badData {h : Ht} {d : Dt} {c : Int} (t0 : hOK h = true) (t1 : dOK d = false) : hHost h d c = (noHt, noDt, 0, 1) := by
  unfold hHost
  rw [t0, t1]
  rfl

theorem hHost_badCap {h : Ht} {d : Dt} {c : Int} (t0 : hOK h = true) (t1 : dOK d = true) (t2 : inB c 0 3 = false) : hHost h d c = (noHt, noDt, 0, 9) := by
  unfold hHost
  rw [t0, t1, t2]
  rfl

theorem hHost_good {h : Ht} {d : Dt} {c : Nat} (t0 : hOK h = true) (t1 : dOK d = true) (t2 : inB (c : Int) 0 3 = true) : hHost h d (c : Int) = ((hCall h d c).1, (hCall h d c).2.1, (hCall h d c).2.2, 0) := by
  unfold hHost
  rw [t0, t1, t2, Int.toNat_natCast]
  rfl

theorem inB_nat {c : Int} (t2 : inB c 0 3 = true) : ∃ k : Nat, c = (k : Int) := by
  unfold inB at t2
  simp at t2
  exact ⟨c.toNat, by omega⟩

theorem hHost_cases (h : Ht) (d : Dt) (c : Int) {P : Prop} (f0 : hOK h = false → P) (f1 : hOK h = true → dOK d = false → P) (f2 : hOK h = true → dOK d = true → inB c 0 3 = false → P) (f3 : hOK h = true → dOK d = true → inB c 0 3 = true → P) : P := by
  cases t0 : hOK h
  · exact f0 t0
  · cases t1 : dOK d
    · exact f1 t0 t1
    · cases t2 : inB c 0 3
      · exact f2 t0 t1 t2
      · exact f3 t0 t1 t2

theorem iHostCall_any (v x : Value) (h : Ht) (d : Dt) (c : Int) (w : World) (hv : HostIn w v h) (hx : DatIn w x d) :
    Calls Try.prog 11 #[v, x, .int .i64 c] w (HcRes w (hHost h d c)) := by
  refine hHost_cases h d c (fun t0 => ?_) (fun t0 t1 => ?_) (fun t0 t1 t2 => ?_) (fun t0 t1 t2 => ?_)
  · rw [hHost_badHost t0]; exact iHostCall_badHost v x h d c w hv hx t0
  · rw [hHost_badData t0 t1]; exact iHostCall_badData v x h d c w hv hx t0 t1
  · rw [hHost_badCap t0 t1 t2]; exact iHostCall_badCap v x h d c w hv hx t0 t1 t2
  · obtain ⟨k, rfl⟩ := inB_nat t2
    rw [hHost_good t0 t1 t2]; exact iHostCall_good v x h d k w hv hx t0 t1 t2

theorem sHostCall_any (v x : Value) (h : Ht) (d : Dt) (c : Int) (w : World) (hv : HostIn w v h) (hx : DatC w x d) :
    Calls Try.prog 12 #[v, x, .int .i64 c] w (HcRes w (hHost h d c)) := by
  refine hHost_cases h d c (fun t0 => ?_) (fun t0 t1 => ?_) (fun t0 t1 t2 => ?_) (fun t0 t1 t2 => ?_)
  · rw [hHost_badHost t0]; exact sHostCall_badHost v x h d c w hv hx t0
  · rw [hHost_badData t0 t1]; exact sHostCall_badData v x h d c w hv hx t0 t1
  · rw [hHost_badCap t0 t1 t2]; exact sHostCall_badCap v x h d c w hv hx t0 t1 t2
  · obtain ⟨k, rfl⟩ := inB_nat t2
    rw [hHost_good t0 t1 t2]; exact sHostCall_good v x h d k w hv hx t0 t1 t2

theorem noDt_small : SmallD noDt := by
  refine ⟨?_, ?_, ?_, ?_⟩ <;> decide

theorem noHt_small : SmallH noHt := by
  refine ⟨?_, ?_, ?_, ?_⟩ <;> decide

theorem hHost_small (h : Ht) (d : Dt) (c : Int) : SmallH (hHost h d c).1 ∧ SmallD (hHost h d c).2.1 := by
  refine hHost_cases h d c (fun t0 => ?_) (fun t0 t1 => ?_) (fun t0 t1 t2 => ?_) (fun t0 t1 t2 => ?_)
  · rw [hHost_badHost t0]; exact ⟨noHt_small, noDt_small⟩
  · rw [hHost_badData t0 t1]; exact ⟨noHt_small, noDt_small⟩
  · rw [hHost_badCap t0 t1 t2]; exact ⟨noHt_small, noDt_small⟩
  · obtain ⟨k, rfl⟩ := inB_nat t2
    rw [hHost_good t0 t1 t2]; exact hCall_small (hOK_fine t0) (dOK_fine t1) k

end Go.Proofs.Ytkcogfgjabemfaa

namespace Go.Proofs.Ytkcogfgjabemfaa
open Go.RowKit
set_option linter.unusedVariables false
set_option linter.unusedSimpArgs false

theorem hostOf_off {w : World} {lo hi g i : Nat} {v u : Value} {h : Ht} (H : HostOf w lo hi v h) (hn : ∀ k, Mine v k → k ≠ g) : HostOf (w.setCell ⟨g, i, none⟩ u) lo hi v h :=
  hostOf_only (S := fun k => k = g) H ⟨rfl, rfl, rfl, by simp [World.setCell], fun k _ hk => Below.heap_setCell w _ u k hk⟩ hn

theorem hnew_fin2 {w W : World} {g s : Nat} (h1 : Whole W g 4 #[.bool false, .bool false, .bool false, .bool false])
    (h2 : Whole W s 3 #[.int .i64 0, .int .i64 0, .int .i64 0, .int .i64 0, .int .i64 0, .int .i64 0, .int .i64 0, .int .i64 0])
    (l : w.heap.size ≤ g ∧ w.heap.size ≤ s) (e : g ≠ s) (hb : Below w.heap.size w W) :
    HCopyOf w newHt (.returned (.agg #[.slice (some ⟨g, 0, none⟩) 4 4, .slice (some ⟨s, 0, none⟩) 8 8, .slice none 0 0, .int .i64 0, .slice none 0 0])) W := by
  obtain ⟨l1, l2⟩ := l
  have pt : Parted (.slice (some ⟨g, 0, none⟩) 4 4) (.slice (some ⟨s, 0, none⟩) 8 8) := fun k hk hk2 => by
    simp [Value.ownBlock] at hk hk2
    omega
  refine ⟨_, rfl, hostOf_rows (h := newHt) ?_ ?_ (row_nil _ _) (drow_nil _ _) pt (parted_sym (parted_nil _)) (parted_sym (parted_nil _)) (parted_sym (parted_nil _)) (parted_sym (parted_nil _)) (parted_nil _), hb⟩
  · exact borow_whole (zs := List.replicate 4 false) h1 l1 (by unfold maxLen; simp)
  · exact row_whole (zs := List.replicate 8 0) h2 l2 (by unfold maxLen; simp)

set_option maxRecDepth 100000 in
set_option maxHeartbeats 2000000 in
theorem iGrantCap_any (v : Value) (h : Ht) (c : Int) (yes : Bool) (w : World) (hv : HostIn w v h) :
    Calls Try.prog 15 #[v, .int .i64 c, .bool yes] w (HResOf w (hGrant h c yes)) := by
  have HH := Lib.hid hv
  obtain ⟨A1, k1, A2, k2, A3, k3, A4, k4, rfl⟩ := hostIn_form hv
  clear hv
  cases t0 : hOK h
  · have R : Hid (hGrant h c yes = (noHt, 1)) := Lib.hid (by unfold hGrant; rw [t0]; rfl)
    go_enter Try.func15, Try.ntmps15
    go_wp2_with fail
    refine (iHOK_any _ h _ (hostIn_below HH.out (below_alloc (below_alloc (Below.refl _ _) _) _))).mono ?_
    rintro e w1 ⟨rfl, hb⟩
    have B1 : Below w.heap.size w w1 := below_step (below_alloc (below_alloc (Below.refl _ _) _) _) hb
    have V1 := whole_b hb (whole_alloc (whole_new w _ _) _)
    have T1 := whole_b hb (whole_new1 w _ _ _)
    have z1 := whole_lt T1
    clear hb
    rw [t0]
    obtain ⟨r0, r1, r2, r3, r4⟩ := five_cells T1
    have fr := whole_free T1
    go_wp2
    refine bodyPost_ret (v := .tuple #[.agg #[.slice none 0 0, .slice none 0 0, .slice none 0 0, .int .i64 0, .slice none 0 0], .int .i64 1]) (by simp [results, Try.results15, go_sem, *]) rfl ?_
    rw [R.out]
    refine hres_none ?_
    repeat (first | with_reducible exact B1 | with_reducible refine Below.setCell ?_ (by simp; try omega) _)
  · have hf := hOK_fine t0
    cases t1 : inB c 0 3
    · have R : Hid (hGrant h c yes = (noHt, 9)) := Lib.hid (by unfold hGrant; rw [t0, t1]; rfl)
      clear hf
      go_enter Try.func15, Try.ntmps15
      go_wp2_with fail
      refine (iHOK_any _ h _ (hostIn_below HH.out (below_alloc (below_alloc (Below.refl _ _) _) _))).mono ?_
      rintro e w1 ⟨rfl, hb⟩
      have B1 : Below w.heap.size w w1 := below_step (below_alloc (below_alloc (Below.refl _ _) _) _) hb
      have V1 := whole_b hb (whole_alloc (whole_new w _ _) _)
      have T1 := whole_b hb (whole_new1 w _ _ _)
      have z1 := whole_lt T1
      clear hb
      rw [t0]
      obtain ⟨r0, r1, r2, r3, r4⟩ := five_cells T1
      have fr := whole_free T1
      go_wp2_with (go_at_call 52; refine (isCap_any _ _).mono ?_; rintro e w' ⟨rfl, rfl⟩)
      refine bodyPost_ret (v := .tuple #[.agg #[.slice none 0 0, .slice none 0 0, .slice none 0 0, .int .i64 0, .slice none 0 0], .int .i64 9]) (by simp [results, Try.results15, go_sem, *]) rfl ?_
      rw [R.out]
      refine hres_none ?_
      repeat (first | with_reducible exact B1 | with_reducible refine Below.setCell ?_ (by simp; try omega) _)
    · obtain ⟨q0, q1⟩ := of_inB t1
      obtain ⟨k, rfl⟩ : ∃ k : Nat, c = k := ⟨c.toNat, by omega⟩
      have R : Hid (hGrant h k yes = ({ h with g := h.g.set k yes }, 0)) := Lib.hid (by unfold hGrant; rw [t0, t1]; rfl)
      have h4 := fineH_g hf
      have hk : Hid (k < h.g.length) := Lib.hid (by omega)
      have hkk : k < h.g.length := hk.out
      have hgl : Hid (0 < h.g.length) := Lib.hid (by omega)
      have HS := Lib.hid (fineH_small hf)
      clear q0 q1 hf h4
      go_enter Try.func15, Try.ntmps15
      go_wp2_with fail
      refine (iHOK_any _ h _ (hostIn_below HH.out (below_alloc (below_alloc (Below.refl _ _) _) _))).mono ?_
      rintro e w1 ⟨rfl, hb⟩
      have B1 : Below w.heap.size w w1 := below_step (below_alloc (below_alloc (Below.refl _ _) _) _) hb
      have V1 := whole_b hb (whole_alloc (whole_new w _ _) _)
      have T1 := whole_b hb (whole_new1 w _ _ _)
      have z1 := whole_lt T1
      clear hb
      rw [t0]
      obtain ⟨c0, c1, c2, c3, c4⟩ := five_cells V1
      go_wp2_with (first
        | (go_at_call 52; refine (isCap_any _ _).mono ?_; rintro e w' ⟨rfl, rfl⟩)
        | (go_at_call 53; refine (ownHost_any _ h _ (hostIn_below HH.out B1) HS.out).mono ?_; rintro e w2 ⟨u, rfl, hu, hb⟩
           clear c0 c1 c2 c3 c4
           have B2 : Below w.heap.size w w2 := below_step B1 hb
           have T2 := whole_b hb T1
           have HU2 := Lib.hid hu
           have HUF := hu
           obtain ⟨M1, m1, M2, m2, M3, m3, M4, m4, rfl⟩ := hostIn_form (hostOf_in hu)
           obtain ⟨r0, r1, r2, r3, r4⟩ := five_cells T2
           have fr := whole_free T2
           have z2 := whole_lt T2
           have z3 : w1.heap.size ≤ w2.heap.size := hb.size
           clear hb hu
           obtain ⟨x', y', z', q', he, hx, _⟩ := HUF
           simp only [Value.agg.injEq, Array.mk.injEq, List.cons.injEq, and_true, true_and] at he
           obtain ⟨rfl, rfl, rfl, rfl⟩ := he
           obtain ⟨g, m', hM, hg1, hg2, _⟩ := borow_form hx hgl.out
           simp only [Value.slice.injEq, true_and] at hM
           obtain ⟨rfl, rfl⟩ := hM
           have ko := borow_cell hx k hk.out
           have kf := borow_free hx k
           have ne0 : g ≠ w.heap.size + 1 := by omega
           have ne1 : w.heap.size + 1 ≠ g := by omega
           have ne2 : g ≠ w2.heap.size := by omega
           have ne3 : w2.heap.size ≠ g := by omega
           clear hx))
      refine bodyPost_ret (v := .tuple #[.agg #[.slice (some ⟨g, 0, none⟩) h.g.length m1, .slice M2 h.s.length m2, .slice M3 h.n.length m3, .int .i64 h.c, .slice M4 h.d.length m4], .int .i64 0]) (by simp [results, Try.results15, go_sem, *]) rfl ?_
      rw [R.out]
      refine ⟨_, rfl, hostOf_top (hi := w2.heap.size) (hostOf_base (lo := w1.heap.size) ?_ (by omega)) (by simp; try omega), ?_⟩
      · repeat (first | with_reducible refine hostOf_alloc ?_ _ | ((with_reducible refine hostOf_store ?_ ?hh); case hh => omega))
        exact hostOf_grant yes HU2.out
      · repeat (first | with_reducible exact B2 | with_reducible refine Below.setCell ?_ (by simp; try omega) _ | with_reducible refine below_alloc ?_ _)

set_option maxRecDepth 100000 in
set_option maxHeartbeats 2000000 in
theorem iAnswer_any (v : Value) (h : Ht) (n : Int) (w : World) (hv : HostIn w v h) :
    Calls Try.prog 17 #[v, .int .i64 n] w (HResOf w (hAnswer h n)) := by
  have HH := Lib.hid hv
  obtain ⟨A1, k1, A2, k2, A3, k3, A4, k4, rfl⟩ := hostIn_form hv
  clear hv
  cases t0 : hOK h
  · have R : Hid (hAnswer h n = (noHt, 1)) := Lib.hid (by unfold hAnswer; rw [t0]; rfl)
    go_enter Try.func17, Try.ntmps17
    go_wp2_with fail
    refine (iHOK_any _ h _ (hostIn_below HH.out (below_alloc (below_alloc (Below.refl _ _) _) _))).mono ?_
    rintro e w1 ⟨rfl, hb⟩
    have B1 : Below w.heap.size w w1 := below_step (below_alloc (below_alloc (Below.refl _ _) _) _) hb
    have V1 := whole_b hb (whole_alloc (whole_new w _ _) _)
    have T1 := whole_b hb (whole_new1 w _ _ _)
    have z1 := whole_lt T1
    clear hb
    rw [t0]
    obtain ⟨r0, r1, r2, r3, r4⟩ := five_cells T1
    have fr := whole_free T1
    go_wp2
    refine bodyPost_ret (v := .tuple #[.agg #[.slice none 0 0, .slice none 0 0, .slice none 0 0, .int .i64 0, .slice none 0 0], .int .i64 1]) (by simp [results, Try.results17, go_sem, *]) rfl ?_
    rw [R.out]
    refine hres_none ?_
    repeat (first | with_reducible exact B1 | with_reducible refine Below.setCell ?_ (by simp; try omega) _)
  · have hf := hOK_fine t0
    cases t1 : cellB n
    · have R : Hid (hAnswer h n = (noHt, 4)) := Lib.hid (by unfold hAnswer; rw [t0, t1]; rfl)
      clear hf
      go_enter Try.func17, Try.ntmps17
      go_wp2_with fail
      refine (iHOK_any _ h _ (hostIn_below HH.out (below_alloc (below_alloc (Below.refl _ _) _) _))).mono ?_
      rintro e w1 ⟨rfl, hb⟩
      have B1 : Below w.heap.size w w1 := below_step (below_alloc (below_alloc (Below.refl _ _) _) _) hb
      have V1 := whole_b hb (whole_alloc (whole_new w _ _) _)
      have T1 := whole_b hb (whole_new1 w _ _ _)
      have z1 := whole_lt T1
      clear hb
      rw [t0]
      obtain ⟨r0, r1, r2, r3, r4⟩ := five_cells T1
      have fr := whole_free T1
      go_wp2_with (go_at_call 66; refine (cellOK_any _ _).mono ?_; rintro e w' ⟨rfl, rfl⟩)
      refine bodyPost_ret (v := .tuple #[.agg #[.slice none 0 0, .slice none 0 0, .slice none 0 0, .int .i64 0, .slice none 0 0], .int .i64 4]) (by simp [results, Try.results17, go_sem, *]) rfl ?_
      rw [R.out]
      refine hres_none ?_
      repeat (first | with_reducible exact B1 | with_reducible refine Below.setCell ?_ (by simp; try omega) _)
    · have HS := Lib.hid (fineH_small hf)
      have HN := Lib.hid (fineH_n hf)
      clear hf
      by_cases h20 : h.n.length = 20
      · have R : Hid (hAnswer h n = (h, 7)) := Lib.hid (by unfold hAnswer; rw [t0, t1]; simp [h20])
        have u0 : (20 : Int) ≤ h.n.length := by omega
        have u1 : ¬ ((h.n.length : Int) < 20) := by omega
        clear h20
        go_enter Try.func17, Try.ntmps17
        go_wp2_with fail
        refine (iHOK_any _ h _ (hostIn_below HH.out (below_alloc (below_alloc (Below.refl _ _) _) _))).mono ?_
        rintro e w1 ⟨rfl, hb⟩
        have B1 : Below w.heap.size w w1 := below_step (below_alloc (below_alloc (Below.refl _ _) _) _) hb
        have V1 := whole_b hb (whole_alloc (whole_new w _ _) _)
        have T1 := whole_b hb (whole_new1 w _ _ _)
        have z1 := whole_lt T1
        clear hb
        rw [t0]
        obtain ⟨c0, c1, c2, c3, c4⟩ := five_cells V1
        go_wp2_with (first
          | (go_at_call 66; refine (cellOK_any _ _).mono ?_; rintro e w' ⟨rfl, rfl⟩)
          | (go_at_call 53; refine (ownHost_any _ h _ (hostIn_below HH.out B1) HS.out).mono ?_; rintro e w2 ⟨u, rfl, hu, hb⟩
             clear c0 c1 c2 c3 c4
             have B2 : Below w.heap.size w w2 := below_step B1 hb
             have T2 := whole_b hb T1
             have HU2 := Lib.hid hu
             have HUF := hu
             obtain ⟨M1, m1, M2, m2, M3, m3, M4, m4, rfl⟩ := hostIn_form (hostOf_in hu)
             obtain ⟨r0, r1, r2, r3, r4⟩ := five_cells T2
             have fr := whole_free T2
             have z2 := whole_lt T2
             have z3 : w1.heap.size ≤ w2.heap.size := hb.size
             clear hb hu))
        refine bodyPost_ret (v := .tuple #[.agg #[.slice M1 h.g.length m1, .slice M2 h.s.length m2, .slice M3 h.n.length m3, .int .i64 h.c, .slice M4 h.d.length m4], .int .i64 7]) (by simp [results, Try.results17, go_sem, *]) rfl ?_
        rw [R.out]
        refine ⟨_, rfl, hostOf_top (hi := w2.heap.size) (hostOf_base (lo := w1.heap.size) ?_ (by omega)) (by simp; try omega), ?_⟩
        · show HostOf _ _ _ _ h
          repeat (first | with_reducible exact HU2.out | with_reducible refine hostOf_alloc ?_ _ | ((with_reducible refine hostOf_store ?_ ?hh); case hh => omega))
        · repeat (first | with_reducible exact B2 | with_reducible refine Below.setCell ?_ (by simp; try omega) _ | with_reducible refine below_alloc ?_ _)
      · have R : Hid (hAnswer h n = ({ h with n := h.n ++ [n] }, 0)) := Lib.hid (by unfold hAnswer; rw [t0, t1]; simp [h20])
        have u0 : ¬ (20 : Int) ≤ h.n.length := by have := HN.out; omega
        have u1 : (h.n.length : Int) < 20 := by have := HN.out; omega
        clear h20
        go_enter Try.func17, Try.ntmps17
        go_wp2_with fail
        refine (iHOK_any _ h _ (hostIn_below HH.out (below_alloc (below_alloc (Below.refl _ _) _) _))).mono ?_
        rintro e w1 ⟨rfl, hb⟩
        have B1 : Below w.heap.size w w1 := below_step (below_alloc (below_alloc (Below.refl _ _) _) _) hb
        have V1 := whole_b hb (whole_alloc (whole_new w _ _) _)
        have T1 := whole_b hb (whole_new1 w _ _ _)
        have z1 := whole_lt T1
        clear hb
        rw [t0]
        obtain ⟨c0, c1, c2, c3, c4⟩ := five_cells V1
        go_wp2_with (first
          | (go_at_call 66; refine (cellOK_any _ _).mono ?_; rintro e w' ⟨rfl, rfl⟩)
          | (go_at_call 53; refine (ownHost_any _ h _ (hostIn_below HH.out B1) HS.out).mono ?_; rintro e w2 ⟨u, rfl, hu, hb⟩
             clear c0 c1 c2 c3 c4
             have B2 : Below w.heap.size w w2 := below_step B1 hb
             have T2 := whole_b hb T1
             have HU2 := Lib.hid hu
             have HUF := hu
             obtain ⟨M1, m1, M2, m2, M3, m3, M4, m4, rfl⟩ := hostIn_form (hostOf_in hu)
             obtain ⟨r0, r1, r2, r3, r4⟩ := five_cells T2
             have fr := whole_free T2
             have z2 := whole_lt T2
             have z3 : w1.heap.size ≤ w2.heap.size := hb.size
             clear hb hu
             have X3 := whole_new w2 27 #[.slice M1 h.g.length m1, .slice M2 h.s.length m2, .slice M3 h.n.length m3, .int .i64 h.c, .slice M4 h.d.length m4]
             have H3 := Lib.hid (hostOf_alloc HU2.out (.cells #[.slice M1 h.g.length m1, .slice M2 h.s.length m2, .slice M3 h.n.length m3, .int .i64 h.c, .slice M4 h.d.length m4] 27))
             have T3 := whole_alloc T2 (.cells #[.slice M1 h.g.length m1, .slice M2 h.s.length m2, .slice M3 h.n.length m3, .int .i64 h.c, .slice M4 h.d.length m4] 27)
             have RN := Lib.hid (hostOf_thirdRow H3.out)
             have B3 := below_alloc B2 (.cells #[.slice M1 h.g.length m1, .slice M2 h.s.length m2, .slice M3 h.n.length m3, .int .i64 h.c, .slice M4 h.d.length m4] 27)
             have XX := Lib.hid X3
             have TT := Lib.hid T3
             have BB3 := Lib.hid B3
             clear X3 T3 B3 HUF)
          | (at_builtin; refine wpList_append_ints rfl (.tmp 23) (.tmp 25) rfl rfl w1.heap.size (.slice M3 h.n.length m3) h.n (row_alloc RN.out _) (.slice (some ⟨w2.heap.size + 1, 0, none⟩) 1 1) [n] (ints_oneAt _ n (by simp)) rfl rfl (by have := HN.out; simp; omega) (by simp; omega) ?_
             clear r0 r1 r2 r3 r4 fr
             intro v2 w4 hr hg hat
             have H4 := Lib.hid (hostOf_third (hostOf_alloc H3.out _) hg hr (fun g e => by
               rcases hat with hat | hat
               · exact .inl (by rw [← hat]; exact e)
               · rw [hat] at e; injection e with e; right; subst e; simp; omega) (by have := hg.size; simp at this; omega))
             obtain ⟨_, C3, j3, rfl, _⟩ := row_ints hr
             have NM := Lib.hid (fun g (hm : Mine (.agg #[.slice M1 h.g.length m1, .slice M2 h.s.length m2, .slice C3 (h.n ++ [n]).length j3, .int .i64 h.c, .slice M4 h.d.length m4]) g) => show g ≠ w2.heap.size from by
               obtain ⟨u, hu, e⟩ := (mine_agg (l := [.slice M1 h.g.length m1, .slice M2 h.s.length m2, .slice C3 (h.n ++ [n]).length j3, .int .i64 h.c, .slice M4 h.d.length m4])).1 hm
               have old : ∀ x ∈ ([.slice M1 h.g.length m1, .slice M2 h.s.length m2, .slice M3 h.n.length m3, .int .i64 h.c, .slice M4 h.d.length m4] : List Value), x.ownBlock = some g → g < w2.heap.size := fun x hx e => (hostOf_mine HU2.out ((mine_agg (l := [.slice M1 h.g.length m1, .slice M2 h.s.length m2, .slice M3 h.n.length m3, .int .i64 h.c, .slice M4 h.d.length m4])).2 ⟨x, hx, e⟩)).2
               simp only [List.mem_cons, List.not_mem_nil, or_false] at hu
               rcases hu with rfl | rfl | rfl | rfl | rfl
               · have := old _ (by simp) e; omega
               · have := old _ (by simp) e; omega
               · rcases hat with hat | hat
                 · rw [hat] at e; have := old (.slice M3 h.n.length m3) (by simp) e; omega
                 · rw [hat] at e; injection e with e; simp at e; omega
               · simp [Value.ownBlock] at e
               · have := old _ (by simp) e; omega)
             have nx : some w2.heap.size ≠ (Value.slice M3 h.n.length m3).ownBlock := fun e => by
               have q := hostOf_mine (g := w2.heap.size) HU2.out ((mine_agg (l := [.slice M1 h.g.length m1, .slice M2 h.s.length m2, .slice M3 h.n.length m3, .int .i64 h.c, .slice M4 h.d.length m4])).2 ⟨.slice M3 h.n.length m3, by simp, e.symm⟩)
               omega
             have nt : some (w.heap.size + 1) ≠ (Value.slice M3 h.n.length m3).ownBlock := fun e => by have := (row_lt RN.out _ e.symm).1; omega
             have X4 := whole_keep (whole_alloc XX.out _) (hg.block _ (by simp <;> omega) nx)
             have T4 := whole_keep (whole_alloc TT.out _) (hg.block _ (by simp; omega) nt)
             have B4 : Below w.heap.size w w4 := (below_alloc BB3.out _).grown hg (by simp; omega) (fun k hk => by have := (row_lt RN.out k hk).1; omega)
             obtain ⟨c0, c1, c2, c3, c4⟩ := five_cells X4
             obtain ⟨r0, r1, r2, r3, r4⟩ := five_cells T4
             have fv := whole_free X4
             have fr := whole_free T4
             have z4 := whole_lt X4
             clear hr hg hat))
        refine bodyPost_ret (v := .tuple #[.agg #[.slice M1 h.g.length m1, .slice M2 h.s.length m2, .slice C3 (h.n ++ [n]).length j3, .int .i64 h.c, .slice M4 h.d.length m4], .int .i64 0]) (by simp [results, Try.results17, go_sem, *]) rfl ?_
        rw [R.out]
        refine ⟨_, rfl, ?_, ?_⟩
        · refine hostOf_top (hi := w4.heap.size) ?_ (by simp)
          show HostOf _ _ _ _ { h with n := h.n ++ [n] }
          refine hostOf_base (lo := w1.heap.size) ?_ (by omega)
          repeat (first | with_reducible exact H4.out | ((with_reducible refine hostOf_store ?_ ?hh); case hh => omega) | with_reducible refine hostOf_off ?_ NM.out)
        · repeat (first | with_reducible exact B4 | with_reducible refine Below.setCell ?_ (by simp; try omega) _)

theorem hGrant_small {h : Ht} (hs : SmallH h) (c : Int) (yes : Bool) : SmallH (hGrant h c yes).1 := by
  obtain ⟨h1, h2, h3, h4⟩ := hs
  unfold hGrant
  split
  · split
    · exact ⟨by simpa using h1, h2, h3, h4⟩
    · exact small_noHt
  · exact small_noHt

theorem hAnswer_small {h : Ht} (hs : SmallH h) (n : Int) : SmallH (hAnswer h n).1 := by
  obtain ⟨h1, h2, h3, h4⟩ := id hs
  unfold hAnswer
  split
  · rename_i q
    have hn := fineH_n (hOK_fine q)
    split
    · split
      · exact hs
      · exact ⟨h1, h2, by simp; omega, h4⟩
    · exact small_noHt
  · exact small_noHt

theorem small_newHt : SmallH newHt := by unfold SmallH newHt; decide

end Go.Proofs.Ytkcogfgjabemfaa

namespace Go.Proofs.Ytkcogfgjabemfaa
open Go.RowKit
set_option linter.unusedVariables false
set_option linter.unusedSimpArgs false

instance : DecidableEq Dd := fun x y => if h : x.p = y.p ∧ x.a = y.a ∧ x.b = y.b ∧ x.r = y.r then isTrue (by cases x; cases y; simp_all) else isFalse (fun e => h (by subst e; simp))

/-- The first k deeds are alike. -/
def DSameTo (P Q : List Dd) (k : Nat) : Prop := P.take k = Q.take k

theorem dsameTo_next {P Q : List Dd} {k : Nat} (h : DSameTo P Q k) (hp : k < P.length) (hq : k < Q.length) (e : P[k] = Q[k]) : DSameTo P Q (k + 1) := by
  unfold DSameTo at *
  rw [List.take_succ_eq_append_getElem hp, List.take_succ_eq_append_getElem hq, h, e]

theorem dsameTo_end {P Q : List Dd} (hl : P.length = Q.length) (h : DSameTo P Q P.length) : (P == Q) = true := by
  unfold DSameTo at h
  rw [List.take_length, hl, List.take_length] at h
  rw [beq_iff_eq]; exact h

theorem dsame_len {P Q : List Dd} (hl : P.length ≠ Q.length) : (P == Q) = false := by
  rw [beq_eq_false_iff_ne]; exact fun e => hl (by rw [e])

theorem dsame_not {P Q : List Dd} {k : Nat} (hp : k < P.length) (hq : k < Q.length) (e : P[k] ≠ Q[k]) : (P == Q) = false := by
  rw [beq_eq_false_iff_ne]; exact fun h => e (by subst h; rfl)

theorem dd_ne {x y : Dd} (h : x ≠ y) : x.p ≠ y.p ∨ (x.p = y.p ∧ x.a ≠ y.a) ∨ (x.p = y.p ∧ x.a = y.a ∧ x.b ≠ y.b) ∨ (x.p = y.p ∧ x.a = y.a ∧ x.b = y.b ∧ x.r ≠ y.r) := by
  by_cases h1 : x.p = y.p
  · by_cases h2 : x.a = y.a
    · by_cases h3 : x.b = y.b
      · by_cases h4 : x.r = y.r
        · exact absurd (by cases x; cases y; simp_all) h
        · exact .inr (.inr (.inr ⟨h1, h2, h3, h4⟩))
      · exact .inr (.inr (.inl ⟨h1, h2, h3⟩))
    · exact .inr (.inl ⟨h1, h2⟩)
  · exact .inl h1

set_option maxRecDepth 100000 in
set_option maxHeartbeats 1000000 in
theorem slEqualB_any (u v : Value) (P Q : List Bool) (w : World) (hu : Bols w u P) (hv : Bols w v Q) :
    Calls Try.prog 62 #[u, v] w (BoolOf w (P == Q)) := by
  obtain ⟨pm, A, ca, rfl, ha⟩ := hu
  obtain ⟨qm, B, cb, rfl, hb⟩ := hv
  unfold maxLen at pm qm
  by_cases hl : P.length = Q.length
  · have z0 : ((P.length : Int) != (Q.length : Int)) = false := by simp [hl]
    have LE := Lib.hid hl
    have hlq : P.length ≤ Q.length := by omega
    have HA := Lib.hid ha
    have HB := Lib.hid hb
    clear hl ha hb
    go_enter Try.func62, Try.ntmps62
    go_wp2
    clear z0
    go_loopw [5, 13] (fun _ i wr => ∃ k n : Nat, k ≤ P.length ∧ i = .int .i64 k ∧ BSameTo P Q k ∧ wr = w.drewN n) (fun _ i _ => P.length - (intOf i).toNat)
    case atStart => exact ⟨0, 0, Nat.zero_le _, rfl, by unfold BSameTo; simp, rfl⟩
    case round =>
      obtain ⟨k, n, hk, rfl, hat, rfl⟩ := hrel
      have AT := Lib.hid hat
      clear hat
      by_cases hlt : k < P.length
      · have hlt2 : k < Q.length := by omega
        obtain ⟨ga, rfl, hca⟩ := HA.out (by omega)
        obtain ⟨gb, rfl, hcb⟩ := HB.out (by omega)
        have ka := hca k hlt
        have kb := hcb k hlt2
        clear hca hcb
        by_cases e : P[k] = Q[k]
        · have NX := Lib.hid (bsameTo_next AT.out hlt hlt2 e)
          rw [← e] at kb
          clear e
          generalize P[k] = x at *
          cases x
          all_goals
            go_wp2
            go_quiet (fail)
            go_wp2
            go_roundw
            case rel => exact ⟨k + 1, _, by omega, by go_num, NX.out, rfl⟩
            case measure => simp [intOf]; omega
        · have NO := Lib.hid (bsame_not hlt hlt2 e)
          have e2 : Q[k] = !P[k] := by cases h : P[k] <;> cases h2 : Q[k] <;> simp_all
          rw [e2] at kb
          clear e e2
          generalize P[k] = x at *
          cases x
          all_goals
            simp only [Bool.not_true, Bool.not_false] at kb
            go_wp2
            go_quiet (fail)
            go_wp2
            go_ret
            exact ⟨_, ret_bool NO.out.symm, by rw [World.drewN_drewN]⟩
      · obtain rfl : k = P.length := by omega
        have E := Lib.hid (bsameTo_end LE.out AT.out)
        go_wp2
        go_ret
        exact ⟨_, ret_bool E.out.symm, rfl⟩
  · have z0 : ((P.length : Int) != (Q.length : Int)) = true := by rw [bne_iff_ne]; omega
    have E := Lib.hid (bsame_len hl)
    clear hl ha hb
    go_enter Try.func62, Try.ntmps62
    go_wp2
    go_ret
    exact ⟨0, ret_bool E.out.symm, rfl⟩

set_option maxRecDepth 100000 in
set_option maxHeartbeats 1000000 in
theorem slEqualD_any (u v : Value) (P Q : List Dd) (w : World) (hu : Dds w u P) (hv : Dds w v Q) :
    Calls Try.prog 64 #[u, v] w (BoolOf w (P == Q)) := by
  obtain ⟨pm, A, ca, rfl, ha⟩ := hu
  obtain ⟨qm, B, cb, rfl, hb⟩ := hv
  unfold maxLen at pm qm
  by_cases hl : P.length = Q.length
  · have z0 : ((P.length : Int) != (Q.length : Int)) = false := by simp [hl]
    have LE := Lib.hid hl
    have hlq : P.length ≤ Q.length := by omega
    have HA := Lib.hid ha
    have HB := Lib.hid hb
    clear hl ha hb
    go_enter Try.func64, Try.ntmps64
    go_wp2
    clear z0
    go_loopw [5, 13] (fun _ i wr => ∃ k n : Nat, k ≤ P.length ∧ i = .int .i64 k ∧ DSameTo P Q k ∧ wr = w.drewN n) (fun _ i _ => P.length - (intOf i).toNat)
    case atStart => exact ⟨0, 0, Nat.zero_le _, rfl, by unfold DSameTo; simp, rfl⟩
    case round =>
      obtain ⟨k, n, hk, rfl, hat, rfl⟩ := hrel
      have AT := Lib.hid hat
      clear hat
      by_cases hlt : k < P.length
      · have hlt2 : k < Q.length := by omega
        obtain ⟨ga, rfl, hca2⟩ := HA.out (by omega)
        obtain ⟨gb, rfl, hcb2⟩ := HB.out (by omega)
        have ka := hca2 k hlt
        have kb := hcb2 k hlt2
        clear hca2 hcb2
        by_cases e : P[k] = Q[k]
        · have NX := Lib.hid (dsameTo_next AT.out hlt hlt2 e)
          rw [← e] at kb
          clear e
          generalize P[k] = x at *
          obtain ⟨a0, a1, a2, a3⟩ := ka
          obtain ⟨b0, b1, b2, b3⟩ := kb
          have t0 : (x.p == x.p) = true := by simp
          have t1 : (x.a == x.a) = true := by simp
          have t2 : (x.b == x.b) = true := by simp
          have t3 : (x.r == x.r) = true := by simp
          go_wp2
          go_quiet (fail)
          go_wp2
          go_roundw
          case rel => exact ⟨k + 1, _, by omega, by go_num, NX.out, rfl⟩
          case measure => simp [intOf]; omega
        · have NO := Lib.hid (dsame_not hlt hlt2 e)
          have hne := dd_ne e
          clear e
          generalize P[k] = x at *
          generalize Q[k] = y at *
          obtain ⟨a0, a1, a2, a3⟩ := ka
          obtain ⟨b0, b1, b2, b3⟩ := kb
          rcases hne with q0 | ⟨q0, q1⟩ | ⟨q0, q1, q2⟩ | ⟨q0, q1, q2, q3⟩
          · have t0 : (x.p == y.p) = false := by rw [beq_eq_false_iff_ne]; exact q0
            clear q0
            go_wp2
            go_quiet (fail)
            go_wp2
            go_ret
            exact ⟨_, ret_bool NO.out.symm, by rw [World.drewN_drewN]⟩
          · have t0 : (x.p == y.p) = true := by rw [beq_iff_eq]; exact q0
            have t1 : (x.a == y.a) = false := by rw [beq_eq_false_iff_ne]; exact q1
            clear q0 q1
            go_wp2
            go_quiet (fail)
            go_wp2
            go_ret
            exact ⟨_, ret_bool NO.out.symm, by rw [World.drewN_drewN]⟩
          · have t0 : (x.p == y.p) = true := by rw [beq_iff_eq]; exact q0
            have t1 : (x.a == y.a) = true := by rw [beq_iff_eq]; exact q1
            have t2 : (x.b == y.b) = false := by rw [beq_eq_false_iff_ne]; exact q2
            clear q0 q1 q2
            go_wp2
            go_quiet (fail)
            go_wp2
            go_ret
            exact ⟨_, ret_bool NO.out.symm, by rw [World.drewN_drewN]⟩
          · have t0 : (x.p == y.p) = true := by rw [beq_iff_eq]; exact q0
            have t1 : (x.a == y.a) = true := by rw [beq_iff_eq]; exact q1
            have t2 : (x.b == y.b) = true := by rw [beq_iff_eq]; exact q2
            have t3 : (x.r == y.r) = false := by rw [beq_eq_false_iff_ne]; exact q3
            clear q0 q1 q2 q3
            go_wp2
            go_quiet (fail)
            go_wp2
            go_ret
            exact ⟨_, ret_bool NO.out.symm, by rw [World.drewN_drewN]⟩
      · obtain rfl : k = P.length := by omega
        have E := Lib.hid (dsameTo_end LE.out AT.out)
        go_wp2
        go_ret
        exact ⟨_, ret_bool E.out.symm, rfl⟩
  · have z0 : ((P.length : Int) != (Q.length : Int)) = true := by rw [bne_iff_ne]; omega
    have E := Lib.hid (dsame_len hl)
    clear hl ha hb
    go_enter Try.func64, Try.ntmps64
    go_wp2
    go_ret
    exact ⟨0, ret_bool E.out.symm, rfl⟩

/-- Alike in every field. -/
def hEq (a b : Ht) : Bool := a.s == b.s && a.n == b.n && a.c == b.c && a.g == b.g && a.d == b.d

/-- Both valid, and alike. -/
def hSame (a b : Ht) : Bool := hOK a && (hOK b && hEq a b)

theorem hSame_self {h : Ht} (q : hOK h = true) : hSame h h = true := by unfold hSame hEq; simp [q]

set_option maxRecDepth 100000 in
set_option maxHeartbeats 1000000 in
theorem iSameHost_any (u v : Value) (a b : Ht) (w : World) (hu : HostIn w u a) (hv : HostIn w v b) :
    Calls Try.prog 13 #[u, v] w fun e w' => e = .returned (.bool (hSame a b)) ∧ Below w.heap.size w w' := by
  have HU := Lib.hid hu
  have HV := Lib.hid hv
  obtain ⟨x, y, z, q, rfl, hx, hy, hz, hq⟩ := hu
  obtain ⟨x', y', z', q', rfl, hx', hy', hz', hq'⟩ := hv
  have KX : Hid (∀ W, Below w.heap.size w W → Bols W x a.g ∧ Bols W x' b.g) := Lib.hid fun W h => ⟨bols_below hx h, bols_below hx' h⟩
  have KY : Hid (∀ W, Below w.heap.size w W → Ints W y a.s ∧ Ints W y' b.s) := Lib.hid fun W h => ⟨ints_below hy h, ints_below hy' h⟩
  have KZ : Hid (∀ W, Below w.heap.size w W → Ints W z a.n ∧ Ints W z' b.n) := Lib.hid fun W h => ⟨ints_below hz h, ints_below hz' h⟩
  have KQ : Hid (∀ W, Below w.heap.size w W → Dds W q a.d ∧ Dds W q' b.d) := Lib.hid fun W h => ⟨dds_below hq h, dds_below hq' h⟩
  obtain ⟨l1, A1, k1, rfl, _⟩ := hx
  obtain ⟨l2, A2, k2, rfl, _⟩ := hy
  obtain ⟨l3, A3, k3, rfl, _⟩ := hz
  obtain ⟨l4, A4, k4, rfl, _⟩ := hq
  obtain ⟨l5, B1, j1, rfl, _⟩ := hx'
  obtain ⟨l6, B2, j2, rfl, _⟩ := hy'
  obtain ⟨l7, B3, j3, rfl, _⟩ := hz'
  obtain ⟨l8, B4, j4, rfl, _⟩ := hq'
  unfold maxLen at l1 l2 l3 l4 l5 l6 l7 l8
  clear l1 l2 l3 l4 l5 l6 l7 l8
  cases o1 : hOK a
  · have R : Hid (hSame a b = false) := Lib.hid (by unfold hSame; rw [o1]; rfl)
    go_enter Try.func13, Try.ntmps13
    go_wp2_with (first | (go_at_call 50; first | ((with_reducible refine (iHOK_any (.agg #[.slice A1 a.g.length k1, .slice A2 a.s.length k2, .slice A3 a.n.length k3, .int .i64 a.c, .slice A4 a.d.length k4]) a _ (hostIn_below HU.out (below_alloc (below_alloc (Below.refl _ _) _) _))).mono ?_); rintro e w1 ⟨rfl, hb⟩; have BX := Lib.hid (below_step (below_alloc (below_alloc (Below.refl _ _) _) _) hb); have T1 := whole_b hb (whole_alloc (whole_new w _ _) _); have T2 := whole_b hb (whole_new1 w _ _ _); obtain ⟨c0, c1, c2, c3, c4⟩ := five_cells T1; obtain ⟨d0, d1, d2, d3, d4⟩ := five_cells T2; clear hb; rw [o1]) | ((with_reducible refine (iHOK_any (.agg #[.slice B1 b.g.length j1, .slice B2 b.s.length j2, .slice B3 b.n.length j3, .int .i64 b.c, .slice B4 b.d.length j4]) b _ (hostIn_below HV.out BX.out)).mono ?_); rintro e w2 ⟨rfl, hb⟩; have BY := Lib.hid (below_step BX.out hb); clear c0 c1 c2 c3 c4 d0 d1 d2 d3 d4; have U1 := whole_b hb T1; have U2 := whole_b hb T2; obtain ⟨c0, c1, c2, c3, c4⟩ := five_cells U1; obtain ⟨d0, d1, d2, d3, d4⟩ := five_cells U2; clear hb; rw [o2])))
    go_ret
    exact ⟨ret_bool R.out.symm, BX.out⟩
  cases o2 : hOK b
  · have R : Hid (hSame a b = false) := Lib.hid (by unfold hSame; rw [o1, o2]; rfl)
    go_enter Try.func13, Try.ntmps13
    go_wp2_with (first | (go_at_call 50; first | ((with_reducible refine (iHOK_any (.agg #[.slice A1 a.g.length k1, .slice A2 a.s.length k2, .slice A3 a.n.length k3, .int .i64 a.c, .slice A4 a.d.length k4]) a _ (hostIn_below HU.out (below_alloc (below_alloc (Below.refl _ _) _) _))).mono ?_); rintro e w1 ⟨rfl, hb⟩; have BX := Lib.hid (below_step (below_alloc (below_alloc (Below.refl _ _) _) _) hb); have T1 := whole_b hb (whole_alloc (whole_new w _ _) _); have T2 := whole_b hb (whole_new1 w _ _ _); obtain ⟨c0, c1, c2, c3, c4⟩ := five_cells T1; obtain ⟨d0, d1, d2, d3, d4⟩ := five_cells T2; clear hb; rw [o1]) | ((with_reducible refine (iHOK_any (.agg #[.slice B1 b.g.length j1, .slice B2 b.s.length j2, .slice B3 b.n.length j3, .int .i64 b.c, .slice B4 b.d.length j4]) b _ (hostIn_below HV.out BX.out)).mono ?_); rintro e w2 ⟨rfl, hb⟩; have BY := Lib.hid (below_step BX.out hb); clear c0 c1 c2 c3 c4 d0 d1 d2 d3 d4; have U1 := whole_b hb T1; have U2 := whole_b hb T2; obtain ⟨c0, c1, c2, c3, c4⟩ := five_cells U1; obtain ⟨d0, d1, d2, d3, d4⟩ := five_cells U2; clear hb; rw [o2])))
    go_ret
    exact ⟨ret_bool R.out.symm, BY.out⟩
  cases E3 : a.g == b.g
  · have R : Hid (hSame a b = false) := Lib.hid (by unfold hSame hEq; rw [E3]; simp)
    go_enter Try.func13, Try.ntmps13
    go_wp2_with (first | (go_at_call 50; first | ((with_reducible refine (iHOK_any (.agg #[.slice A1 a.g.length k1, .slice A2 a.s.length k2, .slice A3 a.n.length k3, .int .i64 a.c, .slice A4 a.d.length k4]) a _ (hostIn_below HU.out (below_alloc (below_alloc (Below.refl _ _) _) _))).mono ?_); rintro e w1 ⟨rfl, hb⟩; have BX := Lib.hid (below_step (below_alloc (below_alloc (Below.refl _ _) _) _) hb); have T1 := whole_b hb (whole_alloc (whole_new w _ _) _); have T2 := whole_b hb (whole_new1 w _ _ _); obtain ⟨c0, c1, c2, c3, c4⟩ := five_cells T1; obtain ⟨d0, d1, d2, d3, d4⟩ := five_cells T2; clear hb; rw [o1]) | ((with_reducible refine (iHOK_any (.agg #[.slice B1 b.g.length j1, .slice B2 b.s.length j2, .slice B3 b.n.length j3, .int .i64 b.c, .slice B4 b.d.length j4]) b _ (hostIn_below HV.out BX.out)).mono ?_); rintro e w2 ⟨rfl, hb⟩; have BY := Lib.hid (below_step BX.out hb); clear c0 c1 c2 c3 c4 d0 d1 d2 d3 d4; have U1 := whole_b hb T1; have U2 := whole_b hb T2; obtain ⟨c0, c1, c2, c3, c4⟩ := five_cells U1; obtain ⟨d0, d1, d2, d3, d4⟩ := five_cells U2; clear hb; rw [o2])) | (go_at_call 62; first | ((with_reducible refine (slEqualB_any _ _ a.g b.g _ ?hA ?hB).mono ?_); (case hA => exact (KX.out _ (by repeat (first | with_reducible exact BY.out | with_reducible refine below_drewN ?_ _))).1); (case hB => exact (KX.out _ (by repeat (first | with_reducible exact BY.out | with_reducible refine below_drewN ?_ _))).2); rintro e w' ⟨n, rfl, rfl⟩; rw [E3])) | (go_at_call 63; first | ((with_reducible refine (slEqual_any _ _ a.s b.s _ ?hA ?hB).mono ?_); (case hA => exact (KY.out _ (by repeat (first | with_reducible exact BY.out | with_reducible refine below_drewN ?_ _))).1); (case hB => exact (KY.out _ (by repeat (first | with_reducible exact BY.out | with_reducible refine below_drewN ?_ _))).2); rintro e w' ⟨n, rfl, rfl⟩; rw [E0]) | ((with_reducible refine (slEqual_any _ _ a.n b.n _ ?hA ?hB).mono ?_); (case hA => exact (KZ.out _ (by repeat (first | with_reducible exact BY.out | with_reducible refine below_drewN ?_ _))).1); (case hB => exact (KZ.out _ (by repeat (first | with_reducible exact BY.out | with_reducible refine below_drewN ?_ _))).2); rintro e w' ⟨n, rfl, rfl⟩; rw [E1])) | (go_at_call 64; first | ((with_reducible refine (slEqualD_any _ _ a.d b.d _ ?hA ?hB).mono ?_); (case hA => exact (KQ.out _ (by repeat (first | with_reducible exact BY.out | with_reducible refine below_drewN ?_ _))).1); (case hB => exact (KQ.out _ (by repeat (first | with_reducible exact BY.out | with_reducible refine below_drewN ?_ _))).2); rintro e w' ⟨n, rfl, rfl⟩; rw [E4])))
    go_ret
    exact ⟨ret_bool R.out.symm, (by repeat (first | with_reducible exact BY.out | with_reducible refine below_drewN ?_ _))⟩
  cases E0 : a.s == b.s
  · have R : Hid (hSame a b = false) := Lib.hid (by unfold hSame hEq; rw [E0]; simp)
    go_enter Try.func13, Try.ntmps13
    go_wp2_with (first | (go_at_call 50; first | ((with_reducible refine (iHOK_any (.agg #[.slice A1 a.g.length k1, .slice A2 a.s.length k2, .slice A3 a.n.length k3, .int .i64 a.c, .slice A4 a.d.length k4]) a _ (hostIn_below HU.out (below_alloc (below_alloc (Below.refl _ _) _) _))).mono ?_); rintro e w1 ⟨rfl, hb⟩; have BX := Lib.hid (below_step (below_alloc (below_alloc (Below.refl _ _) _) _) hb); have T1 := whole_b hb (whole_alloc (whole_new w _ _) _); have T2 := whole_b hb (whole_new1 w _ _ _); obtain ⟨c0, c1, c2, c3, c4⟩ := five_cells T1; obtain ⟨d0, d1, d2, d3, d4⟩ := five_cells T2; clear hb; rw [o1]) | ((with_reducible refine (iHOK_any (.agg #[.slice B1 b.g.length j1, .slice B2 b.s.length j2, .slice B3 b.n.length j3, .int .i64 b.c, .slice B4 b.d.length j4]) b _ (hostIn_below HV.out BX.out)).mono ?_); rintro e w2 ⟨rfl, hb⟩; have BY := Lib.hid (below_step BX.out hb); clear c0 c1 c2 c3 c4 d0 d1 d2 d3 d4; have U1 := whole_b hb T1; have U2 := whole_b hb T2; obtain ⟨c0, c1, c2, c3, c4⟩ := five_cells U1; obtain ⟨d0, d1, d2, d3, d4⟩ := five_cells U2; clear hb; rw [o2])) | (go_at_call 62; first | ((with_reducible refine (slEqualB_any _ _ a.g b.g _ ?hA ?hB).mono ?_); (case hA => exact (KX.out _ (by repeat (first | with_reducible exact BY.out | with_reducible refine below_drewN ?_ _))).1); (case hB => exact (KX.out _ (by repeat (first | with_reducible exact BY.out | with_reducible refine below_drewN ?_ _))).2); rintro e w' ⟨n, rfl, rfl⟩; rw [E3])) | (go_at_call 63; first | ((with_reducible refine (slEqual_any _ _ a.s b.s _ ?hA ?hB).mono ?_); (case hA => exact (KY.out _ (by repeat (first | with_reducible exact BY.out | with_reducible refine below_drewN ?_ _))).1); (case hB => exact (KY.out _ (by repeat (first | with_reducible exact BY.out | with_reducible refine below_drewN ?_ _))).2); rintro e w' ⟨n, rfl, rfl⟩; rw [E0]) | ((with_reducible refine (slEqual_any _ _ a.n b.n _ ?hA ?hB).mono ?_); (case hA => exact (KZ.out _ (by repeat (first | with_reducible exact BY.out | with_reducible refine below_drewN ?_ _))).1); (case hB => exact (KZ.out _ (by repeat (first | with_reducible exact BY.out | with_reducible refine below_drewN ?_ _))).2); rintro e w' ⟨n, rfl, rfl⟩; rw [E1])) | (go_at_call 64; first | ((with_reducible refine (slEqualD_any _ _ a.d b.d _ ?hA ?hB).mono ?_); (case hA => exact (KQ.out _ (by repeat (first | with_reducible exact BY.out | with_reducible refine below_drewN ?_ _))).1); (case hB => exact (KQ.out _ (by repeat (first | with_reducible exact BY.out | with_reducible refine below_drewN ?_ _))).2); rintro e w' ⟨n, rfl, rfl⟩; rw [E4])))
    go_ret
    exact ⟨ret_bool R.out.symm, (by repeat (first | with_reducible exact BY.out | with_reducible refine below_drewN ?_ _))⟩
  cases E1 : a.n == b.n
  · have R : Hid (hSame a b = false) := Lib.hid (by unfold hSame hEq; rw [E1]; simp)
    go_enter Try.func13, Try.ntmps13
    go_wp2_with (first | (go_at_call 50; first | ((with_reducible refine (iHOK_any (.agg #[.slice A1 a.g.length k1, .slice A2 a.s.length k2, .slice A3 a.n.length k3, .int .i64 a.c, .slice A4 a.d.length k4]) a _ (hostIn_below HU.out (below_alloc (below_alloc (Below.refl _ _) _) _))).mono ?_); rintro e w1 ⟨rfl, hb⟩; have BX := Lib.hid (below_step (below_alloc (below_alloc (Below.refl _ _) _) _) hb); have T1 := whole_b hb (whole_alloc (whole_new w _ _) _); have T2 := whole_b hb (whole_new1 w _ _ _); obtain ⟨c0, c1, c2, c3, c4⟩ := five_cells T1; obtain ⟨d0, d1, d2, d3, d4⟩ := five_cells T2; clear hb; rw [o1]) | ((with_reducible refine (iHOK_any (.agg #[.slice B1 b.g.length j1, .slice B2 b.s.length j2, .slice B3 b.n.length j3, .int .i64 b.c, .slice B4 b.d.length j4]) b _ (hostIn_below HV.out BX.out)).mono ?_); rintro e w2 ⟨rfl, hb⟩; have BY := Lib.hid (below_step BX.out hb); clear c0 c1 c2 c3 c4 d0 d1 d2 d3 d4; have U1 := whole_b hb T1; have U2 := whole_b hb T2; obtain ⟨c0, c1, c2, c3, c4⟩ := five_cells U1; obtain ⟨d0, d1, d2, d3, d4⟩ := five_cells U2; clear hb; rw [o2])) | (go_at_call 62; first | ((with_reducible refine (slEqualB_any _ _ a.g b.g _ ?hA ?hB).mono ?_); (case hA => exact (KX.out _ (by repeat (first | with_reducible exact BY.out | with_reducible refine below_drewN ?_ _))).1); (case hB => exact (KX.out _ (by repeat (first | with_reducible exact BY.out | with_reducible refine below_drewN ?_ _))).2); rintro e w' ⟨n, rfl, rfl⟩; rw [E3])) | (go_at_call 63; first | ((with_reducible refine (slEqual_any _ _ a.s b.s _ ?hA ?hB).mono ?_); (case hA => exact (KY.out _ (by repeat (first | with_reducible exact BY.out | with_reducible refine below_drewN ?_ _))).1); (case hB => exact (KY.out _ (by repeat (first | with_reducible exact BY.out | with_reducible refine below_drewN ?_ _))).2); rintro e w' ⟨n, rfl, rfl⟩; rw [E0]) | ((with_reducible refine (slEqual_any _ _ a.n b.n _ ?hA ?hB).mono ?_); (case hA => exact (KZ.out _ (by repeat (first | with_reducible exact BY.out | with_reducible refine below_drewN ?_ _))).1); (case hB => exact (KZ.out _ (by repeat (first | with_reducible exact BY.out | with_reducible refine below_drewN ?_ _))).2); rintro e w' ⟨n, rfl, rfl⟩; rw [E1])) | (go_at_call 64; first | ((with_reducible refine (slEqualD_any _ _ a.d b.d _ ?hA ?hB).mono ?_); (case hA => exact (KQ.out _ (by repeat (first | with_reducible exact BY.out | with_reducible refine below_drewN ?_ _))).1); (case hB => exact (KQ.out _ (by repeat (first | with_reducible exact BY.out | with_reducible refine below_drewN ?_ _))).2); rintro e w' ⟨n, rfl, rfl⟩; rw [E4])))
    go_ret
    exact ⟨ret_bool R.out.symm, (by repeat (first | with_reducible exact BY.out | with_reducible refine below_drewN ?_ _))⟩
  by_cases h2 : a.c = b.c
  rotate_left
  · have R : Hid (hSame a b = false) := Lib.hid (by unfold hSame hEq; rw [show (a.c == b.c) = false by rw [beq_eq_false_iff_ne]; exact h2]; simp)
    have u2 : (a.c == b.c) = false := by rw [beq_eq_false_iff_ne]; exact h2
    clear h2
    go_enter Try.func13, Try.ntmps13
    go_wp2_with (first | (go_at_call 50; first | ((with_reducible refine (iHOK_any (.agg #[.slice A1 a.g.length k1, .slice A2 a.s.length k2, .slice A3 a.n.length k3, .int .i64 a.c, .slice A4 a.d.length k4]) a _ (hostIn_below HU.out (below_alloc (below_alloc (Below.refl _ _) _) _))).mono ?_); rintro e w1 ⟨rfl, hb⟩; have BX := Lib.hid (below_step (below_alloc (below_alloc (Below.refl _ _) _) _) hb); have T1 := whole_b hb (whole_alloc (whole_new w _ _) _); have T2 := whole_b hb (whole_new1 w _ _ _); obtain ⟨c0, c1, c2, c3, c4⟩ := five_cells T1; obtain ⟨d0, d1, d2, d3, d4⟩ := five_cells T2; clear hb; rw [o1]) | ((with_reducible refine (iHOK_any (.agg #[.slice B1 b.g.length j1, .slice B2 b.s.length j2, .slice B3 b.n.length j3, .int .i64 b.c, .slice B4 b.d.length j4]) b _ (hostIn_below HV.out BX.out)).mono ?_); rintro e w2 ⟨rfl, hb⟩; have BY := Lib.hid (below_step BX.out hb); clear c0 c1 c2 c3 c4 d0 d1 d2 d3 d4; have U1 := whole_b hb T1; have U2 := whole_b hb T2; obtain ⟨c0, c1, c2, c3, c4⟩ := five_cells U1; obtain ⟨d0, d1, d2, d3, d4⟩ := five_cells U2; clear hb; rw [o2])) | (go_at_call 62; first | ((with_reducible refine (slEqualB_any _ _ a.g b.g _ ?hA ?hB).mono ?_); (case hA => exact (KX.out _ (by repeat (first | with_reducible exact BY.out | with_reducible refine below_drewN ?_ _))).1); (case hB => exact (KX.out _ (by repeat (first | with_reducible exact BY.out | with_reducible refine below_drewN ?_ _))).2); rintro e w' ⟨n, rfl, rfl⟩; rw [E3])) | (go_at_call 63; first | ((with_reducible refine (slEqual_any _ _ a.s b.s _ ?hA ?hB).mono ?_); (case hA => exact (KY.out _ (by repeat (first | with_reducible exact BY.out | with_reducible refine below_drewN ?_ _))).1); (case hB => exact (KY.out _ (by repeat (first | with_reducible exact BY.out | with_reducible refine below_drewN ?_ _))).2); rintro e w' ⟨n, rfl, rfl⟩; rw [E0]) | ((with_reducible refine (slEqual_any _ _ a.n b.n _ ?hA ?hB).mono ?_); (case hA => exact (KZ.out _ (by repeat (first | with_reducible exact BY.out | with_reducible refine below_drewN ?_ _))).1); (case hB => exact (KZ.out _ (by repeat (first | with_reducible exact BY.out | with_reducible refine below_drewN ?_ _))).2); rintro e w' ⟨n, rfl, rfl⟩; rw [E1])) | (go_at_call 64; first | ((with_reducible refine (slEqualD_any _ _ a.d b.d _ ?hA ?hB).mono ?_); (case hA => exact (KQ.out _ (by repeat (first | with_reducible exact BY.out | with_reducible refine below_drewN ?_ _))).1); (case hB => exact (KQ.out _ (by repeat (first | with_reducible exact BY.out | with_reducible refine below_drewN ?_ _))).2); rintro e w' ⟨n, rfl, rfl⟩; rw [E4])))
    go_ret
    exact ⟨ret_bool R.out.symm, (by repeat (first | with_reducible exact BY.out | with_reducible refine below_drewN ?_ _))⟩
  have u2 : (a.c == b.c) = true := by rw [beq_iff_eq]; exact h2
  clear h2
  cases E4 : a.d == b.d
  · have R : Hid (hSame a b = false) := Lib.hid (by unfold hSame hEq; rw [E4]; simp)
    go_enter Try.func13, Try.ntmps13
    go_wp2_with (first | (go_at_call 50; first | ((with_reducible refine (iHOK_any (.agg #[.slice A1 a.g.length k1, .slice A2 a.s.length k2, .slice A3 a.n.length k3, .int .i64 a.c, .slice A4 a.d.length k4]) a _ (hostIn_below HU.out (below_alloc (below_alloc (Below.refl _ _) _) _))).mono ?_); rintro e w1 ⟨rfl, hb⟩; have BX := Lib.hid (below_step (below_alloc (below_alloc (Below.refl _ _) _) _) hb); have T1 := whole_b hb (whole_alloc (whole_new w _ _) _); have T2 := whole_b hb (whole_new1 w _ _ _); obtain ⟨c0, c1, c2, c3, c4⟩ := five_cells T1; obtain ⟨d0, d1, d2, d3, d4⟩ := five_cells T2; clear hb; rw [o1]) | ((with_reducible refine (iHOK_any (.agg #[.slice B1 b.g.length j1, .slice B2 b.s.length j2, .slice B3 b.n.length j3, .int .i64 b.c, .slice B4 b.d.length j4]) b _ (hostIn_below HV.out BX.out)).mono ?_); rintro e w2 ⟨rfl, hb⟩; have BY := Lib.hid (below_step BX.out hb); clear c0 c1 c2 c3 c4 d0 d1 d2 d3 d4; have U1 := whole_b hb T1; have U2 := whole_b hb T2; obtain ⟨c0, c1, c2, c3, c4⟩ := five_cells U1; obtain ⟨d0, d1, d2, d3, d4⟩ := five_cells U2; clear hb; rw [o2])) | (go_at_call 62; first | ((with_reducible refine (slEqualB_any _ _ a.g b.g _ ?hA ?hB).mono ?_); (case hA => exact (KX.out _ (by repeat (first | with_reducible exact BY.out | with_reducible refine below_drewN ?_ _))).1); (case hB => exact (KX.out _ (by repeat (first | with_reducible exact BY.out | with_reducible refine below_drewN ?_ _))).2); rintro e w' ⟨n, rfl, rfl⟩; rw [E3])) | (go_at_call 63; first | ((with_reducible refine (slEqual_any _ _ a.s b.s _ ?hA ?hB).mono ?_); (case hA => exact (KY.out _ (by repeat (first | with_reducible exact BY.out | with_reducible refine below_drewN ?_ _))).1); (case hB => exact (KY.out _ (by repeat (first | with_reducible exact BY.out | with_reducible refine below_drewN ?_ _))).2); rintro e w' ⟨n, rfl, rfl⟩; rw [E0]) | ((with_reducible refine (slEqual_any _ _ a.n b.n _ ?hA ?hB).mono ?_); (case hA => exact (KZ.out _ (by repeat (first | with_reducible exact BY.out | with_reducible refine below_drewN ?_ _))).1); (case hB => exact (KZ.out _ (by repeat (first | with_reducible exact BY.out | with_reducible refine below_drewN ?_ _))).2); rintro e w' ⟨n, rfl, rfl⟩; rw [E1])) | (go_at_call 64; first | ((with_reducible refine (slEqualD_any _ _ a.d b.d _ ?hA ?hB).mono ?_); (case hA => exact (KQ.out _ (by repeat (first | with_reducible exact BY.out | with_reducible refine below_drewN ?_ _))).1); (case hB => exact (KQ.out _ (by repeat (first | with_reducible exact BY.out | with_reducible refine below_drewN ?_ _))).2); rintro e w' ⟨n, rfl, rfl⟩; rw [E4])))
    go_ret
    exact ⟨ret_bool R.out.symm, (by repeat (first | with_reducible exact BY.out | with_reducible refine below_drewN ?_ _))⟩
  have R : Hid (hSame a b = true) := Lib.hid (by unfold hSame hEq; rw [o1, o2, E0, E1, E3, E4, u2]; rfl)
  go_enter Try.func13, Try.ntmps13
  go_wp2_with (first | (go_at_call 50; first | ((with_reducible refine (iHOK_any (.agg #[.slice A1 a.g.length k1, .slice A2 a.s.length k2, .slice A3 a.n.length k3, .int .i64 a.c, .slice A4 a.d.length k4]) a _ (hostIn_below HU.out (below_alloc (below_alloc (Below.refl _ _) _) _))).mono ?_); rintro e w1 ⟨rfl, hb⟩; have BX := Lib.hid (below_step (below_alloc (below_alloc (Below.refl _ _) _) _) hb); have T1 := whole_b hb (whole_alloc (whole_new w _ _) _); have T2 := whole_b hb (whole_new1 w _ _ _); obtain ⟨c0, c1, c2, c3, c4⟩ := five_cells T1; obtain ⟨d0, d1, d2, d3, d4⟩ := five_cells T2; clear hb; rw [o1]) | ((with_reducible refine (iHOK_any (.agg #[.slice B1 b.g.length j1, .slice B2 b.s.length j2, .slice B3 b.n.length j3, .int .i64 b.c, .slice B4 b.d.length j4]) b _ (hostIn_below HV.out BX.out)).mono ?_); rintro e w2 ⟨rfl, hb⟩; have BY := Lib.hid (below_step BX.out hb); clear c0 c1 c2 c3 c4 d0 d1 d2 d3 d4; have U1 := whole_b hb T1; have U2 := whole_b hb T2; obtain ⟨c0, c1, c2, c3, c4⟩ := five_cells U1; obtain ⟨d0, d1, d2, d3, d4⟩ := five_cells U2; clear hb; rw [o2])) | (go_at_call 62; first | ((with_reducible refine (slEqualB_any _ _ a.g b.g _ ?hA ?hB).mono ?_); (case hA => exact (KX.out _ (by repeat (first | with_reducible exact BY.out | with_reducible refine below_drewN ?_ _))).1); (case hB => exact (KX.out _ (by repeat (first | with_reducible exact BY.out | with_reducible refine below_drewN ?_ _))).2); rintro e w' ⟨n, rfl, rfl⟩; rw [E3])) | (go_at_call 63; first | ((with_reducible refine (slEqual_any _ _ a.s b.s _ ?hA ?hB).mono ?_); (case hA => exact (KY.out _ (by repeat (first | with_reducible exact BY.out | with_reducible refine below_drewN ?_ _))).1); (case hB => exact (KY.out _ (by repeat (first | with_reducible exact BY.out | with_reducible refine below_drewN ?_ _))).2); rintro e w' ⟨n, rfl, rfl⟩; rw [E0]) | ((with_reducible refine (slEqual_any _ _ a.n b.n _ ?hA ?hB).mono ?_); (case hA => exact (KZ.out _ (by repeat (first | with_reducible exact BY.out | with_reducible refine below_drewN ?_ _))).1); (case hB => exact (KZ.out _ (by repeat (first | with_reducible exact BY.out | with_reducible refine below_drewN ?_ _))).2); rintro e w' ⟨n, rfl, rfl⟩; rw [E1])) | (go_at_call 64; first | ((with_reducible refine (slEqualD_any _ _ a.d b.d _ ?hA ?hB).mono ?_); (case hA => exact (KQ.out _ (by repeat (first | with_reducible exact BY.out | with_reducible refine below_drewN ?_ _))).1); (case hB => exact (KQ.out _ (by repeat (first | with_reducible exact BY.out | with_reducible refine below_drewN ?_ _))).2); rintro e w' ⟨n, rfl, rfl⟩; rw [E4])))
  go_ret
  exact ⟨ret_bool R.out.symm, (by repeat (first | with_reducible exact BY.out | with_reducible refine below_drewN ?_ _))⟩

end Go.Proofs.Ytkcogfgjabemfaa

namespace Go.Proofs.Ytkcogfgjabemfaa
open Go.RowKit
set_option linter.unusedVariables false
set_option linter.unusedSimpArgs false

theorem cellsB_getD {l : List Int} (h : cellsB l = true) (i : Nat) : cellB (l.getD i 0) = true := by
  rw [List.getD_eq_getElem?_getD]
  cases e : l[i]? with
  | none => rfl
  | some v => exact cellsB_at h (List.mem_of_getElem? e)

theorem cellsB_tail {l : List Int} (h : cellsB l = true) : cellsB l.tail = true := by
  cases l with
  | nil => rfl
  | cons a l => unfold cellsB at *; rw [List.all_cons] at h; simp only [Bool.and_eq_true] at h; exact h.2

theorem cellsB_head {l : List Int} (h : cellsB l = true) : cellB (l.headD 0) = true := by
  cases l with
  | nil => rfl
  | cons a l => unfold cellsB at *; rw [List.all_cons] at h; simp only [Bool.and_eq_true] at h; exact h.1

theorem ddsB_snoc {l : List Dd} (h : ddsB l = true) {x : Dd} (hx : ddB x = true) : ddsB (l ++ [x]) = true := by
  unfold ddsB at *
  rw [List.all_append, h]
  simp [hx]

theorem dd_of {p a b r : Int} (h0 : 0 ≤ p) (h1 : p ≤ 3) (ha : cellB a = true) (hb : cellB b = true) (hr : cellB r = true) : ddB ⟨p, a, b, r⟩ = true := by
  unfold ddB
  rw [show inB p 0 3 = true from decide_eq_true ⟨h0, h1⟩, ha, hb, hr]
  rfl

theorem fine_deed {h : Ht} (q : HtFine h) (hl : h.d.length < 40) {x : Dd} (hx : ddB x = true) {s n : List Int} (hs : s.length = 8) (hsc : cellsB s = true) (hn : n.length ≤ 20) (hnc : cellsB n = true) : HtFine ⟨h.g, s, n, h.c, h.d ++ [x]⟩ := by
  have q1 := fineH_g q
  have q2 := fineH_c q
  have q3 := ddsB_snoc (fineH_dd q) hx
  exact ⟨q1, hs, hn, by show (h.d ++ [x]).length ≤ 40; simp; omega, hsc, hnc, q2, q3⟩

/-- What a service leaves. -/
def DoFine (h : Ht) (c : Nat) (r : Ht × Int × Int) : Prop := HtFine r.1 ∧ cellB r.2.1 = true ∧ r.2.2 ≠ -100 ∧ (r.2.2 = 0 → ∃ x : Dd, r.1.d = h.d ++ [x] ∧ x.p = c)

theorem hDo_fine {h : Ht} (q : HtFine h) (hl : h.d.length < 40) {c : Nat} (hc : c < 4) {a b : Int} (ha : cellB a = true) (hb : cellB b = true) : DoFine h c (hDo h c a b) := by
  have hg := fineH_s q
  have hn := fineH_n q
  have cz : cellB 0 = true := rfl
  unfold hDo
  by_cases c0 : c = 0
  · rw [if_pos c0]; subst c0
    by_cases hr : inB b 0 7 = true
    · rw [if_pos hr]
      exact ⟨fine_deed q hl (dd_of (by omega) (by omega) hb cz (cellsB_getD (fineH_sc q) _)) hg (fineH_sc q) hn (fineH_nc q), cellsB_getD (fineH_sc q) _, by simp, fun _ => ⟨_, rfl, rfl⟩⟩
    · rw [if_neg hr]
      exact ⟨q, cz, by simp, fun e => by simp at e⟩
  rw [if_neg c0]
  by_cases c1 : c = 1
  · rw [if_pos c1]; subst c1
    by_cases hr : inB b 0 7 = true
    · rw [if_pos hr]
      exact ⟨fine_deed q hl (dd_of (by omega) (by omega) hb ha cz) (by rw [List.length_set]; exact hg) (cellsB_set (fineH_sc q) (cellB_true.1 ha)) hn (fineH_nc q), cz, by simp, fun _ => ⟨_, rfl, rfl⟩⟩
    · rw [if_neg hr]
      exact ⟨q, cz, by simp, fun e => by simp at e⟩
  rw [if_neg c1]
  by_cases c2 : c = 2
  · rw [if_pos c2]; subst c2
    exact ⟨fine_deed q hl (dd_of (by omega) (by omega) hb cz (cellsB_head (fineH_nc q))) hg (fineH_sc q) (by rw [List.length_tail]; omega) (cellsB_tail (fineH_nc q)), cellsB_head (fineH_nc q), by simp, fun _ => ⟨_, rfl, rfl⟩⟩
  rw [if_neg c2]
  have c3 : c = 3 := by omega
  subst c3
  have cc : cellB h.c = true := by
    have h1 := fineH_c q
    unfold inB at h1
    have h2 := of_decide_eq_true h1
    exact cellB_true.2 ⟨by omega, by omega⟩
  exact ⟨fine_deed q hl (dd_of (by omega) (by omega) cz cz cc) hg (fineH_sc q) hn (fineH_nc q), cc, by simp, fun _ => ⟨_, rfl, rfl⟩⟩

theorem dPut_fine {d : Dt} (p : DtFine d) (k : Nat) {L : List Int} (hL : cellsB L = true) : DtFine (dPut d k L).1 := by
  unfold dPut
  split
  · exact p
  · have p1 := fine_bl p
    have p2 := fine_cl p
    have p3 := fine_bc p
    have p4 := fine_cc p
    have p5 := fine_h0 p
    have p6 := fine_h1 p
    have p7 := fine_n p
    have p8 := fine_o p
    refine ⟨?_, p1, p2, ?_, p3, p4, p5, p6, p7, p8⟩
    · show (d.s.take (d.s.length - k) ++ L).length ≤ 32
      rw [List.length_append, List.length_take]; omega
    · show cellsB (d.s.take (d.s.length - k) ++ L) = true
      unfold cellsB at *
      rw [List.all_append, hL, Bool.and_true, List.all_eq_true]
      intro x hx
      exact cellsB_at (fine_sc p) (List.mem_of_mem_take hx)

/-- What a call leaves. -/
def CallFine (h : Ht) (d : Dt) (c : Nat) (r : Ht × Dt × Int) : Prop :=
  HtFine r.1 ∧ DtFine r.2.1 ∧ (h.g.getD c false = false → r = (h, d, -100)) ∧ (h.g.getD c false = true → r.2.2 ≠ -100) ∧ (r.2.2 = 0 → ∃ x : Dd, r.1.d = h.d ++ [x] ∧ x.p = c) ∧ (r.2.2 ≠ 0 → r.1 = h)

theorem hCall_fine {h : Ht} {d : Dt} (q : HtFine h) (p : DtFine d) {c : Nat} (hc : c < 4) : CallFine h d c (hCall h d c) := by
  have hd4 := fineH_d q
  unfold hCall
  by_cases h1 : h.g.getD c false = false
  · rw [if_pos h1]; exact ⟨q, p, fun _ => rfl, fun e => by rw [h1] at e; simp at e, fun e => by simp at e, fun _ => rfl⟩
  rw [if_neg h1]
  have stay : ∀ t : Int, t ≠ -100 → t ≠ 0 → CallFine h d c (h, d, t) := fun t t1 t2 => ⟨q, p, fun e => absurd e h1, fun _ => t1, fun e => absurd e t2, fun _ => rfl⟩
  by_cases h2 : h.d.length = 40
  · rw [if_pos h2]; exact stay _ (by omega) (by omega)
  rw [if_neg h2]
  by_cases h3 : d.s.length < capTakes c
  · rw [if_pos h3]; exact stay _ (by omega) (by omega)
  rw [if_neg h3]
  by_cases h4 : c = 3 ∧ d.s.length = 32
  · rw [if_pos h4]; exact stay _ (by omega) (by omega)
  rw [if_neg h4]
  obtain ⟨f1, f2, f3, f4⟩ := hDo_fine q (by omega) hc (cellB_true.2 (tp_cell p 1)) (cellB_true.2 (tp_cell p 0))
  generalize hDo h c (tp d 1) (tp d 0) = r at *
  by_cases h5 : r.2.2 ≠ 0
  · rw [if_pos h5]; exact stay _ f3 h5
  rw [if_neg h5]
  have z : r.2.2 = 0 := by omega
  by_cases h6 : c = 1
  · rw [if_pos h6]
    exact ⟨f1, dPut_fine p _ rfl, fun e => absurd e h1, fun _ => by simp, fun _ => f4 z, fun e => absurd rfl e⟩
  rw [if_neg h6]
  exact ⟨f1, dPut_fine p _ (by unfold cellsB; simp [f2]), fun e => absurd e h1, fun _ => by simp, fun _ => f4 z, fun e => absurd rfl e⟩

theorem hHost_at {h : Ht} {d : Dt} (q : HtFine h) (p : DtFine d) {c : Nat} (hc : c < 4) : hHost h d c = ((hCall h d c).1, (hCall h d c).2.1, (hCall h d c).2.2, 0) := by
  unfold hHost
  rw [hOK_true q, dOK_true p, if_neg (by simp), if_neg (by rw [show inB (c : Int) 0 3 = true from decide_eq_true ⟨by omega, by omega⟩]; simp)]
  rfl

theorem hGrant_at {h : Ht} (q : HtFine h) {c : Nat} (hc : c < 4) (yes : Bool) : hGrant h c yes = ({ h with g := h.g.set c yes }, 0) := by
  unfold hGrant
  rw [hOK_true q, if_pos rfl, if_pos (show inB (c : Int) 0 3 = true from decide_eq_true ⟨by omega, by omega⟩)]
  rfl

theorem grant_fine {h : Ht} (q : HtFine h) (c : Nat) (yes : Bool) : HtFine { h with g := h.g.set c yes } := by
  have q0 := fineH_g q
  have q1 := fineH_s q
  have q2 := fineH_n q
  have q3 := fineH_d q
  have q4 := fineH_sc q
  have q5 := fineH_nc q
  have q6 := fineH_c q
  have q7 := fineH_dd q
  exact ⟨by show (h.g.set c yes).length = 4; rw [List.length_set]; exact q0, q1, q2, q3, q4, q5, q6, q7⟩

theorem granted {h : Ht} (q : HtFine h) {c : Nat} (hc : c < 4) (yes : Bool) : ({ h with g := h.g.set c yes } : Ht).g.getD c false = yes := by
  have hl := fineH_g q
  show (h.g.set c yes).getD c false = yes
  rw [List.getD_eq_getElem?_getD, List.getElem?_set_self (by omega)]
  rfl

theorem sameV_same {d : Dt} (p : DtFine d) : sameV d d = true := sameV_self p

/-- What a host drawn out of a code leaves. -/
def DrawnH (w : World) (e : Ending) (w' : World) : Prop := ∃ u h, e = .returned u ∧ HtFine h ∧ h.n.length < 20 ∧ HostOf w' w.heap.size w'.heap.size u h ∧ Below w.heap.size w w'

set_option maxRecDepth 100000 in
set_option maxHeartbeats 2000000 in
theorem hostDrawn_any (a : Option Addr) (len cap : Nat) (zs : List Int) (w : World) (h : BRow w a len cap zs) (hl : len ≤ 9223372036854775807) :
    Calls Try.prog 9 #[.slice a len cap] w (DrawnH w) := by
  have HB := Lib.hid h
  clear h
  go_enter Try.func9, Try.ntmps9
  go_wp2_with fail
  refine (source_any _ _ _ _ hl).mono ?_
  rintro e w' ⟨rfl, rfl⟩
  go_wp2_with fail
  refine (host_drew _ a len cap zs _ (by
                                               have hsn := src_new (brow_alloc HB.out (.cells #[.slice none 0 0, .slice none 0 0, .slice none 0 0, .int .i64 0, .slice none 0 0] 27))
                                               have e : ∀ o : Obj, (w.alloc o).heap.size = w.heap.size + 1 := fun o => by simp
                                               rw [e] at hsn; exact hsn)).mono ?_
  rintro e m ⟨u, d, rfl, hd, h20, hu, hg⟩
  obtain ⟨C1, j1, C2, j2, C3, j3, C4, j4, rfl⟩ := hostIn_form (hostOf_in hu)
  have hsz : w.heap.size + 1 + 1 ≤ m.heap.size := by have := hg.size; simpa using this
  have T := whole_keep (whole_alloc (whole_new w _ _) _) (hg.block _ (by simp; omega) (by simp))
  have B : Below w.heap.size w m := ((below_alloc (below_alloc (Below.refl _ _) _) _)).grown hg (by simp; omega) (fun k hk => by cases hk; omega)
  have D := Lib.hid hd
  clear hg hd
  obtain ⟨r0, r1, r2, r3, r4⟩ := five_cells T
  have fr := whole_free T
  go_wp2
  refine bodyPost_ret (v := .agg #[.slice C1 d.g.length j1, .slice C2 d.s.length j2, .slice C3 d.n.length j3, .int .i64 d.c, .slice C4 d.d.length j4]) (by simp [results, Try.results9, go_sem, *]) rfl ⟨_, d, rfl, D.out, h20, ?_, ?_⟩
  · refine hostOf_top (hostOf_base (hostOf_keep (lo := w.heap.size + 1 + 1) (by simpa using hu) (fun g h1 h2 h3 => ?_)) (by omega)) (by simp)
    iterate 5 rw [Below.heap_setCell _ _ _ _ (by show g ≠ w.heap.size; omega)]
  · repeat (first | with_reducible exact B | with_reducible refine Below.setCell ?_ (by simp) _)

end Go.Proofs.Ytkcogfgjabemfaa

namespace Go.Proofs.Ytkcogfgjabemfaa
open Go.RowKit
set_option linter.unusedVariables false
set_option linter.unusedSimpArgs false

theorem size_H : (Try.prog.info? 27).map (·.size) = some 5 := by kernel_rfl

theorem size_D : (Try.prog.info? 30).map (·.size) = some 6 := by kernel_rfl

/-- A row of five cells, each of one cell. -/
def RowH (cs : Array Value) : Prop := cs.size = 5 ∧ cs.all (·.oneCell') = true

/-- A row of six cells, each of one cell. -/
def RowD (cs : Array Value) : Prop := cs.size = 6 ∧ cs.all (·.oneCell') = true

theorem hostIn_row {w : World} {v : Value} {h : Ht} (H : HostIn w v h) : ∃ cs, v = .agg cs ∧ RowH cs := by
  obtain ⟨A1, k1, A2, k2, A3, k3, A4, k4, rfl⟩ := hostIn_form H
  exact ⟨_, rfl, rfl, by simp [Value.oneCell']⟩

theorem datIn_row {w : World} {v : Value} {d : Dt} (H : DatIn w v d) : ∃ cs, v = .agg cs ∧ RowD cs := by
  obtain ⟨C1, j1, C2, j2, C3, j3, rfl, _⟩ := datIn_form H
  exact ⟨_, rfl, rfl, by simp [Value.oneCell']⟩

theorem load_H {ops : Array Oper} {rest : List Oper} {o : Oper} {a : Act} {w : World} {Q : Exit → Act → World → Prop} (x : Operand) (ho : o.op = .load 27 x) (hw : Region.wanted o (yielded ops a.tmps) = true)
    (g : Nat) (hx : a.eval x = .pointer (some ⟨g, 0, none⟩)) {cs : Array Value} (hg : Whole w g 27 cs) (hs : RowH cs)
    (h : wpList Try.prog ops Q rest (a.put o.dst (.agg cs)) w) : wpList Try.prog ops Q (o :: rest) a w :=
  wpList_step fun _ hK => by rw [if_pos hw]; exact wp_load_row 27 x ho g hx _ _ (0, 0) _ hg Try.underlying27 rfl (by rw [hs.1]; exact size_H) (hK _ _ h)

theorem load_D {ops : Array Oper} {rest : List Oper} {o : Oper} {a : Act} {w : World} {Q : Exit → Act → World → Prop} (x : Operand) (ho : o.op = .load 30 x) (hw : Region.wanted o (yielded ops a.tmps) = true)
    (g : Nat) (hx : a.eval x = .pointer (some ⟨g, 0, none⟩)) {cs : Array Value} (hg : Whole w g 30 cs) (hs : RowD cs)
    (h : wpList Try.prog ops Q rest (a.put o.dst (.agg cs)) w) : wpList Try.prog ops Q (o :: rest) a w :=
  wpList_step fun _ hK => by rw [if_pos hw]; exact wp_load_row 30 x ho g hx _ _ (0, 0) _ hg Try.underlying30 rfl (by rw [hs.1]; exact size_D) (hK _ _ h)

theorem whole_setRow {w : World} {g : Nat} {t : TypeId} {old : Array Value} (cs : Array Value) (h : Whole w g t old) : Whole (w.setRow g cs) g t cs := by
  unfold Whole World.setRow at *
  simp [Array.getElem?_modify, h]

theorem whole_setOther {w : World} {g k : Nat} {t : TypeId} {cs : Array Value} (h : Whole w k t cs) (hne : k ≠ g) (c : Array Value) : Whole (w.setRow g c) k t cs :=
  whole_keep h (setRow_other w g k c hne)

/-- Two boxes made, a host laid into the one and data into the other. -/
theorem store_HD {ops : Array Oper} {rest : List Oper} {o p : Oper} {a : Act} {m : World} {Q : Exit → Act → World → Prop} (x y x2 y2 : Operand) (ho : o.op = .store 27 x y) (hp : p.op = .store 30 x2 y2) (hgo : o.guard = none) (hgp : p.guard = none)
    (ch cd zh zd : Array Value) (hx : a.eval x = .pointer (some ⟨m.heap.size, 0, none⟩)) (hy : a.eval y = .agg ch) (hx2 : (a.put o.dst undef).eval x2 = .pointer (some ⟨m.heap.size + 1, 0, none⟩)) (hy2 : (a.put o.dst undef).eval y2 = .agg cd)
    (rh : RowH ch) (rd : RowD cd) (zh5 : zh.size = 5) (zd6 : zd.size = 6)
    (h : ∀ M, Whole M m.heap.size 27 ch → Whole M (m.heap.size + 1) 30 cd → Below m.heap.size m M → wpList Try.prog ops Q rest ((a.put o.dst undef).put p.dst undef) M) :
    wpList Try.prog ops Q (o :: p :: rest) a ((m.alloc (.cells zh 27)).alloc (.cells zd 30)) := by
  have H1 := whole_alloc (whole_new m 27 zh) (.cells zd 30)
  have H2 := whole_new1 m (.cells zh 27) 30 zd
  refine wpList_store_row hgo 27 x y ho _ ch hx hy _ zh H1 (by rw [rh.1]; exact size_H) (by rw [rh.1]; exact zh5) rh.2 ?_
  have H3 := whole_setOther H2 (g := m.heap.size) (by omega) ch
  refine wpList_store_row hgp 30 x2 y2 hp _ cd hx2 hy2 _ zd H3 (by rw [rd.1]; exact size_D) (by rw [rd.1]; exact zd6) rd.2 ?_
  exact h _ (whole_setOther (whole_setRow ch H1) (by omega) cd) (whole_setRow cd H3) (below_setRow (below_setRow (below_alloc (below_alloc (Below.refl _ _) _) _) (Nat.le_refl _) ch) (by omega) cd)

/-- One box made and a host laid into it. -/
theorem store_H {ops : Array Oper} {rest : List Oper} {o : Oper} {a : Act} {m : World} {Q : Exit → Act → World → Prop} (x y : Operand) (ho : o.op = .store 27 x y) (hgo : o.guard = none)
    (ch zh : Array Value) (hx : a.eval x = .pointer (some ⟨m.heap.size, 0, none⟩)) (hy : a.eval y = .agg ch) (rh : RowH ch) (zh5 : zh.size = 5)
    (h : ∀ M, Whole M m.heap.size 27 ch → Below m.heap.size m M → wpList Try.prog ops Q rest (a.put o.dst undef) M) :
    wpList Try.prog ops Q (o :: rest) a (m.alloc (.cells zh 27)) := by
  have H1 := whole_new m 27 zh
  refine wpList_store_row hgo 27 x y ho _ ch hx hy _ zh H1 (by rw [rh.1]; exact size_H) (by rw [rh.1]; exact zh5) rh.2 ?_
  exact h _ (whole_setRow ch H1) (below_setRow (below_alloc (Below.refl _ _) _) (Nat.le_refl _) ch)

/-- One box made and data laid into it. -/
theorem store_D {ops : Array Oper} {rest : List Oper} {o : Oper} {a : Act} {m : World} {Q : Exit → Act → World → Prop} (x y : Operand) (ho : o.op = .store 30 x y) (hgo : o.guard = none)
    (ch zh : Array Value) (hx : a.eval x = .pointer (some ⟨m.heap.size, 0, none⟩)) (hy : a.eval y = .agg ch) (rh : RowD ch) (zh5 : zh.size = 6)
    (h : ∀ M, Whole M m.heap.size 30 ch → Below m.heap.size m M → wpList Try.prog ops Q rest (a.put o.dst undef) M) :
    wpList Try.prog ops Q (o :: rest) a (m.alloc (.cells zh 30)) := by
  have H1 := whole_new m 30 zh
  refine wpList_store_row hgo 30 x y ho _ ch hx hy _ zh H1 (by rw [rh.1]; exact size_D) (by rw [rh.1]; exact zh5) rh.2 ?_
  exact h _ (whole_setRow ch H1) (below_setRow (below_alloc (Below.refl _ _) _) (Nat.le_refl _) ch)

theorem gate_g {w : World} {cs : Array Value} {h : Ht} {k : Nat} (H : HostIn w (.agg cs) h) (hk : k < h.g.length) : ∃ ad k1 p1 p2 p3 p4, cs = #[.slice (some ad) h.g.length k1, p1, p2, p3, p4] ∧ w.cell? (ad.add k) = some (.bool h.g[k]) := by
  obtain ⟨x, y, z, q, e, ⟨_, A, c, rfl, hc⟩, _⟩ := H
  obtain ⟨ad, hA, hc2⟩ := hc (by omega)
  subst hA
  exact ⟨ad, c, y, z, _, q, by injection e, hc2 k hk⟩

theorem gate_d {w : World} {cs : Array Value} {h : Ht} (H : HostIn w (.agg cs) h) : ∃ p0 p1 p2 p3 A c, cs = #[p0, p1, p2, p3, .slice A h.d.length c] ∧ ∀ j (hj : j < h.d.length), ∃ ad, A = some ad ∧ w.cell? (ad.add (j * 4)) = some (.int .i64 h.d[j].p) := by
  obtain ⟨x, y, z, q, e, _, _, _, ⟨_, A, c, rfl, hc⟩⟩ := H
  refine ⟨x, y, z, _, A, c, by injection e, fun j hj => ?_⟩
  obtain ⟨ad, ha, hc2⟩ := hc (by omega)
  exact ⟨ad, ha, (hc2 j hj).1⟩

theorem gate_n {w : World} {cs : Array Value} {h : Ht} (H : HostIn w (.agg cs) h) : ∃ p0 p1 p3 p4 A c, cs = #[p0, p1, .slice A h.n.length c, p3, p4] ∧ ∀ j (hj : j < h.n.length), ∃ ad, A = some ad ∧ w.cell? (ad.add j) = some (.int .i64 h.n[j]) := by
  obtain ⟨x, y, z, q, e, _, _, ⟨_, A, c, rfl, hc⟩, _⟩ := H
  refine ⟨x, y, _, q, A, c, by injection e, fun j hj => ?_⟩
  obtain ⟨ad, ha, hc2⟩ := hc (by omega)
  exact ⟨ad, ha, hc2 j hj⟩

end Go.Proofs.Ytkcogfgjabemfaa
