/- PkB: several of my texts, laid together: HsL, HcH, CpA, HiA, HcI. -/
import Derived.Test.YtkcogfgjabemfaaHsK
import Derived.Test.YtkcogfgjabemfaaPkA
import Derived.RegionTactic
import Derived.BigRegion
import Derived.Deep.RegionHeld3
import Derived.Test.YtkcogfgjabemfaaHoB
import Derived.Test.YtkcogfgjabemfaaHsB
import Derived.Test.YtkcogfgjabemfaaHsC
import Derived.Test.YtkcogfgjabemfaaDatD
namespace Go.Proofs.Ytkcogfgjabemfaa
open Go.RowKit
set_option linter.unusedVariables false
set_option linter.unusedSimpArgs false

/-- What a call comes to: the host, the data, the throw. -/
def hCall (h : Ht) (d : Dt) (c : Nat) : Ht × Dt × Int :=
  if h.g.getD c false = false then (h, d, -100)
  else if h.d.length = 40 then (h, d, -8)
  else if d.s.length < capTakes c then (h, d, -4)
  else if c = 3 ∧ d.s.length = 32 then (h, d, -3)
  else if (hDo h c (tp d 1) (tp d 0)).2.2 ≠ 0 then (h, d, (hDo h c (tp d 1) (tp d 0)).2.2)
  else if c = 1 then ((hDo h c (tp d 1) (tp d 0)).1, (dPut d 2 []).1, 0)
  else ((hDo h c (tp d 1) (tp d 0)).1, (dPut d (capTakes c) [(hDo h c (tp d 1) (tp d 0)).2.1]).1, 0)

/-- A host and data that read, and a throw. -/
def HMidOf (w : World) (r : Ht × Dt × Int) (e : Ending) (w' : World) : Prop := ∃ u x, e = .returned (.tuple #[u, x, .int .i64 r.2.2]) ∧ HostIn w' u r.1 ∧ DatC w' x r.2.1 ∧ Below w.heap.size w w'

theorem agree_old {n R i : Nat} {a b : World} (h : Agree n a b) (hR : R < n) (u : Value) : Agree n a (b.setCell ⟨R, i, none⟩ u) := fun k c fr hk ha =>
  (Below.heap_setCell b _ u k (by show k ≠ R; omega)).trans (h k c fr hk ha)

theorem agree_drew {n : Nat} {a b : World} (h : Agree n a b) : Agree n a b.drew := h

theorem hostSt_below {w w' : World} {lo : Nat} {v : Value} {h : Ht} (H : HostSt w lo v h) (hb : Below w.heap.size w w') : HostSt w' lo v h := fun W' hW => H W' fun g h1 h2 => (hW g h1 (Nat.lt_of_lt_of_le h2 hb.size)).trans (hb.block g h2)

theorem hostSt_store {w : World} {lo g i : Nat} {v u : Value} {h : Ht} (H : HostSt w lo v h) (hg : g < lo) : HostSt (w.setCell ⟨g, i, none⟩ u) lo v h := fun W' hW => H W' fun k h1 h2 => by
  rw [hW k h1 (by simpa using h2)]
  exact Below.heap_setCell w _ u k (by show k ≠ g; omega)

theorem hostSt_drew {w : World} {lo : Nat} {v : Value} {h : Ht} (H : HostSt w lo v h) : HostSt w.drew lo v h := H

theorem hostSt_alloc {w : World} {lo : Nat} {v : Value} {h : Ht} (H : HostSt w lo v h) (o : Obj) : HostSt (w.alloc o) lo v h := hostSt_below H (below_alloc (Below.refl _ _) o)

theorem bols_at {w : World} {A : Option Addr} {k : Nat} {zs : List Bool} {c : Nat} (h : Bols w (.slice A zs.length k) zs) (hc : c < zs.length) : ∃ ad, A = some ad ∧ w.cell? (ad.add c) = some (.bool zs[c]) := by
  obtain ⟨_, A', k', e, hq⟩ := h
  simp only [Value.slice.injEq, true_and] at e
  obtain ⟨rfl, rfl⟩ := e
  obtain ⟨ad, rfl, hq2⟩ := hq (by omega)
  exact ⟨ad, rfl, hq2 c hc⟩

theorem hostIn_firstRow {w : World} {x y z q : Value} {h : Ht} {c : Int} (H : HostIn w (.agg #[x, y, z, .int .i64 c, q]) h) : Bols w x h.g := by
  obtain ⟨x', y', z', q', e, h1, _⟩ := H
  simp only [Value.agg.injEq, Array.mk.injEq, List.cons.injEq, and_true, true_and] at e
  obtain ⟨rfl, _⟩ := e
  exact h1

theorem datIn_top {w : World} {A1 : Option Addr} {y z a b c : Value} {d : Dt} {n k : Nat} (H : DatIn w (.agg #[.slice A1 n k, y, z, a, b, c]) d) {i : Nat} (hi : i < d.s.length) : ∃ ad, A1 = some ad ∧ w.cell? (ad.add (d.s.length - 1 - i)) = some (.int .i64 (tp d i)) := by
  obtain ⟨x', y', z', e, h1, _⟩ := H
  simp only [Value.agg.injEq, Array.mk.injEq, List.cons.injEq, and_true, true_and] at e
  obtain ⟨rfl, _⟩ := e
  obtain ⟨_, A', k', e, hq⟩ := h1
  simp only [Value.slice.injEq, true_and] at e
  obtain ⟨rfl, _, rfl⟩ := e
  obtain ⟨ad, rfl, hq2⟩ := hq (by omega)
  refine ⟨ad, rfl, ?_⟩
  rw [hq2 _ (by omega), tp_at hi]

set_option maxRecDepth 100000 in
set_option maxHeartbeats 2000000 in
theorem sCall_denied (vh vd : Value) (h : Ht) (d : Dt) (c : Nat) (w : World) (hh : HostIn w vh h) (hd : DatC w vd d) (hf : HtFine h) (df : DtFine d) (hc : c < 4) (hg : h.g.getD c false = false) :
    Calls Try.prog 59 #[vh, vd, .int .i64 c] w (HMidOf w (h, d, -100)) := by
  have HH := Lib.hid hh
  have HD := Lib.hid hd
  obtain ⟨E1, l1, E2, l2, E3, l3, E4, l4, rfl⟩ := hostIn_form hh
  obtain ⟨A1, k1, A2, k2, A3, k3, rfl, _⟩ := datC_form hd
  have h4 := fineH_g hf
  have cl : c < h.g.length := by omega
  obtain ⟨ad, rfl, cg⟩ := bols_at (hostIn_firstRow hh) cl
  clear h4
  have HF := Lib.hid hf
  have DF := Lib.hid df
  rw [show h.g[c] = false by rw [← hg]; simp [List.getD, cl]] at cg
  clear hg
  have CG : ∀ o1 o2 o3 o4 : Obj, ((((w.alloc o1).alloc o2).alloc o3).alloc o4).cell? (ad.add c) = some (.bool false) := fun o1 o2 o3 o4 => cell_kept (below_alloc (below_alloc (below_alloc (below_alloc (Below.refl _ _) _) _) _) _) _ _ cg
  clear cg hh hd hf df
  go_enter Try.func59, Try.ntmps59
  go_wp2
  go_region
  all_goals
    go_wp2
    refine bodyPost_ret (v := .tuple #[.agg #[.slice (some ad) h.g.length l1, .slice E2 h.s.length l2, .slice E3 h.n.length l3, .int .i64 h.c, .slice E4 h.d.length l4], .agg #[.slice A1 d.s.length k1, .slice A2 d.b.length k2, .slice A3 d.c.length k3, .int .i64 d.h, .int .i64 d.n, .string d.o], .int .i64 (-100)]) (by simp [results, Try.results59, go_sem, *]) rfl ⟨_, _, rfl, hostIn_below HH.out ?_, datC_below HD.out ?_, ?_⟩
    all_goals repeat (first | with_reducible exact Below.refl _ _ | with_reducible exact B1.out | with_reducible refine Below.setCell ?_ (by simp <;> omega) _ | with_reducible refine below_alloc ?_ _ | with_reducible refine Below.drew ?_)

set_option maxRecDepth 100000 in
set_option maxHeartbeats 2000000 in
theorem sCall_full (vh vd : Value) (h : Ht) (d : Dt) (c : Nat) (w : World) (hh : HostIn w vh h) (hd : DatC w vd d) (hf : HtFine h) (df : DtFine d) (hc : c < 4) (hg : h.g.getD c false = true) (hq : h.d.length = 40) :
    Calls Try.prog 59 #[vh, vd, .int .i64 c] w (HMidOf w (h, d, -8)) := by
  have HH := Lib.hid hh
  have HD := Lib.hid hd
  obtain ⟨E1, l1, E2, l2, E3, l3, E4, l4, rfl⟩ := hostIn_form hh
  obtain ⟨A1, k1, A2, k2, A3, k3, rfl, _⟩ := datC_form hd
  have h4 := fineH_g hf
  have cl : c < h.g.length := by omega
  obtain ⟨ad, rfl, cg⟩ := bols_at (hostIn_firstRow hh) cl
  clear h4
  have HF := Lib.hid hf
  have DF := Lib.hid df
  rw [show h.g[c] = true by rw [← hg]; simp [List.getD, cl]] at cg
  clear hg
  have u0 : ((h.d.length : Int) == 40) = true := by rw [beq_iff_eq]; omega
  clear hq
  have CG : ∀ o1 o2 o3 o4 : Obj, ((((w.alloc o1).alloc o2).alloc o3).alloc o4).cell? (ad.add c) = some (.bool true) := fun o1 o2 o3 o4 => cell_kept (below_alloc (below_alloc (below_alloc (below_alloc (Below.refl _ _) _) _) _) _) _ _ cg
  clear cg hh hd hf df
  go_enter Try.func59, Try.ntmps59
  go_wp2
  go_region
  all_goals
    go_wp2
    refine bodyPost_ret (v := .tuple #[.agg #[.slice (some ad) h.g.length l1, .slice E2 h.s.length l2, .slice E3 h.n.length l3, .int .i64 h.c, .slice E4 h.d.length l4], .agg #[.slice A1 d.s.length k1, .slice A2 d.b.length k2, .slice A3 d.c.length k3, .int .i64 d.h, .int .i64 d.n, .string d.o], .int .i64 (-8)]) (by simp [results, Try.results59, go_sem, *]) rfl ⟨_, _, rfl, hostIn_below HH.out ?_, datC_below HD.out ?_, ?_⟩
    all_goals repeat (first | with_reducible exact Below.refl _ _ | with_reducible exact B1.out | with_reducible refine Below.setCell ?_ (by simp <;> omega) _ | with_reducible refine below_alloc ?_ _ | with_reducible refine Below.drew ?_)

theorem whole_new3 (w : World) (o o' o'' : Obj) (t : TypeId) (cs : Array Value) : Whole ((((w.alloc o).alloc o').alloc o'').alloc (.cells cs t)) (w.heap.size + 1 + 1 + 1) t cs := whole_at (by simp)

set_option maxRecDepth 100000 in
set_option maxHeartbeats 2000000 in
theorem sCall_under (vh vd : Value) (h : Ht) (d : Dt) (c : Nat) (w : World) (hh : HostIn w vh h) (hd : DatC w vd d) (hf : HtFine h) (df : DtFine d) (hc : c < 4) (hg : h.g.getD c false = true) (hq : ¬ h.d.length = 40) (hu : d.s.length < capTakes c) :
    Calls Try.prog 59 #[vh, vd, .int .i64 c] w (HMidOf w (h, d, -4)) := by
  have HH := Lib.hid hh
  have HD := Lib.hid hd
  obtain ⟨E1, l1, E2, l2, E3, l3, E4, l4, rfl⟩ := hostIn_form hh
  obtain ⟨A1, k1, A2, k2, A3, k3, rfl, _⟩ := datC_form hd
  have h4 := fineH_g hf
  have cl : c < h.g.length := by omega
  obtain ⟨ad, rfl, cg⟩ := bols_at (hostIn_firstRow hh) cl
  clear h4
  have HF := Lib.hid hf
  have DF := Lib.hid df
  rw [show h.g[c] = true by rw [← hg]; simp [List.getD, cl]] at cg
  clear hg
  have u0 : ((h.d.length : Int) == 40) = false := by rw [beq_eq_false_iff_ne]; omega
  clear hq
  obtain ⟨n, hn⟩ : ∃ n, d.s.length = n := ⟨_, rfl⟩
  have HN := Lib.hid hn
  have n32 : n ≤ 32 := by have := fine_sl df; omega
  rw [hn] at HD ⊢
  obtain ⟨tk, ht⟩ : ∃ tk, capTakes c = tk := ⟨_, rfl⟩
  have TKS : Hid (∀ W, Calls Try.prog 109 #[.int .i64 c] W fun e w' => e = .returned (.int .i64 (tk : Nat)) ∧ Below W.heap.size W w') := Lib.hid fun W => by rw [← ht]; exact sHTakes_any c W hc
  have u1 : n < tk := by omega
  have tk2 : tk ≤ 2 := by rw [← ht]; have : c = 0 ∨ c = 1 ∨ c = 2 ∨ c = 3 := by omega
                          rcases this with rfl | rfl | rfl | rfl <;> decide
  clear hn hu ht
  have CG : ∀ o1 o2 o3 o4 : Obj, ((((w.alloc o1).alloc o2).alloc o3).alloc o4).cell? (ad.add c) = some (.bool true) := fun o1 o2 o3 o4 => cell_kept (below_alloc (below_alloc (below_alloc (below_alloc (Below.refl _ _) _) _) _) _) _ _ cg
  clear cg hh hd hf df
  go_enter Try.func59, Try.ntmps59
  go_wp2_with (first
    | (go_at_call 109; refine (TKS.out _).mono ?_; rintro e w1 ⟨rfl, hb⟩
       have V1 := whole_b hb (whole_alloc (whole_alloc (whole_alloc (whole_new w _ _) _) _) _)
       have D1 := whole_b hb (whole_alloc (whole_alloc (whole_new1 w _ _ _) _) _)
       have T1 := whole_b hb (whole_alloc (whole_new2 w _ _ _ _) _)
       have Y1 := whole_b hb (whole_new3 w _ _ _ _ _)
       have B1 : Hid (Below w.heap.size w w1) := Lib.hid (below_step (below_alloc (below_alloc (below_alloc (below_alloc (Below.refl _ _) _) _) _) _) hb)
       have zy := whole_lt Y1
       obtain ⟨c0, c1, c2, c3, c4⟩ := five_cells V1
       obtain ⟨d0, d1, d2, d3, d4, d5⟩ := six_cells D1
       obtain ⟨r0, r1, r2, r3, r4⟩ := five_cells T1
       obtain ⟨y0, y1, y2, y3, y4, y5⟩ := six_cells Y1
       have fd := whole_free D1
       have fr := whole_free T1
       have fy := whole_free Y1
       clear hb))
  go_region
  all_goals
    go_wp2
    refine bodyPost_ret (v := .tuple #[.agg #[.slice (some ad) h.g.length l1, .slice E2 h.s.length l2, .slice E3 h.n.length l3, .int .i64 h.c, .slice E4 h.d.length l4], .agg #[.slice A1 n k1, .slice A2 d.b.length k2, .slice A3 d.c.length k3, .int .i64 d.h, .int .i64 d.n, .string d.o], .int .i64 (-4)]) (by simp [results, Try.results59, go_sem, *]) rfl ⟨_, _, rfl, hostIn_below HH.out ?_, datC_below HD.out ?_, ?_⟩
    all_goals repeat (first | with_reducible exact Below.refl _ _ | with_reducible exact B1.out | with_reducible refine Below.setCell ?_ (by simp <;> omega) _ | with_reducible refine below_alloc ?_ _ | with_reducible refine Below.drew ?_)

set_option maxRecDepth 100000 in
set_option maxHeartbeats 2000000 in
theorem sCall_over (vh vd : Value) (h : Ht) (d : Dt) (c : Nat) (w : World) (hh : HostIn w vh h) (hd : DatC w vd d) (hf : HtFine h) (df : DtFine d) (hc : c < 4) (hg : h.g.getD c false = true) (hq : ¬ h.d.length = 40) (hc3 : c = 3) (hu : d.s.length = 32) (hu1 : ¬ d.s.length < capTakes c) :
    Calls Try.prog 59 #[vh, vd, .int .i64 c] w (HMidOf w (h, d, -3)) := by
  have HH := Lib.hid hh
  have HD := Lib.hid hd
  obtain ⟨E1, l1, E2, l2, E3, l3, E4, l4, rfl⟩ := hostIn_form hh
  obtain ⟨A1, k1, A2, k2, A3, k3, rfl, _⟩ := datC_form hd
  have h4 := fineH_g hf
  have cl : c < h.g.length := by omega
  obtain ⟨ad, rfl, cg⟩ := bols_at (hostIn_firstRow hh) cl
  clear h4
  have HF := Lib.hid hf
  have DF := Lib.hid df
  rw [show h.g[c] = true by rw [← hg]; simp [List.getD, cl]] at cg
  clear hg
  have u0 : ((h.d.length : Int) == 40) = false := by rw [beq_eq_false_iff_ne]; omega
  clear hq
  obtain ⟨n, hn⟩ : ∃ n, d.s.length = n := ⟨_, rfl⟩
  have HN := Lib.hid hn
  have n32 : n ≤ 32 := by have := fine_sl df; omega
  rw [hn] at HD ⊢
  obtain ⟨tk, ht⟩ : ∃ tk, capTakes c = tk := ⟨_, rfl⟩
  have TKS : Hid (∀ W, Calls Try.prog 109 #[.int .i64 c] W fun e w' => e = .returned (.int .i64 (tk : Nat)) ∧ Below W.heap.size W w') := Lib.hid fun W => by rw [← ht]; exact sHTakes_any c W hc
  have u1 : ¬ n < tk := by omega
  have tk2 : tk ≤ 2 := by rw [← ht]; have : c = 0 ∨ c = 1 ∨ c = 2 ∨ c = 3 := by omega
                          rcases this with rfl | rfl | rfl | rfl <;> decide
  have HTK := Lib.hid ht
  have u3 : ((c : Int) == 3) = true := by rw [beq_iff_eq]; omega
  have u4 : ((n : Int) == 32) = true := by rw [beq_iff_eq]; omega
  clear hn hu hu1 hc3 ht
  have CG : ∀ o1 o2 o3 o4 : Obj, ((((w.alloc o1).alloc o2).alloc o3).alloc o4).cell? (ad.add c) = some (.bool true) := fun o1 o2 o3 o4 => cell_kept (below_alloc (below_alloc (below_alloc (below_alloc (Below.refl _ _) _) _) _) _) _ _ cg
  clear cg hh hd hf df
  go_enter Try.func59, Try.ntmps59
  go_wp2_with (first
    | (go_at_call 109; refine (TKS.out _).mono ?_; rintro e w1 ⟨rfl, hb⟩
       have V1 := whole_b hb (whole_alloc (whole_alloc (whole_alloc (whole_new w _ _) _) _) _)
       have D1 := whole_b hb (whole_alloc (whole_alloc (whole_new1 w _ _ _) _) _)
       have T1 := whole_b hb (whole_alloc (whole_new2 w _ _ _ _) _)
       have Y1 := whole_b hb (whole_new3 w _ _ _ _ _)
       have B1 : Hid (Below w.heap.size w w1) := Lib.hid (below_step (below_alloc (below_alloc (below_alloc (below_alloc (Below.refl _ _) _) _) _) _) hb)
       have zy := whole_lt Y1
       obtain ⟨c0, c1, c2, c3, c4⟩ := five_cells V1
       obtain ⟨d0, d1, d2, d3, d4, d5⟩ := six_cells D1
       obtain ⟨r0, r1, r2, r3, r4⟩ := five_cells T1
       obtain ⟨y0, y1, y2, y3, y4, y5⟩ := six_cells Y1
       have fd := whole_free D1
       have fr := whole_free T1
       have fy := whole_free Y1
       clear hb))
  go_region
  all_goals
    go_wp2
    refine bodyPost_ret (v := .tuple #[.agg #[.slice (some ad) h.g.length l1, .slice E2 h.s.length l2, .slice E3 h.n.length l3, .int .i64 h.c, .slice E4 h.d.length l4], .agg #[.slice A1 n k1, .slice A2 d.b.length k2, .slice A3 d.c.length k3, .int .i64 d.h, .int .i64 d.n, .string d.o], .int .i64 (-3)]) (by simp [results, Try.results59, go_sem, *]) rfl ⟨_, _, rfl, hostIn_below HH.out ?_, datC_below HD.out ?_, ?_⟩
    all_goals repeat (first | with_reducible exact Below.refl _ _ | with_reducible exact B1.out | with_reducible refine Below.setCell ?_ (by simp <;> omega) _ | with_reducible refine below_alloc ?_ _ | with_reducible refine Below.drew ?_)

set_option maxRecDepth 100000 in
set_option maxHeartbeats 2000000 in
theorem sCall_E0 (vh vd : Value) (h : Ht) (d : Dt) (c : Nat) (q : Ht) (v th : Int) (w : World) (hh : HostIn w vh h) (hd : DatC w vd d) (hf : HtFine h) (df : DtFine d) (hc : c < 4) (hg : h.g.getD c false = true) (hq : ¬ h.d.length = 40) (hu1 : ¬ d.s.length < capTakes c) (ho : ¬ (c = 3 ∧ d.s.length = 32)) (hn0 : d.s.length = 0) (hdo : hDo h c (tp d 1) (tp d 0) = (q, v, th)) (hth : th ≠ 0) :
    Calls Try.prog 59 #[vh, vd, .int .i64 c] w (HMidOf w (h, d, th)) := by
  have HH := Lib.hid hh
  have HD := Lib.hid hd
  obtain ⟨E1, l1, E2, l2, E3, l3, E4, l4, rfl⟩ := hostIn_form hh
  obtain ⟨A1, k1, A2, k2, A3, k3, rfl, _⟩ := datC_form hd
  have h4 := fineH_g hf
  have cl : c < h.g.length := by omega
  obtain ⟨ad, rfl, cg⟩ := bols_at (hostIn_firstRow hh) cl
  clear h4
  have HF := Lib.hid hf
  have DF := Lib.hid df
  have sl := fine_sl df
  have e1 : tp d 1 = 0 := tp_out (by omega)
  have e0 : tp d 0 = 0 := tp_out (by omega)
  rw [e1, e0] at hdo
  rw [show h.g[c] = true by rw [← hg]; simp [List.getD, cl]] at cg
  clear hg
  have u0 : ((h.d.length : Int) == 40) = false := by rw [beq_eq_false_iff_ne]; omega
  clear hq
  obtain ⟨n, hn⟩ : ∃ n, d.s.length = n := ⟨_, rfl⟩
  have HN := Lib.hid hn
  have n32 : n ≤ 32 := by omega
  rw [hn] at HD ⊢
  obtain ⟨tk, ht⟩ : ∃ tk, capTakes c = tk := ⟨_, rfl⟩
  have TKS : Hid (∀ W, Calls Try.prog 109 #[.int .i64 c] W fun e w' => e = .returned (.int .i64 (tk : Nat)) ∧ Below W.heap.size W w') := Lib.hid fun W => by rw [← ht]; exact sHTakes_any c W hc
  have u1 : ¬ n < tk := by omega
  have tk2 : tk ≤ 2 := by rw [← ht]; have : c = 0 ∨ c = 1 ∨ c = 2 ∨ c = 3 := by omega
                          rcases this with rfl | rfl | rfl | rfl <;> decide
  have HTK := Lib.hid ht
  obtain rfl : n = 0 := by omega
  have HDO : Hid (∀ W u, HostIn W u h → Calls Try.prog 110 #[u, .int .i64 c, .int .i64 0, .int .i64 0] W (HDoOf W (q, v, th))) := Lib.hid fun W u hu => by rw [← hdo]; exact sDo_any u h c 0 0 W hu HF.out hc
  have tt : (th != 0) = true := by rw [bne_iff_ne]; exact hth
  clear hn hu1 hn0 hdo ht sl hth
  have CG : ∀ o1 o2 o3 o4 : Obj, ((((w.alloc o1).alloc o2).alloc o3).alloc o4).cell? (ad.add c) = some (.bool true) := fun o1 o2 o3 o4 => cell_kept (below_alloc (below_alloc (below_alloc (below_alloc (Below.refl _ _) _) _) _) _) _ _ cg
  clear cg hh hd hf df
  have OO : (((c : Int) == 3) = true ∧ ((0 : Int) == 32) = false) ∨ ((c : Int) == 3) = false := by
    by_cases q3 : c = 3
    · exact .inl ⟨by rw [beq_iff_eq]; omega, by rw [beq_eq_false_iff_ne]; intro q4; exact ho ⟨q3, by have := HN.out; omega⟩⟩
    · exact .inr (by rw [beq_eq_false_iff_ne]; omega)
  clear ho
  go_enter Try.func59, Try.ntmps59
  rcases OO with ⟨u3, u4⟩ | u3
  · go_wp2_with (first
      | (go_at_call 109; refine (TKS.out _).mono ?_; rintro e w1 ⟨rfl, hb⟩
         have V1 := whole_b hb (whole_alloc (whole_alloc (whole_alloc (whole_new w _ _) _) _) _)
         have D1 := whole_b hb (whole_alloc (whole_alloc (whole_new1 w _ _ _) _) _)
         have T1 := whole_b hb (whole_alloc (whole_new2 w _ _ _ _) _)
         have Y1 := whole_b hb (whole_new3 w _ _ _ _ _)
         have B1 : Hid (Below w.heap.size w w1) := Lib.hid (below_step (below_alloc (below_alloc (below_alloc (below_alloc (Below.refl _ _) _) _) _) _) hb)
         have zy := whole_lt Y1
         obtain ⟨c0, c1, c2, c3, c4⟩ := five_cells V1
         obtain ⟨d0, d1, d2, d3, d4, d5⟩ := six_cells D1
         obtain ⟨r0, r1, r2, r3, r4⟩ := five_cells T1
         obtain ⟨y0, y1, y2, y3, y4, y5⟩ := six_cells Y1
         have fd := whole_free D1
         have fr := whole_free T1
         have fy := whole_free Y1
         have VV1 := Lib.hid V1
         have DD1 := Lib.hid D1
         have TT1 := Lib.hid T1
         have YY1 := Lib.hid Y1
         clear hb V1 D1 T1 Y1)
      | (go_at_call 110; refine (HDO.out _ _ (hostIn_below HH.out B1.out)).mono ?_; rintro e w2 ⟨u2, rfl, hst, hb⟩
         clear c0 c1 c2 c3 c4 d0 d1 d2 d3 d4 d5 r0 r1 r2 r3 r4 y0 y1 y2 y3 y4 y5 fd fr fy
         have B2 : Hid (Below w.heap.size w w2) := Lib.hid (below_step B1.out hb)
         have V2 := whole_b hb VV1.out
         have D2 := whole_b hb DD1.out
         have T2 := whole_b hb TT1.out
         have Y2 := whole_b hb YY1.out
         have z2 := hb.size
         have b0 : w.heap.size < w2.heap.size := by omega
         have b1 : w.heap.size + 1 < w2.heap.size := by omega
         have b2 : w.heap.size + 1 + 1 < w2.heap.size := by omega
         have b3 : w.heap.size + 1 + 1 + 1 < w2.heap.size := by omega
         obtain ⟨U1, p1, U2, p2, U3, p3, U4, p4, rfl⟩ := hostIn_form (hostSt_now hst)
         have HST := Lib.hid hst
         obtain ⟨c0, c1, c2, c3, c4⟩ := five_cells V2
         obtain ⟨d0, d1, d2, d3, d4, d5⟩ := six_cells D2
         obtain ⟨r0, r1, r2, r3, r4⟩ := five_cells T2
         obtain ⟨y0, y1, y2, y3, y4, y5⟩ := six_cells Y2
         have fd := whole_free D2
         have fr := whole_free T2
         have fy := whole_free Y2
         have DD2 := Lib.hid D2
         have TT2 := Lib.hid T2
         have YY2 := Lib.hid Y2
         clear hb hst V2 D2 T2 Y2))
    go_region
    all_goals
      go_wp2
      refine bodyPost_ret (v := .tuple #[.agg #[.slice (some ad) h.g.length l1, .slice E2 h.s.length l2, .slice E3 h.n.length l3, .int .i64 h.c, .slice E4 h.d.length l4], .agg #[.slice A1 0 k1, .slice A2 d.b.length k2, .slice A3 d.c.length k3, .int .i64 d.h, .int .i64 d.n, .string d.o], .int .i64 th]) (by simp [results, Try.results59, go_sem, *]) rfl ⟨_, _, rfl, hostIn_below HH.out ?_, datC_below HD.out ?_, ?_⟩
      all_goals repeat (first | with_reducible exact Below.refl _ _ | with_reducible exact B2.out | with_reducible refine Below.setCell ?_ (by simp <;> omega) _ | with_reducible refine below_alloc ?_ _ | with_reducible refine Below.drew ?_)
  · go_wp2_with (first
      | (go_at_call 109; refine (TKS.out _).mono ?_; rintro e w1 ⟨rfl, hb⟩
         have V1 := whole_b hb (whole_alloc (whole_alloc (whole_alloc (whole_new w _ _) _) _) _)
         have D1 := whole_b hb (whole_alloc (whole_alloc (whole_new1 w _ _ _) _) _)
         have T1 := whole_b hb (whole_alloc (whole_new2 w _ _ _ _) _)
         have Y1 := whole_b hb (whole_new3 w _ _ _ _ _)
         have B1 : Hid (Below w.heap.size w w1) := Lib.hid (below_step (below_alloc (below_alloc (below_alloc (below_alloc (Below.refl _ _) _) _) _) _) hb)
         have zy := whole_lt Y1
         obtain ⟨c0, c1, c2, c3, c4⟩ := five_cells V1
         obtain ⟨d0, d1, d2, d3, d4, d5⟩ := six_cells D1
         obtain ⟨r0, r1, r2, r3, r4⟩ := five_cells T1
         obtain ⟨y0, y1, y2, y3, y4, y5⟩ := six_cells Y1
         have fd := whole_free D1
         have fr := whole_free T1
         have fy := whole_free Y1
         have VV1 := Lib.hid V1
         have DD1 := Lib.hid D1
         have TT1 := Lib.hid T1
         have YY1 := Lib.hid Y1
         clear hb V1 D1 T1 Y1)
      | (go_at_call 110; refine (HDO.out _ _ (hostIn_below HH.out B1.out)).mono ?_; rintro e w2 ⟨u2, rfl, hst, hb⟩
         clear c0 c1 c2 c3 c4 d0 d1 d2 d3 d4 d5 r0 r1 r2 r3 r4 y0 y1 y2 y3 y4 y5 fd fr fy
         have B2 : Hid (Below w.heap.size w w2) := Lib.hid (below_step B1.out hb)
         have V2 := whole_b hb VV1.out
         have D2 := whole_b hb DD1.out
         have T2 := whole_b hb TT1.out
         have Y2 := whole_b hb YY1.out
         have z2 := hb.size
         have b0 : w.heap.size < w2.heap.size := by omega
         have b1 : w.heap.size + 1 < w2.heap.size := by omega
         have b2 : w.heap.size + 1 + 1 < w2.heap.size := by omega
         have b3 : w.heap.size + 1 + 1 + 1 < w2.heap.size := by omega
         obtain ⟨U1, p1, U2, p2, U3, p3, U4, p4, rfl⟩ := hostIn_form (hostSt_now hst)
         have HST := Lib.hid hst
         obtain ⟨c0, c1, c2, c3, c4⟩ := five_cells V2
         obtain ⟨d0, d1, d2, d3, d4, d5⟩ := six_cells D2
         obtain ⟨r0, r1, r2, r3, r4⟩ := five_cells T2
         obtain ⟨y0, y1, y2, y3, y4, y5⟩ := six_cells Y2
         have fd := whole_free D2
         have fr := whole_free T2
         have fy := whole_free Y2
         have DD2 := Lib.hid D2
         have TT2 := Lib.hid T2
         have YY2 := Lib.hid Y2
         clear hb hst V2 D2 T2 Y2))
    go_region
    all_goals
      go_wp2
      refine bodyPost_ret (v := .tuple #[.agg #[.slice (some ad) h.g.length l1, .slice E2 h.s.length l2, .slice E3 h.n.length l3, .int .i64 h.c, .slice E4 h.d.length l4], .agg #[.slice A1 0 k1, .slice A2 d.b.length k2, .slice A3 d.c.length k3, .int .i64 d.h, .int .i64 d.n, .string d.o], .int .i64 th]) (by simp [results, Try.results59, go_sem, *]) rfl ⟨_, _, rfl, hostIn_below HH.out ?_, datC_below HD.out ?_, ?_⟩
      all_goals repeat (first | with_reducible exact Below.refl _ _ | with_reducible exact B2.out | with_reducible refine Below.setCell ?_ (by simp <;> omega) _ | with_reducible refine below_alloc ?_ _ | with_reducible refine Below.drew ?_)

set_option maxRecDepth 100000 in
set_option maxHeartbeats 2000000 in
theorem sCall_E1 (vh vd : Value) (h : Ht) (d : Dt) (c : Nat) (q : Ht) (v th : Int) (w : World) (hh : HostIn w vh h) (hd : DatC w vd d) (hf : HtFine h) (df : DtFine d) (hc : c < 4) (hg : h.g.getD c false = true) (hq : ¬ h.d.length = 40) (hu1 : ¬ d.s.length < capTakes c) (ho : ¬ (c = 3 ∧ d.s.length = 32)) (hn0 : d.s.length = 1) (hdo : hDo h c (tp d 1) (tp d 0) = (q, v, th)) (hth : th ≠ 0) :
    Calls Try.prog 59 #[vh, vd, .int .i64 c] w (HMidOf w (h, d, th)) := by
  have HH := Lib.hid hh
  have HD := Lib.hid hd
  obtain ⟨E1, l1, E2, l2, E3, l3, E4, l4, rfl⟩ := hostIn_form hh
  obtain ⟨A1, k1, A2, k2, A3, k3, rfl, _⟩ := datC_form hd
  have h4 := fineH_g hf
  have cl : c < h.g.length := by omega
  obtain ⟨ad, rfl, cg⟩ := bols_at (hostIn_firstRow hh) cl
  clear h4
  have HF := Lib.hid hf
  have DF := Lib.hid df
  have sl := fine_sl df
  have e1 : tp d 1 = 0 := tp_out (by omega)
  rw [e1] at hdo
  obtain ⟨ad2, rfl, CB⟩ := datIn_top hd.1 (i := 0) (by omega)
  generalize tp d 0 = x0 at *
  rw [show h.g[c] = true by rw [← hg]; simp [List.getD, cl]] at cg
  clear hg
  have u0 : ((h.d.length : Int) == 40) = false := by rw [beq_eq_false_iff_ne]; omega
  clear hq
  obtain ⟨n, hn⟩ : ∃ n, d.s.length = n := ⟨_, rfl⟩
  have HN := Lib.hid hn
  have n32 : n ≤ 32 := by omega
  rw [hn] at HD ⊢
  obtain ⟨tk, ht⟩ : ∃ tk, capTakes c = tk := ⟨_, rfl⟩
  have TKS : Hid (∀ W, Calls Try.prog 109 #[.int .i64 c] W fun e w' => e = .returned (.int .i64 (tk : Nat)) ∧ Below W.heap.size W w') := Lib.hid fun W => by rw [← ht]; exact sHTakes_any c W hc
  have u1 : ¬ n < tk := by omega
  have tk2 : tk ≤ 2 := by rw [← ht]; have : c = 0 ∨ c = 1 ∨ c = 2 ∨ c = 3 := by omega
                          rcases this with rfl | rfl | rfl | rfl <;> decide
  have HTK := Lib.hid ht
  obtain ⟨j0, hj0⟩ : ∃ j0, n = j0 + 1 := ⟨n - 1, by omega⟩
  have s0 : IntKind.i64.wrap ((n : Int) - 1) = (j0 : Int) := by rw [IntWalk.i64_in _ (by omega)]; omega
  have s0' : (j0 : Int) < n := by omega
  have p0 : (0 : Int) < n := by omega
  rw [show d.s.length - 1 - 0 = j0 by omega] at CB
  have p1' : ¬ (1 : Int) < n := by omega
  have HDO : Hid (∀ W u, HostIn W u h → Calls Try.prog 110 #[u, .int .i64 c, .int .i64 0, .int .i64 x0] W (HDoOf W (q, v, th))) := Lib.hid fun W u hu => by rw [← hdo]; exact sDo_any u h c 0 x0 W hu HF.out hc
  have tt : (th != 0) = true := by rw [bne_iff_ne]; exact hth
  clear hn hu1 hn0 hdo ht sl hj0 hth
  have CG : ∀ o1 o2 o3 o4 : Obj, ((((w.alloc o1).alloc o2).alloc o3).alloc o4).cell? (ad.add c) = some (.bool true) := fun o1 o2 o3 o4 => cell_kept (below_alloc (below_alloc (below_alloc (below_alloc (Below.refl _ _) _) _) _) _) _ _ cg
  clear cg hh hd hf df
  have OO : (((c : Int) == 3) = true ∧ ((n : Int) == 32) = false) ∨ ((c : Int) == 3) = false := by
    by_cases q3 : c = 3
    · exact .inl ⟨by rw [beq_iff_eq]; omega, by rw [beq_eq_false_iff_ne]; intro q4; exact ho ⟨q3, by have := HN.out; omega⟩⟩
    · exact .inr (by rw [beq_eq_false_iff_ne]; omega)
  clear ho
  go_enter Try.func59, Try.ntmps59
  rcases OO with ⟨u3, u4⟩ | u3
  · go_wp2_with (first
      | (go_at_call 109; refine (TKS.out _).mono ?_; rintro e w1 ⟨rfl, hb⟩
         have V1 := whole_b hb (whole_alloc (whole_alloc (whole_alloc (whole_new w _ _) _) _) _)
         have D1 := whole_b hb (whole_alloc (whole_alloc (whole_new1 w _ _ _) _) _)
         have T1 := whole_b hb (whole_alloc (whole_new2 w _ _ _ _) _)
         have Y1 := whole_b hb (whole_new3 w _ _ _ _ _)
         have B1 : Hid (Below w.heap.size w w1) := Lib.hid (below_step (below_alloc (below_alloc (below_alloc (below_alloc (Below.refl _ _) _) _) _) _) hb)
         have zy := whole_lt Y1
         obtain ⟨c0, c1, c2, c3, c4⟩ := five_cells V1
         obtain ⟨d0, d1, d2, d3, d4, d5⟩ := six_cells D1
         obtain ⟨r0, r1, r2, r3, r4⟩ := five_cells T1
         obtain ⟨y0, y1, y2, y3, y4, y5⟩ := six_cells Y1
         have fd := whole_free D1
         have fr := whole_free T1
         have fy := whole_free Y1
         have cb := cell_kept B1.out _ _ CB
         have VV1 := Lib.hid V1
         have DD1 := Lib.hid D1
         have TT1 := Lib.hid T1
         have YY1 := Lib.hid Y1
         clear hb V1 D1 T1 Y1)
      | (go_at_call 110; refine (HDO.out _ _ (hostIn_below HH.out B1.out)).mono ?_; rintro e w2 ⟨u2, rfl, hst, hb⟩
         clear c0 c1 c2 c3 c4 d0 d1 d2 d3 d4 d5 r0 r1 r2 r3 r4 y0 y1 y2 y3 y4 y5 fd fr fy cb
         have B2 : Hid (Below w.heap.size w w2) := Lib.hid (below_step B1.out hb)
         have V2 := whole_b hb VV1.out
         have D2 := whole_b hb DD1.out
         have T2 := whole_b hb TT1.out
         have Y2 := whole_b hb YY1.out
         have z2 := hb.size
         have b0 : w.heap.size < w2.heap.size := by omega
         have b1 : w.heap.size + 1 < w2.heap.size := by omega
         have b2 : w.heap.size + 1 + 1 < w2.heap.size := by omega
         have b3 : w.heap.size + 1 + 1 + 1 < w2.heap.size := by omega
         obtain ⟨U1, p1, U2, p2, U3, p3, U4, p4, rfl⟩ := hostIn_form (hostSt_now hst)
         have HST := Lib.hid hst
         obtain ⟨c0, c1, c2, c3, c4⟩ := five_cells V2
         obtain ⟨d0, d1, d2, d3, d4, d5⟩ := six_cells D2
         obtain ⟨r0, r1, r2, r3, r4⟩ := five_cells T2
         obtain ⟨y0, y1, y2, y3, y4, y5⟩ := six_cells Y2
         have fd := whole_free D2
         have fr := whole_free T2
         have fy := whole_free Y2
         have DD2 := Lib.hid D2
         have TT2 := Lib.hid T2
         have YY2 := Lib.hid Y2
         clear hb hst V2 D2 T2 Y2))
    go_region
    all_goals
      go_wp2
      refine bodyPost_ret (v := .tuple #[.agg #[.slice (some ad) h.g.length l1, .slice E2 h.s.length l2, .slice E3 h.n.length l3, .int .i64 h.c, .slice E4 h.d.length l4], .agg #[.slice (some ad2) n k1, .slice A2 d.b.length k2, .slice A3 d.c.length k3, .int .i64 d.h, .int .i64 d.n, .string d.o], .int .i64 th]) (by simp [results, Try.results59, go_sem, *]) rfl ⟨_, _, rfl, hostIn_below HH.out ?_, datC_below HD.out ?_, ?_⟩
      all_goals repeat (first | with_reducible exact Below.refl _ _ | with_reducible exact B2.out | with_reducible refine Below.setCell ?_ (by simp <;> omega) _ | with_reducible refine below_alloc ?_ _ | with_reducible refine Below.drew ?_)
  · go_wp2_with (first
      | (go_at_call 109; refine (TKS.out _).mono ?_; rintro e w1 ⟨rfl, hb⟩
         have V1 := whole_b hb (whole_alloc (whole_alloc (whole_alloc (whole_new w _ _) _) _) _)
         have D1 := whole_b hb (whole_alloc (whole_alloc (whole_new1 w _ _ _) _) _)
         have T1 := whole_b hb (whole_alloc (whole_new2 w _ _ _ _) _)
         have Y1 := whole_b hb (whole_new3 w _ _ _ _ _)
         have B1 : Hid (Below w.heap.size w w1) := Lib.hid (below_step (below_alloc (below_alloc (below_alloc (below_alloc (Below.refl _ _) _) _) _) _) hb)
         have zy := whole_lt Y1
         obtain ⟨c0, c1, c2, c3, c4⟩ := five_cells V1
         obtain ⟨d0, d1, d2, d3, d4, d5⟩ := six_cells D1
         obtain ⟨r0, r1, r2, r3, r4⟩ := five_cells T1
         obtain ⟨y0, y1, y2, y3, y4, y5⟩ := six_cells Y1
         have fd := whole_free D1
         have fr := whole_free T1
         have fy := whole_free Y1
         have cb := cell_kept B1.out _ _ CB
         have VV1 := Lib.hid V1
         have DD1 := Lib.hid D1
         have TT1 := Lib.hid T1
         have YY1 := Lib.hid Y1
         clear hb V1 D1 T1 Y1)
      | (go_at_call 110; refine (HDO.out _ _ (hostIn_below HH.out B1.out)).mono ?_; rintro e w2 ⟨u2, rfl, hst, hb⟩
         clear c0 c1 c2 c3 c4 d0 d1 d2 d3 d4 d5 r0 r1 r2 r3 r4 y0 y1 y2 y3 y4 y5 fd fr fy cb
         have B2 : Hid (Below w.heap.size w w2) := Lib.hid (below_step B1.out hb)
         have V2 := whole_b hb VV1.out
         have D2 := whole_b hb DD1.out
         have T2 := whole_b hb TT1.out
         have Y2 := whole_b hb YY1.out
         have z2 := hb.size
         have b0 : w.heap.size < w2.heap.size := by omega
         have b1 : w.heap.size + 1 < w2.heap.size := by omega
         have b2 : w.heap.size + 1 + 1 < w2.heap.size := by omega
         have b3 : w.heap.size + 1 + 1 + 1 < w2.heap.size := by omega
         obtain ⟨U1, p1, U2, p2, U3, p3, U4, p4, rfl⟩ := hostIn_form (hostSt_now hst)
         have HST := Lib.hid hst
         obtain ⟨c0, c1, c2, c3, c4⟩ := five_cells V2
         obtain ⟨d0, d1, d2, d3, d4, d5⟩ := six_cells D2
         obtain ⟨r0, r1, r2, r3, r4⟩ := five_cells T2
         obtain ⟨y0, y1, y2, y3, y4, y5⟩ := six_cells Y2
         have fd := whole_free D2
         have fr := whole_free T2
         have fy := whole_free Y2
         have DD2 := Lib.hid D2
         have TT2 := Lib.hid T2
         have YY2 := Lib.hid Y2
         clear hb hst V2 D2 T2 Y2))
    go_region
    all_goals
      go_wp2
      refine bodyPost_ret (v := .tuple #[.agg #[.slice (some ad) h.g.length l1, .slice E2 h.s.length l2, .slice E3 h.n.length l3, .int .i64 h.c, .slice E4 h.d.length l4], .agg #[.slice (some ad2) n k1, .slice A2 d.b.length k2, .slice A3 d.c.length k3, .int .i64 d.h, .int .i64 d.n, .string d.o], .int .i64 th]) (by simp [results, Try.results59, go_sem, *]) rfl ⟨_, _, rfl, hostIn_below HH.out ?_, datC_below HD.out ?_, ?_⟩
      all_goals repeat (first | with_reducible exact Below.refl _ _ | with_reducible exact B2.out | with_reducible refine Below.setCell ?_ (by simp <;> omega) _ | with_reducible refine below_alloc ?_ _ | with_reducible refine Below.drew ?_)

set_option maxRecDepth 100000 in
set_option maxHeartbeats 2000000 in
theorem sCall_E2 (vh vd : Value) (h : Ht) (d : Dt) (c : Nat) (q : Ht) (v th : Int) (w : World) (hh : HostIn w vh h) (hd : DatC w vd d) (hf : HtFine h) (df : DtFine d) (hc : c < 4) (hg : h.g.getD c false = true) (hq : ¬ h.d.length = 40) (hu1 : ¬ d.s.length < capTakes c) (ho : ¬ (c = 3 ∧ d.s.length = 32)) (hn0 : 2 ≤ d.s.length) (hdo : hDo h c (tp d 1) (tp d 0) = (q, v, th)) (hth : th ≠ 0) :
    Calls Try.prog 59 #[vh, vd, .int .i64 c] w (HMidOf w (h, d, th)) := by
  have HH := Lib.hid hh
  have HD := Lib.hid hd
  obtain ⟨E1, l1, E2, l2, E3, l3, E4, l4, rfl⟩ := hostIn_form hh
  obtain ⟨A1, k1, A2, k2, A3, k3, rfl, _⟩ := datC_form hd
  have h4 := fineH_g hf
  have cl : c < h.g.length := by omega
  obtain ⟨ad, rfl, cg⟩ := bols_at (hostIn_firstRow hh) cl
  clear h4
  have HF := Lib.hid hf
  have DF := Lib.hid df
  have sl := fine_sl df
  obtain ⟨ad2, rfl, CB⟩ := datIn_top hd.1 (i := 0) (by omega)
  obtain ⟨ad3, e3, CA⟩ := datIn_top hd.1 (i := 1) (by omega)
  obtain rfl := Option.some.inj e3
  generalize tp d 1 = x1 at *
  generalize tp d 0 = x0 at *
  rw [show h.g[c] = true by rw [← hg]; simp [List.getD, cl]] at cg
  clear hg
  have u0 : ((h.d.length : Int) == 40) = false := by rw [beq_eq_false_iff_ne]; omega
  clear hq
  obtain ⟨n, hn⟩ : ∃ n, d.s.length = n := ⟨_, rfl⟩
  have HN := Lib.hid hn
  have n32 : n ≤ 32 := by omega
  rw [hn] at HD ⊢
  obtain ⟨tk, ht⟩ : ∃ tk, capTakes c = tk := ⟨_, rfl⟩
  have TKS : Hid (∀ W, Calls Try.prog 109 #[.int .i64 c] W fun e w' => e = .returned (.int .i64 (tk : Nat)) ∧ Below W.heap.size W w') := Lib.hid fun W => by rw [← ht]; exact sHTakes_any c W hc
  have u1 : ¬ n < tk := by omega
  have tk2 : tk ≤ 2 := by rw [← ht]; have : c = 0 ∨ c = 1 ∨ c = 2 ∨ c = 3 := by omega
                          rcases this with rfl | rfl | rfl | rfl <;> decide
  have HTK := Lib.hid ht
  obtain ⟨j0, hj0⟩ : ∃ j0, n = j0 + 1 := ⟨n - 1, by omega⟩
  have s0 : IntKind.i64.wrap ((n : Int) - 1) = (j0 : Int) := by rw [IntWalk.i64_in _ (by omega)]; omega
  have s0' : (j0 : Int) < n := by omega
  have p0 : (0 : Int) < n := by omega
  rw [show d.s.length - 1 - 0 = j0 by omega] at CB
  obtain ⟨j1, hj1⟩ : ∃ j1, n = j1 + 2 := ⟨n - 2, by omega⟩
  have s1 : IntKind.i64.wrap ((n : Int) - 2) = (j1 : Int) := by rw [IntWalk.i64_in _ (by omega)]; omega
  have s1' : (j1 : Int) < n := by omega
  have p1' : (1 : Int) < n := by omega
  rw [show d.s.length - 1 - 1 = j1 by omega] at CA
  have HDO : Hid (∀ W u, HostIn W u h → Calls Try.prog 110 #[u, .int .i64 c, .int .i64 x1, .int .i64 x0] W (HDoOf W (q, v, th))) := Lib.hid fun W u hu => by rw [← hdo]; exact sDo_any u h c x1 x0 W hu HF.out hc
  have tt : (th != 0) = true := by rw [bne_iff_ne]; exact hth
  clear hn hu1 hn0 hdo ht sl hj0 hj1 hth
  have CG : ∀ o1 o2 o3 o4 : Obj, ((((w.alloc o1).alloc o2).alloc o3).alloc o4).cell? (ad.add c) = some (.bool true) := fun o1 o2 o3 o4 => cell_kept (below_alloc (below_alloc (below_alloc (below_alloc (Below.refl _ _) _) _) _) _) _ _ cg
  clear cg hh hd hf df
  have OO : (((c : Int) == 3) = true ∧ ((n : Int) == 32) = false) ∨ ((c : Int) == 3) = false := by
    by_cases q3 : c = 3
    · exact .inl ⟨by rw [beq_iff_eq]; omega, by rw [beq_eq_false_iff_ne]; intro q4; exact ho ⟨q3, by have := HN.out; omega⟩⟩
    · exact .inr (by rw [beq_eq_false_iff_ne]; omega)
  clear ho
  go_enter Try.func59, Try.ntmps59
  rcases OO with ⟨u3, u4⟩ | u3
  · go_wp2_with (first
      | (go_at_call 109; refine (TKS.out _).mono ?_; rintro e w1 ⟨rfl, hb⟩
         have V1 := whole_b hb (whole_alloc (whole_alloc (whole_alloc (whole_new w _ _) _) _) _)
         have D1 := whole_b hb (whole_alloc (whole_alloc (whole_new1 w _ _ _) _) _)
         have T1 := whole_b hb (whole_alloc (whole_new2 w _ _ _ _) _)
         have Y1 := whole_b hb (whole_new3 w _ _ _ _ _)
         have B1 : Hid (Below w.heap.size w w1) := Lib.hid (below_step (below_alloc (below_alloc (below_alloc (below_alloc (Below.refl _ _) _) _) _) _) hb)
         have zy := whole_lt Y1
         obtain ⟨c0, c1, c2, c3, c4⟩ := five_cells V1
         obtain ⟨d0, d1, d2, d3, d4, d5⟩ := six_cells D1
         obtain ⟨r0, r1, r2, r3, r4⟩ := five_cells T1
         obtain ⟨y0, y1, y2, y3, y4, y5⟩ := six_cells Y1
         have fd := whole_free D1
         have fr := whole_free T1
         have fy := whole_free Y1
         have cb := cell_kept B1.out _ _ CB
         have ca := cell_kept B1.out _ _ CA
         have VV1 := Lib.hid V1
         have DD1 := Lib.hid D1
         have TT1 := Lib.hid T1
         have YY1 := Lib.hid Y1
         clear hb V1 D1 T1 Y1)
      | (go_at_call 110; refine (HDO.out _ _ (hostIn_below HH.out B1.out)).mono ?_; rintro e w2 ⟨u2, rfl, hst, hb⟩
         clear c0 c1 c2 c3 c4 d0 d1 d2 d3 d4 d5 r0 r1 r2 r3 r4 y0 y1 y2 y3 y4 y5 fd fr fy cb ca
         have B2 : Hid (Below w.heap.size w w2) := Lib.hid (below_step B1.out hb)
         have V2 := whole_b hb VV1.out
         have D2 := whole_b hb DD1.out
         have T2 := whole_b hb TT1.out
         have Y2 := whole_b hb YY1.out
         have z2 := hb.size
         have b0 : w.heap.size < w2.heap.size := by omega
         have b1 : w.heap.size + 1 < w2.heap.size := by omega
         have b2 : w.heap.size + 1 + 1 < w2.heap.size := by omega
         have b3 : w.heap.size + 1 + 1 + 1 < w2.heap.size := by omega
         obtain ⟨U1, p1, U2, p2, U3, p3, U4, p4, rfl⟩ := hostIn_form (hostSt_now hst)
         have HST := Lib.hid hst
         obtain ⟨c0, c1, c2, c3, c4⟩ := five_cells V2
         obtain ⟨d0, d1, d2, d3, d4, d5⟩ := six_cells D2
         obtain ⟨r0, r1, r2, r3, r4⟩ := five_cells T2
         obtain ⟨y0, y1, y2, y3, y4, y5⟩ := six_cells Y2
         have fd := whole_free D2
         have fr := whole_free T2
         have fy := whole_free Y2
         have DD2 := Lib.hid D2
         have TT2 := Lib.hid T2
         have YY2 := Lib.hid Y2
         clear hb hst V2 D2 T2 Y2))
    go_region
    all_goals
      go_wp2
      refine bodyPost_ret (v := .tuple #[.agg #[.slice (some ad) h.g.length l1, .slice E2 h.s.length l2, .slice E3 h.n.length l3, .int .i64 h.c, .slice E4 h.d.length l4], .agg #[.slice (some ad2) n k1, .slice A2 d.b.length k2, .slice A3 d.c.length k3, .int .i64 d.h, .int .i64 d.n, .string d.o], .int .i64 th]) (by simp [results, Try.results59, go_sem, *]) rfl ⟨_, _, rfl, hostIn_below HH.out ?_, datC_below HD.out ?_, ?_⟩
      all_goals repeat (first | with_reducible exact Below.refl _ _ | with_reducible exact B2.out | with_reducible refine Below.setCell ?_ (by simp <;> omega) _ | with_reducible refine below_alloc ?_ _ | with_reducible refine Below.drew ?_)
  · go_wp2_with (first
      | (go_at_call 109; refine (TKS.out _).mono ?_; rintro e w1 ⟨rfl, hb⟩
         have V1 := whole_b hb (whole_alloc (whole_alloc (whole_alloc (whole_new w _ _) _) _) _)
         have D1 := whole_b hb (whole_alloc (whole_alloc (whole_new1 w _ _ _) _) _)
         have T1 := whole_b hb (whole_alloc (whole_new2 w _ _ _ _) _)
         have Y1 := whole_b hb (whole_new3 w _ _ _ _ _)
         have B1 : Hid (Below w.heap.size w w1) := Lib.hid (below_step (below_alloc (below_alloc (below_alloc (below_alloc (Below.refl _ _) _) _) _) _) hb)
         have zy := whole_lt Y1
         obtain ⟨c0, c1, c2, c3, c4⟩ := five_cells V1
         obtain ⟨d0, d1, d2, d3, d4, d5⟩ := six_cells D1
         obtain ⟨r0, r1, r2, r3, r4⟩ := five_cells T1
         obtain ⟨y0, y1, y2, y3, y4, y5⟩ := six_cells Y1
         have fd := whole_free D1
         have fr := whole_free T1
         have fy := whole_free Y1
         have cb := cell_kept B1.out _ _ CB
         have ca := cell_kept B1.out _ _ CA
         have VV1 := Lib.hid V1
         have DD1 := Lib.hid D1
         have TT1 := Lib.hid T1
         have YY1 := Lib.hid Y1
         clear hb V1 D1 T1 Y1)
      | (go_at_call 110; refine (HDO.out _ _ (hostIn_below HH.out B1.out)).mono ?_; rintro e w2 ⟨u2, rfl, hst, hb⟩
         clear c0 c1 c2 c3 c4 d0 d1 d2 d3 d4 d5 r0 r1 r2 r3 r4 y0 y1 y2 y3 y4 y5 fd fr fy cb ca
         have B2 : Hid (Below w.heap.size w w2) := Lib.hid (below_step B1.out hb)
         have V2 := whole_b hb VV1.out
         have D2 := whole_b hb DD1.out
         have T2 := whole_b hb TT1.out
         have Y2 := whole_b hb YY1.out
         have z2 := hb.size
         have b0 : w.heap.size < w2.heap.size := by omega
         have b1 : w.heap.size + 1 < w2.heap.size := by omega
         have b2 : w.heap.size + 1 + 1 < w2.heap.size := by omega
         have b3 : w.heap.size + 1 + 1 + 1 < w2.heap.size := by omega
         obtain ⟨U1, p1, U2, p2, U3, p3, U4, p4, rfl⟩ := hostIn_form (hostSt_now hst)
         have HST := Lib.hid hst
         obtain ⟨c0, c1, c2, c3, c4⟩ := five_cells V2
         obtain ⟨d0, d1, d2, d3, d4, d5⟩ := six_cells D2
         obtain ⟨r0, r1, r2, r3, r4⟩ := five_cells T2
         obtain ⟨y0, y1, y2, y3, y4, y5⟩ := six_cells Y2
         have fd := whole_free D2
         have fr := whole_free T2
         have fy := whole_free Y2
         have DD2 := Lib.hid D2
         have TT2 := Lib.hid T2
         have YY2 := Lib.hid Y2
         clear hb hst V2 D2 T2 Y2))
    go_region
    all_goals
      go_wp2
      refine bodyPost_ret (v := .tuple #[.agg #[.slice (some ad) h.g.length l1, .slice E2 h.s.length l2, .slice E3 h.n.length l3, .int .i64 h.c, .slice E4 h.d.length l4], .agg #[.slice (some ad2) n k1, .slice A2 d.b.length k2, .slice A3 d.c.length k3, .int .i64 d.h, .int .i64 d.n, .string d.o], .int .i64 th]) (by simp [results, Try.results59, go_sem, *]) rfl ⟨_, _, rfl, hostIn_below HH.out ?_, datC_below HD.out ?_, ?_⟩
      all_goals repeat (first | with_reducible exact Below.refl _ _ | with_reducible exact B2.out | with_reducible refine Below.setCell ?_ (by simp <;> omega) _ | with_reducible refine below_alloc ?_ _ | with_reducible refine Below.drew ?_)

set_option maxRecDepth 100000 in
set_option maxHeartbeats 2000000 in
theorem sCall_F2 (vh vd : Value) (h : Ht) (d : Dt) (c : Nat) (q : Ht) (v th : Int) (w : World) (hh : HostIn w vh h) (hd : DatC w vd d) (hf : HtFine h) (df : DtFine d) (hc : c < 4) (hg : h.g.getD c false = true) (hq : ¬ h.d.length = 40) (hu1 : ¬ d.s.length < capTakes c) (ho : ¬ (c = 3 ∧ d.s.length = 32)) (hn0 : 2 ≤ d.s.length) (hdo : hDo h c (tp d 1) (tp d 0) = (q, v, th)) (hth : th = 0) (hc1 : c = 1) :
    Calls Try.prog 59 #[vh, vd, .int .i64 c] w (HMidOf w (q, (dPut d 2 []).1, 0)) := by
  have HH := Lib.hid hh
  have HD := Lib.hid hd
  obtain ⟨E1, l1, E2, l2, E3, l3, E4, l4, rfl⟩ := hostIn_form hh
  obtain ⟨A1, k1, A2, k2, A3, k3, rfl, _⟩ := datC_form hd
  have h4 := fineH_g hf
  have cl : c < h.g.length := by omega
  obtain ⟨ad, rfl, cg⟩ := bols_at (hostIn_firstRow hh) cl
  clear h4
  have HF := Lib.hid hf
  have DF := Lib.hid df
  have sl := fine_sl df
  obtain ⟨ad2, rfl, CB⟩ := datIn_top hd.1 (i := 0) (by omega)
  obtain ⟨ad3, e3, CA⟩ := datIn_top hd.1 (i := 1) (by omega)
  obtain rfl := Option.some.inj e3
  generalize tp d 1 = x1 at *
  generalize tp d 0 = x0 at *
  rw [show h.g[c] = true by rw [← hg]; simp [List.getD, cl]] at cg
  clear hg
  have u0 : ((h.d.length : Int) == 40) = false := by rw [beq_eq_false_iff_ne]; omega
  clear hq
  obtain ⟨n, hn⟩ : ∃ n, d.s.length = n := ⟨_, rfl⟩
  have HN := Lib.hid hn
  have n32 : n ≤ 32 := by omega
  rw [hn] at HD ⊢
  obtain ⟨tk, ht⟩ : ∃ tk, capTakes c = tk := ⟨_, rfl⟩
  have TKS : Hid (∀ W, Calls Try.prog 109 #[.int .i64 c] W fun e w' => e = .returned (.int .i64 (tk : Nat)) ∧ Below W.heap.size W w') := Lib.hid fun W => by rw [← ht]; exact sHTakes_any c W hc
  have u1 : ¬ n < tk := by omega
  have tk2 : tk ≤ 2 := by rw [← ht]; have : c = 0 ∨ c = 1 ∨ c = 2 ∨ c = 3 := by omega
                          rcases this with rfl | rfl | rfl | rfl <;> decide
  have HTK := Lib.hid ht
  obtain ⟨j0, hj0⟩ : ∃ j0, n = j0 + 1 := ⟨n - 1, by omega⟩
  have s0 : IntKind.i64.wrap ((n : Int) - 1) = (j0 : Int) := by rw [IntWalk.i64_in _ (by omega)]; omega
  have s0' : (j0 : Int) < n := by omega
  have p0 : (0 : Int) < n := by omega
  rw [show d.s.length - 1 - 0 = j0 by omega] at CB
  obtain ⟨j1, hj1⟩ : ∃ j1, n = j1 + 2 := ⟨n - 2, by omega⟩
  have s1 : IntKind.i64.wrap ((n : Int) - 2) = (j1 : Int) := by rw [IntWalk.i64_in _ (by omega)]; omega
  have s1' : (j1 : Int) < n := by omega
  have p1' : (1 : Int) < n := by omega
  rw [show d.s.length - 1 - 1 = j1 by omega] at CA
  have HDO : Hid (∀ W u, HostIn W u h → Calls Try.prog 110 #[u, .int .i64 c, .int .i64 x1, .int .i64 x0] W (HDoOf W (q, v, th))) := Lib.hid fun W u hu => by rw [← hdo]; exact sDo_any u h c x1 x0 W hu HF.out hc
  subst hth
  have u6 : ((c : Int) == 1) = true := by rw [beq_iff_eq]; omega
  have sq : d.s.length = n := by omega
  have PUT : Hid (∀ W u, DatC W u d → Calls Try.prog 111 #[u, .int .i64 2, .slice none 0 0] W (ReadC W u d (dPut d 2 []))) := Lib.hid fun W u hu => sPut_any u d 2 _ [] W hu (ints_nil W) (by omega) (by omega) (by simp)
  clear hn hu1 hn0 hdo ht sl hj0 hj1 sq hc1
  generalize dPut d 2 [] = pr at *
  obtain ⟨r, rt⟩ := pr
  have CG : ∀ o1 o2 o3 o4 : Obj, ((((w.alloc o1).alloc o2).alloc o3).alloc o4).cell? (ad.add c) = some (.bool true) := fun o1 o2 o3 o4 => cell_kept (below_alloc (below_alloc (below_alloc (below_alloc (Below.refl _ _) _) _) _) _) _ _ cg
  clear cg hh hd hf df
  have OO : (((c : Int) == 3) = true ∧ ((n : Int) == 32) = false) ∨ ((c : Int) == 3) = false := by
    by_cases q3 : c = 3
    · exact .inl ⟨by rw [beq_iff_eq]; omega, by rw [beq_eq_false_iff_ne]; intro q4; exact ho ⟨q3, by have := HN.out; omega⟩⟩
    · exact .inr (by rw [beq_eq_false_iff_ne]; omega)
  clear ho
  go_enter Try.func59, Try.ntmps59
  rcases OO with ⟨u3, u4⟩ | u3
  · go_wp2_with (first
      | (go_at_call 109; refine (TKS.out _).mono ?_; rintro e w1 ⟨rfl, hb⟩
         have V1 := whole_b hb (whole_alloc (whole_alloc (whole_alloc (whole_new w _ _) _) _) _)
         have D1 := whole_b hb (whole_alloc (whole_alloc (whole_new1 w _ _ _) _) _)
         have T1 := whole_b hb (whole_alloc (whole_new2 w _ _ _ _) _)
         have Y1 := whole_b hb (whole_new3 w _ _ _ _ _)
         have B1 : Hid (Below w.heap.size w w1) := Lib.hid (below_step (below_alloc (below_alloc (below_alloc (below_alloc (Below.refl _ _) _) _) _) _) hb)
         have zy := whole_lt Y1
         obtain ⟨c0, c1, c2, c3, c4⟩ := five_cells V1
         obtain ⟨d0, d1, d2, d3, d4, d5⟩ := six_cells D1
         obtain ⟨r0, r1, r2, r3, r4⟩ := five_cells T1
         obtain ⟨y0, y1, y2, y3, y4, y5⟩ := six_cells Y1
         have fd := whole_free D1
         have fr := whole_free T1
         have fy := whole_free Y1
         have cb := cell_kept B1.out _ _ CB
         have ca := cell_kept B1.out _ _ CA
         have VV1 := Lib.hid V1
         have DD1 := Lib.hid D1
         have TT1 := Lib.hid T1
         have YY1 := Lib.hid Y1
         clear hb V1 D1 T1 Y1)
      | (go_at_call 110; refine (HDO.out _ _ (hostIn_below HH.out B1.out)).mono ?_; rintro e w2 ⟨u2, rfl, hst, hb⟩
         clear c0 c1 c2 c3 c4 d0 d1 d2 d3 d4 d5 r0 r1 r2 r3 r4 y0 y1 y2 y3 y4 y5 fd fr fy cb ca
         have B2 : Hid (Below w.heap.size w w2) := Lib.hid (below_step B1.out hb)
         have V2 := whole_b hb VV1.out
         have D2 := whole_b hb DD1.out
         have T2 := whole_b hb TT1.out
         have Y2 := whole_b hb YY1.out
         have z2 := hb.size
         have b0 : w.heap.size < w2.heap.size := by omega
         have b1 : w.heap.size + 1 < w2.heap.size := by omega
         have b2 : w.heap.size + 1 + 1 < w2.heap.size := by omega
         have b3 : w.heap.size + 1 + 1 + 1 < w2.heap.size := by omega
         obtain ⟨U1, p1, U2, p2, U3, p3, U4, p4, rfl⟩ := hostIn_form (hostSt_now hst)
         have HST := Lib.hid hst
         obtain ⟨c0, c1, c2, c3, c4⟩ := five_cells V2
         obtain ⟨d0, d1, d2, d3, d4, d5⟩ := six_cells D2
         obtain ⟨r0, r1, r2, r3, r4⟩ := five_cells T2
         obtain ⟨y0, y1, y2, y3, y4, y5⟩ := six_cells Y2
         have fd := whole_free D2
         have fr := whole_free T2
         have fy := whole_free Y2
         have DD2 := Lib.hid D2
         have TT2 := Lib.hid T2
         have YY2 := Lib.hid Y2
         clear hb hst V2 D2 T2 Y2)
      | (go_at_call 111; refine (PUT.out _ _ (datC_below HD.out (below_alloc B2.out _))).mono ?_; rintro e w3 ⟨ux, rfl, hb3, hB3⟩
         clear c0 c1 c2 c3 c4 d0 d1 d2 d3 d4 d5 r0 r1 r2 r3 r4 y0 y1 y2 y3 y4 y5 fd fr fy
         have B3 : Hid (Below w.heap.size w w3) := Lib.hid (below_step (below_alloc B2.out _) hb3)
         have HST3 := Lib.hid (hostSt_below (hostSt_alloc HST.out _) hb3)
         have D3 := whole_b hb3 (whole_alloc DD2.out _)
         have T3 := whole_b hb3 (whole_alloc TT2.out _)
         have Y3 := whole_b hb3 (whole_alloc YY2.out _)
         have X3 := whole_b hb3 (whole_new w2 _ _)
         have z3 := whole_lt X3
         have hu3 := built_now hB3 (datC_below HD.out B3.out)
         simp only at hu3
         obtain ⟨R1, m1, R2, m2, R3, m3, rfl, _⟩ := datC_form hu3
         have HB3 := Lib.hid hB3
         obtain ⟨d0, d1, d2, d3, d4, d5⟩ := six_cells D3
         obtain ⟨r0, r1, r2, r3, r4⟩ := five_cells T3
         obtain ⟨y0, y1, y2, y3, y4, y5⟩ := six_cells Y3
         obtain ⟨x0_, x1_, x2_, x3_, x4_⟩ := five_cells X3
         have fd := whole_free D3
         have fr := whole_free T3
         have fy := whole_free Y3
         clear hb3 hB3 hu3 D3 T3 Y3 X3))
    go_region
    all_goals
      go_wp2
      refine bodyPost_ret (v := .tuple #[.agg #[.slice U1 q.g.length p1, .slice U2 q.s.length p2, .slice U3 q.n.length p3, .int .i64 q.c, .slice U4 q.d.length p4], .agg #[.slice R1 r.s.length m1, .slice R2 r.b.length m2, .slice R3 r.c.length m3, .int .i64 r.h, .int .i64 r.n, .string r.o], .int .i64 0]) (by simp [results, Try.results59, go_sem, *]) rfl ⟨_, _, rfl, ?_, HB3.out _ (datC_below HD.out ?_) ?_, ?_⟩
      · refine hostSt_now (lo := w1.heap.size) ?_
        have hq := HST3.out
        repeat (first | with_reducible exact hq | ((with_reducible refine hostSt_store ?_ ?hh); case hh => omega) | with_reducible refine hostSt_drew ?_)
      · repeat (first | with_reducible exact B3.out | with_reducible refine Below.setCell ?_ (by simp <;> omega) _ | with_reducible refine Below.drew ?_)
      · repeat (first | with_reducible exact agree_refl _ _ | ((with_reducible refine agree_old ?_ ?hh _); case hh => simp <;> omega) | with_reducible refine agree_drew ?_)
      · repeat (first | with_reducible exact B3.out | with_reducible refine Below.setCell ?_ (by simp <;> omega) _ | with_reducible refine Below.drew ?_)
  · go_wp2_with (first
      | (go_at_call 109; refine (TKS.out _).mono ?_; rintro e w1 ⟨rfl, hb⟩
         have V1 := whole_b hb (whole_alloc (whole_alloc (whole_alloc (whole_new w _ _) _) _) _)
         have D1 := whole_b hb (whole_alloc (whole_alloc (whole_new1 w _ _ _) _) _)
         have T1 := whole_b hb (whole_alloc (whole_new2 w _ _ _ _) _)
         have Y1 := whole_b hb (whole_new3 w _ _ _ _ _)
         have B1 : Hid (Below w.heap.size w w1) := Lib.hid (below_step (below_alloc (below_alloc (below_alloc (below_alloc (Below.refl _ _) _) _) _) _) hb)
         have zy := whole_lt Y1
         obtain ⟨c0, c1, c2, c3, c4⟩ := five_cells V1
         obtain ⟨d0, d1, d2, d3, d4, d5⟩ := six_cells D1
         obtain ⟨r0, r1, r2, r3, r4⟩ := five_cells T1
         obtain ⟨y0, y1, y2, y3, y4, y5⟩ := six_cells Y1
         have fd := whole_free D1
         have fr := whole_free T1
         have fy := whole_free Y1
         have cb := cell_kept B1.out _ _ CB
         have ca := cell_kept B1.out _ _ CA
         have VV1 := Lib.hid V1
         have DD1 := Lib.hid D1
         have TT1 := Lib.hid T1
         have YY1 := Lib.hid Y1
         clear hb V1 D1 T1 Y1)
      | (go_at_call 110; refine (HDO.out _ _ (hostIn_below HH.out B1.out)).mono ?_; rintro e w2 ⟨u2, rfl, hst, hb⟩
         clear c0 c1 c2 c3 c4 d0 d1 d2 d3 d4 d5 r0 r1 r2 r3 r4 y0 y1 y2 y3 y4 y5 fd fr fy cb ca
         have B2 : Hid (Below w.heap.size w w2) := Lib.hid (below_step B1.out hb)
         have V2 := whole_b hb VV1.out
         have D2 := whole_b hb DD1.out
         have T2 := whole_b hb TT1.out
         have Y2 := whole_b hb YY1.out
         have z2 := hb.size
         have b0 : w.heap.size < w2.heap.size := by omega
         have b1 : w.heap.size + 1 < w2.heap.size := by omega
         have b2 : w.heap.size + 1 + 1 < w2.heap.size := by omega
         have b3 : w.heap.size + 1 + 1 + 1 < w2.heap.size := by omega
         obtain ⟨U1, p1, U2, p2, U3, p3, U4, p4, rfl⟩ := hostIn_form (hostSt_now hst)
         have HST := Lib.hid hst
         obtain ⟨c0, c1, c2, c3, c4⟩ := five_cells V2
         obtain ⟨d0, d1, d2, d3, d4, d5⟩ := six_cells D2
         obtain ⟨r0, r1, r2, r3, r4⟩ := five_cells T2
         obtain ⟨y0, y1, y2, y3, y4, y5⟩ := six_cells Y2
         have fd := whole_free D2
         have fr := whole_free T2
         have fy := whole_free Y2
         have DD2 := Lib.hid D2
         have TT2 := Lib.hid T2
         have YY2 := Lib.hid Y2
         clear hb hst V2 D2 T2 Y2)
      | (go_at_call 111; refine (PUT.out _ _ (datC_below HD.out (below_alloc B2.out _))).mono ?_; rintro e w3 ⟨ux, rfl, hb3, hB3⟩
         clear c0 c1 c2 c3 c4 d0 d1 d2 d3 d4 d5 r0 r1 r2 r3 r4 y0 y1 y2 y3 y4 y5 fd fr fy
         have B3 : Hid (Below w.heap.size w w3) := Lib.hid (below_step (below_alloc B2.out _) hb3)
         have HST3 := Lib.hid (hostSt_below (hostSt_alloc HST.out _) hb3)
         have D3 := whole_b hb3 (whole_alloc DD2.out _)
         have T3 := whole_b hb3 (whole_alloc TT2.out _)
         have Y3 := whole_b hb3 (whole_alloc YY2.out _)
         have X3 := whole_b hb3 (whole_new w2 _ _)
         have z3 := whole_lt X3
         have hu3 := built_now hB3 (datC_below HD.out B3.out)
         simp only at hu3
         obtain ⟨R1, m1, R2, m2, R3, m3, rfl, _⟩ := datC_form hu3
         have HB3 := Lib.hid hB3
         obtain ⟨d0, d1, d2, d3, d4, d5⟩ := six_cells D3
         obtain ⟨r0, r1, r2, r3, r4⟩ := five_cells T3
         obtain ⟨y0, y1, y2, y3, y4, y5⟩ := six_cells Y3
         obtain ⟨x0_, x1_, x2_, x3_, x4_⟩ := five_cells X3
         have fd := whole_free D3
         have fr := whole_free T3
         have fy := whole_free Y3
         clear hb3 hB3 hu3 D3 T3 Y3 X3))
    go_region
    all_goals
      go_wp2
      refine bodyPost_ret (v := .tuple #[.agg #[.slice U1 q.g.length p1, .slice U2 q.s.length p2, .slice U3 q.n.length p3, .int .i64 q.c, .slice U4 q.d.length p4], .agg #[.slice R1 r.s.length m1, .slice R2 r.b.length m2, .slice R3 r.c.length m3, .int .i64 r.h, .int .i64 r.n, .string r.o], .int .i64 0]) (by simp [results, Try.results59, go_sem, *]) rfl ⟨_, _, rfl, ?_, HB3.out _ (datC_below HD.out ?_) ?_, ?_⟩
      · refine hostSt_now (lo := w1.heap.size) ?_
        have hq := HST3.out
        repeat (first | with_reducible exact hq | ((with_reducible refine hostSt_store ?_ ?hh); case hh => omega) | with_reducible refine hostSt_drew ?_)
      · repeat (first | with_reducible exact B3.out | with_reducible refine Below.setCell ?_ (by simp <;> omega) _ | with_reducible refine Below.drew ?_)
      · repeat (first | with_reducible exact agree_refl _ _ | ((with_reducible refine agree_old ?_ ?hh _); case hh => simp <;> omega) | with_reducible refine agree_drew ?_)
      · repeat (first | with_reducible exact B3.out | with_reducible refine Below.setCell ?_ (by simp <;> omega) _ | with_reducible refine Below.drew ?_)

end Go.Proofs.Ytkcogfgjabemfaa

namespace Go.Proofs.Ytkcogfgjabemfaa
open Go.RowKit
set_option linter.unusedVariables false
set_option linter.unusedSimpArgs false

theorem svc_deeds (h : Ht) (c : Nat) (a b : Int) : (hSvc h c a b).1.d = h.d := by
  unfold hSvc
  by_cases h0 : c = 0
  · rw [if_pos h0]; split <;> rfl
  rw [if_neg h0]
  by_cases h1 : c = 1
  · rw [if_pos h1]; split <;> rfl
  rw [if_neg h1]
  by_cases h2 : c = 2
  · rw [if_pos h2]
  rw [if_neg h2]

theorem serve_deeds (h : Ht) (d : Dt) (c : Nat) : (hServe h d c).1.d = h.d := by
  unfold hServe
  split
  · rfl
  split
  · rfl
  split
  · exact svc_deeds _ _ _ _
  · exact svc_deeds _ _ _ _

/-- What impl's call comes to, by its own steps. -/
def hIm (h : Ht) (d : Dt) (c : Nat) : Ht × Dt × Int :=
  if h.g.getD c false = false then (h, d, -100)
  else if h.d.length = 40 then (h, d, -8)
  else if (hServe h d c).2.2.2 ≠ 0 then ((hServe h d c).1, (hServe h d c).2.1, (hServe h d c).2.2.2)
  else ({ (hServe h d c).1 with d := (hServe h d c).1.d ++ [⟨c, (hServe h d c).2.2.1.a, (hServe h d c).2.2.1.b, (hServe h d c).2.2.1.r⟩] }, (hServe h d c).2.1, 0)

theorem svc_throw (h : Ht) (c : Nat) (a b : Int) (ht : (hSvc h c a b).2.2 ≠ 0) : (hSvc h c a b).1 = h ∧ (hDo h c a b).2.2 = (hSvc h c a b).2.2 := by
  unfold hSvc hDo at *
  by_cases h0 : c = 0
  · simp only [if_pos h0] at *
    by_cases hb : inB b 0 7 = true
    · simp [if_pos hb] at ht
    · simp only [if_neg hb]; exact ⟨trivial, trivial⟩
  simp only [if_neg h0] at *
  by_cases h1 : c = 1
  · simp only [if_pos h1] at *
    by_cases hb : inB b 0 7 = true
    · simp [if_pos hb] at ht
    · simp only [if_neg hb]; exact ⟨trivial, trivial⟩
  simp only [if_neg h1] at *
  by_cases h2 : c = 2
  · simp [if_pos h2] at ht
  simp [if_neg h2] at ht

theorem svc_good (h : Ht) (c : Nat) (a b : Int) (hc : c < 4) (ht : ¬ (hSvc h c a b).2.2 ≠ 0) : (hDo h c a b).2.2 = 0 ∧ (hDo h c a b).1 = { (hSvc h c a b).1 with d := (hSvc h c a b).1.d ++ [⟨c, (hSvc h c a b).2.1.a, (hSvc h c a b).2.1.b, (hSvc h c a b).2.1.r⟩] } ∧ (c ≠ 1 → (hDo h c a b).2.1 = (hSvc h c a b).2.1.r) := by
  rcases (by omega : c = 0 ∨ c = 1 ∨ c = 2 ∨ c = 3) with rfl | rfl | rfl | rfl
  · unfold hSvc hDo at *
    by_cases hb : inB b 0 7 = true
    · simp [hb]
    · simp [hb] at ht
  · unfold hSvc hDo at *
    by_cases hb : inB b 0 7 = true
    · simp [hb]
    · simp [hb] at ht
  · simp [hSvc, hDo]
  · simp [hSvc, hDo]

theorem im_call (h : Ht) (d : Dt) (c : Nat) (df : DtFine d) (hc : c < 4) : hIm h d c = hCall h d c := by
  have sl := fine_sl df
  unfold hIm hCall
  by_cases hg : h.g.getD c false = false
  · rw [if_pos hg, if_pos hg]
  rw [if_neg hg, if_neg hg]
  by_cases hq : h.d.length = 40
  · rw [if_pos hq, if_pos hq]
  rw [if_neg hq, if_neg hq]
  by_cases hu : d.s.length < capTakes c
  · have e : hServe h d c = (h, d, noDd, -4) := by unfold hServe; rw [if_pos hu]
    rw [e, if_pos hu, if_pos (show (-4 : Int) ≠ 0 by decide)]
  rw [if_neg hu]
  have hov : (32 < d.s.length - capTakes c + capLeaves c) ↔ (c = 3 ∧ d.s.length = 32) := by
    rcases (by omega : c = 0 ∨ c = 1 ∨ c = 2 ∨ c = 3) with rfl | rfl | rfl | rfl <;> simp [capTakes, capLeaves] at * <;> omega
  by_cases ho : c = 3 ∧ d.s.length = 32
  · have e : hServe h d c = (h, d, noDd, -3) := by unfold hServe; rw [if_neg hu, if_pos (hov.2 ho)]
    rw [e, if_pos ho, if_pos (show (-3 : Int) ≠ 0 by decide)]
  rw [if_neg ho]
  have ho' : ¬ 32 < d.s.length - capTakes c + capLeaves c := fun q => ho (hov.1 q)
  by_cases ht : (hSvc h c (tp d 1) (tp d 0)).2.2 ≠ 0
  · have e : hServe h d c = ((hSvc h c (tp d 1) (tp d 0)).1, d, noDd, (hSvc h c (tp d 1) (tp d 0)).2.2) := by unfold hServe; rw [if_neg hu, if_neg ho', if_pos ht]
    obtain ⟨t1, t2⟩ := svc_throw h c _ _ ht
    rw [e, if_pos ht, if_pos (by rw [t2]; exact ht), t1, t2]
  · have e : hServe h d c = ((hSvc h c (tp d 1) (tp d 0)).1, { d with s := d.s.take (d.s.length - capTakes c) ++ [(hSvc h c (tp d 1) (tp d 0)).2.1.r].take (capLeaves c) }, (hSvc h c (tp d 1) (tp d 0)).2.1, 0) := by unfold hServe; rw [if_neg hu, if_neg ho', if_neg ht]
    obtain ⟨t1, t2, t3⟩ := svc_good h c (tp d 1) (tp d 0) hc ht
    rw [e, if_neg (by simp), if_neg (by rw [t1]; simp), t2]
    by_cases h1 : c = 1
    · subst h1
      rw [if_pos rfl]
      have : (dPut d 2 []).1 = { d with s := d.s.take (d.s.length - 2) ++ [] } := by unfold dPut; rw [if_neg (by simp; omega)]
      rw [this]
      rfl
    · rw [if_neg h1, t3 h1]
      have hl : capLeaves c = 1 := by rcases (by omega : c = 0 ∨ c = 2 ∨ c = 3) with rfl | rfl | rfl <;> rfl
      have : (dPut d (capTakes c) [(hSvc h c (tp d 1) (tp d 0)).2.1.r]).1 = { d with s := d.s.take (d.s.length - capTakes c) ++ [(hSvc h c (tp d 1) (tp d 0)).2.1.r] } := by
        unfold dPut
        rw [if_neg (by rw [hl] at ho'; simpa using ho')]
      rw [this, hl]
      rfl

theorem call_any (w : World) (lo G E : Nat) (vh vd : Value) (h : Ht) (d : Dt) (c : Nat) (p : Pair w lo G E vh vd h d) (hf : HtFine h) (df : DtFine d) (hc : c < 4) (hr : ∀ x y z q, vh = .agg #[x, y, z, .int .i64 h.c, q] → Row w lo z h.n) :
    Calls Try.prog 55 #[.pointer (some ⟨G, 0, none⟩), .pointer (some ⟨E, 0, none⟩), .int .i64 (c : Int)] w (CallOf w lo G E (hCall h d c)) := by
  rw [← im_call h d c df hc]
  unfold hIm
  by_cases hg : h.g.getD c false = false
  · rw [if_pos hg]; exact call_denied w lo G E vh vd h d c p hf df hc hg
  rw [if_neg hg]
  have hg' : h.g.getD c false = true := by cases q : h.g.getD c false; exact absurd q hg; rfl
  by_cases hq : h.d.length = 40
  · rw [if_pos hq]; exact call_space w lo G E vh vd h d c p hf df hc hg' hq
  rw [if_neg hq]
  have hql : (hServe h d c).1.d.length ≤ 40 := by rw [serve_deeds]; exact fineH_d hf
  obtain ⟨q, d', x, th, hs⟩ : ∃ q d' x th, hServe h d c = (q, d', x, th) := ⟨_, _, _, _, rfl⟩
  rw [hs] at hql ⊢
  by_cases hth : th ≠ 0
  · rw [if_pos hth]
    rcases (by omega : c = 0 ∨ c = 1 ∨ c = 2 ∨ c = 3) with rfl | rfl | rfl | rfl
    · exact call_throw0 w lo G E vh vd h d p hf df q d' x th hg' hq hr hs hth
    · exact call_throw1 w lo G E vh vd h d p hf df q d' x th hg' hq hr hs hth
    · exact call_throw2 w lo G E vh vd h d p hf df q d' x th hg' hq hr hs hth
    · exact call_throw3 w lo G E vh vd h d p hf df q d' x th hg' hq hr hs hth
  · rw [if_neg hth]
    obtain rfl : th = 0 := by simpa using hth
    rcases (by omega : c = 0 ∨ c = 1 ∨ c = 2 ∨ c = 3) with rfl | rfl | rfl | rfl
    · exact call_fine0 w lo G E vh vd h d p hf df q d' x hg' hq hr hs hql
    · exact call_fine1 w lo G E vh vd h d p hf df q d' x hg' hq hr hs hql
    · exact call_fine2 w lo G E vh vd h d p hf df q d' x hg' hq hr hs hql
    · exact call_fine3 w lo G E vh vd h d p hf df q d' x hg' hq hr hs hql

end Go.Proofs.Ytkcogfgjabemfaa

namespace Go.Proofs.Ytkcogfgjabemfaa
open Go.RowKit
set_option linter.unusedVariables false
set_option linter.unusedSimpArgs false

/-- 'copy(own, list)' where own was made of list's length. -/
theorem wpList_copy_whole {P : Program} {w : World} {ops : Array Oper} {rest : List Oper} {o : Oper} {a : Act} {Q : Exit → Act → World → Prop} (hgd : o.guard = none) (d s : Operand) (dT : TypeId)
    (ho : o.op = .call { callee := .builtin .copy, args := #[d, s], argTypes := #[dT, dT] }) (elem : TypeId) (hu : P.underlying dT = some (.slice elem)) (sz : Nat) (hsz : (P.info? elem).map (·.size) = some sz) (h0 : 0 < sz)
    (g n dCap sCap : Nat) (A : Option Addr) (hd : a.eval d = .slice (some ⟨g, 0, none⟩) n dCap) (hs : a.eval s = .slice A n sCap)
    (cur : Array Value) (t : TypeId) (hg : w.heap[g]? = some (.cells cur t (0, 0))) (hcur : cur.size = n * sz) (cs : List Value) (hn : cs.length = n * sz)
    (hpos : 0 < cs.length → ∃ ad, A = some ad ∧ ∀ j v, cs[j]? = some v → w.cell? (ad.add j) = some v) (h1 : ∀ v ∈ cs, v.oneCell' = true)
    (h : ∀ w', w'.heap[g]? = some (.cells cs.toArray t (0, 0)) → w.grownBy w' (some g) → wpList P ops Q rest (a.put o.dst (goInt n)) w') :
    wpList P ops Q (o :: rest) a w := by
  refine wpList_plain hgd fun K hK => ?_
  cases hq : P.info? elem with
  | none => simp [hq] at hsz
  | some i =>
    have hi : i.size = sz := by simpa [hq] using hsz
    have hmin : Nat.min n n = n := Nat.min_self n
    by_cases hz : n = 0
    · subst hz
      have hcs : cs = [] := List.eq_nil_of_length_eq_zero (by rw [hn]; simp)
      have hcu : cur = #[] := Array.eq_empty_of_size_eq_zero (by rw [hcur]; simp)
      subst hcs hcu
      have hl : ∀ (x : Addr), (loadCells x 0).run P w = .ok #[] w := fun x => by simpa using run_loadCells_list (P := P) w x [] (by simp)
      have hrun : (Builtin.copy_ #[dT, dT] o.type #[.slice (some ⟨g, 0, none⟩) 0 dCap, .slice A 0 sCap]).run P w = .ok (goInt 0) w := by
        cases A <;> simp [Builtin.copy_, run_underlying hu, Builtin.lenOf, Builtin.firstCells, sizeOf, typeInfo, hq, hmin, storeCells, hl]
      unfold Oper.wp
      simp [execOp, ho, resolve, invoke, builtin, hd, hs, hrun, Result.andThen]
      exact hK _ _ (h w hg ⟨rfl, rfl, rfl, Nat.le_refl _, fun k hk hne => rfl⟩)
    · have hp : 0 < n * sz := Nat.mul_pos (by omega) h0
      obtain ⟨ad, rfl, hc⟩ := hpos (by omega)
      have hl1 := run_loadCells_list (P := P) w ad cs hc
      have hst := run_storeCells_at P g 0 t cs 0 cur w hg (by rw [hcur, hn]; simp) h1
      rw [hn] at hl1
      simp only [Nat.add_zero, Nat.zero_add, List.take_zero, List.nil_append] at hst
      have hrun : (Builtin.copy_ #[dT, dT] o.type #[.slice (some ⟨g, 0, none⟩) n dCap, .slice (some ad) n sCap]).run P w = .ok (goInt n) (w.setRow g (cs ++ cur.toList.drop cs.length).toArray) := by
        simp [Builtin.copy_, run_underlying hu, Builtin.lenOf, Builtin.firstCells, sizeOf, typeInfo, hq, hi, hmin, hl1, hst, Result.andThen]
      have hdr : cs ++ cur.toList.drop cs.length = cs := by rw [List.drop_of_length_le (by rw [Array.length_toList, hcur, hn]; exact Nat.le_refl _), List.append_nil]
      rw [hdr] at hrun
      unfold Oper.wp
      simp [execOp, ho, resolve, invoke, builtin, hd, hs, hrun, Result.andThen]
      exact hK _ _ (h _ (setRow_heap w g cur _ t _ hg) ⟨rfl, rfl, rfl, by simp [World.setRow], fun k hk hne => setRow_other w g k _ (fun e => hne (by rw [e]))⟩)

theorem info_size1 : (Try.prog.info? 4).map (·.size) = some 1 := by kernel_rfl
theorem info_size4 : (Try.prog.info? 37).map (·.size) = some 4 := by kernel_rfl

/-- The block of a slice that was just made. -/
theorem own_block {w : World} {base g n sz : Nat} {t : TypeId} {cs : List Value} (h : w.ownsRow base t sz (.slice (some ⟨g, 0, none⟩) n n) n cs) : ∃ cur : Array Value, w.heap[g]? = some (.cells cur t (0, 0)) ∧ cur.size = n * sz := by
  rcases h.2 with ⟨hv, _⟩ | ⟨g', cap, cur, hv, hb, hg, h1, h2, h3, h4⟩
  · cases hv
  · simp only [Value.slice.injEq, Option.some.injEq, Addr.mk.injEq, true_and, and_true] at hv
    obtain ⟨rfl, rfl⟩ := hv
    exact ⟨cur, hg, h3⟩

theorem bols_src {w w1 : World} {A : Option Addr} {ca : Nat} {zs : List Bool} (hv : Bols w (.slice A zs.length ca) zs) (hb : Below w.heap.size w w1) :
    0 < (zs.map Value.bool).length → ∃ ad, A = some ad ∧ ∀ j v, (zs.map Value.bool)[j]? = some v → w1.cell? (ad.add j) = some v := fun hp => by
  obtain ⟨_, A', ca', hv', hc⟩ := bols_below hv hb
  simp only [Value.slice.injEq, true_and] at hv'
  obtain ⟨rfl, rfl⟩ := hv'
  obtain ⟨ad, rfl, hc'⟩ := hc (by simpa using hp)
  refine ⟨ad, rfl, fun j u hu => ?_⟩
  rcases Nat.lt_or_ge j zs.length with hj | hj
  · rw [hc' j hj]; simpa [hj] using hu
  · simp [hj] at hu

theorem dds_src {w w1 : World} {A : Option Addr} {ca : Nat} {Q : List Dd} (hv : Dds w (.slice A Q.length ca) Q) (hb : Below w.heap.size w w1) :
    0 < (dcells Q).length → ∃ ad, A = some ad ∧ ∀ j v, (dcells Q)[j]? = some v → w1.cell? (ad.add j) = some v := fun hp => by
  obtain ⟨_, A', ca', hv', hc⟩ := dds_below hv hb
  simp only [Value.slice.injEq, true_and] at hv'
  obtain ⟨rfl, rfl⟩ := hv'
  obtain ⟨ad, rfl, hc'⟩ := hc (by rw [dcells_len] at hp; omega)
  exact ⟨ad, rfl, fun j u hu => dds_cells hc' j u hu⟩

theorem drow_whole {w : World} {base g : Nat} {Q : List Dd} (h : w.heap[g]? = some (.cells (dcells Q).toArray 37 (0, 0))) (hb : base ≤ g) (hl : Q.length ≤ maxLen) : DRow w base (.slice (some ⟨g, 0, none⟩) Q.length Q.length) Q :=
  ⟨dcells_len Q, .inr ⟨g, Q.length, _, rfl, hb, h, Nat.le_refl _, hl, by simp [dcells_len], by rw [List.toList_toArray, List.take_of_length_le (by rw [dcells_len]; exact Nat.le_refl _)]⟩⟩

set_option maxRecDepth 100000 in
set_option maxHeartbeats 1000000 in
theorem copyBools_any (v : Value) (zs : List Bool) (w : World) (hv : Bols w v zs) (hl : zs.length ≤ 1099511627776) :
    Calls Try.prog 101 #[v] w (BoRowOf w zs) := by
  obtain ⟨i0, hi0, hz0, hz1, hz2⟩ := info_parts own_infoB
  have hv0 := Lib.hid hv
  obtain ⟨qm, A, ca, rfl, ha⟩ := hv
  clear ha qm
  have I0 := Lib.hid hi0
  have Z0 := Lib.hid hz0
  have Z1 := Lib.hid hz1
  have B8 : Hid (i0.bytes * zs.length ≤ 281474976710656) := Lib.hid (by rw [hz2]; omega)
  clear hi0 hz0 hz1 hz2
  go_enter Try.func101, Try.ntmps101
  go_wp2_with (first
    | (at_make; refine wpList_make_full _ rfl _ _ 23 rfl w.heap.size 4 i0 _ 1 Try.underlying23 I0.out Z0.out Z1.out .i64 .i64 _ _ zs.length rfl rfl rfl rfl B8.out (by unfold maxLen; omega) (Nat.le_refl _) ?_
       intro w1 ho1 hg1
       obtain ⟨cur, hcg, hcs⟩ := own_block ho1
       have CG := Lib.hid hcg
       have CS := Lib.hid hcs
       have B1 := Lib.hid ((Below.refl w.heap.size w).grown hg1 (Nat.le_refl _) (by simp))
       clear ho1 hg1 hcg hcs)
    | (refine wpList_copy_whole rfl _ _ 23 rfl 4 Try.underlying23 1 info_size1 (by omega) w.heap.size zs.length _ _ _ rfl rfl cur 4 CG.out CS.out (zs.map Value.bool) (by simp) (bols_src hv0.out B1.out) (fun u hu => by obtain ⟨z, _, rfl⟩ := List.mem_map.1 hu; rfl) ?_
       intro w2 H2 hg2
       have R2 : Hid (BoRow w2 w.heap.size (.slice (some ⟨w.heap.size, 0, none⟩) zs.length zs.length) zs) := Lib.hid (borow_whole H2 (Nat.le_refl _) (by unfold maxLen; omega))
       have B2 := Lib.hid (B1.out.grown hg2 B1.out.size (fun k hk => by simp at hk; omega))
       clear H2 hg2))
  go_ret
  exact ⟨_, rfl, R2.out, by simp [Value.ownBlock], B2.out⟩

set_option maxRecDepth 100000 in
set_option maxHeartbeats 1000000 in
theorem copyDeeds_any (v : Value) (zs : List Dd) (w : World) (hv : Dds w v zs) (hl : zs.length ≤ 1099511627776) :
    Calls Try.prog 103 #[v] w (DListOf w zs) := by
  obtain ⟨i0, hi0, hz0, hz1, hz2⟩ := info_parts own_infoDd
  have hv0 := Lib.hid hv
  obtain ⟨qm, A, ca, rfl, ha⟩ := hv
  clear ha qm
  have I0 := Lib.hid hi0
  have Z0 := Lib.hid hz0
  have Z1 := Lib.hid hz1
  have B8 : Hid (i0.bytes * zs.length ≤ 281474976710656) := Lib.hid (by rw [hz2]; omega)
  clear hi0 hz0 hz1 hz2
  go_enter Try.func103, Try.ntmps103
  go_wp2_with (first
    | (at_make; refine wpList_make_full _ rfl _ _ 25 rfl w.heap.size 37 i0 _ 4 Try.underlying25 I0.out Z0.out Z1.out .i64 .i64 _ _ zs.length rfl rfl rfl rfl B8.out (by unfold maxLen; omega) (Nat.le_refl _) ?_
       intro w1 ho1 hg1
       obtain ⟨cur, hcg, hcs⟩ := own_block ho1
       have CG := Lib.hid hcg
       have CS := Lib.hid hcs
       have B1 := Lib.hid ((Below.refl w.heap.size w).grown hg1 (Nat.le_refl _) (by simp))
       clear ho1 hg1 hcg hcs)
    | (refine wpList_copy_whole rfl _ _ 25 rfl 37 Try.underlying25 4 info_size4 (by omega) w.heap.size zs.length _ _ _ rfl rfl cur 37 CG.out CS.out (dcells zs) (dcells_len zs) (dds_src hv0.out B1.out) (dcells_oneCell zs) ?_
       intro w2 H2 hg2
       have R2 : Hid (DRow w2 w.heap.size (.slice (some ⟨w.heap.size, 0, none⟩) zs.length zs.length) zs) := Lib.hid (drow_whole H2 (Nat.le_refl _) (by unfold maxLen; omega))
       have B2 := Lib.hid (B1.out.grown hg2 B1.out.size (fun k hk => by simp at hk; omega))
       clear H2 hg2))
  go_ret
  exact ⟨_, rfl, R2.out, by simp [Value.ownBlock], B2.out⟩

end Go.Proofs.Ytkcogfgjabemfaa

namespace Go.Proofs.Ytkcogfgjabemfaa
open Go.RowKit
set_option linter.unusedVariables false
set_option linter.unusedSimpArgs false

set_option maxHeartbeats 400000 in
theorem isCap_any (a : Int) (w : World) :
    Calls Try.prog 52 #[.int .i64 a] w fun e w' => e = .returned (.bool (inB a 0 3)) ∧ w = w' := by
  by_cases h : 0 ≤ a
  · by_cases h' : a < 4
    · have E : Hid (inB a 0 3 = true) := Lib.hid (inB_of h (by omega))
      go_enter Try.func52, Try.ntmps52
      go_wp2
      go_ret
      exact ⟨ret_bool (by rw [E.out]), rfl⟩
    · have E : Hid (inB a 0 3 = false) := Lib.hid (by cases q : inB a 0 3; rfl; have := of_inB q; omega)
      go_enter Try.func52, Try.ntmps52
      go_wp2
      go_ret
      exact ⟨ret_bool (by rw [E.out]), rfl⟩
  · have E : Hid (inB a 0 3 = false) := Lib.hid (by cases q : inB a 0 3; rfl; have := of_inB q; omega)
    have h2 : a < 0 := by omega
    clear h
    go_enter Try.func52, Try.ntmps52
    go_wp2
    go_ret
    exact ⟨ret_bool (by rw [E.out]), rfl⟩

/-- A store that is valid. -/
def stoB (S : List Int) : Bool := decide (S.length = 8) && cellsB S

set_option maxHeartbeats 400000 in
theorem storeOK_any (v : Value) (S : List Int) (w : World) (hv : Ints w v S) :
    Calls Try.prog 97 #[v] w fun e w' => e = .returned (.bool (stoB S)) ∧ w = w' := by
  have HV := Lib.hid hv
  obtain ⟨l1, A1, k1, rfl, _⟩ := hv
  by_cases h : S.length = 8
  · have E : Hid (stoB S = cellsB S) := Lib.hid (by unfold stoB; rw [h]; rfl)
    have u0 : ((S.length : Int) == 8) = true := by rw [beq_iff_eq]; omega
    clear h
    go_enter Try.func97, Try.ntmps97
    go_wp2_with (go_at_call 98; refine (allCells_any _ S _ HV.out).mono ?_; rintro e w' ⟨rfl, rfl⟩)
    go_ret
    exact ⟨ret_bool E.out.symm, rfl⟩
  · have E : Hid (stoB S = false) := Lib.hid (by unfold stoB; simp [h])
    have u0 : ((S.length : Int) == 8) = false := by rw [beq_eq_false_iff_ne]; omega
    clear h
    go_enter Try.func97, Try.ntmps97
    go_wp2
    go_ret
    exact ⟨ret_bool E.out.symm, rfl⟩

theorem ddB_of (x : Dd) : ddB x = (inB x.p 0 3 && cellB x.a && cellB x.b && cellB x.r) := rfl

theorem below_alloc' {a b : World} (h : Below a.heap.size a b) (o : Obj) : Below a.heap.size a (b.alloc o) := below_alloc h o

set_option maxRecDepth 100000 in
set_option maxHeartbeats 2000000 in
theorem allDeeds_any (v : Value) (Q : List Dd) (w : World) (hv : Dds w v Q) :
    Calls Try.prog 99 #[v] w fun e w' => e = .returned (.bool (ddsB Q)) ∧ Below w.heap.size w w' := by
  have HV := Lib.hid hv
  obtain ⟨l4, A4, k4, rfl, _⟩ := hv
  unfold maxLen at l4
  go_enter Try.func99, Try.ntmps99
  go_wp2
  go_loopw [4, 7] (fun _ i wr => ∃ k : Nat, k ≤ Q.length ∧ i = .int .i64 k ∧ DdsTo Q k ∧ Below w.heap.size w wr) (fun _ i _ => Q.length - (intOf i).toNat)
  case atStart => exact ⟨0, Nat.zero_le _, rfl, ddsTo_zero _, Below.refl _ _⟩
  case round =>
    obtain ⟨k, hk, rfl, hat, hb⟩ := hrel
    have AT := Lib.hid hat
    have B := Lib.hid hb
    clear hat hb
    by_cases hlt : k < Q.length
    · obtain ⟨_, A', cap', e', hc⟩ := dds_below HV.out B.out
      simp only [Value.slice.injEq, true_and] at e'
      obtain ⟨rfl, rfl⟩ := e'
      obtain ⟨ad, rfl, hd⟩ := hc (by omega)
      obtain ⟨d0, d1, d2, d3⟩ := hd k hlt
      clear hc hd
      have NO := Lib.hid (fun e => dds_not hlt (e := e))
      have NX := Lib.hid (fun e => ddsTo_next AT.out hlt e)
      generalize Q[k] = y at *
      obtain ⟨p, a, b, r⟩ := y
      simp only at *
      have DB := Lib.hid (ddB_of ⟨p, a, b, r⟩)
      simp only at DB
      cases t0 : inB p 0 3
      · have N := Lib.hid (NO.out (by rw [DB.out]; simp [*]))
        go_wp2_with (first | (go_at_call 52; refine (isCap_any _ _).mono ?_; rintro e w' ⟨rfl, rfl⟩) | (go_at_call 66; refine (cellOK_any _ _).mono ?_; rintro e w' ⟨rfl, rfl⟩))
        go_ret
        exact ⟨ret_bool N.out.symm, below_alloc' B.out _⟩
      · cases t1 : cellB a
        · have N := Lib.hid (NO.out (by rw [DB.out]; simp [*]))
          go_wp2_with (first | (go_at_call 52; refine (isCap_any _ _).mono ?_; rintro e w' ⟨rfl, rfl⟩) | (go_at_call 66; refine (cellOK_any _ _).mono ?_; rintro e w' ⟨rfl, rfl⟩))
          go_ret
          exact ⟨ret_bool N.out.symm, below_alloc' B.out _⟩
        · cases t2 : cellB b
          · have N := Lib.hid (NO.out (by rw [DB.out]; simp [*]))
            go_wp2_with (first | (go_at_call 52; refine (isCap_any _ _).mono ?_; rintro e w' ⟨rfl, rfl⟩) | (go_at_call 66; refine (cellOK_any _ _).mono ?_; rintro e w' ⟨rfl, rfl⟩))
            go_ret
            exact ⟨ret_bool N.out.symm, below_alloc' B.out _⟩
          · cases t3 : cellB r
            · have N := Lib.hid (NO.out (by rw [DB.out]; simp [*]))
              go_wp2_with (first | (go_at_call 52; refine (isCap_any _ _).mono ?_; rintro e w' ⟨rfl, rfl⟩) | (go_at_call 66; refine (cellOK_any _ _).mono ?_; rintro e w' ⟨rfl, rfl⟩))
              go_ret
              exact ⟨ret_bool N.out.symm, below_alloc' B.out _⟩
            · have N := Lib.hid (NX.out (by rw [DB.out]; simp [*]))
              go_wp2_with (first | (go_at_call 52; refine (isCap_any _ _).mono ?_; rintro e w' ⟨rfl, rfl⟩) | (go_at_call 66; refine (cellOK_any _ _).mono ?_; rintro e w' ⟨rfl, rfl⟩))
              go_roundw
              case rel => exact ⟨k + 1, by omega, by go_num, N.out, below_alloc' B.out _⟩
              case measure => simp [intOf]; omega
    · obtain rfl : k = Q.length := by omega
      have E := Lib.hid (ddsTo_end AT.out)
      go_wp2
      go_ret
      exact ⟨ret_bool E.out.symm, B.out⟩

set_option maxRecDepth 100000 in
set_option maxHeartbeats 1000000 in
theorem iHOK_0 (v : Value) (h : Ht) (w : World) (hv : HostIn w v h) (h0 : ¬ h.g.length = 4) :
    Calls Try.prog 50 #[v] w fun e w' => e = .returned (.bool (false)) ∧ Below w.heap.size w w' := by
  obtain ⟨x, y, z, q, rfl, hx, hy, hz, hq⟩ := hv
  have BB : Hid (∀ (o : Obj), Below w.heap.size w (w.alloc o)) := Lib.hid fun o => below_alloc (Below.refl _ _) _
  have HY : Hid (∀ o : Obj, Ints (w.alloc o) y h.s) := Lib.hid fun o => ints_below hy (BB.out _)
  have HZ : Hid (∀ o : Obj, Ints (w.alloc o) z h.n) := Lib.hid fun o => ints_below hz (BB.out _)
  have HQ : Hid (∀ o : Obj, Dds (w.alloc o) q h.d) := Lib.hid fun o => dds_below hq (BB.out _)
  obtain ⟨l1, A1, k1, rfl, _⟩ := hx
  obtain ⟨l2, A2, k2, rfl, _⟩ := hy
  obtain ⟨l3, A3, k3, rfl, _⟩ := hz
  obtain ⟨l4, A4, k4, rfl, _⟩ := hq
  unfold maxLen at l1 l2 l3 l4
  have u0 : ((h.g.length : Int) == 4) = false := by rw [beq_eq_false_iff_ne]; omega
  clear h0
  go_enter Try.func50, Try.ntmps50
  go_wp2_with (first | (go_at_call 97; refine (storeOK_any _ h.s _ (HY.out _)).mono ?_; rintro e w' ⟨rfl, rfl⟩) | (go_at_call 98; refine (allCells_any _ h.n _ (HZ.out _)).mono ?_; rintro e w' ⟨rfl, rfl⟩) | (go_at_call 99; refine (allDeeds_any _ h.d _ (HQ.out _)).mono ?_; rintro e w1 ⟨rfl, hb⟩; have B1 := Lib.hid (below_step (BB.out _) hb); clear hb))
  go_ret
  exact ⟨rfl, BB.out _⟩

set_option maxRecDepth 100000 in
set_option maxHeartbeats 1000000 in
theorem iHOK_1 (v : Value) (h : Ht) (w : World) (hv : HostIn w v h) (h0 : h.g.length = 4) (h1 : stoB h.s = false) :
    Calls Try.prog 50 #[v] w fun e w' => e = .returned (.bool (false)) ∧ Below w.heap.size w w' := by
  obtain ⟨x, y, z, q, rfl, hx, hy, hz, hq⟩ := hv
  have BB : Hid (∀ (o : Obj), Below w.heap.size w (w.alloc o)) := Lib.hid fun o => below_alloc (Below.refl _ _) _
  have HY : Hid (∀ o : Obj, Ints (w.alloc o) y h.s) := Lib.hid fun o => ints_below hy (BB.out _)
  have HZ : Hid (∀ o : Obj, Ints (w.alloc o) z h.n) := Lib.hid fun o => ints_below hz (BB.out _)
  have HQ : Hid (∀ o : Obj, Dds (w.alloc o) q h.d) := Lib.hid fun o => dds_below hq (BB.out _)
  obtain ⟨l1, A1, k1, rfl, _⟩ := hx
  obtain ⟨l2, A2, k2, rfl, _⟩ := hy
  obtain ⟨l3, A3, k3, rfl, _⟩ := hz
  obtain ⟨l4, A4, k4, rfl, _⟩ := hq
  unfold maxLen at l1 l2 l3 l4
  have u0 : ((h.g.length : Int) == 4) = true := by rw [beq_iff_eq]; omega
  clear h0
  go_enter Try.func50, Try.ntmps50
  go_wp2_with (first | (go_at_call 97; refine (storeOK_any _ h.s _ (HY.out _)).mono ?_; rintro e w' ⟨rfl, rfl⟩) | (go_at_call 98; refine (allCells_any _ h.n _ (HZ.out _)).mono ?_; rintro e w' ⟨rfl, rfl⟩) | (go_at_call 99; refine (allDeeds_any _ h.d _ (HQ.out _)).mono ?_; rintro e w1 ⟨rfl, hb⟩; have B1 := Lib.hid (below_step (BB.out _) hb); clear hb))
  go_ret
  exact ⟨rfl, BB.out _⟩

set_option maxRecDepth 100000 in
set_option maxHeartbeats 1000000 in
theorem iHOK_2 (v : Value) (h : Ht) (w : World) (hv : HostIn w v h) (h0 : h.g.length = 4) (h1 : stoB h.s = true) (h2 : ¬ h.n.length ≤ 20) :
    Calls Try.prog 50 #[v] w fun e w' => e = .returned (.bool (false)) ∧ Below w.heap.size w w' := by
  obtain ⟨x, y, z, q, rfl, hx, hy, hz, hq⟩ := hv
  have BB : Hid (∀ (o : Obj), Below w.heap.size w (w.alloc o)) := Lib.hid fun o => below_alloc (Below.refl _ _) _
  have HY : Hid (∀ o : Obj, Ints (w.alloc o) y h.s) := Lib.hid fun o => ints_below hy (BB.out _)
  have HZ : Hid (∀ o : Obj, Ints (w.alloc o) z h.n) := Lib.hid fun o => ints_below hz (BB.out _)
  have HQ : Hid (∀ o : Obj, Dds (w.alloc o) q h.d) := Lib.hid fun o => dds_below hq (BB.out _)
  obtain ⟨l1, A1, k1, rfl, _⟩ := hx
  obtain ⟨l2, A2, k2, rfl, _⟩ := hy
  obtain ⟨l3, A3, k3, rfl, _⟩ := hz
  obtain ⟨l4, A4, k4, rfl, _⟩ := hq
  unfold maxLen at l1 l2 l3 l4
  have u0 : ((h.g.length : Int) == 4) = true := by rw [beq_iff_eq]; omega
  clear h0
  have q2 : 20 < h.n.length := by omega
  clear h2
  go_enter Try.func50, Try.ntmps50
  go_wp2_with (first | (go_at_call 97; refine (storeOK_any _ h.s _ (HY.out _)).mono ?_; rintro e w' ⟨rfl, rfl⟩) | (go_at_call 98; refine (allCells_any _ h.n _ (HZ.out _)).mono ?_; rintro e w' ⟨rfl, rfl⟩) | (go_at_call 99; refine (allDeeds_any _ h.d _ (HQ.out _)).mono ?_; rintro e w1 ⟨rfl, hb⟩; have B1 := Lib.hid (below_step (BB.out _) hb); clear hb))
  go_ret
  exact ⟨rfl, BB.out _⟩

set_option maxRecDepth 100000 in
set_option maxHeartbeats 1000000 in
theorem iHOK_3 (v : Value) (h : Ht) (w : World) (hv : HostIn w v h) (h0 : h.g.length = 4) (h1 : stoB h.s = true) (h2 : h.n.length ≤ 20) (h3 : cellsB h.n = false) :
    Calls Try.prog 50 #[v] w fun e w' => e = .returned (.bool (false)) ∧ Below w.heap.size w w' := by
  obtain ⟨x, y, z, q, rfl, hx, hy, hz, hq⟩ := hv
  have BB : Hid (∀ (o : Obj), Below w.heap.size w (w.alloc o)) := Lib.hid fun o => below_alloc (Below.refl _ _) _
  have HY : Hid (∀ o : Obj, Ints (w.alloc o) y h.s) := Lib.hid fun o => ints_below hy (BB.out _)
  have HZ : Hid (∀ o : Obj, Ints (w.alloc o) z h.n) := Lib.hid fun o => ints_below hz (BB.out _)
  have HQ : Hid (∀ o : Obj, Dds (w.alloc o) q h.d) := Lib.hid fun o => dds_below hq (BB.out _)
  obtain ⟨l1, A1, k1, rfl, _⟩ := hx
  obtain ⟨l2, A2, k2, rfl, _⟩ := hy
  obtain ⟨l3, A3, k3, rfl, _⟩ := hz
  obtain ⟨l4, A4, k4, rfl, _⟩ := hq
  unfold maxLen at l1 l2 l3 l4
  have u0 : ((h.g.length : Int) == 4) = true := by rw [beq_iff_eq]; omega
  clear h0
  go_enter Try.func50, Try.ntmps50
  go_wp2_with (first | (go_at_call 97; refine (storeOK_any _ h.s _ (HY.out _)).mono ?_; rintro e w' ⟨rfl, rfl⟩) | (go_at_call 98; refine (allCells_any _ h.n _ (HZ.out _)).mono ?_; rintro e w' ⟨rfl, rfl⟩) | (go_at_call 99; refine (allDeeds_any _ h.d _ (HQ.out _)).mono ?_; rintro e w1 ⟨rfl, hb⟩; have B1 := Lib.hid (below_step (BB.out _) hb); clear hb))
  go_ret
  exact ⟨rfl, BB.out _⟩

set_option maxRecDepth 100000 in
set_option maxHeartbeats 1000000 in
theorem iHOK_4 (v : Value) (h : Ht) (w : World) (hv : HostIn w v h) (h0 : h.g.length = 4) (h1 : stoB h.s = true) (h2 : h.n.length ≤ 20) (h3 : cellsB h.n = true) (h4 : ¬ 0 ≤ h.c) :
    Calls Try.prog 50 #[v] w fun e w' => e = .returned (.bool (false)) ∧ Below w.heap.size w w' := by
  obtain ⟨x, y, z, q, rfl, hx, hy, hz, hq⟩ := hv
  have BB : Hid (∀ (o : Obj), Below w.heap.size w (w.alloc o)) := Lib.hid fun o => below_alloc (Below.refl _ _) _
  have HY : Hid (∀ o : Obj, Ints (w.alloc o) y h.s) := Lib.hid fun o => ints_below hy (BB.out _)
  have HZ : Hid (∀ o : Obj, Ints (w.alloc o) z h.n) := Lib.hid fun o => ints_below hz (BB.out _)
  have HQ : Hid (∀ o : Obj, Dds (w.alloc o) q h.d) := Lib.hid fun o => dds_below hq (BB.out _)
  obtain ⟨l1, A1, k1, rfl, _⟩ := hx
  obtain ⟨l2, A2, k2, rfl, _⟩ := hy
  obtain ⟨l3, A3, k3, rfl, _⟩ := hz
  obtain ⟨l4, A4, k4, rfl, _⟩ := hq
  unfold maxLen at l1 l2 l3 l4
  have u0 : ((h.g.length : Int) == 4) = true := by rw [beq_iff_eq]; omega
  clear h0
  have q4 : h.c < 0 := by omega
  clear h4
  go_enter Try.func50, Try.ntmps50
  go_wp2_with (first | (go_at_call 97; refine (storeOK_any _ h.s _ (HY.out _)).mono ?_; rintro e w' ⟨rfl, rfl⟩) | (go_at_call 98; refine (allCells_any _ h.n _ (HZ.out _)).mono ?_; rintro e w' ⟨rfl, rfl⟩) | (go_at_call 99; refine (allDeeds_any _ h.d _ (HQ.out _)).mono ?_; rintro e w1 ⟨rfl, hb⟩; have B1 := Lib.hid (below_step (BB.out _) hb); clear hb))
  go_ret
  exact ⟨rfl, BB.out _⟩

set_option maxRecDepth 100000 in
set_option maxHeartbeats 1000000 in
theorem iHOK_5 (v : Value) (h : Ht) (w : World) (hv : HostIn w v h) (h0 : h.g.length = 4) (h1 : stoB h.s = true) (h2 : h.n.length ≤ 20) (h3 : cellsB h.n = true) (h4 : 0 ≤ h.c) (h5 : ¬ h.c ≤ 2147483647) :
    Calls Try.prog 50 #[v] w fun e w' => e = .returned (.bool (false)) ∧ Below w.heap.size w w' := by
  obtain ⟨x, y, z, q, rfl, hx, hy, hz, hq⟩ := hv
  have BB : Hid (∀ (o : Obj), Below w.heap.size w (w.alloc o)) := Lib.hid fun o => below_alloc (Below.refl _ _) _
  have HY : Hid (∀ o : Obj, Ints (w.alloc o) y h.s) := Lib.hid fun o => ints_below hy (BB.out _)
  have HZ : Hid (∀ o : Obj, Ints (w.alloc o) z h.n) := Lib.hid fun o => ints_below hz (BB.out _)
  have HQ : Hid (∀ o : Obj, Dds (w.alloc o) q h.d) := Lib.hid fun o => dds_below hq (BB.out _)
  obtain ⟨l1, A1, k1, rfl, _⟩ := hx
  obtain ⟨l2, A2, k2, rfl, _⟩ := hy
  obtain ⟨l3, A3, k3, rfl, _⟩ := hz
  obtain ⟨l4, A4, k4, rfl, _⟩ := hq
  unfold maxLen at l1 l2 l3 l4
  have u0 : ((h.g.length : Int) == 4) = true := by rw [beq_iff_eq]; omega
  clear h0
  have q5 : (2147483647 : Int) < h.c := by omega
  clear h5
  go_enter Try.func50, Try.ntmps50
  go_wp2_with (first | (go_at_call 97; refine (storeOK_any _ h.s _ (HY.out _)).mono ?_; rintro e w' ⟨rfl, rfl⟩) | (go_at_call 98; refine (allCells_any _ h.n _ (HZ.out _)).mono ?_; rintro e w' ⟨rfl, rfl⟩) | (go_at_call 99; refine (allDeeds_any _ h.d _ (HQ.out _)).mono ?_; rintro e w1 ⟨rfl, hb⟩; have B1 := Lib.hid (below_step (BB.out _) hb); clear hb))
  go_ret
  exact ⟨rfl, BB.out _⟩

set_option maxRecDepth 100000 in
set_option maxHeartbeats 1000000 in
theorem iHOK_6 (v : Value) (h : Ht) (w : World) (hv : HostIn w v h) (h0 : h.g.length = 4) (h1 : stoB h.s = true) (h2 : h.n.length ≤ 20) (h3 : cellsB h.n = true) (h4 : 0 ≤ h.c) (h5 : h.c ≤ 2147483647) (h6 : ¬ h.d.length ≤ 40) :
    Calls Try.prog 50 #[v] w fun e w' => e = .returned (.bool (false)) ∧ Below w.heap.size w w' := by
  obtain ⟨x, y, z, q, rfl, hx, hy, hz, hq⟩ := hv
  have BB : Hid (∀ (o : Obj), Below w.heap.size w (w.alloc o)) := Lib.hid fun o => below_alloc (Below.refl _ _) _
  have HY : Hid (∀ o : Obj, Ints (w.alloc o) y h.s) := Lib.hid fun o => ints_below hy (BB.out _)
  have HZ : Hid (∀ o : Obj, Ints (w.alloc o) z h.n) := Lib.hid fun o => ints_below hz (BB.out _)
  have HQ : Hid (∀ o : Obj, Dds (w.alloc o) q h.d) := Lib.hid fun o => dds_below hq (BB.out _)
  obtain ⟨l1, A1, k1, rfl, _⟩ := hx
  obtain ⟨l2, A2, k2, rfl, _⟩ := hy
  obtain ⟨l3, A3, k3, rfl, _⟩ := hz
  obtain ⟨l4, A4, k4, rfl, _⟩ := hq
  unfold maxLen at l1 l2 l3 l4
  have u0 : ((h.g.length : Int) == 4) = true := by rw [beq_iff_eq]; omega
  clear h0
  have q6 : 40 < h.d.length := by omega
  clear h6
  go_enter Try.func50, Try.ntmps50
  go_wp2_with (first | (go_at_call 97; refine (storeOK_any _ h.s _ (HY.out _)).mono ?_; rintro e w' ⟨rfl, rfl⟩) | (go_at_call 98; refine (allCells_any _ h.n _ (HZ.out _)).mono ?_; rintro e w' ⟨rfl, rfl⟩) | (go_at_call 99; refine (allDeeds_any _ h.d _ (HQ.out _)).mono ?_; rintro e w1 ⟨rfl, hb⟩; have B1 := Lib.hid (below_step (BB.out _) hb); clear hb))
  go_ret
  exact ⟨rfl, BB.out _⟩

set_option maxRecDepth 100000 in
set_option maxHeartbeats 1000000 in
theorem iHOK_7 (v : Value) (h : Ht) (w : World) (hv : HostIn w v h) (h0 : h.g.length = 4) (h1 : stoB h.s = true) (h2 : h.n.length ≤ 20) (h3 : cellsB h.n = true) (h4 : 0 ≤ h.c) (h5 : h.c ≤ 2147483647) (h6 : h.d.length ≤ 40) :
    Calls Try.prog 50 #[v] w fun e w' => e = .returned (.bool (ddsB h.d)) ∧ Below w.heap.size w w' := by
  obtain ⟨x, y, z, q, rfl, hx, hy, hz, hq⟩ := hv
  have BB : Hid (∀ (o : Obj), Below w.heap.size w (w.alloc o)) := Lib.hid fun o => below_alloc (Below.refl _ _) _
  have HY : Hid (∀ o : Obj, Ints (w.alloc o) y h.s) := Lib.hid fun o => ints_below hy (BB.out _)
  have HZ : Hid (∀ o : Obj, Ints (w.alloc o) z h.n) := Lib.hid fun o => ints_below hz (BB.out _)
  have HQ : Hid (∀ o : Obj, Dds (w.alloc o) q h.d) := Lib.hid fun o => dds_below hq (BB.out _)
  obtain ⟨l1, A1, k1, rfl, _⟩ := hx
  obtain ⟨l2, A2, k2, rfl, _⟩ := hy
  obtain ⟨l3, A3, k3, rfl, _⟩ := hz
  obtain ⟨l4, A4, k4, rfl, _⟩ := hq
  unfold maxLen at l1 l2 l3 l4
  have u0 : ((h.g.length : Int) == 4) = true := by rw [beq_iff_eq]; omega
  clear h0
  go_enter Try.func50, Try.ntmps50
  go_wp2_with (first | (go_at_call 97; refine (storeOK_any _ h.s _ (HY.out _)).mono ?_; rintro e w' ⟨rfl, rfl⟩) | (go_at_call 98; refine (allCells_any _ h.n _ (HZ.out _)).mono ?_; rintro e w' ⟨rfl, rfl⟩) | (go_at_call 99; refine (allDeeds_any _ h.d _ (HQ.out _)).mono ?_; rintro e w1 ⟨rfl, hb⟩; have B1 := Lib.hid (below_step (BB.out _) hb); clear hb))
  go_ret
  exact ⟨rfl, B1.out⟩

theorem stoB_fine {S : List Int} : stoB S = true ↔ S.length = 8 ∧ cellsB S = true := by unfold stoB; simp

theorem iHOK_any (v : Value) (h : Ht) (w : World) (hv : HostIn w v h) :
    Calls Try.prog 50 #[v] w fun e w' => e = .returned (.bool (hOK h)) ∧ Below w.heap.size w w' := by
  by_cases h0 : h.g.length = 4
  rotate_left
  · rw [hOK_false (fun q => absurd (fineH_g q) (by simp [h0]))]; exact iHOK_0 v h w hv h0
  cases h1 : stoB h.s
  · rw [hOK_false (fun q => by have := stoB_fine.2 ⟨fineH_s q, fineH_sc q⟩; rw [h1] at this; cases this)]; exact iHOK_1 v h w hv h0 h1
  by_cases h2 : h.n.length ≤ 20
  rotate_left
  · rw [hOK_false (fun q => absurd (fineH_n q) (by simp [h2]))]; exact iHOK_2 v h w hv h0 h1 h2
  cases h3 : cellsB h.n
  · rw [hOK_false (fun q => absurd (fineH_nc q) (by simp [h3]))]; exact iHOK_3 v h w hv h0 h1 h2 h3
  by_cases h4 : 0 ≤ h.c
  rotate_left
  · rw [hOK_false (fun q => h4 (of_inB (fineH_c q)).1)]; exact iHOK_4 v h w hv h0 h1 h2 h3 h4
  by_cases h5 : h.c ≤ 2147483647
  rotate_left
  · rw [hOK_false (fun q => h5 (of_inB (fineH_c q)).2)]; exact iHOK_5 v h w hv h0 h1 h2 h3 h4 h5
  by_cases h6 : h.d.length ≤ 40
  rotate_left
  · rw [hOK_false (fun q => absurd (fineH_d q) (by simp [h6]))]; exact iHOK_6 v h w hv h0 h1 h2 h3 h4 h5 h6
  have e : hOK h = ddsB h.d := by
    cases h7 : ddsB h.d
    · exact hOK_false fun q => absurd (fineH_dd q) (by simp [h7])
    · exact hOK_true ⟨h0, (stoB_fine.1 h1).1, h2, h6, (stoB_fine.1 h1).2, h3, inB_of h4 h5, h7⟩
  rw [e]
  exact iHOK_7 v h w hv h0 h1 h2 h3 h4 h5 h6

set_option maxRecDepth 100000 in
set_option maxHeartbeats 2000000 in
theorem ownHost_any (v : Value) (h : Ht) (w : World) (hv : HostIn w v h) (hs : SmallH h) :
    Calls Try.prog 53 #[v] w (HCopyOf w h) := by
  obtain ⟨x, y, z, q, rfl, hx, hy, hz, hq⟩ := hv
  have Hx := Lib.hid hx
  have Hy := Lib.hid hy
  have Hz := Lib.hid hz
  have Hq := Lib.hid hq
  have Hs := Lib.hid hs
  obtain ⟨_, A1, k1, rfl, _⟩ := hx
  obtain ⟨_, A2, k2, rfl, _⟩ := hy
  obtain ⟨_, A3, k3, rfl, _⟩ := hz
  obtain ⟨_, A4, k4, rfl, _⟩ := hq
  clear hs
  go_enter Try.func53, Try.ntmps53
  go_wp2_with fail
  refine (copyBools_any _ h.g _ (bols_below Hx.out (below_alloc (below_alloc (Below.refl _ _) _) _)) (by have := Hs.out.1; omega)).mono ?_
  rintro e w1 ⟨q, rfl, hr, -, hb⟩
  obtain ⟨_, C1, m1, rfl, _⟩ := borow_bols hr
  have B1 : Below w.heap.size w w1 := (below_alloc (below_alloc (Below.refl _ _) _) _).trans (hb.mono (below_alloc (below_alloc (Below.refl _ _) _) _).size)
  have V1 := whole_b hb (whole_alloc (whole_new w _ _) _)
  have T1 := whole_b hb (whole_new1 w _ _ _)
  have R1_1 : BoRow w1 (w.heap.size + 1 + 1) (.slice C1 h.g.length m1) h.g := by simpa using hr
  have zv1 := whole_lt V1
  have zt1 := whole_lt T1
  obtain ⟨c0, c1, c2, c3, c4⟩ := five_cells V1
  have f1 := whole_free V1 0
  clear hr hb
  go_wp2_with fail
  clear c0 c1 c2 c3 c4 f1
  refine (copyCells_any _ h.s _ (ints_below Hy.out (B1.setCell (p := ⟨w.heap.size, 0, none⟩) (Nat.le_refl _) (.slice C1 h.g.length m1))) (by have := Hs.out.2.1; omega)).mono ?_
  rintro e w2 ⟨q, rfl, hr, -, hb⟩
  obtain ⟨_, C2, m2, rfl, _⟩ := row_ints hr
  have B2 : Below w.heap.size w w2 := (B1.setCell (p := ⟨w.heap.size, 0, none⟩) (Nat.le_refl _) (.slice C1 h.g.length m1)).trans (hb.mono (B1.setCell (p := ⟨w.heap.size, 0, none⟩) (Nat.le_refl _) (.slice C1 h.g.length m1)).size)
  have V2 := whole_b hb (whole_set V1 0 (.slice C1 h.g.length m1))
  have T2 := whole_b hb (whole_far T1 (p := ⟨w.heap.size, 0, none⟩) (by simp) (.slice C1 h.g.length m1))
  have R1_2 : BoRow w2 (w.heap.size + 1 + 1) _ h.g := borow_below (borow_store (g := w.heap.size) (i := 0) (u := .slice C1 h.g.length m1) R1_1 (by omega)) hb
  have P12 := parted_lt (fun g hg => (borow_lt (borow_store (g := w.heap.size) (i := 0) (u := .slice C1 h.g.length m1) R1_1 (by omega)) g hg).2) (fun g hg => (row_lt hr g hg).1)
  have R2_2 : Row w2 (w.heap.size + 1 + 1) (.slice C2 h.s.length m2) h.s := row_base hr (by have := B1.size; have := whole_lt T1; simp; omega)
  have zv2 := whole_lt V2
  have zt2 := whole_lt T2
  obtain ⟨c0, c1, c2, c3, c4⟩ := five_cells V2
  have f2 := whole_free V2 1
  clear hr hb
  go_wp2_with fail
  clear c0 c1 c2 c3 c4 f2
  refine (copyCells_any _ h.n _ (ints_below Hz.out (B2.setCell (p := ⟨w.heap.size, 1, none⟩) (Nat.le_refl _) (.slice C2 h.s.length m2))) (by have := Hs.out.2.2.1; omega)).mono ?_
  rintro e w3 ⟨q, rfl, hr, -, hb⟩
  obtain ⟨_, C3, m3, rfl, _⟩ := row_ints hr
  have B3 : Below w.heap.size w w3 := (B2.setCell (p := ⟨w.heap.size, 1, none⟩) (Nat.le_refl _) (.slice C2 h.s.length m2)).trans (hb.mono (B2.setCell (p := ⟨w.heap.size, 1, none⟩) (Nat.le_refl _) (.slice C2 h.s.length m2)).size)
  have V3 := whole_b hb (whole_set V2 1 (.slice C2 h.s.length m2))
  have T3 := whole_b hb (whole_far T2 (p := ⟨w.heap.size, 1, none⟩) (by simp) (.slice C2 h.s.length m2))
  have R1_3 : BoRow w3 (w.heap.size + 1 + 1) _ h.g := borow_below (borow_store (g := w.heap.size) (i := 1) (u := .slice C2 h.s.length m2) R1_2 (by omega)) hb
  have P13 := parted_lt (fun g hg => (borow_lt (borow_store (g := w.heap.size) (i := 1) (u := .slice C2 h.s.length m2) R1_2 (by omega)) g hg).2) (fun g hg => (row_lt hr g hg).1)
  have R2_3 : Row w3 (w.heap.size + 1 + 1) _ h.s := row_below (row_store (g := w.heap.size) (i := 1) (u := .slice C2 h.s.length m2) R2_2 (by omega)) hb
  have P23 := parted_lt (fun g hg => (row_lt (row_store (g := w.heap.size) (i := 1) (u := .slice C2 h.s.length m2) R2_2 (by omega)) g hg).2) (fun g hg => (row_lt hr g hg).1)
  have R3_3 : Row w3 (w.heap.size + 1 + 1) (.slice C3 h.n.length m3) h.n := row_base hr (by have := B2.size; have := whole_lt T2; simp; omega)
  have zv3 := whole_lt V3
  have zt3 := whole_lt T3
  obtain ⟨c0, c1, c2, c3, c4⟩ := five_cells V3
  have f3 := whole_free V3 2
  clear hr hb
  go_wp2_with fail
  clear c0 c1 c2 c3 c4 f3
  refine (copyDeeds_any _ h.d _ (dds_below Hq.out (B3.setCell (p := ⟨w.heap.size, 2, none⟩) (Nat.le_refl _) (.slice C3 h.n.length m3))) (by have := Hs.out.2.2.2; omega)).mono ?_
  rintro e w4 ⟨q, rfl, hr, -, hb⟩
  obtain ⟨_, C4, m4, rfl, _⟩ := drow_dds hr
  have B4 : Below w.heap.size w w4 := (B3.setCell (p := ⟨w.heap.size, 2, none⟩) (Nat.le_refl _) (.slice C3 h.n.length m3)).trans (hb.mono (B3.setCell (p := ⟨w.heap.size, 2, none⟩) (Nat.le_refl _) (.slice C3 h.n.length m3)).size)
  have V4 := whole_b hb (whole_set V3 2 (.slice C3 h.n.length m3))
  have T4 := whole_b hb (whole_far T3 (p := ⟨w.heap.size, 2, none⟩) (by simp) (.slice C3 h.n.length m3))
  have R1_4 : BoRow w4 (w.heap.size + 1 + 1) _ h.g := borow_below (borow_store (g := w.heap.size) (i := 2) (u := .slice C3 h.n.length m3) R1_3 (by omega)) hb
  have P14 := parted_lt (fun g hg => (borow_lt (borow_store (g := w.heap.size) (i := 2) (u := .slice C3 h.n.length m3) R1_3 (by omega)) g hg).2) (fun g hg => (drow_lt hr g hg).1)
  have R2_4 : Row w4 (w.heap.size + 1 + 1) _ h.s := row_below (row_store (g := w.heap.size) (i := 2) (u := .slice C3 h.n.length m3) R2_3 (by omega)) hb
  have P24 := parted_lt (fun g hg => (row_lt (row_store (g := w.heap.size) (i := 2) (u := .slice C3 h.n.length m3) R2_3 (by omega)) g hg).2) (fun g hg => (drow_lt hr g hg).1)
  have R3_4 : Row w4 (w.heap.size + 1 + 1) _ h.n := row_below (row_store (g := w.heap.size) (i := 2) (u := .slice C3 h.n.length m3) R3_3 (by omega)) hb
  have P34 := parted_lt (fun g hg => (row_lt (row_store (g := w.heap.size) (i := 2) (u := .slice C3 h.n.length m3) R3_3 (by omega)) g hg).2) (fun g hg => (drow_lt hr g hg).1)
  have R4_4 : DRow w4 (w.heap.size + 1 + 1) (.slice C4 h.d.length m4) h.d := drow_base hr (by have := B3.size; have := whole_lt T3; simp; omega)
  have zv4 := whole_lt V4
  have zt4 := whole_lt T4
  obtain ⟨c0, c1, c2, c3, c4⟩ := five_cells V4
  have f4 := whole_free V4 4
  obtain ⟨r0, r1, r2, r3, r4⟩ := five_cells T4
  have fr := whole_free T4
  clear hr hb
  go_wp2
  refine bodyPost_ret (v := .agg #[.slice C1 h.g.length m1, .slice C2 h.s.length m2, .slice C3 h.n.length m3, .int .i64 h.c, .slice C4 h.d.length m4]) (by simp [results, Try.results53, go_sem, *]) rfl ⟨_, rfl, hostOf_top (hostOf_base (hostOf_rows (lo := w.heap.size + 1 + 1)
    (by repeat (first | with_reducible exact R1_4 | ((with_reducible refine borow_store ?_ ?hh); case hh => omega)))
    (by repeat (first | with_reducible exact R2_4 | ((with_reducible refine row_store ?_ ?hh); case hh => omega)))
    (by repeat (first | with_reducible exact R3_4 | ((with_reducible refine row_store ?_ ?hh); case hh => omega)))
    (by repeat (first | with_reducible exact R4_4 | ((with_reducible refine drow_store ?_ ?hh); case hh => omega)))
    P12 P13 P14 P23 P24 P34) (by omega)) (Nat.le_refl _), ?_⟩
  repeat (first | with_reducible exact B4 | with_reducible refine Below.setCell ?_ (by simp; try omega) _)

end Go.Proofs.Ytkcogfgjabemfaa

namespace Go.Proofs.Ytkcogfgjabemfaa
open Go.RowKit
set_option linter.unusedVariables false
set_option linter.unusedSimpArgs false

/-- What HostCall comes to: the host, the data, the throw, the code. -/
def hHost (h : Ht) (d : Dt) (c : Int) : Ht × Dt × Int × Int :=
  if (hOK h && dOK d) = false then (noHt, noDt, 0, 1) else if inB c 0 3 = false then (noHt, noDt, 0, 9) else ((hCall h d c.toNat).1, (hCall h d c.toNat).2.1, (hCall h d c.toNat).2.2, 0)

/-- What impl's HostCall leaves. -/
def HcRes (w : World) (r : Ht × Dt × Int × Int) (e : Ending) (w' : World) : Prop :=
  ∃ v x, e = .returned (.tuple #[v, x, .int .i64 r.2.2.1, .int .i64 r.2.2.2]) ∧ HostT w' w.heap.size v r.1 ∧ DatOf w' w.heap.size w'.heap.size x r.2.1 ∧ (∀ k, Mine v k → ¬ Mine x k) ∧ Below w.heap.size w w'

theorem mine_zero {k : Nat} : ¬ Mine (.agg #[.slice none 0 0, .slice none 0 0, .slice none 0 0, .int .i64 0, .slice none 0 0]) k := by
  intro hk
  obtain ⟨u, hu, e⟩ := (mine_agg (l := [.slice none 0 0, .slice none 0 0, .slice none 0 0, .int .i64 0, .slice none 0 0])).1 hk
  simp only [List.mem_cons, List.not_mem_nil, or_false] at hu
  rcases hu with rfl | rfl | rfl | rfl | rfl <;> simp [Value.ownBlock] at e

theorem hcres_none {w w' : World} {t c : Int} (hb : Below w.heap.size w w') : HcRes w (noHt, noDt, t, c) (.returned (.tuple #[.agg #[.slice none 0 0, .slice none 0 0, .slice none 0 0, .int .i64 0, .slice none 0 0], .agg #[.slice none 0 0, .slice none 0 0, .slice none 0 0, .int .i64 0, .int .i64 0, .string ByteArray.empty], .int .i64 t, .int .i64 c])) w' :=
  ⟨_, _, rfl, hostT_of (hostOf_none _ _ w'.heap.size), datOf_none _ _ _, fun k hk => absurd hk mine_zero, hb⟩

theorem whole_third (w : World) (a b : Obj) (t : TypeId) (cs : Array Value) : Whole (((w.alloc a).alloc b).alloc (.cells cs t)) (w.heap.size + 1 + 1) t cs := by
  have h := whole_new ((w.alloc a).alloc b) t cs
  rw [size_two] at h
  exact h

theorem whole_fourth (w : World) (a b c : Obj) (t : TypeId) (cs : Array Value) : Whole ((((w.alloc a).alloc b).alloc c).alloc (.cells cs t)) (w.heap.size + 1 + 1 + 1) t cs := by
  have h := whole_third (w.alloc a) b c t cs
  have z : (w.alloc a).heap.size = w.heap.size + 1 := Array.size_push ..
  rw [z] at h
  exact h

set_option maxRecDepth 100000 in
set_option maxHeartbeats 1000000 in
theorem iHostCall_badHost (v x : Value) (h : Ht) (d : Dt) (c : Int) (w : World) (hv : HostIn w v h) (hx : DatIn w x d) (t0 : hOK h = false) :
    Calls Try.prog 11 #[v, x, .int .i64 c] w (HcRes w (noHt, noDt, 0, 1)) := by
  have HH := Lib.hid hv
  obtain ⟨A1, k1, A2, k2, A3, k3, A4, k4, rfl⟩ := hostIn_form hv
  obtain ⟨B1, j1, B2, j2, B3, j3, rfl, _⟩ := datIn_form hx
  clear hv hx
  go_enter Try.func11, Try.ntmps11
  go_wp2_with fail
  refine (iHOK_any _ h _ (hostIn_below HH.out (below_alloc (below_alloc (below_alloc (below_alloc (Below.refl _ _) _) _) _) _))).mono ?_
  rintro e w1 ⟨rfl, hb⟩
  have B1 : Below w.heap.size w w1 := below_step (below_alloc (below_alloc (below_alloc (below_alloc (Below.refl _ _) _) _) _) _) hb
  have T1 := whole_b hb (whole_alloc (whole_third w _ _ _ _) _)
  have U1 := whole_b hb (whole_fourth w _ _ _ _ _)
  have z1 := whole_lt T1
  have z2 := whole_lt U1
  clear hb
  rw [t0]
  obtain ⟨r0, r1, r2, r3, r4⟩ := five_cells T1
  obtain ⟨s0, s1, s2, s3, s4, s5⟩ := six_cells U1
  have fr := whole_free T1
  have fs := whole_free U1
  go_wp2
  refine bodyPost_ret (v := .tuple #[.agg #[.slice none 0 0, .slice none 0 0, .slice none 0 0, .int .i64 0, .slice none 0 0], .agg #[.slice none 0 0, .slice none 0 0, .slice none 0 0, .int .i64 0, .int .i64 0, .string ⟨#[]⟩], .int .i64 0, .int .i64 1]) (by simp [results, Try.results11, go_sem, *]) rfl ?_
  refine hcres_none ?_
  repeat (first | with_reducible exact B1 | with_reducible refine below_put ?_ (by omega) _)

/-- The further cases. -/
def furtherCases : Unit := ()

set_option maxRecDepth 100000 in
set_option maxHeartbeats 1000000 in
theorem iHostCall_badData (v x : Value) (h : Ht) (d : Dt) (c : Int) (w : World) (hv : HostIn w v h) (hx : DatIn w x d) (t0 : hOK h = true) (t1 : dOK d = false) :
    Calls Try.prog 11 #[v, x, .int .i64 c] w (HcRes w (noHt, noDt, 0, 1)) := by
  have HH := Lib.hid hv
  have HX := Lib.hid hx
  obtain ⟨A1, k1, A2, k2, A3, k3, A4, k4, rfl⟩ := hostIn_form hv
  obtain ⟨B1, j1, B2, j2, B3, j3, rfl, _⟩ := datIn_form hx
  clear hv hx
  go_enter Try.func11, Try.ntmps11
  go_wp2_with fail
  refine (iHOK_any _ h _ (hostIn_below HH.out (below_alloc (below_alloc (below_alloc (below_alloc (Below.refl _ _) _) _) _) _))).mono ?_
  rintro e w1 ⟨rfl, hb⟩
  have B1 : Below w.heap.size w w1 := below_step (below_alloc (below_alloc (below_alloc (below_alloc (Below.refl _ _) _) _) _) _) hb
  have V1 := whole_b hb (whole_alloc (whole_alloc (whole_second w _ _ _) _) _)
  have T1 := whole_b hb (whole_alloc (whole_third w _ _ _ _) _)
  have U1 := whole_b hb (whole_fourth w _ _ _ _ _)
  have z0 := whole_lt V1
  clear hb
  rw [t0]
  obtain ⟨v0, v1, v2, v3, v4, v5⟩ := six_cells V1
  go_wp2_with fail
  refine (dataOK_any _ d _ (datIn_below HX.out B1)).mono ?_
  rintro e w2 ⟨rfl, hb⟩
  have B2 : Below w.heap.size w w2 := below_step B1 hb
  have T2 := whole_b hb T1
  have U2 := whole_b hb U1
  have z1 := whole_lt T2
  have z2 := whole_lt U2
  clear hb v0 v1 v2 v3 v4 v5 V1 T1 U1
  rw [t1]
  obtain ⟨r0, r1, r2, r3, r4⟩ := five_cells T2
  obtain ⟨s0, s1, s2, s3, s4, s5⟩ := six_cells U2
  have fr := whole_free T2
  have fs := whole_free U2
  go_wp2
  refine bodyPost_ret (v := .tuple #[.agg #[.slice none 0 0, .slice none 0 0, .slice none 0 0, .int .i64 0, .slice none 0 0], .agg #[.slice none 0 0, .slice none 0 0, .slice none 0 0, .int .i64 0, .int .i64 0, .string ⟨#[]⟩], .int .i64 0, .int .i64 1]) (by simp [results, Try.results11, go_sem, *]) rfl ?_
  refine hcres_none ?_
  repeat (first | with_reducible exact B2 | with_reducible refine below_put ?_ (by omega) _)

set_option maxRecDepth 100000 in
set_option maxHeartbeats 1000000 in
theorem iHostCall_badCap (v x : Value) (h : Ht) (d : Dt) (c : Int) (w : World) (hv : HostIn w v h) (hx : DatIn w x d) (t0 : hOK h = true) (t1 : dOK d = true) (t2 : inB c 0 3 = false) :
    Calls Try.prog 11 #[v, x, .int .i64 c] w (HcRes w (noHt, noDt, 0, 9)) := by
  have HH := Lib.hid hv
  have HX := Lib.hid hx
  obtain ⟨A1, k1, A2, k2, A3, k3, A4, k4, rfl⟩ := hostIn_form hv
  obtain ⟨B1, j1, B2, j2, B3, j3, rfl, _⟩ := datIn_form hx
  clear hv hx
  go_enter Try.func11, Try.ntmps11
  go_wp2_with fail
  refine (iHOK_any _ h _ (hostIn_below HH.out (below_alloc (below_alloc (below_alloc (below_alloc (Below.refl _ _) _) _) _) _))).mono ?_
  rintro e w1 ⟨rfl, hb⟩
  have B1 : Below w.heap.size w w1 := below_step (below_alloc (below_alloc (below_alloc (below_alloc (Below.refl _ _) _) _) _) _) hb
  have V1 := whole_b hb (whole_alloc (whole_alloc (whole_second w _ _ _) _) _)
  have T1 := whole_b hb (whole_alloc (whole_third w _ _ _ _) _)
  have U1 := whole_b hb (whole_fourth w _ _ _ _ _)
  have z0 := whole_lt V1
  clear hb
  rw [t0]
  obtain ⟨v0, v1, v2, v3, v4, v5⟩ := six_cells V1
  go_wp2_with fail
  refine (dataOK_any _ d _ (datIn_below HX.out B1)).mono ?_
  rintro e w2 ⟨rfl, hb⟩
  have B2 : Below w.heap.size w w2 := below_step B1 hb
  have T2 := whole_b hb T1
  have U2 := whole_b hb U1
  have z1 := whole_lt T2
  have z2 := whole_lt U2
  clear hb v0 v1 v2 v3 v4 v5 V1 T1 U1
  rw [t1]
  obtain ⟨r0, r1, r2, r3, r4⟩ := five_cells T2
  obtain ⟨s0, s1, s2, s3, s4, s5⟩ := six_cells U2
  have fr := whole_free T2
  have fs := whole_free U2
  go_wp2_with (go_at_call 52; refine (isCap_any _ _).mono ?_; rintro e w' ⟨rfl, rfl⟩)
  refine bodyPost_ret (v := .tuple #[.agg #[.slice none 0 0, .slice none 0 0, .slice none 0 0, .int .i64 0, .slice none 0 0], .agg #[.slice none 0 0, .slice none 0 0, .slice none 0 0, .int .i64 0, .int .i64 0, .string ⟨#[]⟩], .int .i64 0, .int .i64 9]) (by simp [results, Try.results11, go_sem, *]) rfl ?_
  refine hcres_none ?_
  repeat (first | with_reducible exact B2 | with_reducible refine below_put ?_ (by omega) _)

end Go.Proofs.Ytkcogfgjabemfaa
