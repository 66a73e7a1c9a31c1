/- A call of a capability, the given side: what is checked, what is taken. -/
import Derived.Test.YtjlfbmplmddceaaHsK
import Derived.Test.YtjlfbmplmddceaaSpcA
import Derived.RegionTactic
import Derived.BigRegion
import Derived.Deep.RegionHeld3
namespace Go.Proofs.Ytjlfbmplmddceaa
open Go.RowKit
set_option linter.unusedVariables false
set_option linter.unusedSimpArgs false

/-- What a call comes to: the host, the data, the throw. -/
def hCall (h : Ht) (d : Dt) (c : Nat) : Ht × Dt × Int :=
  if h.g.getD c false = false then (h, d, -100)
  else if h.d.length = 40 then (h, d, -8)
  else if d.s.length < capTakes c then (h, d, -4)
  else if c = 3 ∧ d.s.length = 32 then (h, d, -3)
  else if (hDo h c (tp d 1) (tp d 0)).2.2 ≠ 0 then (h, d, (hDo h c (tp d 1) (tp d 0)).2.2)
  else if c = 1 then ((hDo h c (tp d 1) (tp d 0)).1, (dPut d 2 []).1, 0)
  else ((hDo h c (tp d 1) (tp d 0)).1, (dPut d (capTakes c) [(hDo h c (tp d 1) (tp d 0)).2.1]).1, 0)

/-- A host and data that read, and a throw. -/
def HMidOf (w : World) (r : Ht × Dt × Int) (e : Ending) (w' : World) : Prop := ∃ u x, e = .returned (.tuple #[u, x, .int .i64 r.2.2]) ∧ HostIn w' u r.1 ∧ DatC w' x r.2.1 ∧ Below w.heap.size w w'

theorem agree_old {n R i : Nat} {a b : World} (h : Agree n a b) (hR : R < n) (u : Value) : Agree n a (b.setCell ⟨R, i, none⟩ u) := fun k c fr hk ha =>
  (Below.heap_setCell b _ u k (by show k ≠ R; omega)).trans (h k c fr hk ha)

theorem agree_drew {n : Nat} {a b : World} (h : Agree n a b) : Agree n a b.drew := h

theorem hostSt_below {w w' : World} {lo : Nat} {v : Value} {h : Ht} (H : HostSt w lo v h) (hb : Below w.heap.size w w') : HostSt w' lo v h := fun W' hW => H W' fun g h1 h2 => (hW g h1 (Nat.lt_of_lt_of_le h2 hb.size)).trans (hb.block g h2)

theorem hostSt_store {w : World} {lo g i : Nat} {v u : Value} {h : Ht} (H : HostSt w lo v h) (hg : g < lo) : HostSt (w.setCell ⟨g, i, none⟩ u) lo v h := fun W' hW => H W' fun k h1 h2 => by
  rw [hW k h1 (by simpa using h2)]
  exact Below.heap_setCell w _ u k (by show k ≠ g; omega)

theorem hostSt_drew {w : World} {lo : Nat} {v : Value} {h : Ht} (H : HostSt w lo v h) : HostSt w.drew lo v h := H

theorem hostSt_alloc {w : World} {lo : Nat} {v : Value} {h : Ht} (H : HostSt w lo v h) (o : Obj) : HostSt (w.alloc o) lo v h := hostSt_below H (below_alloc (Below.refl _ _) o)

theorem bols_at {w : World} {A : Option Addr} {k : Nat} {zs : List Bool} {c : Nat} (h : Bols w (.slice A zs.length k) zs) (hc : c < zs.length) : ∃ ad, A = some ad ∧ w.cell? (ad.add c) = some (.bool zs[c]) := by
  obtain ⟨_, A', k', e, hq⟩ := h
  simp only [Value.slice.injEq, true_and] at e
  obtain ⟨rfl, rfl⟩ := e
  obtain ⟨ad, rfl, hq2⟩ := hq (by omega)
  exact ⟨ad, rfl, hq2 c hc⟩

theorem hostIn_firstRow {w : World} {x y z q : Value} {h : Ht} {c : Int} (H : HostIn w (.agg #[x, y, z, .int .i64 c, q]) h) : Bols w x h.g := by
  obtain ⟨x', y', z', q', e, h1, _⟩ := H
  simp only [Value.agg.injEq, Array.mk.injEq, List.cons.injEq, and_true, true_and] at e
  obtain ⟨rfl, _⟩ := e
  exact h1

theorem datIn_top {w : World} {A1 : Option Addr} {y z a b c : Value} {d : Dt} {n k : Nat} (H : DatIn w (.agg #[.slice A1 n k, y, z, a, b, c]) d) {i : Nat} (hi : i < d.s.length) : ∃ ad, A1 = some ad ∧ w.cell? (ad.add (d.s.length - 1 - i)) = some (.int .i64 (tp d i)) := by
  obtain ⟨x', y', z', e, h1, _⟩ := H
  simp only [Value.agg.injEq, Array.mk.injEq, List.cons.injEq, and_true, true_and] at e
  obtain ⟨rfl, _⟩ := e
  obtain ⟨_, A', k', e, hq⟩ := h1
  simp only [Value.slice.injEq, true_and] at e
  obtain ⟨rfl, _, rfl⟩ := e
  obtain ⟨ad, rfl, hq2⟩ := hq (by omega)
  refine ⟨ad, rfl, ?_⟩
  rw [hq2 _ (by omega), tp_at hi]

set_option maxRecDepth 100000 in
set_option maxHeartbeats 2000000 in
theorem sCall_denied (vh vd : Value) (h : Ht) (d : Dt) (c : Nat) (w : World) (hh : HostIn w vh h) (hd : DatC w vd d) (hf : HtFine h) (df : DtFine d) (hc : c < 4) (hg : h.g.getD c false = false) :
    Calls Try.prog 43 #[vh, vd, .int .i64 c] w (HMidOf w (h, d, -100)) := by
  have HH := Lib.hid hh
  have HD := Lib.hid hd
  obtain ⟨E1, l1, E2, l2, E3, l3, E4, l4, rfl⟩ := hostIn_form hh
  obtain ⟨A1, k1, A2, k2, A3, k3, rfl, _⟩ := datC_form hd
  have h4 := fineH_g hf
  have cl : c < h.g.length := by omega
  obtain ⟨ad, rfl, cg⟩ := bols_at (hostIn_firstRow hh) cl
  clear h4
  have HF := Lib.hid hf
  have DF := Lib.hid df
  rw [show h.g[c] = false by rw [← hg]; simp [List.getD, cl]] at cg
  clear hg
  have CG : ∀ o1 o2 o3 o4 : Obj, ((((w.alloc o1).alloc o2).alloc o3).alloc o4).cell? (ad.add c) = some (.bool false) := fun o1 o2 o3 o4 => cell_kept (below_alloc (below_alloc (below_alloc (below_alloc (Below.refl _ _) _) _) _) _) _ _ cg
  clear cg hh hd hf df
  go_enter Try.func43, Try.ntmps43
  go_wp2
  go_region
  all_goals
    go_wp2
    refine bodyPost_ret (v := .tuple #[.agg #[.slice (some ad) h.g.length l1, .slice E2 h.s.length l2, .slice E3 h.n.length l3, .int .i64 h.c, .slice E4 h.d.length l4], .agg #[.slice A1 d.s.length k1, .slice A2 d.b.length k2, .slice A3 d.c.length k3, .int .i64 d.h, .int .i64 d.n, .string d.o], .int .i64 (-100)]) (by simp [results, Try.results43, go_sem, *]) rfl ⟨_, _, rfl, hostIn_below HH.out ?_, datC_below HD.out ?_, ?_⟩
    all_goals repeat (first | with_reducible exact Below.refl _ _ | with_reducible exact B1.out | with_reducible refine Below.setCell ?_ (by simp <;> omega) _ | with_reducible refine below_alloc ?_ _ | with_reducible refine Below.drew ?_)

set_option maxRecDepth 100000 in
set_option maxHeartbeats 2000000 in
theorem sCall_full (vh vd : Value) (h : Ht) (d : Dt) (c : Nat) (w : World) (hh : HostIn w vh h) (hd : DatC w vd d) (hf : HtFine h) (df : DtFine d) (hc : c < 4) (hg : h.g.getD c false = true) (hq : h.d.length = 40) :
    Calls Try.prog 43 #[vh, vd, .int .i64 c] w (HMidOf w (h, d, -8)) := by
  have HH := Lib.hid hh
  have HD := Lib.hid hd
  obtain ⟨E1, l1, E2, l2, E3, l3, E4, l4, rfl⟩ := hostIn_form hh
  obtain ⟨A1, k1, A2, k2, A3, k3, rfl, _⟩ := datC_form hd
  have h4 := fineH_g hf
  have cl : c < h.g.length := by omega
  obtain ⟨ad, rfl, cg⟩ := bols_at (hostIn_firstRow hh) cl
  clear h4
  have HF := Lib.hid hf
  have DF := Lib.hid df
  rw [show h.g[c] = true by rw [← hg]; simp [List.getD, cl]] at cg
  clear hg
  have u0 : ((h.d.length : Int) == 40) = true := by rw [beq_iff_eq]; omega
  clear hq
  have CG : ∀ o1 o2 o3 o4 : Obj, ((((w.alloc o1).alloc o2).alloc o3).alloc o4).cell? (ad.add c) = some (.bool true) := fun o1 o2 o3 o4 => cell_kept (below_alloc (below_alloc (below_alloc (below_alloc (Below.refl _ _) _) _) _) _) _ _ cg
  clear cg hh hd hf df
  go_enter Try.func43, Try.ntmps43
  go_wp2
  go_region
  all_goals
    go_wp2
    refine bodyPost_ret (v := .tuple #[.agg #[.slice (some ad) h.g.length l1, .slice E2 h.s.length l2, .slice E3 h.n.length l3, .int .i64 h.c, .slice E4 h.d.length l4], .agg #[.slice A1 d.s.length k1, .slice A2 d.b.length k2, .slice A3 d.c.length k3, .int .i64 d.h, .int .i64 d.n, .string d.o], .int .i64 (-8)]) (by simp [results, Try.results43, go_sem, *]) rfl ⟨_, _, rfl, hostIn_below HH.out ?_, datC_below HD.out ?_, ?_⟩
    all_goals repeat (first | with_reducible exact Below.refl _ _ | with_reducible exact B1.out | with_reducible refine Below.setCell ?_ (by simp <;> omega) _ | with_reducible refine below_alloc ?_ _ | with_reducible refine Below.drew ?_)

theorem whole_new3 (w : World) (o o' o'' : Obj) (t : TypeId) (cs : Array Value) : Whole ((((w.alloc o).alloc o').alloc o'').alloc (.cells cs t)) (w.heap.size + 1 + 1 + 1) t cs := whole_at (by simp)

set_option maxRecDepth 100000 in
set_option maxHeartbeats 2000000 in
theorem sCall_under (vh vd : Value) (h : Ht) (d : Dt) (c : Nat) (w : World) (hh : HostIn w vh h) (hd : DatC w vd d) (hf : HtFine h) (df : DtFine d) (hc : c < 4) (hg : h.g.getD c false = true) (hq : ¬ h.d.length = 40) (hu : d.s.length < capTakes c) :
    Calls Try.prog 43 #[vh, vd, .int .i64 c] w (HMidOf w (h, d, -4)) := by
  have HH := Lib.hid hh
  have HD := Lib.hid hd
  obtain ⟨E1, l1, E2, l2, E3, l3, E4, l4, rfl⟩ := hostIn_form hh
  obtain ⟨A1, k1, A2, k2, A3, k3, rfl, _⟩ := datC_form hd
  have h4 := fineH_g hf
  have cl : c < h.g.length := by omega
  obtain ⟨ad, rfl, cg⟩ := bols_at (hostIn_firstRow hh) cl
  clear h4
  have HF := Lib.hid hf
  have DF := Lib.hid df
  rw [show h.g[c] = true by rw [← hg]; simp [List.getD, cl]] at cg
  clear hg
  have u0 : ((h.d.length : Int) == 40) = false := by rw [beq_eq_false_iff_ne]; omega
  clear hq
  obtain ⟨n, hn⟩ : ∃ n, d.s.length = n := ⟨_, rfl⟩
  have HN := Lib.hid hn
  have n32 : n ≤ 32 := by have := fine_sl df; omega
  rw [hn] at HD ⊢
  obtain ⟨tk, ht⟩ : ∃ tk, capTakes c = tk := ⟨_, rfl⟩
  have TKS : Hid (∀ W, Calls Try.prog 88 #[.int .i64 c] W fun e w' => e = .returned (.int .i64 (tk : Nat)) ∧ Below W.heap.size W w') := Lib.hid fun W => by rw [← ht]; exact sHTakes_any c W hc
  have u1 : n < tk := by omega
  have tk2 : tk ≤ 2 := by rw [← ht]; have : c = 0 ∨ c = 1 ∨ c = 2 ∨ c = 3 := by omega
                          rcases this with rfl | rfl | rfl | rfl <;> decide
  clear hn hu ht
  have CG : ∀ o1 o2 o3 o4 : Obj, ((((w.alloc o1).alloc o2).alloc o3).alloc o4).cell? (ad.add c) = some (.bool true) := fun o1 o2 o3 o4 => cell_kept (below_alloc (below_alloc (below_alloc (below_alloc (Below.refl _ _) _) _) _) _) _ _ cg
  clear cg hh hd hf df
  go_enter Try.func43, Try.ntmps43
  go_wp2_with (first
    | (go_at_call 88; refine (TKS.out _).mono ?_; rintro e w1 ⟨rfl, hb⟩
       have V1 := whole_b hb (whole_alloc (whole_alloc (whole_alloc (whole_new w _ _) _) _) _)
       have D1 := whole_b hb (whole_alloc (whole_alloc (whole_new1 w _ _ _) _) _)
       have T1 := whole_b hb (whole_alloc (whole_new2 w _ _ _ _) _)
       have Y1 := whole_b hb (whole_new3 w _ _ _ _ _)
       have B1 : Hid (Below w.heap.size w w1) := Lib.hid (below_step (below_alloc (below_alloc (below_alloc (below_alloc (Below.refl _ _) _) _) _) _) hb)
       have zy := whole_lt Y1
       obtain ⟨c0, c1, c2, c3, c4⟩ := five_cells V1
       obtain ⟨d0, d1, d2, d3, d4, d5⟩ := six_cells D1
       obtain ⟨r0, r1, r2, r3, r4⟩ := five_cells T1
       obtain ⟨y0, y1, y2, y3, y4, y5⟩ := six_cells Y1
       have fd := whole_free D1
       have fr := whole_free T1
       have fy := whole_free Y1
       clear hb))
  go_region
  all_goals
    go_wp2
    refine bodyPost_ret (v := .tuple #[.agg #[.slice (some ad) h.g.length l1, .slice E2 h.s.length l2, .slice E3 h.n.length l3, .int .i64 h.c, .slice E4 h.d.length l4], .agg #[.slice A1 n k1, .slice A2 d.b.length k2, .slice A3 d.c.length k3, .int .i64 d.h, .int .i64 d.n, .string d.o], .int .i64 (-4)]) (by simp [results, Try.results43, go_sem, *]) rfl ⟨_, _, rfl, hostIn_below HH.out ?_, datC_below HD.out ?_, ?_⟩
    all_goals repeat (first | with_reducible exact Below.refl _ _ | with_reducible exact B1.out | with_reducible refine Below.setCell ?_ (by simp <;> omega) _ | with_reducible refine below_alloc ?_ _ | with_reducible refine Below.drew ?_)

set_option maxRecDepth 100000 in
set_option maxHeartbeats 2000000 in
theorem sCall_over (vh vd : Value) (h : Ht) (d : Dt) (c : Nat) (w : World) (hh : HostIn w vh h) (hd : DatC w vd d) (hf : HtFine h) (df : DtFine d) (hc : c < 4) (hg : h.g.getD c false = true) (hq : ¬ h.d.length = 40) (hc3 : c = 3) (hu : d.s.length = 32) (hu1 : ¬ d.s.length < capTakes c) :
    Calls Try.prog 43 #[vh, vd, .int .i64 c] w (HMidOf w (h, d, -3)) := by
  have HH := Lib.hid hh
  have HD := Lib.hid hd
  obtain ⟨E1, l1, E2, l2, E3, l3, E4, l4, rfl⟩ := hostIn_form hh
  obtain ⟨A1, k1, A2, k2, A3, k3, rfl, _⟩ := datC_form hd
  have h4 := fineH_g hf
  have cl : c < h.g.length := by omega
  obtain ⟨ad, rfl, cg⟩ := bols_at (hostIn_firstRow hh) cl
  clear h4
  have HF := Lib.hid hf
  have DF := Lib.hid df
  rw [show h.g[c] = true by rw [← hg]; simp [List.getD, cl]] at cg
  clear hg
  have u0 : ((h.d.length : Int) == 40) = false := by rw [beq_eq_false_iff_ne]; omega
  clear hq
  obtain ⟨n, hn⟩ : ∃ n, d.s.length = n := ⟨_, rfl⟩
  have HN := Lib.hid hn
  have n32 : n ≤ 32 := by have := fine_sl df; omega
  rw [hn] at HD ⊢
  obtain ⟨tk, ht⟩ : ∃ tk, capTakes c = tk := ⟨_, rfl⟩
  have TKS : Hid (∀ W, Calls Try.prog 88 #[.int .i64 c] W fun e w' => e = .returned (.int .i64 (tk : Nat)) ∧ Below W.heap.size W w') := Lib.hid fun W => by rw [← ht]; exact sHTakes_any c W hc
  have u1 : ¬ n < tk := by omega
  have tk2 : tk ≤ 2 := by rw [← ht]; have : c = 0 ∨ c = 1 ∨ c = 2 ∨ c = 3 := by omega
                          rcases this with rfl | rfl | rfl | rfl <;> decide
  have HTK := Lib.hid ht
  have u3 : ((c : Int) == 3) = true := by rw [beq_iff_eq]; omega
  have u4 : ((n : Int) == 32) = true := by rw [beq_iff_eq]; omega
  clear hn hu hu1 hc3 ht
  have CG : ∀ o1 o2 o3 o4 : Obj, ((((w.alloc o1).alloc o2).alloc o3).alloc o4).cell? (ad.add c) = some (.bool true) := fun o1 o2 o3 o4 => cell_kept (below_alloc (below_alloc (below_alloc (below_alloc (Below.refl _ _) _) _) _) _) _ _ cg
  clear cg hh hd hf df
  go_enter Try.func43, Try.ntmps43
  go_wp2_with (first
    | (go_at_call 88; refine (TKS.out _).mono ?_; rintro e w1 ⟨rfl, hb⟩
       have V1 := whole_b hb (whole_alloc (whole_alloc (whole_alloc (whole_new w _ _) _) _) _)
       have D1 := whole_b hb (whole_alloc (whole_alloc (whole_new1 w _ _ _) _) _)
       have T1 := whole_b hb (whole_alloc (whole_new2 w _ _ _ _) _)
       have Y1 := whole_b hb (whole_new3 w _ _ _ _ _)
       have B1 : Hid (Below w.heap.size w w1) := Lib.hid (below_step (below_alloc (below_alloc (below_alloc (below_alloc (Below.refl _ _) _) _) _) _) hb)
       have zy := whole_lt Y1
       obtain ⟨c0, c1, c2, c3, c4⟩ := five_cells V1
       obtain ⟨d0, d1, d2, d3, d4, d5⟩ := six_cells D1
       obtain ⟨r0, r1, r2, r3, r4⟩ := five_cells T1
       obtain ⟨y0, y1, y2, y3, y4, y5⟩ := six_cells Y1
       have fd := whole_free D1
       have fr := whole_free T1
       have fy := whole_free Y1
       clear hb))
  go_region
  all_goals
    go_wp2
    refine bodyPost_ret (v := .tuple #[.agg #[.slice (some ad) h.g.length l1, .slice E2 h.s.length l2, .slice E3 h.n.length l3, .int .i64 h.c, .slice E4 h.d.length l4], .agg #[.slice A1 n k1, .slice A2 d.b.length k2, .slice A3 d.c.length k3, .int .i64 d.h, .int .i64 d.n, .string d.o], .int .i64 (-3)]) (by simp [results, Try.results43, go_sem, *]) rfl ⟨_, _, rfl, hostIn_below HH.out ?_, datC_below HD.out ?_, ?_⟩
    all_goals repeat (first | with_reducible exact Below.refl _ _ | with_reducible exact B1.out | with_reducible refine Below.setCell ?_ (by simp <;> omega) _ | with_reducible refine below_alloc ?_ _ | with_reducible refine Below.drew ?_)

set_option maxRecDepth 100000 in
set_option maxHeartbeats 2000000 in
theorem sCall_E0 (vh vd : Value) (h : Ht) (d : Dt) (c : Nat) (q : Ht) (v th : Int) (w : World) (hh : HostIn w vh h) (hd : DatC w vd d) (hf : HtFine h) (df : DtFine d) (hc : c < 4) (hg : h.g.getD c false = true) (hq : ¬ h.d.length = 40) (hu1 : ¬ d.s.length < capTakes c) (ho : ¬ (c = 3 ∧ d.s.length = 32)) (hn0 : d.s.length = 0) (hdo : hDo h c (tp d 1) (tp d 0) = (q, v, th)) (hth : th ≠ 0) :
    Calls Try.prog 43 #[vh, vd, .int .i64 c] w (HMidOf w (h, d, th)) := by
  have HH := Lib.hid hh
  have HD := Lib.hid hd
  obtain ⟨E1, l1, E2, l2, E3, l3, E4, l4, rfl⟩ := hostIn_form hh
  obtain ⟨A1, k1, A2, k2, A3, k3, rfl, _⟩ := datC_form hd
  have h4 := fineH_g hf
  have cl : c < h.g.length := by omega
  obtain ⟨ad, rfl, cg⟩ := bols_at (hostIn_firstRow hh) cl
  clear h4
  have HF := Lib.hid hf
  have DF := Lib.hid df
  have sl := fine_sl df
  have e1 : tp d 1 = 0 := tp_out (by omega)
  have e0 : tp d 0 = 0 := tp_out (by omega)
  rw [e1, e0] at hdo
  rw [show h.g[c] = true by rw [← hg]; simp [List.getD, cl]] at cg
  clear hg
  have u0 : ((h.d.length : Int) == 40) = false := by rw [beq_eq_false_iff_ne]; omega
  clear hq
  obtain ⟨n, hn⟩ : ∃ n, d.s.length = n := ⟨_, rfl⟩
  have HN := Lib.hid hn
  have n32 : n ≤ 32 := by omega
  rw [hn] at HD ⊢
  obtain ⟨tk, ht⟩ : ∃ tk, capTakes c = tk := ⟨_, rfl⟩
  have TKS : Hid (∀ W, Calls Try.prog 88 #[.int .i64 c] W fun e w' => e = .returned (.int .i64 (tk : Nat)) ∧ Below W.heap.size W w') := Lib.hid fun W => by rw [← ht]; exact sHTakes_any c W hc
  have u1 : ¬ n < tk := by omega
  have tk2 : tk ≤ 2 := by rw [← ht]; have : c = 0 ∨ c = 1 ∨ c = 2 ∨ c = 3 := by omega
                          rcases this with rfl | rfl | rfl | rfl <;> decide
  have HTK := Lib.hid ht
  obtain rfl : n = 0 := by omega
  have HDO : Hid (∀ W u, HostIn W u h → Calls Try.prog 89 #[u, .int .i64 c, .int .i64 0, .int .i64 0] W (HDoOf W (q, v, th))) := Lib.hid fun W u hu => by rw [← hdo]; exact sDo_any u h c 0 0 W hu HF.out hc
  have tt : (th != 0) = true := by rw [bne_iff_ne]; exact hth
  clear hn hu1 hn0 hdo ht sl hth
  have CG : ∀ o1 o2 o3 o4 : Obj, ((((w.alloc o1).alloc o2).alloc o3).alloc o4).cell? (ad.add c) = some (.bool true) := fun o1 o2 o3 o4 => cell_kept (below_alloc (below_alloc (below_alloc (below_alloc (Below.refl _ _) _) _) _) _) _ _ cg
  clear cg hh hd hf df
  have OO : (((c : Int) == 3) = true ∧ ((0 : Int) == 32) = false) ∨ ((c : Int) == 3) = false := by
    by_cases q3 : c = 3
    · exact .inl ⟨by rw [beq_iff_eq]; omega, by rw [beq_eq_false_iff_ne]; intro q4; exact ho ⟨q3, by have := HN.out; omega⟩⟩
    · exact .inr (by rw [beq_eq_false_iff_ne]; omega)
  clear ho
  go_enter Try.func43, Try.ntmps43
  rcases OO with ⟨u3, u4⟩ | u3
  · go_wp2_with (first
      | (go_at_call 88; refine (TKS.out _).mono ?_; rintro e w1 ⟨rfl, hb⟩
         have V1 := whole_b hb (whole_alloc (whole_alloc (whole_alloc (whole_new w _ _) _) _) _)
         have D1 := whole_b hb (whole_alloc (whole_alloc (whole_new1 w _ _ _) _) _)
         have T1 := whole_b hb (whole_alloc (whole_new2 w _ _ _ _) _)
         have Y1 := whole_b hb (whole_new3 w _ _ _ _ _)
         have B1 : Hid (Below w.heap.size w w1) := Lib.hid (below_step (below_alloc (below_alloc (below_alloc (below_alloc (Below.refl _ _) _) _) _) _) hb)
         have zy := whole_lt Y1
         obtain ⟨c0, c1, c2, c3, c4⟩ := five_cells V1
         obtain ⟨d0, d1, d2, d3, d4, d5⟩ := six_cells D1
         obtain ⟨r0, r1, r2, r3, r4⟩ := five_cells T1
         obtain ⟨y0, y1, y2, y3, y4, y5⟩ := six_cells Y1
         have fd := whole_free D1
         have fr := whole_free T1
         have fy := whole_free Y1
         have VV1 := Lib.hid V1
         have DD1 := Lib.hid D1
         have TT1 := Lib.hid T1
         have YY1 := Lib.hid Y1
         clear hb V1 D1 T1 Y1)
      | (go_at_call 89; refine (HDO.out _ _ (hostIn_below HH.out B1.out)).mono ?_; rintro e w2 ⟨u2, rfl, hst, hb⟩
         clear c0 c1 c2 c3 c4 d0 d1 d2 d3 d4 d5 r0 r1 r2 r3 r4 y0 y1 y2 y3 y4 y5 fd fr fy
         have B2 : Hid (Below w.heap.size w w2) := Lib.hid (below_step B1.out hb)
         have V2 := whole_b hb VV1.out
         have D2 := whole_b hb DD1.out
         have T2 := whole_b hb TT1.out
         have Y2 := whole_b hb YY1.out
         have z2 := hb.size
         have b0 : w.heap.size < w2.heap.size := by omega
         have b1 : w.heap.size + 1 < w2.heap.size := by omega
         have b2 : w.heap.size + 1 + 1 < w2.heap.size := by omega
         have b3 : w.heap.size + 1 + 1 + 1 < w2.heap.size := by omega
         obtain ⟨U1, p1, U2, p2, U3, p3, U4, p4, rfl⟩ := hostIn_form (hostSt_now hst)
         have HST := Lib.hid hst
         obtain ⟨c0, c1, c2, c3, c4⟩ := five_cells V2
         obtain ⟨d0, d1, d2, d3, d4, d5⟩ := six_cells D2
         obtain ⟨r0, r1, r2, r3, r4⟩ := five_cells T2
         obtain ⟨y0, y1, y2, y3, y4, y5⟩ := six_cells Y2
         have fd := whole_free D2
         have fr := whole_free T2
         have fy := whole_free Y2
         have DD2 := Lib.hid D2
         have TT2 := Lib.hid T2
         have YY2 := Lib.hid Y2
         clear hb hst V2 D2 T2 Y2))
    go_region
    all_goals
      go_wp2
      refine bodyPost_ret (v := .tuple #[.agg #[.slice (some ad) h.g.length l1, .slice E2 h.s.length l2, .slice E3 h.n.length l3, .int .i64 h.c, .slice E4 h.d.length l4], .agg #[.slice A1 0 k1, .slice A2 d.b.length k2, .slice A3 d.c.length k3, .int .i64 d.h, .int .i64 d.n, .string d.o], .int .i64 th]) (by simp [results, Try.results43, go_sem, *]) rfl ⟨_, _, rfl, hostIn_below HH.out ?_, datC_below HD.out ?_, ?_⟩
      all_goals repeat (first | with_reducible exact Below.refl _ _ | with_reducible exact B2.out | with_reducible refine Below.setCell ?_ (by simp <;> omega) _ | with_reducible refine below_alloc ?_ _ | with_reducible refine Below.drew ?_)
  · go_wp2_with (first
      | (go_at_call 88; refine (TKS.out _).mono ?_; rintro e w1 ⟨rfl, hb⟩
         have V1 := whole_b hb (whole_alloc (whole_alloc (whole_alloc (whole_new w _ _) _) _) _)
         have D1 := whole_b hb (whole_alloc (whole_alloc (whole_new1 w _ _ _) _) _)
         have T1 := whole_b hb (whole_alloc (whole_new2 w _ _ _ _) _)
         have Y1 := whole_b hb (whole_new3 w _ _ _ _ _)
         have B1 : Hid (Below w.heap.size w w1) := Lib.hid (below_step (below_alloc (below_alloc (below_alloc (below_alloc (Below.refl _ _) _) _) _) _) hb)
         have zy := whole_lt Y1
         obtain ⟨c0, c1, c2, c3, c4⟩ := five_cells V1
         obtain ⟨d0, d1, d2, d3, d4, d5⟩ := six_cells D1
         obtain ⟨r0, r1, r2, r3, r4⟩ := five_cells T1
         obtain ⟨y0, y1, y2, y3, y4, y5⟩ := six_cells Y1
         have fd := whole_free D1
         have fr := whole_free T1
         have fy := whole_free Y1
         have VV1 := Lib.hid V1
         have DD1 := Lib.hid D1
         have TT1 := Lib.hid T1
         have YY1 := Lib.hid Y1
         clear hb V1 D1 T1 Y1)
      | (go_at_call 89; refine (HDO.out _ _ (hostIn_below HH.out B1.out)).mono ?_; rintro e w2 ⟨u2, rfl, hst, hb⟩
         clear c0 c1 c2 c3 c4 d0 d1 d2 d3 d4 d5 r0 r1 r2 r3 r4 y0 y1 y2 y3 y4 y5 fd fr fy
         have B2 : Hid (Below w.heap.size w w2) := Lib.hid (below_step B1.out hb)
         have V2 := whole_b hb VV1.out
         have D2 := whole_b hb DD1.out
         have T2 := whole_b hb TT1.out
         have Y2 := whole_b hb YY1.out
         have z2 := hb.size
         have b0 : w.heap.size < w2.heap.size := by omega
         have b1 : w.heap.size + 1 < w2.heap.size := by omega
         have b2 : w.heap.size + 1 + 1 < w2.heap.size := by omega
         have b3 : w.heap.size + 1 + 1 + 1 < w2.heap.size := by omega
         obtain ⟨U1, p1, U2, p2, U3, p3, U4, p4, rfl⟩ := hostIn_form (hostSt_now hst)
         have HST := Lib.hid hst
         obtain ⟨c0, c1, c2, c3, c4⟩ := five_cells V2
         obtain ⟨d0, d1, d2, d3, d4, d5⟩ := six_cells D2
         obtain ⟨r0, r1, r2, r3, r4⟩ := five_cells T2
         obtain ⟨y0, y1, y2, y3, y4, y5⟩ := six_cells Y2
         have fd := whole_free D2
         have fr := whole_free T2
         have fy := whole_free Y2
         have DD2 := Lib.hid D2
         have TT2 := Lib.hid T2
         have YY2 := Lib.hid Y2
         clear hb hst V2 D2 T2 Y2))
    go_region
    all_goals
      go_wp2
      refine bodyPost_ret (v := .tuple #[.agg #[.slice (some ad) h.g.length l1, .slice E2 h.s.length l2, .slice E3 h.n.length l3, .int .i64 h.c, .slice E4 h.d.length l4], .agg #[.slice A1 0 k1, .slice A2 d.b.length k2, .slice A3 d.c.length k3, .int .i64 d.h, .int .i64 d.n, .string d.o], .int .i64 th]) (by simp [results, Try.results43, go_sem, *]) rfl ⟨_, _, rfl, hostIn_below HH.out ?_, datC_below HD.out ?_, ?_⟩
      all_goals repeat (first | with_reducible exact Below.refl _ _ | with_reducible exact B2.out | with_reducible refine Below.setCell ?_ (by simp <;> omega) _ | with_reducible refine below_alloc ?_ _ | with_reducible refine Below.drew ?_)

set_option maxRecDepth 100000 in
set_option maxHeartbeats 2000000 in
theorem sCall_E1 (vh vd : Value) (h : Ht) (d : Dt) (c : Nat) (q : Ht) (v th : Int) (w : World) (hh : HostIn w vh h) (hd : DatC w vd d) (hf : HtFine h) (df : DtFine d) (hc : c < 4) (hg : h.g.getD c false = true) (hq : ¬ h.d.length = 40) (hu1 : ¬ d.s.length < capTakes c) (ho : ¬ (c = 3 ∧ d.s.length = 32)) (hn0 : d.s.length = 1) (hdo : hDo h c (tp d 1) (tp d 0) = (q, v, th)) (hth : th ≠ 0) :
    Calls Try.prog 43 #[vh, vd, .int .i64 c] w (HMidOf w (h, d, th)) := by
  have HH := Lib.hid hh
  have HD := Lib.hid hd
  obtain ⟨E1, l1, E2, l2, E3, l3, E4, l4, rfl⟩ := hostIn_form hh
  obtain ⟨A1, k1, A2, k2, A3, k3, rfl, _⟩ := datC_form hd
  have h4 := fineH_g hf
  have cl : c < h.g.length := by omega
  obtain ⟨ad, rfl, cg⟩ := bols_at (hostIn_firstRow hh) cl
  clear h4
  have HF := Lib.hid hf
  have DF := Lib.hid df
  have sl := fine_sl df
  have e1 : tp d 1 = 0 := tp_out (by omega)
  rw [e1] at hdo
  obtain ⟨ad2, rfl, CB⟩ := datIn_top hd.1 (i := 0) (by omega)
  generalize tp d 0 = x0 at *
  rw [show h.g[c] = true by rw [← hg]; simp [List.getD, cl]] at cg
  clear hg
  have u0 : ((h.d.length : Int) == 40) = false := by rw [beq_eq_false_iff_ne]; omega
  clear hq
  obtain ⟨n, hn⟩ : ∃ n, d.s.length = n := ⟨_, rfl⟩
  have HN := Lib.hid hn
  have n32 : n ≤ 32 := by omega
  rw [hn] at HD ⊢
  obtain ⟨tk, ht⟩ : ∃ tk, capTakes c = tk := ⟨_, rfl⟩
  have TKS : Hid (∀ W, Calls Try.prog 88 #[.int .i64 c] W fun e w' => e = .returned (.int .i64 (tk : Nat)) ∧ Below W.heap.size W w') := Lib.hid fun W => by rw [← ht]; exact sHTakes_any c W hc
  have u1 : ¬ n < tk := by omega
  have tk2 : tk ≤ 2 := by rw [← ht]; have : c = 0 ∨ c = 1 ∨ c = 2 ∨ c = 3 := by omega
                          rcases this with rfl | rfl | rfl | rfl <;> decide
  have HTK := Lib.hid ht
  obtain ⟨j0, hj0⟩ : ∃ j0, n = j0 + 1 := ⟨n - 1, by omega⟩
  have s0 : IntKind.i64.wrap ((n : Int) - 1) = (j0 : Int) := by rw [IntWalk.i64_in _ (by omega)]; omega
  have s0' : (j0 : Int) < n := by omega
  have p0 : (0 : Int) < n := by omega
  rw [show d.s.length - 1 - 0 = j0 by omega] at CB
  have p1' : ¬ (1 : Int) < n := by omega
  have HDO : Hid (∀ W u, HostIn W u h → Calls Try.prog 89 #[u, .int .i64 c, .int .i64 0, .int .i64 x0] W (HDoOf W (q, v, th))) := Lib.hid fun W u hu => by rw [← hdo]; exact sDo_any u h c 0 x0 W hu HF.out hc
  have tt : (th != 0) = true := by rw [bne_iff_ne]; exact hth
  clear hn hu1 hn0 hdo ht sl hj0 hth
  have CG : ∀ o1 o2 o3 o4 : Obj, ((((w.alloc o1).alloc o2).alloc o3).alloc o4).cell? (ad.add c) = some (.bool true) := fun o1 o2 o3 o4 => cell_kept (below_alloc (below_alloc (below_alloc (below_alloc (Below.refl _ _) _) _) _) _) _ _ cg
  clear cg hh hd hf df
  have OO : (((c : Int) == 3) = true ∧ ((n : Int) == 32) = false) ∨ ((c : Int) == 3) = false := by
    by_cases q3 : c = 3
    · exact .inl ⟨by rw [beq_iff_eq]; omega, by rw [beq_eq_false_iff_ne]; intro q4; exact ho ⟨q3, by have := HN.out; omega⟩⟩
    · exact .inr (by rw [beq_eq_false_iff_ne]; omega)
  clear ho
  go_enter Try.func43, Try.ntmps43
  rcases OO with ⟨u3, u4⟩ | u3
  · go_wp2_with (first
      | (go_at_call 88; refine (TKS.out _).mono ?_; rintro e w1 ⟨rfl, hb⟩
         have V1 := whole_b hb (whole_alloc (whole_alloc (whole_alloc (whole_new w _ _) _) _) _)
         have D1 := whole_b hb (whole_alloc (whole_alloc (whole_new1 w _ _ _) _) _)
         have T1 := whole_b hb (whole_alloc (whole_new2 w _ _ _ _) _)
         have Y1 := whole_b hb (whole_new3 w _ _ _ _ _)
         have B1 : Hid (Below w.heap.size w w1) := Lib.hid (below_step (below_alloc (below_alloc (below_alloc (below_alloc (Below.refl _ _) _) _) _) _) hb)
         have zy := whole_lt Y1
         obtain ⟨c0, c1, c2, c3, c4⟩ := five_cells V1
         obtain ⟨d0, d1, d2, d3, d4, d5⟩ := six_cells D1
         obtain ⟨r0, r1, r2, r3, r4⟩ := five_cells T1
         obtain ⟨y0, y1, y2, y3, y4, y5⟩ := six_cells Y1
         have fd := whole_free D1
         have fr := whole_free T1
         have fy := whole_free Y1
         have cb := cell_kept B1.out _ _ CB
         have VV1 := Lib.hid V1
         have DD1 := Lib.hid D1
         have TT1 := Lib.hid T1
         have YY1 := Lib.hid Y1
         clear hb V1 D1 T1 Y1)
      | (go_at_call 89; refine (HDO.out _ _ (hostIn_below HH.out B1.out)).mono ?_; rintro e w2 ⟨u2, rfl, hst, hb⟩
         clear c0 c1 c2 c3 c4 d0 d1 d2 d3 d4 d5 r0 r1 r2 r3 r4 y0 y1 y2 y3 y4 y5 fd fr fy cb
         have B2 : Hid (Below w.heap.size w w2) := Lib.hid (below_step B1.out hb)
         have V2 := whole_b hb VV1.out
         have D2 := whole_b hb DD1.out
         have T2 := whole_b hb TT1.out
         have Y2 := whole_b hb YY1.out
         have z2 := hb.size
         have b0 : w.heap.size < w2.heap.size := by omega
         have b1 : w.heap.size + 1 < w2.heap.size := by omega
         have b2 : w.heap.size + 1 + 1 < w2.heap.size := by omega
         have b3 : w.heap.size + 1 + 1 + 1 < w2.heap.size := by omega
         obtain ⟨U1, p1, U2, p2, U3, p3, U4, p4, rfl⟩ := hostIn_form (hostSt_now hst)
         have HST := Lib.hid hst
         obtain ⟨c0, c1, c2, c3, c4⟩ := five_cells V2
         obtain ⟨d0, d1, d2, d3, d4, d5⟩ := six_cells D2
         obtain ⟨r0, r1, r2, r3, r4⟩ := five_cells T2
         obtain ⟨y0, y1, y2, y3, y4, y5⟩ := six_cells Y2
         have fd := whole_free D2
         have fr := whole_free T2
         have fy := whole_free Y2
         have DD2 := Lib.hid D2
         have TT2 := Lib.hid T2
         have YY2 := Lib.hid Y2
         clear hb hst V2 D2 T2 Y2))
    go_region
    all_goals
      go_wp2
      refine bodyPost_ret (v := .tuple #[.agg #[.slice (some ad) h.g.length l1, .slice E2 h.s.length l2, .slice E3 h.n.length l3, .int .i64 h.c, .slice E4 h.d.length l4], .agg #[.slice (some ad2) n k1, .slice A2 d.b.length k2, .slice A3 d.c.length k3, .int .i64 d.h, .int .i64 d.n, .string d.o], .int .i64 th]) (by simp [results, Try.results43, go_sem, *]) rfl ⟨_, _, rfl, hostIn_below HH.out ?_, datC_below HD.out ?_, ?_⟩
      all_goals repeat (first | with_reducible exact Below.refl _ _ | with_reducible exact B2.out | with_reducible refine Below.setCell ?_ (by simp <;> omega) _ | with_reducible refine below_alloc ?_ _ | with_reducible refine Below.drew ?_)
  · go_wp2_with (first
      | (go_at_call 88; refine (TKS.out _).mono ?_; rintro e w1 ⟨rfl, hb⟩
         have V1 := whole_b hb (whole_alloc (whole_alloc (whole_alloc (whole_new w _ _) _) _) _)
         have D1 := whole_b hb (whole_alloc (whole_alloc (whole_new1 w _ _ _) _) _)
         have T1 := whole_b hb (whole_alloc (whole_new2 w _ _ _ _) _)
         have Y1 := whole_b hb (whole_new3 w _ _ _ _ _)
         have B1 : Hid (Below w.heap.size w w1) := Lib.hid (below_step (below_alloc (below_alloc (below_alloc (below_alloc (Below.refl _ _) _) _) _) _) hb)
         have zy := whole_lt Y1
         obtain ⟨c0, c1, c2, c3, c4⟩ := five_cells V1
         obtain ⟨d0, d1, d2, d3, d4, d5⟩ := six_cells D1
         obtain ⟨r0, r1, r2, r3, r4⟩ := five_cells T1
         obtain ⟨y0, y1, y2, y3, y4, y5⟩ := six_cells Y1
         have fd := whole_free D1
         have fr := whole_free T1
         have fy := whole_free Y1
         have cb := cell_kept B1.out _ _ CB
         have VV1 := Lib.hid V1
         have DD1 := Lib.hid D1
         have TT1 := Lib.hid T1
         have YY1 := Lib.hid Y1
         clear hb V1 D1 T1 Y1)
      | (go_at_call 89; refine (HDO.out _ _ (hostIn_below HH.out B1.out)).mono ?_; rintro e w2 ⟨u2, rfl, hst, hb⟩
         clear c0 c1 c2 c3 c4 d0 d1 d2 d3 d4 d5 r0 r1 r2 r3 r4 y0 y1 y2 y3 y4 y5 fd fr fy cb
         have B2 : Hid (Below w.heap.size w w2) := Lib.hid (below_step B1.out hb)
         have V2 := whole_b hb VV1.out
         have D2 := whole_b hb DD1.out
         have T2 := whole_b hb TT1.out
         have Y2 := whole_b hb YY1.out
         have z2 := hb.size
         have b0 : w.heap.size < w2.heap.size := by omega
         have b1 : w.heap.size + 1 < w2.heap.size := by omega
         have b2 : w.heap.size + 1 + 1 < w2.heap.size := by omega
         have b3 : w.heap.size + 1 + 1 + 1 < w2.heap.size := by omega
         obtain ⟨U1, p1, U2, p2, U3, p3, U4, p4, rfl⟩ := hostIn_form (hostSt_now hst)
         have HST := Lib.hid hst
         obtain ⟨c0, c1, c2, c3, c4⟩ := five_cells V2
         obtain ⟨d0, d1, d2, d3, d4, d5⟩ := six_cells D2
         obtain ⟨r0, r1, r2, r3, r4⟩ := five_cells T2
         obtain ⟨y0, y1, y2, y3, y4, y5⟩ := six_cells Y2
         have fd := whole_free D2
         have fr := whole_free T2
         have fy := whole_free Y2
         have DD2 := Lib.hid D2
         have TT2 := Lib.hid T2
         have YY2 := Lib.hid Y2
         clear hb hst V2 D2 T2 Y2))
    go_region
    all_goals
      go_wp2
      refine bodyPost_ret (v := .tuple #[.agg #[.slice (some ad) h.g.length l1, .slice E2 h.s.length l2, .slice E3 h.n.length l3, .int .i64 h.c, .slice E4 h.d.length l4], .agg #[.slice (some ad2) n k1, .slice A2 d.b.length k2, .slice A3 d.c.length k3, .int .i64 d.h, .int .i64 d.n, .string d.o], .int .i64 th]) (by simp [results, Try.results43, go_sem, *]) rfl ⟨_, _, rfl, hostIn_below HH.out ?_, datC_below HD.out ?_, ?_⟩
      all_goals repeat (first | with_reducible exact Below.refl _ _ | with_reducible exact B2.out | with_reducible refine Below.setCell ?_ (by simp <;> omega) _ | with_reducible refine below_alloc ?_ _ | with_reducible refine Below.drew ?_)

set_option maxRecDepth 100000 in
set_option maxHeartbeats 2000000 in
theorem sCall_E2 (vh vd : Value) (h : Ht) (d : Dt) (c : Nat) (q : Ht) (v th : Int) (w : World) (hh : HostIn w vh h) (hd : DatC w vd d) (hf : HtFine h) (df : DtFine d) (hc : c < 4) (hg : h.g.getD c false = true) (hq : ¬ h.d.length = 40) (hu1 : ¬ d.s.length < capTakes c) (ho : ¬ (c = 3 ∧ d.s.length = 32)) (hn0 : 2 ≤ d.s.length) (hdo : hDo h c (tp d 1) (tp d 0) = (q, v, th)) (hth : th ≠ 0) :
    Calls Try.prog 43 #[vh, vd, .int .i64 c] w (HMidOf w (h, d, th)) := by
  have HH := Lib.hid hh
  have HD := Lib.hid hd
  obtain ⟨E1, l1, E2, l2, E3, l3, E4, l4, rfl⟩ := hostIn_form hh
  obtain ⟨A1, k1, A2, k2, A3, k3, rfl, _⟩ := datC_form hd
  have h4 := fineH_g hf
  have cl : c < h.g.length := by omega
  obtain ⟨ad, rfl, cg⟩ := bols_at (hostIn_firstRow hh) cl
  clear h4
  have HF := Lib.hid hf
  have DF := Lib.hid df
  have sl := fine_sl df
  obtain ⟨ad2, rfl, CB⟩ := datIn_top hd.1 (i := 0) (by omega)
  obtain ⟨ad3, e3, CA⟩ := datIn_top hd.1 (i := 1) (by omega)
  obtain rfl := Option.some.inj e3
  generalize tp d 1 = x1 at *
  generalize tp d 0 = x0 at *
  rw [show h.g[c] = true by rw [← hg]; simp [List.getD, cl]] at cg
  clear hg
  have u0 : ((h.d.length : Int) == 40) = false := by rw [beq_eq_false_iff_ne]; omega
  clear hq
  obtain ⟨n, hn⟩ : ∃ n, d.s.length = n := ⟨_, rfl⟩
  have HN := Lib.hid hn
  have n32 : n ≤ 32 := by omega
  rw [hn] at HD ⊢
  obtain ⟨tk, ht⟩ : ∃ tk, capTakes c = tk := ⟨_, rfl⟩
  have TKS : Hid (∀ W, Calls Try.prog 88 #[.int .i64 c] W fun e w' => e = .returned (.int .i64 (tk : Nat)) ∧ Below W.heap.size W w') := Lib.hid fun W => by rw [← ht]; exact sHTakes_any c W hc
  have u1 : ¬ n < tk := by omega
  have tk2 : tk ≤ 2 := by rw [← ht]; have : c = 0 ∨ c = 1 ∨ c = 2 ∨ c = 3 := by omega
                          rcases this with rfl | rfl | rfl | rfl <;> decide
  have HTK := Lib.hid ht
  obtain ⟨j0, hj0⟩ : ∃ j0, n = j0 + 1 := ⟨n - 1, by omega⟩
  have s0 : IntKind.i64.wrap ((n : Int) - 1) = (j0 : Int) := by rw [IntWalk.i64_in _ (by omega)]; omega
  have s0' : (j0 : Int) < n := by omega
  have p0 : (0 : Int) < n := by omega
  rw [show d.s.length - 1 - 0 = j0 by omega] at CB
  obtain ⟨j1, hj1⟩ : ∃ j1, n = j1 + 2 := ⟨n - 2, by omega⟩
  have s1 : IntKind.i64.wrap ((n : Int) - 2) = (j1 : Int) := by rw [IntWalk.i64_in _ (by omega)]; omega
  have s1' : (j1 : Int) < n := by omega
  have p1' : (1 : Int) < n := by omega
  rw [show d.s.length - 1 - 1 = j1 by omega] at CA
  have HDO : Hid (∀ W u, HostIn W u h → Calls Try.prog 89 #[u, .int .i64 c, .int .i64 x1, .int .i64 x0] W (HDoOf W (q, v, th))) := Lib.hid fun W u hu => by rw [← hdo]; exact sDo_any u h c x1 x0 W hu HF.out hc
  have tt : (th != 0) = true := by rw [bne_iff_ne]; exact hth
  clear hn hu1 hn0 hdo ht sl hj0 hj1 hth
  have CG : ∀ o1 o2 o3 o4 : Obj, ((((w.alloc o1).alloc o2).alloc o3).alloc o4).cell? (ad.add c) = some (.bool true) := fun o1 o2 o3 o4 => cell_kept (below_alloc (below_alloc (below_alloc (below_alloc (Below.refl _ _) _) _) _) _) _ _ cg
  clear cg hh hd hf df
  have OO : (((c : Int) == 3) = true ∧ ((n : Int) == 32) = false) ∨ ((c : Int) == 3) = false := by
    by_cases q3 : c = 3
    · exact .inl ⟨by rw [beq_iff_eq]; omega, by rw [beq_eq_false_iff_ne]; intro q4; exact ho ⟨q3, by have := HN.out; omega⟩⟩
    · exact .inr (by rw [beq_eq_false_iff_ne]; omega)
  clear ho
  go_enter Try.func43, Try.ntmps43
  rcases OO with ⟨u3, u4⟩ | u3
  · go_wp2_with (first
      | (go_at_call 88; refine (TKS.out _).mono ?_; rintro e w1 ⟨rfl, hb⟩
         have V1 := whole_b hb (whole_alloc (whole_alloc (whole_alloc (whole_new w _ _) _) _) _)
         have D1 := whole_b hb (whole_alloc (whole_alloc (whole_new1 w _ _ _) _) _)
         have T1 := whole_b hb (whole_alloc (whole_new2 w _ _ _ _) _)
         have Y1 := whole_b hb (whole_new3 w _ _ _ _ _)
         have B1 : Hid (Below w.heap.size w w1) := Lib.hid (below_step (below_alloc (below_alloc (below_alloc (below_alloc (Below.refl _ _) _) _) _) _) hb)
         have zy := whole_lt Y1
         obtain ⟨c0, c1, c2, c3, c4⟩ := five_cells V1
         obtain ⟨d0, d1, d2, d3, d4, d5⟩ := six_cells D1
         obtain ⟨r0, r1, r2, r3, r4⟩ := five_cells T1
         obtain ⟨y0, y1, y2, y3, y4, y5⟩ := six_cells Y1
         have fd := whole_free D1
         have fr := whole_free T1
         have fy := whole_free Y1
         have cb := cell_kept B1.out _ _ CB
         have ca := cell_kept B1.out _ _ CA
         have VV1 := Lib.hid V1
         have DD1 := Lib.hid D1
         have TT1 := Lib.hid T1
         have YY1 := Lib.hid Y1
         clear hb V1 D1 T1 Y1)
      | (go_at_call 89; refine (HDO.out _ _ (hostIn_below HH.out B1.out)).mono ?_; rintro e w2 ⟨u2, rfl, hst, hb⟩
         clear c0 c1 c2 c3 c4 d0 d1 d2 d3 d4 d5 r0 r1 r2 r3 r4 y0 y1 y2 y3 y4 y5 fd fr fy cb ca
         have B2 : Hid (Below w.heap.size w w2) := Lib.hid (below_step B1.out hb)
         have V2 := whole_b hb VV1.out
         have D2 := whole_b hb DD1.out
         have T2 := whole_b hb TT1.out
         have Y2 := whole_b hb YY1.out
         have z2 := hb.size
         have b0 : w.heap.size < w2.heap.size := by omega
         have b1 : w.heap.size + 1 < w2.heap.size := by omega
         have b2 : w.heap.size + 1 + 1 < w2.heap.size := by omega
         have b3 : w.heap.size + 1 + 1 + 1 < w2.heap.size := by omega
         obtain ⟨U1, p1, U2, p2, U3, p3, U4, p4, rfl⟩ := hostIn_form (hostSt_now hst)
         have HST := Lib.hid hst
         obtain ⟨c0, c1, c2, c3, c4⟩ := five_cells V2
         obtain ⟨d0, d1, d2, d3, d4, d5⟩ := six_cells D2
         obtain ⟨r0, r1, r2, r3, r4⟩ := five_cells T2
         obtain ⟨y0, y1, y2, y3, y4, y5⟩ := six_cells Y2
         have fd := whole_free D2
         have fr := whole_free T2
         have fy := whole_free Y2
         have DD2 := Lib.hid D2
         have TT2 := Lib.hid T2
         have YY2 := Lib.hid Y2
         clear hb hst V2 D2 T2 Y2))
    go_region
    all_goals
      go_wp2
      refine bodyPost_ret (v := .tuple #[.agg #[.slice (some ad) h.g.length l1, .slice E2 h.s.length l2, .slice E3 h.n.length l3, .int .i64 h.c, .slice E4 h.d.length l4], .agg #[.slice (some ad2) n k1, .slice A2 d.b.length k2, .slice A3 d.c.length k3, .int .i64 d.h, .int .i64 d.n, .string d.o], .int .i64 th]) (by simp [results, Try.results43, go_sem, *]) rfl ⟨_, _, rfl, hostIn_below HH.out ?_, datC_below HD.out ?_, ?_⟩
      all_goals repeat (first | with_reducible exact Below.refl _ _ | with_reducible exact B2.out | with_reducible refine Below.setCell ?_ (by simp <;> omega) _ | with_reducible refine below_alloc ?_ _ | with_reducible refine Below.drew ?_)
  · go_wp2_with (first
      | (go_at_call 88; refine (TKS.out _).mono ?_; rintro e w1 ⟨rfl, hb⟩
         have V1 := whole_b hb (whole_alloc (whole_alloc (whole_alloc (whole_new w _ _) _) _) _)
         have D1 := whole_b hb (whole_alloc (whole_alloc (whole_new1 w _ _ _) _) _)
         have T1 := whole_b hb (whole_alloc (whole_new2 w _ _ _ _) _)
         have Y1 := whole_b hb (whole_new3 w _ _ _ _ _)
         have B1 : Hid (Below w.heap.size w w1) := Lib.hid (below_step (below_alloc (below_alloc (below_alloc (below_alloc (Below.refl _ _) _) _) _) _) hb)
         have zy := whole_lt Y1
         obtain ⟨c0, c1, c2, c3, c4⟩ := five_cells V1
         obtain ⟨d0, d1, d2, d3, d4, d5⟩ := six_cells D1
         obtain ⟨r0, r1, r2, r3, r4⟩ := five_cells T1
         obtain ⟨y0, y1, y2, y3, y4, y5⟩ := six_cells Y1
         have fd := whole_free D1
         have fr := whole_free T1
         have fy := whole_free Y1
         have cb := cell_kept B1.out _ _ CB
         have ca := cell_kept B1.out _ _ CA
         have VV1 := Lib.hid V1
         have DD1 := Lib.hid D1
         have TT1 := Lib.hid T1
         have YY1 := Lib.hid Y1
         clear hb V1 D1 T1 Y1)
      | (go_at_call 89; refine (HDO.out _ _ (hostIn_below HH.out B1.out)).mono ?_; rintro e w2 ⟨u2, rfl, hst, hb⟩
         clear c0 c1 c2 c3 c4 d0 d1 d2 d3 d4 d5 r0 r1 r2 r3 r4 y0 y1 y2 y3 y4 y5 fd fr fy cb ca
         have B2 : Hid (Below w.heap.size w w2) := Lib.hid (below_step B1.out hb)
         have V2 := whole_b hb VV1.out
         have D2 := whole_b hb DD1.out
         have T2 := whole_b hb TT1.out
         have Y2 := whole_b hb YY1.out
         have z2 := hb.size
         have b0 : w.heap.size < w2.heap.size := by omega
         have b1 : w.heap.size + 1 < w2.heap.size := by omega
         have b2 : w.heap.size + 1 + 1 < w2.heap.size := by omega
         have b3 : w.heap.size + 1 + 1 + 1 < w2.heap.size := by omega
         obtain ⟨U1, p1, U2, p2, U3, p3, U4, p4, rfl⟩ := hostIn_form (hostSt_now hst)
         have HST := Lib.hid hst
         obtain ⟨c0, c1, c2, c3, c4⟩ := five_cells V2
         obtain ⟨d0, d1, d2, d3, d4, d5⟩ := six_cells D2
         obtain ⟨r0, r1, r2, r3, r4⟩ := five_cells T2
         obtain ⟨y0, y1, y2, y3, y4, y5⟩ := six_cells Y2
         have fd := whole_free D2
         have fr := whole_free T2
         have fy := whole_free Y2
         have DD2 := Lib.hid D2
         have TT2 := Lib.hid T2
         have YY2 := Lib.hid Y2
         clear hb hst V2 D2 T2 Y2))
    go_region
    all_goals
      go_wp2
      refine bodyPost_ret (v := .tuple #[.agg #[.slice (some ad) h.g.length l1, .slice E2 h.s.length l2, .slice E3 h.n.length l3, .int .i64 h.c, .slice E4 h.d.length l4], .agg #[.slice (some ad2) n k1, .slice A2 d.b.length k2, .slice A3 d.c.length k3, .int .i64 d.h, .int .i64 d.n, .string d.o], .int .i64 th]) (by simp [results, Try.results43, go_sem, *]) rfl ⟨_, _, rfl, hostIn_below HH.out ?_, datC_below HD.out ?_, ?_⟩
      all_goals repeat (first | with_reducible exact Below.refl _ _ | with_reducible exact B2.out | with_reducible refine Below.setCell ?_ (by simp <;> omega) _ | with_reducible refine below_alloc ?_ _ | with_reducible refine Below.drew ?_)

set_option maxRecDepth 100000 in
set_option maxHeartbeats 2000000 in
theorem sCall_F2 (vh vd : Value) (h : Ht) (d : Dt) (c : Nat) (q : Ht) (v th : Int) (w : World) (hh : HostIn w vh h) (hd : DatC w vd d) (hf : HtFine h) (df : DtFine d) (hc : c < 4) (hg : h.g.getD c false = true) (hq : ¬ h.d.length = 40) (hu1 : ¬ d.s.length < capTakes c) (ho : ¬ (c = 3 ∧ d.s.length = 32)) (hn0 : 2 ≤ d.s.length) (hdo : hDo h c (tp d 1) (tp d 0) = (q, v, th)) (hth : th = 0) (hc1 : c = 1) :
    Calls Try.prog 43 #[vh, vd, .int .i64 c] w (HMidOf w (q, (dPut d 2 []).1, 0)) := by
  have HH := Lib.hid hh
  have HD := Lib.hid hd
  obtain ⟨E1, l1, E2, l2, E3, l3, E4, l4, rfl⟩ := hostIn_form hh
  obtain ⟨A1, k1, A2, k2, A3, k3, rfl, _⟩ := datC_form hd
  have h4 := fineH_g hf
  have cl : c < h.g.length := by omega
  obtain ⟨ad, rfl, cg⟩ := bols_at (hostIn_firstRow hh) cl
  clear h4
  have HF := Lib.hid hf
  have DF := Lib.hid df
  have sl := fine_sl df
  obtain ⟨ad2, rfl, CB⟩ := datIn_top hd.1 (i := 0) (by omega)
  obtain ⟨ad3, e3, CA⟩ := datIn_top hd.1 (i := 1) (by omega)
  obtain rfl := Option.some.inj e3
  generalize tp d 1 = x1 at *
  generalize tp d 0 = x0 at *
  rw [show h.g[c] = true by rw [← hg]; simp [List.getD, cl]] at cg
  clear hg
  have u0 : ((h.d.length : Int) == 40) = false := by rw [beq_eq_false_iff_ne]; omega
  clear hq
  obtain ⟨n, hn⟩ : ∃ n, d.s.length = n := ⟨_, rfl⟩
  have HN := Lib.hid hn
  have n32 : n ≤ 32 := by omega
  rw [hn] at HD ⊢
  obtain ⟨tk, ht⟩ : ∃ tk, capTakes c = tk := ⟨_, rfl⟩
  have TKS : Hid (∀ W, Calls Try.prog 88 #[.int .i64 c] W fun e w' => e = .returned (.int .i64 (tk : Nat)) ∧ Below W.heap.size W w') := Lib.hid fun W => by rw [← ht]; exact sHTakes_any c W hc
  have u1 : ¬ n < tk := by omega
  have tk2 : tk ≤ 2 := by rw [← ht]; have : c = 0 ∨ c = 1 ∨ c = 2 ∨ c = 3 := by omega
                          rcases this with rfl | rfl | rfl | rfl <;> decide
  have HTK := Lib.hid ht
  obtain ⟨j0, hj0⟩ : ∃ j0, n = j0 + 1 := ⟨n - 1, by omega⟩
  have s0 : IntKind.i64.wrap ((n : Int) - 1) = (j0 : Int) := by rw [IntWalk.i64_in _ (by omega)]; omega
  have s0' : (j0 : Int) < n := by omega
  have p0 : (0 : Int) < n := by omega
  rw [show d.s.length - 1 - 0 = j0 by omega] at CB
  obtain ⟨j1, hj1⟩ : ∃ j1, n = j1 + 2 := ⟨n - 2, by omega⟩
  have s1 : IntKind.i64.wrap ((n : Int) - 2) = (j1 : Int) := by rw [IntWalk.i64_in _ (by omega)]; omega
  have s1' : (j1 : Int) < n := by omega
  have p1' : (1 : Int) < n := by omega
  rw [show d.s.length - 1 - 1 = j1 by omega] at CA
  have HDO : Hid (∀ W u, HostIn W u h → Calls Try.prog 89 #[u, .int .i64 c, .int .i64 x1, .int .i64 x0] W (HDoOf W (q, v, th))) := Lib.hid fun W u hu => by rw [← hdo]; exact sDo_any u h c x1 x0 W hu HF.out hc
  subst hth
  have u6 : ((c : Int) == 1) = true := by rw [beq_iff_eq]; omega
  have sq : d.s.length = n := by omega
  have PUT : Hid (∀ W u, DatC W u d → Calls Try.prog 90 #[u, .int .i64 2, .slice none 0 0] W (ReadC W u d (dPut d 2 []))) := Lib.hid fun W u hu => sPut_any u d 2 _ [] W hu (ints_nil W) (by omega) (by omega) (by simp)
  clear hn hu1 hn0 hdo ht sl hj0 hj1 sq hc1
  generalize dPut d 2 [] = pr at *
  obtain ⟨r, rt⟩ := pr
  have CG : ∀ o1 o2 o3 o4 : Obj, ((((w.alloc o1).alloc o2).alloc o3).alloc o4).cell? (ad.add c) = some (.bool true) := fun o1 o2 o3 o4 => cell_kept (below_alloc (below_alloc (below_alloc (below_alloc (Below.refl _ _) _) _) _) _) _ _ cg
  clear cg hh hd hf df
  have OO : (((c : Int) == 3) = true ∧ ((n : Int) == 32) = false) ∨ ((c : Int) == 3) = false := by
    by_cases q3 : c = 3
    · exact .inl ⟨by rw [beq_iff_eq]; omega, by rw [beq_eq_false_iff_ne]; intro q4; exact ho ⟨q3, by have := HN.out; omega⟩⟩
    · exact .inr (by rw [beq_eq_false_iff_ne]; omega)
  clear ho
  go_enter Try.func43, Try.ntmps43
  rcases OO with ⟨u3, u4⟩ | u3
  · go_wp2_with (first
      | (go_at_call 88; refine (TKS.out _).mono ?_; rintro e w1 ⟨rfl, hb⟩
         have V1 := whole_b hb (whole_alloc (whole_alloc (whole_alloc (whole_new w _ _) _) _) _)
         have D1 := whole_b hb (whole_alloc (whole_alloc (whole_new1 w _ _ _) _) _)
         have T1 := whole_b hb (whole_alloc (whole_new2 w _ _ _ _) _)
         have Y1 := whole_b hb (whole_new3 w _ _ _ _ _)
         have B1 : Hid (Below w.heap.size w w1) := Lib.hid (below_step (below_alloc (below_alloc (below_alloc (below_alloc (Below.refl _ _) _) _) _) _) hb)
         have zy := whole_lt Y1
         obtain ⟨c0, c1, c2, c3, c4⟩ := five_cells V1
         obtain ⟨d0, d1, d2, d3, d4, d5⟩ := six_cells D1
         obtain ⟨r0, r1, r2, r3, r4⟩ := five_cells T1
         obtain ⟨y0, y1, y2, y3, y4, y5⟩ := six_cells Y1
         have fd := whole_free D1
         have fr := whole_free T1
         have fy := whole_free Y1
         have cb := cell_kept B1.out _ _ CB
         have ca := cell_kept B1.out _ _ CA
         have VV1 := Lib.hid V1
         have DD1 := Lib.hid D1
         have TT1 := Lib.hid T1
         have YY1 := Lib.hid Y1
         clear hb V1 D1 T1 Y1)
      | (go_at_call 89; refine (HDO.out _ _ (hostIn_below HH.out B1.out)).mono ?_; rintro e w2 ⟨u2, rfl, hst, hb⟩
         clear c0 c1 c2 c3 c4 d0 d1 d2 d3 d4 d5 r0 r1 r2 r3 r4 y0 y1 y2 y3 y4 y5 fd fr fy cb ca
         have B2 : Hid (Below w.heap.size w w2) := Lib.hid (below_step B1.out hb)
         have V2 := whole_b hb VV1.out
         have D2 := whole_b hb DD1.out
         have T2 := whole_b hb TT1.out
         have Y2 := whole_b hb YY1.out
         have z2 := hb.size
         have b0 : w.heap.size < w2.heap.size := by omega
         have b1 : w.heap.size + 1 < w2.heap.size := by omega
         have b2 : w.heap.size + 1 + 1 < w2.heap.size := by omega
         have b3 : w.heap.size + 1 + 1 + 1 < w2.heap.size := by omega
         obtain ⟨U1, p1, U2, p2, U3, p3, U4, p4, rfl⟩ := hostIn_form (hostSt_now hst)
         have HST := Lib.hid hst
         obtain ⟨c0, c1, c2, c3, c4⟩ := five_cells V2
         obtain ⟨d0, d1, d2, d3, d4, d5⟩ := six_cells D2
         obtain ⟨r0, r1, r2, r3, r4⟩ := five_cells T2
         obtain ⟨y0, y1, y2, y3, y4, y5⟩ := six_cells Y2
         have fd := whole_free D2
         have fr := whole_free T2
         have fy := whole_free Y2
         have DD2 := Lib.hid D2
         have TT2 := Lib.hid T2
         have YY2 := Lib.hid Y2
         clear hb hst V2 D2 T2 Y2)
      | (go_at_call 90; refine (PUT.out _ _ (datC_below HD.out (below_alloc B2.out _))).mono ?_; rintro e w3 ⟨ux, rfl, hb3, hB3⟩
         clear c0 c1 c2 c3 c4 d0 d1 d2 d3 d4 d5 r0 r1 r2 r3 r4 y0 y1 y2 y3 y4 y5 fd fr fy
         have B3 : Hid (Below w.heap.size w w3) := Lib.hid (below_step (below_alloc B2.out _) hb3)
         have HST3 := Lib.hid (hostSt_below (hostSt_alloc HST.out _) hb3)
         have D3 := whole_b hb3 (whole_alloc DD2.out _)
         have T3 := whole_b hb3 (whole_alloc TT2.out _)
         have Y3 := whole_b hb3 (whole_alloc YY2.out _)
         have X3 := whole_b hb3 (whole_new w2 _ _)
         have z3 := whole_lt X3
         have hu3 := built_now hB3 (datC_below HD.out B3.out)
         simp only at hu3
         obtain ⟨R1, m1, R2, m2, R3, m3, rfl, _⟩ := datC_form hu3
         have HB3 := Lib.hid hB3
         obtain ⟨d0, d1, d2, d3, d4, d5⟩ := six_cells D3
         obtain ⟨r0, r1, r2, r3, r4⟩ := five_cells T3
         obtain ⟨y0, y1, y2, y3, y4, y5⟩ := six_cells Y3
         obtain ⟨x0_, x1_, x2_, x3_, x4_⟩ := five_cells X3
         have fd := whole_free D3
         have fr := whole_free T3
         have fy := whole_free Y3
         clear hb3 hB3 hu3 D3 T3 Y3 X3))
    go_region
    all_goals
      go_wp2
      refine bodyPost_ret (v := .tuple #[.agg #[.slice U1 q.g.length p1, .slice U2 q.s.length p2, .slice U3 q.n.length p3, .int .i64 q.c, .slice U4 q.d.length p4], .agg #[.slice R1 r.s.length m1, .slice R2 r.b.length m2, .slice R3 r.c.length m3, .int .i64 r.h, .int .i64 r.n, .string r.o], .int .i64 0]) (by simp [results, Try.results43, go_sem, *]) rfl ⟨_, _, rfl, ?_, HB3.out _ (datC_below HD.out ?_) ?_, ?_⟩
      · refine hostSt_now (lo := w1.heap.size) ?_
        have hq := HST3.out
        repeat (first | with_reducible exact hq | ((with_reducible refine hostSt_store ?_ ?hh); case hh => omega) | with_reducible refine hostSt_drew ?_)
      · repeat (first | with_reducible exact B3.out | with_reducible refine Below.setCell ?_ (by simp <;> omega) _ | with_reducible refine Below.drew ?_)
      · repeat (first | with_reducible exact agree_refl _ _ | ((with_reducible refine agree_old ?_ ?hh _); case hh => simp <;> omega) | with_reducible refine agree_drew ?_)
      · repeat (first | with_reducible exact B3.out | with_reducible refine Below.setCell ?_ (by simp <;> omega) _ | with_reducible refine Below.drew ?_)
  · go_wp2_with (first
      | (go_at_call 88; refine (TKS.out _).mono ?_; rintro e w1 ⟨rfl, hb⟩
         have V1 := whole_b hb (whole_alloc (whole_alloc (whole_alloc (whole_new w _ _) _) _) _)
         have D1 := whole_b hb (whole_alloc (whole_alloc (whole_new1 w _ _ _) _) _)
         have T1 := whole_b hb (whole_alloc (whole_new2 w _ _ _ _) _)
         have Y1 := whole_b hb (whole_new3 w _ _ _ _ _)
         have B1 : Hid (Below w.heap.size w w1) := Lib.hid (below_step (below_alloc (below_alloc (below_alloc (below_alloc (Below.refl _ _) _) _) _) _) hb)
         have zy := whole_lt Y1
         obtain ⟨c0, c1, c2, c3, c4⟩ := five_cells V1
         obtain ⟨d0, d1, d2, d3, d4, d5⟩ := six_cells D1
         obtain ⟨r0, r1, r2, r3, r4⟩ := five_cells T1
         obtain ⟨y0, y1, y2, y3, y4, y5⟩ := six_cells Y1
         have fd := whole_free D1
         have fr := whole_free T1
         have fy := whole_free Y1
         have cb := cell_kept B1.out _ _ CB
         have ca := cell_kept B1.out _ _ CA
         have VV1 := Lib.hid V1
         have DD1 := Lib.hid D1
         have TT1 := Lib.hid T1
         have YY1 := Lib.hid Y1
         clear hb V1 D1 T1 Y1)
      | (go_at_call 89; refine (HDO.out _ _ (hostIn_below HH.out B1.out)).mono ?_; rintro e w2 ⟨u2, rfl, hst, hb⟩
         clear c0 c1 c2 c3 c4 d0 d1 d2 d3 d4 d5 r0 r1 r2 r3 r4 y0 y1 y2 y3 y4 y5 fd fr fy cb ca
         have B2 : Hid (Below w.heap.size w w2) := Lib.hid (below_step B1.out hb)
         have V2 := whole_b hb VV1.out
         have D2 := whole_b hb DD1.out
         have T2 := whole_b hb TT1.out
         have Y2 := whole_b hb YY1.out
         have z2 := hb.size
         have b0 : w.heap.size < w2.heap.size := by omega
         have b1 : w.heap.size + 1 < w2.heap.size := by omega
         have b2 : w.heap.size + 1 + 1 < w2.heap.size := by omega
         have b3 : w.heap.size + 1 + 1 + 1 < w2.heap.size := by omega
         obtain ⟨U1, p1, U2, p2, U3, p3, U4, p4, rfl⟩ := hostIn_form (hostSt_now hst)
         have HST := Lib.hid hst
         obtain ⟨c0, c1, c2, c3, c4⟩ := five_cells V2
         obtain ⟨d0, d1, d2, d3, d4, d5⟩ := six_cells D2
         obtain ⟨r0, r1, r2, r3, r4⟩ := five_cells T2
         obtain ⟨y0, y1, y2, y3, y4, y5⟩ := six_cells Y2
         have fd := whole_free D2
         have fr := whole_free T2
         have fy := whole_free Y2
         have DD2 := Lib.hid D2
         have TT2 := Lib.hid T2
         have YY2 := Lib.hid Y2
         clear hb hst V2 D2 T2 Y2)
      | (go_at_call 90; refine (PUT.out _ _ (datC_below HD.out (below_alloc B2.out _))).mono ?_; rintro e w3 ⟨ux, rfl, hb3, hB3⟩
         clear c0 c1 c2 c3 c4 d0 d1 d2 d3 d4 d5 r0 r1 r2 r3 r4 y0 y1 y2 y3 y4 y5 fd fr fy
         have B3 : Hid (Below w.heap.size w w3) := Lib.hid (below_step (below_alloc B2.out _) hb3)
         have HST3 := Lib.hid (hostSt_below (hostSt_alloc HST.out _) hb3)
         have D3 := whole_b hb3 (whole_alloc DD2.out _)
         have T3 := whole_b hb3 (whole_alloc TT2.out _)
         have Y3 := whole_b hb3 (whole_alloc YY2.out _)
         have X3 := whole_b hb3 (whole_new w2 _ _)
         have z3 := whole_lt X3
         have hu3 := built_now hB3 (datC_below HD.out B3.out)
         simp only at hu3
         obtain ⟨R1, m1, R2, m2, R3, m3, rfl, _⟩ := datC_form hu3
         have HB3 := Lib.hid hB3
         obtain ⟨d0, d1, d2, d3, d4, d5⟩ := six_cells D3
         obtain ⟨r0, r1, r2, r3, r4⟩ := five_cells T3
         obtain ⟨y0, y1, y2, y3, y4, y5⟩ := six_cells Y3
         obtain ⟨x0_, x1_, x2_, x3_, x4_⟩ := five_cells X3
         have fd := whole_free D3
         have fr := whole_free T3
         have fy := whole_free Y3
         clear hb3 hB3 hu3 D3 T3 Y3 X3))
    go_region
    all_goals
      go_wp2
      refine bodyPost_ret (v := .tuple #[.agg #[.slice U1 q.g.length p1, .slice U2 q.s.length p2, .slice U3 q.n.length p3, .int .i64 q.c, .slice U4 q.d.length p4], .agg #[.slice R1 r.s.length m1, .slice R2 r.b.length m2, .slice R3 r.c.length m3, .int .i64 r.h, .int .i64 r.n, .string r.o], .int .i64 0]) (by simp [results, Try.results43, go_sem, *]) rfl ⟨_, _, rfl, ?_, HB3.out _ (datC_below HD.out ?_) ?_, ?_⟩
      · refine hostSt_now (lo := w1.heap.size) ?_
        have hq := HST3.out
        repeat (first | with_reducible exact hq | ((with_reducible refine hostSt_store ?_ ?hh); case hh => omega) | with_reducible refine hostSt_drew ?_)
      · repeat (first | with_reducible exact B3.out | with_reducible refine Below.setCell ?_ (by simp <;> omega) _ | with_reducible refine Below.drew ?_)
      · repeat (first | with_reducible exact agree_refl _ _ | ((with_reducible refine agree_old ?_ ?hh _); case hh => simp <;> omega) | with_reducible refine agree_drew ?_)
      · repeat (first | with_reducible exact B3.out | with_reducible refine Below.setCell ?_ (by simp <;> omega) _ | with_reducible refine Below.drew ?_)

end Go.Proofs.Ytjlfbmplmddceaa
