/- A granted call, the given side. -/
import Derived.Test.YtkcogfgjabemfaaHsJ
import Derived.Test.YtkcogfgjabemfaaHsF
import Derived.RegionTactic
namespace Go.Proofs.Ytkcogfgjabemfaa
open Go.RowKit
set_option linter.unusedVariables false
set_option linter.unusedSimpArgs false

/-- What a granted call comes to, of what lies on the stack: a below b. The host, the cell, the throw. -/
def hDo (h : Ht) (c : Nat) (a b : Int) : Ht × Int × Int :=
  if c = 0 then (if inB b 0 7 then ({ h with d := h.d ++ [⟨0, b, 0, h.s.getD b.toNat 0⟩] }, h.s.getD b.toNat 0, 0) else (h, 0, -9))
  else if c = 1 then (if inB b 0 7 then ({ h with s := h.s.set b.toNat a, d := h.d ++ [⟨1, b, a, 0⟩] }, 0, 0) else (h, 0, -9))
  else if c = 2 then ({ h with n := h.n.tail, d := h.d ++ [⟨2, b, 0, h.n.headD 0⟩] }, h.n.headD 0, 0)
  else ({ h with d := h.d ++ [⟨3, 0, 0, h.c⟩] }, h.c, 0)

/-- The value reads as this host wherever the blocks from lo on are as here. -/
def HostSt (w : World) (lo : Nat) (v : Value) (h : Ht) : Prop := ∀ W' : World, (∀ g, lo ≤ g → g < w.heap.size → W'.heap[g]? = w.heap[g]?) → HostIn W' v h

theorem hostSt_of {w : World} {lo' lo hi : Nat} {v : Value} {h : Ht} (hl : lo' ≤ lo) (H : HostOf w lo hi v h) : HostSt w lo' v h := fun W' hW => hostOf_in (hostOf_keep H fun g hg h1 _ => hW g (by omega) hg)

theorem hostSt_now {w : World} {lo : Nat} {v : Value} {h : Ht} (H : HostSt w lo v h) : HostIn w v h := H w fun _ _ _ => rfl

/-- A host that reads, and two numbers. -/
def HDoOf (w : World) (r : Ht × Int × Int) (e : Ending) (w' : World) : Prop := ∃ u, e = .returned (.tuple #[u, .int .i64 r.2.1, .int .i64 r.2.2]) ∧ HostSt w' w.heap.size u r.1 ∧ Below w.heap.size w w'

theorem whole_at {w : World} {g : Nat} {t : TypeId} {cs : Array Value} (hg : g = w.heap.size) : Whole (w.alloc (.cells cs t)) g t cs := by
  subst hg
  exact whole_new w t cs

theorem four_cells {w : World} {g : Nat} {t : TypeId} {a b c d : Value} (h : Whole w g t #[a, b, c, d]) :
    w.cell? ⟨g, 0, none⟩ = some a ∧ w.cell? ⟨g, 1, none⟩ = some b ∧ w.cell? ⟨g, 2, none⟩ = some c ∧ w.cell? ⟨g, 3, none⟩ = some d :=
  ⟨whole_cell h 0, whole_cell h 1, whole_cell h 2, whole_cell h 3⟩

theorem dds_oneAt (w : World) (x : Dd) {g : Nat} (hg : g = w.heap.size) : Dds (w.alloc (.cells #[.int .i64 x.p, .int .i64 x.a, .int .i64 x.b, .int .i64 x.r] 37)) (.slice (some ⟨g, 0, none⟩) 1 1) [x] := by
  obtain ⟨c0, c1, c2, c3⟩ := four_cells (whole_at (t := 37) (cs := #[.int .i64 x.p, .int .i64 x.a, .int .i64 x.b, .int .i64 x.r]) hg)
  refine ⟨by unfold maxLen; simp, some ⟨g, 0, none⟩, 1, rfl, fun _ => ⟨_, rfl, fun k hk => ?_⟩⟩
  have hk0 : k = 0 := by simp at hk; omega
  subst hk0
  rw [show (⟨g, 0, none⟩ : Addr).add (0 * 4) = ⟨g, 0, none⟩ by rw [Addr.add_lit]]
  exact ⟨c0, c1, c2, c3⟩

theorem hostOf_secondRow {w : World} {lo hi : Nat} {x y z q : Value} {h : Ht} {c : Int} (H : HostOf w lo hi (.agg #[x, y, z, .int .i64 c, q]) h) : Row w lo y h.s := by
  obtain ⟨x', y', z', q', e, h1, h2, h3, h4, _⟩ := H
  simp only [Value.agg.injEq, Array.mk.injEq, List.cons.injEq, and_true, true_and] at e
  obtain ⟨rfl, rfl, rfl, _, rfl⟩ := e
  exact h2

theorem hostOf_deedRow {w : World} {lo hi : Nat} {x y z q : Value} {h : Ht} {c : Int} (H : HostOf w lo hi (.agg #[x, y, z, .int .i64 c, q]) h) : DRow w lo q h.d := by
  obtain ⟨x', y', z', q', e, h1, h2, h3, h4, _⟩ := H
  simp only [Value.agg.injEq, Array.mk.injEq, List.cons.injEq, and_true, true_and] at e
  obtain ⟨rfl, rfl, rfl, _, rfl⟩ := e
  exact h4

/-- A cell of a host's store written. -/
theorem hostOf_put {w : World} {lo hi g m k : Nat} {x z q : Value} {h : Ht} (n : Int) (H : HostOf w lo hi (.agg #[x, .slice (some ⟨g, 0, none⟩) h.s.length m, z, .int .i64 h.c, q]) h) :
    HostOf (w.setCell ⟨g, k, none⟩ (.int .i64 n)) lo hi (.agg #[x, .slice (some ⟨g, 0, none⟩) h.s.length m, z, .int .i64 h.c, q]) { h with s := h.s.set k n } := by
  obtain ⟨x', y', z', q', e, h1, h2, h3, h4, p1, p2, p3, p4, p5, p6, hh⟩ := H
  simp only [Value.agg.injEq, Array.mk.injEq, List.cons.injEq, and_true, true_and] at e
  obtain ⟨rfl, rfl, rfl, rfl⟩ := e
  exact ⟨_, _, _, _, rfl, borow_far h1 (parted_ne (parted_sym p1)), (row_set h2 k n).1, row_far h3 (parted_ne p4), drow_far h4 (parted_ne p5), p1, p2, p3, p4, p5, p6, hh⟩

/-- A host's deeds turned in a row of their own. -/
theorem hostOf_deeds {w w' : World} {lo hi : Nat} {x y z q q' : Value} {h : Ht} {N : List Dd} (H : HostOf w lo hi (.agg #[x, y, z, .int .i64 h.c, q]) h) (hg : w.grownBy w' q.ownBlock) (hr : DRow w' lo q' N)
    (ho : ∀ g, q'.ownBlock = some g → q.ownBlock = some g ∨ hi ≤ g) (hi' : hi ≤ w'.heap.size) : HostOf w' lo w'.heap.size (.agg #[x, y, z, .int .i64 h.c, q']) { h with d := N } := by
  obtain ⟨x', y', z0, q0, e, h1, h2, h3, h4, p1, p2, p3, p4, p5, p6, hh⟩ := H
  simp only [Value.agg.injEq, Array.mk.injEq, List.cons.injEq, and_true, true_and] at e
  obtain ⟨rfl, rfl, rfl, rfl⟩ := e
  have pt : ∀ a : Value, Parted a q → (∀ g, a.ownBlock = some g → g < hi) → Parted a q' := fun a p l g ha hz => by
    rcases ho g hz with h | h
    · exact p g ha h
    · have := l g ha; omega
  refine ⟨_, _, _, _, rfl, borow_mark h1 hg p3, row_mark h2 hg p5, row_mark h3 hg p6, hr, p1, p2, pt _ p3 (fun g hg => hh g (.inl hg)), p4, pt _ p5 (fun g hg => hh g (.inr (.inl hg))), pt _ p6 (fun g hg => hh g (.inr (.inr (.inl hg)))), fun g hg => ?_⟩
  rcases hg with hg | hg | hg | hg
  · exact Nat.lt_of_lt_of_le (hh g (.inl hg)) hi'
  · exact Nat.lt_of_lt_of_le (hh g (.inr (.inl hg))) hi'
  · exact Nat.lt_of_lt_of_le (hh g (.inr (.inr (.inl hg)))) hi'
  · exact (drow_lt hr g hg).2

theorem ints_tail {w : World} {ad : Addr} {n m : Nat} {a : Int} {zs : List Int} (hs : n = zs.length) (h : Ints w (.slice (some ad) (a :: zs).length m) (a :: zs)) {p : Nat} : Ints w (.slice (some (ad.add 1)) n p) zs := by
  subst hs
  obtain ⟨hl, A, cap, e, hc⟩ := h
  simp only [Value.slice.injEq, true_and] at e
  obtain ⟨rfl, rfl⟩ := e
  refine ⟨by simp at hl; omega, _, _, rfl, fun hp => ⟨_, rfl, fun k hk => ?_⟩⟩
  obtain ⟨ad', e, hc⟩ := hc (by simp)
  obtain rfl := Option.some.inj e
  have := hc (k + 1) (by simp <;> omega)
  rw [show (ad.add 1).add k = ad.add (k + 1) by rw [Addr.add_add]; congr 1; omega]
  simpa using this

theorem hostIn_third {w : World} {x y z q : Value} {h : Ht} {N : List Int} {z' : Value} (H : HostIn w (.agg #[x, y, z, .int .i64 h.c, q]) h) (hz : Ints w z' N) : HostIn w (.agg #[x, y, z', .int .i64 h.c, q]) { h with n := N } := by
  obtain ⟨x', y', z0, q0, e, h1, h2, h3, h4⟩ := H
  simp only [Value.agg.injEq, Array.mk.injEq, List.cons.injEq, and_true, true_and] at e
  obtain ⟨rfl, rfl, rfl, rfl⟩ := e
  exact ⟨_, _, _, _, rfl, h1, h2, hz, h4⟩

theorem hostOf_thirdInts {w : World} {lo hi : Nat} {x y z q : Value} {h : Ht} {c : Int} (H : HostOf w lo hi (.agg #[x, y, z, .int .i64 c, q]) h) : Ints w z h.n := row_ints (hostOf_thirdRow H)

theorem hostOf_drew {w : World} {lo hi : Nat} {v : Value} {h : Ht} (H : HostOf w lo hi v h) : HostOf w.drew lo hi v h := H

set_option maxRecDepth 100000 in
set_option maxHeartbeats 1000000 in
theorem sDo_0x (v : Value) (h : Ht) (a b : Int) (w : World) (hv : HostIn w v h) (hf : HtFine h) (hb : inB b 0 7 = false) :
    Calls Try.prog 110 #[v, .int .i64 0, .int .i64 a, .int .i64 b] w (HDoOf w (h, 0, -9)) := by
  have HH := Lib.hid hv
  obtain ⟨A1, k1, A2, k2, A3, k3, A4, k4, rfl⟩ := hostIn_form hv
  clear hv
  have HS := Lib.hid (fineH_small hf)
  have HD := Lib.hid (fineH_d hf)
  have HS8 := Lib.hid (fineH_s hf)
  clear hf
  go_enter Try.func110, Try.ntmps110
  go_wp2_with fail
  refine (sHOwn_any _ h _ (hostIn_below HH.out (below_alloc (below_alloc (below_alloc (Below.refl _ _) _) _) _)) HS.out).mono ?_
  rintro e w1 ⟨u, rfl, hu, hb⟩
  have B1 : Below w.heap.size w w1 := below_step (below_alloc (below_alloc (below_alloc (Below.refl _ _) _) _) _) hb
  have V1 := whole_b hb (whole_alloc (whole_alloc (whole_new w _ _) _) _)
  have T1 := whole_b hb (whole_alloc (whole_new1 w _ _ _) _)
  have X1 := whole_b hb (whole_new2 w _ _ _ _)
  have HU : HostOf w1 (w.heap.size + 1 + 1 + 1) w1.heap.size u h := by simpa using hu
  have zx := whole_lt X1
  clear hb hu
  obtain ⟨M1, m1, M2, m2, M3, m3, M4, m4, rfl⟩ := hostIn_form (hostOf_in HU)
  have HU2 := Lib.hid HU
  have z1 : w.heap.size + 1 + 1 + 1 ≤ w1.heap.size := by omega
  clear HU
  obtain ⟨c0, c1, c2, c3, c4⟩ := five_cells V1
  obtain ⟨x0, x1, x2, x3⟩ := four_cells X1
  obtain ⟨r0, r1, r2, r3, r4⟩ := five_cells T1
  have fv := whole_free V1
  have fx := whole_free X1
  have fr := whole_free T1
  go_wp2_with (go_at_call 58; refine (sIn_any _ _ _ _).mono ?_; rintro e w' ⟨rfl, rfl⟩)
  refine bodyPost_ret (v := .tuple #[.agg #[.slice M1 h.g.length m1, .slice M2 h.s.length m2, .slice M3 h.n.length m3, .int .i64 h.c, .slice M4 h.d.length m4], .int .i64 0, .int .i64 (-9)]) (by simp [results, Try.results110, go_sem, *]) rfl ⟨_, rfl, hostSt_of (lo := w.heap.size + 1 + 1 + 1) (hi := w1.heap.size) (by omega) ?_, ?_⟩
  · show HostOf _ _ _ _ h
    repeat (first | with_reducible exact HU2.out | ((with_reducible refine hostOf_store ?_ ?hh); case hh => omega))
  · repeat (first | with_reducible exact B1 | with_reducible refine Below.setCell ?_ (by simp; try omega) _)

set_option maxRecDepth 100000 in
set_option maxHeartbeats 1000000 in
theorem sDo_1x (v : Value) (h : Ht) (a b : Int) (w : World) (hv : HostIn w v h) (hf : HtFine h) (hb : inB b 0 7 = false) :
    Calls Try.prog 110 #[v, .int .i64 1, .int .i64 a, .int .i64 b] w (HDoOf w (h, 0, -9)) := by
  have HH := Lib.hid hv
  obtain ⟨A1, k1, A2, k2, A3, k3, A4, k4, rfl⟩ := hostIn_form hv
  clear hv
  have HS := Lib.hid (fineH_small hf)
  have HD := Lib.hid (fineH_d hf)
  have HS8 := Lib.hid (fineH_s hf)
  clear hf
  go_enter Try.func110, Try.ntmps110
  go_wp2_with fail
  refine (sHOwn_any _ h _ (hostIn_below HH.out (below_alloc (below_alloc (below_alloc (Below.refl _ _) _) _) _)) HS.out).mono ?_
  rintro e w1 ⟨u, rfl, hu, hb⟩
  have B1 : Below w.heap.size w w1 := below_step (below_alloc (below_alloc (below_alloc (Below.refl _ _) _) _) _) hb
  have V1 := whole_b hb (whole_alloc (whole_alloc (whole_new w _ _) _) _)
  have T1 := whole_b hb (whole_alloc (whole_new1 w _ _ _) _)
  have X1 := whole_b hb (whole_new2 w _ _ _ _)
  have HU : HostOf w1 (w.heap.size + 1 + 1 + 1) w1.heap.size u h := by simpa using hu
  have zx := whole_lt X1
  clear hb hu
  obtain ⟨M1, m1, M2, m2, M3, m3, M4, m4, rfl⟩ := hostIn_form (hostOf_in HU)
  have HU2 := Lib.hid HU
  have z1 : w.heap.size + 1 + 1 + 1 ≤ w1.heap.size := by omega
  clear HU
  obtain ⟨c0, c1, c2, c3, c4⟩ := five_cells V1
  obtain ⟨x0, x1, x2, x3⟩ := four_cells X1
  obtain ⟨r0, r1, r2, r3, r4⟩ := five_cells T1
  have fv := whole_free V1
  have fx := whole_free X1
  have fr := whole_free T1
  go_wp2_with (go_at_call 58; refine (sIn_any _ _ _ _).mono ?_; rintro e w' ⟨rfl, rfl⟩)
  refine bodyPost_ret (v := .tuple #[.agg #[.slice M1 h.g.length m1, .slice M2 h.s.length m2, .slice M3 h.n.length m3, .int .i64 h.c, .slice M4 h.d.length m4], .int .i64 0, .int .i64 (-9)]) (by simp [results, Try.results110, go_sem, *]) rfl ⟨_, rfl, hostSt_of (lo := w.heap.size + 1 + 1 + 1) (hi := w1.heap.size) (by omega) ?_, ?_⟩
  · show HostOf _ _ _ _ h
    repeat (first | with_reducible exact HU2.out | ((with_reducible refine hostOf_store ?_ ?hh); case hh => omega))
  · repeat (first | with_reducible exact B1 | with_reducible refine Below.setCell ?_ (by simp; try omega) _)

set_option maxRecDepth 100000 in
set_option maxHeartbeats 1000000 in
theorem sDo_0 (v : Value) (h : Ht) (a : Int) (j : Nat) (w : World) (hv : HostIn w v h) (hf : HtFine h) (hj : j < 8) :
    Calls Try.prog 110 #[v, .int .i64 0, .int .i64 a, .int .i64 j] w (HDoOf w ({ h with d := h.d ++ [⟨0, (j : Int), 0, h.s.getD j 0⟩] }, h.s.getD j 0, 0)) := by
  have HH := Lib.hid hv
  obtain ⟨A1, k1, A2, k2, A3, k3, A4, k4, rfl⟩ := hostIn_form hv
  clear hv
  have HS := Lib.hid (fineH_small hf)
  have HD := Lib.hid (fineH_d hf)
  have HS8 := Lib.hid (fineH_s hf)
  have hj' : j < h.s.length := by have := HS8.out; omega
  have t0 : inB (j : Int) 0 7 = true := inB_of (by omega) (by omega)
  rw [show h.s.getD j 0 = h.s[j] by simp [List.getD, hj']]
  clear hf
  go_enter Try.func110, Try.ntmps110
  go_wp2_with fail
  refine (sHOwn_any _ h _ (hostIn_below HH.out (below_alloc (below_alloc (below_alloc (Below.refl _ _) _) _) _)) HS.out).mono ?_
  rintro e w1 ⟨u, rfl, hu, hb⟩
  have B1 : Below w.heap.size w w1 := below_step (below_alloc (below_alloc (below_alloc (Below.refl _ _) _) _) _) hb
  have V1 := whole_b hb (whole_alloc (whole_alloc (whole_new w _ _) _) _)
  have T1 := whole_b hb (whole_alloc (whole_new1 w _ _ _) _)
  have X1 := whole_b hb (whole_new2 w _ _ _ _)
  have HU : HostOf w1 (w.heap.size + 1 + 1 + 1) w1.heap.size u h := by simpa using hu
  have zx := whole_lt X1
  clear hb hu
  obtain ⟨M1, m1, M2, m2, M3, m3, M4, m4, rfl⟩ := hostIn_form (hostOf_in HU)
  obtain ⟨g, m2', hM, hg1, hg2, _⟩ := row_form (hostOf_secondRow HU) (by have := HS8.out; omega)
  simp only [Value.slice.injEq, true_and] at hM
  obtain ⟨rfl, rfl⟩ := hM
  have ko := row_cell (hostOf_secondRow HU) j hj'
  have kf := row_free (hostOf_secondRow HU) j
  have ne0 : g ≠ w.heap.size := by omega
  have ne1 : g ≠ w.heap.size + 1 := by omega
  have ne2 : g ≠ w.heap.size + 1 + 1 := by omega
  have ne3 : w.heap.size ≠ g := by omega
  have ne4 : w.heap.size + 1 ≠ g := by omega
  have ne5 : w.heap.size + 1 + 1 ≠ g := by omega
  have H3 : HostOf (World.setCell (World.setCell (set5 w1 w.heap.size (.slice M1 h.g.length m1) (.slice (some ⟨g, 0, none⟩) h.s.length m2) (.slice M3 h.n.length m3) (.int .i64 h.c) (.slice M4 h.d.length m4)) ⟨w.heap.size + 1 + 1, 1, none⟩ (.int .i64 j)) ⟨w.heap.size + 1 + 1, 3, none⟩ (.int .i64 h.s[j])) (w.heap.size + 1 + 1 + 1) w1.heap.size (.agg #[.slice M1 h.g.length m1, .slice (some ⟨g, 0, none⟩) h.s.length m2, .slice M3 h.n.length m3, .int .i64 h.c, .slice M4 h.d.length m4]) h := (hostOf_store (i := 3) (u := (.int .i64 h.s[j])) (hostOf_store (i := 1) (u := (.int .i64 j)) (hostOf_set5 (k := w.heap.size) HU (by omega) (.slice M1 h.g.length m1) (.slice (some ⟨g, 0, none⟩) h.s.length m2) (.slice M3 h.n.length m3) (.int .i64 h.c) (.slice M4 h.d.length m4)) (g := w.heap.size + 1 + 1) (by omega)) (g := w.heap.size + 1 + 1) (by omega))
  have V3 := Lib.hid (whole_far (whole_far (whole_set5 V1 (.slice M1 h.g.length m1) (.slice (some ⟨g, 0, none⟩) h.s.length m2) (.slice M3 h.n.length m3) (.int .i64 h.c) (.slice M4 h.d.length m4)) (p := ⟨w.heap.size + 1 + 1, 1, none⟩) (by simp <;> omega) (.int .i64 j)) (p := ⟨w.heap.size + 1 + 1, 3, none⟩) (by simp <;> omega) (.int .i64 h.s[j]))
  have X3 := Lib.hid (whole_set (whole_set (whole_far5 X1 (k := w.heap.size) (by omega) (.slice M1 h.g.length m1) (.slice (some ⟨g, 0, none⟩) h.s.length m2) (.slice M3 h.n.length m3) (.int .i64 h.c) (.slice M4 h.d.length m4)) 1 (.int .i64 j)) 3 (.int .i64 h.s[j]))
  have T3 := Lib.hid (whole_far (whole_far (whole_far5 T1 (k := w.heap.size) (by omega) (.slice M1 h.g.length m1) (.slice (some ⟨g, 0, none⟩) h.s.length m2) (.slice M3 h.n.length m3) (.int .i64 h.c) (.slice M4 h.d.length m4)) (p := ⟨w.heap.size + 1 + 1, 1, none⟩) (by simp <;> omega) (.int .i64 j)) (p := ⟨w.heap.size + 1 + 1, 3, none⟩) (by simp <;> omega) (.int .i64 h.s[j]))
  have B3 := Lib.hid (Below.setCell (Below.setCell (below_set5 B1 (k := w.heap.size) (Nat.le_refl _) (.slice M1 h.g.length m1) (.slice (some ⟨g, 0, none⟩) h.s.length m2) (.slice M3 h.n.length m3) (.int .i64 h.c) (.slice M4 h.d.length m4)) (p := ⟨w.heap.size + 1 + 1, 1, none⟩) (by simp <;> omega) (.int .i64 j)) (p := ⟨w.heap.size + 1 + 1, 3, none⟩) (by simp <;> omega) (.int .i64 h.s[j]))
  have zs : Hid ((World.heap (World.setCell (World.setCell (set5 w1 w.heap.size (.slice M1 h.g.length m1) (.slice (some ⟨g, 0, none⟩) h.s.length m2) (.slice M3 h.n.length m3) (.int .i64 h.c) (.slice M4 h.d.length m4)) ⟨w.heap.size + 1 + 1, 1, none⟩ (.int .i64 j)) ⟨w.heap.size + 1 + 1, 3, none⟩ (.int .i64 h.s[j]))).size = w1.heap.size) := Lib.hid (by simp [set5_size])
  have H3' := Lib.hid H3
  have RN := Lib.hid (hostOf_deedRow H3)
  clear H3 HU
  have z1 : w.heap.size + 1 + 1 + 1 ≤ w1.heap.size := by omega
  obtain ⟨c0, c1, c2, c3, c4⟩ := five_cells V1
  obtain ⟨x0, x1, x2, x3⟩ := four_cells X1
  obtain ⟨r0, r1, r2, r3, r4⟩ := five_cells T1
  have fv := whole_free V1
  have fx := whole_free X1
  have fr := whole_free T1
  go_wp2_with (first
    | (go_at_call 58; refine (sIn_any _ _ _ _).mono ?_; rintro e w' ⟨rfl, rfl⟩)
    | (at_builtin; refine wpList_append_deeds rfl (.tmp 67) (.tmp 69) rfl rfl (w.heap.size + 1 + 1 + 1) (.slice M4 h.d.length m4) h.d (drow_alloc RN.out _) (.slice (some ⟨w1.heap.size, 0, none⟩) 1 1) [(⟨0, (j : Int), 0, h.s[j]⟩ : Dd)] (dds_oneAt _ (⟨0, (j : Int), 0, h.s[j]⟩ : Dd) zs.out.symm) rfl rfl (by have := HD.out; simp; omega) (by have := zs.out; simp [set5_size]; omega) ?_
       clear c0 c1 c2 c3 c4 x0 x1 x2 x3 r0 r1 r2 r3 r4 fv fx fr
       intro v2 w4 hr hg hat
       have H4 := Lib.hid (hostOf_deeds (h := h) (hostOf_alloc H3'.out _) hg hr (fun g e => by
         rcases hat with hat | hat
         · exact .inl (by rw [← hat]; exact e)
         · rw [hat] at e; injection e with e; right; subst e; have := zs.out; simp [set5_size]) (by have := hg.size; simp [set5_size] at this; omega))
       obtain ⟨_, C4, j4, rfl, _⟩ := drow_dds hr
       have nb : ∀ k, k < w.heap.size + 1 + 1 + 1 → some k ≠ (Value.slice M4 h.d.length m4).ownBlock := fun k hk e => by have := (drow_lt RN.out _ e.symm).1; omega
       have V4 := whole_keep (whole_alloc V3.out _) (hg.block _ (by simp [set5_size]; omega) (nb _ (by omega)))
       have X4 := whole_keep (whole_alloc X3.out _) (hg.block _ (by simp [set5_size]; omega) (nb _ (by omega)))
       have T4 := whole_keep (whole_alloc T3.out _) (hg.block _ (by simp [set5_size]; omega) (nb _ (by omega)))
       have B4 : Below w.heap.size w w4 := (below_alloc B3.out _).grown hg (by simp [set5_size]; omega) (fun k hk => by have := (drow_lt RN.out k hk).1; omega)
       obtain ⟨c0, c1, c2, c3, c4⟩ := five_cells V4
       obtain ⟨x0, x1, x2, x3⟩ := four_cells X4
       obtain ⟨r0, r1, r2, r3, r4⟩ := five_cells T4
       have fv := whole_free V4
       have fx := whole_free X4
       have fr := whole_free T4
       have z4 := whole_lt X4
       clear hr hg hat))
  go_region
  all_goals
    go_wp2
    refine bodyPost_ret (v := .tuple #[.agg #[.slice M1 h.g.length m1, .slice (some ⟨g, 0, none⟩) h.s.length m2, .slice M3 h.n.length m3, .int .i64 h.c, .slice C4 (h.d ++ [(⟨0, (j : Int), 0, h.s[j]⟩ : Dd)]).length j4], .int .i64 h.s[j], .int .i64 0]) (by simp [results, Try.results110, go_sem, *]) rfl ⟨_, rfl, ?_, ?_⟩
    · show HostSt _ _ _ { h with d := h.d ++ [(⟨0, (j : Int), 0, h.s[j]⟩ : Dd)] }
      refine hostSt_of (lo := w.heap.size + 1 + 1 + 1) (hi := w4.heap.size) (by omega) ?_
      repeat (first | with_reducible exact H4.out | ((with_reducible refine hostOf_store ?_ ?hh); case hh => omega) | with_reducible refine hostOf_drew ?_)
    · repeat (first | with_reducible exact B4 | with_reducible refine Below.setCell ?_ (by simp; try omega) _ | with_reducible refine Below.drew ?_)

set_option maxRecDepth 100000 in
set_option maxHeartbeats 1000000 in
theorem sDo_1 (v : Value) (h : Ht) (a : Int) (j : Nat) (w : World) (hv : HostIn w v h) (hf : HtFine h) (hj : j < 8) :
    Calls Try.prog 110 #[v, .int .i64 1, .int .i64 a, .int .i64 j] w (HDoOf w ({ h with s := h.s.set j a, d := h.d ++ [⟨1, (j : Int), a, 0⟩] }, 0, 0)) := by
  have HH := Lib.hid hv
  obtain ⟨A1, k1, A2, k2, A3, k3, A4, k4, rfl⟩ := hostIn_form hv
  clear hv
  have HS := Lib.hid (fineH_small hf)
  have HD := Lib.hid (fineH_d hf)
  have HS8 := Lib.hid (fineH_s hf)
  have hj' : j < h.s.length := by have := HS8.out; omega
  have t0 : inB (j : Int) 0 7 = true := inB_of (by omega) (by omega)
  clear hf
  go_enter Try.func110, Try.ntmps110
  go_wp2_with fail
  refine (sHOwn_any _ h _ (hostIn_below HH.out (below_alloc (below_alloc (below_alloc (Below.refl _ _) _) _) _)) HS.out).mono ?_
  rintro e w1 ⟨u, rfl, hu, hb⟩
  have B1 : Below w.heap.size w w1 := below_step (below_alloc (below_alloc (below_alloc (Below.refl _ _) _) _) _) hb
  have V1 := whole_b hb (whole_alloc (whole_alloc (whole_new w _ _) _) _)
  have T1 := whole_b hb (whole_alloc (whole_new1 w _ _ _) _)
  have X1 := whole_b hb (whole_new2 w _ _ _ _)
  have HU : HostOf w1 (w.heap.size + 1 + 1 + 1) w1.heap.size u h := by simpa using hu
  have zx := whole_lt X1
  clear hb hu
  obtain ⟨M1, m1, M2, m2, M3, m3, M4, m4, rfl⟩ := hostIn_form (hostOf_in HU)
  obtain ⟨g, m2', hM, hg1, hg2, _⟩ := row_form (hostOf_secondRow HU) (by have := HS8.out; omega)
  simp only [Value.slice.injEq, true_and] at hM
  obtain ⟨rfl, rfl⟩ := hM
  have ko := row_cell (hostOf_secondRow HU) j hj'
  have kf := row_free (hostOf_secondRow HU) j
  have ne0 : g ≠ w.heap.size := by omega
  have ne1 : g ≠ w.heap.size + 1 := by omega
  have ne2 : g ≠ w.heap.size + 1 + 1 := by omega
  have ne3 : w.heap.size ≠ g := by omega
  have ne4 : w.heap.size + 1 ≠ g := by omega
  have ne5 : w.heap.size + 1 + 1 ≠ g := by omega
  have H3 : HostOf (World.setCell (World.setCell (World.setCell (set5 w1 w.heap.size (.slice M1 h.g.length m1) (.slice (some ⟨g, 0, none⟩) h.s.length m2) (.slice M3 h.n.length m3) (.int .i64 h.c) (.slice M4 h.d.length m4)) ⟨w.heap.size + 1 + 1, 1, none⟩ (.int .i64 j)) ⟨w.heap.size + 1 + 1, 2, none⟩ (.int .i64 a)) ⟨g, j, none⟩ (.int .i64 a)) (w.heap.size + 1 + 1 + 1) w1.heap.size (.agg #[.slice M1 h.g.length m1, .slice (some ⟨g, 0, none⟩) h.s.length m2, .slice M3 h.n.length m3, .int .i64 h.c, .slice M4 h.d.length m4]) { h with s := h.s.set j a } := (hostOf_put (k := j) a (hostOf_store (i := 2) (u := (.int .i64 a)) (hostOf_store (i := 1) (u := (.int .i64 j)) (hostOf_set5 (k := w.heap.size) HU (by omega) (.slice M1 h.g.length m1) (.slice (some ⟨g, 0, none⟩) h.s.length m2) (.slice M3 h.n.length m3) (.int .i64 h.c) (.slice M4 h.d.length m4)) (g := w.heap.size + 1 + 1) (by omega)) (g := w.heap.size + 1 + 1) (by omega)))
  have V3 := Lib.hid (whole_far (whole_far (whole_far (whole_set5 V1 (.slice M1 h.g.length m1) (.slice (some ⟨g, 0, none⟩) h.s.length m2) (.slice M3 h.n.length m3) (.int .i64 h.c) (.slice M4 h.d.length m4)) (p := ⟨w.heap.size + 1 + 1, 1, none⟩) (by simp <;> omega) (.int .i64 j)) (p := ⟨w.heap.size + 1 + 1, 2, none⟩) (by simp <;> omega) (.int .i64 a)) (p := ⟨g, j, none⟩) (by simp <;> omega) (.int .i64 a))
  have X3 := Lib.hid (whole_far (whole_set (whole_set (whole_far5 X1 (k := w.heap.size) (by omega) (.slice M1 h.g.length m1) (.slice (some ⟨g, 0, none⟩) h.s.length m2) (.slice M3 h.n.length m3) (.int .i64 h.c) (.slice M4 h.d.length m4)) 1 (.int .i64 j)) 2 (.int .i64 a)) (p := ⟨g, j, none⟩) (by simp <;> omega) (.int .i64 a))
  have T3 := Lib.hid (whole_far (whole_far (whole_far (whole_far5 T1 (k := w.heap.size) (by omega) (.slice M1 h.g.length m1) (.slice (some ⟨g, 0, none⟩) h.s.length m2) (.slice M3 h.n.length m3) (.int .i64 h.c) (.slice M4 h.d.length m4)) (p := ⟨w.heap.size + 1 + 1, 1, none⟩) (by simp <;> omega) (.int .i64 j)) (p := ⟨w.heap.size + 1 + 1, 2, none⟩) (by simp <;> omega) (.int .i64 a)) (p := ⟨g, j, none⟩) (by simp <;> omega) (.int .i64 a))
  have B3 := Lib.hid (Below.setCell (Below.setCell (Below.setCell (below_set5 B1 (k := w.heap.size) (Nat.le_refl _) (.slice M1 h.g.length m1) (.slice (some ⟨g, 0, none⟩) h.s.length m2) (.slice M3 h.n.length m3) (.int .i64 h.c) (.slice M4 h.d.length m4)) (p := ⟨w.heap.size + 1 + 1, 1, none⟩) (by simp <;> omega) (.int .i64 j)) (p := ⟨w.heap.size + 1 + 1, 2, none⟩) (by simp <;> omega) (.int .i64 a)) (p := ⟨g, j, none⟩) (by simp <;> omega) (.int .i64 a))
  have zs : Hid ((World.heap (World.setCell (World.setCell (World.setCell (set5 w1 w.heap.size (.slice M1 h.g.length m1) (.slice (some ⟨g, 0, none⟩) h.s.length m2) (.slice M3 h.n.length m3) (.int .i64 h.c) (.slice M4 h.d.length m4)) ⟨w.heap.size + 1 + 1, 1, none⟩ (.int .i64 j)) ⟨w.heap.size + 1 + 1, 2, none⟩ (.int .i64 a)) ⟨g, j, none⟩ (.int .i64 a))).size = w1.heap.size) := Lib.hid (by simp [set5_size])
  have H3' := Lib.hid H3
  have RN := Lib.hid (hostOf_deedRow H3)
  clear H3 HU
  have z1 : w.heap.size + 1 + 1 + 1 ≤ w1.heap.size := by omega
  obtain ⟨c0, c1, c2, c3, c4⟩ := five_cells V1
  obtain ⟨x0, x1, x2, x3⟩ := four_cells X1
  obtain ⟨r0, r1, r2, r3, r4⟩ := five_cells T1
  have fv := whole_free V1
  have fx := whole_free X1
  have fr := whole_free T1
  go_wp2_with (first
    | (go_at_call 58; refine (sIn_any _ _ _ _).mono ?_; rintro e w' ⟨rfl, rfl⟩)
    | (at_builtin; refine wpList_append_deeds rfl (.tmp 67) (.tmp 69) rfl rfl (w.heap.size + 1 + 1 + 1) (.slice M4 h.d.length m4) h.d (drow_alloc RN.out _) (.slice (some ⟨w1.heap.size, 0, none⟩) 1 1) [(⟨1, (j : Int), a, 0⟩ : Dd)] (dds_oneAt _ (⟨1, (j : Int), a, 0⟩ : Dd) zs.out.symm) rfl rfl (by have := HD.out; simp; omega) (by have := zs.out; simp [set5_size]; omega) ?_
       clear c0 c1 c2 c3 c4 x0 x1 x2 x3 r0 r1 r2 r3 r4 fv fx fr
       intro v2 w4 hr hg hat
       have H4 := Lib.hid (hostOf_deeds (h := { h with s := h.s.set j a }) (hostOf_alloc H3'.out _) hg hr (fun g e => by
         rcases hat with hat | hat
         · exact .inl (by rw [← hat]; exact e)
         · rw [hat] at e; injection e with e; right; subst e; have := zs.out; simp [set5_size]) (by have := hg.size; simp [set5_size] at this; omega))
       obtain ⟨_, C4, j4, rfl, _⟩ := drow_dds hr
       have nb : ∀ k, k < w.heap.size + 1 + 1 + 1 → some k ≠ (Value.slice M4 h.d.length m4).ownBlock := fun k hk e => by have := (drow_lt RN.out _ e.symm).1; omega
       have V4 := whole_keep (whole_alloc V3.out _) (hg.block _ (by simp [set5_size]; omega) (nb _ (by omega)))
       have X4 := whole_keep (whole_alloc X3.out _) (hg.block _ (by simp [set5_size]; omega) (nb _ (by omega)))
       have T4 := whole_keep (whole_alloc T3.out _) (hg.block _ (by simp [set5_size]; omega) (nb _ (by omega)))
       have B4 : Below w.heap.size w w4 := (below_alloc B3.out _).grown hg (by simp [set5_size]; omega) (fun k hk => by have := (drow_lt RN.out k hk).1; omega)
       obtain ⟨c0, c1, c2, c3, c4⟩ := five_cells V4
       obtain ⟨x0, x1, x2, x3⟩ := four_cells X4
       obtain ⟨r0, r1, r2, r3, r4⟩ := five_cells T4
       have fv := whole_free V4
       have fx := whole_free X4
       have fr := whole_free T4
       have z4 := whole_lt X4
       clear hr hg hat))
  go_region
  all_goals
    go_wp2
    refine bodyPost_ret (v := .tuple #[.agg #[.slice M1 h.g.length m1, .slice (some ⟨g, 0, none⟩) h.s.length m2, .slice M3 h.n.length m3, .int .i64 h.c, .slice C4 (h.d ++ [(⟨1, (j : Int), a, 0⟩ : Dd)]).length j4], .int .i64 0, .int .i64 0]) (by simp [results, Try.results110, go_sem, *]) rfl ⟨_, rfl, ?_, ?_⟩
    · show HostSt _ _ _ { h with s := h.s.set j a, d := h.d ++ [(⟨1, (j : Int), a, 0⟩ : Dd)] }
      refine hostSt_of (lo := w.heap.size + 1 + 1 + 1) (hi := w4.heap.size) (by omega) ?_
      repeat (first | with_reducible exact H4.out | ((with_reducible refine hostOf_store ?_ ?hh); case hh => omega) | with_reducible refine hostOf_drew ?_)
    · repeat (first | with_reducible exact B4 | with_reducible refine Below.setCell ?_ (by simp; try omega) _ | with_reducible refine Below.drew ?_)

set_option maxRecDepth 100000 in
set_option maxHeartbeats 1000000 in
theorem sDo_3 (v : Value) (h : Ht) (a b : Int) (w : World) (hv : HostIn w v h) (hf : HtFine h) :
    Calls Try.prog 110 #[v, .int .i64 3, .int .i64 a, .int .i64 b] w (HDoOf w ({ h with d := h.d ++ [⟨3, 0, 0, h.c⟩] }, h.c, 0)) := by
  have HH := Lib.hid hv
  obtain ⟨A1, k1, A2, k2, A3, k3, A4, k4, rfl⟩ := hostIn_form hv
  clear hv
  have HS := Lib.hid (fineH_small hf)
  have HD := Lib.hid (fineH_d hf)
  have HS8 := Lib.hid (fineH_s hf)
  clear hf
  go_enter Try.func110, Try.ntmps110
  go_wp2_with fail
  refine (sHOwn_any _ h _ (hostIn_below HH.out (below_alloc (below_alloc (below_alloc (Below.refl _ _) _) _) _)) HS.out).mono ?_
  rintro e w1 ⟨u, rfl, hu, hb⟩
  have B1 : Below w.heap.size w w1 := below_step (below_alloc (below_alloc (below_alloc (Below.refl _ _) _) _) _) hb
  have V1 := whole_b hb (whole_alloc (whole_alloc (whole_new w _ _) _) _)
  have T1 := whole_b hb (whole_alloc (whole_new1 w _ _ _) _)
  have X1 := whole_b hb (whole_new2 w _ _ _ _)
  have HU : HostOf w1 (w.heap.size + 1 + 1 + 1) w1.heap.size u h := by simpa using hu
  have zx := whole_lt X1
  clear hb hu
  obtain ⟨M1, m1, M2, m2, M3, m3, M4, m4, rfl⟩ := hostIn_form (hostOf_in HU)
  have H3 : HostOf (World.setCell (set5 w1 w.heap.size (.slice M1 h.g.length m1) (.slice M2 h.s.length m2) (.slice M3 h.n.length m3) (.int .i64 h.c) (.slice M4 h.d.length m4)) ⟨w.heap.size + 1 + 1, 3, none⟩ (.int .i64 h.c)) (w.heap.size + 1 + 1 + 1) w1.heap.size (.agg #[.slice M1 h.g.length m1, .slice M2 h.s.length m2, .slice M3 h.n.length m3, .int .i64 h.c, .slice M4 h.d.length m4]) h := (hostOf_store (i := 3) (u := (.int .i64 h.c)) (hostOf_set5 (k := w.heap.size) HU (by omega) (.slice M1 h.g.length m1) (.slice M2 h.s.length m2) (.slice M3 h.n.length m3) (.int .i64 h.c) (.slice M4 h.d.length m4)) (g := w.heap.size + 1 + 1) (by omega))
  have V3 := Lib.hid (whole_far (whole_set5 V1 (.slice M1 h.g.length m1) (.slice M2 h.s.length m2) (.slice M3 h.n.length m3) (.int .i64 h.c) (.slice M4 h.d.length m4)) (p := ⟨w.heap.size + 1 + 1, 3, none⟩) (by simp <;> omega) (.int .i64 h.c))
  have X3 := Lib.hid (whole_set (whole_far5 X1 (k := w.heap.size) (by omega) (.slice M1 h.g.length m1) (.slice M2 h.s.length m2) (.slice M3 h.n.length m3) (.int .i64 h.c) (.slice M4 h.d.length m4)) 3 (.int .i64 h.c))
  have T3 := Lib.hid (whole_far (whole_far5 T1 (k := w.heap.size) (by omega) (.slice M1 h.g.length m1) (.slice M2 h.s.length m2) (.slice M3 h.n.length m3) (.int .i64 h.c) (.slice M4 h.d.length m4)) (p := ⟨w.heap.size + 1 + 1, 3, none⟩) (by simp <;> omega) (.int .i64 h.c))
  have B3 := Lib.hid (Below.setCell (below_set5 B1 (k := w.heap.size) (Nat.le_refl _) (.slice M1 h.g.length m1) (.slice M2 h.s.length m2) (.slice M3 h.n.length m3) (.int .i64 h.c) (.slice M4 h.d.length m4)) (p := ⟨w.heap.size + 1 + 1, 3, none⟩) (by simp <;> omega) (.int .i64 h.c))
  have zs : Hid ((World.heap (World.setCell (set5 w1 w.heap.size (.slice M1 h.g.length m1) (.slice M2 h.s.length m2) (.slice M3 h.n.length m3) (.int .i64 h.c) (.slice M4 h.d.length m4)) ⟨w.heap.size + 1 + 1, 3, none⟩ (.int .i64 h.c))).size = w1.heap.size) := Lib.hid (by simp [set5_size])
  have H3' := Lib.hid H3
  have RN := Lib.hid (hostOf_deedRow H3)
  clear H3 HU
  have z1 : w.heap.size + 1 + 1 + 1 ≤ w1.heap.size := by omega
  obtain ⟨c0, c1, c2, c3, c4⟩ := five_cells V1
  obtain ⟨x0, x1, x2, x3⟩ := four_cells X1
  obtain ⟨r0, r1, r2, r3, r4⟩ := five_cells T1
  have fv := whole_free V1
  have fx := whole_free X1
  have fr := whole_free T1
  go_wp2_with (first
    | (go_at_call 58; refine (sIn_any _ _ _ _).mono ?_; rintro e w' ⟨rfl, rfl⟩)
    | (at_builtin; refine wpList_append_deeds rfl (.tmp 67) (.tmp 69) rfl rfl (w.heap.size + 1 + 1 + 1) (.slice M4 h.d.length m4) h.d (drow_alloc RN.out _) (.slice (some ⟨w1.heap.size, 0, none⟩) 1 1) [(⟨3, 0, 0, h.c⟩ : Dd)] (dds_oneAt _ (⟨3, 0, 0, h.c⟩ : Dd) zs.out.symm) rfl rfl (by have := HD.out; simp; omega) (by have := zs.out; simp [set5_size]; omega) ?_
       clear c0 c1 c2 c3 c4 x0 x1 x2 x3 r0 r1 r2 r3 r4 fv fx fr
       intro v2 w4 hr hg hat
       have H4 := Lib.hid (hostOf_deeds (h := h) (hostOf_alloc H3'.out _) hg hr (fun g e => by
         rcases hat with hat | hat
         · exact .inl (by rw [← hat]; exact e)
         · rw [hat] at e; injection e with e; right; subst e; have := zs.out; simp [set5_size]) (by have := hg.size; simp [set5_size] at this; omega))
       obtain ⟨_, C4, j4, rfl, _⟩ := drow_dds hr
       have nb : ∀ k, k < w.heap.size + 1 + 1 + 1 → some k ≠ (Value.slice M4 h.d.length m4).ownBlock := fun k hk e => by have := (drow_lt RN.out _ e.symm).1; omega
       have V4 := whole_keep (whole_alloc V3.out _) (hg.block _ (by simp [set5_size]; omega) (nb _ (by omega)))
       have X4 := whole_keep (whole_alloc X3.out _) (hg.block _ (by simp [set5_size]; omega) (nb _ (by omega)))
       have T4 := whole_keep (whole_alloc T3.out _) (hg.block _ (by simp [set5_size]; omega) (nb _ (by omega)))
       have B4 : Below w.heap.size w w4 := (below_alloc B3.out _).grown hg (by simp [set5_size]; omega) (fun k hk => by have := (drow_lt RN.out k hk).1; omega)
       obtain ⟨c0, c1, c2, c3, c4⟩ := five_cells V4
       obtain ⟨x0, x1, x2, x3⟩ := four_cells X4
       obtain ⟨r0, r1, r2, r3, r4⟩ := five_cells T4
       have fv := whole_free V4
       have fx := whole_free X4
       have fr := whole_free T4
       have z4 := whole_lt X4
       clear hr hg hat))
  go_region
  all_goals
    go_wp2
    refine bodyPost_ret (v := .tuple #[.agg #[.slice M1 h.g.length m1, .slice M2 h.s.length m2, .slice M3 h.n.length m3, .int .i64 h.c, .slice C4 (h.d ++ [(⟨3, 0, 0, h.c⟩ : Dd)]).length j4], .int .i64 h.c, .int .i64 0]) (by simp [results, Try.results110, go_sem, *]) rfl ⟨_, rfl, ?_, ?_⟩
    · show HostSt _ _ _ { h with d := h.d ++ [(⟨3, 0, 0, h.c⟩ : Dd)] }
      refine hostSt_of (lo := w.heap.size + 1 + 1 + 1) (hi := w4.heap.size) (by omega) ?_
      repeat (first | with_reducible exact H4.out | ((with_reducible refine hostOf_store ?_ ?hh); case hh => omega) | with_reducible refine hostOf_drew ?_)
    · repeat (first | with_reducible exact B4 | with_reducible refine Below.setCell ?_ (by simp; try omega) _ | with_reducible refine Below.drew ?_)

set_option maxRecDepth 100000 in
set_option maxHeartbeats 1000000 in
theorem sDo_2x (v : Value) (h : Ht) (a b : Int) (w : World) (hv : HostIn w v h) (hf : HtFine h) (hn : h.n = []) :
    Calls Try.prog 110 #[v, .int .i64 2, .int .i64 a, .int .i64 b] w (HDoOf w ({ h with d := h.d ++ [⟨2, b, 0, 0⟩] }, 0, 0)) := by
  have HH := Lib.hid hv
  obtain ⟨A1, k1, A2, k2, A3, k3, A4, k4, rfl⟩ := hostIn_form hv
  clear hv
  have HS := Lib.hid (fineH_small hf)
  have HD := Lib.hid (fineH_d hf)
  have HS8 := Lib.hid (fineH_s hf)
  have U0 := Lib.hid (show h.n.length = 0 by rw [hn]; rfl)
  clear hn
  clear hf
  rw [U0.out] at HH ⊢
  go_enter Try.func110, Try.ntmps110
  go_wp2_with fail
  refine (sHOwn_any _ h _ (hostIn_below HH.out (below_alloc (below_alloc (below_alloc (Below.refl _ _) _) _) _)) HS.out).mono ?_
  rintro e w1 ⟨u, rfl, hu, hb⟩
  have B1 : Below w.heap.size w w1 := below_step (below_alloc (below_alloc (below_alloc (Below.refl _ _) _) _) _) hb
  have V1 := whole_b hb (whole_alloc (whole_alloc (whole_new w _ _) _) _)
  have T1 := whole_b hb (whole_alloc (whole_new1 w _ _ _) _)
  have X1 := whole_b hb (whole_new2 w _ _ _ _)
  have HU : HostOf w1 (w.heap.size + 1 + 1 + 1) w1.heap.size u h := by simpa using hu
  have zx := whole_lt X1
  clear hb hu
  obtain ⟨M1, m1, M2, m2, M3, m3, M4, m4, rfl⟩ := hostIn_form (hostOf_in HU)
  rw [U0.out] at HU ⊢
  have H3 : HostOf (World.setCell (set5 w1 w.heap.size (.slice M1 h.g.length m1) (.slice M2 h.s.length m2) (.slice M3 0 m3) (.int .i64 h.c) (.slice M4 h.d.length m4)) ⟨w.heap.size + 1 + 1, 1, none⟩ (.int .i64 b)) (w.heap.size + 1 + 1 + 1) w1.heap.size (.agg #[.slice M1 h.g.length m1, .slice M2 h.s.length m2, .slice M3 0 m3, .int .i64 h.c, .slice M4 h.d.length m4]) h := (hostOf_store (i := 1) (u := (.int .i64 b)) (hostOf_set5 (k := w.heap.size) HU (by omega) (.slice M1 h.g.length m1) (.slice M2 h.s.length m2) (.slice M3 0 m3) (.int .i64 h.c) (.slice M4 h.d.length m4)) (g := w.heap.size + 1 + 1) (by omega))
  have V3 := Lib.hid (whole_far (whole_set5 V1 (.slice M1 h.g.length m1) (.slice M2 h.s.length m2) (.slice M3 0 m3) (.int .i64 h.c) (.slice M4 h.d.length m4)) (p := ⟨w.heap.size + 1 + 1, 1, none⟩) (by simp <;> omega) (.int .i64 b))
  have X3 := Lib.hid (whole_set (whole_far5 X1 (k := w.heap.size) (by omega) (.slice M1 h.g.length m1) (.slice M2 h.s.length m2) (.slice M3 0 m3) (.int .i64 h.c) (.slice M4 h.d.length m4)) 1 (.int .i64 b))
  have T3 := Lib.hid (whole_far (whole_far5 T1 (k := w.heap.size) (by omega) (.slice M1 h.g.length m1) (.slice M2 h.s.length m2) (.slice M3 0 m3) (.int .i64 h.c) (.slice M4 h.d.length m4)) (p := ⟨w.heap.size + 1 + 1, 1, none⟩) (by simp <;> omega) (.int .i64 b))
  have B3 := Lib.hid (Below.setCell (below_set5 B1 (k := w.heap.size) (Nat.le_refl _) (.slice M1 h.g.length m1) (.slice M2 h.s.length m2) (.slice M3 0 m3) (.int .i64 h.c) (.slice M4 h.d.length m4)) (p := ⟨w.heap.size + 1 + 1, 1, none⟩) (by simp <;> omega) (.int .i64 b))
  have zs : Hid ((World.heap (World.setCell (set5 w1 w.heap.size (.slice M1 h.g.length m1) (.slice M2 h.s.length m2) (.slice M3 0 m3) (.int .i64 h.c) (.slice M4 h.d.length m4)) ⟨w.heap.size + 1 + 1, 1, none⟩ (.int .i64 b))).size = w1.heap.size) := Lib.hid (by simp [set5_size])
  have H3' := Lib.hid H3
  have RN := Lib.hid (hostOf_deedRow H3)
  clear H3 HU
  have z1 : w.heap.size + 1 + 1 + 1 ≤ w1.heap.size := by omega
  obtain ⟨c0, c1, c2, c3, c4⟩ := five_cells V1
  obtain ⟨x0, x1, x2, x3⟩ := four_cells X1
  obtain ⟨r0, r1, r2, r3, r4⟩ := five_cells T1
  have fv := whole_free V1
  have fx := whole_free X1
  have fr := whole_free T1
  go_wp2_with (first
    | (go_at_call 58; refine (sIn_any _ _ _ _).mono ?_; rintro e w' ⟨rfl, rfl⟩)
    | (at_builtin; refine wpList_append_deeds rfl (.tmp 67) (.tmp 69) rfl rfl (w.heap.size + 1 + 1 + 1) (.slice M4 h.d.length m4) h.d (drow_alloc RN.out _) (.slice (some ⟨w1.heap.size, 0, none⟩) 1 1) [(⟨2, b, 0, 0⟩ : Dd)] (dds_oneAt _ (⟨2, b, 0, 0⟩ : Dd) zs.out.symm) rfl rfl (by have := HD.out; simp; omega) (by have := zs.out; simp [set5_size]; omega) ?_
       clear c0 c1 c2 c3 c4 x0 x1 x2 x3 r0 r1 r2 r3 r4 fv fx fr
       intro v2 w4 hr hg hat
       have H4 := Lib.hid (hostOf_deeds (h := h) (hostOf_alloc H3'.out _) hg hr (fun g e => by
         rcases hat with hat | hat
         · exact .inl (by rw [← hat]; exact e)
         · rw [hat] at e; injection e with e; right; subst e; have := zs.out; simp [set5_size]) (by have := hg.size; simp [set5_size] at this; omega))
       obtain ⟨_, C4, j4, rfl, _⟩ := drow_dds hr
       have nb : ∀ k, k < w.heap.size + 1 + 1 + 1 → some k ≠ (Value.slice M4 h.d.length m4).ownBlock := fun k hk e => by have := (drow_lt RN.out _ e.symm).1; omega
       have V4 := whole_keep (whole_alloc V3.out _) (hg.block _ (by simp [set5_size]; omega) (nb _ (by omega)))
       have X4 := whole_keep (whole_alloc X3.out _) (hg.block _ (by simp [set5_size]; omega) (nb _ (by omega)))
       have T4 := whole_keep (whole_alloc T3.out _) (hg.block _ (by simp [set5_size]; omega) (nb _ (by omega)))
       have B4 : Below w.heap.size w w4 := (below_alloc B3.out _).grown hg (by simp [set5_size]; omega) (fun k hk => by have := (drow_lt RN.out k hk).1; omega)
       obtain ⟨c0, c1, c2, c3, c4⟩ := five_cells V4
       obtain ⟨x0, x1, x2, x3⟩ := four_cells X4
       obtain ⟨r0, r1, r2, r3, r4⟩ := five_cells T4
       have fv := whole_free V4
       have fx := whole_free X4
       have fr := whole_free T4
       have z4 := whole_lt X4
       clear hr hg hat))
  go_region
  all_goals
    go_wp2
    refine bodyPost_ret (v := .tuple #[.agg #[.slice M1 h.g.length m1, .slice M2 h.s.length m2, .slice M3 0 m3, .int .i64 h.c, .slice C4 (h.d ++ [(⟨2, b, 0, 0⟩ : Dd)]).length j4], .int .i64 0, .int .i64 0]) (by simp [results, Try.results110, go_sem, *]) rfl ⟨_, rfl, ?_, ?_⟩
    · show HostSt _ _ _ { h with d := h.d ++ [(⟨2, b, 0, 0⟩ : Dd)] }
      refine hostSt_of (lo := w.heap.size + 1 + 1 + 1) (hi := w4.heap.size) (by omega) ?_
      repeat (first | with_reducible exact H4.out | ((with_reducible refine hostOf_store ?_ ?hh); case hh => omega) | with_reducible refine hostOf_drew ?_)
    · repeat (first | with_reducible exact B4 | with_reducible refine Below.setCell ?_ (by simp; try omega) _ | with_reducible refine Below.drew ?_)

theorem hostIn_ask {w : World} {x y q : Value} {h : Ht} {g m n p : Nat} {n0 : Int} {ns : List Int} {PA : Option Addr} (e : h.n = n0 :: ns) (hn : n = ns.length) (hp : n = 0 ∨ PA = some ⟨g, 1, none⟩) (H : HostIn w (.agg #[x, y, .slice (some ⟨g, 0, none⟩) h.n.length m, .int .i64 h.c, q]) h) :
    HostIn w (.agg #[x, y, .slice PA n p, .int .i64 h.c, q]) { h with n := ns } := by
  refine hostIn_third H ?_
  obtain ⟨x', y', z0, q0, e', h1, h2, h3, h4⟩ := H
  simp only [Value.agg.injEq, Array.mk.injEq, List.cons.injEq, and_true, true_and] at e'
  obtain ⟨rfl, rfl, rfl, rfl⟩ := e'
  rw [e] at h3
  rcases hp with rfl | rfl
  · have : ns = [] := List.eq_nil_of_length_eq_zero hn.symm
    subst this
    exact ⟨Nat.zero_le _, PA, p, rfl, fun h => absurd h (by simp)⟩
  · exact ints_tail (ad := ⟨g, 0, none⟩) hn h3

theorem hostSt_ask {w : World} {x y q : Value} {h : Ht} {g m n p lo' lo hi : Nat} {n0 : Int} {ns : List Int} {PA : Option Addr} (e : h.n = n0 :: ns) (hn : n = ns.length) (hp : n = 0 ∨ PA = some ⟨g, 1, none⟩) (hl : lo' ≤ lo) (H : HostOf w lo hi (.agg #[x, y, .slice (some ⟨g, 0, none⟩) h.n.length m, .int .i64 h.c, q]) h) :
    HostSt w lo' (.agg #[x, y, .slice PA n p, .int .i64 h.c, q]) { h with n := ns } := fun W' hW => hostIn_ask e hn hp (hostSt_of hl H W' hW)

set_option maxRecDepth 100000 in
set_option maxHeartbeats 1000000 in
theorem sDo_2 (v : Value) (h : Ht) (a b n0 : Int) (ns : List Int) (w : World) (hv : HostIn w v h) (hf : HtFine h) (hn : h.n = n0 :: ns) :
    Calls Try.prog 110 #[v, .int .i64 2, .int .i64 a, .int .i64 b] w (HDoOf w ({ h with n := ns, d := h.d ++ [⟨2, b, 0, n0⟩] }, n0, 0)) := by
  have HH := Lib.hid hv
  obtain ⟨A1, k1, A2, k2, A3, k3, A4, k4, rfl⟩ := hostIn_form hv
  clear hv
  have HS := Lib.hid (fineH_small hf)
  have HD := Lib.hid (fineH_d hf)
  have HS8 := Lib.hid (fineH_s hf)
  have HN := Lib.hid hn
  obtain ⟨ln, hln⟩ : ∃ ln, h.n.length = ln + 1 := ⟨ns.length, by rw [hn]; rfl⟩
  have NL := Lib.hid hln
  have LS := Lib.hid (show ln = ns.length by have : h.n.length = ns.length + 1 := by rw [hn]; rfl
                                             omega)
  clear hln
  have nl2 : ln + 1 ≤ 20 := by have := fineH_n hf; have := NL.out; omega
  clear hn
  clear hf
  rw [NL.out] at HH ⊢
  go_enter Try.func110, Try.ntmps110
  go_wp2_with fail
  refine (sHOwn_any _ h _ (hostIn_below HH.out (below_alloc (below_alloc (below_alloc (Below.refl _ _) _) _) _)) HS.out).mono ?_
  rintro e w1 ⟨u, rfl, hu, hb⟩
  have B1 : Below w.heap.size w w1 := below_step (below_alloc (below_alloc (below_alloc (Below.refl _ _) _) _) _) hb
  have V1 := whole_b hb (whole_alloc (whole_alloc (whole_new w _ _) _) _)
  have T1 := whole_b hb (whole_alloc (whole_new1 w _ _ _) _)
  have X1 := whole_b hb (whole_new2 w _ _ _ _)
  have HU : HostOf w1 (w.heap.size + 1 + 1 + 1) w1.heap.size u h := by simpa using hu
  have zx := whole_lt X1
  clear hb hu
  obtain ⟨M1, m1, M2, m2, M3, m3, M4, m4, rfl⟩ := hostIn_form (hostOf_in HU)
  rw [NL.out] at HU ⊢
  obtain ⟨g, m3', hM, hg1, hg2, hgl, hgm⟩ := row_form (hostOf_thirdRow HU) (by rw [HN.out]; simp)
  simp only [Value.slice.injEq] at hM
  obtain ⟨rfl, hq, rfl⟩ := hM
  clear hq
  have RT : Row w1 (w.heap.size + 1 + 1 + 1) (.slice (some ⟨g, 0, none⟩) h.n.length m3) h.n := by rw [NL.out]; exact hostOf_thirdRow HU
  have ko : w1.cell? ⟨g, 0, none⟩ = some (.int .i64 n0) := by have := row_cell RT 0 (by rw [HN.out]; simp); simpa [HN.out] using this
  clear RT
  have ne0 : g ≠ w.heap.size := by omega
  have ne1 : g ≠ w.heap.size + 1 := by omega
  have ne2 : g ≠ w.heap.size + 1 + 1 := by omega
  have ne3 : w.heap.size ≠ g := by omega
  have ne4 : w.heap.size + 1 ≠ g := by omega
  have ne5 : w.heap.size + 1 + 1 ≠ g := by omega
  have hm1 : 1 ≤ m3 := by have := NL.out; omega
  have hm2 : ln + 1 ≤ m3 := by have := NL.out; omega
  by_cases q31 : m3 = 1
  · subst q31
    have H3 : HostOf (World.setCell (World.setCell (World.setCell (set5 w1 w.heap.size (.slice M1 h.g.length m1) (.slice M2 h.s.length m2) (.slice (some ⟨g, 0, none⟩) (ln + 1) 1) (.int .i64 h.c) (.slice M4 h.d.length m4)) ⟨w.heap.size + 1 + 1, 1, none⟩ (.int .i64 b)) ⟨w.heap.size + 1 + 1, 3, none⟩ (.int .i64 n0)) ⟨w.heap.size, 2, none⟩ (.slice (some ⟨g, 0, none⟩) 0 0)) (w.heap.size + 1 + 1 + 1) w1.heap.size (.agg #[.slice M1 h.g.length m1, .slice M2 h.s.length m2, .slice (some ⟨g, 0, none⟩) (ln + 1) 1, .int .i64 h.c, .slice M4 h.d.length m4]) h := (hostOf_store (i := 2) (u := (.slice (some ⟨g, 0, none⟩) 0 0)) (hostOf_store (i := 3) (u := (.int .i64 n0)) (hostOf_store (i := 1) (u := (.int .i64 b)) (hostOf_set5 (k := w.heap.size) HU (by omega) (.slice M1 h.g.length m1) (.slice M2 h.s.length m2) (.slice (some ⟨g, 0, none⟩) (ln + 1) 1) (.int .i64 h.c) (.slice M4 h.d.length m4)) (g := w.heap.size + 1 + 1) (by omega)) (g := w.heap.size + 1 + 1) (by omega)) (g := w.heap.size) (by omega))
    have V3 := Lib.hid (whole_set (whole_far (whole_far (whole_set5 V1 (.slice M1 h.g.length m1) (.slice M2 h.s.length m2) (.slice (some ⟨g, 0, none⟩) (ln + 1) 1) (.int .i64 h.c) (.slice M4 h.d.length m4)) (p := ⟨w.heap.size + 1 + 1, 1, none⟩) (by simp <;> omega) (.int .i64 b)) (p := ⟨w.heap.size + 1 + 1, 3, none⟩) (by simp <;> omega) (.int .i64 n0)) 2 (.slice (some ⟨g, 0, none⟩) 0 0))
    have X3 := Lib.hid (whole_far (whole_set (whole_set (whole_far5 X1 (k := w.heap.size) (by omega) (.slice M1 h.g.length m1) (.slice M2 h.s.length m2) (.slice (some ⟨g, 0, none⟩) (ln + 1) 1) (.int .i64 h.c) (.slice M4 h.d.length m4)) 1 (.int .i64 b)) 3 (.int .i64 n0)) (p := ⟨w.heap.size, 2, none⟩) (by simp <;> omega) (.slice (some ⟨g, 0, none⟩) 0 0))
    have T3 := Lib.hid (whole_far (whole_far (whole_far (whole_far5 T1 (k := w.heap.size) (by omega) (.slice M1 h.g.length m1) (.slice M2 h.s.length m2) (.slice (some ⟨g, 0, none⟩) (ln + 1) 1) (.int .i64 h.c) (.slice M4 h.d.length m4)) (p := ⟨w.heap.size + 1 + 1, 1, none⟩) (by simp <;> omega) (.int .i64 b)) (p := ⟨w.heap.size + 1 + 1, 3, none⟩) (by simp <;> omega) (.int .i64 n0)) (p := ⟨w.heap.size, 2, none⟩) (by simp <;> omega) (.slice (some ⟨g, 0, none⟩) 0 0))
    have B3 := Lib.hid (Below.setCell (Below.setCell (Below.setCell (below_set5 B1 (k := w.heap.size) (Nat.le_refl _) (.slice M1 h.g.length m1) (.slice M2 h.s.length m2) (.slice (some ⟨g, 0, none⟩) (ln + 1) 1) (.int .i64 h.c) (.slice M4 h.d.length m4)) (p := ⟨w.heap.size + 1 + 1, 1, none⟩) (by simp <;> omega) (.int .i64 b)) (p := ⟨w.heap.size + 1 + 1, 3, none⟩) (by simp <;> omega) (.int .i64 n0)) (p := ⟨w.heap.size, 2, none⟩) (by simp <;> omega) (.slice (some ⟨g, 0, none⟩) 0 0))
    have zs : Hid ((World.heap (World.setCell (World.setCell (World.setCell (set5 w1 w.heap.size (.slice M1 h.g.length m1) (.slice M2 h.s.length m2) (.slice (some ⟨g, 0, none⟩) (ln + 1) 1) (.int .i64 h.c) (.slice M4 h.d.length m4)) ⟨w.heap.size + 1 + 1, 1, none⟩ (.int .i64 b)) ⟨w.heap.size + 1 + 1, 3, none⟩ (.int .i64 n0)) ⟨w.heap.size, 2, none⟩ (.slice (some ⟨g, 0, none⟩) 0 0))).size = w1.heap.size) := Lib.hid (by simp [set5_size])
    have H3' := Lib.hid H3
    have RN := Lib.hid (hostOf_deedRow H3)
    clear H3 HU
    have z1 : w.heap.size + 1 + 1 + 1 ≤ w1.heap.size := by omega
    obtain ⟨c0, c1, c2, c3, c4⟩ := five_cells V1
    obtain ⟨x0, x1, x2, x3⟩ := four_cells X1
    obtain ⟨r0, r1, r2, r3, r4⟩ := five_cells T1
    have fv := whole_free V1
    have fx := whole_free X1
    have fr := whole_free T1
    go_wp2_with (first
      | (go_at_call 58; refine (sIn_any _ _ _ _).mono ?_; rintro e w' ⟨rfl, rfl⟩)
      | (at_builtin; refine wpList_append_deeds rfl (.tmp 67) (.tmp 69) rfl rfl (w.heap.size + 1 + 1 + 1) (.slice M4 h.d.length m4) h.d (drow_alloc RN.out _) (.slice (some ⟨w1.heap.size, 0, none⟩) 1 1) [(⟨2, b, 0, n0⟩ : Dd)] (dds_oneAt _ (⟨2, b, 0, n0⟩ : Dd) zs.out.symm) rfl rfl (by have := HD.out; simp; omega) (by have := zs.out; simp [set5_size]; omega) ?_
         clear c0 c1 c2 c3 c4 x0 x1 x2 x3 r0 r1 r2 r3 r4 fv fx fr
         intro v2 w4 hr hg hat
         have H4 := Lib.hid (hostOf_deeds (h := h) (hostOf_alloc H3'.out _) hg hr (fun g e => by
           rcases hat with hat | hat
           · exact .inl (by rw [← hat]; exact e)
           · rw [hat] at e; injection e with e; right; subst e; have := zs.out; simp [set5_size]) (by have := hg.size; simp [set5_size] at this; omega))
         obtain ⟨_, C4, j4, rfl, _⟩ := drow_dds hr
         have nb : ∀ k, k < w.heap.size + 1 + 1 + 1 → some k ≠ (Value.slice M4 h.d.length m4).ownBlock := fun k hk e => by have := (drow_lt RN.out _ e.symm).1; omega
         have V4 := whole_keep (whole_alloc V3.out _) (hg.block _ (by simp [set5_size]; omega) (nb _ (by omega)))
         have X4 := whole_keep (whole_alloc X3.out _) (hg.block _ (by simp [set5_size]; omega) (nb _ (by omega)))
         have T4 := whole_keep (whole_alloc T3.out _) (hg.block _ (by simp [set5_size]; omega) (nb _ (by omega)))
         have B4 : Below w.heap.size w w4 := (below_alloc B3.out _).grown hg (by simp [set5_size]; omega) (fun k hk => by have := (drow_lt RN.out k hk).1; omega)
         obtain ⟨c0, c1, c2, c3, c4⟩ := five_cells V4
         obtain ⟨x0, x1, x2, x3⟩ := four_cells X4
         obtain ⟨r0, r1, r2, r3, r4⟩ := five_cells T4
         have fv := whole_free V4
         have fx := whole_free X4
         have fr := whole_free T4
         have z4 := whole_lt X4
         clear hr hg hat))
    go_region
    all_goals
      go_wp2
      refine bodyPost_ret (v := .tuple #[.agg #[.slice M1 h.g.length m1, .slice M2 h.s.length m2, .slice (some ⟨g, 0, none⟩) 0 0, .int .i64 h.c, .slice C4 (h.d ++ [(⟨2, b, 0, n0⟩ : Dd)]).length j4], .int .i64 n0, .int .i64 0]) (by simp [results, Try.results110, go_sem, *]) rfl ⟨_, rfl, ?_, ?_⟩
      · show HostSt _ _ _ { h with n := ns, d := h.d ++ [(⟨2, b, 0, n0⟩ : Dd)] }
        refine hostSt_ask (h := { h with d := h.d ++ [(⟨2, b, 0, n0⟩ : Dd)] }) (g := g) (m := 1) (n := 0) HN.out (by have := LS.out; omega) (.inl rfl) (lo := w.heap.size + 1 + 1 + 1) (hi := w4.heap.size) (by omega) ?_
        rw [show ({ h with d := h.d ++ [(⟨2, b, 0, n0⟩ : Dd)] } : Ht).n.length = ln + 1 from NL.out]
        repeat (first | with_reducible exact H4.out | ((with_reducible refine hostOf_store ?_ ?hh); case hh => omega) | with_reducible refine hostOf_drew ?_)
      · repeat (first | with_reducible exact B4 | with_reducible refine Below.setCell ?_ (by simp; try omega) _ | with_reducible refine Below.drew ?_)
  · have H3 : HostOf (World.setCell (World.setCell (World.setCell (set5 w1 w.heap.size (.slice M1 h.g.length m1) (.slice M2 h.s.length m2) (.slice (some ⟨g, 0, none⟩) (ln + 1) m3) (.int .i64 h.c) (.slice M4 h.d.length m4)) ⟨w.heap.size + 1 + 1, 1, none⟩ (.int .i64 b)) ⟨w.heap.size + 1 + 1, 3, none⟩ (.int .i64 n0)) ⟨w.heap.size, 2, none⟩ (.slice (some ⟨g, 1, none⟩) ln (m3 - 1))) (w.heap.size + 1 + 1 + 1) w1.heap.size (.agg #[.slice M1 h.g.length m1, .slice M2 h.s.length m2, .slice (some ⟨g, 0, none⟩) (ln + 1) m3, .int .i64 h.c, .slice M4 h.d.length m4]) h := (hostOf_store (i := 2) (u := (.slice (some ⟨g, 1, none⟩) ln (m3 - 1))) (hostOf_store (i := 3) (u := (.int .i64 n0)) (hostOf_store (i := 1) (u := (.int .i64 b)) (hostOf_set5 (k := w.heap.size) HU (by omega) (.slice M1 h.g.length m1) (.slice M2 h.s.length m2) (.slice (some ⟨g, 0, none⟩) (ln + 1) m3) (.int .i64 h.c) (.slice M4 h.d.length m4)) (g := w.heap.size + 1 + 1) (by omega)) (g := w.heap.size + 1 + 1) (by omega)) (g := w.heap.size) (by omega))
    have V3 := Lib.hid (whole_set (whole_far (whole_far (whole_set5 V1 (.slice M1 h.g.length m1) (.slice M2 h.s.length m2) (.slice (some ⟨g, 0, none⟩) (ln + 1) m3) (.int .i64 h.c) (.slice M4 h.d.length m4)) (p := ⟨w.heap.size + 1 + 1, 1, none⟩) (by simp <;> omega) (.int .i64 b)) (p := ⟨w.heap.size + 1 + 1, 3, none⟩) (by simp <;> omega) (.int .i64 n0)) 2 (.slice (some ⟨g, 1, none⟩) ln (m3 - 1)))
    have X3 := Lib.hid (whole_far (whole_set (whole_set (whole_far5 X1 (k := w.heap.size) (by omega) (.slice M1 h.g.length m1) (.slice M2 h.s.length m2) (.slice (some ⟨g, 0, none⟩) (ln + 1) m3) (.int .i64 h.c) (.slice M4 h.d.length m4)) 1 (.int .i64 b)) 3 (.int .i64 n0)) (p := ⟨w.heap.size, 2, none⟩) (by simp <;> omega) (.slice (some ⟨g, 1, none⟩) ln (m3 - 1)))
    have T3 := Lib.hid (whole_far (whole_far (whole_far (whole_far5 T1 (k := w.heap.size) (by omega) (.slice M1 h.g.length m1) (.slice M2 h.s.length m2) (.slice (some ⟨g, 0, none⟩) (ln + 1) m3) (.int .i64 h.c) (.slice M4 h.d.length m4)) (p := ⟨w.heap.size + 1 + 1, 1, none⟩) (by simp <;> omega) (.int .i64 b)) (p := ⟨w.heap.size + 1 + 1, 3, none⟩) (by simp <;> omega) (.int .i64 n0)) (p := ⟨w.heap.size, 2, none⟩) (by simp <;> omega) (.slice (some ⟨g, 1, none⟩) ln (m3 - 1)))
    have B3 := Lib.hid (Below.setCell (Below.setCell (Below.setCell (below_set5 B1 (k := w.heap.size) (Nat.le_refl _) (.slice M1 h.g.length m1) (.slice M2 h.s.length m2) (.slice (some ⟨g, 0, none⟩) (ln + 1) m3) (.int .i64 h.c) (.slice M4 h.d.length m4)) (p := ⟨w.heap.size + 1 + 1, 1, none⟩) (by simp <;> omega) (.int .i64 b)) (p := ⟨w.heap.size + 1 + 1, 3, none⟩) (by simp <;> omega) (.int .i64 n0)) (p := ⟨w.heap.size, 2, none⟩) (by simp <;> omega) (.slice (some ⟨g, 1, none⟩) ln (m3 - 1)))
    have zs : Hid ((World.heap (World.setCell (World.setCell (World.setCell (set5 w1 w.heap.size (.slice M1 h.g.length m1) (.slice M2 h.s.length m2) (.slice (some ⟨g, 0, none⟩) (ln + 1) m3) (.int .i64 h.c) (.slice M4 h.d.length m4)) ⟨w.heap.size + 1 + 1, 1, none⟩ (.int .i64 b)) ⟨w.heap.size + 1 + 1, 3, none⟩ (.int .i64 n0)) ⟨w.heap.size, 2, none⟩ (.slice (some ⟨g, 1, none⟩) ln (m3 - 1)))).size = w1.heap.size) := Lib.hid (by simp [set5_size])
    have H3' := Lib.hid H3
    have RN := Lib.hid (hostOf_deedRow H3)
    clear H3 HU
    have z1 : w.heap.size + 1 + 1 + 1 ≤ w1.heap.size := by omega
    obtain ⟨c0, c1, c2, c3, c4⟩ := five_cells V1
    obtain ⟨x0, x1, x2, x3⟩ := four_cells X1
    obtain ⟨r0, r1, r2, r3, r4⟩ := five_cells T1
    have fv := whole_free V1
    have fx := whole_free X1
    have fr := whole_free T1
    go_wp2_with (first
      | (go_at_call 58; refine (sIn_any _ _ _ _).mono ?_; rintro e w' ⟨rfl, rfl⟩)
      | (at_builtin; refine wpList_append_deeds rfl (.tmp 67) (.tmp 69) rfl rfl (w.heap.size + 1 + 1 + 1) (.slice M4 h.d.length m4) h.d (drow_alloc RN.out _) (.slice (some ⟨w1.heap.size, 0, none⟩) 1 1) [(⟨2, b, 0, n0⟩ : Dd)] (dds_oneAt _ (⟨2, b, 0, n0⟩ : Dd) zs.out.symm) rfl rfl (by have := HD.out; simp; omega) (by have := zs.out; simp [set5_size]; omega) ?_
         clear c0 c1 c2 c3 c4 x0 x1 x2 x3 r0 r1 r2 r3 r4 fv fx fr
         intro v2 w4 hr hg hat
         have H4 := Lib.hid (hostOf_deeds (h := h) (hostOf_alloc H3'.out _) hg hr (fun g e => by
           rcases hat with hat | hat
           · exact .inl (by rw [← hat]; exact e)
           · rw [hat] at e; injection e with e; right; subst e; have := zs.out; simp [set5_size]) (by have := hg.size; simp [set5_size] at this; omega))
         obtain ⟨_, C4, j4, rfl, _⟩ := drow_dds hr
         have nb : ∀ k, k < w.heap.size + 1 + 1 + 1 → some k ≠ (Value.slice M4 h.d.length m4).ownBlock := fun k hk e => by have := (drow_lt RN.out _ e.symm).1; omega
         have V4 := whole_keep (whole_alloc V3.out _) (hg.block _ (by simp [set5_size]; omega) (nb _ (by omega)))
         have X4 := whole_keep (whole_alloc X3.out _) (hg.block _ (by simp [set5_size]; omega) (nb _ (by omega)))
         have T4 := whole_keep (whole_alloc T3.out _) (hg.block _ (by simp [set5_size]; omega) (nb _ (by omega)))
         have B4 : Below w.heap.size w w4 := (below_alloc B3.out _).grown hg (by simp [set5_size]; omega) (fun k hk => by have := (drow_lt RN.out k hk).1; omega)
         obtain ⟨c0, c1, c2, c3, c4⟩ := five_cells V4
         obtain ⟨x0, x1, x2, x3⟩ := four_cells X4
         obtain ⟨r0, r1, r2, r3, r4⟩ := five_cells T4
         have fv := whole_free V4
         have fx := whole_free X4
         have fr := whole_free T4
         have z4 := whole_lt X4
         clear hr hg hat))
    go_region
    all_goals
      go_wp2
      refine bodyPost_ret (v := .tuple #[.agg #[.slice M1 h.g.length m1, .slice M2 h.s.length m2, .slice (some ⟨g, 1, none⟩) ln (m3 - 1), .int .i64 h.c, .slice C4 (h.d ++ [(⟨2, b, 0, n0⟩ : Dd)]).length j4], .int .i64 n0, .int .i64 0]) (by simp [results, Try.results110, go_sem, *]) rfl ⟨_, rfl, ?_, ?_⟩
      · show HostSt _ _ _ { h with n := ns, d := h.d ++ [(⟨2, b, 0, n0⟩ : Dd)] }
        refine hostSt_ask (h := { h with d := h.d ++ [(⟨2, b, 0, n0⟩ : Dd)] }) (g := g) (m := m3) (n := ln) HN.out LS.out (.inr rfl) (lo := w.heap.size + 1 + 1 + 1) (hi := w4.heap.size) (by omega) ?_
        rw [show ({ h with d := h.d ++ [(⟨2, b, 0, n0⟩ : Dd)] } : Ht).n.length = ln + 1 from NL.out]
        repeat (first | with_reducible exact H4.out | ((with_reducible refine hostOf_store ?_ ?hh); case hh => omega) | with_reducible refine hostOf_drew ?_)
      · repeat (first | with_reducible exact B4 | with_reducible refine Below.setCell ?_ (by simp; try omega) _ | with_reducible refine Below.drew ?_)

theorem sDo_any (v : Value) (h : Ht) (c : Nat) (a b : Int) (w : World) (hv : HostIn w v h) (hf : HtFine h) (hc : c < 4) :
    Calls Try.prog 110 #[v, .int .i64 c, .int .i64 a, .int .i64 b] w (HDoOf w (hDo h c a b)) := by
  have hcs : c = 0 ∨ c = 1 ∨ c = 2 ∨ c = 3 := by omega
  rcases hcs with rfl | rfl | rfl | rfl
  · cases e : inB b 0 7
    · have := sDo_0x v h a b w hv hf e
      unfold hDo; rw [if_pos rfl, e]; exact this
    · obtain ⟨q0, q1⟩ := of_inB e
      obtain ⟨j, rfl⟩ : ∃ j : Nat, b = j := ⟨b.toNat, by omega⟩
      have := sDo_0 v h a j w hv hf (by omega)
      unfold hDo; rw [if_pos rfl, e]; exact this
  · cases e : inB b 0 7
    · have := sDo_1x v h a b w hv hf e
      unfold hDo; rw [if_neg (by omega), if_pos rfl, e]; exact this
    · obtain ⟨q0, q1⟩ := of_inB e
      obtain ⟨j, rfl⟩ : ∃ j : Nat, b = j := ⟨b.toNat, by omega⟩
      have := sDo_1 v h a j w hv hf (by omega)
      unfold hDo; rw [if_neg (by omega), if_pos rfl, e]; exact this
  · unfold hDo
    rw [if_neg (by omega), if_neg (by omega), if_pos rfl]
    cases e : h.n with
    | nil =>
      have := sDo_2x v h a b w hv hf e
      obtain ⟨g, s, n, c, d⟩ := h
      simp only at e
      subst e
      exact this
    | cons n0 ns =>
      have := sDo_2 v h a b n0 ns w hv hf e
      exact this
  · have := sDo_3 v h a b w hv hf
    unfold hDo
    rw [if_neg (by omega), if_neg (by omega), if_neg (by omega)]; exact this

end Go.Proofs.Ytkcogfgjabemfaa
