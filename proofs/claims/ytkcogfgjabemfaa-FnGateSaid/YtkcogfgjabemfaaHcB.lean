/- impl's services, one a capability, on a host behind a pointer. -/
import Derived.Test.YtkcogfgjabemfaaHcA
import Derived.RegionTactic
import Derived.BigRegion
namespace Go.Proofs.Ytkcogfgjabemfaa
open Go.RowKit
set_option linter.unusedVariables false
set_option linter.unusedSimpArgs false

/-- Block G holds this host; its rows lie in other blocks, from lo on. -/
def HBx (w : World) (lo G : Nat) (v : Value) (h : Ht) : Prop := (∃ x y z q, v = .agg #[x, y, z, .int .i64 h.c, q] ∧ Whole w G 27 #[x, y, z, .int .i64 h.c, q]) ∧ HostT w lo v h ∧ ∀ k, Mine v k → k ≠ G

/-- What a service comes to, of the cells that it takes: a below b. The host, the deed without its capability, the throw. -/
def hSvc (h : Ht) (c : Nat) (a b : Int) : Ht × Dd × Int :=
  if c = 0 then (if inB b 0 7 then (h, ⟨0, b, 0, h.s.getD b.toNat 0⟩, 0) else (h, noDd, -9))
  else if c = 1 then (if inB b 0 7 then ({ h with s := h.s.set b.toNat a }, ⟨0, b, a, 0⟩, 0) else (h, noDd, -9))
  else if c = 2 then ({ h with n := h.n.tail }, ⟨0, b, 0, h.n.headD 0⟩, 0)
  else (h, ⟨0, 0, 0, h.c⟩, 0)

/-- What a service leaves. -/
def SvcOf (w : World) (lo G : Nat) (v : Value) (r : Ht × Dd × Int) (e : Ending) (w' : World) : Prop :=
  e = .returned (.tuple #[.agg #[.int .i64 r.2.1.p, .int .i64 r.2.1.a, .int .i64 r.2.1.b, .int .i64 r.2.1.r], .int .i64 r.2.2]) ∧ (∃ v', HBx w' lo G v' r.1 ∧ ∀ k, Mine v' k → Mine v k) ∧ Only (fun k => k = G ∨ Mine v k) w w'

theorem hbx_form {w : World} {lo G : Nat} {v : Value} {h : Ht} (H : HBx w lo G v h) : ∃ A1 k1 A2 k2 A3 k3 A4 k4, v = .agg #[.slice A1 h.g.length k1, .slice A2 h.s.length k2, .slice A3 h.n.length k3, .int .i64 h.c, .slice A4 h.d.length k4] ∧
    Whole w G 27 #[.slice A1 h.g.length k1, .slice A2 h.s.length k2, .slice A3 h.n.length k3, .int .i64 h.c, .slice A4 h.d.length k4] := by
  obtain ⟨⟨x, y, z, q, e, hw⟩, ht, _⟩ := H
  obtain ⟨A1, k1, A2, k2, A3, k3, A4, k4, e2⟩ := hostIn_form (hostT_in ht)
  rw [e] at e2
  simp only [Value.agg.injEq, Array.mk.injEq, List.cons.injEq, and_true, true_and] at e2
  obtain ⟨rfl, rfl, rfl, rfl⟩ := e2
  exact ⟨_, _, _, _, _, _, _, _, e, hw⟩

theorem hbx_below {w w' : World} {lo G : Nat} {v : Value} {h : Ht} (H : HBx w lo G v h) (hb : Below w.heap.size w w') : HBx w' lo G v h := by
  obtain ⟨⟨x, y, z, q, e, hw⟩, ht, hm⟩ := H
  exact ⟨⟨x, y, z, q, e, whole_below hw hb⟩, hostT_below ht hb, hm⟩

theorem svc_quiet {w w' : World} {lo G : Nat} {v : Value} {h : Ht} {x : Dd} {t : Int} (H : HBx w lo G v h) (hb : Below w.heap.size w w') :
    SvcOf w lo G v (h, x, t) (.returned (.tuple #[.agg #[.int .i64 x.p, .int .i64 x.a, .int .i64 x.b, .int .i64 x.r], .int .i64 t])) w' := ⟨rfl, ⟨v, hbx_below H hb, fun _ h => h⟩, below_only hb⟩

set_option maxHeartbeats 400000 in
theorem isStored_any (a : Int) (w : World) :
    Calls Try.prog 157 #[.int .i64 a] w fun e w' => e = .returned (.bool (inB a 0 7)) ∧ w = w' := by
  by_cases h : 0 ≤ a
  · by_cases h' : a < 8
    · have E : Hid (inB a 0 7 = true) := Lib.hid (inB_of h (by omega))
      go_enter Try.func157, Try.ntmps157
      go_wp2
      go_ret
      exact ⟨ret_bool (by rw [E.out]), rfl⟩
    · have E : Hid (inB a 0 7 = false) := Lib.hid (by cases q : inB a 0 7; rfl; have := of_inB q; omega)
      go_enter Try.func157, Try.ntmps157
      go_wp2
      go_ret
      exact ⟨ret_bool (by rw [E.out]), rfl⟩
  · have E : Hid (inB a 0 7 = false) := Lib.hid (by cases q : inB a 0 7; rfl; have := of_inB q; omega)
    have h2 : a < 0 := by omega
    clear h
    go_enter Try.func157, Try.ntmps157
    go_wp2
    go_ret
    exact ⟨ret_bool (by rw [E.out]), rfl⟩

theorem hostT_secondRow {w : World} {lo : Nat} {x y z q : Value} {h : Ht} {c : Int} (H : HostT w lo (.agg #[x, y, z, .int .i64 c, q]) h) : Row w lo y h.s := by
  obtain ⟨x', y', z', q', e, h1, h2, h3, h4, _⟩ := H
  simp only [Value.agg.injEq, Array.mk.injEq, List.cons.injEq, and_true, true_and] at e
  obtain ⟨rfl, rfl, rfl, _, rfl⟩ := e
  exact h2

theorem hostT_thirdRow {w : World} {lo : Nat} {x y z q : Value} {h : Ht} {c : Int} (H : HostT w lo (.agg #[x, y, z, .int .i64 c, q]) h) : TRow w lo z h.n := by
  obtain ⟨x', y', z', q', e, h1, h2, h3, h4, _⟩ := H
  simp only [Value.agg.injEq, Array.mk.injEq, List.cons.injEq, and_true, true_and] at e
  obtain ⟨rfl, rfl, rfl, _, rfl⟩ := e
  exact h3

/-- A cell of a host's store written, and its own block elsewhere. -/
theorem hostT_put {w : World} {lo g m k : Nat} {x z q : Value} {h : Ht} (n : Int) (H : HostT w lo (.agg #[x, .slice (some ⟨g, 0, none⟩) h.s.length m, z, .int .i64 h.c, q]) h) :
    HostT (w.setCell ⟨g, k, none⟩ (.int .i64 n)) lo (.agg #[x, .slice (some ⟨g, 0, none⟩) h.s.length m, z, .int .i64 h.c, q]) { h with s := h.s.set k n } := by
  obtain ⟨x', y', z', q', e, h1, h2, h3, h4, p1, p2, p3, p4, p5, p6⟩ := H
  simp only [Value.agg.injEq, Array.mk.injEq, List.cons.injEq, and_true, true_and] at e
  obtain ⟨rfl, rfl, rfl, rfl⟩ := e
  exact ⟨_, _, _, _, rfl, borow_far h1 (parted_ne (parted_sym p1)), (row_set h2 k n).1, trow_keep h3 (by simp [World.setCell]) (fun j hj => Below.heap_setCell w _ _ j (parted_ne p4 j hj)), drow_far h4 (parted_ne p5), p1, p2, p3, p4, p5, p6⟩

theorem hostT_third {w : World} {lo : Nat} {x y z z' q : Value} {h : Ht} {N : List Int} (H : HostT w lo (.agg #[x, y, z, .int .i64 h.c, q]) h) (hz : TRow w lo z' N) (ho : ∀ g, z'.ownBlock = some g → z.ownBlock = some g) : HostT w lo (.agg #[x, y, z', .int .i64 h.c, q]) { h with n := N } := by
  obtain ⟨x', y', z0, q', e, h1, h2, h3, h4, p1, p2, p3, p4, p5, p6⟩ := H
  simp only [Value.agg.injEq, Array.mk.injEq, List.cons.injEq, and_true, true_and] at e
  obtain ⟨rfl, rfl, rfl, rfl⟩ := e
  exact ⟨_, _, _, _, rfl, h1, h2, hz, h4, p1, fun g hg hz' => p2 g hg (ho g hz'), p3, fun g hg hz' => p4 g hg (ho g hz'), p5, fun g hg => p6 g (ho g hg)⟩

theorem mine_third {x y z z' c q : Value} (ho : ∀ g, z'.ownBlock = some g → z.ownBlock = some g) {k : Nat} (hk : Mine (.agg #[x, y, z', c, q]) k) : Mine (.agg #[x, y, z, c, q]) k := by
  obtain ⟨u, hu, e⟩ := (mine_agg (l := [x, y, z', c, q])).1 hk
  simp only [List.mem_cons, List.not_mem_nil, or_false] at hu
  rcases hu with rfl | rfl | rfl | rfl | rfl
  · exact (mine_agg (l := [u, y, z, c, q])).2 ⟨u, by simp, e⟩
  · exact (mine_agg (l := [x, u, z, c, q])).2 ⟨u, by simp, e⟩
  · exact (mine_agg (l := [x, y, z, c, q])).2 ⟨z, by simp, ho _ e⟩
  · exact (mine_agg (l := [x, y, z, u, q])).2 ⟨u, by simp, e⟩
  · exact (mine_agg (l := [x, y, z, c, u])).2 ⟨u, by simp, e⟩

theorem only_set {S : Nat → Prop} {a w : World} (h : Only S a w) {g i : Nat} (hg : S g ∨ a.heap.size ≤ g) (u : Value) : Only S a (w.setCell ⟨g, i, none⟩ u) :=
  ⟨h.os, h.tape, h.output, by simpa [World.setCell] using h.size, fun k hk hs => (Below.heap_setCell w _ u k (by
    show k ≠ g
    rintro rfl
    rcases hg with q | q
    · exact hs q
    · omega)).trans (h.block k hk hs)⟩

theorem only_alloc {S : Nat → Prop} {a w : World} (h : Only S a w) (o : Obj) : Only S a (w.alloc o) := only_trans h (below_only (below_alloc (Below.refl _ _) o))

theorem only_drew {S : Nat → Prop} {a w : World} (h : Only S a w) : Only S a w.drew := ⟨h.os, h.tape, h.output, h.size, h.block⟩

theorem only_drewN {S : Nat → Prop} {a w : World} (h : Only S a w) (n : Nat) : Only S a (w.drewN n) := ⟨h.os, h.tape, h.output, h.size, h.block⟩

theorem whole_store {w : World} {g k i : Nat} {t : TypeId} {cs : Array Value} {u : Value} (h : Whole w g t cs) (hk : g ≠ k) : Whole (w.setCell ⟨k, i, none⟩ u) g t cs := whole_far h (p := ⟨k, i, none⟩) hk u

theorem whole_drewN {w : World} {g : Nat} {t : TypeId} {cs : Array Value} (h : Whole w g t cs) (n : Nat) : Whole (w.drewN n) g t cs := h

theorem only_refl (S : Nat → Prop) (w : World) : Only S w w := below_only (Below.refl _ _)

set_option maxRecDepth 100000 in
set_option maxHeartbeats 1000000 in
theorem readStore_bad (w : World) (lo G : Nat) (v : Value) (h : Ht) (b : Int) (gt mt n kc : Nat) (H : HBx w lo G v h) (hf : HtFine h) (hn : 1 ≤ n) (hm : n ≤ 2) (gl : gt < w.heap.size) (x0 : w.cell? ⟨gt, mt, none⟩ = some (.int .i64 b)) (hb : inB b 0 7 = false) :
    Calls Try.prog 134 #[.pointer (some ⟨G, 0, none⟩), .slice (some ⟨gt, mt, none⟩) n kc] w (SvcOf w lo G v (h, noDd, -9)) := by
  have HH := Lib.hid H
  obtain ⟨A1, k1, A2, k2, A3, k3, A4, k4, rfl, hw⟩ := hbx_form H
  obtain ⟨c0, c1, c2, c3, c4⟩ := five_cells hw
  have zg := whole_lt hw
  have HS8 := Lib.hid (fineH_s hf)
  have HN := Lib.hid (fineH_n hf)
  clear hw hf H
  go_enter Try.func134, Try.ntmps134
  go_wp2_with (first | (go_at_call 157; refine (isStored_any _ _).mono ?_; rintro e w' ⟨rfl, rfl⟩))
  refine bodyPost_ret (v := .tuple #[.agg #[.int .i64 0, .int .i64 0, .int .i64 0, .int .i64 0], .int .i64 (-9)]) (by simp [results, Try.results134, go_sem, *]) rfl ?_
  exact svc_quiet (x := noDd) HH.out (by repeat (first | with_reducible exact Below.refl _ _ | with_reducible refine Below.setCell ?_ (by simp) _ | with_reducible refine below_alloc ?_ _ | with_reducible refine below_drewN ?_ _))

set_option maxRecDepth 100000 in
set_option maxHeartbeats 1000000 in
theorem readStore_good (w : World) (lo G : Nat) (v : Value) (h : Ht) (j : Nat) (gt mt n kc : Nat) (H : HBx w lo G v h) (hf : HtFine h) (hn : 1 ≤ n) (hm : n ≤ 2) (gl : gt < w.heap.size) (x0 : w.cell? ⟨gt, mt, none⟩ = some (.int .i64 (j : Int))) (hj : j < 8) :
    Calls Try.prog 134 #[.pointer (some ⟨G, 0, none⟩), .slice (some ⟨gt, mt, none⟩) n kc] w (SvcOf w lo G v (h, ⟨0, (j : Int), 0, h.s.getD j 0⟩, 0)) := by
  have HH := Lib.hid H
  obtain ⟨A1, k1, A2, k2, A3, k3, A4, k4, rfl, hw⟩ := hbx_form H
  obtain ⟨c0, c1, c2, c3, c4⟩ := five_cells hw
  have zg := whole_lt hw
  have HS8 := Lib.hid (fineH_s hf)
  have HN := Lib.hid (fineH_n hf)
  have hj' : j < h.s.length := by have := HS8.out; omega
  obtain ⟨g, m2', hM, hg1, hg2, _⟩ := row_form (hostT_secondRow H.2.1) (by have := HS8.out; omega)
  simp only [Value.slice.injEq, true_and] at hM
  obtain ⟨rfl, rfl⟩ := hM
  have ko := row_cell (hostT_secondRow H.2.1) j hj'
  have kf := row_free (hostT_secondRow H.2.1) j
  have mg : Mine (.agg #[.slice A1 h.g.length k1, .slice (some ⟨g, 0, none⟩) h.s.length k2, .slice A3 h.n.length k3, .int .i64 h.c, .slice A4 h.d.length k4]) g := (mine_agg (l := [.slice A1 h.g.length k1, .slice (some ⟨g, 0, none⟩) h.s.length k2, .slice A3 h.n.length k3, .int .i64 h.c, .slice A4 h.d.length k4])).2 ⟨.slice (some ⟨g, 0, none⟩) h.s.length k2, by simp, rfl⟩
  have gne := H.2.2 g mg
  have t0 : inB (j : Int) 0 7 = true := inB_of (by omega) (by omega)
  rw [show h.s.getD j 0 = h.s[j] by simp [List.getD, hj']]
  clear hw hf H mg
  go_enter Try.func134, Try.ntmps134
  go_wp2_with (first | (go_at_call 157; refine (isStored_any _ _).mono ?_; rintro e w' ⟨rfl, rfl⟩))
  refine bodyPost_ret (v := .tuple #[.agg #[.int .i64 0, .int .i64 j, .int .i64 0, .int .i64 h.s[j]], .int .i64 0]) (by simp [results, Try.results134, go_sem, *]) rfl ?_
  exact svc_quiet (x := ⟨0, (j : Int), 0, h.s[j]⟩) HH.out (by repeat (first | with_reducible exact Below.refl _ _ | with_reducible refine Below.setCell ?_ (by simp) _ | with_reducible refine below_alloc ?_ _ | with_reducible refine below_drewN ?_ _))

set_option maxRecDepth 100000 in
set_option maxHeartbeats 1000000 in
theorem writeStore_bad (w : World) (lo G : Nat) (v : Value) (h : Ht) (a b : Int) (gt mt n kc : Nat) (H : HBx w lo G v h) (hf : HtFine h) (hn : 2 ≤ n) (hm : n ≤ 2) (gl : gt < w.heap.size) (x0 : w.cell? ⟨gt, mt, none⟩ = some (.int .i64 a)) (x1 : w.cell? ⟨gt, mt + 1, none⟩ = some (.int .i64 b)) (hb : inB b 0 7 = false) :
    Calls Try.prog 135 #[.pointer (some ⟨G, 0, none⟩), .slice (some ⟨gt, mt, none⟩) n kc] w (SvcOf w lo G v (h, noDd, -9)) := by
  have HH := Lib.hid H
  obtain ⟨A1, k1, A2, k2, A3, k3, A4, k4, rfl, hw⟩ := hbx_form H
  obtain ⟨c0, c1, c2, c3, c4⟩ := five_cells hw
  have zg := whole_lt hw
  have HS8 := Lib.hid (fineH_s hf)
  have HN := Lib.hid (fineH_n hf)
  clear hw hf H
  go_enter Try.func135, Try.ntmps135
  go_wp2
  go_quiet (fail)
  go_wp2_with (first | (go_at_call 157; refine (isStored_any _ _).mono ?_; rintro e w' ⟨rfl, rfl⟩))
  refine bodyPost_ret (v := .tuple #[.agg #[.int .i64 0, .int .i64 0, .int .i64 0, .int .i64 0], .int .i64 (-9)]) (by simp [results, Try.results135, go_sem, *]) rfl ?_
  exact svc_quiet (x := noDd) HH.out (by repeat (first | with_reducible exact Below.refl _ _ | with_reducible refine Below.setCell ?_ (by simp) _ | with_reducible refine below_alloc ?_ _ | with_reducible refine below_drewN ?_ _))

set_option maxRecDepth 100000 in
set_option maxHeartbeats 1000000 in
theorem writeStore_good (w : World) (lo G : Nat) (v : Value) (h : Ht) (a : Int) (j : Nat) (gt mt n kc : Nat) (H : HBx w lo G v h) (hf : HtFine h) (hn : 2 ≤ n) (hm : n ≤ 2) (gl : gt < w.heap.size) (x0 : w.cell? ⟨gt, mt, none⟩ = some (.int .i64 a)) (x1 : w.cell? ⟨gt, mt + 1, none⟩ = some (.int .i64 (j : Int))) (hj : j < 8) :
    Calls Try.prog 135 #[.pointer (some ⟨G, 0, none⟩), .slice (some ⟨gt, mt, none⟩) n kc] w (SvcOf w lo G v ({ h with s := h.s.set j a }, ⟨0, (j : Int), a, 0⟩, 0)) := by
  have HH := Lib.hid H
  obtain ⟨A1, k1, A2, k2, A3, k3, A4, k4, rfl, hw⟩ := hbx_form H
  obtain ⟨c0, c1, c2, c3, c4⟩ := five_cells hw
  have zg := whole_lt hw
  have HS8 := Lib.hid (fineH_s hf)
  have HN := Lib.hid (fineH_n hf)
  have hj' : j < h.s.length := by have := HS8.out; omega
  obtain ⟨g, m2', hM, hg1, hg2, _⟩ := row_form (hostT_secondRow H.2.1) (by have := HS8.out; omega)
  simp only [Value.slice.injEq, true_and] at hM
  obtain ⟨rfl, rfl⟩ := hM
  have ko := row_cell (hostT_secondRow H.2.1) j hj'
  have kf := row_free (hostT_secondRow H.2.1) j
  have mg : Mine (.agg #[.slice A1 h.g.length k1, .slice (some ⟨g, 0, none⟩) h.s.length k2, .slice A3 h.n.length k3, .int .i64 h.c, .slice A4 h.d.length k4]) g := (mine_agg (l := [.slice A1 h.g.length k1, .slice (some ⟨g, 0, none⟩) h.s.length k2, .slice A3 h.n.length k3, .int .i64 h.c, .slice A4 h.d.length k4])).2 ⟨.slice (some ⟨g, 0, none⟩) h.s.length k2, by simp, rfl⟩
  have gne := H.2.2 g mg
  have t0 : inB (j : Int) 0 7 = true := inB_of (by omega) (by omega)
  have MG := Lib.hid mg
  have HW := Lib.hid hw
  have HM := Lib.hid (fun k (hk : Mine _ k) => (hostT_mine H.2.1 hk).2)
  clear hw hf H mg
  go_enter Try.func135, Try.ntmps135
  go_wp2
  go_quiet (fail)
  go_wp2_with (first | (go_at_call 157; refine (isStored_any _ _).mono ?_; rintro e w' ⟨rfl, rfl⟩))
  refine bodyPost_ret (v := .tuple #[.agg #[.int .i64 0, .int .i64 j, .int .i64 a, .int .i64 0], .int .i64 0]) (by simp [results, Try.results135, go_sem, *]) rfl ?_
  refine ⟨rfl, ⟨.agg #[.slice A1 h.g.length k1, .slice (some ⟨g, 0, none⟩) h.s.length k2, .slice A3 h.n.length k3, .int .i64 h.c, .slice A4 h.d.length k4], ⟨⟨_, _, _, _, rfl, ?_⟩, ?_, HH.out.2.2⟩, fun _ q => q⟩, ?_⟩
  · repeat (first | with_reducible exact HW.out | ((with_reducible refine whole_store ?_ ?hh); case hh => omega) | with_reducible refine whole_alloc ?_ _ | with_reducible refine whole_drewN ?_ _)
  · iterate 4 refine hostT_store ?_ (fun k hk => by have := HM.out k hk; omega)
    refine hostT_put a ?_
    exact hostT_below HH.out.2.1 (by repeat (first | with_reducible exact Below.refl _ _ | with_reducible refine below_alloc ?_ _ | with_reducible refine below_drewN ?_ _))
  · repeat (first | with_reducible exact only_refl _ _ | ((with_reducible refine only_set ?_ ?hh _); case hh => (first | exact .inl (.inr MG.out) | exact .inr (by omega))) | with_reducible refine only_alloc ?_ _ | with_reducible refine only_drewN ?_ _)

set_option maxRecDepth 100000 in
set_option maxHeartbeats 1000000 in
theorem readClock_any (w : World) (lo G : Nat) (v : Value) (h : Ht) (tv : Value) (H : HBx w lo G v h) (hf : HtFine h) :
    Calls Try.prog 137 #[.pointer (some ⟨G, 0, none⟩), tv] w (SvcOf w lo G v (h, ⟨0, 0, 0, h.c⟩, 0)) := by
  have HH := Lib.hid H
  obtain ⟨A1, k1, A2, k2, A3, k3, A4, k4, rfl, hw⟩ := hbx_form H
  obtain ⟨c0, c1, c2, c3, c4⟩ := five_cells hw
  have zg := whole_lt hw
  have HS8 := Lib.hid (fineH_s hf)
  have HN := Lib.hid (fineH_n hf)
  clear hw hf H
  go_enter Try.func137, Try.ntmps137
  go_wp2
  refine bodyPost_ret (v := .tuple #[.agg #[.int .i64 0, .int .i64 0, .int .i64 0, .int .i64 h.c], .int .i64 0]) (by simp [results, Try.results137, go_sem, *]) rfl ?_
  exact svc_quiet (x := ⟨0, 0, 0, h.c⟩) HH.out (by repeat (first | with_reducible exact Below.refl _ _ | with_reducible refine Below.setCell ?_ (by simp) _ | with_reducible refine below_alloc ?_ _ | with_reducible refine below_drewN ?_ _))

set_option maxRecDepth 100000 in
set_option maxHeartbeats 1000000 in
theorem takeAnswer_none (w : World) (lo G : Nat) (v : Value) (h : Ht) (b : Int) (gt mt n kc : Nat) (H : HBx w lo G v h) (hf : HtFine h) (hn : 1 ≤ n) (hm : n ≤ 2) (gl : gt < w.heap.size) (x0 : w.cell? ⟨gt, mt, none⟩ = some (.int .i64 b)) (hq : h.n = []) :
    Calls Try.prog 136 #[.pointer (some ⟨G, 0, none⟩), .slice (some ⟨gt, mt, none⟩) n kc] w (SvcOf w lo G v (h, ⟨0, b, 0, 0⟩, 0)) := by
  have HH := Lib.hid H
  obtain ⟨A1, k1, A2, k2, A3, k3, A4, k4, rfl, hw⟩ := hbx_form H
  obtain ⟨c0, c1, c2, c3, c4⟩ := five_cells hw
  have zg := whole_lt hw
  have HS8 := Lib.hid (fineH_s hf)
  have HN := Lib.hid (fineH_n hf)
  have U0 := Lib.hid (show h.n.length = 0 by rw [hq]; rfl)
  rw [U0.out] at c2 HH ⊢
  clear hw hf H hq
  go_enter Try.func136, Try.ntmps136
  go_wp2
  refine bodyPost_ret (v := .tuple #[.agg #[.int .i64 0, .int .i64 b, .int .i64 0, .int .i64 0], .int .i64 0]) (by simp [results, Try.results136, go_sem, *]) rfl ?_
  exact svc_quiet (x := ⟨0, b, 0, 0⟩) HH.out (by repeat (first | with_reducible exact Below.refl _ _ | with_reducible refine Below.setCell ?_ (by simp) _ | with_reducible refine below_alloc ?_ _ | with_reducible refine below_drewN ?_ _))

set_option maxRecDepth 100000 in
set_option maxHeartbeats 1000000 in
theorem takeAnswer_one (w : World) (lo G : Nat) (v : Value) (h : Ht) (b n0 : Int) (ns : List Int) (gt mt n kc : Nat) (H : HBx w lo G v h) (hf : HtFine h) (hn : 1 ≤ n) (hm : n ≤ 2) (gl : gt < w.heap.size) (x0 : w.cell? ⟨gt, mt, none⟩ = some (.int .i64 b)) (hq : h.n = n0 :: ns) (hr : ∀ x y z q, v = .agg #[x, y, z, .int .i64 h.c, q] → Row w lo z h.n) (hk : ∀ x y A n k c q, v = .agg #[x, y, .slice A n k, c, q] → k = 1) :
    Calls Try.prog 136 #[.pointer (some ⟨G, 0, none⟩), .slice (some ⟨gt, mt, none⟩) n kc] w (SvcOf w lo G v ({ h with n := ns }, ⟨0, b, 0, n0⟩, 0)) := by
  have HH := Lib.hid H
  obtain ⟨A1, k1, A2, k2, A3, k3, A4, k4, rfl, hw⟩ := hbx_form H
  obtain ⟨c0, c1, c2, c3, c4⟩ := five_cells hw
  have zg := whole_lt hw
  have HS8 := Lib.hid (fineH_s hf)
  have HN := Lib.hid (fineH_n hf)
  have hrow := hr _ _ _ _ rfl
  have hcap := hk _ _ _ _ _ _ _ rfl
  have hl : h.n.length = ns.length + 1 := by rw [hq]; rfl
  obtain ⟨g, m3', hM, hg1, hg2, hgl, _⟩ := row_form hrow (by omega)
  simp only [Value.slice.injEq, true_and] at hM
  obtain ⟨rfl, rfl⟩ := hM
  have ko : w.cell? ⟨g, 0, none⟩ = some (.int .i64 n0) := by have := row_cell hrow 0 (by omega); simpa [hq] using this
  subst hcap
  have hln : h.n.length = 1 := by omega
  have hns : ns = [] := List.eq_nil_of_length_eq_zero (by omega)
  have HNS := Lib.hid hns
  clear hns
  have NL := Lib.hid hln
  rw [hln] at c2 HH hw ⊢
  have fw := whole_free hw
  have HW := Lib.hid hw
  have RT : Hid (TRow w lo (.slice (some ⟨g, 0, none⟩) 0 0) ns) := Lib.hid (by
    rw [hln] at hrow
    rw [HNS.out]; exact .inr (.inr ⟨rfl, g, rfl, hg1, hg2⟩))
  have HM := Lib.hid (fun k (hk : Mine _ k) => (hostT_mine HH.out.2.1 hk).2)
  have mg : Mine (.agg #[.slice A1 h.g.length k1, .slice A2 h.s.length k2, .slice (some ⟨g, 0, none⟩) 1 1, .int .i64 h.c, .slice A4 h.d.length k4]) g := (mine_agg (l := [.slice A1 h.g.length k1, .slice A2 h.s.length k2, .slice (some ⟨g, 0, none⟩) 1 1, .int .i64 h.c, .slice A4 h.d.length k4])).2 ⟨.slice (some ⟨g, 0, none⟩) 1 1, by simp, rfl⟩
  have MG := Lib.hid mg
  have gne := HH.out.2.2 g mg
  have NQ := Lib.hid hq
  clear hw hf H hq hr hk hrow hl hln mg hgl
  go_enter Try.func136, Try.ntmps136
  go_wp2
  refine bodyPost_ret (v := .tuple #[.agg #[.int .i64 0, .int .i64 b, .int .i64 0, .int .i64 n0], .int .i64 0]) (by simp [results, Try.results136, go_sem, *]) rfl ?_
  refine ⟨rfl, ⟨.agg #[.slice A1 h.g.length k1, .slice A2 h.s.length k2, .slice (some ⟨g, 0, none⟩) 0 0, .int .i64 h.c, .slice A4 h.d.length k4], ⟨⟨_, _, _, _, rfl, ?_⟩, ?_, ?_⟩, ?_⟩, ?_⟩
  · exact whole_alloc (whole_alloc (whole_set HW.out 2 _) _) _
  · refine hostT_below (w := w.setCell ⟨G, 2, none⟩ (.slice (some ⟨g, 0, none⟩) 0 0)) ?_ (below_alloc (below_alloc (Below.refl _ _) _) _)
    exact hostT_store (hostT_third HH.out.2.1 RT.out (fun k e => e)) (fun k hk => HH.out.2.2 k (mine_third (z := .slice (some ⟨g, 0, none⟩) 1 1) (z' := .slice (some ⟨g, 0, none⟩) 0 0) (fun k e => e) hk))
  · exact fun k hk => HH.out.2.2 k (mine_third (z := .slice (some ⟨g, 0, none⟩) 1 1) (z' := .slice (some ⟨g, 0, none⟩) 0 0) (fun k e => e) hk)
  · exact fun k hk => mine_third (z := .slice (some ⟨g, 0, none⟩) 1 1) (z' := .slice (some ⟨g, 0, none⟩) 0 0) (fun k e => e) hk
  · repeat (first | with_reducible exact only_refl _ _ | ((with_reducible refine only_set ?_ ?hh _); case hh => (first | exact .inl (.inl rfl) | exact .inr (by omega))) | with_reducible refine only_alloc ?_ _ | with_reducible refine only_drewN ?_ _)

set_option maxRecDepth 100000 in
set_option maxHeartbeats 1000000 in
theorem takeAnswer_more (w : World) (lo G : Nat) (v : Value) (h : Ht) (b n0 : Int) (ns : List Int) (gt mt n kc : Nat) (H : HBx w lo G v h) (hf : HtFine h) (hn : 1 ≤ n) (hm : n ≤ 2) (gl : gt < w.heap.size) (x0 : w.cell? ⟨gt, mt, none⟩ = some (.int .i64 b)) (hq : h.n = n0 :: ns) (hr : ∀ x y z q, v = .agg #[x, y, z, .int .i64 h.c, q] → Row w lo z h.n) (hk : ∀ x y A n k c q, v = .agg #[x, y, .slice A n k, c, q] → k ≠ 1) :
    Calls Try.prog 136 #[.pointer (some ⟨G, 0, none⟩), .slice (some ⟨gt, mt, none⟩) n kc] w (SvcOf w lo G v ({ h with n := ns }, ⟨0, b, 0, n0⟩, 0)) := by
  have HH := Lib.hid H
  obtain ⟨A1, k1, A2, k2, A3, k3, A4, k4, rfl, hw⟩ := hbx_form H
  obtain ⟨c0, c1, c2, c3, c4⟩ := five_cells hw
  have zg := whole_lt hw
  have HS8 := Lib.hid (fineH_s hf)
  have HN := Lib.hid (fineH_n hf)
  have hrow := hr _ _ _ _ rfl
  have hcap := hk _ _ _ _ _ _ _ rfl
  have hl : h.n.length = ns.length + 1 := by rw [hq]; rfl
  obtain ⟨g, m3', hM, hg1, hg2, hgl, _⟩ := row_form hrow (by omega)
  simp only [Value.slice.injEq, true_and] at hM
  obtain ⟨rfl, rfl⟩ := hM
  have ko : w.cell? ⟨g, 0, none⟩ = some (.int .i64 n0) := by have := row_cell hrow 0 (by omega); simpa [hq] using this
  obtain ⟨ln, hln⟩ : ∃ ln, h.n.length = ln + 1 := ⟨ns.length, hl⟩
  have LS := Lib.hid (show ln = ns.length by omega)
  have hm2 : ln + 1 ≤ k3 := by omega
  have hm3 : ln ≤ 20 := by have := HN.out; omega
  have NL := Lib.hid hln
  rw [hln] at c2 HH hw ⊢
  have fw := whole_free hw
  have HW := Lib.hid hw
  have RT : Hid (TRow w lo (.slice (some ⟨g, 1, none⟩) ln (k3 - 1)) ns) := Lib.hid (by
    rw [hln] at hrow
    refine .inr (.inl ⟨g, k3 - 1, n0, by rw [LS.out], ?_⟩)
    rw [show k3 - 1 + 1 = k3 by omega, ← hq, hln]
    exact hrow)
  have HM := Lib.hid (fun k (hk : Mine _ k) => (hostT_mine HH.out.2.1 hk).2)
  have mg : Mine (.agg #[.slice A1 h.g.length k1, .slice A2 h.s.length k2, .slice (some ⟨g, 0, none⟩) (ln + 1) k3, .int .i64 h.c, .slice A4 h.d.length k4]) g := (mine_agg (l := [.slice A1 h.g.length k1, .slice A2 h.s.length k2, .slice (some ⟨g, 0, none⟩) (ln + 1) k3, .int .i64 h.c, .slice A4 h.d.length k4])).2 ⟨.slice (some ⟨g, 0, none⟩) (ln + 1) k3, by simp, rfl⟩
  have MG := Lib.hid mg
  have gne := HH.out.2.2 g mg
  have NQ := Lib.hid hq
  clear hw hf H hq hr hk hrow hl hln mg hgl
  go_enter Try.func136, Try.ntmps136
  go_wp2
  refine bodyPost_ret (v := .tuple #[.agg #[.int .i64 0, .int .i64 b, .int .i64 0, .int .i64 n0], .int .i64 0]) (by simp [results, Try.results136, go_sem, *]) rfl ?_
  refine ⟨rfl, ⟨.agg #[.slice A1 h.g.length k1, .slice A2 h.s.length k2, .slice (some ⟨g, 1, none⟩) ln (k3 - 1), .int .i64 h.c, .slice A4 h.d.length k4], ⟨⟨_, _, _, _, rfl, ?_⟩, ?_, ?_⟩, ?_⟩, ?_⟩
  · exact whole_alloc (whole_alloc (whole_set HW.out 2 _) _) _
  · refine hostT_below (w := w.setCell ⟨G, 2, none⟩ (.slice (some ⟨g, 1, none⟩) ln (k3 - 1))) ?_ (below_alloc (below_alloc (Below.refl _ _) _) _)
    exact hostT_store (hostT_third HH.out.2.1 RT.out (fun k e => e)) (fun k hk => HH.out.2.2 k (mine_third (z := .slice (some ⟨g, 0, none⟩) (ln + 1) k3) (z' := .slice (some ⟨g, 1, none⟩) ln (k3 - 1)) (fun k e => e) hk))
  · exact fun k hk => HH.out.2.2 k (mine_third (z := .slice (some ⟨g, 0, none⟩) (ln + 1) k3) (z' := .slice (some ⟨g, 1, none⟩) ln (k3 - 1)) (fun k e => e) hk)
  · exact fun k hk => mine_third (z := .slice (some ⟨g, 0, none⟩) (ln + 1) k3) (z' := .slice (some ⟨g, 1, none⟩) ln (k3 - 1)) (fun k e => e) hk
  · repeat (first | with_reducible exact only_refl _ _ | ((with_reducible refine only_set ?_ ?hh _); case hh => (first | exact .inl (.inl rfl) | exact .inr (by omega))) | with_reducible refine only_alloc ?_ _ | with_reducible refine only_drewN ?_ _)

end Go.Proofs.Ytkcogfgjabemfaa
