/- AnswerHost, the given side. -/
import Derived.Test.YthhaimolcgkpaaaHsE
namespace Go.Proofs.Ythhaimolcgkpaaa
open Go.RowKit
set_option linter.unusedVariables false
set_option linter.unusedSimpArgs false

/-- Five cells written, one after the other. -/
def set5 (w : World) (g : Nat) (a b c d e : Value) : World := ((((w.setCell ⟨g, 0, none⟩ a).setCell ⟨g, 1, none⟩ b).setCell ⟨g, 2, none⟩ c).setCell ⟨g, 3, none⟩ d).setCell ⟨g, 4, none⟩ e

theorem whole_set5 {w : World} {g : Nat} {t : TypeId} {p0 p1 p2 p3 p4 : Value} (h : Whole w g t #[p0, p1, p2, p3, p4]) (a b c d e : Value) : Whole (set5 w g a b c d e) g t #[a, b, c, d, e] :=
  whole_set (whole_set (whole_set (whole_set (whole_set h 0 a) 1 b) 2 c) 3 d) 4 e

theorem whole_far5 {w : World} {g k : Nat} {t : TypeId} {cs : Array Value} (h : Whole w g t cs) (hp : g ≠ k) (a b c d e : Value) : Whole (set5 w k a b c d e) g t cs :=
  whole_far (whole_far (whole_far (whole_far (whole_far h (p := ⟨k, 0, none⟩) hp a) (p := ⟨k, 1, none⟩) hp b) (p := ⟨k, 2, none⟩) hp c) (p := ⟨k, 3, none⟩) hp d) (p := ⟨k, 4, none⟩) hp e

theorem below_set5 {B k : Nat} {w0 w : World} (hb : Below B w0 w) (hk : B ≤ k) (a b c d e : Value) : Below B w0 (set5 w k a b c d e) :=
  ((((hb.setCell (p := ⟨k, 0, none⟩) hk a).setCell (p := ⟨k, 1, none⟩) hk b).setCell (p := ⟨k, 2, none⟩) hk c).setCell (p := ⟨k, 3, none⟩) hk d).setCell (p := ⟨k, 4, none⟩) hk e

theorem hostOf_set5 {w : World} {lo hi k : Nat} {v : Value} {h : Ht} (H : HostOf w lo hi v h) (hk : k < lo) (a b c d e : Value) : HostOf (set5 w k a b c d e) lo hi v h :=
  hostOf_store (hostOf_store (hostOf_store (hostOf_store (hostOf_store H hk) hk) hk) hk) hk

theorem set5_size (w : World) (k : Nat) (a b c d e : Value) : (set5 w k a b c d e).heap.size = w.heap.size := by unfold set5; simp

theorem hostOf_alloc {w : World} {lo hi : Nat} {v : Value} {h : Ht} (H : HostOf w lo hi v h) (o : Obj) : HostOf (w.alloc o) lo hi v h := hostOf_below H (below_alloc (Below.refl _ _) o)

theorem hostOf_thirdRow {w : World} {lo hi : Nat} {x y z q : Value} {h : Ht} {c : Int} (H : HostOf w lo hi (.agg #[x, y, z, .int .i64 c, q]) h) : Row w lo z h.n := by
  obtain ⟨x', y', z', q', e, h1, h2, h3, h4, _⟩ := H
  simp only [Value.agg.injEq, Array.mk.injEq, List.cons.injEq, and_true, true_and] at e
  obtain ⟨rfl, rfl, rfl, _, rfl⟩ := e
  exact h3

theorem ints_oneAt (w : World) (n : Int) {g : Nat} (hg : g = w.heap.size) : Ints (w.alloc (.cells #[.int .i64 n] 3)) (.slice (some ⟨g, 0, none⟩) 1 1) [n] := by
  subst hg
  exact ints_one w n

/-- A host's answers turned in a row of their own. -/
theorem hostOf_third {w w' : World} {lo hi : Nat} {x y z z' q : Value} {h : Ht} {N : List Int} (H : HostOf w lo hi (.agg #[x, y, z, .int .i64 h.c, q]) h) (hg : w.grownBy w' z.ownBlock) (hr : Row w' lo z' N)
    (ho : ∀ g, z'.ownBlock = some g → z.ownBlock = some g ∨ hi ≤ g) (hi' : hi ≤ w'.heap.size) : HostOf w' lo w'.heap.size (.agg #[x, y, z', .int .i64 h.c, q]) { h with n := N } := by
  obtain ⟨x', y', z0, q', e, h1, h2, h3, h4, p1, p2, p3, p4, p5, p6, hh⟩ := H
  simp only [Value.agg.injEq, Array.mk.injEq, List.cons.injEq, and_true, true_and] at e
  obtain ⟨rfl, rfl, rfl, rfl⟩ := e
  have pt : ∀ a : Value, Parted a z → (∀ g, a.ownBlock = some g → g < hi) → Parted a z' := fun a p l g ha hz => by
    rcases ho g hz with h | h
    · exact p g ha h
    · have := l g ha; omega
  refine ⟨_, _, _, _, rfl, borow_mark h1 hg p2, row_mark h2 hg p4, hr, drow_mark h4 hg (parted_sym p6), p1, pt _ p2 (fun g hg => hh g (.inl hg)), p3, pt _ p4 (fun g hg => hh g (.inr (.inl hg))), p5, parted_sym (pt _ (parted_sym p6) (fun g hg => hh g (.inr (.inr (.inr hg))))), fun g hg => ?_⟩
  rcases hg with hg | hg | hg | hg
  · exact Nat.lt_of_lt_of_le (hh g (.inl hg)) hi'
  · exact Nat.lt_of_lt_of_le (hh g (.inr (.inl hg))) hi'
  · exact (row_lt hr g hg).2
  · exact Nat.lt_of_lt_of_le (hh g (.inr (.inr (.inr hg)))) hi'

/-- What laying an answer by comes to. -/
def hAnswer (h : Ht) (n : Int) : Ht × Int := if hOK h then if cellB n then if h.n.length = 20 then (h, 7) else ({ h with n := h.n ++ [n] }, 0) else (noHt, 4) else (noHt, 1)

set_option maxRecDepth 100000 in
set_option maxHeartbeats 2000000 in
theorem sAnswer_any (v : Value) (h : Ht) (n : Int) (w : World) (hv : HostIn w v h) :
    Calls Try.prog 30 #[v, .int .i64 n] w (HResOf w (hAnswer h n)) := by
  have HH := Lib.hid hv
  obtain ⟨A1, k1, A2, k2, A3, k3, A4, k4, rfl⟩ := hostIn_form hv
  clear hv
  cases t0 : hOK h
  · have R : Hid (hAnswer h n = (noHt, 1)) := Lib.hid (by unfold hAnswer; rw [t0]; rfl)
    go_enter Try.func30, Try.ntmps30
    go_wp2_with fail
    refine (sHOK_any _ h _ (hostIn_below HH.out (below_alloc (below_alloc (Below.refl _ _) _) _))).mono ?_
    rintro e w1 ⟨rfl, hb⟩
    have B1 : Below w.heap.size w w1 := below_step (below_alloc (below_alloc (Below.refl _ _) _) _) hb
    have T1 := whole_b hb (whole_new1 w _ _ _)
    obtain ⟨r0, r1, r2, r3, r4⟩ := five_cells T1
    have fr := whole_free T1
    have z1 := whole_lt T1
    clear hb
    rw [t0]
    go_wp2
    refine bodyPost_ret (v := .tuple #[.agg #[.slice none 0 0, .slice none 0 0, .slice none 0 0, .int .i64 0, .slice none 0 0], .int .i64 1]) (by simp [results, Try.results30, go_sem, *]) rfl ?_
    rw [R.out]
    refine hres_none ?_
    repeat (first | with_reducible exact B1 | with_reducible refine Below.setCell ?_ (by simp; try omega) _)
  · have hf := hOK_fine t0
    cases t1 : cellB n
    · have R : Hid (hAnswer h n = (noHt, 4)) := Lib.hid (by unfold hAnswer; rw [t0, t1]; rfl)
      go_enter Try.func30, Try.ntmps30
      go_wp2_with fail
      refine (sHOK_any _ h _ (hostIn_below HH.out (below_alloc (below_alloc (Below.refl _ _) _) _))).mono ?_
      rintro e w1 ⟨rfl, hb⟩
      have B1 : Below w.heap.size w w1 := below_step (below_alloc (below_alloc (Below.refl _ _) _) _) hb
      have T1 := whole_b hb (whole_new1 w _ _ _)
      obtain ⟨r0, r1, r2, r3, r4⟩ := five_cells T1
      have fr := whole_free T1
      have z1 := whole_lt T1
      clear hb hf
      rw [t0]
      go_wp2_with (go_at_call 78; refine (sCell_any _ _).mono ?_; rintro e w' ⟨rfl, rfl⟩)
      refine bodyPost_ret (v := .tuple #[.agg #[.slice none 0 0, .slice none 0 0, .slice none 0 0, .int .i64 0, .slice none 0 0], .int .i64 4]) (by simp [results, Try.results30, go_sem, *]) rfl ?_
      rw [R.out]
      refine hres_none ?_
      repeat (first | with_reducible exact B1 | with_reducible refine Below.setCell ?_ (by simp; try omega) _)
    · have HS := Lib.hid (fineH_small hf)
      have HN := Lib.hid (fineH_n hf)
      clear hf
      by_cases h20 : h.n.length = 20
      · have R : Hid (hAnswer h n = (h, 7)) := Lib.hid (by unfold hAnswer; rw [t0, t1]; simp [h20])
        have u0 : ((h.n.length : Int) == 20) = true := by rw [beq_iff_eq]; omega
        clear h20
        go_enter Try.func30, Try.ntmps30
        go_wp2_with fail
        refine (sHOK_any _ h _ (hostIn_below HH.out (below_alloc (below_alloc (Below.refl _ _) _) _))).mono ?_
        rintro e w1 ⟨rfl, hb⟩
        have B1 : Below w.heap.size w w1 := below_step (below_alloc (below_alloc (Below.refl _ _) _) _) hb
        have V1 := whole_b hb (whole_alloc (whole_new w _ _) _)
        have T1 := whole_b hb (whole_new1 w _ _ _)
        obtain ⟨c0, c1, c2, c3, c4⟩ := five_cells V1
        clear hb
        rw [t0]
        go_wp2_with (first
          | (go_at_call 78; refine (sCell_any _ _).mono ?_; rintro e w' ⟨rfl, rfl⟩)
          | (go_at_call 59; refine (sHOwn_any _ h _ (hostIn_below HH.out B1) HS.out).mono ?_; rintro e w2 ⟨u, rfl, hu, hb⟩
             clear c0 c1 c2 c3 c4
             have B2 : Below w.heap.size w w2 := below_step B1 hb
             have T2 := whole_b hb T1
             have HU2 := Lib.hid hu
             obtain ⟨M1, m1, M2, m2, M3, m3, M4, m4, rfl⟩ := hostIn_form (hostOf_in hu)
             obtain ⟨r0, r1, r2, r3, r4⟩ := five_cells T2
             have fr := whole_free T2
             have z1 := whole_lt T1
             have z2 := whole_lt T2
             clear hb hu))
        refine bodyPost_ret (v := .tuple #[.agg #[.slice M1 h.g.length m1, .slice M2 h.s.length m2, .slice M3 h.n.length m3, .int .i64 h.c, .slice M4 h.d.length m4], .int .i64 7]) (by simp [results, Try.results30, go_sem, *]) rfl ?_
        rw [R.out]
        refine ⟨_, rfl, hostOf_top (hi := w2.heap.size) (hostOf_base (lo := w1.heap.size) ?_ (by omega)) (by simp), ?_⟩
        · show HostOf _ _ _ _ h
          repeat (first | with_reducible exact HU2.out | ((with_reducible refine hostOf_store ?_ ?hh); case hh => omega))
        · repeat (first | with_reducible exact B2 | with_reducible refine Below.setCell ?_ (by simp; try omega) _)
      · have R : Hid (hAnswer h n = ({ h with n := h.n ++ [n] }, 0)) := Lib.hid (by unfold hAnswer; rw [t0, t1]; simp [h20])
        have u0 : ((h.n.length : Int) == 20) = false := by rw [beq_eq_false_iff_ne]; omega
        clear h20
        go_enter Try.func30, Try.ntmps30
        go_wp2_with fail
        refine (sHOK_any _ h _ (hostIn_below HH.out (below_alloc (below_alloc (Below.refl _ _) _) _))).mono ?_
        rintro e w1 ⟨rfl, hb⟩
        have B1 : Below w.heap.size w w1 := below_step (below_alloc (below_alloc (Below.refl _ _) _) _) hb
        have V1 := whole_b hb (whole_alloc (whole_new w _ _) _)
        have T1 := whole_b hb (whole_new1 w _ _ _)
        obtain ⟨c0, c1, c2, c3, c4⟩ := five_cells V1
        clear hb
        rw [t0]
        go_wp2_with (first
          | (go_at_call 78; refine (sCell_any _ _).mono ?_; rintro e w' ⟨rfl, rfl⟩)
          | (go_at_call 59; refine (sHOwn_any _ h _ (hostIn_below HH.out B1) HS.out).mono ?_; rintro e w2 ⟨u, rfl, hu, hb⟩
             clear c0 c1 c2 c3 c4
             have B2 : Below w.heap.size w w2 := below_step B1 hb
             have V2 := whole_b hb V1
             have T2 := whole_b hb T1
             obtain ⟨M1, m1, M2, m2, M3, m3, M4, m4, rfl⟩ := hostIn_form (hostOf_in hu)
             have z1 := whole_lt T1
             have z2 := whole_lt T2
             have z3 : w1.heap.size ≤ w2.heap.size := hb.size
             have H3 := hostOf_set5 (k := w.heap.size) hu (by omega) (.slice M1 h.g.length m1) (.slice M2 h.s.length m2) (.slice M3 h.n.length m3) (.int .i64 h.c) (.slice M4 h.d.length m4)
             have V3 := whole_set5 V2 (.slice M1 h.g.length m1) (.slice M2 h.s.length m2) (.slice M3 h.n.length m3) (.int .i64 h.c) (.slice M4 h.d.length m4)
             have T3 := whole_far5 T2 (k := w.heap.size) (by simp) (.slice M1 h.g.length m1) (.slice M2 h.s.length m2) (.slice M3 h.n.length m3) (.int .i64 h.c) (.slice M4 h.d.length m4)
             have B3 := below_set5 B2 (k := w.heap.size) (Nat.le_refl _) (.slice M1 h.g.length m1) (.slice M2 h.s.length m2) (.slice M3 h.n.length m3) (.int .i64 h.c) (.slice M4 h.d.length m4)
             obtain ⟨c0, c1, c2, c3, c4⟩ := five_cells V2
             have fv := whole_free V2
             have H3' := Lib.hid H3
             have RN := hostOf_thirdRow H3
             clear hb hu H3)
          | (at_builtin; refine wpList_append_ints rfl (.tmp 23) (.tmp 25) rfl rfl w1.heap.size (.slice M3 h.n.length m3) h.n (row_alloc RN _) (.slice (some ⟨w2.heap.size, 0, none⟩) 1 1) [n] (ints_oneAt _ n (by simp)) rfl rfl (by have := HN.out; simp; omega) (by simp; omega) ?_
             clear c0 c1 c2 c3 c4 fv
             intro v2 w4 hr hg hat
             have G4 := (below_alloc (Below.refl _ _) _ : Below _ (set5 w2 w.heap.size (.slice M1 h.g.length m1) (.slice M2 h.s.length m2) (.slice M3 h.n.length m3) (.int .i64 h.c) (.slice M4 h.d.length m4)) ((set5 w2 w.heap.size (.slice M1 h.g.length m1) (.slice M2 h.s.length m2) (.slice M3 h.n.length m3) (.int .i64 h.c) (.slice M4 h.d.length m4)).alloc (.cells #[.int .i64 n] 3)))
             have H4 := hostOf_third (hostOf_alloc H3'.out _) hg hr (fun g e => by
               rcases hat with hat | hat
               · exact .inl (by rw [← hat]; exact e)
               · rw [hat] at e; injection e with e; right; subst e; simp [set5_size]) (by have := hg.size; simp [set5_size] at this; omega)
             obtain ⟨_, C3, j3, rfl, _⟩ := row_ints hr
             have nv : some w.heap.size ≠ (Value.slice M3 h.n.length m3).ownBlock := fun e => by have := (row_lt RN _ e.symm).1; omega
             have nt : some (w.heap.size + 1) ≠ (Value.slice M3 h.n.length m3).ownBlock := fun e => by have := (row_lt RN _ e.symm).1; omega
             have V4 := whole_keep (whole_alloc V3 _) (hg.block _ (by simp [set5_size]; omega) nv)
             have T4 := whole_keep (whole_alloc T3 _) (hg.block _ (by simp [set5_size]; omega) nt)
             have B4 : Below w.heap.size w w4 := (below_alloc B3 _).grown hg (by simp [set5_size]; omega) (fun k hk => by have := (row_lt RN k hk).1; omega)
             obtain ⟨c0, c1, c2, c3, c4⟩ := five_cells V4
             obtain ⟨r0, r1, r2, r3, r4⟩ := five_cells T4
             have fv := whole_free V4
             have fr := whole_free T4
             have H4' := Lib.hid H4
             have z4 := whole_lt T4
             clear hr hg hat G4 RN H4))
        refine bodyPost_ret (v := .tuple #[.agg #[.slice M1 h.g.length m1, .slice M2 h.s.length m2, .slice C3 (h.n ++ [n]).length j3, .int .i64 h.c, .slice M4 h.d.length m4], .int .i64 0]) (by simp [results, Try.results30, go_sem, *]) rfl ?_
        rw [R.out]
        refine ⟨_, rfl, hostOf_top (hi := w4.heap.size) (hostOf_base (lo := w1.heap.size) ?_ (by omega)) (by simp), ?_⟩
        · show HostOf _ _ _ _ { h with n := h.n ++ [n] }
          repeat (first | with_reducible exact H4'.out | ((with_reducible refine hostOf_store ?_ ?hh); case hh => omega))
        · repeat (first | with_reducible exact B4 | with_reducible refine Below.setCell ?_ (by simp; try omega) _)

end Go.Proofs.Ythhaimolcgkpaaa
