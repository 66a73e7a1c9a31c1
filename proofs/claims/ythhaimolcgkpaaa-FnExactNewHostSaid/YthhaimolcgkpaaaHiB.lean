/- NewHost, GrantCap, AnswerHost: impl's side. -/
import Derived.Test.YthhaimolcgkpaaaHiA
import Derived.Test.YthhaimolcgkpaaaHsG
import Derived.Test.YthhaimolcgkpaaaOnl
namespace Go.Proofs.Ythhaimolcgkpaaa
open Go.RowKit
set_option linter.unusedVariables false
set_option linter.unusedSimpArgs false

theorem hostOf_off {w : World} {lo hi g i : Nat} {v u : Value} {h : Ht} (H : HostOf w lo hi v h) (hn : ∀ k, Mine v k → k ≠ g) : HostOf (w.setCell ⟨g, i, none⟩ u) lo hi v h :=
  hostOf_only (S := fun k => k = g) H ⟨rfl, rfl, rfl, by simp [World.setCell], fun k _ hk => Below.heap_setCell w _ u k hk⟩ hn

theorem hnew_fin2 {w W : World} {g s : Nat} (h1 : Whole W g 4 #[.bool false, .bool false, .bool false, .bool false])
    (h2 : Whole W s 3 #[.int .i64 0, .int .i64 0, .int .i64 0, .int .i64 0, .int .i64 0, .int .i64 0, .int .i64 0, .int .i64 0])
    (l : w.heap.size ≤ g ∧ w.heap.size ≤ s) (e : g ≠ s) (hb : Below w.heap.size w W) :
    HCopyOf w newHt (.returned (.agg #[.slice (some ⟨g, 0, none⟩) 4 4, .slice (some ⟨s, 0, none⟩) 8 8, .slice none 0 0, .int .i64 0, .slice none 0 0])) W := by
  obtain ⟨l1, l2⟩ := l
  have pt : Parted (.slice (some ⟨g, 0, none⟩) 4 4) (.slice (some ⟨s, 0, none⟩) 8 8) := fun k hk hk2 => by
    simp [Value.ownBlock] at hk hk2
    omega
  refine ⟨_, rfl, hostOf_rows (h := newHt) ?_ ?_ (row_nil _ _) (drow_nil _ _) pt (parted_sym (parted_nil _)) (parted_sym (parted_nil _)) (parted_sym (parted_nil _)) (parted_sym (parted_nil _)) (parted_nil _), hb⟩
  · exact borow_whole (zs := List.replicate 4 false) h1 l1 (by unfold maxLen; simp)
  · exact row_whole (zs := List.replicate 8 0) h2 l2 (by unfold maxLen; simp)

set_option maxRecDepth 100000 in
set_option maxHeartbeats 2000000 in
theorem iNewHost_any (w : World) : Calls Try.prog 21 #[] w (HCopyOf w newHt) := by
  have mb := make_b
  have mi := make_i
  go_enter Try.func21, Try.ntmps21
  go_wp2
  go_region
  all_goals
    go_wp2
    apply bodyPost_ret
    · simp [results, Try.results21, go_sem, *]
      rfl
    · rfl
    refine hnew_fin2 ?_ ?_ ⟨by omega, by omega⟩ (by omega) ?_
    · refine whole_drew ?_
      repeat (first | with_reducible exact whole_newAt (by simp) | with_reducible refine whole_alloc ?_ _)
    · refine whole_drew ?_
      repeat (first | with_reducible exact whole_newAt (by simp) | with_reducible refine whole_alloc ?_ _)
    · repeat (first | with_reducible exact Below.refl _ _ | with_reducible refine below_alloc ?_ _ | with_reducible refine Below.drew ?_)

set_option maxRecDepth 100000 in
set_option maxHeartbeats 2000000 in
theorem iGrantCap_any (v : Value) (h : Ht) (c : Int) (yes : Bool) (w : World) (hv : HostIn w v h) :
    Calls Try.prog 17 #[v, .int .i64 c, .bool yes] w (HResOf w (hGrant h c yes)) := by
  have HH := Lib.hid hv
  obtain ⟨A1, k1, A2, k2, A3, k3, A4, k4, rfl⟩ := hostIn_form hv
  clear hv
  cases t0 : hOK h
  · have R : Hid (hGrant h c yes = (noHt, 1)) := Lib.hid (by unfold hGrant; rw [t0]; rfl)
    go_enter Try.func17, Try.ntmps17
    go_wp2_with fail
    refine (iHOK_any _ h _ (hostIn_below HH.out (below_alloc (below_alloc (Below.refl _ _) _) _))).mono ?_
    rintro e w1 ⟨rfl, hb⟩
    have B1 : Below w.heap.size w w1 := below_step (below_alloc (below_alloc (Below.refl _ _) _) _) hb
    have V1 := whole_b hb (whole_alloc (whole_new w _ _) _)
    have T1 := whole_b hb (whole_new1 w _ _ _)
    have z1 := whole_lt T1
    clear hb
    rw [t0]
    obtain ⟨r0, r1, r2, r3, r4⟩ := five_cells T1
    have fr := whole_free T1
    go_wp2
    refine bodyPost_ret (v := .tuple #[.agg #[.slice none 0 0, .slice none 0 0, .slice none 0 0, .int .i64 0, .slice none 0 0], .int .i64 1]) (by simp [results, Try.results17, go_sem, *]) rfl ?_
    rw [R.out]
    refine hres_none ?_
    repeat (first | with_reducible exact B1 | with_reducible refine Below.setCell ?_ (by simp; try omega) _)
  · have hf := hOK_fine t0
    cases t1 : inB c 0 3
    · have R : Hid (hGrant h c yes = (noHt, 9)) := Lib.hid (by unfold hGrant; rw [t0, t1]; rfl)
      clear hf
      go_enter Try.func17, Try.ntmps17
      go_wp2_with fail
      refine (iHOK_any _ h _ (hostIn_below HH.out (below_alloc (below_alloc (Below.refl _ _) _) _))).mono ?_
      rintro e w1 ⟨rfl, hb⟩
      have B1 : Below w.heap.size w w1 := below_step (below_alloc (below_alloc (Below.refl _ _) _) _) hb
      have V1 := whole_b hb (whole_alloc (whole_new w _ _) _)
      have T1 := whole_b hb (whole_new1 w _ _ _)
      have z1 := whole_lt T1
      clear hb
      rw [t0]
      obtain ⟨r0, r1, r2, r3, r4⟩ := five_cells T1
      have fr := whole_free T1
      go_wp2_with (go_at_call 51; refine (isCap_any _ _).mono ?_; rintro e w' ⟨rfl, rfl⟩)
      refine bodyPost_ret (v := .tuple #[.agg #[.slice none 0 0, .slice none 0 0, .slice none 0 0, .int .i64 0, .slice none 0 0], .int .i64 9]) (by simp [results, Try.results17, go_sem, *]) rfl ?_
      rw [R.out]
      refine hres_none ?_
      repeat (first | with_reducible exact B1 | with_reducible refine Below.setCell ?_ (by simp; try omega) _)
    · obtain ⟨q0, q1⟩ := of_inB t1
      obtain ⟨k, rfl⟩ : ∃ k : Nat, c = k := ⟨c.toNat, by omega⟩
      have R : Hid (hGrant h k yes = ({ h with g := h.g.set k yes }, 0)) := Lib.hid (by unfold hGrant; rw [t0, t1]; rfl)
      have h4 := fineH_g hf
      have hk : Hid (k < h.g.length) := Lib.hid (by omega)
      have hkk : k < h.g.length := hk.out
      have hgl : Hid (0 < h.g.length) := Lib.hid (by omega)
      have HS := Lib.hid (fineH_small hf)
      clear q0 q1 hf h4
      go_enter Try.func17, Try.ntmps17
      go_wp2_with fail
      refine (iHOK_any _ h _ (hostIn_below HH.out (below_alloc (below_alloc (Below.refl _ _) _) _))).mono ?_
      rintro e w1 ⟨rfl, hb⟩
      have B1 : Below w.heap.size w w1 := below_step (below_alloc (below_alloc (Below.refl _ _) _) _) hb
      have V1 := whole_b hb (whole_alloc (whole_new w _ _) _)
      have T1 := whole_b hb (whole_new1 w _ _ _)
      have z1 := whole_lt T1
      clear hb
      rw [t0]
      obtain ⟨c0, c1, c2, c3, c4⟩ := five_cells V1
      go_wp2_with (first
        | (go_at_call 51; refine (isCap_any _ _).mono ?_; rintro e w' ⟨rfl, rfl⟩)
        | (go_at_call 52; refine (ownHost_any _ h _ (hostIn_below HH.out B1) HS.out).mono ?_; rintro e w2 ⟨u, rfl, hu, hb⟩
           clear c0 c1 c2 c3 c4
           have B2 : Below w.heap.size w w2 := below_step B1 hb
           have T2 := whole_b hb T1
           have HU2 := Lib.hid hu
           have HUF := hu
           obtain ⟨M1, m1, M2, m2, M3, m3, M4, m4, rfl⟩ := hostIn_form (hostOf_in hu)
           obtain ⟨r0, r1, r2, r3, r4⟩ := five_cells T2
           have fr := whole_free T2
           have z2 := whole_lt T2
           have z3 : w1.heap.size ≤ w2.heap.size := hb.size
           clear hb hu
           obtain ⟨x', y', z', q', he, hx, _⟩ := HUF
           simp only [Value.agg.injEq, Array.mk.injEq, List.cons.injEq, and_true, true_and] at he
           obtain ⟨rfl, rfl, rfl, rfl⟩ := he
           obtain ⟨g, m', hM, hg1, hg2, _⟩ := borow_form hx hgl.out
           simp only [Value.slice.injEq, true_and] at hM
           obtain ⟨rfl, rfl⟩ := hM
           have ko := borow_cell hx k hk.out
           have kf := borow_free hx k
           have ne0 : g ≠ w.heap.size + 1 := by omega
           have ne1 : w.heap.size + 1 ≠ g := by omega
           have ne2 : g ≠ w2.heap.size := by omega
           have ne3 : w2.heap.size ≠ g := by omega
           clear hx))
      refine bodyPost_ret (v := .tuple #[.agg #[.slice (some ⟨g, 0, none⟩) h.g.length m1, .slice M2 h.s.length m2, .slice M3 h.n.length m3, .int .i64 h.c, .slice M4 h.d.length m4], .int .i64 0]) (by simp [results, Try.results17, go_sem, *]) rfl ?_
      rw [R.out]
      refine ⟨_, rfl, hostOf_top (hi := w2.heap.size) (hostOf_base (lo := w1.heap.size) ?_ (by omega)) (by simp; try omega), ?_⟩
      · repeat (first | with_reducible refine hostOf_alloc ?_ _ | ((with_reducible refine hostOf_store ?_ ?hh); case hh => omega))
        exact hostOf_grant yes HU2.out
      · repeat (first | with_reducible exact B2 | with_reducible refine Below.setCell ?_ (by simp; try omega) _ | with_reducible refine below_alloc ?_ _)

set_option maxRecDepth 100000 in
set_option maxHeartbeats 2000000 in
theorem iAnswer_any (v : Value) (h : Ht) (n : Int) (w : World) (hv : HostIn w v h) :
    Calls Try.prog 19 #[v, .int .i64 n] w (HResOf w (hAnswer h n)) := by
  have HH := Lib.hid hv
  obtain ⟨A1, k1, A2, k2, A3, k3, A4, k4, rfl⟩ := hostIn_form hv
  clear hv
  cases t0 : hOK h
  · have R : Hid (hAnswer h n = (noHt, 1)) := Lib.hid (by unfold hAnswer; rw [t0]; rfl)
    go_enter Try.func19, Try.ntmps19
    go_wp2_with fail
    refine (iHOK_any _ h _ (hostIn_below HH.out (below_alloc (below_alloc (Below.refl _ _) _) _))).mono ?_
    rintro e w1 ⟨rfl, hb⟩
    have B1 : Below w.heap.size w w1 := below_step (below_alloc (below_alloc (Below.refl _ _) _) _) hb
    have V1 := whole_b hb (whole_alloc (whole_new w _ _) _)
    have T1 := whole_b hb (whole_new1 w _ _ _)
    have z1 := whole_lt T1
    clear hb
    rw [t0]
    obtain ⟨r0, r1, r2, r3, r4⟩ := five_cells T1
    have fr := whole_free T1
    go_wp2
    refine bodyPost_ret (v := .tuple #[.agg #[.slice none 0 0, .slice none 0 0, .slice none 0 0, .int .i64 0, .slice none 0 0], .int .i64 1]) (by simp [results, Try.results19, go_sem, *]) rfl ?_
    rw [R.out]
    refine hres_none ?_
    repeat (first | with_reducible exact B1 | with_reducible refine Below.setCell ?_ (by simp; try omega) _)
  · have hf := hOK_fine t0
    cases t1 : cellB n
    · have R : Hid (hAnswer h n = (noHt, 4)) := Lib.hid (by unfold hAnswer; rw [t0, t1]; rfl)
      clear hf
      go_enter Try.func19, Try.ntmps19
      go_wp2_with fail
      refine (iHOK_any _ h _ (hostIn_below HH.out (below_alloc (below_alloc (Below.refl _ _) _) _))).mono ?_
      rintro e w1 ⟨rfl, hb⟩
      have B1 : Below w.heap.size w w1 := below_step (below_alloc (below_alloc (Below.refl _ _) _) _) hb
      have V1 := whole_b hb (whole_alloc (whole_new w _ _) _)
      have T1 := whole_b hb (whole_new1 w _ _ _)
      have z1 := whole_lt T1
      clear hb
      rw [t0]
      obtain ⟨r0, r1, r2, r3, r4⟩ := five_cells T1
      have fr := whole_free T1
      go_wp2_with (go_at_call 65; refine (cellOK_any _ _).mono ?_; rintro e w' ⟨rfl, rfl⟩)
      refine bodyPost_ret (v := .tuple #[.agg #[.slice none 0 0, .slice none 0 0, .slice none 0 0, .int .i64 0, .slice none 0 0], .int .i64 4]) (by simp [results, Try.results19, go_sem, *]) rfl ?_
      rw [R.out]
      refine hres_none ?_
      repeat (first | with_reducible exact B1 | with_reducible refine Below.setCell ?_ (by simp; try omega) _)
    · have HS := Lib.hid (fineH_small hf)
      have HN := Lib.hid (fineH_n hf)
      clear hf
      by_cases h20 : h.n.length = 20
      · have R : Hid (hAnswer h n = (h, 7)) := Lib.hid (by unfold hAnswer; rw [t0, t1]; simp [h20])
        have u0 : (20 : Int) ≤ h.n.length := by omega
        have u1 : ¬ ((h.n.length : Int) < 20) := by omega
        clear h20
        go_enter Try.func19, Try.ntmps19
        go_wp2_with fail
        refine (iHOK_any _ h _ (hostIn_below HH.out (below_alloc (below_alloc (Below.refl _ _) _) _))).mono ?_
        rintro e w1 ⟨rfl, hb⟩
        have B1 : Below w.heap.size w w1 := below_step (below_alloc (below_alloc (Below.refl _ _) _) _) hb
        have V1 := whole_b hb (whole_alloc (whole_new w _ _) _)
        have T1 := whole_b hb (whole_new1 w _ _ _)
        have z1 := whole_lt T1
        clear hb
        rw [t0]
        obtain ⟨c0, c1, c2, c3, c4⟩ := five_cells V1
        go_wp2_with (first
          | (go_at_call 65; refine (cellOK_any _ _).mono ?_; rintro e w' ⟨rfl, rfl⟩)
          | (go_at_call 52; refine (ownHost_any _ h _ (hostIn_below HH.out B1) HS.out).mono ?_; rintro e w2 ⟨u, rfl, hu, hb⟩
             clear c0 c1 c2 c3 c4
             have B2 : Below w.heap.size w w2 := below_step B1 hb
             have T2 := whole_b hb T1
             have HU2 := Lib.hid hu
             have HUF := hu
             obtain ⟨M1, m1, M2, m2, M3, m3, M4, m4, rfl⟩ := hostIn_form (hostOf_in hu)
             obtain ⟨r0, r1, r2, r3, r4⟩ := five_cells T2
             have fr := whole_free T2
             have z2 := whole_lt T2
             have z3 : w1.heap.size ≤ w2.heap.size := hb.size
             clear hb hu))
        refine bodyPost_ret (v := .tuple #[.agg #[.slice M1 h.g.length m1, .slice M2 h.s.length m2, .slice M3 h.n.length m3, .int .i64 h.c, .slice M4 h.d.length m4], .int .i64 7]) (by simp [results, Try.results19, go_sem, *]) rfl ?_
        rw [R.out]
        refine ⟨_, rfl, hostOf_top (hi := w2.heap.size) (hostOf_base (lo := w1.heap.size) ?_ (by omega)) (by simp; try omega), ?_⟩
        · show HostOf _ _ _ _ h
          repeat (first | with_reducible exact HU2.out | with_reducible refine hostOf_alloc ?_ _ | ((with_reducible refine hostOf_store ?_ ?hh); case hh => omega))
        · repeat (first | with_reducible exact B2 | with_reducible refine Below.setCell ?_ (by simp; try omega) _ | with_reducible refine below_alloc ?_ _)
      · have R : Hid (hAnswer h n = ({ h with n := h.n ++ [n] }, 0)) := Lib.hid (by unfold hAnswer; rw [t0, t1]; simp [h20])
        have u0 : ¬ (20 : Int) ≤ h.n.length := by have := HN.out; omega
        have u1 : (h.n.length : Int) < 20 := by have := HN.out; omega
        clear h20
        go_enter Try.func19, Try.ntmps19
        go_wp2_with fail
        refine (iHOK_any _ h _ (hostIn_below HH.out (below_alloc (below_alloc (Below.refl _ _) _) _))).mono ?_
        rintro e w1 ⟨rfl, hb⟩
        have B1 : Below w.heap.size w w1 := below_step (below_alloc (below_alloc (Below.refl _ _) _) _) hb
        have V1 := whole_b hb (whole_alloc (whole_new w _ _) _)
        have T1 := whole_b hb (whole_new1 w _ _ _)
        have z1 := whole_lt T1
        clear hb
        rw [t0]
        obtain ⟨c0, c1, c2, c3, c4⟩ := five_cells V1
        go_wp2_with (first
          | (go_at_call 65; refine (cellOK_any _ _).mono ?_; rintro e w' ⟨rfl, rfl⟩)
          | (go_at_call 52; refine (ownHost_any _ h _ (hostIn_below HH.out B1) HS.out).mono ?_; rintro e w2 ⟨u, rfl, hu, hb⟩
             clear c0 c1 c2 c3 c4
             have B2 : Below w.heap.size w w2 := below_step B1 hb
             have T2 := whole_b hb T1
             have HU2 := Lib.hid hu
             have HUF := hu
             obtain ⟨M1, m1, M2, m2, M3, m3, M4, m4, rfl⟩ := hostIn_form (hostOf_in hu)
             obtain ⟨r0, r1, r2, r3, r4⟩ := five_cells T2
             have fr := whole_free T2
             have z2 := whole_lt T2
             have z3 : w1.heap.size ≤ w2.heap.size := hb.size
             clear hb hu
             have X3 := whole_new w2 27 #[.slice M1 h.g.length m1, .slice M2 h.s.length m2, .slice M3 h.n.length m3, .int .i64 h.c, .slice M4 h.d.length m4]
             have H3 := Lib.hid (hostOf_alloc HU2.out (.cells #[.slice M1 h.g.length m1, .slice M2 h.s.length m2, .slice M3 h.n.length m3, .int .i64 h.c, .slice M4 h.d.length m4] 27))
             have T3 := whole_alloc T2 (.cells #[.slice M1 h.g.length m1, .slice M2 h.s.length m2, .slice M3 h.n.length m3, .int .i64 h.c, .slice M4 h.d.length m4] 27)
             have RN := Lib.hid (hostOf_thirdRow H3.out)
             have B3 := below_alloc B2 (.cells #[.slice M1 h.g.length m1, .slice M2 h.s.length m2, .slice M3 h.n.length m3, .int .i64 h.c, .slice M4 h.d.length m4] 27)
             have XX := Lib.hid X3
             have TT := Lib.hid T3
             have BB3 := Lib.hid B3
             clear X3 T3 B3 HUF)
          | (at_builtin; refine wpList_append_ints rfl (.tmp 23) (.tmp 25) rfl rfl w1.heap.size (.slice M3 h.n.length m3) h.n (row_alloc RN.out _) (.slice (some ⟨w2.heap.size + 1, 0, none⟩) 1 1) [n] (ints_oneAt _ n (by simp)) rfl rfl (by have := HN.out; simp; omega) (by simp; omega) ?_
             clear r0 r1 r2 r3 r4 fr
             intro v2 w4 hr hg hat
             have H4 := Lib.hid (hostOf_third (hostOf_alloc H3.out _) hg hr (fun g e => by
               rcases hat with hat | hat
               · exact .inl (by rw [← hat]; exact e)
               · rw [hat] at e; injection e with e; right; subst e; simp; omega) (by have := hg.size; simp at this; omega))
             obtain ⟨_, C3, j3, rfl, _⟩ := row_ints hr
             have NM := Lib.hid (fun g (hm : Mine (.agg #[.slice M1 h.g.length m1, .slice M2 h.s.length m2, .slice C3 (h.n ++ [n]).length j3, .int .i64 h.c, .slice M4 h.d.length m4]) g) => show g ≠ w2.heap.size from by
               obtain ⟨u, hu, e⟩ := (mine_agg (l := [.slice M1 h.g.length m1, .slice M2 h.s.length m2, .slice C3 (h.n ++ [n]).length j3, .int .i64 h.c, .slice M4 h.d.length m4])).1 hm
               have old : ∀ x ∈ ([.slice M1 h.g.length m1, .slice M2 h.s.length m2, .slice M3 h.n.length m3, .int .i64 h.c, .slice M4 h.d.length m4] : List Value), x.ownBlock = some g → g < w2.heap.size := fun x hx e => (hostOf_mine HU2.out ((mine_agg (l := [.slice M1 h.g.length m1, .slice M2 h.s.length m2, .slice M3 h.n.length m3, .int .i64 h.c, .slice M4 h.d.length m4])).2 ⟨x, hx, e⟩)).2
               simp only [List.mem_cons, List.not_mem_nil, or_false] at hu
               rcases hu with rfl | rfl | rfl | rfl | rfl
               · have := old _ (by simp) e; omega
               · have := old _ (by simp) e; omega
               · rcases hat with hat | hat
                 · rw [hat] at e; have := old (.slice M3 h.n.length m3) (by simp) e; omega
                 · rw [hat] at e; injection e with e; simp at e; omega
               · simp [Value.ownBlock] at e
               · have := old _ (by simp) e; omega)
             have nx : some w2.heap.size ≠ (Value.slice M3 h.n.length m3).ownBlock := fun e => by
               have q := hostOf_mine (g := w2.heap.size) HU2.out ((mine_agg (l := [.slice M1 h.g.length m1, .slice M2 h.s.length m2, .slice M3 h.n.length m3, .int .i64 h.c, .slice M4 h.d.length m4])).2 ⟨.slice M3 h.n.length m3, by simp, e.symm⟩)
               omega
             have nt : some (w.heap.size + 1) ≠ (Value.slice M3 h.n.length m3).ownBlock := fun e => by have := (row_lt RN.out _ e.symm).1; omega
             have X4 := whole_keep (whole_alloc XX.out _) (hg.block _ (by simp <;> omega) nx)
             have T4 := whole_keep (whole_alloc TT.out _) (hg.block _ (by simp; omega) nt)
             have B4 : Below w.heap.size w w4 := (below_alloc BB3.out _).grown hg (by simp; omega) (fun k hk => by have := (row_lt RN.out k hk).1; omega)
             obtain ⟨c0, c1, c2, c3, c4⟩ := five_cells X4
             obtain ⟨r0, r1, r2, r3, r4⟩ := five_cells T4
             have fv := whole_free X4
             have fr := whole_free T4
             have z4 := whole_lt X4
             clear hr hg hat))
        refine bodyPost_ret (v := .tuple #[.agg #[.slice M1 h.g.length m1, .slice M2 h.s.length m2, .slice C3 (h.n ++ [n]).length j3, .int .i64 h.c, .slice M4 h.d.length m4], .int .i64 0]) (by simp [results, Try.results19, go_sem, *]) rfl ?_
        rw [R.out]
        refine ⟨_, rfl, ?_, ?_⟩
        · refine hostOf_top (hi := w4.heap.size) ?_ (by simp)
          show HostOf _ _ _ _ { h with n := h.n ++ [n] }
          refine hostOf_base (lo := w1.heap.size) ?_ (by omega)
          repeat (first | with_reducible exact H4.out | ((with_reducible refine hostOf_store ?_ ?hh); case hh => omega) | with_reducible refine hostOf_off ?_ NM.out)
        · repeat (first | with_reducible exact B4 | with_reducible refine Below.setCell ?_ (by simp; try omega) _)

theorem hGrant_small {h : Ht} (hs : SmallH h) (c : Int) (yes : Bool) : SmallH (hGrant h c yes).1 := by
  obtain ⟨h1, h2, h3, h4⟩ := hs
  unfold hGrant
  split
  · split
    · exact ⟨by simpa using h1, h2, h3, h4⟩
    · exact small_noHt
  · exact small_noHt

theorem hAnswer_small {h : Ht} (hs : SmallH h) (n : Int) : SmallH (hAnswer h n).1 := by
  obtain ⟨h1, h2, h3, h4⟩ := id hs
  unfold hAnswer
  split
  · rename_i q
    have hn := fineH_n (hOK_fine q)
    split
    · split
      · exact hs
      · exact ⟨h1, h2, by simp; omega, h4⟩
    · exact small_noHt
  · exact small_noHt

theorem small_newHt : SmallH newHt := by unfold SmallH newHt; decide

end Go.Proofs.Ythhaimolcgkpaaa
