/- PkJ: several of my texts, laid together: AppC. -/
import Derived.Test.YthnbaeamekolmaaGreatDoorPkF
namespace Go.Proofs.YthnbaeamekolmaaGreatDoor
open Go.RowKit
set_option linter.unusedVariables false
set_option linter.unusedSimpArgs false

/-- The first numbers of a row, however long. -/
theorem row_cut {w : World} {base : Nat} {A : Option Addr} {n c k : Nat} {zs : List Int} (h : Row w base (.slice A n c) zs) (hn : n = zs.length) (hk : k ≤ n) : Row w base (.slice A k c) (zs.take k) := by
  subst hn
  rcases Nat.eq_zero_or_pos zs.length with h0 | h0
  · obtain rfl : k = 0 := by omega
    have e : zs = [] := List.eq_nil_of_length_eq_zero h0
    subst e
    simpa using h
  · exact row_take h hk h0

theorem row_not_type {w : World} {lo g : Nat} {t : TypeId} {v : Value} {zs : List Int} {cs : Array Value} (h : Row w lo v zs) (hw : Whole w g t cs) (hne : t ≠ 3) : v.ownBlock ≠ some g := by
  rcases h.2 with ⟨rfl, _⟩ | ⟨g', cap, cur, rfl, _, hh, _⟩
  · simp [Value.ownBlock]
  · intro he
    have e : g' = g := by simpa [Value.ownBlock] using he
    subst e
    unfold Whole at hw
    rw [hh] at hw
    injection hw with hw
    injection hw with _ ht
    exact hne ht.symm

theorem own_len (A : Option Addr) (n m c : Nat) : (Value.slice A n c).ownBlock = (Value.slice A m c).ownBlock := by cases A <;> rfl

theorem parted_len {A : Option Addr} {n m c : Nat} {y : Value} (h : Parted (.slice A n c) y) : Parted (.slice A m c) y := fun g hg => h g (by rw [own_len A n m c]; exact hg)

set_option maxRecDepth 100000 in
set_option maxHeartbeats 4000000 in
theorem apply_fine (w : World) (lo g : Nat) (d d' : Dt) (L : List Int) (th : Int) (t n k : Nat) (fv : FuncId) (cap : List Value) (f : Int) (hb : BoxIs w lo g d) (hd : DtFine d) (ht : t ≤ 3) (hu : t ≤ d.s.length) (hn : n ≤ 2) (hf0 : 0 ≤ f) (hf1 : f ≤ d.b.length) (hu2 : (n : Int) ≤ d.b.length - f)
    (he : Entered fv) (C : Hid (∀ W tv, Below w.heap.size w W → Ints W tv (tkOf d t) → Away W g tv → Calls Tryz.prog fv (.pointer (some ⟨g, 0, none⟩) :: tv :: cap).toArray W (EffR W lo g (d', L, th)))) (hth : th = 0) (hov : d.s.length - t + L.length ≤ 32) (hL : L.length ≤ 32) (hs : d'.s = d.s) (hk : k ≤ d'.b.length) (hbl : d'.b.length ≤ 32) :
    Calls Tryz.prog 61 #[.pointer (some ⟨g, 0, none⟩), .agg #[.int .i64 t, .int .i64 n, .int .i64 k, .func (.func fv) #[] cap.toArray], .int .i64 f] w (AppR w lo g ({ d' with s := d.s.take (d.s.length - t) ++ L, b := d'.b.take (d'.b.length - k) }, 0)) := by
  obtain ⟨hg, A1, k1, A2, k2, A3, k3, hw, r1, r2, r3, h4, p1, p2, p3⟩ := box_parts hb
  have c0 := (six_cells hw).1
  have c1 := (six_cells hw).2.1
  have hlt := whole_lt hw
  have l1 := fine_sl hd
  have l2 := fine_bl hd
  obtain ⟨m, hm⟩ : ∃ m, d.s.length = m + t := ⟨d.s.length - t, by omega⟩
  have hk1 := (row_cap r1).1
  have hk1m := (row_cap r1).2
  have HW := Lib.hid hw
  have HB := Lib.hid hb
  have L2 := Lib.hid (row_lt r2)
  have L3 := Lib.hid (row_lt r3)
  have s0 : d.s.length - m = t := by omega
  have s1 : IntKind.i64.wrap ((d.s.length : Int) - t) = (m : Int) := by rw [show (d.s.length : Int) - t = m by omega]; exact IntWalk.i64_in _ (by omega)
  have s3 : IntKind.i64.wrap ((d.b.length : Int) - f) = (d.b.length : Int) - f := IntWalk.i64_in _ (by omega)
  have s4 : ¬ ((d.b.length : Int) - f < n) := by omega
  have s6 : (m : Int) ≤ d.s.length := by omega
  have s7 : m ≤ k1 := by omega
  have HM := Lib.hid hm
  have PB : Hid (Below w.heap.size w (PW w t n k fv cap.toArray)) := Lib.hid (below_alloc (Below.refl _ _) _)
  have PX : Hid (Whole (PW w t n k fv cap.toArray) w.heap.size 108 #[.int .i64 t, .int .i64 n, .int .i64 k, .func (.func fv) #[] cap.toArray]) := Lib.hid (whole_new w _ _)
  unfold maxLen at hk1m
  unfold Entered at he
  subst hth
  have v1 : IntKind.i64.wrap ((m : Int) + L.length) = (m : Int) + L.length := IntWalk.i64_in _ (by omega)
  have v2 : ¬ ((32 : Int) < (m : Int) + L.length) := by omega
  have HS := Lib.hid hs
  have KX : Hid (∀ N w2, Keep ((PW w t n k fv cap.toArray).drewN N) g w2 → Whole w2 w.heap.size 108 #[.int .i64 t, .int .i64 n, .int .i64 k, .func (.func fv) #[] cap.toArray]) := Lib.hid fun N w2 hk => whole_keep (w := (PW w t n k fv cap.toArray).drewN N) PX.out (hk _ _ _ _ _ _ (whole_below HW.out (pw_below w t n k fv cap.toArray N)) w.heap.size (whole_lt PX.out) (by omega) (fun e => by have := (L2.out _ e).2; omega) (fun e => by have := (L3.out _ e).2; omega))
  obtain ⟨m2, hm2⟩ : ∃ m2, d'.b.length = m2 + k := ⟨d'.b.length - k, by omega⟩
  have v3 : IntKind.i64.wrap ((d'.b.length : Int) - k) = (m2 : Int) := by rw [show (d'.b.length : Int) - k = m2 by omega]; exact IntWalk.i64_in _ (by omega)
  rcases row_shape r1 with ⟨rfl, n1, n2⟩ | ⟨g1, rfl⟩
  · obtain rfl : t = 0 := by omega
    obtain rfl : m = 0 := by omega
    subst n2
    have HT : Hid ((∀ W, Below w.heap.size w W → Ints W (.slice none 0 0) (tkOf d 0)) ∧ (∀ W, Below w.heap.size w W → Away W g (.slice none 0 0))) := Lib.hid ⟨fun W _ => ints_nil W, fun W _ => away_nil W g 0 0⟩
    clear hb hw r1 r2 r3 p1 p2 p3 hm
    go_enter Tryz.func61, Tryz.ntmps61
    go_wp2
    go_quiet (fail)
    go_wp2
    go_quiet (fail)
    go_wp2
    go_region_with (first | (go_at_fn fv; refine (C.out _ _ (by exact below_drewN PB.out _) (by exact HT.out.1 _ (below_drewN PB.out _)) (by exact HT.out.2 _ (below_drewN PB.out _))).mono ?_; rintro e w2 ⟨lv, rfl, hb2, hi2, hl2, hk2⟩))
    all_goals
      obtain ⟨_, LA, lc, rfl, _⟩ := id hi2
      obtain ⟨_, B1, j1, B2, j2, B3, j3, hw2, q1, q2, q3, h4', p1', p2', p3'⟩ := box_parts hb2
      simp only [HS.out] at hw2 q1 p1' p2'
      have PX2 := KX.out _ _ hk2
      have lt2 := whole_lt hw2
      have lx2 := whole_lt PX2
      have e0 := (six_cells hw2).1
      have f0 := whole_free hw2 0
      have RT := row_cut (k := 0) q1 rfl (by omega)
      have TL : (d.s.take 0).length = 0 := by rw [List.length_take]; omega
      have mj := (row_cap RT).1
      have mjm := (row_cap RT).2
      unfold maxLen at mjm
      have n1 := row_not_type RT hw2 (by decide)
      have nx := row_not_type RT PX2 (by decide)
      go_wp2_with (first
        | (at_builtin; refine wpList_append_ints rfl (.tmp 57) (.tmp 58) rfl rfl lo (.slice B1 0 j1) (d.s.take 0) (by rw [show (Value.slice B1 0 j1) = .slice B1 (d.s.take 0).length j1 by rw [TL]]; rw [TL]; exact RT) (.slice LA L.length lc) L hi2 rfl rfl (by omega) (by omega) ?_
           intro v3 w3 hr3 hg3 hat3
           have bx : Below lo w2 w3 := (Below.refl _ _).grown hg3 (by omega) (fun k hk => (row_lt RT k hk).1)
           have W3 := whole_keep hw2 (hg3.block _ lt2 (fun e => n1 e.symm))
           have X3 := whole_keep PX2 (hg3.block _ lx2 (fun e => nx e.symm))
           have Y3 := row_mark q2 hg3 (parted_sym (parted_len p1'))
           have Z3 := row_mark q3 hg3 (parted_sym (parted_len p2'))
           have u1 : Parted v3 (.slice B2 d'.b.length j2) := fun k hk hk2 => by
             rcases hat3 with e | e
             · exact parted_len (m := 0) p1' k (e ▸ hk) hk2
             · rw [e] at hk; have := (row_lt q2 k hk2).2; simp at hk; omega
           have u2 : Parted v3 (.slice B3 d'.c.length j3) := fun k hk hk2 => by
             rcases hat3 with e | e
             · exact parted_len (m := 0) p2' k (e ▸ hk) hk2
             · rw [e] at hk; have := (row_lt q3 k hk2).2; simp at hk; omega
           obtain ⟨_, C1, i1, rfl, _⟩ := row_ints hr3
           have LN : (d.s.take 0 ++ L).length = L.length := by rw [List.length_append]; omega
           rw [LN] at hr3 u1 u2
           have W4 := whole_set W3 0 (.slice C1 (L.length) i1)
           have X4 := whole_far X3 (p := ⟨g, 0, none⟩) (show w.heap.size ≠ g by omega) (.slice C1 (L.length) i1)
           have S4 := row_apart (i := 0) (u := .slice C1 (L.length) i1) hr3 (row_not_whole hr3 W3)
           have Y4 := row_apart (i := 0) (u := .slice C1 (L.length) i1) Y3 (row_not_whole Y3 W3)
           have Z4 := row_apart (i := 0) (u := .slice C1 (L.length) i1) Z3 (row_not_whole Z3 W3)
           have b4 := (bx.setCell (p := ⟨g, 0, none⟩) hg (.slice C1 (L.length) i1))
           have z0 := (six_cells W3).1
           have z1 := whole_free W3 0
           clear hg3 hat3 hr3 Y3 Z3 X3 bx))
      have BB := Lib.hid (((below_lo HB.out (below_drewN PB.out _)).trans hl2).trans b4)
      have W4' : Whole (w3.setCell ⟨g, 0, none⟩ (.slice C1 (L.length) i1)) g 40 #[.slice C1 (L.length) i1, .slice B2 d'.b.length j2, .slice B3 d'.c.length j3, .int .i64 d'.h, .int .i64 d'.n, .string d'.o] := W4
      clear b4 W4 W3 z0 z1 e0 f0 hb2 hi2 hl2 hk2 PX2 hw2 n1 nx RT q1 q2 q3 p1' p2'
      generalize w3.setCell ⟨g, 0, none⟩ (.slice C1 (L.length) i1) = w4 at *
      have c1' := (six_cells W4').2.1
      have f1' := whole_free W4' 1
      have x2' := whole_cell X4 2
      simp at x2'
      have RT2 := row_cut (k := m2) Y4 rfl (by omega)
      have mj2 : m2 ≤ j2 := by have := (row_cap Y4).1; omega
      have mj3 := (row_cap Y4).2
      unfold maxLen at mj3
      have ST : Hid (BoxIs (w4.drew.setCell ⟨g, 1, none⟩ (.slice B2 m2 j2)) lo g { d' with s := d.s.take (d.s.length - 0) ++ L, b := d'.b.take (d'.b.length - k) }) := Lib.hid (by
        rw [show d.s.length - 0 = 0 by omega, show d'.b.length - k = m2 by omega]
        exact box_of (d := { d' with s := d.s.take 0 ++ L, b := d'.b.take m2 }) hg (whole_set (w := w4.drew) W4' 1 (.slice B2 m2 j2)) (row_apart (w := w4.drew) S4 (row_not_whole (w := w4) S4 W4')) (row_apart (w := w4.drew) RT2 (row_not_whole (w := w4) RT2 W4')) (row_apart (w := w4.drew) Z4 (row_not_whole (w := w4) Z4 W4')) h4' (fun k hk hk2 => u1 k hk (by rw [own_len B2 _ m2 j2]; exact hk2)) u2 (parted_len p3'))
      have SB := Lib.hid (BB.out.drew.setCell (p := ⟨g, 1, none⟩) hg (.slice B2 m2 j2))
      clear u1 u2 p3' h4' S4 Y4 Z4 X4 W4' RT2 BB
      go_region
      all_goals
        go_wp2
        go_ret
        exact ⟨rfl, ST.out, SB.out⟩
  by_cases kd : k1 = m
  · subst kd
    obtain rfl : t = 0 := by omega
    obtain rfl : k1 = d.s.length := by omega
    have HT : Hid ((∀ W, Below w.heap.size w W → Ints W (.slice (some ⟨g1, 0, none⟩) 0 0) (tkOf d 0)) ∧ (∀ W, Below w.heap.size w W → Away W g (.slice (some ⟨g1, 0, none⟩) 0 0))) := Lib.hid ⟨fun W _ => ⟨Nat.zero_le _, _, _, rfl, fun h => absurd h (Nat.lt_irrefl 0)⟩, fun W hW => away_head hw r1 p1 p2 hW⟩
    clear hb hw r1 r2 r3 p1 p2 p3 hm
    go_enter Tryz.func61, Tryz.ntmps61
    go_wp2
    go_quiet (fail)
    go_wp2
    go_quiet (fail)
    go_wp2
    go_region_with (first | (go_at_fn fv; refine (C.out _ _ (by exact below_drewN PB.out _) (by exact HT.out.1 _ (below_drewN PB.out _)) (by exact HT.out.2 _ (below_drewN PB.out _))).mono ?_; rintro e w2 ⟨lv, rfl, hb2, hi2, hl2, hk2⟩))
    all_goals
      obtain ⟨_, LA, lc, rfl, _⟩ := id hi2
      obtain ⟨_, B1, j1, B2, j2, B3, j3, hw2, q1, q2, q3, h4', p1', p2', p3'⟩ := box_parts hb2
      simp only [HS.out] at hw2 q1 p1' p2'
      have PX2 := KX.out _ _ hk2
      have lt2 := whole_lt hw2
      have lx2 := whole_lt PX2
      have e0 := (six_cells hw2).1
      have f0 := whole_free hw2 0
      have RT := row_cut (k := d.s.length) q1 rfl (by omega)
      have TL : (d.s.take d.s.length).length = d.s.length := by rw [List.length_take]; omega
      have mj := (row_cap RT).1
      have mjm := (row_cap RT).2
      unfold maxLen at mjm
      have n1 := row_not_type RT hw2 (by decide)
      have nx := row_not_type RT PX2 (by decide)
      go_wp2_with (first
        | (at_builtin; refine wpList_append_ints rfl (.tmp 57) (.tmp 58) rfl rfl lo (.slice B1 d.s.length j1) (d.s.take d.s.length) (by rw [show (Value.slice B1 d.s.length j1) = .slice B1 (d.s.take d.s.length).length j1 by rw [TL]]; rw [TL]; exact RT) (.slice LA L.length lc) L hi2 rfl rfl (by omega) (by omega) ?_
           intro v3 w3 hr3 hg3 hat3
           have bx : Below lo w2 w3 := (Below.refl _ _).grown hg3 (by omega) (fun k hk => (row_lt RT k hk).1)
           have W3 := whole_keep hw2 (hg3.block _ lt2 (fun e => n1 e.symm))
           have X3 := whole_keep PX2 (hg3.block _ lx2 (fun e => nx e.symm))
           have Y3 := row_mark q2 hg3 (parted_sym (parted_len p1'))
           have Z3 := row_mark q3 hg3 (parted_sym (parted_len p2'))
           have u1 : Parted v3 (.slice B2 d'.b.length j2) := fun k hk hk2 => by
             rcases hat3 with e | e
             · exact parted_len (m := d.s.length) p1' k (e ▸ hk) hk2
             · rw [e] at hk; have := (row_lt q2 k hk2).2; simp at hk; omega
           have u2 : Parted v3 (.slice B3 d'.c.length j3) := fun k hk hk2 => by
             rcases hat3 with e | e
             · exact parted_len (m := d.s.length) p2' k (e ▸ hk) hk2
             · rw [e] at hk; have := (row_lt q3 k hk2).2; simp at hk; omega
           obtain ⟨_, C1, i1, rfl, _⟩ := row_ints hr3
           have LN : (d.s.take d.s.length ++ L).length = d.s.length + L.length := by rw [List.length_append]; omega
           rw [LN] at hr3 u1 u2
           have W4 := whole_set W3 0 (.slice C1 (d.s.length + L.length) i1)
           have X4 := whole_far X3 (p := ⟨g, 0, none⟩) (show w.heap.size ≠ g by omega) (.slice C1 (d.s.length + L.length) i1)
           have S4 := row_apart (i := 0) (u := .slice C1 (d.s.length + L.length) i1) hr3 (row_not_whole hr3 W3)
           have Y4 := row_apart (i := 0) (u := .slice C1 (d.s.length + L.length) i1) Y3 (row_not_whole Y3 W3)
           have Z4 := row_apart (i := 0) (u := .slice C1 (d.s.length + L.length) i1) Z3 (row_not_whole Z3 W3)
           have b4 := (bx.setCell (p := ⟨g, 0, none⟩) hg (.slice C1 (d.s.length + L.length) i1))
           have z0 := (six_cells W3).1
           have z1 := whole_free W3 0
           clear hg3 hat3 hr3 Y3 Z3 X3 bx))
      have BB := Lib.hid (((below_lo HB.out (below_drewN PB.out _)).trans hl2).trans b4)
      have W4' : Whole (w3.setCell ⟨g, 0, none⟩ (.slice C1 (d.s.length + L.length) i1)) g 40 #[.slice C1 (d.s.length + L.length) i1, .slice B2 d'.b.length j2, .slice B3 d'.c.length j3, .int .i64 d'.h, .int .i64 d'.n, .string d'.o] := W4
      clear b4 W4 W3 z0 z1 e0 f0 hb2 hi2 hl2 hk2 PX2 hw2 n1 nx RT q1 q2 q3 p1' p2'
      generalize w3.setCell ⟨g, 0, none⟩ (.slice C1 (d.s.length + L.length) i1) = w4 at *
      have c1' := (six_cells W4').2.1
      have f1' := whole_free W4' 1
      have x2' := whole_cell X4 2
      simp at x2'
      have RT2 := row_cut (k := m2) Y4 rfl (by omega)
      have mj2 : m2 ≤ j2 := by have := (row_cap Y4).1; omega
      have mj3 := (row_cap Y4).2
      unfold maxLen at mj3
      have ST : Hid (BoxIs (w4.drew.setCell ⟨g, 1, none⟩ (.slice B2 m2 j2)) lo g { d' with s := d.s.take (d.s.length - 0) ++ L, b := d'.b.take (d'.b.length - k) }) := Lib.hid (by
        rw [show d.s.length - 0 = d.s.length by omega, show d'.b.length - k = m2 by omega]
        exact box_of (d := { d' with s := d.s.take d.s.length ++ L, b := d'.b.take m2 }) hg (whole_set (w := w4.drew) W4' 1 (.slice B2 m2 j2)) (row_apart (w := w4.drew) S4 (row_not_whole (w := w4) S4 W4')) (row_apart (w := w4.drew) RT2 (row_not_whole (w := w4) RT2 W4')) (row_apart (w := w4.drew) Z4 (row_not_whole (w := w4) Z4 W4')) h4' (fun k hk hk2 => u1 k hk (by rw [own_len B2 _ m2 j2]; exact hk2)) u2 (parted_len p3'))
      have SB := Lib.hid (BB.out.drew.setCell (p := ⟨g, 1, none⟩) hg (.slice B2 m2 j2))
      clear u1 u2 p3' h4' S4 Y4 Z4 X4 W4' RT2 BB
      go_region
      all_goals
        go_wp2
        go_ret
        exact ⟨rfl, ST.out, SB.out⟩
  · have HT := Lib.hid (take_away hw r1 p1 p2 hm ht)
    clear hb hw r1 r2 r3 p1 p2 p3 hm
    go_enter Tryz.func61, Tryz.ntmps61
    go_wp2
    go_quiet (fail)
    go_wp2
    go_quiet (fail)
    go_wp2
    go_region_with (first | (go_at_fn fv; refine (C.out _ _ (by exact below_drewN PB.out _) (by exact HT.out.1 _ (below_drewN PB.out _)) (by exact HT.out.2 _ (below_drewN PB.out _))).mono ?_; rintro e w2 ⟨lv, rfl, hb2, hi2, hl2, hk2⟩))
    all_goals
      obtain ⟨_, LA, lc, rfl, _⟩ := id hi2
      obtain ⟨_, B1, j1, B2, j2, B3, j3, hw2, q1, q2, q3, h4', p1', p2', p3'⟩ := box_parts hb2
      simp only [HS.out] at hw2 q1 p1' p2'
      have PX2 := KX.out _ _ hk2
      have lt2 := whole_lt hw2
      have lx2 := whole_lt PX2
      have e0 := (six_cells hw2).1
      have f0 := whole_free hw2 0
      have RT := row_cut (k := m) q1 rfl (by omega)
      have TL : (d.s.take m).length = m := by rw [List.length_take]; omega
      have mj := (row_cap RT).1
      have mjm := (row_cap RT).2
      unfold maxLen at mjm
      have n1 := row_not_type RT hw2 (by decide)
      have nx := row_not_type RT PX2 (by decide)
      go_wp2_with (first
        | (at_builtin; refine wpList_append_ints rfl (.tmp 57) (.tmp 58) rfl rfl lo (.slice B1 m j1) (d.s.take m) (by rw [show (Value.slice B1 m j1) = .slice B1 (d.s.take m).length j1 by rw [TL]]; rw [TL]; exact RT) (.slice LA L.length lc) L hi2 rfl rfl (by omega) (by omega) ?_
           intro v3 w3 hr3 hg3 hat3
           have bx : Below lo w2 w3 := (Below.refl _ _).grown hg3 (by omega) (fun k hk => (row_lt RT k hk).1)
           have W3 := whole_keep hw2 (hg3.block _ lt2 (fun e => n1 e.symm))
           have X3 := whole_keep PX2 (hg3.block _ lx2 (fun e => nx e.symm))
           have Y3 := row_mark q2 hg3 (parted_sym (parted_len p1'))
           have Z3 := row_mark q3 hg3 (parted_sym (parted_len p2'))
           have u1 : Parted v3 (.slice B2 d'.b.length j2) := fun k hk hk2 => by
             rcases hat3 with e | e
             · exact parted_len (m := m) p1' k (e ▸ hk) hk2
             · rw [e] at hk; have := (row_lt q2 k hk2).2; simp at hk; omega
           have u2 : Parted v3 (.slice B3 d'.c.length j3) := fun k hk hk2 => by
             rcases hat3 with e | e
             · exact parted_len (m := m) p2' k (e ▸ hk) hk2
             · rw [e] at hk; have := (row_lt q3 k hk2).2; simp at hk; omega
           obtain ⟨_, C1, i1, rfl, _⟩ := row_ints hr3
           have LN : (d.s.take m ++ L).length = m + L.length := by rw [List.length_append]; omega
           rw [LN] at hr3 u1 u2
           have W4 := whole_set W3 0 (.slice C1 (m + L.length) i1)
           have X4 := whole_far X3 (p := ⟨g, 0, none⟩) (show w.heap.size ≠ g by omega) (.slice C1 (m + L.length) i1)
           have S4 := row_apart (i := 0) (u := .slice C1 (m + L.length) i1) hr3 (row_not_whole hr3 W3)
           have Y4 := row_apart (i := 0) (u := .slice C1 (m + L.length) i1) Y3 (row_not_whole Y3 W3)
           have Z4 := row_apart (i := 0) (u := .slice C1 (m + L.length) i1) Z3 (row_not_whole Z3 W3)
           have b4 := (bx.setCell (p := ⟨g, 0, none⟩) hg (.slice C1 (m + L.length) i1))
           have z0 := (six_cells W3).1
           have z1 := whole_free W3 0
           clear hg3 hat3 hr3 Y3 Z3 X3 bx))
      have BB := Lib.hid (((below_lo HB.out (below_drewN PB.out _)).trans hl2).trans b4)
      have W4' : Whole (w3.setCell ⟨g, 0, none⟩ (.slice C1 (m + L.length) i1)) g 40 #[.slice C1 (m + L.length) i1, .slice B2 d'.b.length j2, .slice B3 d'.c.length j3, .int .i64 d'.h, .int .i64 d'.n, .string d'.o] := W4
      clear b4 W4 W3 z0 z1 e0 f0 hb2 hi2 hl2 hk2 PX2 hw2 n1 nx RT q1 q2 q3 p1' p2'
      generalize w3.setCell ⟨g, 0, none⟩ (.slice C1 (m + L.length) i1) = w4 at *
      have c1' := (six_cells W4').2.1
      have f1' := whole_free W4' 1
      have x2' := whole_cell X4 2
      simp at x2'
      have RT2 := row_cut (k := m2) Y4 rfl (by omega)
      have mj2 : m2 ≤ j2 := by have := (row_cap Y4).1; omega
      have mj3 := (row_cap Y4).2
      unfold maxLen at mj3
      have ST : Hid (BoxIs (w4.drew.setCell ⟨g, 1, none⟩ (.slice B2 m2 j2)) lo g { d' with s := d.s.take (d.s.length - t) ++ L, b := d'.b.take (d'.b.length - k) }) := Lib.hid (by
        rw [show d.s.length - t = m by omega, show d'.b.length - k = m2 by omega]
        exact box_of (d := { d' with s := d.s.take m ++ L, b := d'.b.take m2 }) hg (whole_set (w := w4.drew) W4' 1 (.slice B2 m2 j2)) (row_apart (w := w4.drew) S4 (row_not_whole (w := w4) S4 W4')) (row_apart (w := w4.drew) RT2 (row_not_whole (w := w4) RT2 W4')) (row_apart (w := w4.drew) Z4 (row_not_whole (w := w4) Z4 W4')) h4' (fun k hk hk2 => u1 k hk (by rw [own_len B2 _ m2 j2]; exact hk2)) u2 (parted_len p3'))
      have SB := Lib.hid (BB.out.drew.setCell (p := ⟨g, 1, none⟩) hg (.slice B2 m2 j2))
      clear u1 u2 p3' h4' S4 Y4 Z4 X4 W4' RT2 BB
      go_region
      all_goals
        go_wp2
        go_ret
        exact ⟨rfl, ST.out, SB.out⟩

end Go.Proofs.YthnbaeamekolmaaGreatDoor
