/- spec's AddWord. -/
import Derived.Test.YtdinnhebaldnaaaDoorAddB
namespace Go.Proofs.YtdinnhebaldnaaaDoor
open Go.RowKit
set_option linter.unusedVariables false
set_option linter.unusedSimpArgs false

/-- An append of words as one step of a statement in no fixed order. -/
theorem step_append_words {w : World} {ops : Array Oper} {o : Oper} {a : Act} {K : Act → World → Prop} {Q : Exit → Act → World → Prop} {E : Prop} (hgd : o.guard = none) (s x : Operand)
    (ho : o.op = .call { callee := .builtin .append, args := #[s, x], argTypes := #[23, 23] })
    (base : Nat) (v : Value) (ys : List Wd) (hs : a.eval s = v) (hown : WRow w base v ys) (g m c : Nat) (zs : List Wd) (hx : a.eval x = .slice (some ⟨g, 0, none⟩) m c) (hm : zs.length = m)
    (hz : ∀ k (h : k < zs.length), WdAt w ⟨g, k * 3, none⟩ zs[k]) (hn : Names zs) (hl : ys.length + zs.length ≤ 1099511627776) (hbase : base ≤ w.heap.size)
    (h : ∀ v' w', WRow w' base v' (ys ++ zs) → w.grownBy w' v.ownBlock → (v'.ownBlock = v.ownBlock ∨ v'.ownBlock = some w.heap.size) → K (a.put o.dst v') w') :
    if Region.wanted o (yielded ops a.tmps) = true then Oper.wp Tryd.prog o a w K Q else E := by
  have hw : Region.wanted o (yielded ops a.tmps) = true := by simp [Region.wanted, hgd]
  rw [if_pos hw]
  obtain ⟨i0, hi0, hz0, hz1, hz2⟩ := info_parts own_infoW
  subst hm
  obtain ⟨v', w', hr, h1, h2, h3, h4⟩ := run_append_own_at (P := Tryd.prog) w base 23 o.type 26 i0 _ 3 32 Tryd.underlying23 hi0 hz0 hz1 hz2 rfl (by omega) v ys.length (wcells ys) hown.1 ⟨g, 0, none⟩ zs.length c (wcells zs) (wcells_len zs)
    (fun j u hu => by rw [Addr.add_lit, Nat.zero_add]; exact wds_cells hz j u hu) (wcells_oneCell zs) (by unfold maxLen; omega) (by omega) hbase
  unfold Oper.wp execOp
  simp only [ho, resolve, invoke, builtin, Sem.run_bind, Sem.run_pure, Result.andThen_ok, List.map_toArray, List.map_cons, List.map_nil, hs, hx, hr]
  exact h v' w' ⟨by rw [List.length_append, wcells_add]; exact h1, names_add hown.2 hn⟩ h2 h4

theorem wrow_drew {w : World} {base : Nat} {v : Value} {Q : List Wd} (h : WRow w base v Q) : WRow w.drew base v Q := h

theorem below_own {a b c : World} {v : Value} {Q : List Wd} (h : Below a.heap.size a b) (k : b.grownBy c v.ownBlock) (hr : WRow b a.heap.size v Q) : Below a.heap.size a c := h.grown k h.size (fun g hg => (wrow_lt hr g hg).1)

theorem wrow_empty1 (w : World) (o : Obj) : WRow ((w.alloc o).alloc (.cells #[] 26)) w.heap.size (.slice (some ⟨w.heap.size + 1, 0, none⟩) 0 0) [] := by
  have h := wrow_empty (base := w.heap.size) (w.alloc o) (by simp)
  rw [alloc_size] at h
  exact h

theorem wdAt_drew {w : World} {a : Addr} {x : Wd} (h : WdAt w a x) : WdAt w.drew a x := h

theorem one_at {w : World} {g : Nat} {x : Wd} (h : WdAt w ⟨g, 0, none⟩ x) : ∀ k (h : k < [x].length), WdAt w ⟨g, k * 3, none⟩ [x][k] := by
  intro k hk
  have : k = 0 := by simp at hk; omega
  subst this
  simpa using h

theorem box_at (w : World) (x : Wd) : WdAt (w.alloc (.cells #[.string x.n, .int .i64 x.k, .int .i64 x.v] 26)) ⟨w.heap.size, 0, none⟩ x := by
  refine ⟨?_, ?_, ?_⟩ <;> simp

theorem wdAt_grown {w w' : World} {r : Option Nat} {g : Nat} {x : Wd} (h : WdAt w ⟨g, 0, none⟩ x) (hg : w.grownBy w' r) (hne : some g ≠ r) : WdAt w' ⟨g, 0, none⟩ x := ⟨hg.cell h.1 hne, hg.cell h.2.1 hne, hg.cell h.2.2 hne⟩

set_option maxRecDepth 100000 in
set_option maxHeartbeats 4000000 in
theorem sAdd_any (v : Value) (Q : List Wd) (x : Wd) (w : World) (hv : Wds w v Q) (hx : x.n.size ≤ maxLen) :
    Calls Tryd.prog 13 #[v, .agg #[.string x.n, .int .i64 x.k, .int .i64 x.v]] w (AddOf w (addF Q x)) := by
  have HV := Lib.hid hv
  have HX := Lib.hid hx
  obtain ⟨A, ca, rfl, hcap, hl, hnq⟩ := wds_form hv
  have HN := Lib.hid hnq
  unfold maxLen at hl
  have BB : Hid (∀ o : Obj, Below w.heap.size w (w.alloc o)) := Lib.hid fun o => below_alloc (Below.refl _ _) o
  clear hv hx hnq
  by_cases h1 : 4096 < Q.length
  · have E : Hid (addF Q x = ([], 0, 2)) := Lib.hid (if_pos h1)
    have t0 : decide ((4096 : Int) < (Q.length : Int)) = true := by simp; omega
    go_enter Tryd.func13, Tryd.ntmps13
    go_wp2
    go_ret3
    have h := wrow_empty (base := w.heap.size) (w.alloc (.cells #[.string x.n, .int .i64 x.k, .int .i64 x.v] 26)) (by simp)
    rw [alloc_size] at h
    exact add_of E.out h (below_alloc (BB.out _) _)
  · have t0 : decide ((4096 : Int) < (Q.length : Int)) = false := by simp; omega
    cases hd : dictB Q
    · have E : Hid (addF Q x = ([], 0, 1)) := Lib.hid ((if_neg h1).trans (if_pos (.inl hd)))
      go_enter Tryd.func13, Tryd.ntmps13
      go_wp2_with fail
      refine (sDict_any _ _ _ (wds_below HV.out (BB.out _))).mono ?_
      rintro e w1 ⟨rfl, hb⟩
      rw [hd]
      have B1 := Lib.hid (below_step (BB.out _) hb)
      clear hb
      go_wp2
      go_ret3
      exact add_of E.out (wrow_empty _ B1.out.size) (below_alloc B1.out _)
    · obtain ⟨h103, hkb, _⟩ := dict_is hd
      have h83 := kernB_len hkb
      clear hkb
      cases hu : userB x
      · have E : Hid (addF Q x = ([], 0, 1)) := Lib.hid ((if_neg h1).trans (if_pos (.inr hu)))
        go_enter Tryd.func13, Tryd.ntmps13
        go_wp2_with fail
        refine (sDict_any _ _ _ (wds_below HV.out (BB.out _))).mono ?_
        rintro e w1 ⟨rfl, hb⟩
        rw [hd]
        have B1 := Lib.hid (below_step (BB.out _) hb)
        obtain ⟨x0, x1, x2⟩ := box_cells hb
        have zl : w.heap.size < w1.heap.size := by have := hb.size; simp at this; omega
        clear hb
        go_wp2_with fail
        refine (sUser_any x _ HX.out).mono ?_
        rintro e w2 ⟨rfl, hb⟩
        rw [hu]
        have B2 := Lib.hid (below_step B1.out hb)
        clear hb x0 x1 x2
        go_wp2
        go_ret3
        exact add_of E.out (wrow_empty _ B2.out.size) (below_alloc B2.out _)
      · have E1 : Hid (addF Q x = if Q.length = 103 then ([], 0, 7) else (Q ++ [x], (Q.length : Int) + 1, 0)) := Lib.hid ((if_neg h1).trans (if_neg (by rw [hd, hu]; simp)))
        by_cases hf : Q.length = 103
        · have E : Hid (addF Q x = ([], 0, 7)) := Lib.hid (by rw [E1.out, if_pos hf])
          have t1 : ((Q.length : Int) == (103 : Int)) = true := by rw [beq_iff_eq]; omega
          clear hf
          go_enter Tryd.func13, Tryd.ntmps13
          go_wp2_with fail
          refine (sDict_any _ _ _ (wds_below HV.out (BB.out _))).mono ?_
          rintro e w1 ⟨rfl, hb⟩
          rw [hd]
          have B1 := Lib.hid (below_step (BB.out _) hb)
          obtain ⟨x0, x1, x2⟩ := box_cells hb
          have zl : w.heap.size < w1.heap.size := by have := hb.size; simp at this; omega
          clear hb
          go_wp2_with fail
          refine (sUser_any x _ HX.out).mono ?_
          rintro e w2 ⟨rfl, hb⟩
          rw [hu]
          have B2 := Lib.hid (below_step B1.out hb)
          clear hb x0 x1 x2
          go_wp2
          go_ret3
          exact add_of E.out (wrow_empty _ B2.out.size) (below_alloc B2.out _)
        · have E : Hid (addF Q x = (Q ++ [x], (Q.length : Int) + 1, 0)) := Lib.hid (by rw [E1.out, if_neg hf])
          have t1 : ((Q.length : Int) == (103 : Int)) = false := by rw [beq_eq_false_iff_ne]; omega
          have hlt : Q.length < 103 := by omega
          obtain ⟨ga, rfl⟩ := wds_block HV.out (by omega)
          clear hf
          go_enter Tryd.func13, Tryd.ntmps13
          go_wp2_with fail
          refine (sDict_any _ _ _ (wds_below HV.out (BB.out _))).mono ?_
          rintro e w1 ⟨rfl, hb⟩
          rw [hd]
          have B1 := Lib.hid (below_step (BB.out _) hb)
          obtain ⟨x0, x1, x2⟩ := box_cells hb
          have zl : w.heap.size < w1.heap.size := by have := hb.size; simp at this; omega
          clear hb
          go_wp2_with fail
          refine (sUser_any x _ HX.out).mono ?_
          rintro e w2 ⟨rfl, hb⟩
          rw [hu]
          have B2 := Lib.hid (below_step B1.out hb)
          have V2 := Lib.hid (wds_below HV.out B2.out)
          have z2 : w.heap.size < w2.heap.size := by have := hb.size; omega
          replace x0 := cells_below hb _ _ x0
          replace x1 := cells_below hb _ _ x1
          replace x2 := cells_below hb _ _ x2
          clear hb
          have s1 : IntKind.i64.wrap ((Q.length : Int) + 1) = (Q.length : Int) + 1 := IntWalk.i64_in _ (by omega)
          go_wp2
          go_region_law (first
              | (refine step_append_words (w := (w2.alloc (.cells #[] 26)).drew) rfl (.tmp 24) (.tmp 25) rfl w2.heap.size (.slice (some ⟨w2.heap.size, 0, none⟩) 0 0) [] rfl (wrow_drew (wrow_empty w2 (Nat.le_refl _))) ga Q.length ca Q rfl rfl (wds_word (wds_below V2.out ((below_alloc (Below.refl _ _) _)).drew)) HN.out (by simp; omega) (by simp <;> omega) ?_
                 intro v1 w3 hr3 hg3 ha3
                 have L3 : Below w2.heap.size w2 w3 := below_own ((below_alloc (Below.refl _ _) _)).drew hg3 (wrow_drew (wrow_empty w2 (Nat.le_refl _)))
                 have y0 := cells_below L3 _ _ x0
                 have y1 := cells_below L3 _ _ x1
                 have y2 := cells_below L3 _ _ x2
                 have z3 : w.heap.size < w3.heap.size := by have := L3.size; omega
                 clear ha3)
              | (refine step_append_words (w := ((w2.alloc (.cells #[] 26)).alloc (.cells #[.string x.n, .int .i64 x.k, .int .i64 x.v] 26)).drew) rfl (.tmp 24) (.tmp 25) rfl w2.heap.size (.slice (some ⟨w2.heap.size, 0, none⟩) 0 0) [] rfl (wrow_drew (wrow_below (wrow_empty w2 (Nat.le_refl _)) (below_alloc (Below.refl _ _) _))) ga Q.length ca Q rfl rfl (wds_word (wds_below V2.out ((below_alloc (below_alloc (Below.refl _ _) _) _)).drew)) HN.out (by simp; omega) (by simp <;> omega) ?_
                 intro v1 w3 hr3 hg3 ha3
                 have L3 : Below w2.heap.size w2 w3 := below_own ((below_alloc (below_alloc (Below.refl _ _) _) _)).drew hg3 (wrow_drew (wrow_below (wrow_empty w2 (Nat.le_refl _)) (below_alloc (Below.refl _ _) _)))
                 have y0 := cells_below L3 _ _ x0
                 have y1 := cells_below L3 _ _ x1
                 have y2 := cells_below L3 _ _ x2
                 have z3 : w.heap.size < w3.heap.size := by have := L3.size; omega
                 have K3 : WdAt w3 ⟨w2.heap.size + 1, 0, none⟩ x := wdAt_grown (by have h := box_at (w2.alloc (.cells #[] 26)) x; rw [alloc_size] at h; exact h) hg3 (by simp [Value.ownBlock])
                 clear ha3)
              | (refine step_append_words (w := ((w2.alloc (.cells #[.string x.n, .int .i64 x.k, .int .i64 x.v] 26)).alloc (.cells #[] 26)).drew) rfl (.tmp 24) (.tmp 25) rfl w2.heap.size (.slice (some ⟨w2.heap.size + 1, 0, none⟩) 0 0) [] rfl (wrow_drew (wrow_empty1 w2 (.cells #[.string x.n, .int .i64 x.k, .int .i64 x.v] 26))) ga Q.length ca Q rfl rfl (wds_word (wds_below V2.out ((below_alloc (below_alloc (Below.refl _ _) _) _)).drew)) HN.out (by simp; omega) (by simp <;> omega) ?_
                 intro v1 w3 hr3 hg3 ha3
                 have L3 : Below w2.heap.size w2 w3 := below_own ((below_alloc (below_alloc (Below.refl _ _) _) _)).drew hg3 (wrow_drew (wrow_empty1 w2 (.cells #[.string x.n, .int .i64 x.k, .int .i64 x.v] 26)))
                 have y0 := cells_below L3 _ _ x0
                 have y1 := cells_below L3 _ _ x1
                 have y2 := cells_below L3 _ _ x2
                 have z3 : w.heap.size < w3.heap.size := by have := L3.size; omega
                 have K3 : WdAt w3 ⟨w2.heap.size, 0, none⟩ x := wdAt_grown (wdAt_drew (wdAt_below (below_alloc (Below.refl _ _) (.cells #[] 26)) (box_at w2 x))) hg3 (by simp [Value.ownBlock])
                 clear ha3)
              | (refine step_append_words (w := w3.alloc (.cells #[.string x.n, .int .i64 x.k, .int .i64 x.v] 26)) rfl (.tmp 26) (.tmp 28) rfl w2.heap.size v1 ([] ++ Q) rfl (wrow_below hr3 (below_alloc (Below.refl _ _) _)) w3.heap.size 1 1 [x] rfl rfl (one_at (box_at w3 x)) (names_one HX.out) (by simp; omega) (below_step L3 (below_alloc (Below.refl _ _) _)).size ?_
                 intro v2 w4 hr4 hg4 ha4
                 have L4 : Below w2.heap.size w2 w4 := below_own (below_step L3 (below_alloc (Below.refl _ _) _)) hg4 (wrow_below hr3 (below_alloc (Below.refl _ _) _))
                 clear ha4)
              | (refine step_append_words (w := w3) rfl (.tmp 26) (.tmp 28) rfl w2.heap.size v1 ([] ++ Q) rfl (hr3) (w2.heap.size + 1) 1 1 [x] rfl rfl (one_at (K3)) (names_one HX.out) (by simp; omega) (L3).size ?_
                 intro v2 w4 hr4 hg4 ha4
                 have L4 : Below w2.heap.size w2 w4 := below_own (L3) hg4 (hr3)
                 clear ha4)
              | (refine step_append_words (w := w3) rfl (.tmp 26) (.tmp 28) rfl w2.heap.size v1 ([] ++ Q) rfl (hr3) w2.heap.size 1 1 [x] rfl rfl (one_at (K3)) (names_one HX.out) (by simp; omega) (L3).size ?_
                 intro v2 w4 hr4 hg4 ha4
                 have L4 : Below w2.heap.size w2 w4 := below_own (L3) hg4 (hr3)
                 clear ha4))
          all_goals
            go_wp2
            go_ret3
            exact add_of E.out (wrow_base hr4 (by omega)) (below_step B2.out L4)

end Go.Proofs.YtdinnhebaldnaaaDoor
