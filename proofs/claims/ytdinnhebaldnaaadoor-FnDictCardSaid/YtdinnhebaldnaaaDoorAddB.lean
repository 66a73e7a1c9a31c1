/- impl's AddWord. -/
import Derived.Test.YtdinnhebaldnaaaDoorAddA
namespace Go.Proofs.YtdinnhebaldnaaaDoor
open Go.RowKit
set_option linter.unusedVariables false
set_option linter.unusedSimpArgs false

theorem wrow_nils (w : World) (base : Nat) : WRow w base (.slice none 0 0) [] := wrow_nil w base

theorem set_last (Q : List Wd) (x : Wd) : (Q ++ (List.replicate (Q.length + 1) noWd).drop Q.length).set Q.length x = Q ++ [x] := by
  rw [List.drop_replicate, show Q.length + 1 - Q.length = 1 by omega, List.set_append_right _ _ (Nat.le_refl _), Nat.sub_self]
  rfl

set_option maxRecDepth 100000 in
set_option maxHeartbeats 4000000 in
theorem iAdd_any (v : Value) (Q : List Wd) (x : Wd) (w : World) (hv : Wds w v Q) (hx : x.n.size ≤ maxLen) (ht : Tabs w) :
    Calls Tryd.prog 12 #[v, .agg #[.string x.n, .int .i64 x.k, .int .i64 x.v]] w (AddOf w (addF Q x)) := by
  have HV := Lib.hid hv
  have HX := Lib.hid hx
  have HT := Lib.hid ht
  obtain ⟨A, ca, rfl, hcap, hl, hnq⟩ := wds_form hv
  have HN := Lib.hid hnq
  unfold maxLen at hl
  have BB : Hid (∀ o : Obj, Below w.heap.size w (w.alloc o)) := Lib.hid fun o => below_alloc (Below.refl _ _) o
  clear hv ht hx hnq
  by_cases h1 : 4096 < Q.length
  · have E : Hid (addF Q x = ([], 0, 2)) := Lib.hid (if_pos h1)
    have t0 : decide ((4096 : Int) < (Q.length : Int)) = true := by simp; omega
    go_enter Tryd.func12, Tryd.ntmps12
    go_wp2
    go_ret3
    exact add_of E.out (wrow_nils _ _) (BB.out _)
  · have t0 : decide ((4096 : Int) < (Q.length : Int)) = false := by simp; omega
    cases hd : dictB Q
    · have E : Hid (addF Q x = ([], 0, 1)) := Lib.hid ((if_neg h1).trans (if_pos (.inl hd)))
      go_enter Tryd.func12, Tryd.ntmps12
      go_wp2_with fail
      refine (iDict_any _ _ _ (wds_below HV.out (BB.out _)) (tabs_below HT.out (BB.out _))).mono ?_
      rintro e w1 ⟨rfl, hb⟩
      rw [hd]
      have B1 := Lib.hid (below_step (BB.out _) hb)
      clear hb
      go_wp2
      go_ret3
      exact add_of E.out (wrow_nils _ _) B1.out
    · obtain ⟨h103, hkb, _⟩ := dict_is hd
      have h83 := kernB_len hkb
      clear hkb
      cases hu : userB x
      · have E : Hid (addF Q x = ([], 0, 1)) := Lib.hid ((if_neg h1).trans (if_pos (.inr hu)))
        go_enter Tryd.func12, Tryd.ntmps12
        go_wp2_with fail
        refine (iDict_any _ _ _ (wds_below HV.out (BB.out _)) (tabs_below HT.out (BB.out _))).mono ?_
        rintro e w1 ⟨rfl, hb⟩
        rw [hd]
        have B1 := Lib.hid (below_step (BB.out _) hb)
        obtain ⟨x0, x1, x2⟩ := box_cells hb
        have zl : w.heap.size < w1.heap.size := by have := hb.size; simp at this; omega
        clear hb
        go_wp2_with fail
        refine (iUser_any x _ HX.out).mono ?_
        rintro e w2 ⟨rfl, hb⟩
        rw [hu]
        have B2 := Lib.hid (below_step B1.out hb)
        clear hb x0 x1 x2
        go_wp2
        go_ret3
        exact add_of E.out (wrow_nils _ _) B2.out
      · have E1 : Hid (addF Q x = if Q.length = 103 then ([], 0, 7) else (Q ++ [x], (Q.length : Int) + 1, 0)) := Lib.hid ((if_neg h1).trans (if_neg (by rw [hd, hu]; simp)))
        by_cases hf : Q.length = 103
        · have E : Hid (addF Q x = ([], 0, 7)) := Lib.hid (by rw [E1.out, if_pos hf])
          have t1 : decide ((103 : Int) ≤ (Q.length : Int)) = true := by simp; omega
          clear hf
          go_enter Tryd.func12, Tryd.ntmps12
          go_wp2_with fail
          refine (iDict_any _ _ _ (wds_below HV.out (BB.out _)) (tabs_below HT.out (BB.out _))).mono ?_
          rintro e w1 ⟨rfl, hb⟩
          rw [hd]
          have B1 := Lib.hid (below_step (BB.out _) hb)
          obtain ⟨x0, x1, x2⟩ := box_cells hb
          have zl : w.heap.size < w1.heap.size := by have := hb.size; simp at this; omega
          clear hb
          go_wp2_with fail
          refine (iUser_any x _ HX.out).mono ?_
          rintro e w2 ⟨rfl, hb⟩
          rw [hu]
          have B2 := Lib.hid (below_step B1.out hb)
          clear hb x0 x1 x2
          go_wp2
          go_ret3
          exact add_of E.out (wrow_nils _ _) B2.out
        · have E : Hid (addF Q x = (Q ++ [x], (Q.length : Int) + 1, 0)) := Lib.hid (by rw [E1.out, if_neg hf])
          have t1 : decide ((103 : Int) ≤ (Q.length : Int)) = false := by simp; omega
          have hlt : Q.length < 103 := by omega
          obtain ⟨ga, rfl⟩ := wds_block HV.out (by omega)
          obtain ⟨i0, hi0, hz0, hz1, hz2⟩ := info_parts own_infoW
          have I0 := Lib.hid hi0
          have Z0 := Lib.hid hz0
          have Z1 := Lib.hid hz1
          have B8 : Hid (i0.bytes * (Q.length + 1) ≤ 281474976710656) := Lib.hid (by rw [hz2]; omega)
          clear hf hi0 hz0 hz1 hz2
          go_enter Tryd.func12, Tryd.ntmps12
          go_wp2_with fail
          refine (iDict_any _ _ _ (wds_below HV.out (BB.out _)) (tabs_below HT.out (BB.out _))).mono ?_
          rintro e w1 ⟨rfl, hb⟩
          rw [hd]
          have B1 := Lib.hid (below_step (BB.out _) hb)
          obtain ⟨x0, x1, x2⟩ := box_cells hb
          have zl : w.heap.size < w1.heap.size := by have := hb.size; simp at this; omega
          clear hb
          go_wp2_with fail
          refine (iUser_any x _ HX.out).mono ?_
          rintro e w2 ⟨rfl, hb⟩
          rw [hu]
          have B2 := Lib.hid (below_step B1.out hb)
          have X2 := Lib.hid (And.intro (cells_below hb _ _ x0) (And.intro (cells_below hb _ _ x1) (cells_below hb _ _ x2)))
          have z2 : w.heap.size < w2.heap.size := by have := hb.size; omega
          clear hb x0 x1 x2
          go_wp2_with (first
            | (at_make; refine wpList_make_full _ rfl _ _ 23 rfl w2.heap.size 26 i0 _ 3 Tryd.underlying23 I0.out Z0.out Z1.out .i64 .i64 _ _ (Q.length + 1) rfl rfl rfl rfl B8.out (by unfold maxLen; omega) (by simp) ?_
               intro w3 ho1 hg1
               rw [made_cells] at ho1
               have R3 : Hid (WRow w3 w2.heap.size (.slice (some ⟨w2.heap.size, 0, none⟩) (List.replicate (Q.length + 1) noWd).length (Q.length + 1)) (List.replicate (Q.length + 1) noWd)) := Lib.hid (by
                 rw [List.length_replicate]; exact ⟨by rw [List.length_replicate]; simpa using ho1, fun y hy => by rw [(List.mem_replicate.1 hy).2]; decide⟩)
               have hb3 : Below w2.heap.size w2 w3 := (Below.refl _ _).grown hg1 (Nat.le_refl _) (by simp)
               have B3 := Lib.hid (below_step B2.out hb3)
               have X3 := Lib.hid (And.intro (cells_below hb3 _ _ X2.out.1) (And.intro (cells_below hb3 _ _ X2.out.2.1) (cells_below hb3 _ _ X2.out.2.2)))
               have V3 := Lib.hid (wds_below HV.out B3.out)
               clear ho1 hg1 hb3)
            | (refine wpList_copy_words (o := ⟨some 28, _, _, _, _, _⟩) rfl (.tmp 26) (.tmp 27) rfl w2.heap.size w2.heap.size (Q.length + 1) (Q.length + 1) ga ca (List.replicate (Q.length + 1) noWd) Q (List.length_replicate ..) rfl rfl R3.out (wds_word V3.out) HN.out (by rw [List.length_replicate]; omega) ?_
               intro w4 hr4 hg4
               rw [List.length_replicate] at hr4
               obtain ⟨P, hP, hset⟩ : ∃ P, P.length = Q.length + 1 ∧ WRow w4 w2.heap.size (.slice (some ⟨w2.heap.size, 0, none⟩) (Q.length + 1) (Q.length + 1)) P ∧ P.set Q.length x = Q ++ [x] := ⟨_, by rw [List.length_append, List.length_drop, List.length_replicate]; omega, hr4, set_last Q x⟩
               obtain ⟨hr5, hset⟩ := hset
               have R4 : Hid (WRow w4 w2.heap.size (.slice (some ⟨w2.heap.size, 0, none⟩) P.length (Q.length + 1)) P) := Lib.hid (by rw [hP]; exact hr5)
               have B4 := Lib.hid (B3.out.grown hg4 B3.out.size (fun j hj => by cases hj; have := z2; omega))
               have hne : some w.heap.size ≠ some w2.heap.size := by simp; omega
               obtain ⟨x0, x1, x2⟩ : w4.cell? ⟨w.heap.size, 0, none⟩ = some (.string x.n) ∧ w4.cell? ⟨w.heap.size, 1, none⟩ = some (.int .i64 x.k) ∧ w4.cell? ⟨w.heap.size, 2, none⟩ = some (.int .i64 x.v) := ⟨hg4.cell X3.out.1 hne, hg4.cell X3.out.2.1 hne, hg4.cell X3.out.2.2 hne⟩
               have ST : Hid (WRow (((w4.setCell ⟨w2.heap.size, Q.length * 3, none⟩ (.string x.n)).setCell ⟨w2.heap.size, Q.length * 3 + 1, none⟩ (.int .i64 x.k)).setCell ⟨w2.heap.size, Q.length * 3 + 2, none⟩ (.int .i64 x.v)) w.heap.size (.slice (some ⟨w2.heap.size, 0, none⟩) (Q.length + 1) (Q.length + 1)) (Q ++ [x])) := Lib.hid (by
                 have h2 := wrow_set R4.out Q.length (by omega) x HX.out
                 rw [hset, hP] at h2
                 exact wrow_base h2 (by omega))
               have SB := Lib.hid (below_set3 B4.out (g := w2.heap.size) (by omega) (Q.length * 3) (Q.length * 3 + 1) (Q.length * 3 + 2) (.string x.n) (.int .i64 x.k) (.int .i64 x.v))
               obtain ⟨o0, o1, o2⟩ := wrow_at R4.out.1 Q.length (by omega)
               have f0 := wrow_free R4.out (Q.length * 3)
               have f1 := wrow_free R4.out (Q.length * 3 + 1)
               have f2 := wrow_free R4.out (Q.length * 3 + 2)
               generalize (P[Q.length]'(by omega)) = old at o0 o1 o2
               have zl4 : w2.heap.size < w4.heap.size := (wrow_lt R4.out _ rfl).2
               clear hr4 hg4 hne hr5 hset hP))
          go_ret3
          exact add_of E.out ST.out SB.out

end Go.Proofs.YtdinnhebaldnaaaDoor
