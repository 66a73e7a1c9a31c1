/- PkI: several of my texts, laid together: AppB. -/
import Derived.Test.YthnbaeamekolmaaGreatDoorPkF
namespace Go.Proofs.YthnbaeamekolmaaGreatDoor
open Go.RowKit
set_option linter.unusedVariables false
set_option linter.unusedSimpArgs false

set_option maxRecDepth 100000 in
set_option maxHeartbeats 4000000 in
theorem apply_throw (w : World) (lo g : Nat) (d d' : Dt) (L : List Int) (th : Int) (t n k : Nat) (fv : FuncId) (cap : List Value) (f : Int) (hb : BoxIs w lo g d) (hd : DtFine d) (ht : t ≤ 3) (hu : t ≤ d.s.length) (hn : n ≤ 2) (hf0 : 0 ≤ f) (hf1 : f ≤ d.b.length) (hu2 : (n : Int) ≤ d.b.length - f)
    (he : Entered fv) (C : Hid (∀ W tv, Below w.heap.size w W → Ints W tv (tkOf d t) → Away W g tv → Calls Tryz.prog fv (.pointer (some ⟨g, 0, none⟩) :: tv :: cap).toArray W (EffR W lo g (d', L, th)))) (hth : th ≠ 0) :
    Calls Tryz.prog 61 #[.pointer (some ⟨g, 0, none⟩), .agg #[.int .i64 t, .int .i64 n, .int .i64 k, .func (.func fv) #[] cap.toArray], .int .i64 f] w (AppR w lo g (d', th)) := by
  obtain ⟨hg, A1, k1, A2, k2, A3, k3, hw, r1, r2, r3, h4, p1, p2, p3⟩ := box_parts hb
  have c0 := (six_cells hw).1
  have c1 := (six_cells hw).2.1
  have hlt := whole_lt hw
  have l1 := fine_sl hd
  have l2 := fine_bl hd
  obtain ⟨m, hm⟩ : ∃ m, d.s.length = m + t := ⟨d.s.length - t, by omega⟩
  have hk1 := (row_cap r1).1
  have hk1m := (row_cap r1).2
  have HW := Lib.hid hw
  have HB := Lib.hid hb
  have L2 := Lib.hid (row_lt r2)
  have L3 := Lib.hid (row_lt r3)
  have s0 : d.s.length - m = t := by omega
  have s1 : IntKind.i64.wrap ((d.s.length : Int) - t) = (m : Int) := by rw [show (d.s.length : Int) - t = m by omega]; exact IntWalk.i64_in _ (by omega)
  have s3 : IntKind.i64.wrap ((d.b.length : Int) - f) = (d.b.length : Int) - f := IntWalk.i64_in _ (by omega)
  have s4 : ¬ ((d.b.length : Int) - f < n) := by omega
  have s6 : (m : Int) ≤ d.s.length := by omega
  have s7 : m ≤ k1 := by omega
  have HM := Lib.hid hm
  have PB : Hid (Below w.heap.size w (PW w t n k fv cap.toArray)) := Lib.hid (below_alloc (Below.refl _ _) _)
  have PX : Hid (Whole (PW w t n k fv cap.toArray) w.heap.size 108 #[.int .i64 t, .int .i64 n, .int .i64 k, .func (.func fv) #[] cap.toArray]) := Lib.hid (whole_new w _ _)
  unfold maxLen at hk1m
  unfold Entered at he
  have t1 : (th != 0) = true := by rw [bne_iff_ne]; exact hth
  rcases row_shape r1 with ⟨rfl, n1, n2⟩ | ⟨g1, rfl⟩
  · obtain rfl : t = 0 := by omega
    obtain rfl : m = 0 := by omega
    subst n2
    have HT : Hid ((∀ W, Below w.heap.size w W → Ints W (.slice none 0 0) (tkOf d 0)) ∧ (∀ W, Below w.heap.size w W → Away W g (.slice none 0 0))) := Lib.hid ⟨fun W _ => ints_nil W, fun W _ => away_nil W g 0 0⟩
    clear hb hw r1 r2 r3 p1 p2 p3 hm
    go_enter Tryz.func61, Tryz.ntmps61
    go_wp2
    go_quiet (fail)
    go_wp2
    go_quiet (fail)
    go_wp2
    go_region_with (first | (go_at_fn fv; refine (C.out _ _ (by exact below_drewN PB.out _) (by exact HT.out.1 _ (below_drewN PB.out _)) (by exact HT.out.2 _ (below_drewN PB.out _))).mono ?_; rintro e w2 ⟨lv, rfl, hb2, hi2, hl2, hk2⟩))
    all_goals
      go_wp2
      go_ret
      exact ⟨rfl, hb2, (below_lo HB.out (below_drewN PB.out _)).trans hl2⟩
  by_cases kd : k1 = m
  · subst kd
    obtain rfl : t = 0 := by omega
    obtain rfl : k1 = d.s.length := by omega
    have HT : Hid ((∀ W, Below w.heap.size w W → Ints W (.slice (some ⟨g1, 0, none⟩) 0 0) (tkOf d 0)) ∧ (∀ W, Below w.heap.size w W → Away W g (.slice (some ⟨g1, 0, none⟩) 0 0))) := Lib.hid ⟨fun W _ => ⟨Nat.zero_le _, _, _, rfl, fun h => absurd h (Nat.lt_irrefl 0)⟩, fun W hW => away_head hw r1 p1 p2 hW⟩
    clear hb hw r1 r2 r3 p1 p2 p3 hm
    go_enter Tryz.func61, Tryz.ntmps61
    go_wp2
    go_quiet (fail)
    go_wp2
    go_quiet (fail)
    go_wp2
    go_region_with (first | (go_at_fn fv; refine (C.out _ _ (by exact below_drewN PB.out _) (by exact HT.out.1 _ (below_drewN PB.out _)) (by exact HT.out.2 _ (below_drewN PB.out _))).mono ?_; rintro e w2 ⟨lv, rfl, hb2, hi2, hl2, hk2⟩))
    all_goals
      go_wp2
      go_ret
      exact ⟨rfl, hb2, (below_lo HB.out (below_drewN PB.out _)).trans hl2⟩
  · have HT := Lib.hid (take_away hw r1 p1 p2 hm ht)
    clear hb hw r1 r2 r3 p1 p2 p3 hm
    go_enter Tryz.func61, Tryz.ntmps61
    go_wp2
    go_quiet (fail)
    go_wp2
    go_quiet (fail)
    go_wp2
    go_region_with (first | (go_at_fn fv; refine (C.out _ _ (by exact below_drewN PB.out _) (by exact HT.out.1 _ (below_drewN PB.out _)) (by exact HT.out.2 _ (below_drewN PB.out _))).mono ?_; rintro e w2 ⟨lv, rfl, hb2, hi2, hl2, hk2⟩))
    all_goals
      go_wp2
      go_ret
      exact ⟨rfl, hb2, (below_lo HB.out (below_drewN PB.out _)).trans hl2⟩
set_option maxRecDepth 100000 in
set_option maxHeartbeats 4000000 in
theorem apply_over (w : World) (lo g : Nat) (d d' : Dt) (L : List Int) (th : Int) (t n k : Nat) (fv : FuncId) (cap : List Value) (f : Int) (hb : BoxIs w lo g d) (hd : DtFine d) (ht : t ≤ 3) (hu : t ≤ d.s.length) (hn : n ≤ 2) (hf0 : 0 ≤ f) (hf1 : f ≤ d.b.length) (hu2 : (n : Int) ≤ d.b.length - f)
    (he : Entered fv) (C : Hid (∀ W tv, Below w.heap.size w W → Ints W tv (tkOf d t) → Away W g tv → Calls Tryz.prog fv (.pointer (some ⟨g, 0, none⟩) :: tv :: cap).toArray W (EffR W lo g (d', L, th)))) (hth : th = 0) (hov : 32 < d.s.length - t + L.length) (hL : L.length ≤ 32) :
    Calls Tryz.prog 61 #[.pointer (some ⟨g, 0, none⟩), .agg #[.int .i64 t, .int .i64 n, .int .i64 k, .func (.func fv) #[] cap.toArray], .int .i64 f] w (AppR w lo g (d', -3)) := by
  obtain ⟨hg, A1, k1, A2, k2, A3, k3, hw, r1, r2, r3, h4, p1, p2, p3⟩ := box_parts hb
  have c0 := (six_cells hw).1
  have c1 := (six_cells hw).2.1
  have hlt := whole_lt hw
  have l1 := fine_sl hd
  have l2 := fine_bl hd
  obtain ⟨m, hm⟩ : ∃ m, d.s.length = m + t := ⟨d.s.length - t, by omega⟩
  have hk1 := (row_cap r1).1
  have hk1m := (row_cap r1).2
  have HW := Lib.hid hw
  have HB := Lib.hid hb
  have L2 := Lib.hid (row_lt r2)
  have L3 := Lib.hid (row_lt r3)
  have s0 : d.s.length - m = t := by omega
  have s1 : IntKind.i64.wrap ((d.s.length : Int) - t) = (m : Int) := by rw [show (d.s.length : Int) - t = m by omega]; exact IntWalk.i64_in _ (by omega)
  have s3 : IntKind.i64.wrap ((d.b.length : Int) - f) = (d.b.length : Int) - f := IntWalk.i64_in _ (by omega)
  have s4 : ¬ ((d.b.length : Int) - f < n) := by omega
  have s6 : (m : Int) ≤ d.s.length := by omega
  have s7 : m ≤ k1 := by omega
  have HM := Lib.hid hm
  have PB : Hid (Below w.heap.size w (PW w t n k fv cap.toArray)) := Lib.hid (below_alloc (Below.refl _ _) _)
  have PX : Hid (Whole (PW w t n k fv cap.toArray) w.heap.size 108 #[.int .i64 t, .int .i64 n, .int .i64 k, .func (.func fv) #[] cap.toArray]) := Lib.hid (whole_new w _ _)
  unfold maxLen at hk1m
  unfold Entered at he
  subst hth
  have v1 : IntKind.i64.wrap ((m : Int) + L.length) = (m : Int) + L.length := IntWalk.i64_in _ (by omega)
  have v2 : (32 : Int) < (m : Int) + L.length := by omega
  rcases row_shape r1 with ⟨rfl, n1, n2⟩ | ⟨g1, rfl⟩
  · exfalso; omega
  by_cases kd : k1 = m
  · subst kd
    obtain rfl : t = 0 := by omega
    obtain rfl : k1 = d.s.length := by omega
    have HT : Hid ((∀ W, Below w.heap.size w W → Ints W (.slice (some ⟨g1, 0, none⟩) 0 0) (tkOf d 0)) ∧ (∀ W, Below w.heap.size w W → Away W g (.slice (some ⟨g1, 0, none⟩) 0 0))) := Lib.hid ⟨fun W _ => ⟨Nat.zero_le _, _, _, rfl, fun h => absurd h (Nat.lt_irrefl 0)⟩, fun W hW => away_head hw r1 p1 p2 hW⟩
    clear hb hw r1 r2 r3 p1 p2 p3 hm
    go_enter Tryz.func61, Tryz.ntmps61
    go_wp2
    go_quiet (fail)
    go_wp2
    go_quiet (fail)
    go_wp2
    go_region_with (first | (go_at_fn fv; refine (C.out _ _ (by exact below_drewN PB.out _) (by exact HT.out.1 _ (below_drewN PB.out _)) (by exact HT.out.2 _ (below_drewN PB.out _))).mono ?_; rintro e w2 ⟨lv, rfl, hb2, hi2, hl2, hk2⟩))
    all_goals
      obtain ⟨_, LA, lc, rfl, _⟩ := hi2
      go_wp2
      go_ret
      exact ⟨rfl, hb2, (below_lo HB.out (below_drewN PB.out _)).trans hl2⟩
  · have HT := Lib.hid (take_away hw r1 p1 p2 hm ht)
    clear hb hw r1 r2 r3 p1 p2 p3 hm
    go_enter Tryz.func61, Tryz.ntmps61
    go_wp2
    go_quiet (fail)
    go_wp2
    go_quiet (fail)
    go_wp2
    go_region_with (first | (go_at_fn fv; refine (C.out _ _ (by exact below_drewN PB.out _) (by exact HT.out.1 _ (below_drewN PB.out _)) (by exact HT.out.2 _ (below_drewN PB.out _))).mono ?_; rintro e w2 ⟨lv, rfl, hb2, hi2, hl2, hk2⟩))
    all_goals
      obtain ⟨_, LA, lc, rfl, _⟩ := hi2
      go_wp2
      go_ret
      exact ⟨rfl, hb2, (below_lo HB.out (below_drewN PB.out _)).trans hl2⟩

end Go.Proofs.YthnbaeamekolmaaGreatDoor
