/- impl's allot, behind a pointer. -/
import Derived.Test.YtojjknjdlipfpaaDatW
namespace Go.Proofs.Ytojjknjdlipfpaa
open Go.RowKit
set_option linter.unusedVariables false
set_option linter.unusedSimpArgs false

set_option maxRecDepth 100000 in
set_option maxHeartbeats 2000000 in
theorem allot_no (lo g : Nat) (d : Dt) (n : Int) (w : World) (hb : BoxIs w lo g d) (hd : DtFine d) (hn : cellB n = true) (hg : ¬ goodMove d n) :
    Calls Try.prog 49 #[.pointer (some ⟨g, 0, none⟩), .int .i64 n] w (MethOf w lo g d (.int .i64 (-8))) := by
  obtain ⟨_, A1, k1, A2, k2, A3, k3, hw, _⟩ := box_parts hb
  have c3 := (six_cells hw).2.2.2.1
  have HB := Lib.hid hb
  have q0 := fine_h0 hd
  have q1 := fine_h1 hd
  obtain ⟨n0, n1⟩ := cellB_true.1 hn
  have b0 : -536870912 ≤ n.tdiv 4 ∧ n.tdiv 4 ≤ 536870912 := by
    have h2 := tdm n 4
    have h3 := (tmod_bd n 4 (by decide)).2 (by decide)
    omega
  obtain ⟨b0, b1⟩ := b0
  by_cases h : n.tmod 4 = 0
  · have t1 : (n.tmod 4 != 0) = false := by rw [h]; rfl
    by_cases h2 : d.h + n.tdiv 4 < 0
    · clear hb hw hd hn hg h
      go_enter Try.func49, Try.ntmps49
      go_wp2
      go_ret
      exact ⟨rfl, HB.out, Below.refl _ _⟩
    · have h3 : 32 < d.h + n.tdiv 4 := by
        rcases Int.lt_or_le 32 (d.h + n.tdiv 4) with h3 | h3
        · exact h3
        · exact absurd ⟨h, by omega, h3⟩ hg
      clear hb hw hd hn hg h
      go_enter Try.func49, Try.ntmps49
      go_wp2
      go_ret
      exact ⟨rfl, HB.out, Below.refl _ _⟩
  · have t1 : (n.tmod 4 != 0) = true := by rw [bne_iff_ne]; exact h
    clear hb hw hd hn hg h
    go_enter Try.func49, Try.ntmps49
    go_wp2
    go_ret
    exact ⟨rfl, HB.out, Below.refl _ _⟩

theorem zeroN_neg {c : List Int} {a : Nat} {q : Int} (h : q ≤ 0) : zeroN c a q.toNat = c := by
  rw [show q.toNat = 0 by omega, zeroN_none]

set_option maxRecDepth 100000 in
set_option maxHeartbeats 2000000 in
theorem allot_down (lo g : Nat) (d : Dt) (n : Int) (w : World) (hb : BoxIs w lo g d) (hd : DtFine d) (hn : cellB n = true) (hg : goodMove d n) (hq : n.tdiv 4 ≤ 0) :
    Calls Try.prog 49 #[.pointer (some ⟨g, 0, none⟩), .int .i64 n] w (MethOf w lo g { d with c := zeroN d.c d.h.toNat (n.tdiv 4).toNat, h := d.h + n.tdiv 4 } (.int .i64 0)) := by
  rw [zeroN_neg hq]
  obtain ⟨hlo, A1, k1, A2, k2, A3, k3, hw, r1, r2, r3, h4, p1, p2, p3⟩ := box_parts hb
  have c3 := (six_cells hw).2.2.2.1
  have f3 := whole_free hw 3
  have q0 := fine_h0 hd
  have q1 := fine_h1 hd
  obtain ⟨n0, n1⟩ := cellB_true.1 hn
  obtain ⟨h1, h2, h3⟩ := hg
  have t1 : (n.tmod 4 != 0) = false := by rw [h1]; rfl
  have b0 : -32 ≤ n.tdiv 4 := by omega
  have ST : Hid (BoxIs (w.setCell ⟨g, 3, none⟩ (.int .i64 (d.h + n.tdiv 4))) lo g { d with h := d.h + n.tdiv 4 }) := Lib.hid
    (box_of (d := { d with h := d.h + n.tdiv 4 }) hlo (whole_set hw 3 _) (row_apart r1 (row_not_whole r1 hw)) (row_apart r2 (row_not_whole r2 hw)) (row_apart r3 (row_not_whole r3 hw)) h4 p1 p2 p3)
  clear hb hw hd hn h1
  go_enter Try.func49, Try.ntmps49
  go_wp2
  go_ret
  exact ⟨rfl, ST.out, (Below.refl _ _).setCell hlo _⟩

theorem setCells_heap (b : Nat) : ∀ (vs : List Value) (o : Nat) (w : World) (k : Nat), k ≠ b → (w.setCells b o vs).heap[k]? = w.heap[k]?
  | [], _, _, _, _ => rfl
  | v :: r, o, w, k, h => by
    rw [World.setCells, setCells_heap b r (o + 1) _ k h]; exact Below.heap_setCell _ _ _ _ h

theorem setCells_below (b : Nat) : ∀ (vs : List Value) (o : Nat) (a w : World) (B : Nat), B ≤ b → Below B a w → Below B a (w.setCells b o vs)
  | [], _, _, _, _, _, h => h
  | v :: r, o, a, w, B, hB, h => by rw [World.setCells]; exact setCells_below b r (o + 1) a _ B hB (h.setCell hB _)

theorem zeroN_set {c : List Int} {a m : Nat} (h : a + (m + 1) ≤ c.length) : zeroN (c.set a 0) (a + 1) m = zeroN c a (m + 1) := by
  unfold zeroN
  apply List.ext_getElem?
  intro i
  rw [List.getElem?_append, List.getElem?_append, List.getElem?_append, List.getElem?_append]
  simp only [List.length_take, List.length_set, List.length_replicate, List.getElem?_take, List.getElem?_set, List.getElem?_replicate, List.getElem?_drop]
  repeat' split
  all_goals first
    | rfl
    | omega
    | (congr 1; omega)
    | skip

theorem setCells_row {base g cap : Nat} : ∀ (m a : Nat) (zs : List Int) (w : World), Row w base (.slice (some ⟨g, 0, none⟩) zs.length cap) zs → a + m ≤ zs.length →
    Row (w.setCells g a (List.replicate m (.int .i64 0))) base (.slice (some ⟨g, 0, none⟩) zs.length cap) (zeroN zs a m)
  | 0, a, zs, w, h, _ => by rw [zeroN_none]; exact h
  | m + 1, a, zs, w, h, hl => by
    have h1 := (row_set h a 0).1
    have hn : (zs.set a 0).length = zs.length := List.length_set ..
    have h2 := setCells_row m (a + 1) (zs.set a 0) (w.setCell ⟨g, a, none⟩ (.int .i64 0)) (by rw [hn]; exact h1) (by rw [hn]; omega)
    rw [zeroN_set hl, hn] at h2
    rw [List.replicate_succ, World.setCells]
    exact h2

theorem zero_int (w : World) : (zeroValue 3).run Try.prog w = .ok (.int .i64 0) w := by kernel_rfl

set_option maxRecDepth 100000 in
set_option maxHeartbeats 2000000 in
theorem allot_up (lo g : Nat) (d : Dt) (n : Int) (w : World) (hb : BoxIs w lo g d) (hd : DtFine d) (hn : cellB n = true) (hg : goodMove d n) (hq : 0 < n.tdiv 4) :
    Calls Try.prog 49 #[.pointer (some ⟨g, 0, none⟩), .int .i64 n] w (MethOf w lo g { d with c := zeroN d.c d.h.toNat (n.tdiv 4).toNat, h := d.h + n.tdiv 4 } (.int .i64 0)) := by
  obtain ⟨hlo, A1, k1, A2, k2, A3, k3, hw, r1, r2, r3, h4, p1, p2, p3⟩ := box_parts hb
  have q0 := fine_h0 hd
  have q1 := fine_h1 hd
  have hc32 := fine_cl hd
  obtain ⟨n0, n1⟩ := cellB_true.1 hn
  obtain ⟨h1, h2, h3⟩ := hg
  have t1 : (n.tmod 4 != 0) = false := by rw [h1]; rfl
  obtain ⟨s, b, c, h, bn, o⟩ := d
  simp only at *
  obtain ⟨a, rfl⟩ : ∃ a : Nat, h = a := ⟨h.toNat, by omega⟩
  obtain ⟨m, hm⟩ : ∃ m : Nat, n.tdiv 4 = m := ⟨(n.tdiv 4).toNat, by omega⟩
  rw [hm] at h2 h3 hq ⊢
  obtain ⟨g3, k3', hA, hg1, hg1', hlc, hcm⟩ := row_form r3 (by omega)
  simp only [Value.slice.injEq, true_and] at hA
  obtain ⟨rfl, rfl⟩ := hA
  have hcells : ∀ j, j < m → (w.cell? ⟨g3, a + j, none⟩).isSome = true := fun j hj => by rw [row_cell r3 (a + j) (by omega)]; rfl
  have hfree : ∀ j, j < m → w.frozen? ⟨g3, a + j, none⟩ = false := fun j hj => row_free r3 (a + j)
  have CL : Hid (∀ ty, (Builtin.clear_ #[23] ty #[.slice (some ⟨g3, a, none⟩) m (k3 - a)]).run Try.prog w.drew = .ok (.tuple #[]) (w.drew.setCells g3 a (List.replicate m (.int .i64 0)))) := Lib.hid
    (fun ty => Lib.run_clear_slice w.drew 23 3 ty (.int .i64 0) Try.underlying23 zero_int rfl rfl g3 a m (k3 - a) (by omega) hcells hfree)
  have n3 := row_not_whole r3 hw
  have n3' : g ≠ g3 := fun e => n3 (by rw [e]; rfl)
  have u1 : (Value.slice A1 s.length k1).ownBlock ≠ some g3 := fun e => p2 g3 e rfl
  have u2 : (Value.slice A2 b.length k2).ownBlock ≠ some g3 := fun e => p3 g3 e rfl
  have Z3 := setCells_row (cap := k3) m a c w.drew r3 (by omega)
  have x1 : Row (w.drew.setCells g3 a (List.replicate m (.int .i64 0))) lo (.slice A1 s.length k1) s := row_keep (w := w.drew) r1 fun k hk => setCells_heap g3 _ _ _ _ (by rintro rfl; exact u1 hk)
  have x2 : Row (w.drew.setCells g3 a (List.replicate m (.int .i64 0))) lo (.slice A2 b.length k2) b := row_keep (w := w.drew) r2 fun k hk => setCells_heap g3 _ _ _ _ (by rintro rfl; exact u2 hk)
  have xw : Whole (w.drew.setCells g3 a (List.replicate m (.int .i64 0))) g 25 _ := whole_keep (w := w.drew) hw (setCells_heap g3 _ _ _ _ n3')
  have xb : Below lo w (w.drew.setCells g3 a (List.replicate m (.int .i64 0))) := setCells_below g3 _ _ _ _ _ (by omega) (Below.refl _ _).drew
  have cl := CL.out
  generalize w.drew.setCells g3 a (List.replicate m (.int .i64 0)) = w1 at *
  have zl := zeroN_len (c := c) (a := a) (k := m) (by omega)
  have ST : Hid (BoxIs (w1.setCell ⟨g, 3, none⟩ (.int .i64 ((a : Int) + m))) lo g ⟨s, b, zeroN c a m, (a : Int) + m, bn, o⟩) := Lib.hid
    (box_of (d := ⟨s, b, zeroN c a m, (a : Int) + m, bn, o⟩) hlo (whole_set xw 3 _) (row_apart x1 (row_not_whole x1 xw)) (row_apart x2 (row_not_whole x2 xw)) (row_apart Z3 (row_not_whole Z3 xw)) h4 p1 p2 p3)
  have c2 := (six_cells hw).2.2.1
  have c3 := (six_cells hw).2.2.2.1
  have d3 := (six_cells xw).2.2.2.1
  have e3 := whole_free xw 3
  have TA : Hid ((a : Int).toNat = a ∧ (m : Int).toNat = m) := Lib.hid ⟨by omega, by omega⟩
  have ka : a ≤ k3 := by omega
  have kb : a + m ≤ k3 := by omega
  have kc : (k3 == a) = false := by rw [beq_eq_false_iff_ne]; omega
  have kd : ¬ (k3 = a) := by omega
  have hcl : c.length ≤ 32 := by omega
  unfold maxLen at hcm
  rw [TA.out.1, TA.out.2]
  clear hb hw hd hn h1 CL hcells hfree n3 n3' u1 u2 Z3 x1 x2 xw p1 p2 p3 zl TA hc32
  go_enter Try.func49, Try.ntmps49
  go_wp2
  go_region
  all_goals
    go_wp2
    go_ret
    exact ⟨rfl, ST.out, xb.setCell hlo _⟩

end Go.Proofs.Ytojjknjdlipfpaa
