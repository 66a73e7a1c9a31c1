/- PkC: several of my texts, laid together: DatQ, DatR, DatS, DatT, DatU. -/
import Derived.Test.YthnbaeamekolmaaGreatDoorPkB
namespace Go.Proofs.YthnbaeamekolmaaGreatDoor
open Go.RowKit
set_option linter.unusedVariables false
set_option linter.unusedSimpArgs false

theorem one_i64 (n : Int) (rest : List Int) : (Value.int .i64 n :: rest.map (Value.int .i64)) = (n :: rest).map (Value.int .i64) := rfl

end Go.Proofs.YthnbaeamekolmaaGreatDoor

namespace Go.Proofs.YthnbaeamekolmaaGreatDoor
open Go.RowKit
set_option linter.unusedVariables false
set_option linter.unusedSimpArgs false

theorem place_some {d : Dt} {x : Int} {k : Nat} (h : dPlace d x = some k) : 4096 ≤ x ∧ x < 4096 + 4 * d.h ∧ x % 4 = 0 ∧ (x - 4096) / 4 = k := by
  unfold dPlace at h
  split at h
  · rename_i hc; simp only [Option.some.injEq] at h; refine ⟨hc.1, hc.2.1, hc.2.2, ?_⟩; omega
  · cases h

theorem place_none {d : Dt} {x : Int} (h : dPlace d x = none) : ¬ (4096 ≤ x ∧ x < 4096 + 4 * d.h ∧ x % 4 = 0) := by
  unfold dPlace at h
  split at h
  · cases h
  · assumption

theorem place_lt {d : Dt} {x : Int} {k : Nat} (h : dPlace d x = some k) (hd : DtFine d) : k < 32 ∧ k < d.c.length := by
  have := place_some h
  have h1 := fine_h1 hd
  have h2 := fine_cl hd
  omega

set_option maxRecDepth 100000 in
set_option maxHeartbeats 1000000 in
theorem sAt_some (v : Value) (d : Dt) (x : Int) (k : Nat) (w : World) (hv : DatIn w v d) (hd : DtFine d) (hk : dPlace d x = some k) :
    Calls Tryz.prog 198 #[v, .int .i64 x] w fun e w' => e = .returned (.int .i64 k) ∧ Below w.heap.size w w' := by
  obtain ⟨A1, k1, A2, k2, A3, k3, rfl⟩ := datIn_form hv
  obtain ⟨h1, h2, h3, h4⟩ := place_some hk
  have q0 := fine_h0 hd
  have q1 := fine_h1 hd
  have t1 : inB x 4096 (4096 + 4 * d.h - 1) = true := inB_of h1 (by omega)
  have t2 : (x % 4 != 0) = false := by rw [h3]; rfl
  have H4 := Lib.hid h4
  clear hv hd hk h3 h4
  go_enter Tryz.func198, Tryz.ntmps198
  go_wp2_with (go_at_call 64; refine (sIn_any _ _ _ _).mono ?_; rintro e w' ⟨rfl, rfl⟩)
  go_ret
  exact ⟨ret_int H4.out, below_alloc (Below.refl _ _) _⟩

set_option maxRecDepth 100000 in
set_option maxHeartbeats 1000000 in
theorem sAt_none (v : Value) (d : Dt) (x : Int) (w : World) (hv : DatIn w v d) (hd : DtFine d) (hk : dPlace d x = none) :
    Calls Tryz.prog 198 #[v, .int .i64 x] w fun e w' => e = .returned (.int .i64 (-1)) ∧ Below w.heap.size w w' := by
  obtain ⟨A1, k1, A2, k2, A3, k3, rfl⟩ := datIn_form hv
  have h := place_none hk
  have q0 := fine_h0 hd
  have q1 := fine_h1 hd
  clear hv hd hk
  cases t1 : inB x 4096 (4096 + 4 * d.h - 1)
  · clear h
    go_enter Tryz.func198, Tryz.ntmps198
    go_wp2_with (go_at_call 64; refine (sIn_any _ _ _ _).mono ?_; rintro e w' ⟨rfl, rfl⟩)
    go_ret
    exact ⟨rfl, below_alloc (Below.refl _ _) _⟩
  · have h1 := of_inB t1
    obtain ⟨h1, h2⟩ := h1
    have t2 : (x % 4 != 0) = true := by rw [bne_iff_ne]; omega
    clear h
    go_enter Tryz.func198, Tryz.ntmps198
    go_wp2_with (go_at_call 64; refine (sIn_any _ _ _ _).mono ?_; rintro e w' ⟨rfl, rfl⟩)
    go_ret
    exact ⟨rfl, below_alloc (Below.refl _ _) _⟩

set_option maxRecDepth 100000 in
set_option maxHeartbeats 2000000 in
theorem sStore_none (v : Value) (d : Dt) (x n : Int) (w : World) (hv : DatIn w v d) (hd : DtFine d) (hk : dPlace d x = none) :
    Calls Tryz.prog 199 #[v, .int .i64 x, .int .i64 n] w (ReadOf w d [-9]) := by
  have HD := hv
  obtain ⟨A1, k1, A2, k2, A3, k3, rfl⟩ := datIn_form hv
  clear hv
  have HK := Lib.hid hk
  clear hk
  go_enter Tryz.func199, Tryz.ntmps199
  go_wp2_with fail
  refine (sAt_none _ d x _ (datIn_below HD (below_alloc (below_alloc (Below.refl _ _) _) _)) hd HK.out).mono ?_
  rintro e w1 ⟨rfl, hb⟩
  have B1 : Below w.heap.size w w1 := below_step (below_alloc (below_alloc (Below.refl _ _) _) _) hb
  have V1 := whole_b hb (whole_alloc (whole_new w _ _) _)
  have T1 := whole_b hb (whole_new1 w _ _ _)
  clear hb
  obtain ⟨c0, c1, c2, c3, c4, c5⟩ := six_cells V1
  obtain ⟨r0, r1, r2, r3, r4, r5⟩ := six_cells T1
  have fr := whole_free T1
  go_wp2
  refine bodyPost_ret (v := .tuple #[.agg #[.slice A1 d.s.length k1, .slice A2 d.b.length k2, .slice A3 d.c.length k3, .int .i64 d.h, .int .i64 d.n, .string d.o], .int .i64 (-9)]) (by simp [results, Tryz.results199, go_sem, *]) rfl ⟨_, rfl, datIn_below HD ?_, ?_⟩
  · repeat (first | with_reducible exact B1 | with_reducible refine Below.setCell ?_ (by simp) _)
  · repeat (first | with_reducible exact B1 | with_reducible refine Below.setCell ?_ (by simp) _)

theorem datIn_third {w : World} {A1 A2 A3 : Option Addr} {k1 k2 k3 : Nat} {d : Dt} (h : DatIn w (.agg #[.slice A1 d.s.length k1, .slice A2 d.b.length k2, .slice A3 d.c.length k3, .int .i64 d.h, .int .i64 d.n, .string d.o]) d) : Ints w (.slice A3 d.c.length k3) d.c := by
  obtain ⟨x0, y0, z0, hv, h1, h2, h3, _⟩ := h
  simp only [Value.agg.injEq, Array.mk.injEq, List.cons.injEq, and_true, true_and] at hv
  obtain ⟨rfl, rfl, rfl⟩ := hv
  exact h3

theorem datIn_first {w : World} {A1 A2 A3 : Option Addr} {k1 k2 k3 : Nat} {d : Dt} (h : DatIn w (.agg #[.slice A1 d.s.length k1, .slice A2 d.b.length k2, .slice A3 d.c.length k3, .int .i64 d.h, .int .i64 d.n, .string d.o]) d) : Ints w (.slice A1 d.s.length k1) d.s := by
  obtain ⟨x0, y0, z0, hv, h1, h2, h3, _⟩ := h
  simp only [Value.agg.injEq, Array.mk.injEq, List.cons.injEq, and_true, true_and] at hv
  obtain ⟨rfl, rfl, rfl⟩ := hv
  exact h1

set_option maxRecDepth 100000 in
set_option maxHeartbeats 2000000 in
theorem sStore_some (v : Value) (d : Dt) (x n : Int) (k : Nat) (w : World) (hv : DatIn w v d) (hd : DtFine d) (hk : dPlace d x = some k) :
    Calls Tryz.prog 199 #[v, .int .i64 x, .int .i64 n] w (ReadOf w { d with c := d.c.set k n } [0]) := by
  have HD := hv
  obtain ⟨A1, k1, A2, k2, A3, k3, rfl⟩ := datIn_form hv
  clear hv
  have HK := Lib.hid hk
  obtain ⟨hk1, hk2⟩ := place_lt hk hd
  have hc32 := fine_cl hd
  have HC := Lib.hid hc32
  have hcl : d.c.length ≤ 32 := by omega
  have hcp : 32 ≤ d.c.length := by omega
  clear hk hc32
  go_enter Tryz.func199, Tryz.ntmps199
  go_wp2_with fail
  refine (sAt_some _ d x k _ (datIn_below HD (below_alloc (below_alloc (Below.refl _ _) _) _)) hd HK.out).mono ?_
  rintro e w1 ⟨rfl, hb⟩
  have B1 : Below w.heap.size w w1 := below_step (below_alloc (below_alloc (Below.refl _ _) _) _) hb
  have V1 := whole_b hb (whole_alloc (whole_new w _ _) _)
  have T1 := whole_b hb (whole_new1 w _ _ _)
  have z1 := whole_lt T1
  have z0 := whole_lt V1
  clear hb
  obtain ⟨c0, c1, c2, c3, c4, c5⟩ := six_cells V1
  go_wp2_with (first
    | (at_builtin; refine wpList_append_new rfl (.tmp 15) (.tmp 17) rfl rfl _ rfl (by simp) (.slice A3 d.c.length k3) d.c rfl (ints_below (datIn_third HD) B1) (by omega) ?_
       clear c0 c1 c2 c3 c4 c5
       intro G m2 w2 hr hb
       have B2 := below_step B1 hb
       have V2 := whole_b hb V1
       have T2 := whole_b hb T1
       obtain ⟨g, m2', hG, hg1, hg2, _⟩ := row_form hr (by omega)
       simp only [Value.slice.injEq, true_and] at hG
       obtain ⟨rfl, rfl⟩ := hG
       have ne0 : g ≠ w.heap.size := by omega
       have ne1 : g ≠ w.heap.size + 1 := by omega
       have ne2 : w.heap.size ≠ g := by omega
       have ne3 : w.heap.size + 1 ≠ g := by omega
       have ko := row_cell hr k hk2
       have kf := row_free hr k
       have SR := (row_set hr k n).1
       obtain ⟨c0, c1, c2, c3, c4, c5⟩ := six_cells V2
       obtain ⟨r0, r1, r2, r3, r4, r5⟩ := six_cells T2
       have f2 := whole_free V2 2
       have fr := whole_free T2
       clear hb))
  refine bodyPost_ret (v := .tuple #[.agg #[.slice A1 d.s.length k1, .slice A2 d.b.length k2, .slice (some ⟨g, 0, none⟩) d.c.length m2, .int .i64 d.h, .int .i64 d.n, .string d.o], .int .i64 0]) (by simp [results, Tryz.results199, go_sem, *]) rfl ⟨_, rfl, ?_, ?_⟩
  · have hlen : (d.c.set k n).length = d.c.length := List.length_set ..
    refine datIn_cells (n := 0) (k3 := k3) (A3 := A3) (datIn_below HD ?_) (row_ints (base := w.heap.size + 1 + 1) ?_)
    · repeat (first | with_reducible exact B2 | with_reducible refine Below.setCell ?_ (by simp; try omega) _)
    · have SR' := (row_set (row_store (g := w.heap.size) (i := 2) (u := .slice (some ⟨g, 0, none⟩) d.c.length m2) (row_base hr (base' := w.heap.size + 1 + 1) (by omega)) (by omega)) k n).1
      repeat (first | with_reducible exact SR' | ((with_reducible refine row_store ?_ ?hh); case hh => omega))
  · repeat (first | with_reducible exact B2 | with_reducible refine Below.setCell ?_ (by simp; try omega) _)

end Go.Proofs.YthnbaeamekolmaaGreatDoor

namespace Go.Proofs.YthnbaeamekolmaaGreatDoor
open Go.RowKit
set_option linter.unusedVariables false
set_option linter.unusedSimpArgs false

/-- The stack's slice is no longer than its capacity. -/
def CapS (v : Value) : Prop := ∃ A n k y z a b c, v = .agg #[.slice A n k, y, z, a, b, c] ∧ n ≤ k ∧ k ≤ maxLen

theorem row_cap {w : World} {base : Nat} {A : Option Addr} {n k : Nat} {zs : List Int} (h : Row w base (.slice A n k) zs) : n ≤ k ∧ k ≤ maxLen := by
  rcases h.2 with ⟨hv, _⟩ | ⟨g, cap, cur, hv, hb, hg, h1, h2, _⟩
  · simp only [Value.slice.injEq] at hv; obtain ⟨_, rfl, rfl⟩ := hv; exact ⟨Nat.le_refl _, Nat.zero_le _⟩
  · simp only [Value.slice.injEq] at hv; obtain ⟨_, rfl, rfl⟩ := hv; exact ⟨h1, h2⟩

theorem datOf_cap {w : World} {lo hi : Nat} {v : Value} {d : Dt} (h : DatOf w lo hi v d) : CapS v := by
  obtain ⟨x, y, z, rfl, h1, _⟩ := h
  obtain ⟨_, A, k, rfl, _⟩ := row_ints h1
  exact ⟨_, _, _, _, _, _, _, _, rfl, row_cap h1⟩

/-- The first numbers of a slice. -/
theorem ints_take {w : World} {A : Option Addr} {n c k : Nat} {zs : List Int} (h : Ints w (.slice A n c) zs) (hk : k ≤ zs.length) : Ints w (.slice A k c) (zs.take k) := by
  obtain ⟨h1, A', c', hv, hc⟩ := h
  simp only [Value.slice.injEq] at hv
  obtain ⟨rfl, hn, rfl⟩ := hv
  have hl : (zs.take k).length = k := by rw [List.length_take]; omega
  refine ⟨by rw [hl]; omega, A, c, by rw [hl], fun hp => ?_⟩
  rw [hl] at hp
  obtain ⟨ad, ha, hc⟩ := hc (by omega)
  refine ⟨ad, ha, fun j hj => ?_⟩
  rw [hc j (by omega)]
  simp

set_option maxRecDepth 100000 in
set_option maxHeartbeats 2000000 in
theorem sSay_full (v : Value) (d : Dt) (s : ByteArray) (w : World) (hv : DatIn w v d) (hd : SmallD d) (hs : s.size ≤ 65536) (hf : 300 < d.o.size + s.size) :
    Calls Tryz.prog 202 #[v, .string s] w (ReadOf w d [-17]) := by
  have HD := hv
  obtain ⟨A1, k1, A2, k2, A3, k3, rfl⟩ := datIn_form hv
  have hl := hd.2.2.2
  clear hv hd
  go_enter Tryz.func202, Tryz.ntmps202
  go_wp2
  refine bodyPost_ret (v := .tuple #[.agg #[.slice A1 d.s.length k1, .slice A2 d.b.length k2, .slice A3 d.c.length k3, .int .i64 d.h, .int .i64 d.n, .string d.o], .int .i64 (-17)]) (by simp [results, Tryz.results202, go_sem]) rfl ⟨_, rfl, ?_, ?_⟩
  · exact datIn_below HD (by repeat (first | with_reducible exact Below.refl _ _ | with_reducible refine below_alloc ?_ _))
  · repeat (first | with_reducible exact Below.refl _ _ | with_reducible refine below_alloc ?_ _)

set_option maxRecDepth 100000 in
set_option maxHeartbeats 2000000 in
theorem sSay_more (v : Value) (d : Dt) (s : ByteArray) (w : World) (hv : DatIn w v d) (hd : SmallD d) (hs : s.size ≤ 65536) (hf : d.o.size + s.size ≤ 300) :
    Calls Tryz.prog 202 #[v, .string s] w (ReadOf w { d with o := d.o ++ s } [0]) := by
  have HD := hv
  obtain ⟨A1, k1, A2, k2, A3, k3, rfl⟩ := datIn_form hv
  have hl := hd.2.2.2
  have SZ : Hid ((d.o ++ s).size ≤ maxLen) := Lib.hid (by rw [ByteArray.size_append]; unfold maxLen; omega)
  clear hv hd
  go_enter Tryz.func202, Tryz.ntmps202
  go_wp2
  refine bodyPost_ret (v := .tuple #[.agg #[.slice A1 d.s.length k1, .slice A2 d.b.length k2, .slice A3 d.c.length k3, .int .i64 d.h, .int .i64 d.n, .string (d.o ++ s)], .int .i64 0]) (by simp [results, Tryz.results202, go_sem]) rfl ⟨_, rfl, datIn_out (k1 := k1) (datIn_below HD ?_) SZ.out, ?_⟩
  · repeat (first | with_reducible exact Below.refl _ _ | with_reducible refine below_alloc ?_ _)
  · repeat (first | with_reducible exact Below.refl _ _ | with_reducible refine below_alloc ?_ _)

end Go.Proofs.YthnbaeamekolmaaGreatDoor

namespace Go.Proofs.YthnbaeamekolmaaGreatDoor
open Go.RowKit
set_option linter.unusedVariables false
set_option linter.unusedSimpArgs false

theorem zeroN_len {c : List Int} {a k : Nat} (h : a + k ≤ c.length) : (zeroN c a k).length = c.length := by unfold zeroN; simp; omega

theorem zeroN_none (c : List Int) (a : Nat) : zeroN c a 0 = c := by unfold zeroN; simp

theorem zeroN_next {c : List Int} {a k : Nat} (h : a + k < c.length) : (zeroN c a k).set (a + k) 0 = zeroN c a (k + 1) := by
  unfold zeroN
  rw [List.set_append_right _ _ (by simp; omega), List.length_take, Nat.min_eq_left (by omega), show a + k - a = k by omega,
    List.set_append_right _ _ (by simp), List.length_replicate, Nat.sub_self, List.drop_eq_getElem_cons h, List.set_cons_zero, show a + (k + 1) = a + k + 1 by omega,
    List.replicate_succ', List.append_assoc]
  rfl

theorem good_false {d : Dt} {n : Int} (h : ¬ goodMove d n) : n.tmod 4 ≠ 0 ∨ (n.tmod 4 = 0 ∧ inB (d.h + n.tdiv 4) 0 32 = false) := by
  by_cases h1 : n.tmod 4 = 0
  · right
    refine ⟨h1, ?_⟩
    unfold inB
    exact decide_eq_false (fun h2 => h ⟨h1, h2.1, h2.2⟩)
  · exact .inl h1

set_option maxRecDepth 100000 in
set_option maxHeartbeats 2000000 in
theorem sAllot_no (v : Value) (d : Dt) (n : Int) (w : World) (hv : DatIn w v d) (hd : DtFine d) (hn : cellB n = true) (hg : ¬ goodMove d n) :
    Calls Tryz.prog 200 #[v, .int .i64 n] w (ReadOf w d [-8]) := by
  have HD := hv
  obtain ⟨A1, k1, A2, k2, A3, k3, rfl⟩ := datIn_form hv
  have q0 := fine_h0 hd
  have q1 := fine_h1 hd
  obtain ⟨n0, n1⟩ := cellB_true.1 hn
  have e : w.heap.size ≤ w.heap.size := Nat.le_refl _
  rcases good_false hg with h | ⟨h, h'⟩
  · have t1 : (n.tmod 4 != 0) = true := by rw [bne_iff_ne]; exact h
    clear hv hn hg hd h
    go_enter Tryz.func200, Tryz.ntmps200
    go_wp2_with (go_at_call 64; refine (sIn_any _ _ _ _).mono ?_; rintro e w' ⟨rfl, rfl⟩)
    refine bodyPost_ret (v := .tuple #[.agg #[.slice A1 d.s.length k1, .slice A2 d.b.length k2, .slice A3 d.c.length k3, .int .i64 d.h, .int .i64 d.n, .string d.o], .int .i64 (-8)]) (by simp [results, Tryz.results200, go_sem]) rfl ⟨_, rfl, ?_, ?_⟩
    · exact datIn_below HD (by repeat (first | with_reducible exact Below.refl _ _ | with_reducible refine below_alloc ?_ _))
    · repeat (first | with_reducible exact Below.refl _ _ | with_reducible refine below_alloc ?_ _)
  · have t1 : (n.tmod 4 != 0) = false := by rw [h]; rfl
    have b0 : -536870912 ≤ n.tdiv 4 ∧ n.tdiv 4 ≤ 536870912 := by
      have h2 := tdm n 4
      omega
    obtain ⟨b0, b1⟩ := b0
    clear hv hn hg hd h
    go_enter Tryz.func200, Tryz.ntmps200
    go_wp2_with (go_at_call 64; refine (sIn_any _ _ _ _).mono ?_; rintro e w' ⟨rfl, rfl⟩)
    refine bodyPost_ret (v := .tuple #[.agg #[.slice A1 d.s.length k1, .slice A2 d.b.length k2, .slice A3 d.c.length k3, .int .i64 d.h, .int .i64 d.n, .string d.o], .int .i64 (-8)]) (by simp [results, Tryz.results200, go_sem]) rfl ⟨_, rfl, ?_, ?_⟩
    · exact datIn_below HD (by repeat (first | with_reducible exact Below.refl _ _ | with_reducible refine below_alloc ?_ _))
    · repeat (first | with_reducible exact Below.refl _ _ | with_reducible refine below_alloc ?_ _)

/-- A row stays when a cell of another block is written. -/
theorem row_apart {w : World} {base g i : Nat} {v u : Value} {zs : List Int} (h : Row w base v zs) (hg : v.ownBlock ≠ some g) : Row (w.setCell ⟨g, i, none⟩ u) base v zs :=
  row_keep h fun k hk => Below.heap_setCell w _ u k (by show k ≠ g; rintro rfl; exact hg hk)

set_option maxRecDepth 100000 in
set_option maxHeartbeats 4000000 in
theorem sAllot_yes (v : Value) (d : Dt) (n : Int) (w : World) (hv : DatIn w v d) (hd : DtFine d) (hn : cellB n = true) (hg : goodMove d n) :
    Calls Tryz.prog 200 #[v, .int .i64 n] w (ReadOf w { d with c := zeroN d.c d.h.toNat (n.tdiv 4).toNat, h := d.h + n.tdiv 4 } [0]) := by
  have q0 := fine_h0 hd
  have q1 := fine_h1 hd
  have hc32 := fine_cl hd
  obtain ⟨n0, n1⟩ := cellB_true.1 hn
  obtain ⟨h1, h2, h3⟩ := hg
  obtain ⟨s, b, c, h, bn, o⟩ := d
  simp only at *
  obtain ⟨a, rfl⟩ : ∃ a : Nat, h = a := ⟨h.toNat, by omega⟩
  have HD := hv
  obtain ⟨A1, k1, A2, k2, A3, k3, rfl⟩ := datIn_form hv
  have t1 : (n.tmod 4 != 0) = false := by rw [h1]; rfl
  have t2 : inB ((a : Int) + n.tdiv 4) 0 32 = true := inB_of h2 h3
  have hcl : c.length ≤ 32 := by omega
  have hcp : 32 ≤ c.length := by omega
  have HC := Lib.hid hc32
  have b0 : -32 ≤ n.tdiv 4 := by omega
  have b1 : n.tdiv 4 ≤ 32 := by omega
  have TA : Hid ((a : Int).toNat = a) := Lib.hid (by omega)
  obtain ⟨j1, hj1⟩ : ∃ j1 : Nat, j1 = (n.tdiv 4).toNat := ⟨_, rfl⟩
  have J1 := Lib.hid hj1
  have J2 : a + j1 ≤ 32 := by omega
  have JJ : Hid (∀ j : Nat, j ≤ j1 → (((a : Int) + j) < a + n.tdiv 4 ↔ j < j1)) := Lib.hid fun j hj => by omega
  clear hv hn h1 hc32 hd hj1
  have I3 : Ints w (.slice A3 c.length k3) c := by have h := datIn_third HD; exact h
  go_enter Tryz.func200, Tryz.ntmps200
  go_wp2_with (first
    | (go_at_call 64; refine (sIn_any _ _ _ _).mono ?_; rintro e w' ⟨rfl, rfl⟩)
    | (at_builtin; refine wpList_append_new rfl (.tmp 20) (.tmp 22) rfl rfl _ rfl (by simp) (.slice A3 c.length k3) c rfl (ints_below I3 (below_alloc (below_alloc (Below.refl _ _) _) _)) (by omega) ?_
       intro G m2 w2 hr hb
       have B2 : Below w.heap.size w w2 := below_step (below_alloc (below_alloc (Below.refl _ _) _) _) hb
       have V2 := whole_b hb (whole_alloc (whole_new w _ _) _)
       have T2 := whole_b hb (whole_new1 w _ _ _)
       have R2 : Row w2 (w.heap.size + 1 + 1) (.slice G c.length m2) c := by simpa using hr
       obtain ⟨g, m2', hG, hg1, hg2, _⟩ := row_form R2 (by omega)
       simp only [Value.slice.injEq, true_and] at hG
       obtain ⟨rfl, rfl⟩ := hG
       obtain ⟨c0, c1, c2, c3, c4, c5⟩ := six_cells V2
       have f2 := whole_free V2 2
       clear hb hr))
  clear c0 c1 c2 c4 c5
  have V3 := whole_set V2 2 (.slice (some ⟨g, 0, none⟩) c.length m2)
  have T3 := whole_far T2 (p := ⟨w.heap.size, 2, none⟩) (by simp) (.slice (some ⟨g, 0, none⟩) c.length m2)
  have R3 := row_store (g := w.heap.size) (i := 2) (u := .slice (some ⟨g, 0, none⟩) c.length m2) R2 (by omega)
  have B3 := B2.setCell (p := ⟨w.heap.size, 2, none⟩) (Nat.le_refl _) (.slice (some ⟨g, 0, none⟩) c.length m2)
  have ne0 : g ≠ w.heap.size := by omega
  have ne1 : g ≠ w.heap.size + 1 := by omega
  have ne2 : w.heap.size ≠ g := by omega
  have ne3 : w.heap.size + 1 ≠ g := by omega
  have V3' : Whole (w2.setCell ⟨w.heap.size, 2, none⟩ (.slice (some ⟨g, 0, none⟩) c.length m2)) w.heap.size 40 #[.slice A1 s.length k1, .slice A2 b.length k2, .slice (some ⟨g, 0, none⟩) c.length m2, .int .i64 a, .int .i64 bn, .string o] := V3
  clear V2 T2 R2 B2 V3 hg2 c3 f2 t1 t2
  generalize w2.setCell ⟨w.heap.size, 2, none⟩ (.slice (some ⟨g, 0, none⟩) c.length m2) = w3 at *
  go_loopw [6] (fun i wr => ∃ j : Nat, j ≤ j1 ∧ i = .int .i64 ((a : Int) + j) ∧ Whole wr w.heap.size 40 #[.slice A1 s.length k1, .slice A2 b.length k2, .slice (some ⟨g, 0, none⟩) c.length m2, .int .i64 a, .int .i64 bn, .string o] ∧
      Whole wr (w.heap.size + 1) 40 #[.slice none 0 0, .slice none 0 0, .slice none 0 0, .int .i64 0, .int .i64 0, .string ByteArray.empty] ∧ Row wr (w.heap.size + 1 + 1) (.slice (some ⟨g, 0, none⟩) c.length m2) (zeroN c a j) ∧ Below w.heap.size w wr)
    (fun i _ => 64 - (intOf i).toNat)
  case atStart => exact ⟨0, Nat.zero_le _, by simp, V3', T3, by rw [zeroN_none]; exact R3, B3⟩
  case round =>
    obtain ⟨j, hj, rfl, V4, T4, R4, B4⟩ := hrel
    clear V3' T3 R3 B3
    by_cases hlt : j < j1
    · have lt : (a : Int) + j < a + n.tdiv 4 := (JJ.out j hj).2 hlt
      have hidx : a + j < c.length := by omega
      have zl := zeroN_len (c := c) (a := a) (k := j) (by omega)
      have R4' := R4
      rw [← zl] at R4'
      have ko := row_cell R4' (a + j) (by omega)
      have kf := row_free R4' (a + j)
      have ST := (row_set R4' (a + j) 0).1
      rw [zeroN_next hidx, zl] at ST
      have V5 := whole_far V4 (p := ⟨g, a + j, none⟩) (by exact ne2) (.int .i64 0)
      have T5 := whole_far T4 (p := ⟨g, a + j, none⟩) (by exact ne3) (.int .i64 0)
      have B5 := B4.setCell (p := ⟨g, a + j, none⟩) (show w.heap.size ≤ g by omega) (.int .i64 0)
      obtain ⟨c0, c1, c2, c3, c4, c5⟩ := six_cells V4
      clear c0 c1 c4 c5 R4'
      generalize (zeroN c a j)[a + j]'_ = old at *
      clear zl
      go_wp2
      go_roundw
      case rel => exact ⟨j + 1, by omega, by go_num, V5, T5, ST, B5⟩
      case measure => simp [intOf]; omega
    · have ej : j = j1 := by omega
      have nlt : ¬ ((a : Int) + j < a + n.tdiv 4) := fun h => hlt ((JJ.out j hj).1 h)
      obtain ⟨c0, c1, c2, c3, c4, c5⟩ := six_cells V4
      obtain ⟨r0, r1, r2, r3, r4, r5⟩ := six_cells T4
      have fv := whole_free V4 3
      have fr := whole_free T4
      have ZL := Lib.hid (zeroN_len (c := c) (a := a) (k := j1) (by omega))
      have JE := Lib.hid ej
      clear ej hj hlt
      go_wp2
      refine bodyPost_ret (v := .tuple #[.agg #[.slice A1 s.length k1, .slice A2 b.length k2, .slice (some ⟨g, 0, none⟩) c.length m2, .int .i64 ((a : Int) + n.tdiv 4), .int .i64 bn, .string o], .int .i64 0]) (by simp [results, Tryz.results200, go_sem, *]) rfl ⟨_, rfl, ?_, ?_⟩
      · rw [← J1.out]
        refine datIn_cells (d := ⟨s, b, c, a, bn, o⟩) (n := 0) (k3 := k3) (A3 := A3) (datIn_below HD ?_) (row_ints (base := w.heap.size + 1 + 1) ?_)
        · repeat (first | with_reducible exact B4 | with_reducible refine Below.setCell ?_ (by simp) _)
        · have R5 : Row wr (w.heap.size + 1 + 1) (.slice (some ⟨g, 0, none⟩) c.length m2) (zeroN c a j1) := by rw [← JE.out]; exact R4
          repeat (first | with_reducible exact R5 | ((with_reducible refine row_store ?_ ?hh); case hh => omega))
      · repeat (first | with_reducible exact B4 | with_reducible refine Below.setCell ?_ (by simp) _)

end Go.Proofs.YthnbaeamekolmaaGreatDoor

namespace Go.Proofs.YthnbaeamekolmaaGreatDoor
open Go.RowKit
set_option linter.unusedVariables false
set_option linter.unusedSimpArgs false

theorem small_noDt : SmallD noDt := by unfold noDt SmallD; decide

theorem small_push {d : Dt} (h : DtFine d) (n : Int) : SmallD { d with s := d.s ++ [n] } := by
  have h1 := fine_small h; have h2 := fine_sl h
  exact ⟨by simp; omega, h1.2.1, h1.2.2.1, h1.2.2.2⟩

theorem small_store {d : Dt} (h : SmallD d) (k : Nat) (n : Int) : SmallD { d with c := d.c.set k n } := ⟨h.1, h.2.1, by simp; exact h.2.2.1, h.2.2.2⟩

theorem small_allot {d : Dt} (h : SmallD d) (hd : DtFine d) (n : Int) (hg : goodMove d n) : SmallD { d with c := zeroN d.c d.h.toNat (n.tdiv 4).toNat, h := d.h + n.tdiv 4 } := by
  obtain ⟨h1, h2, h3⟩ := hg
  have q0 := fine_h0 hd
  have q1 := fine_h1 hd
  have q2 := fine_cl hd
  refine ⟨h.1, h.2.1, ?_, h.2.2.2⟩
  show (zeroN d.c d.h.toNat (n.tdiv 4).toNat).length ≤ 1048576
  rw [zeroN_len (by omega)]; exact h.2.2.1

theorem small_pop {d : Dt} (h : SmallD d) : SmallD { d with s := d.s.dropLast } := ⟨by have := h.1; simp; omega, h.2.1, h.2.2.1, h.2.2.2⟩

theorem small_say {d : Dt} (h : SmallD d) {s : ByteArray} (hs : d.o.size + s.size ≤ 300) : SmallD { d with o := d.o ++ s } := ⟨h.1, h.2.1, h.2.2.1, by simp [ByteArray.size_append]; omega⟩

/-- Three numbers. -/
def NumsOf (w : World) (ns : List Int) (e : Ending) (w' : World) : Prop := e = .returned (.tuple (ns.map (Value.int .i64)).toArray) ∧ Below w.heap.size w w'

end Go.Proofs.YthnbaeamekolmaaGreatDoor
