/- spec's inner operations on data: the place of an address, store, pop, say. -/
import Derived.Test.YthnbaeamekolmaaGreatDoorDatQ
namespace Go.Proofs.YthnbaeamekolmaaGreatDoor
open Go.RowKit
set_option linter.unusedVariables false
set_option linter.unusedSimpArgs false

theorem place_some {d : Dt} {x : Int} {k : Nat} (h : dPlace d x = some k) : 4096 ≤ x ∧ x < 4096 + 4 * d.h ∧ x % 4 = 0 ∧ (x - 4096) / 4 = k := by
  unfold dPlace at h
  split at h
  · rename_i hc; simp only [Option.some.injEq] at h; refine ⟨hc.1, hc.2.1, hc.2.2, ?_⟩; omega
  · cases h

theorem place_none {d : Dt} {x : Int} (h : dPlace d x = none) : ¬ (4096 ≤ x ∧ x < 4096 + 4 * d.h ∧ x % 4 = 0) := by
  unfold dPlace at h
  split at h
  · cases h
  · assumption

theorem place_lt {d : Dt} {x : Int} {k : Nat} (h : dPlace d x = some k) (hd : DtFine d) : k < 32 ∧ k < d.c.length := by
  have := place_some h
  have h1 := fine_h1 hd
  have h2 := fine_cl hd
  omega

set_option maxRecDepth 100000 in
set_option maxHeartbeats 1000000 in
theorem sAt_some (v : Value) (d : Dt) (x : Int) (k : Nat) (w : World) (hv : DatIn w v d) (hd : DtFine d) (hk : dPlace d x = some k) :
    Calls Tryz.prog 198 #[v, .int .i64 x] w fun e w' => e = .returned (.int .i64 k) ∧ Below w.heap.size w w' := by
  obtain ⟨A1, k1, A2, k2, A3, k3, rfl⟩ := datIn_form hv
  obtain ⟨h1, h2, h3, h4⟩ := place_some hk
  have q0 := fine_h0 hd
  have q1 := fine_h1 hd
  have t1 : inB x 4096 (4096 + 4 * d.h - 1) = true := inB_of h1 (by omega)
  have t2 : (x % 4 != 0) = false := by rw [h3]; rfl
  have H4 := Lib.hid h4
  clear hv hd hk h3 h4
  go_enter Tryz.func198, Tryz.ntmps198
  go_wp2_with (go_at_call 64; refine (sIn_any _ _ _ _).mono ?_; rintro e w' ⟨rfl, rfl⟩)
  go_ret
  exact ⟨ret_int H4.out, below_alloc (Below.refl _ _) _⟩

set_option maxRecDepth 100000 in
set_option maxHeartbeats 1000000 in
theorem sAt_none (v : Value) (d : Dt) (x : Int) (w : World) (hv : DatIn w v d) (hd : DtFine d) (hk : dPlace d x = none) :
    Calls Tryz.prog 198 #[v, .int .i64 x] w fun e w' => e = .returned (.int .i64 (-1)) ∧ Below w.heap.size w w' := by
  obtain ⟨A1, k1, A2, k2, A3, k3, rfl⟩ := datIn_form hv
  have h := place_none hk
  have q0 := fine_h0 hd
  have q1 := fine_h1 hd
  clear hv hd hk
  cases t1 : inB x 4096 (4096 + 4 * d.h - 1)
  · clear h
    go_enter Tryz.func198, Tryz.ntmps198
    go_wp2_with (go_at_call 64; refine (sIn_any _ _ _ _).mono ?_; rintro e w' ⟨rfl, rfl⟩)
    go_ret
    exact ⟨rfl, below_alloc (Below.refl _ _) _⟩
  · have h1 := of_inB t1
    obtain ⟨h1, h2⟩ := h1
    have t2 : (x % 4 != 0) = true := by rw [bne_iff_ne]; omega
    clear h
    go_enter Tryz.func198, Tryz.ntmps198
    go_wp2_with (go_at_call 64; refine (sIn_any _ _ _ _).mono ?_; rintro e w' ⟨rfl, rfl⟩)
    go_ret
    exact ⟨rfl, below_alloc (Below.refl _ _) _⟩

set_option maxRecDepth 100000 in
set_option maxHeartbeats 2000000 in
theorem sStore_none (v : Value) (d : Dt) (x n : Int) (w : World) (hv : DatIn w v d) (hd : DtFine d) (hk : dPlace d x = none) :
    Calls Tryz.prog 199 #[v, .int .i64 x, .int .i64 n] w (ReadOf w d [-9]) := by
  have HD := hv
  obtain ⟨A1, k1, A2, k2, A3, k3, rfl⟩ := datIn_form hv
  clear hv
  have HK := Lib.hid hk
  clear hk
  go_enter Tryz.func199, Tryz.ntmps199
  go_wp2_with fail
  refine (sAt_none _ d x _ (datIn_below HD (below_alloc (below_alloc (Below.refl _ _) _) _)) hd HK.out).mono ?_
  rintro e w1 ⟨rfl, hb⟩
  have B1 : Below w.heap.size w w1 := below_step (below_alloc (below_alloc (Below.refl _ _) _) _) hb
  have V1 := whole_b hb (whole_alloc (whole_new w _ _) _)
  have T1 := whole_b hb (whole_new1 w _ _ _)
  clear hb
  obtain ⟨c0, c1, c2, c3, c4, c5⟩ := six_cells V1
  obtain ⟨r0, r1, r2, r3, r4, r5⟩ := six_cells T1
  have fr := whole_free T1
  go_wp2
  refine bodyPost_ret (v := .tuple #[.agg #[.slice A1 d.s.length k1, .slice A2 d.b.length k2, .slice A3 d.c.length k3, .int .i64 d.h, .int .i64 d.n, .string d.o], .int .i64 (-9)]) (by simp [results, Tryz.results199, go_sem, *]) rfl ⟨_, rfl, datIn_below HD ?_, ?_⟩
  · repeat (first | with_reducible exact B1 | with_reducible refine Below.setCell ?_ (by simp) _)
  · repeat (first | with_reducible exact B1 | with_reducible refine Below.setCell ?_ (by simp) _)

theorem datIn_third {w : World} {A1 A2 A3 : Option Addr} {k1 k2 k3 : Nat} {d : Dt} (h : DatIn w (.agg #[.slice A1 d.s.length k1, .slice A2 d.b.length k2, .slice A3 d.c.length k3, .int .i64 d.h, .int .i64 d.n, .string d.o]) d) : Ints w (.slice A3 d.c.length k3) d.c := by
  obtain ⟨x0, y0, z0, hv, h1, h2, h3, _⟩ := h
  simp only [Value.agg.injEq, Array.mk.injEq, List.cons.injEq, and_true, true_and] at hv
  obtain ⟨rfl, rfl, rfl⟩ := hv
  exact h3

theorem datIn_first {w : World} {A1 A2 A3 : Option Addr} {k1 k2 k3 : Nat} {d : Dt} (h : DatIn w (.agg #[.slice A1 d.s.length k1, .slice A2 d.b.length k2, .slice A3 d.c.length k3, .int .i64 d.h, .int .i64 d.n, .string d.o]) d) : Ints w (.slice A1 d.s.length k1) d.s := by
  obtain ⟨x0, y0, z0, hv, h1, h2, h3, _⟩ := h
  simp only [Value.agg.injEq, Array.mk.injEq, List.cons.injEq, and_true, true_and] at hv
  obtain ⟨rfl, rfl, rfl⟩ := hv
  exact h1

set_option maxRecDepth 100000 in
set_option maxHeartbeats 2000000 in
theorem sStore_some (v : Value) (d : Dt) (x n : Int) (k : Nat) (w : World) (hv : DatIn w v d) (hd : DtFine d) (hk : dPlace d x = some k) :
    Calls Tryz.prog 199 #[v, .int .i64 x, .int .i64 n] w (ReadOf w { d with c := d.c.set k n } [0]) := by
  have HD := hv
  obtain ⟨A1, k1, A2, k2, A3, k3, rfl⟩ := datIn_form hv
  clear hv
  have HK := Lib.hid hk
  obtain ⟨hk1, hk2⟩ := place_lt hk hd
  have hc32 := fine_cl hd
  have HC := Lib.hid hc32
  have hcl : d.c.length ≤ 32 := by omega
  have hcp : 32 ≤ d.c.length := by omega
  clear hk hc32
  go_enter Tryz.func199, Tryz.ntmps199
  go_wp2_with fail
  refine (sAt_some _ d x k _ (datIn_below HD (below_alloc (below_alloc (Below.refl _ _) _) _)) hd HK.out).mono ?_
  rintro e w1 ⟨rfl, hb⟩
  have B1 : Below w.heap.size w w1 := below_step (below_alloc (below_alloc (Below.refl _ _) _) _) hb
  have V1 := whole_b hb (whole_alloc (whole_new w _ _) _)
  have T1 := whole_b hb (whole_new1 w _ _ _)
  have z1 := whole_lt T1
  have z0 := whole_lt V1
  clear hb
  obtain ⟨c0, c1, c2, c3, c4, c5⟩ := six_cells V1
  go_wp2_with (first
    | (at_builtin; refine wpList_append_new rfl (.tmp 15) (.tmp 17) rfl rfl _ rfl (by simp) (.slice A3 d.c.length k3) d.c rfl (ints_below (datIn_third HD) B1) (by omega) ?_
       clear c0 c1 c2 c3 c4 c5
       intro G m2 w2 hr hb
       have B2 := below_step B1 hb
       have V2 := whole_b hb V1
       have T2 := whole_b hb T1
       obtain ⟨g, m2', hG, hg1, hg2, _⟩ := row_form hr (by omega)
       simp only [Value.slice.injEq, true_and] at hG
       obtain ⟨rfl, rfl⟩ := hG
       have ne0 : g ≠ w.heap.size := by omega
       have ne1 : g ≠ w.heap.size + 1 := by omega
       have ne2 : w.heap.size ≠ g := by omega
       have ne3 : w.heap.size + 1 ≠ g := by omega
       have ko := row_cell hr k hk2
       have kf := row_free hr k
       have SR := (row_set hr k n).1
       obtain ⟨c0, c1, c2, c3, c4, c5⟩ := six_cells V2
       obtain ⟨r0, r1, r2, r3, r4, r5⟩ := six_cells T2
       have f2 := whole_free V2 2
       have fr := whole_free T2
       clear hb))
  refine bodyPost_ret (v := .tuple #[.agg #[.slice A1 d.s.length k1, .slice A2 d.b.length k2, .slice (some ⟨g, 0, none⟩) d.c.length m2, .int .i64 d.h, .int .i64 d.n, .string d.o], .int .i64 0]) (by simp [results, Tryz.results199, go_sem, *]) rfl ⟨_, rfl, ?_, ?_⟩
  · have hlen : (d.c.set k n).length = d.c.length := List.length_set ..
    refine datIn_cells (n := 0) (k3 := k3) (A3 := A3) (datIn_below HD ?_) (row_ints (base := w.heap.size + 1 + 1) ?_)
    · repeat (first | with_reducible exact B2 | with_reducible refine Below.setCell ?_ (by simp; try omega) _)
    · have SR' := (row_set (row_store (g := w.heap.size) (i := 2) (u := .slice (some ⟨g, 0, none⟩) d.c.length m2) (row_base hr (base' := w.heap.size + 1 + 1) (by omega)) (by omega)) k n).1
      repeat (first | with_reducible exact SR' | ((with_reducible refine row_store ?_ ?hh); case hh => omega))
  · repeat (first | with_reducible exact B2 | with_reducible refine Below.setCell ?_ (by simp; try omega) _)

end Go.Proofs.YthnbaeamekolmaaGreatDoor
