/- PkP: several of my texts, laid together: SpcJ. -/
import Derived.Test.YthnbaeamekolmaaGreatDoorPkM
import Derived.Test.YthnbaeamekolmaaGreatDoorPkJ
import Derived.Deep.RegionHeld3
import Derived.Deep.DeepCutAuto
namespace Go.Proofs.YthnbaeamekolmaaGreatDoor
open Go.RowKit
set_option linter.unusedVariables false
set_option linter.unusedSimpArgs false

/-- Another row for the other stack. -/
theorem datC_back {w : World} {base : Nat} {A1 A2 A3 C : Option Addr} {k1 k2 k3 j m : Nat} {d : Dt} {q : List Int} (h : DatC w (.agg #[.slice A1 d.s.length k1, .slice A2 d.b.length k2, .slice A3 d.c.length k3, .int .i64 d.h, .int .i64 d.n, .string d.o]) d)
    (hr : Row w base (.slice C m j) q) (hm : m = q.length) : DatC w (.agg #[.slice A1 d.s.length k1, .slice C m j, .slice A3 d.c.length k3, .int .i64 d.h, .int .i64 d.n, .string d.o]) { d with b := q } := by
  subst hm
  obtain ⟨h1, h2⟩ := h
  refine ⟨?_, ?_⟩
  · obtain ⟨x0, y0, z0, hv, a1, a2, a3, a4⟩ := h1
    simp only [Value.agg.injEq, Array.mk.injEq, List.cons.injEq, and_true, true_and] at hv
    obtain ⟨rfl, rfl, rfl⟩ := hv
    exact ⟨_, _, _, rfl, a1, row_ints hr, a3, a4⟩
  · obtain ⟨A, n', k', B, m', l', z1, a1, b1, c1, he, q1, q2, q3, q4⟩ := h2
    simp only [Value.agg.injEq, Array.mk.injEq, List.cons.injEq, Value.slice.injEq, and_true, true_and] at he
    obtain ⟨⟨rfl, rfl, rfl⟩, ⟨rfl, rfl, rfl⟩, rfl, rfl, rfl, rfl⟩ := he
    exact ⟨_, _, _, _, _, _, _, _, _, _, rfl, q1, q2, (row_cap hr).1, (row_cap hr).2⟩

theorem datC_second {w : World} {A1 A2 A3 : Option Addr} {k1 k2 k3 : Nat} {d : Dt} (h : DatC w (.agg #[.slice A1 d.s.length k1, .slice A2 d.b.length k2, .slice A3 d.c.length k3, .int .i64 d.h, .int .i64 d.n, .string d.o]) d) : Ints w (.slice A2 d.b.length k2) d.b := by
  obtain ⟨⟨x0, y0, z0, hv, h1, h2, h3, _⟩, _⟩ := h
  simp only [Value.agg.injEq, Array.mk.injEq, List.cons.injEq, and_true, true_and] at hv
  obtain ⟨rfl, rfl, rfl⟩ := hv
  exact h2

set_option maxRecDepth 100000 in
set_option maxHeartbeats 2000000 in
theorem sBack_12a (v : Value) (d : Dt) (f c : Int) (w : World) (hv : DatC w v d) (hf : d.b.length = 32) :
    Calls Tryz.prog 136 #[v, .int .i64 12, .int .i64 f, .int .i64 c] w (ReadC w v d (d, -5)) := by
  have HD := hv
  obtain ⟨A1, k1, A2, k2, A3, k3, rfl, _⟩ := datC_form hv
  clear hv
  have t1 : ((d.b.length : Int) == 32) = true := by rw [hf]; rfl
  clear hf
  go_enter Tryz.func136, Tryz.ntmps136
  go_wp2
  refine bodyPost_ret (v := .tuple #[.agg #[.slice A1 d.s.length k1, .slice A2 d.b.length k2, .slice A3 d.c.length k3, .int .i64 d.h, .int .i64 d.n, .string d.o], .int .i64 (-5)]) (by simp [results, Tryz.results136, go_sem]) rfl ⟨_, rfl, ?_, built_self _ _ _ _⟩
  repeat (first | with_reducible exact Below.refl _ _ | with_reducible refine below_alloc ?_ _)

set_option maxRecDepth 100000 in
set_option maxHeartbeats 4000000 in
theorem sBack_12b (v : Value) (d : Dt) (f c : Int) (w : World) (hv : DatC w v d) (hd : DtFine d) (hf : d.b.length < 32) (hk : 1 ≤ d.s.length) :
    Calls Tryz.prog 136 #[v, .int .i64 12, .int .i64 f, .int .i64 c] w (ReadC w v d (dPut { d with b := d.b ++ [c] } 1 [])) := by
  have HD := hv
  obtain ⟨A1, k1, A2, k2, A3, k3, rfl, _⟩ := datC_form hv
  have hs := fine_sl hd
  have HX : Hid (Ints w (.slice A2 d.b.length k2) d.b) := Lib.hid (datC_second hv)
  have t1 : ((d.b.length : Int) == 32) = false := by rw [beq_eq_false_iff_ne]; omega
  have HF := Lib.hid hf
  have HK := Lib.hid (And.intro hk hs)
  clear hv hf hk hs
  go_enter Tryz.func136, Tryz.ntmps136
  go_wp2_with (first
    | (at_builtin; refine wpList_append_new rfl (.tmp 22) (.tmp 24) rfl rfl _ rfl (by simp) (.slice A2 d.b.length k2) d.b rfl (ints_below HX.out (below_alloc (below_alloc (Below.refl _ _) _) _)) (by have := HF.out; omega) ?_
       intro B1 m1 w1 hr hb
       have B1' : Below w.heap.size w w1 := below_step (below_alloc (below_alloc (Below.refl _ _) _) _) hb
       have V1 := whole_b hb (whole_alloc (whole_new w _ _) _)
       have T1 := whole_b hb (whole_new1 w _ _ _)
       have R1 : Row w1 (w.heap.size + 1 + 1) (.slice B1 d.b.length m1) d.b := by simpa using hr
       clear hr hb)
    | (at_builtin; refine wpList_append_ints rfl (.tmp 25) (.tmp 27) rfl rfl (w.heap.size + 1 + 1) (.slice B1 d.b.length m1) d.b (row_alloc R1 _) _ [c] (ints_one _ _) rfl rfl (by have := HF.out; simp; omega) (by have := whole_lt T1; simp; omega) ?_
       intro v2 w2 hr hg hat
       have hbk : Below (w.heap.size + 1 + 1) w1 w2 := ((Below.refl _ _).alloc (by have := whole_lt T1; omega) _).grown hg (by have := whole_lt T1; simp; omega) (fun k hk => (row_lt R1 k hk).1)
       have B2' : Below w.heap.size w w2 := B1'.trans (hbk.mono (by omega))
       have V2 := whole_keep V1 (hbk.block _ (by omega))
       have T2 := whole_keep T1 (hbk.block _ (by omega))
       obtain ⟨_, C1, j1, rfl, _⟩ := row_ints hr
       rw [show (d.b ++ [c]).length = d.b.length + 1 by simp] at hr
       rw [show (d.b ++ [c]).length = d.b.length + 1 by simp]
       obtain ⟨c0, c1, c2, c3, c4, c5⟩ := six_cells V2
       have f1 := whole_free V2 1
       clear hg hat)
    | (go_at_call 194; fail))
  clear c0 c1 c2 c3 c4 c5 f1
  have B3 := B2'.setCell (p := ⟨w.heap.size, 1, none⟩) (Nat.le_refl _) (.slice C1 (d.b.length + 1) j1)
  have T3 := whole_far T2 (p := ⟨w.heap.size, 1, none⟩) (by simp) (.slice C1 (d.b.length + 1) j1)
  have R3 := row_store (g := w.heap.size) (i := 1) (u := .slice C1 (d.b.length + 1) j1) hr (by omega)
  have zt3 := whole_lt T3
  clear B2' V2 T2 hr B1' V1 T1 R1
  generalize w2.setCell ⟨w.heap.size, 1, none⟩ (.slice C1 (d.b.length + 1) j1) = w3 at *
  have hd3 := datC_back (datC_below HD B3) R3 (by simp)
  refine (sPut_any _ { d with b := d.b ++ [c] } 1 _ [] _ hd3 (ints_nil _) (by exact HK.out.1) (by exact HK.out.2) (by simp)).mono ?_
  rintro e w4 ⟨u, rfl, hb, hB⟩
  have B4 : Below w.heap.size w w4 := below_step B3 hb
  have T4 := whole_b hb T3
  have R4 := row_below R3 hb
  have hu := built_now hB (datC_back (datC_below HD B4) R4 (by simp))
  have zn : w3.heap.size ≤ w4.heap.size := hb.size
  clear hb
  generalize dPut { d with b := d.b ++ [c] } 1 [] = r at *
  obtain ⟨r, t⟩ := r
  simp only at hB hu
  obtain ⟨E1, i1, E2, i2, E3, i3, rfl, _⟩ := datC_form hu
  have zt := whole_lt T4
  obtain ⟨r0, r1, r2, r3, r4, r5⟩ := six_cells T4
  have fr := whole_free T4
  go_wp2
  refine bodyPost_ret (v := .tuple #[.agg #[.slice E1 r.s.length i1, .slice E2 r.b.length i2, .slice E3 r.c.length i3, .int .i64 r.h, .int .i64 r.n, .string r.o], .int .i64 t]) (by simp [results, Tryz.results136, go_sem, *]) rfl ⟨_, rfl, ?_, ?_⟩
  · repeat (first | with_reducible exact B4 | with_reducible refine Below.setCell ?_ (by simp) _)
  · have hA := agree_six (n := w.heap.size + 1 + 1) T4 (u0 := .slice E1 r.s.length i1) (u1 := .slice E2 r.b.length i2) (u2 := .slice E3 r.c.length i3) (u3 := .int .i64 r.h) (u4 := .int .i64 r.n) (u5 := .string r.o)
    intro W' hW hag
    exact hB W' (datC_back hW (row_agree (row_agree R4 (Nat.le_refl _) hA) (Nat.le_refl _) (agree_mono hag (by omega))) (by simp)) (agree_mono (agree_trans (agree_mono hA (by omega)) (agree_mono hag (by omega))) (Nat.le_refl _))

set_option maxRecDepth 100000 in
set_option maxHeartbeats 2000000 in
theorem sBack_u (v : Value) (d : Dt) (p f c : Int) (w : World) (hv : DatC w v d) (hp : p = 13 ∨ p = 14 ∨ p = 51) (hd : DtFine d) (f0 : 0 ≤ f) (f1 : f ≤ d.b.length) (hf : (d.b.length : Int) - f < 1) :
    Calls Tryz.prog 136 #[v, .int .i64 p, .int .i64 f, .int .i64 c] w (ReadC w v d (d, -6)) := by
  have HD := hv
  obtain ⟨A1, k1, A2, k2, A3, k3, rfl, _⟩ := datC_form hv
  have hbl := fine_bl hd
  have s1 : IntKind.i64.wrap ((d.b.length : Int) - f) = (d.b.length : Int) - f := IntWalk.i64_in _ (by omega)
  clear hv hd hbl
  rcases hp with rfl | rfl | rfl
  all_goals
    go_enter Tryz.func136, Tryz.ntmps136
    go_wp2
    refine bodyPost_ret (v := .tuple #[.agg #[.slice A1 d.s.length k1, .slice A2 d.b.length k2, .slice A3 d.c.length k3, .int .i64 d.h, .int .i64 d.n, .string d.o], .int .i64 (-6)]) (by simp [results, Tryz.results136, go_sem]) rfl ⟨_, rfl, ?_, built_self _ _ _ _⟩
    repeat (first | with_reducible exact Below.refl _ _ | with_reducible refine below_alloc ?_ _)

set_option maxRecDepth 100000 in
set_option maxHeartbeats 2000000 in
theorem sBack_52u (v : Value) (d : Dt) (f c : Int) (w : World) (hv : DatC w v d) (hd : DtFine d) (f0 : 0 ≤ f) (f1 : f ≤ d.b.length) (hf : (d.b.length : Int) - f < 2) :
    Calls Tryz.prog 136 #[v, .int .i64 52, .int .i64 f, .int .i64 c] w (ReadC w v d (d, -6)) := by
  have HD := hv
  obtain ⟨A1, k1, A2, k2, A3, k3, rfl, _⟩ := datC_form hv
  have hbl := fine_bl hd
  have s1 : IntKind.i64.wrap ((d.b.length : Int) - f) = (d.b.length : Int) - f := IntWalk.i64_in _ (by omega)
  clear hv hd hbl
  go_enter Tryz.func136, Tryz.ntmps136
  go_wp2
  refine bodyPost_ret (v := .tuple #[.agg #[.slice A1 d.s.length k1, .slice A2 d.b.length k2, .slice A3 d.c.length k3, .int .i64 d.h, .int .i64 d.n, .string d.o], .int .i64 (-6)]) (by simp [results, Tryz.results136, go_sem]) rfl ⟨_, rfl, ?_, built_self _ _ _ _⟩
  repeat (first | with_reducible exact Below.refl _ _ | with_reducible refine below_alloc ?_ _)

set_option maxRecDepth 100000 in
set_option maxHeartbeats 4000000 in
theorem sBack_52 (v : Value) (d : Dt) (f c : Int) (w : World) (hv : DatC w v d) (hd : DtFine d) (f0 : 0 ≤ f) (f1 : f ≤ d.b.length) (hf : 2 ≤ (d.b.length : Int) - f) :
    Calls Tryz.prog 136 #[v, .int .i64 52, .int .i64 f, .int .i64 c] w (ReadC w v d ({ d with b := d.b.take (d.b.length - 2) }, 0)) := by
  have HD := hv
  obtain ⟨A1, k1, A2, k2, A3, k3, rfl, _, _, q3, q4⟩ := datC_form hv
  have hbl := fine_bl hd
  obtain ⟨m, hm⟩ : ∃ m, d.b.length = m + 2 := ⟨d.b.length - 2, by omega⟩
  have s1 : IntKind.i64.wrap ((d.b.length : Int) - f) = (d.b.length : Int) - f := IntWalk.i64_in _ (by omega)
  have s2 : IntKind.i64.wrap ((d.b.length : Int) - 2) = (m : Int) := by rw [show (d.b.length : Int) - 2 = m by omega]; exact IntWalk.i64_in _ (by omega)
  have s3 : ¬ ((d.b.length : Int) - f < 2) := by omega
  have mk : m ≤ k2 := by omega
  have MK := Lib.hid (show d.b.length - 2 = m by omega)
  have TL := Lib.hid (show (d.b.take m).length = m by rw [List.length_take]; omega)
  have TK : Hid (Ints w (.slice A2 m k2) (d.b.take m)) := Lib.hid (ints_take (datC_second hv) (by omega))
  rw [MK.out]
  unfold maxLen at q4
  have tl := TL.out
  have ML := Lib.hid (show m ≤ 32 by omega)
  clear hv hd hbl hm f0 f1 hf
  go_enter Tryz.func136, Tryz.ntmps136
  go_wp2_with (first
    | (at_builtin; refine wpList_append_new rfl (.tmp 44) (.tmp 49) rfl rfl _ rfl (by simp) (.slice A2 m k2) (d.b.take m) rfl (ints_below TK.out (below_alloc (below_alloc (Below.refl _ _) _) _)) (by rw [TL.out]; have := ML.out; omega) ?_
       intro G m2 w2 hr hb
       have B2 : Below w.heap.size w w2 := below_step (below_alloc (below_alloc (Below.refl _ _) _) _) hb
       have V2 := whole_b hb (whole_alloc (whole_new w _ _) _)
       have T2 := whole_b hb (whole_new1 w _ _ _)
       obtain ⟨c0, c1, c2, c3, c4, c5⟩ := six_cells V2
       obtain ⟨r0, r1, r2, r3, r4, r5⟩ := six_cells T2
       have f1 := whole_free V2 1
       have fr := whole_free T2
       have R2 : Row w2 (w.heap.size + 1 + 1) (.slice G m m2) (d.b.take m) := by
         have h := hr
         rw [tl] at h
         simpa using h
       rw [tl]
       clear hb hr))
  refine bodyPost_ret (v := .tuple #[.agg #[.slice A1 d.s.length k1, .slice G m m2, .slice A3 d.c.length k3, .int .i64 d.h, .int .i64 d.n, .string d.o], .int .i64 0]) (by simp [results, Tryz.results136, go_sem, *]) rfl ⟨_, rfl, ?_, ?_⟩
  · repeat (first | with_reducible exact B2 | with_reducible refine Below.setCell ?_ (by simp) _)
  · intro W' hW hA
    refine datC_back (base := w.heap.size + 1 + 1) hW (row_agree (n := w.heap.size) ?_ (by omega) hA) tl.symm
    repeat (first | with_reducible exact R2 | ((with_reducible refine row_store ?_ ?hh); case hh => omega))

/-- What stands behind the call: the variable, the results' box, the data's box. -/
def BackCut (w : World) (v : Value) (d r : Dt) (t : Int) (dv : Array Value) (s12 s13 : Value) (wx : World) : Prop :=
  ∃ g C1 j1 C2 j2 C3 j3, s12 = .pointer (some ⟨g, 0, none⟩) ∧ s13 = .int .i64 t ∧ w.heap.size + 1 < g ∧ Whole wx g 40 #[.slice C1 r.s.length j1, .slice C2 r.b.length j2, .slice C3 r.c.length j3, .int .i64 r.h, .int .i64 r.n, .string r.o] ∧
    Whole wx (w.heap.size + 1) 40 #[.slice none 0 0, .slice none 0 0, .slice none 0 0, .int .i64 0, .int .i64 0, .string ⟨#[]⟩] ∧ Whole wx w.heap.size 40 dv ∧ Below w.heap.size w wx ∧
    Built w.heap.size wx v d (.agg #[.slice C1 r.s.length j1, .slice C2 r.b.length j2, .slice C3 r.c.length j3, .int .i64 r.h, .int .i64 r.n, .string r.o]) r

theorem whole_six {w : World} {g R : Nat} {t : TypeId} {cs : Array Value} (h : Whole w g t cs) (hn : g ≠ R) (u0 u1 u2 u3 u4 u5 : Value) : Whole ((((((w.setCell ⟨R, 0, none⟩ u0).setCell ⟨R, 1, none⟩ u1).setCell ⟨R, 2, none⟩ u2).setCell ⟨R, 3, none⟩ u3).setCell ⟨R, 4, none⟩ u4).setCell ⟨R, 5, none⟩ u5) g t cs :=
  whole_far (whole_far (whole_far (whole_far (whole_far (whole_far h hn _) hn _) hn _) hn _) hn _) hn _

theorem six_whole {w : World} {R : Nat} {t : TypeId} {x0 x1 x2 x3 x4 x5 : Value} (h : Whole w R t #[x0, x1, x2, x3, x4, x5]) (u0 u1 u2 u3 u4 u5 : Value) : Whole ((((((w.setCell ⟨R, 0, none⟩ u0).setCell ⟨R, 1, none⟩ u1).setCell ⟨R, 2, none⟩ u2).setCell ⟨R, 3, none⟩ u3).setCell ⟨R, 4, none⟩ u4).setCell ⟨R, 5, none⟩ u5) R t #[u0, u1, u2, u3, u4, u5] := by
  have h' := whole_set (whole_set (whole_set (whole_set (whole_set (whole_set h 0 u0) 1 u1) 2 u2) 3 u3) 4 u4) 5 u5
  simpa using h'

theorem below_six {B : Nat} {a w : World} {R : Nat} (h : Below B a w) (hr : B ≤ R) (u0 u1 u2 u3 u4 u5 : Value) : Below B a ((((((w.setCell ⟨R, 0, none⟩ u0).setCell ⟨R, 1, none⟩ u1).setCell ⟨R, 2, none⟩ u2).setCell ⟨R, 3, none⟩ u3).setCell ⟨R, 4, none⟩ u4).setCell ⟨R, 5, none⟩ u5) :=
  (((((h.setCell hr u0).setCell hr u1).setCell hr u2).setCell hr u3).setCell hr u4).setCell hr u5

theorem ints_at1 (w : World) (o : Obj) (x : Int) : Ints (World.drew ((w.alloc o).alloc (.cells #[.int .i64 x] 3))) (.slice (some ⟨w.heap.size + 1, 0, none⟩) 1 1) [x] := by
  have h := ints_one (w.alloc o) x
  rw [show (w.alloc o).heap.size = w.heap.size + 1 by simp] at h
  exact ints_draws h 1

theorem ints_at (w : World) (x : Int) : Ints (w.alloc (.cells #[.int .i64 x] 3)) (.slice (some ⟨w.heap.size, 0, none⟩) 1 1) [x] := ints_one w x

set_option maxRecDepth 100000 in
set_option maxHeartbeats 4000000 in
theorem sBack_14 (v : Value) (d : Dt) (p f c : Int) (w : World) (hp : p = 14 ∨ p = 51) (hv : DatC w v d) (hd : DtFine d) (f0 : 0 ≤ f) (f1 : f ≤ d.b.length) (hf : 1 ≤ (d.b.length : Int) - f) :
    Calls Tryz.prog 136 #[v, .int .i64 p, .int .i64 f, .int .i64 c] w (ReadC w v d (dPut d 0 [d.b.getLastD 0])) := by
  have HD := hv
  obtain ⟨A1, k1, A2, k2, A3, k3, rfl, _, _, q3, q4⟩ := datC_form hv
  have hbl := fine_bl hd
  have hs := fine_sl hd
  obtain ⟨m, hm⟩ : ∃ m, d.b.length = m + 1 := ⟨d.b.length - 1, by omega⟩
  obtain ⟨_, A', c', hv', hc⟩ := datC_second hv
  simp only [Value.slice.injEq, true_and] at hv'
  obtain ⟨rfl, rfl⟩ := hv'
  obtain ⟨ad, rfl, hc'⟩ := hc (by omega)
  have cm := hc' m (by omega)
  have LA : d.b.getLastD 0 = d.b[m] := by
    rw [List.getLastD_eq_getLast?, List.getLast?_eq_getElem?]; simp [show d.b.length - 1 = m by omega, show m < d.b.length by omega]
  rw [LA]
  have CM : Hid (∀ W, Below w.heap.size w W → W.cell? (ad.add m) = some (.int .i64 d.b[m])) := Lib.hid fun W hW => by
    rw [hW.cell (World.block_lt_of_cell? w _ cm)]; exact cm
  have s1 : IntKind.i64.wrap ((d.b.length : Int) - f) = (d.b.length : Int) - f := IntWalk.i64_in _ (by omega)
  have s2 : IntKind.i64.wrap ((d.b.length : Int) - 1) = (m : Int) := by rw [show (d.b.length : Int) - 1 = m by omega]; exact IntWalk.i64_in _ (by omega)
  have s3 : ¬ ((d.b.length : Int) - f < 1) := by omega
  have s4 : (m : Int) < d.b.length := by omega
  have s5 : m < d.b.length := by omega
  have HL := Lib.hid (And.intro hm hbl)
  have QQ := Lib.hid (And.intro q3 q4)
  have HV2 := Lib.hid (datC_second hv)
  clear hv hc hc' cm LA
  generalize d.b[m] = x at *
  have PUT : Hid (∀ W lv, Ints W lv [x] → DatC W (.agg #[.slice A1 d.s.length k1, .slice (some ad) d.b.length k2, .slice A3 d.c.length k3, .int .i64 d.h, .int .i64 d.n, .string d.o]) d → Calls Tryz.prog 194 #[.agg #[.slice A1 d.s.length k1, .slice (some ad) d.b.length k2, .slice A3 d.c.length k3, .int .i64 d.h, .int .i64 d.n, .string d.o], .int .i64 0, lv] W (ReadC W (.agg #[.slice A1 d.s.length k1, .slice (some ad) d.b.length k2, .slice A3 d.c.length k3, .int .i64 d.h, .int .i64 d.n, .string d.o]) d (dPut d 0 [x]))) := Lib.hid fun W lv hi h => sPut_any _ d 0 lv [x] W h hi (by omega) hs (by simp)
  generalize dPut d 0 [x] = rt at *
  obtain ⟨r, t⟩ := rt
  clear hd hbl hm f0 f1 hf q3 q4
  rcases hp with rfl | rfl
  all_goals
    go_enter Tryz.func136, Tryz.ntmps136
    go_upto_region 15 with fail
    have V2 := whole_alloc (whole_new w 40 #[.slice A1 d.s.length k1, .slice (some ad) d.b.length k2, .slice A3 d.c.length k3, .int .i64 d.h, .int .i64 d.n, .string d.o]) (.cells #[.slice none 0 0, .slice none 0 0, .slice none 0 0, .int .i64 0, .int .i64 0, .string ⟨#[]⟩] 40)
    have T2 := whole_new1 w (.cells #[.slice A1 d.s.length k1, .slice (some ad) d.b.length k2, .slice A3 d.c.length k3, .int .i64 d.h, .int .i64 d.n, .string d.o] 40) 40 #[.slice none 0 0, .slice none 0 0, .slice none 0 0, .int .i64 0, .int .i64 0, .string ⟨#[]⟩]
    have B2 : Below w.heap.size w ((w.alloc (.cells #[.slice A1 d.s.length k1, .slice (some ad) d.b.length k2, .slice A3 d.c.length k3, .int .i64 d.h, .int .i64 d.n, .string d.o] 40)).alloc (.cells #[.slice none 0 0, .slice none 0 0, .slice none 0 0, .int .i64 0, .int .i64 0, .string ⟨#[]⟩] 40)) := below_alloc (below_alloc (Below.refl _ _) _) _
    generalize (w.alloc (.cells #[.slice A1 d.s.length k1, .slice (some ad) d.b.length k2, .slice A3 d.c.length k3, .int .i64 d.h, .int .i64 d.n, .string d.o] 40)).alloc (.cells #[.slice none 0 0, .slice none 0 0, .slice none 0 0, .int .i64 0, .int .i64 0, .string ⟨#[]⟩] 40) = w2 at *
    have zv := whole_lt V2
    have zt := whole_lt T2
    have VB : Hid (∀ W, Below w2.heap.size w2 W → Whole W w.heap.size 40 #[.slice A1 d.s.length k1, .slice (some ad) d.b.length k2, .slice A3 d.c.length k3, .int .i64 d.h, .int .i64 d.n, .string d.o] ∧ Whole W (w.heap.size + 1) 40 #[.slice none 0 0, .slice none 0 0, .slice none 0 0, .int .i64 0, .int .i64 0, .string ⟨#[]⟩] ∧ Below w.heap.size w W) := Lib.hid fun W h => ⟨whole_below V2 h, whole_below T2 h, below_step B2 h⟩
    obtain ⟨v0, v1, v2, v3, v4, v5⟩ := six_cells V2
    have cx := CM.out _ B2
    clear V2 T2
    go_cut [12, 13] (fun s12 s13 wx => BackCut w (.agg #[.slice A1 d.s.length k1, .slice (some ad) d.b.length k2, .slice A3 d.c.length k3, .int .i64 d.h, .int .i64 d.n, .string d.o]) d r t #[.slice A1 d.s.length k1, .slice (some ad) d.b.length k2, .slice A3 d.c.length k3, .int .i64 d.h, .int .i64 d.n, .string d.o] s12 s13 wx)
    case first =>
      go_region_held3 (fun w' => (w'.cell? ⟨w.heap.size, 0, none⟩ = some (.slice A1 d.s.length k1) ∧ w'.cell? ⟨w.heap.size, 1, none⟩ = some (.slice (some ad) d.b.length k2) ∧ w'.cell? ⟨w.heap.size, 2, none⟩ = some (.slice A3 d.c.length k3) ∧ w'.cell? ⟨w.heap.size, 3, none⟩ = some (.int .i64 d.h) ∧ w'.cell? ⟨w.heap.size, 4, none⟩ = some (.int .i64 d.n) ∧ w'.cell? ⟨w.heap.size, 5, none⟩ = some (.string d.o)) ∧ w'.cell? (ad.add m) = some (.int .i64 x))
        (exact ⟨six_cells (VB.out _ (by repeat (first | with_reducible exact D3 | with_reducible exact Below.refl _ _ | with_reducible refine below_alloc ?_ _ | with_reducible refine Below.drew ?_ | with_reducible refine Below.setCell ?_ (by simp; try omega) _))).1, CM.out _ (VB.out _ (by repeat (first | with_reducible exact D3 | with_reducible exact Below.refl _ _ | with_reducible refine below_alloc ?_ _ | with_reducible refine Below.drew ?_ | with_reducible refine Below.setCell ?_ (by simp; try omega) _))).2.2⟩)
        (first
          | (go_at_call 194; with_reducible show Calls _ _ #[_, _, .slice (some ⟨w2.heap.size, 0, none⟩) 1 1] (World.drew (World.alloc w2 _)) _
             refine (PUT.out _ _ (by exact ints_draws (ints_at w2 x) 1) (datC_below HD (VB.out _ (by repeat (first | with_reducible exact D3 | with_reducible exact Below.refl _ _ | with_reducible refine below_alloc ?_ _ | with_reducible refine Below.drew ?_ | with_reducible refine Below.setCell ?_ (by simp; try omega) _))).2.2)).mono ?_
             rintro e w3 ⟨u, rfl, hb, hB⟩
             have D3 : Below w2.heap.size w2 w3 := below_step (by repeat (first | with_reducible exact D3 | with_reducible exact Below.refl _ _ | with_reducible refine below_alloc ?_ _ | with_reducible refine Below.drew ?_ | with_reducible refine Below.setCell ?_ (by simp; try omega) _)) hb
             clear hb
             have hu := built_now hB (datC_below HD (VB.out _ D3).2.2)
             have zx := D3.size
             obtain ⟨C1, j1, C2, j2, C3, j3, rfl, _⟩ := datC_form hu)
          | (go_at_call 194; with_reducible show Calls _ _ #[_, _, .slice (some ⟨w2.heap.size, 0, none⟩) 1 1] (World.drew (World.alloc (World.alloc w2 _) _)) _
             refine (PUT.out _ _ (by exact ints_below (ints_at w2 x) (below_alloc (Below.refl _ _) _).drew) (datC_below HD (VB.out _ (by repeat (first | with_reducible exact D3 | with_reducible exact Below.refl _ _ | with_reducible refine below_alloc ?_ _ | with_reducible refine Below.drew ?_ | with_reducible refine Below.setCell ?_ (by simp; try omega) _))).2.2)).mono ?_
             rintro e w3 ⟨u, rfl, hb, hB⟩
             have D3 : Below w2.heap.size w2 w3 := below_step (by repeat (first | with_reducible exact D3 | with_reducible exact Below.refl _ _ | with_reducible refine below_alloc ?_ _ | with_reducible refine Below.drew ?_ | with_reducible refine Below.setCell ?_ (by simp; try omega) _)) hb
             have X3 : Whole w3 (w2.heap.size + 1) 40 #[.slice none 0 0, .slice none 0 0, .slice none 0 0, .int .i64 0, .int .i64 0, .string ⟨#[]⟩] := whole_b hb (whole_new1 w2 _ _ _)
             clear hb
             have hu := built_now hB (datC_below HD (VB.out _ D3).2.2)
             have zx := whole_lt X3
             obtain ⟨C1, j1, C2, j2, C3, j3, rfl, _⟩ := datC_form hu
             obtain ⟨x0, x1, x2, x3, x4, x5⟩ := six_cells X3
             have fx := whole_free X3)
          | (go_at_call 194; with_reducible show Calls _ _ #[_, _, .slice (some ⟨w2.heap.size + 1, 0, none⟩) 1 1] (World.drew (World.alloc (World.alloc w2 _) _)) _
             refine (PUT.out _ _ (by exact ints_at1 w2 _ x) (datC_below HD (VB.out _ (by repeat (first | with_reducible exact D3 | with_reducible exact Below.refl _ _ | with_reducible refine below_alloc ?_ _ | with_reducible refine Below.drew ?_ | with_reducible refine Below.setCell ?_ (by simp; try omega) _))).2.2)).mono ?_
             rintro e w3 ⟨u, rfl, hb, hB⟩
             have D3 : Below w2.heap.size w2 w3 := below_step (by repeat (first | with_reducible exact D3 | with_reducible exact Below.refl _ _ | with_reducible refine below_alloc ?_ _ | with_reducible refine Below.drew ?_ | with_reducible refine Below.setCell ?_ (by simp; try omega) _)) hb
             have X3 : Whole w3 w2.heap.size 40 #[.slice none 0 0, .slice none 0 0, .slice none 0 0, .int .i64 0, .int .i64 0, .string ⟨#[]⟩] := whole_b hb (whole_alloc (whole_new w2 _ _) _)
             clear hb
             have hu := built_now hB (datC_below HD (VB.out _ D3).2.2)
             have zx := whole_lt X3
             obtain ⟨C1, j1, C2, j2, C3, j3, rfl, _⟩ := datC_form hu
             obtain ⟨x0, x1, x2, x3, x4, x5⟩ := six_cells X3
             have fx := whole_free X3))
      all_goals (go_wp2_with fail; go_meet)
      · exact ⟨_, _, _, _, _, _, _, rfl, rfl, by omega, whole_new w3 _ _, (VB.out _ (below_alloc D3 _)).2.1, (VB.out _ (below_alloc D3 _)).1, (VB.out _ (below_alloc D3 _)).2.2, built_up hB (by simp; omega) (agree_below (below_alloc (Below.refl _ _) _))⟩
      · have D4 := below_six D3 (show w2.heap.size ≤ w2.heap.size + 1 by omega) (.slice C1 r.s.length j1) (.slice C2 r.b.length j2) (.slice C3 r.c.length j3) (.int .i64 r.h) (.int .i64 r.n) (.string r.o)
        exact ⟨_, _, _, _, _, _, _, rfl, rfl, by omega, six_whole X3 _ _ _ _ _ _, (VB.out _ D4).2.1, (VB.out _ D4).1, (VB.out _ D4).2.2, built_up hB (by simp; omega) (agree_six X3)⟩
      · have D4 := below_six D3 (Nat.le_refl w2.heap.size) (.slice C1 r.s.length j1) (.slice C2 r.b.length j2) (.slice C3 r.c.length j3) (.int .i64 r.h) (.int .i64 r.n) (.string r.o)
        exact ⟨_, _, _, _, _, _, _, rfl, rfl, by omega, six_whole X3 _ _ _ _ _ _, (VB.out _ D4).2.1, (VB.out _ D4).1, (VB.out _ D4).2.2, built_up hB (by simp; omega) (agree_six X3)⟩
    case rest =>
      clear VB PUT v0 v1 v2 v3 v4 v5 cx B2 zv zt
      obtain ⟨g, C1, j1, C2, j2, C3, j3, rfl, rfl, hg, XG, T3, V3, B3, BU⟩ := hcut
      obtain ⟨x0, x1, x2, x3, x4, x5⟩ := six_cells XG
      obtain ⟨r0, r1, r2, r3, r4, r5⟩ := six_cells T3
      have fr := whole_free T3
      go_wp2
      refine bodyPost_ret (v := .tuple #[.agg #[.slice C1 r.s.length j1, .slice C2 r.b.length j2, .slice C3 r.c.length j3, .int .i64 r.h, .int .i64 r.n, .string r.o], .int .i64 t]) (by simp [results, Tryz.results136, go_sem, *]) rfl ⟨_, rfl, below_six B3 (by omega) _ _ _ _ _ _, built_up BU (Nat.le_refl _) (agree_six T3)⟩

set_option maxRecDepth 100000 in
set_option maxHeartbeats 4000000 in
theorem sBack_13a (v : Value) (d : Dt) (p f c : Int) (w : World) (hp : p = 13) (hv : DatC w v d) (hd : DtFine d) (f0 : 0 ≤ f) (f1 : f ≤ d.b.length) (hf : 1 ≤ (d.b.length : Int) - f) (hf2 : 32 ≤ d.s.length) :
    Calls Tryz.prog 136 #[v, .int .i64 p, .int .i64 f, .int .i64 c] w (ReadC w v d (d, -3)) := by
  have HD := hv
  obtain ⟨A1, k1, A2, k2, A3, k3, rfl, _, _, q3, q4⟩ := datC_form hv
  have hbl := fine_bl hd
  have hs := fine_sl hd
  obtain ⟨m, hm⟩ : ∃ m, d.b.length = m + 1 := ⟨d.b.length - 1, by omega⟩
  obtain ⟨_, A', c', hv', hc⟩ := datC_second hv
  simp only [Value.slice.injEq, true_and] at hv'
  obtain ⟨rfl, rfl⟩ := hv'
  obtain ⟨ad, rfl, hc'⟩ := hc (by omega)
  have cm := hc' m (by omega)
  have LA : d.b.getLastD 0 = d.b[m] := by
    rw [List.getLastD_eq_getLast?, List.getLast?_eq_getElem?]; simp [show d.b.length - 1 = m by omega, show m < d.b.length by omega]
  have CM : Hid (∀ W, Below w.heap.size w W → W.cell? (ad.add m) = some (.int .i64 d.b[m])) := Lib.hid fun W hW => by
    rw [hW.cell (World.block_lt_of_cell? w _ cm)]; exact cm
  have s1 : IntKind.i64.wrap ((d.b.length : Int) - f) = (d.b.length : Int) - f := IntWalk.i64_in _ (by omega)
  have s2 : IntKind.i64.wrap ((d.b.length : Int) - 1) = (m : Int) := by rw [show (d.b.length : Int) - 1 = m by omega]; exact IntWalk.i64_in _ (by omega)
  have s3 : ¬ ((d.b.length : Int) - f < 1) := by omega
  have s4 : (m : Int) < d.b.length := by omega
  have s5 : m < d.b.length := by omega
  have HL := Lib.hid (And.intro hm hbl)
  have QQ := Lib.hid (And.intro q3 q4)
  have HV2 := Lib.hid (datC_second hv)
  clear hv hc hc' cm LA
  have PE : dPut d 0 [d.b[m]] = (d, -3) := by unfold dPut; rw [if_pos (by simp; omega)]
  generalize d.b[m] = x at *
  obtain ⟨r, t, hr, ht, hrt⟩ : ∃ r t, r = d ∧ t = (-3 : Int) ∧ dPut d 0 [x] = (r, t) := ⟨_, _, rfl, rfl, PE⟩
  have PUT : Hid (∀ W lv, Ints W lv [x] → DatC W (.agg #[.slice A1 d.s.length k1, .slice (some ad) d.b.length k2, .slice A3 d.c.length k3, .int .i64 d.h, .int .i64 d.n, .string d.o]) d → Calls Tryz.prog 194 #[.agg #[.slice A1 d.s.length k1, .slice (some ad) d.b.length k2, .slice A3 d.c.length k3, .int .i64 d.h, .int .i64 d.n, .string d.o], .int .i64 0, lv] W (ReadC W (.agg #[.slice A1 d.s.length k1, .slice (some ad) d.b.length k2, .slice A3 d.c.length k3, .int .i64 d.h, .int .i64 d.n, .string d.o]) d (r, t))) := Lib.hid fun W lv hi h => by rw [← hrt]; exact sPut_any _ d 0 lv [x] W h hi (by omega) hs (by simp)
  rw [show (d, (-3 : Int)) = (r, t) by rw [hr, ht]]
  have tz : (t == 0) = false := by rw [ht]; rfl
  clear hd hbl hm f0 f1 hf q3 q4 hr ht hrt PE hf2
  subst hp
  · skip
    go_enter Tryz.func136, Tryz.ntmps136
    go_upto_region 15 with fail
    have V2 := whole_alloc (whole_new w 40 #[.slice A1 d.s.length k1, .slice (some ad) d.b.length k2, .slice A3 d.c.length k3, .int .i64 d.h, .int .i64 d.n, .string d.o]) (.cells #[.slice none 0 0, .slice none 0 0, .slice none 0 0, .int .i64 0, .int .i64 0, .string ⟨#[]⟩] 40)
    have T2 := whole_new1 w (.cells #[.slice A1 d.s.length k1, .slice (some ad) d.b.length k2, .slice A3 d.c.length k3, .int .i64 d.h, .int .i64 d.n, .string d.o] 40) 40 #[.slice none 0 0, .slice none 0 0, .slice none 0 0, .int .i64 0, .int .i64 0, .string ⟨#[]⟩]
    have B2 : Below w.heap.size w ((w.alloc (.cells #[.slice A1 d.s.length k1, .slice (some ad) d.b.length k2, .slice A3 d.c.length k3, .int .i64 d.h, .int .i64 d.n, .string d.o] 40)).alloc (.cells #[.slice none 0 0, .slice none 0 0, .slice none 0 0, .int .i64 0, .int .i64 0, .string ⟨#[]⟩] 40)) := below_alloc (below_alloc (Below.refl _ _) _) _
    generalize (w.alloc (.cells #[.slice A1 d.s.length k1, .slice (some ad) d.b.length k2, .slice A3 d.c.length k3, .int .i64 d.h, .int .i64 d.n, .string d.o] 40)).alloc (.cells #[.slice none 0 0, .slice none 0 0, .slice none 0 0, .int .i64 0, .int .i64 0, .string ⟨#[]⟩] 40) = w2 at *
    have zv := whole_lt V2
    have zt := whole_lt T2
    have VB : Hid (∀ W, Below w2.heap.size w2 W → Whole W w.heap.size 40 #[.slice A1 d.s.length k1, .slice (some ad) d.b.length k2, .slice A3 d.c.length k3, .int .i64 d.h, .int .i64 d.n, .string d.o] ∧ Whole W (w.heap.size + 1) 40 #[.slice none 0 0, .slice none 0 0, .slice none 0 0, .int .i64 0, .int .i64 0, .string ⟨#[]⟩] ∧ Below w.heap.size w W) := Lib.hid fun W h => ⟨whole_below V2 h, whole_below T2 h, below_step B2 h⟩
    obtain ⟨v0, v1, v2, v3, v4, v5⟩ := six_cells V2
    have cx := CM.out _ B2
    clear V2 T2
    go_cut [12, 13] (fun s12 s13 wx => BackCut w (.agg #[.slice A1 d.s.length k1, .slice (some ad) d.b.length k2, .slice A3 d.c.length k3, .int .i64 d.h, .int .i64 d.n, .string d.o]) d r t #[.slice A1 d.s.length k1, .slice (some ad) d.b.length k2, .slice A3 d.c.length k3, .int .i64 d.h, .int .i64 d.n, .string d.o] s12 s13 wx)
    case first =>
      go_region_held3 (fun w' => (w'.cell? ⟨w.heap.size, 0, none⟩ = some (.slice A1 d.s.length k1) ∧ w'.cell? ⟨w.heap.size, 1, none⟩ = some (.slice (some ad) d.b.length k2) ∧ w'.cell? ⟨w.heap.size, 2, none⟩ = some (.slice A3 d.c.length k3) ∧ w'.cell? ⟨w.heap.size, 3, none⟩ = some (.int .i64 d.h) ∧ w'.cell? ⟨w.heap.size, 4, none⟩ = some (.int .i64 d.n) ∧ w'.cell? ⟨w.heap.size, 5, none⟩ = some (.string d.o)) ∧ w'.cell? (ad.add m) = some (.int .i64 x))
        (exact ⟨six_cells (VB.out _ (by repeat (first | with_reducible exact D3 | with_reducible exact Below.refl _ _ | with_reducible refine below_alloc ?_ _ | with_reducible refine Below.drew ?_ | with_reducible refine Below.setCell ?_ (by simp; try omega) _))).1, CM.out _ (VB.out _ (by repeat (first | with_reducible exact D3 | with_reducible exact Below.refl _ _ | with_reducible refine below_alloc ?_ _ | with_reducible refine Below.drew ?_ | with_reducible refine Below.setCell ?_ (by simp; try omega) _))).2.2⟩)
        (first
          | (go_at_call 194; with_reducible show Calls _ _ #[_, _, .slice (some ⟨w2.heap.size, 0, none⟩) 1 1] (World.drew (World.alloc w2 _)) _
             refine (PUT.out _ _ (by exact ints_draws (ints_at w2 x) 1) (datC_below HD (VB.out _ (by repeat (first | with_reducible exact D3 | with_reducible exact Below.refl _ _ | with_reducible refine below_alloc ?_ _ | with_reducible refine Below.drew ?_ | with_reducible refine Below.setCell ?_ (by simp; try omega) _))).2.2)).mono ?_
             rintro e w3 ⟨u, rfl, hb, hB⟩
             have D3 : Below w2.heap.size w2 w3 := below_step (by repeat (first | with_reducible exact D3 | with_reducible exact Below.refl _ _ | with_reducible refine below_alloc ?_ _ | with_reducible refine Below.drew ?_ | with_reducible refine Below.setCell ?_ (by simp; try omega) _)) hb
             clear hb
             have hu := built_now hB (datC_below HD (VB.out _ D3).2.2)
             have zx := D3.size
             obtain ⟨C1, j1, C2, j2, C3, j3, rfl, _⟩ := datC_form hu)
          | (go_at_call 194; with_reducible show Calls _ _ #[_, _, .slice (some ⟨w2.heap.size, 0, none⟩) 1 1] (World.drew (World.alloc (World.alloc w2 _) _)) _
             refine (PUT.out _ _ (by exact ints_below (ints_at w2 x) (below_alloc (Below.refl _ _) _).drew) (datC_below HD (VB.out _ (by repeat (first | with_reducible exact D3 | with_reducible exact Below.refl _ _ | with_reducible refine below_alloc ?_ _ | with_reducible refine Below.drew ?_ | with_reducible refine Below.setCell ?_ (by simp; try omega) _))).2.2)).mono ?_
             rintro e w3 ⟨u, rfl, hb, hB⟩
             have D3 : Below w2.heap.size w2 w3 := below_step (by repeat (first | with_reducible exact D3 | with_reducible exact Below.refl _ _ | with_reducible refine below_alloc ?_ _ | with_reducible refine Below.drew ?_ | with_reducible refine Below.setCell ?_ (by simp; try omega) _)) hb
             have X3 : Whole w3 (w2.heap.size + 1) 40 #[.slice none 0 0, .slice none 0 0, .slice none 0 0, .int .i64 0, .int .i64 0, .string ⟨#[]⟩] := whole_b hb (whole_new1 w2 _ _ _)
             clear hb
             have hu := built_now hB (datC_below HD (VB.out _ D3).2.2)
             have zx := whole_lt X3
             obtain ⟨C1, j1, C2, j2, C3, j3, rfl, _⟩ := datC_form hu
             obtain ⟨x0, x1, x2, x3, x4, x5⟩ := six_cells X3
             have fx := whole_free X3)
          | (go_at_call 194; with_reducible show Calls _ _ #[_, _, .slice (some ⟨w2.heap.size + 1, 0, none⟩) 1 1] (World.drew (World.alloc (World.alloc w2 _) _)) _
             refine (PUT.out _ _ (by exact ints_at1 w2 _ x) (datC_below HD (VB.out _ (by repeat (first | with_reducible exact D3 | with_reducible exact Below.refl _ _ | with_reducible refine below_alloc ?_ _ | with_reducible refine Below.drew ?_ | with_reducible refine Below.setCell ?_ (by simp; try omega) _))).2.2)).mono ?_
             rintro e w3 ⟨u, rfl, hb, hB⟩
             have D3 : Below w2.heap.size w2 w3 := below_step (by repeat (first | with_reducible exact D3 | with_reducible exact Below.refl _ _ | with_reducible refine below_alloc ?_ _ | with_reducible refine Below.drew ?_ | with_reducible refine Below.setCell ?_ (by simp; try omega) _)) hb
             have X3 : Whole w3 w2.heap.size 40 #[.slice none 0 0, .slice none 0 0, .slice none 0 0, .int .i64 0, .int .i64 0, .string ⟨#[]⟩] := whole_b hb (whole_alloc (whole_new w2 _ _) _)
             clear hb
             have hu := built_now hB (datC_below HD (VB.out _ D3).2.2)
             have zx := whole_lt X3
             obtain ⟨C1, j1, C2, j2, C3, j3, rfl, _⟩ := datC_form hu
             obtain ⟨x0, x1, x2, x3, x4, x5⟩ := six_cells X3
             have fx := whole_free X3))
      all_goals (go_wp2_with fail; go_meet)
      · exact ⟨_, _, _, _, _, _, _, rfl, rfl, by omega, whole_new w3 _ _, (VB.out _ (below_alloc D3 _)).2.1, (VB.out _ (below_alloc D3 _)).1, (VB.out _ (below_alloc D3 _)).2.2, built_up hB (by simp; omega) (agree_below (below_alloc (Below.refl _ _) _))⟩
      · have D4 := below_six D3 (show w2.heap.size ≤ w2.heap.size + 1 by omega) (.slice C1 r.s.length j1) (.slice C2 r.b.length j2) (.slice C3 r.c.length j3) (.int .i64 r.h) (.int .i64 r.n) (.string r.o)
        exact ⟨_, _, _, _, _, _, _, rfl, rfl, by omega, six_whole X3 _ _ _ _ _ _, (VB.out _ D4).2.1, (VB.out _ D4).1, (VB.out _ D4).2.2, built_up hB (by simp; omega) (agree_six X3)⟩
      · have D4 := below_six D3 (Nat.le_refl w2.heap.size) (.slice C1 r.s.length j1) (.slice C2 r.b.length j2) (.slice C3 r.c.length j3) (.int .i64 r.h) (.int .i64 r.n) (.string r.o)
        exact ⟨_, _, _, _, _, _, _, rfl, rfl, by omega, six_whole X3 _ _ _ _ _ _, (VB.out _ D4).2.1, (VB.out _ D4).1, (VB.out _ D4).2.2, built_up hB (by simp; omega) (agree_six X3)⟩
    case rest =>
      clear VB PUT v0 v1 v2 v3 v4 v5 cx B2 zv zt
      obtain ⟨g, C1, j1, C2, j2, C3, j3, rfl, rfl, hg, XG, T3, V3, B3, BU⟩ := hcut
      obtain ⟨x0, x1, x2, x3, x4, x5⟩ := six_cells XG
      obtain ⟨r0, r1, r2, r3, r4, r5⟩ := six_cells T3
      have fr := whole_free T3
      go_wp2
      refine bodyPost_ret (v := .tuple #[.agg #[.slice C1 r.s.length j1, .slice C2 r.b.length j2, .slice C3 r.c.length j3, .int .i64 r.h, .int .i64 r.n, .string r.o], .int .i64 t]) (by simp [results, Tryz.results136, go_sem, *]) rfl ⟨_, rfl, below_six B3 (by omega) _ _ _ _ _ _, built_up BU (Nat.le_refl _) (agree_six T3)⟩

set_option maxRecDepth 100000 in
set_option maxHeartbeats 4000000 in
theorem sBack_13b (v : Value) (d : Dt) (p f c : Int) (w : World) (hp : p = 13) (hv : DatC w v d) (hd : DtFine d) (f0 : 0 ≤ f) (f1 : f ≤ d.b.length) (hf : 1 ≤ (d.b.length : Int) - f) (hf2 : d.s.length < 32) :
    Calls Tryz.prog 136 #[v, .int .i64 p, .int .i64 f, .int .i64 c] w (ReadC w v d ({ d with s := d.s ++ [d.b.getLastD 0], b := d.b.take (d.b.length - 1) }, 0)) := by
  have HD := hv
  obtain ⟨A1, k1, A2, k2, A3, k3, rfl, _, _, q3, q4⟩ := datC_form hv
  have hbl := fine_bl hd
  have hs := fine_sl hd
  obtain ⟨m, hm⟩ : ∃ m, d.b.length = m + 1 := ⟨d.b.length - 1, by omega⟩
  obtain ⟨_, A', c', hv', hc⟩ := datC_second hv
  simp only [Value.slice.injEq, true_and] at hv'
  obtain ⟨rfl, rfl⟩ := hv'
  obtain ⟨ad, rfl, hc'⟩ := hc (by omega)
  have cm := hc' m (by omega)
  have LA : d.b.getLastD 0 = d.b[m] := by
    rw [List.getLastD_eq_getLast?, List.getLast?_eq_getElem?]; simp [show d.b.length - 1 = m by omega, show m < d.b.length by omega]
  rw [LA]
  have CM : Hid (∀ W, Below w.heap.size w W → W.cell? (ad.add m) = some (.int .i64 d.b[m])) := Lib.hid fun W hW => by
    rw [hW.cell (World.block_lt_of_cell? w _ cm)]; exact cm
  have s1 : IntKind.i64.wrap ((d.b.length : Int) - f) = (d.b.length : Int) - f := IntWalk.i64_in _ (by omega)
  have s2 : IntKind.i64.wrap ((d.b.length : Int) - 1) = (m : Int) := by rw [show (d.b.length : Int) - 1 = m by omega]; exact IntWalk.i64_in _ (by omega)
  have s3 : ¬ ((d.b.length : Int) - f < 1) := by omega
  have s4 : (m : Int) < d.b.length := by omega
  have s5 : m < d.b.length := by omega
  have HL := Lib.hid (And.intro hm hbl)
  have QQ := Lib.hid (And.intro q3 q4)
  have HV2 := Lib.hid (datC_second hv)
  clear hv hc hc' cm LA
  have PE : dPut d 0 [d.b[m]] = ({ d with s := d.s ++ [d.b[m]] }, 0) := by unfold dPut; rw [if_neg (by simp; omega)]; simp
  generalize d.b[m] = x at *
  obtain ⟨r, t, hr, ht, hrt⟩ : ∃ r t, r = { d with s := d.s ++ [x] } ∧ t = (0 : Int) ∧ dPut d 0 [x] = (r, t) := ⟨_, _, rfl, rfl, PE⟩
  have PUT : Hid (∀ W lv, Ints W lv [x] → DatC W (.agg #[.slice A1 d.s.length k1, .slice (some ad) d.b.length k2, .slice A3 d.c.length k3, .int .i64 d.h, .int .i64 d.n, .string d.o]) d → Calls Tryz.prog 194 #[.agg #[.slice A1 d.s.length k1, .slice (some ad) d.b.length k2, .slice A3 d.c.length k3, .int .i64 d.h, .int .i64 d.n, .string d.o], .int .i64 0, lv] W (ReadC W (.agg #[.slice A1 d.s.length k1, .slice (some ad) d.b.length k2, .slice A3 d.c.length k3, .int .i64 d.h, .int .i64 d.n, .string d.o]) d (r, t))) := Lib.hid fun W lv hi h => by rw [← hrt]; exact sPut_any _ d 0 lv [x] W h hi (by omega) hs (by simp)
  have MK := Lib.hid (show d.b.length - 1 = m by omega)
  have mk : m ≤ k2 := by omega
  have TL := Lib.hid (show (d.b.take m).length = m by rw [List.length_take]; omega)
  have tl := TL.out
  have TK : Hid (Ints w (.slice (some ad) m k2) (d.b.take m)) := Lib.hid (ints_take HV2.out (by omega))
  have ML := Lib.hid (show m ≤ 32 by omega)
  rw [MK.out, show (({ d with s := d.s ++ [x], b := d.b.take m } : Dt), (0 : Int)) = ({ r with b := d.b.take m }, t) by rw [hr, ht]]
  have tz : (t == 0) = true := by rw [ht]; rfl
  unfold maxLen at q4
  clear hd hbl hm f0 f1 hf q3 hr ht hrt PE hf2
  subst hp
  · skip
    go_enter Tryz.func136, Tryz.ntmps136
    go_upto_region 15 with fail
    have V2 := whole_alloc (whole_new w 40 #[.slice A1 d.s.length k1, .slice (some ad) d.b.length k2, .slice A3 d.c.length k3, .int .i64 d.h, .int .i64 d.n, .string d.o]) (.cells #[.slice none 0 0, .slice none 0 0, .slice none 0 0, .int .i64 0, .int .i64 0, .string ⟨#[]⟩] 40)
    have T2 := whole_new1 w (.cells #[.slice A1 d.s.length k1, .slice (some ad) d.b.length k2, .slice A3 d.c.length k3, .int .i64 d.h, .int .i64 d.n, .string d.o] 40) 40 #[.slice none 0 0, .slice none 0 0, .slice none 0 0, .int .i64 0, .int .i64 0, .string ⟨#[]⟩]
    have B2 : Below w.heap.size w ((w.alloc (.cells #[.slice A1 d.s.length k1, .slice (some ad) d.b.length k2, .slice A3 d.c.length k3, .int .i64 d.h, .int .i64 d.n, .string d.o] 40)).alloc (.cells #[.slice none 0 0, .slice none 0 0, .slice none 0 0, .int .i64 0, .int .i64 0, .string ⟨#[]⟩] 40)) := below_alloc (below_alloc (Below.refl _ _) _) _
    generalize (w.alloc (.cells #[.slice A1 d.s.length k1, .slice (some ad) d.b.length k2, .slice A3 d.c.length k3, .int .i64 d.h, .int .i64 d.n, .string d.o] 40)).alloc (.cells #[.slice none 0 0, .slice none 0 0, .slice none 0 0, .int .i64 0, .int .i64 0, .string ⟨#[]⟩] 40) = w2 at *
    have zv := whole_lt V2
    have zt := whole_lt T2
    have VB : Hid (∀ W, Below w2.heap.size w2 W → Whole W w.heap.size 40 #[.slice A1 d.s.length k1, .slice (some ad) d.b.length k2, .slice A3 d.c.length k3, .int .i64 d.h, .int .i64 d.n, .string d.o] ∧ Whole W (w.heap.size + 1) 40 #[.slice none 0 0, .slice none 0 0, .slice none 0 0, .int .i64 0, .int .i64 0, .string ⟨#[]⟩] ∧ Below w.heap.size w W) := Lib.hid fun W h => ⟨whole_below V2 h, whole_below T2 h, below_step B2 h⟩
    obtain ⟨v0, v1, v2, v3, v4, v5⟩ := six_cells V2
    have cx := CM.out _ B2
    clear V2 T2
    go_cut [12, 13] (fun s12 s13 wx => BackCut w (.agg #[.slice A1 d.s.length k1, .slice (some ad) d.b.length k2, .slice A3 d.c.length k3, .int .i64 d.h, .int .i64 d.n, .string d.o]) d r t #[.slice A1 d.s.length k1, .slice (some ad) d.b.length k2, .slice A3 d.c.length k3, .int .i64 d.h, .int .i64 d.n, .string d.o] s12 s13 wx)
    case first =>
      go_region_held3 (fun w' => (w'.cell? ⟨w.heap.size, 0, none⟩ = some (.slice A1 d.s.length k1) ∧ w'.cell? ⟨w.heap.size, 1, none⟩ = some (.slice (some ad) d.b.length k2) ∧ w'.cell? ⟨w.heap.size, 2, none⟩ = some (.slice A3 d.c.length k3) ∧ w'.cell? ⟨w.heap.size, 3, none⟩ = some (.int .i64 d.h) ∧ w'.cell? ⟨w.heap.size, 4, none⟩ = some (.int .i64 d.n) ∧ w'.cell? ⟨w.heap.size, 5, none⟩ = some (.string d.o)) ∧ w'.cell? (ad.add m) = some (.int .i64 x))
        (exact ⟨six_cells (VB.out _ (by repeat (first | with_reducible exact D3 | with_reducible exact Below.refl _ _ | with_reducible refine below_alloc ?_ _ | with_reducible refine Below.drew ?_ | with_reducible refine Below.setCell ?_ (by simp; try omega) _))).1, CM.out _ (VB.out _ (by repeat (first | with_reducible exact D3 | with_reducible exact Below.refl _ _ | with_reducible refine below_alloc ?_ _ | with_reducible refine Below.drew ?_ | with_reducible refine Below.setCell ?_ (by simp; try omega) _))).2.2⟩)
        (first
          | (go_at_call 194; with_reducible show Calls _ _ #[_, _, .slice (some ⟨w2.heap.size, 0, none⟩) 1 1] (World.drew (World.alloc w2 _)) _
             refine (PUT.out _ _ (by exact ints_draws (ints_at w2 x) 1) (datC_below HD (VB.out _ (by repeat (first | with_reducible exact D3 | with_reducible exact Below.refl _ _ | with_reducible refine below_alloc ?_ _ | with_reducible refine Below.drew ?_ | with_reducible refine Below.setCell ?_ (by simp; try omega) _))).2.2)).mono ?_
             rintro e w3 ⟨u, rfl, hb, hB⟩
             have D3 : Below w2.heap.size w2 w3 := below_step (by repeat (first | with_reducible exact D3 | with_reducible exact Below.refl _ _ | with_reducible refine below_alloc ?_ _ | with_reducible refine Below.drew ?_ | with_reducible refine Below.setCell ?_ (by simp; try omega) _)) hb
             clear hb
             have hu := built_now hB (datC_below HD (VB.out _ D3).2.2)
             have zx := D3.size
             obtain ⟨C1, j1, C2, j2, C3, j3, rfl, _⟩ := datC_form hu)
          | (go_at_call 194; with_reducible show Calls _ _ #[_, _, .slice (some ⟨w2.heap.size, 0, none⟩) 1 1] (World.drew (World.alloc (World.alloc w2 _) _)) _
             refine (PUT.out _ _ (by exact ints_below (ints_at w2 x) (below_alloc (Below.refl _ _) _).drew) (datC_below HD (VB.out _ (by repeat (first | with_reducible exact D3 | with_reducible exact Below.refl _ _ | with_reducible refine below_alloc ?_ _ | with_reducible refine Below.drew ?_ | with_reducible refine Below.setCell ?_ (by simp; try omega) _))).2.2)).mono ?_
             rintro e w3 ⟨u, rfl, hb, hB⟩
             have D3 : Below w2.heap.size w2 w3 := below_step (by repeat (first | with_reducible exact D3 | with_reducible exact Below.refl _ _ | with_reducible refine below_alloc ?_ _ | with_reducible refine Below.drew ?_ | with_reducible refine Below.setCell ?_ (by simp; try omega) _)) hb
             have X3 : Whole w3 (w2.heap.size + 1) 40 #[.slice none 0 0, .slice none 0 0, .slice none 0 0, .int .i64 0, .int .i64 0, .string ⟨#[]⟩] := whole_b hb (whole_new1 w2 _ _ _)
             clear hb
             have hu := built_now hB (datC_below HD (VB.out _ D3).2.2)
             have zx := whole_lt X3
             obtain ⟨C1, j1, C2, j2, C3, j3, rfl, _⟩ := datC_form hu
             obtain ⟨x0, x1, x2, x3, x4, x5⟩ := six_cells X3
             have fx := whole_free X3)
          | (go_at_call 194; with_reducible show Calls _ _ #[_, _, .slice (some ⟨w2.heap.size + 1, 0, none⟩) 1 1] (World.drew (World.alloc (World.alloc w2 _) _)) _
             refine (PUT.out _ _ (by exact ints_at1 w2 _ x) (datC_below HD (VB.out _ (by repeat (first | with_reducible exact D3 | with_reducible exact Below.refl _ _ | with_reducible refine below_alloc ?_ _ | with_reducible refine Below.drew ?_ | with_reducible refine Below.setCell ?_ (by simp; try omega) _))).2.2)).mono ?_
             rintro e w3 ⟨u, rfl, hb, hB⟩
             have D3 : Below w2.heap.size w2 w3 := below_step (by repeat (first | with_reducible exact D3 | with_reducible exact Below.refl _ _ | with_reducible refine below_alloc ?_ _ | with_reducible refine Below.drew ?_ | with_reducible refine Below.setCell ?_ (by simp; try omega) _)) hb
             have X3 : Whole w3 w2.heap.size 40 #[.slice none 0 0, .slice none 0 0, .slice none 0 0, .int .i64 0, .int .i64 0, .string ⟨#[]⟩] := whole_b hb (whole_alloc (whole_new w2 _ _) _)
             clear hb
             have hu := built_now hB (datC_below HD (VB.out _ D3).2.2)
             have zx := whole_lt X3
             obtain ⟨C1, j1, C2, j2, C3, j3, rfl, _⟩ := datC_form hu
             obtain ⟨x0, x1, x2, x3, x4, x5⟩ := six_cells X3
             have fx := whole_free X3))
      all_goals (go_wp2_with fail; go_meet)
      · exact ⟨_, _, _, _, _, _, _, rfl, rfl, by omega, whole_new w3 _ _, (VB.out _ (below_alloc D3 _)).2.1, (VB.out _ (below_alloc D3 _)).1, (VB.out _ (below_alloc D3 _)).2.2, built_up hB (by simp; omega) (agree_below (below_alloc (Below.refl _ _) _))⟩
      · have D4 := below_six D3 (show w2.heap.size ≤ w2.heap.size + 1 by omega) (.slice C1 r.s.length j1) (.slice C2 r.b.length j2) (.slice C3 r.c.length j3) (.int .i64 r.h) (.int .i64 r.n) (.string r.o)
        exact ⟨_, _, _, _, _, _, _, rfl, rfl, by omega, six_whole X3 _ _ _ _ _ _, (VB.out _ D4).2.1, (VB.out _ D4).1, (VB.out _ D4).2.2, built_up hB (by simp; omega) (agree_six X3)⟩
      · have D4 := below_six D3 (Nat.le_refl w2.heap.size) (.slice C1 r.s.length j1) (.slice C2 r.b.length j2) (.slice C3 r.c.length j3) (.int .i64 r.h) (.int .i64 r.n) (.string r.o)
        exact ⟨_, _, _, _, _, _, _, rfl, rfl, by omega, six_whole X3 _ _ _ _ _ _, (VB.out _ D4).2.1, (VB.out _ D4).1, (VB.out _ D4).2.2, built_up hB (by simp; omega) (agree_six X3)⟩
    case rest =>
      clear VB PUT v0 v1 v2 v3 v4 v5 cx B2 zv zt
      obtain ⟨g, C1, j1, C2, j2, C3, j3, rfl, rfl, hg, XG, T3, V3, B3, BU⟩ := hcut
      have V3' := V3
      obtain ⟨v0, v1, v2, v3, v4, v5⟩ := six_cells V3'
      have zv3 := whole_lt V3'
      go_wp2_with (first
        | (at_builtin; refine wpList_append_new rfl (.tmp 71) (.tmp 76) rfl rfl _ rfl (by simp) (.slice (some ad) m k2) (d.b.take m) rfl (ints_below TK.out B3) (by rw [TL.out]; have := ML.out; omega) ?_
           intro G m2 w4 hr hb
           have B4 : Below w.heap.size w w4 := below_step B3 hb
           have X4 := whole_b hb XG
           have T4 := whole_b hb T3
           have zt := whole_lt T4
           have zw := B3.size
           obtain ⟨x0, x1, x2, x3, x4, x5⟩ := six_cells X4
           obtain ⟨r0, r1, r2, r3, r4, r5⟩ := six_cells T4
           have fx := whole_free X4
           have fr := whole_free T4
           have R4 : Row w4 wc.heap.size (.slice G m m2) (d.b.take m) := by
             have h := hr
             rw [tl] at h
             exact h
           have hb4 := Lib.hid hb
           rw [tl]
           clear hb hr v0 v1 v2 v3 v4 v5))
      refine bodyPost_ret (v := .tuple #[.agg #[.slice C1 r.s.length j1, .slice G m m2, .slice C3 r.c.length j3, .int .i64 r.h, .int .i64 r.n, .string r.o], .int .i64 t]) (by simp [results, Tryz.results136, go_sem, *]) rfl ⟨_, rfl, below_six (B4.setCell (p := ⟨g, 1, none⟩) (show w.heap.size ≤ g by omega) _) (by omega) _ _ _ _ _ _, ?_⟩
      intro W' hW hA
      have hne : (40 : TypeId) ≠ 3 := by decide
      have hA4 : Agree w.heap.size w4 W' := agree_trans (agree_trans (agree_set (agree_refl _ _) X4 hne _) (agree_six (whole_far T4 (p := ⟨g, 1, none⟩) (show w.heap.size + 1 ≠ g by omega) _))) hA
      exact datC_back (BU W' hW (agree_trans (agree_below hb4.out) hA4)) (row_agree (n := w.heap.size) R4 (by omega) hA4) tl.symm

end Go.Proofs.YthnbaeamekolmaaGreatDoor
