/- PkM: several of my texts, laid together: SpcA, SpcB, SpcF, SpcH. -/
import Derived.Test.YthnbaeamekolmaaGreatDoorPkC
import Derived.Test.YthnbaeamekolmaaGreatDoorPkF
import Derived.Test.YthnbaeamekolmaaGreatDoorPkL
namespace Go.Proofs.YthnbaeamekolmaaGreatDoor
open Go.RowKit
set_option linter.unusedVariables false
set_option linter.unusedSimpArgs false

/-- The stacks' slices are no longer than their capacities. -/
def Caps (v : Value) : Prop := ∃ A n k B m l z a b c, v = .agg #[.slice A n k, .slice B m l, z, a, b, c] ∧ n ≤ k ∧ k ≤ maxLen ∧ m ≤ l ∧ l ≤ maxLen

theorem datOf_caps {w : World} {lo hi : Nat} {v : Value} {d : Dt} (h : DatOf w lo hi v d) : Caps v := by
  obtain ⟨x, y, z, rfl, h1, h2, _⟩ := h
  obtain ⟨_, A, k, rfl, _⟩ := row_ints h1
  obtain ⟨_, B, l, rfl, _⟩ := row_ints h2
  exact ⟨_, _, _, _, _, _, _, _, _, _, rfl, (row_cap h1).1, (row_cap h1).2, (row_cap h2).1, (row_cap h2).2⟩

/-- Data that reads, its slices within their capacities. -/
def DatC (w : World) (v : Value) (d : Dt) : Prop := DatIn w v d ∧ Caps v

theorem datC_below {w w' : World} {v : Value} {d : Dt} (h : DatC w v d) (hb : Below w.heap.size w w') : DatC w' v d := ⟨datIn_below h.1 hb, h.2⟩

/-- Every row of numbers from block n on reads in the later world as it did. -/
def Agree (n : Nat) (a b : World) : Prop := ∀ k cs fr, n ≤ k → a.heap[k]? = some (.cells cs 3 fr) → b.heap[k]? = a.heap[k]?

theorem agree_refl (n : Nat) (a : World) : Agree n a a := fun _ _ _ _ _ => rfl

theorem agree_trans {n : Nat} {a b c : World} (h : Agree n a b) (k : Agree n b c) : Agree n a c := fun i cs fr hi ha => (k i cs fr hi ((h i cs fr hi ha).trans ha)).trans (h i cs fr hi ha)

theorem agree_mono {n m : Nat} {a b : World} (h : Agree n a b) (hm : n ≤ m) : Agree m a b := fun i cs fr hi => h i cs fr (Nat.le_trans hm hi)

theorem agree_below {n : Nat} {a b : World} (h : Below a.heap.size a b) : Agree n a b := fun i cs fr _ ha => h.block i (by
  rcases Nat.lt_or_ge i a.heap.size with hl | hl
  · exact hl
  · rw [Array.getElem?_eq_none hl] at ha; cases ha)

theorem agree_set {n R i : Nat} {a b : World} {t : TypeId} {cs : Array Value} (h : Agree n a b) (hw : Whole b R t cs) (ht : t ≠ 3) (u : Value) : Agree n a (b.setCell ⟨R, i, none⟩ u) := fun k c fr hk ha => by
  refine (Below.heap_setCell b _ u k ?_).trans (h k c fr hk ha)
  show k ≠ R
  rintro rfl
  have h1 := (h k c fr hk ha).trans ha
  unfold Whole at hw
  rw [hw] at h1
  injection h1 with h1
  injection h1 with _ h2
  exact ht h2

/-- The value is made of the slices of another and of rows from block n on: it reads wherever the other reads and those rows agree. -/
def Built (n : Nat) (w' : World) (v : Value) (d : Dt) (u : Value) (r : Dt) : Prop := ∀ W', DatC W' v d → Agree n w' W' → DatC W' u r

theorem built_up {n N : Nat} {a b : World} {v u : Value} {d r : Dt} (h : Built N a v d u r) (hn : n ≤ N) (hA : Agree n a b) : Built n b v d u r := fun W' hv ha => h W' hv (agree_mono (agree_trans hA ha) hn)

theorem built_comp {n N M : Nat} {a b : World} {v x u : Value} {d r q : Dt} (h : Built N a v d x r) (k : Built M b x r u q) (hn : n ≤ N) (hm : n ≤ M) (hA : Agree n a b) : Built n b v d u q := fun W' hv ha =>
  k W' (h W' hv (agree_mono (agree_trans hA ha) hn)) (agree_mono ha hm)

theorem built_now {n : Nat} {w' : World} {v u : Value} {d r : Dt} (h : Built n w' v d u r) (hv : DatC w' v d) : DatC w' u r := h w' hv (agree_refl _ _)

theorem built_self (n : Nat) (w' : World) (v : Value) (d : Dt) : Built n w' v d v d := fun _ h _ => h

/-- Data that reads, and a throw. -/
def ReadC (w : World) (v : Value) (d : Dt) (r : Dt × Int) (e : Ending) (w' : World) : Prop := ∃ u, e = .returned (.tuple #[u, .int .i64 r.2]) ∧ Below w.heap.size w w' ∧ Built w.heap.size w' v d u r.1

theorem row_agree {n base : Nat} {a b : World} {v : Value} {zs : List Int} (h : Row a base v zs) (hb : n ≤ base) (hA : Agree n a b) : Row b base v zs := by
  refine row_keep h fun g hg => ?_
  rcases h.2 with ⟨rfl, _⟩ | ⟨g', cap, cur, rfl, hb', hh, _⟩
  · simp [Value.ownBlock] at hg
  · have e : g' = g := by simpa [Value.ownBlock] using hg
    subst e
    exact hA g' _ _ (Nat.le_trans hb hb') hh

theorem datC_form {w : World} {v : Value} {d : Dt} (h : DatC w v d) : ∃ A1 k1 A2 k2 A3 k3, v = .agg #[.slice A1 d.s.length k1, .slice A2 d.b.length k2, .slice A3 d.c.length k3, .int .i64 d.h, .int .i64 d.n, .string d.o] ∧ d.s.length ≤ k1 ∧ k1 ≤ maxLen ∧ d.b.length ≤ k2 ∧ k2 ≤ maxLen := by
  obtain ⟨h1, h2⟩ := h
  obtain ⟨A1, k1, A2, k2, A3, k3, rfl⟩ := datIn_form h1
  obtain ⟨A, n, k, B, m, l, z, a, b, c, he, q1, q2, q3, q4⟩ := h2
  simp only [Value.agg.injEq, Array.mk.injEq, List.cons.injEq, Value.slice.injEq, and_true, true_and] at he
  obtain ⟨⟨rfl, rfl, rfl⟩, ⟨rfl, rfl, rfl⟩, rfl, rfl, rfl, rfl⟩ := he
  exact ⟨_, _, _, _, _, _, rfl, q1, q2, q3, q4⟩

theorem caps_stack {A1 A2 A3 C : Option Addr} {n k m l j x i : Nat} {a b c : Value} (h : Caps (.agg #[.slice A1 n k, .slice A2 m l, .slice A3 j x, a, b, c])) {q : Nat} (hq : q ≤ i) (hi : i ≤ maxLen) : Caps (.agg #[.slice C q i, .slice A2 m l, .slice A3 j x, a, b, c]) := by
  obtain ⟨A, n', k', B, m', l', z, a', b', c', he, q1, q2, q3, q4⟩ := h
  simp only [Value.agg.injEq, Array.mk.injEq, List.cons.injEq, Value.slice.injEq, and_true, true_and] at he
  obtain ⟨⟨rfl, rfl, rfl⟩, ⟨rfl, rfl, rfl⟩, rfl, rfl, rfl, rfl⟩ := he
  exact ⟨_, _, _, _, _, _, _, _, _, _, rfl, hq, hi, q3, q4⟩

set_option maxRecDepth 100000 in
set_option maxHeartbeats 2000000 in
theorem sPut_over (v : Value) (d : Dt) (k : Nat) (lv : Value) (L : List Int) (w : World) (hv : DatC w v d) (hi : Ints w lv L) (hk : k ≤ d.s.length) (hs : d.s.length ≤ 32) (hL : L.length ≤ 4) (ho : 32 < d.s.length - k + L.length) :
    Calls Tryz.prog 194 #[v, .int .i64 k, lv] w (ReadC w v d (d, -3)) := by
  have HD := hv
  obtain ⟨A1, k1, A2, k2, A3, k3, rfl, _⟩ := datC_form hv
  obtain ⟨_, LA, lc, rfl, _⟩ := id hi
  obtain ⟨m, hm⟩ : ∃ m, d.s.length = m + k := ⟨d.s.length - k, by omega⟩
  have s1 : IntKind.i64.wrap ((d.s.length : Int) - k) = (m : Int) := by rw [show (d.s.length : Int) - k = m by omega]; exact IntWalk.i64_in _ (by omega)
  have s2 : IntKind.i64.wrap ((m : Int) + L.length) = (m : Int) + L.length := IntWalk.i64_in _ (by omega)
  have s3 : (32 : Int) < (m : Int) + L.length := by omega
  clear hv hi hm
  go_enter Tryz.func194, Tryz.ntmps194
  go_wp2
  refine bodyPost_ret (v := .tuple #[.agg #[.slice A1 d.s.length k1, .slice A2 d.b.length k2, .slice A3 d.c.length k3, .int .i64 d.h, .int .i64 d.n, .string d.o], .int .i64 (-3)]) (by simp [results, Tryz.results194, go_sem]) rfl ⟨_, rfl, ?_, built_self _ _ _ _⟩
  · repeat (first | with_reducible exact Below.refl _ _ | with_reducible refine below_alloc ?_ _)

set_option maxRecDepth 100000 in
set_option maxHeartbeats 4000000 in
theorem sPut_fine (v : Value) (d : Dt) (k : Nat) (lv : Value) (L : List Int) (w : World) (hv : DatC w v d) (hi : Ints w lv L) (hk : k ≤ d.s.length) (hs : d.s.length ≤ 32) (hL : L.length ≤ 4) (ho : d.s.length - k + L.length ≤ 32) :
    Calls Tryz.prog 194 #[v, .int .i64 k, lv] w (ReadC w v d ({ d with s := d.s.take (d.s.length - k) ++ L }, 0)) := by
  have HD := hv
  obtain ⟨A1, k1, A2, k2, A3, k3, rfl, q1, q2, _⟩ := datC_form hv
  obtain ⟨_, LA, lc, rfl, _⟩ := id hi
  obtain ⟨m, hm⟩ : ∃ m, d.s.length = m + k := ⟨d.s.length - k, by omega⟩
  have s1 : IntKind.i64.wrap ((d.s.length : Int) - k) = (m : Int) := by rw [show (d.s.length : Int) - k = m by omega]; exact IntWalk.i64_in _ (by omega)
  have s2 : IntKind.i64.wrap ((m : Int) + L.length) = (m : Int) + L.length := IntWalk.i64_in _ (by omega)
  have s3 : ¬ ((32 : Int) < (m : Int) + L.length) := by omega
  have mk : m ≤ k1 := by omega
  have MK := Lib.hid (show d.s.length - k = m by omega)
  have TL := Lib.hid (show (d.s.take m).length = m by rw [List.length_take]; omega)
  have TK : Hid (Ints w (.slice A1 m k1) (d.s.take m)) := Lib.hid (ints_take (datIn_first HD.1) (by omega))
  have HI := Lib.hid hi
  have LL : Hid (m + L.length ≤ 1000) := Lib.hid (by omega)
  rw [MK.out]
  unfold maxLen at q2
  have tl := TL.out
  have LN := Lib.hid (show (d.s.take m ++ L).length = m + L.length by rw [List.length_append, TL.out])
  clear hv hi hm ho
  go_enter Tryz.func194, Tryz.ntmps194
  go_wp2_with (first
    | (at_builtin; refine wpList_append_new rfl (.tmp 20) (.tmp 24) rfl rfl _ rfl (by simp) (.slice A1 m k1) (d.s.take m) rfl (ints_below TK.out (below_alloc (below_alloc (Below.refl _ _) _) _)) (by rw [TL.out]; have := LL.out; omega) ?_
       intro B1 m1 w1 hr hb
       have B1' : Below w.heap.size w w1 := below_step (below_alloc (below_alloc (Below.refl _ _) _) _) hb
       have V1 := whole_b hb (whole_alloc (whole_new w _ _) _)
       have T1 := whole_b hb (whole_new1 w _ _ _)
       have R1 : Row w1 (w.heap.size + 1 + 1) (.slice B1 m m1) (d.s.take m) := by
         have h := hr
         rw [tl] at h
         simpa using h
       clear hr hb)
    | (at_builtin; refine wpList_append_ints rfl (.tmp 25) (.tmp 26) rfl rfl (w.heap.size + 1 + 1) (.slice B1 m m1) (d.s.take m) R1 (.slice LA L.length lc) L (ints_below HI.out B1') rfl rfl (by rw [TL.out]; have := LL.out; omega) (by have := whole_lt T1; omega) ?_
       intro v2 w2 hr hg hat
       have hbk : Below (w.heap.size + 1 + 1) w1 w2 := (Below.refl _ _).grown hg (by have := whole_lt T1; omega) (fun k hk => (row_lt R1 k hk).1)
       have B2' : Below w.heap.size w w2 := B1'.trans (hbk.mono (by omega))
       have V2 := whole_keep V1 (hbk.block _ (by omega))
       have T2 := whole_keep T1 (hbk.block _ (by omega))
       obtain ⟨_, C1, j1, rfl, _⟩ := row_ints hr
       rw [LN.out] at hr
       obtain ⟨c0, c1, c2, c3, c4, c5⟩ := six_cells V2
       obtain ⟨r0, r1, r2, r3, r4, r5⟩ := six_cells T2
       have f0 := whole_free V2 0
       have fr := whole_free T2
       have RC := Lib.hid (row_cap hr)
       clear hg hat))
  refine bodyPost_ret (v := .tuple #[.agg #[.slice C1 (m + L.length) j1, .slice A2 d.b.length k2, .slice A3 d.c.length k3, .int .i64 d.h, .int .i64 d.n, .string d.o], .int .i64 0]) (by simp [results, Tryz.results194, go_sem, *]) rfl ⟨_, rfl, ?_, ?_⟩
  · repeat (first | with_reducible exact B2' | with_reducible refine Below.setCell ?_ (by simp) _)
  · intro W' hW hA
    refine ⟨datIn_stack (n := 0) (k1 := k1) (A1 := A1) hW.1 ?_, caps_stack hW.2 (by have := RC.out.1; omega) RC.out.2⟩
    have hf : Row _ (w.heap.size + 1 + 1) (.slice C1 (m + L.length) j1) (d.s.take m ++ L) := row_agree (n := w.heap.size) ?_ (by omega) hA
    · have h2 := row_ints hf
      rw [← LN.out] at h2 ⊢
      exact h2
    · rw [← LN.out]; rw [← LN.out] at hr
      repeat (first | with_reducible exact hr | ((with_reducible refine row_store ?_ ?hh); case hh => omega))

theorem sPut_any (v : Value) (d : Dt) (k : Nat) (lv : Value) (L : List Int) (w : World) (hv : DatC w v d) (hi : Ints w lv L) (hk : k ≤ d.s.length) (hs : d.s.length ≤ 32) (hL : L.length ≤ 4) :
    Calls Tryz.prog 194 #[v, .int .i64 k, lv] w (ReadC w v d (dPut d k L)) := by
  unfold dPut
  by_cases h : 32 < d.s.length - k + L.length
  · rw [if_pos h]; exact sPut_over v d k lv L w hv hi hk hs hL h
  · rw [if_neg h]; exact sPut_fine v d k lv L w hv hi hk hs hL (by omega)

end Go.Proofs.YthnbaeamekolmaaGreatDoor

namespace Go.Proofs.YthnbaeamekolmaaGreatDoor
open Go.RowKit
set_option linter.unusedVariables false
set_option linter.unusedSimpArgs false

theorem ints_lit2 (w : World) (o o' : Obj) (zs : List Int) (hl : zs.length ≤ maxLen) : Ints (((w.alloc o).alloc o').alloc (.cells (zs.map (Value.int .i64)).toArray 3)) (.slice (some ⟨w.heap.size + 1 + 1, 0, none⟩) zs.length zs.length) zs := by
  simpa using ints_lit ((w.alloc o).alloc o') zs hl

theorem agree_six {n R : Nat} {a : World} {cs : Array Value} (hw : Whole a R 40 cs) {u0 u1 u2 u3 u4 u5 : Value} :
    Agree n a ((((((a.setCell ⟨R, 0, none⟩ u0).setCell ⟨R, 1, none⟩ u1).setCell ⟨R, 2, none⟩ u2).setCell ⟨R, 3, none⟩ u3).setCell ⟨R, 4, none⟩ u4).setCell ⟨R, 5, none⟩ u5) := by
  have hne : (40 : TypeId) ≠ 3 := by decide
  have h0 := whole_set hw 0 u0
  have h1 := whole_set h0 1 u1
  have h2 := whole_set h1 2 u2
  have h3 := whole_set h2 3 u3
  have h4 := whole_set h3 4 u4
  exact agree_set (agree_set (agree_set (agree_set (agree_set (agree_set (agree_refl n a) hw hne u0) h0 hne u1) h1 hne u2) h2 hne u3) h3 hne u4) h4 hne u5

set_option maxRecDepth 100000 in
set_option maxHeartbeats 2000000 in
theorem sMoves_1 (v : Value) (d : Dt) (a b c : Int) (w : World) (hv : DatC w v d) (hd : DtFine d) (hk : 1 ≤ d.s.length) :
    Calls Tryz.prog 135 #[v, .int .i64 1, .int .i64 a, .int .i64 b, .int .i64 c] w (ReadC w v d (dPut d 1 [c, c])) := by
  have HD := hv
  obtain ⟨A1, k1, A2, k2, A3, k3, rfl, _⟩ := datC_form hv
  have hs := fine_sl hd
  clear hv
  go_enter Tryz.func135, Tryz.ntmps135
  go_wp2_with fail
  refine (sPut_any _ d 1 _ [c, c] _ (datC_below HD (by exact (below_alloc (below_alloc (below_alloc (Below.refl _ _) _) _) _))) (by exact ints_lit2 _ _ _ [c, c] (by unfold maxLen; simp)) (by omega) hs (by simp)).mono ?_
  rintro e w1 ⟨u, rfl, hb, hB⟩
  have B1 : Below w.heap.size w w1 := below_step (below_alloc (below_alloc (below_alloc (Below.refl _ _) _) _) _) hb
  have T1 := whole_b hb (whole_alloc (whole_new1 w _ _ _) _)
  have hu := built_now hB (datC_below HD B1)
  have zn : w.heap.size ≤ w1.heap.size := B1.size
  clear hb
  generalize dPut d 1 [c, c] = r at *
  obtain ⟨r, t⟩ := r
  simp only at hB hu
  obtain ⟨C1, j1, C2, j2, C3, j3, rfl, _⟩ := datC_form hu
  have zt := whole_lt T1
  obtain ⟨r0, r1, r2, r3, r4, r5⟩ := six_cells T1
  have fr := whole_free T1
  go_wp2
  refine bodyPost_ret (v := .tuple #[.agg #[.slice C1 r.s.length j1, .slice C2 r.b.length j2, .slice C3 r.c.length j3, .int .i64 r.h, .int .i64 r.n, .string r.o], .int .i64 t]) (by simp [results, Tryz.results135, go_sem, *]) rfl ⟨_, rfl, ?_, built_up hB (by simp; try omega) (agree_six T1)⟩
  repeat (first | with_reducible exact B1 | with_reducible refine Below.setCell ?_ (by simp) _)

set_option maxRecDepth 100000 in
set_option maxHeartbeats 2000000 in
theorem sMoves_2 (v : Value) (d : Dt) (a b c : Int) (w : World) (hv : DatC w v d) (hd : DtFine d) (hk : 1 ≤ d.s.length) :
    Calls Tryz.prog 135 #[v, .int .i64 2, .int .i64 a, .int .i64 b, .int .i64 c] w (ReadC w v d (dPut d 1 [])) := by
  have HD := hv
  obtain ⟨A1, k1, A2, k2, A3, k3, rfl, _⟩ := datC_form hv
  have hs := fine_sl hd
  clear hv
  go_enter Tryz.func135, Tryz.ntmps135
  go_wp2_with fail
  refine (sPut_any _ d 1 _ [] _ (datC_below HD (by exact (below_alloc (below_alloc (Below.refl _ _) _) _))) (by exact ints_nil _) (by omega) hs (by simp)).mono ?_
  rintro e w1 ⟨u, rfl, hb, hB⟩
  have B1 : Below w.heap.size w w1 := below_step (below_alloc (below_alloc (Below.refl _ _) _) _) hb
  have T1 := whole_b hb (whole_new1 w _ _ _)
  have hu := built_now hB (datC_below HD B1)
  have zn : w.heap.size ≤ w1.heap.size := B1.size
  clear hb
  generalize dPut d 1 [] = r at *
  obtain ⟨r, t⟩ := r
  simp only at hB hu
  obtain ⟨C1, j1, C2, j2, C3, j3, rfl, _⟩ := datC_form hu
  have zt := whole_lt T1
  obtain ⟨r0, r1, r2, r3, r4, r5⟩ := six_cells T1
  have fr := whole_free T1
  go_wp2
  refine bodyPost_ret (v := .tuple #[.agg #[.slice C1 r.s.length j1, .slice C2 r.b.length j2, .slice C3 r.c.length j3, .int .i64 r.h, .int .i64 r.n, .string r.o], .int .i64 t]) (by simp [results, Tryz.results135, go_sem, *]) rfl ⟨_, rfl, ?_, built_up hB (by simp; try omega) (agree_six T1)⟩
  repeat (first | with_reducible exact B1 | with_reducible refine Below.setCell ?_ (by simp) _)

set_option maxRecDepth 100000 in
set_option maxHeartbeats 2000000 in
theorem sMoves_3 (v : Value) (d : Dt) (a b c : Int) (w : World) (hv : DatC w v d) (hd : DtFine d) (hk : 2 ≤ d.s.length) :
    Calls Tryz.prog 135 #[v, .int .i64 3, .int .i64 a, .int .i64 b, .int .i64 c] w (ReadC w v d (dPut d 2 [c, b])) := by
  have HD := hv
  obtain ⟨A1, k1, A2, k2, A3, k3, rfl, _⟩ := datC_form hv
  have hs := fine_sl hd
  clear hv
  go_enter Tryz.func135, Tryz.ntmps135
  go_wp2_with fail
  refine (sPut_any _ d 2 _ [c, b] _ (datC_below HD (by exact (below_alloc (below_alloc (below_alloc (Below.refl _ _) _) _) _))) (by exact ints_lit2 _ _ _ [c, b] (by unfold maxLen; simp)) (by omega) hs (by simp)).mono ?_
  rintro e w1 ⟨u, rfl, hb, hB⟩
  have B1 : Below w.heap.size w w1 := below_step (below_alloc (below_alloc (below_alloc (Below.refl _ _) _) _) _) hb
  have T1 := whole_b hb (whole_alloc (whole_new1 w _ _ _) _)
  have hu := built_now hB (datC_below HD B1)
  have zn : w.heap.size ≤ w1.heap.size := B1.size
  clear hb
  generalize dPut d 2 [c, b] = r at *
  obtain ⟨r, t⟩ := r
  simp only at hB hu
  obtain ⟨C1, j1, C2, j2, C3, j3, rfl, _⟩ := datC_form hu
  have zt := whole_lt T1
  obtain ⟨r0, r1, r2, r3, r4, r5⟩ := six_cells T1
  have fr := whole_free T1
  go_wp2
  refine bodyPost_ret (v := .tuple #[.agg #[.slice C1 r.s.length j1, .slice C2 r.b.length j2, .slice C3 r.c.length j3, .int .i64 r.h, .int .i64 r.n, .string r.o], .int .i64 t]) (by simp [results, Tryz.results135, go_sem, *]) rfl ⟨_, rfl, ?_, built_up hB (by simp; try omega) (agree_six T1)⟩
  repeat (first | with_reducible exact B1 | with_reducible refine Below.setCell ?_ (by simp) _)

set_option maxRecDepth 100000 in
set_option maxHeartbeats 2000000 in
theorem sMoves_4 (v : Value) (d : Dt) (a b c : Int) (w : World) (hv : DatC w v d) (hd : DtFine d) (hk : 2 ≤ d.s.length) :
    Calls Tryz.prog 135 #[v, .int .i64 4, .int .i64 a, .int .i64 b, .int .i64 c] w (ReadC w v d (dPut d 2 [b, c, b])) := by
  have HD := hv
  obtain ⟨A1, k1, A2, k2, A3, k3, rfl, _⟩ := datC_form hv
  have hs := fine_sl hd
  clear hv
  go_enter Tryz.func135, Tryz.ntmps135
  go_wp2_with fail
  refine (sPut_any _ d 2 _ [b, c, b] _ (datC_below HD (by exact (below_alloc (below_alloc (below_alloc (Below.refl _ _) _) _) _))) (by exact ints_lit2 _ _ _ [b, c, b] (by unfold maxLen; simp)) (by omega) hs (by simp)).mono ?_
  rintro e w1 ⟨u, rfl, hb, hB⟩
  have B1 : Below w.heap.size w w1 := below_step (below_alloc (below_alloc (below_alloc (Below.refl _ _) _) _) _) hb
  have T1 := whole_b hb (whole_alloc (whole_new1 w _ _ _) _)
  have hu := built_now hB (datC_below HD B1)
  have zn : w.heap.size ≤ w1.heap.size := B1.size
  clear hb
  generalize dPut d 2 [b, c, b] = r at *
  obtain ⟨r, t⟩ := r
  simp only at hB hu
  obtain ⟨C1, j1, C2, j2, C3, j3, rfl, _⟩ := datC_form hu
  have zt := whole_lt T1
  obtain ⟨r0, r1, r2, r3, r4, r5⟩ := six_cells T1
  have fr := whole_free T1
  go_wp2
  refine bodyPost_ret (v := .tuple #[.agg #[.slice C1 r.s.length j1, .slice C2 r.b.length j2, .slice C3 r.c.length j3, .int .i64 r.h, .int .i64 r.n, .string r.o], .int .i64 t]) (by simp [results, Tryz.results135, go_sem, *]) rfl ⟨_, rfl, ?_, built_up hB (by simp; try omega) (agree_six T1)⟩
  repeat (first | with_reducible exact B1 | with_reducible refine Below.setCell ?_ (by simp) _)

set_option maxRecDepth 100000 in
set_option maxHeartbeats 2000000 in
theorem sMoves_5 (v : Value) (d : Dt) (a b c : Int) (w : World) (hv : DatC w v d) (hd : DtFine d) (hk : 3 ≤ d.s.length) :
    Calls Tryz.prog 135 #[v, .int .i64 5, .int .i64 a, .int .i64 b, .int .i64 c] w (ReadC w v d (dPut d 3 [b, c, a])) := by
  have HD := hv
  obtain ⟨A1, k1, A2, k2, A3, k3, rfl, _⟩ := datC_form hv
  have hs := fine_sl hd
  clear hv
  go_enter Tryz.func135, Tryz.ntmps135
  go_wp2_with fail
  refine (sPut_any _ d 3 _ [b, c, a] _ (datC_below HD (by exact (below_alloc (below_alloc (below_alloc (Below.refl _ _) _) _) _))) (by exact ints_lit2 _ _ _ [b, c, a] (by unfold maxLen; simp)) (by omega) hs (by simp)).mono ?_
  rintro e w1 ⟨u, rfl, hb, hB⟩
  have B1 : Below w.heap.size w w1 := below_step (below_alloc (below_alloc (below_alloc (Below.refl _ _) _) _) _) hb
  have T1 := whole_b hb (whole_alloc (whole_new1 w _ _ _) _)
  have hu := built_now hB (datC_below HD B1)
  have zn : w.heap.size ≤ w1.heap.size := B1.size
  clear hb
  generalize dPut d 3 [b, c, a] = r at *
  obtain ⟨r, t⟩ := r
  simp only at hB hu
  obtain ⟨C1, j1, C2, j2, C3, j3, rfl, _⟩ := datC_form hu
  have zt := whole_lt T1
  obtain ⟨r0, r1, r2, r3, r4, r5⟩ := six_cells T1
  have fr := whole_free T1
  go_wp2
  refine bodyPost_ret (v := .tuple #[.agg #[.slice C1 r.s.length j1, .slice C2 r.b.length j2, .slice C3 r.c.length j3, .int .i64 r.h, .int .i64 r.n, .string r.o], .int .i64 t]) (by simp [results, Tryz.results135, go_sem, *]) rfl ⟨_, rfl, ?_, built_up hB (by simp; try omega) (agree_six T1)⟩
  repeat (first | with_reducible exact B1 | with_reducible refine Below.setCell ?_ (by simp) _)

set_option maxRecDepth 100000 in
set_option maxHeartbeats 2000000 in
theorem sMoves_6 (v : Value) (d : Dt) (a b c : Int) (w : World) (hv : DatC w v d) (hd : DtFine d) (hk : 2 ≤ d.s.length) :
    Calls Tryz.prog 135 #[v, .int .i64 6, .int .i64 a, .int .i64 b, .int .i64 c] w (ReadC w v d (dPut d 2 [c])) := by
  have HD := hv
  obtain ⟨A1, k1, A2, k2, A3, k3, rfl, _⟩ := datC_form hv
  have hs := fine_sl hd
  clear hv
  go_enter Tryz.func135, Tryz.ntmps135
  go_wp2_with fail
  refine (sPut_any _ d 2 _ [c] _ (datC_below HD (by exact (below_alloc (below_alloc (below_alloc (Below.refl _ _) _) _) _))) (by exact ints_lit2 _ _ _ [c] (by unfold maxLen; simp)) (by omega) hs (by simp)).mono ?_
  rintro e w1 ⟨u, rfl, hb, hB⟩
  have B1 : Below w.heap.size w w1 := below_step (below_alloc (below_alloc (below_alloc (Below.refl _ _) _) _) _) hb
  have T1 := whole_b hb (whole_alloc (whole_new1 w _ _ _) _)
  have hu := built_now hB (datC_below HD B1)
  have zn : w.heap.size ≤ w1.heap.size := B1.size
  clear hb
  generalize dPut d 2 [c] = r at *
  obtain ⟨r, t⟩ := r
  simp only at hB hu
  obtain ⟨C1, j1, C2, j2, C3, j3, rfl, _⟩ := datC_form hu
  have zt := whole_lt T1
  obtain ⟨r0, r1, r2, r3, r4, r5⟩ := six_cells T1
  have fr := whole_free T1
  go_wp2
  refine bodyPost_ret (v := .tuple #[.agg #[.slice C1 r.s.length j1, .slice C2 r.b.length j2, .slice C3 r.c.length j3, .int .i64 r.h, .int .i64 r.n, .string r.o], .int .i64 t]) (by simp [results, Tryz.results135, go_sem, *]) rfl ⟨_, rfl, ?_, built_up hB (by simp; try omega) (agree_six T1)⟩
  repeat (first | with_reducible exact B1 | with_reducible refine Below.setCell ?_ (by simp) _)

set_option maxRecDepth 100000 in
set_option maxHeartbeats 2000000 in
theorem sMoves_7 (v : Value) (d : Dt) (a b c : Int) (w : World) (hv : DatC w v d) (hd : DtFine d) (hk : 2 ≤ d.s.length) :
    Calls Tryz.prog 135 #[v, .int .i64 7, .int .i64 a, .int .i64 b, .int .i64 c] w (ReadC w v d (dPut d 2 [c, b, c])) := by
  have HD := hv
  obtain ⟨A1, k1, A2, k2, A3, k3, rfl, _⟩ := datC_form hv
  have hs := fine_sl hd
  clear hv
  go_enter Tryz.func135, Tryz.ntmps135
  go_wp2_with fail
  refine (sPut_any _ d 2 _ [c, b, c] _ (datC_below HD (by exact (below_alloc (below_alloc (below_alloc (Below.refl _ _) _) _) _))) (by exact ints_lit2 _ _ _ [c, b, c] (by unfold maxLen; simp)) (by omega) hs (by simp)).mono ?_
  rintro e w1 ⟨u, rfl, hb, hB⟩
  have B1 : Below w.heap.size w w1 := below_step (below_alloc (below_alloc (below_alloc (Below.refl _ _) _) _) _) hb
  have T1 := whole_b hb (whole_alloc (whole_new1 w _ _ _) _)
  have hu := built_now hB (datC_below HD B1)
  have zn : w.heap.size ≤ w1.heap.size := B1.size
  clear hb
  generalize dPut d 2 [c, b, c] = r at *
  obtain ⟨r, t⟩ := r
  simp only at hB hu
  obtain ⟨C1, j1, C2, j2, C3, j3, rfl, _⟩ := datC_form hu
  have zt := whole_lt T1
  obtain ⟨r0, r1, r2, r3, r4, r5⟩ := six_cells T1
  have fr := whole_free T1
  go_wp2
  refine bodyPost_ret (v := .tuple #[.agg #[.slice C1 r.s.length j1, .slice C2 r.b.length j2, .slice C3 r.c.length j3, .int .i64 r.h, .int .i64 r.n, .string r.o], .int .i64 t]) (by simp [results, Tryz.results135, go_sem, *]) rfl ⟨_, rfl, ?_, built_up hB (by simp; try omega) (agree_six T1)⟩
  repeat (first | with_reducible exact B1 | with_reducible refine Below.setCell ?_ (by simp) _)

set_option maxRecDepth 100000 in
set_option maxHeartbeats 2000000 in
theorem sMoves_9 (v : Value) (d : Dt) (a b c : Int) (w : World) (hv : DatC w v d) (hd : DtFine d) (hk : 2 ≤ d.s.length) :
    Calls Tryz.prog 135 #[v, .int .i64 9, .int .i64 a, .int .i64 b, .int .i64 c] w (ReadC w v d (dPut d 2 [b, c, b, c])) := by
  have HD := hv
  obtain ⟨A1, k1, A2, k2, A3, k3, rfl, _⟩ := datC_form hv
  have hs := fine_sl hd
  clear hv
  go_enter Tryz.func135, Tryz.ntmps135
  go_wp2_with fail
  refine (sPut_any _ d 2 _ [b, c, b, c] _ (datC_below HD (by exact (below_alloc (below_alloc (below_alloc (Below.refl _ _) _) _) _))) (by exact ints_lit2 _ _ _ [b, c, b, c] (by unfold maxLen; simp)) (by omega) hs (by simp)).mono ?_
  rintro e w1 ⟨u, rfl, hb, hB⟩
  have B1 : Below w.heap.size w w1 := below_step (below_alloc (below_alloc (below_alloc (Below.refl _ _) _) _) _) hb
  have T1 := whole_b hb (whole_alloc (whole_new1 w _ _ _) _)
  have hu := built_now hB (datC_below HD B1)
  have zn : w.heap.size ≤ w1.heap.size := B1.size
  clear hb
  generalize dPut d 2 [b, c, b, c] = r at *
  obtain ⟨r, t⟩ := r
  simp only at hB hu
  obtain ⟨C1, j1, C2, j2, C3, j3, rfl, _⟩ := datC_form hu
  have zt := whole_lt T1
  obtain ⟨r0, r1, r2, r3, r4, r5⟩ := six_cells T1
  have fr := whole_free T1
  go_wp2
  refine bodyPost_ret (v := .tuple #[.agg #[.slice C1 r.s.length j1, .slice C2 r.b.length j2, .slice C3 r.c.length j3, .int .i64 r.h, .int .i64 r.n, .string r.o], .int .i64 t]) (by simp [results, Tryz.results135, go_sem, *]) rfl ⟨_, rfl, ?_, built_up hB (by simp; try omega) (agree_six T1)⟩
  repeat (first | with_reducible exact B1 | with_reducible refine Below.setCell ?_ (by simp) _)

set_option maxRecDepth 100000 in
set_option maxHeartbeats 2000000 in
theorem sMoves_10 (v : Value) (d : Dt) (a b c : Int) (w : World) (hv : DatC w v d) (hd : DtFine d) (hk : 2 ≤ d.s.length) :
    Calls Tryz.prog 135 #[v, .int .i64 10, .int .i64 a, .int .i64 b, .int .i64 c] w (ReadC w v d (dPut d 2 [])) := by
  have HD := hv
  obtain ⟨A1, k1, A2, k2, A3, k3, rfl, _⟩ := datC_form hv
  have hs := fine_sl hd
  clear hv
  go_enter Tryz.func135, Tryz.ntmps135
  go_wp2_with fail
  refine (sPut_any _ d 2 _ [] _ (datC_below HD (by exact (below_alloc (below_alloc (Below.refl _ _) _) _))) (by exact ints_nil _) (by omega) hs (by simp)).mono ?_
  rintro e w1 ⟨u, rfl, hb, hB⟩
  have B1 : Below w.heap.size w w1 := below_step (below_alloc (below_alloc (Below.refl _ _) _) _) hb
  have T1 := whole_b hb (whole_new1 w _ _ _)
  have hu := built_now hB (datC_below HD B1)
  have zn : w.heap.size ≤ w1.heap.size := B1.size
  clear hb
  generalize dPut d 2 [] = r at *
  obtain ⟨r, t⟩ := r
  simp only at hB hu
  obtain ⟨C1, j1, C2, j2, C3, j3, rfl, _⟩ := datC_form hu
  have zt := whole_lt T1
  obtain ⟨r0, r1, r2, r3, r4, r5⟩ := six_cells T1
  have fr := whole_free T1
  go_wp2
  refine bodyPost_ret (v := .tuple #[.agg #[.slice C1 r.s.length j1, .slice C2 r.b.length j2, .slice C3 r.c.length j3, .int .i64 r.h, .int .i64 r.n, .string r.o], .int .i64 t]) (by simp [results, Tryz.results135, go_sem, *]) rfl ⟨_, rfl, ?_, built_up hB (by simp; try omega) (agree_six T1)⟩
  repeat (first | with_reducible exact B1 | with_reducible refine Below.setCell ?_ (by simp) _)

set_option maxRecDepth 100000 in
set_option maxHeartbeats 2000000 in
theorem sMoves_8 (v : Value) (d : Dt) (a b c : Int) (w : World) (hv : DatC w v d) (hd : DtFine d) (hk : 1 ≤ d.s.length) (hc : ¬ c = 0) :
    Calls Tryz.prog 135 #[v, .int .i64 8, .int .i64 a, .int .i64 b, .int .i64 c] w (ReadC w v d (dPut d 1 [c, c])) := by
  have HD := hv
  obtain ⟨A1, k1, A2, k2, A3, k3, rfl, _⟩ := datC_form hv
  have hs := fine_sl hd
  have t1 : (c == 0) = false := by rw [beq_eq_false_iff_ne]; exact hc
  clear hc
  clear hv
  go_enter Tryz.func135, Tryz.ntmps135
  go_wp2_with fail
  refine (sPut_any _ d 1 _ [c, c] _ (datC_below HD (by exact (below_alloc (below_alloc (below_alloc (Below.refl _ _) _) _) _))) (by exact ints_lit2 _ _ _ [c, c] (by unfold maxLen; simp)) (by omega) hs (by simp)).mono ?_
  rintro e w1 ⟨u, rfl, hb, hB⟩
  have B1 : Below w.heap.size w w1 := below_step (below_alloc (below_alloc (below_alloc (Below.refl _ _) _) _) _) hb
  have T1 := whole_b hb (whole_alloc (whole_new1 w _ _ _) _)
  have hu := built_now hB (datC_below HD B1)
  have zn : w.heap.size ≤ w1.heap.size := B1.size
  clear hb
  generalize dPut d 1 [c, c] = r at *
  obtain ⟨r, t⟩ := r
  simp only at hB hu
  obtain ⟨C1, j1, C2, j2, C3, j3, rfl, _⟩ := datC_form hu
  have zt := whole_lt T1
  obtain ⟨r0, r1, r2, r3, r4, r5⟩ := six_cells T1
  have fr := whole_free T1
  go_wp2
  refine bodyPost_ret (v := .tuple #[.agg #[.slice C1 r.s.length j1, .slice C2 r.b.length j2, .slice C3 r.c.length j3, .int .i64 r.h, .int .i64 r.n, .string r.o], .int .i64 t]) (by simp [results, Tryz.results135, go_sem, *]) rfl ⟨_, rfl, ?_, built_up hB (by simp; try omega) (agree_six T1)⟩
  repeat (first | with_reducible exact B1 | with_reducible refine Below.setCell ?_ (by simp) _)

set_option maxRecDepth 100000 in
set_option maxHeartbeats 2000000 in
theorem sMoves_11 (v : Value) (d : Dt) (a b c : Int) (w : World) (hv : DatC w v d) (hd : DtFine d) :
    Calls Tryz.prog 135 #[v, .int .i64 11, .int .i64 a, .int .i64 b, .int .i64 c] w (ReadC w v d (dPut d 0 [(d.s.length : Int)])) := by
  have HD := hv
  obtain ⟨A1, k1, A2, k2, A3, k3, rfl, _⟩ := datC_form hv
  have hs := fine_sl hd
  clear hv
  go_enter Tryz.func135, Tryz.ntmps135
  go_wp2_with fail
  refine (sPut_any _ d 0 _ [(d.s.length : Int)] _ (datC_below HD (by exact (below_alloc (below_alloc (below_alloc (Below.refl _ _) _) _) _))) (by exact ints_lit2 _ _ _ [(d.s.length : Int)] (by unfold maxLen; simp)) (by omega) hs (by simp)).mono ?_
  rintro e w1 ⟨u, rfl, hb, hB⟩
  have B1 : Below w.heap.size w w1 := below_step (below_alloc (below_alloc (below_alloc (Below.refl _ _) _) _) _) hb
  have T1 := whole_b hb (whole_alloc (whole_new1 w _ _ _) _)
  have hu := built_now hB (datC_below HD B1)
  have zn : w.heap.size ≤ w1.heap.size := B1.size
  clear hb
  generalize dPut d 0 [(d.s.length : Int)] = r at *
  obtain ⟨r, t⟩ := r
  simp only at hB hu
  obtain ⟨C1, j1, C2, j2, C3, j3, rfl, _⟩ := datC_form hu
  have zt := whole_lt T1
  obtain ⟨r0, r1, r2, r3, r4, r5⟩ := six_cells T1
  have fr := whole_free T1
  go_wp2
  refine bodyPost_ret (v := .tuple #[.agg #[.slice C1 r.s.length j1, .slice C2 r.b.length j2, .slice C3 r.c.length j3, .int .i64 r.h, .int .i64 r.n, .string r.o], .int .i64 t]) (by simp [results, Tryz.results135, go_sem, *]) rfl ⟨_, rfl, ?_, built_up hB (by simp; try omega) (agree_six T1)⟩
  repeat (first | with_reducible exact B1 | with_reducible refine Below.setCell ?_ (by simp) _)

set_option maxRecDepth 100000 in
set_option maxHeartbeats 2000000 in
theorem sMoves_80 (v : Value) (d : Dt) (a b : Int) (w : World) (hv : DatC w v d) :
    Calls Tryz.prog 135 #[v, .int .i64 8, .int .i64 a, .int .i64 b, .int .i64 0] w (ReadC w v d (d, 0)) := by
  have HD := hv
  obtain ⟨A1, k1, A2, k2, A3, k3, rfl, _⟩ := datC_form hv
  clear hv
  go_enter Tryz.func135, Tryz.ntmps135
  go_wp2
  refine bodyPost_ret (v := .tuple #[.agg #[.slice A1 d.s.length k1, .slice A2 d.b.length k2, .slice A3 d.c.length k3, .int .i64 d.h, .int .i64 d.n, .string d.o], .int .i64 0]) (by simp [results, Tryz.results135, go_sem]) rfl ⟨_, rfl, ?_, built_self _ _ _ _⟩
  repeat (first | with_reducible exact Below.refl _ _ | with_reducible refine below_alloc ?_ _)

end Go.Proofs.YthnbaeamekolmaaGreatDoor

namespace Go.Proofs.YthnbaeamekolmaaGreatDoor
open Go.RowKit
set_option linter.unusedVariables false
set_option linter.unusedSimpArgs false

set_option maxHeartbeats 400000 in
theorem sFlag_any (b : Bool) (w : World) :
    Calls Tryz.prog 196 #[.bool b] w fun e w' => e = .returned (.int .i64 (flagI b)) ∧ w = w' := by
  cases b
  all_goals
    go_enter Tryz.func196, Tryz.ntmps196
    go_wp2
    go_ret
    exact ⟨rfl, rfl⟩

end Go.Proofs.YthnbaeamekolmaaGreatDoor

namespace Go.Proofs.YthnbaeamekolmaaGreatDoor
open Go.RowKit
set_option linter.unusedVariables false
set_option linter.unusedSimpArgs false

theorem caps_third {A1 A2 : Option Addr} {n k m l : Nat} {z a b c : Value} (h : Caps (.agg #[.slice A1 n k, .slice A2 m l, z, a, b, c])) (z' a' b' c' : Value) : Caps (.agg #[.slice A1 n k, .slice A2 m l, z', a', b', c']) := by
  obtain ⟨A, n', k', B, m', l', z1, a1, b1, c1, he, q1, q2, q3, q4⟩ := h
  simp only [Value.agg.injEq, Array.mk.injEq, List.cons.injEq, Value.slice.injEq, and_true, true_and] at he
  obtain ⟨⟨rfl, rfl, rfl⟩, ⟨rfl, rfl, rfl⟩, rfl, rfl, rfl, rfl⟩ := he
  exact ⟨_, _, _, _, _, _, _, _, _, _, rfl, q1, q2, q3, q4⟩

set_option maxRecDepth 100000 in
set_option maxHeartbeats 2000000 in
theorem sStore_bld (v : Value) (d : Dt) (x n : Int) (k : Nat) (w : World) (hv : DatC w v d) (hd : DtFine d) (hk : dPlace d x = some k) :
    Calls Tryz.prog 199 #[v, .int .i64 x, .int .i64 n] w (ReadC w v d ({ d with c := d.c.set k n }, 0)) := by
  have HD := hv.1
  replace hv := hv.1
  obtain ⟨A1, k1, A2, k2, A3, k3, rfl⟩ := datIn_form hv
  clear hv
  have HK := Lib.hid hk
  obtain ⟨hk1, hk2⟩ := place_lt hk hd
  have hc32 := fine_cl hd
  have HC := Lib.hid hc32
  have hcl : d.c.length ≤ 32 := by omega
  have hcp : 32 ≤ d.c.length := by omega
  clear hk hc32
  go_enter Tryz.func199, Tryz.ntmps199
  go_wp2_with fail
  refine (sAt_some _ d x k _ (datIn_below HD (below_alloc (below_alloc (Below.refl _ _) _) _)) hd HK.out).mono ?_
  rintro e w1 ⟨rfl, hb⟩
  have B1 : Below w.heap.size w w1 := below_step (below_alloc (below_alloc (Below.refl _ _) _) _) hb
  have V1 := whole_b hb (whole_alloc (whole_new w _ _) _)
  have T1 := whole_b hb (whole_new1 w _ _ _)
  have z1 := whole_lt T1
  have z0 := whole_lt V1
  clear hb
  obtain ⟨c0, c1, c2, c3, c4, c5⟩ := six_cells V1
  go_wp2_with (first
    | (at_builtin; refine wpList_append_new rfl (.tmp 15) (.tmp 17) rfl rfl _ rfl (by simp) (.slice A3 d.c.length k3) d.c rfl (ints_below (datIn_third HD) B1) (by omega) ?_
       clear c0 c1 c2 c3 c4 c5
       intro G m2 w2 hr hb
       have B2 := below_step B1 hb
       have V2 := whole_b hb V1
       have T2 := whole_b hb T1
       obtain ⟨g, m2', hG, hg1, hg2, _⟩ := row_form hr (by omega)
       simp only [Value.slice.injEq, true_and] at hG
       obtain ⟨rfl, rfl⟩ := hG
       have ne0 : g ≠ w.heap.size := by omega
       have ne1 : g ≠ w.heap.size + 1 := by omega
       have ne2 : w.heap.size ≠ g := by omega
       have ne3 : w.heap.size + 1 ≠ g := by omega
       have ko := row_cell hr k hk2
       have kf := row_free hr k
       have SR := (row_set hr k n).1
       obtain ⟨c0, c1, c2, c3, c4, c5⟩ := six_cells V2
       obtain ⟨r0, r1, r2, r3, r4, r5⟩ := six_cells T2
       have f2 := whole_free V2 2
       have fr := whole_free T2
       clear hb))
  refine bodyPost_ret (v := .tuple #[.agg #[.slice A1 d.s.length k1, .slice A2 d.b.length k2, .slice (some ⟨g, 0, none⟩) d.c.length m2, .int .i64 d.h, .int .i64 d.n, .string d.o], .int .i64 0]) (by simp [results, Tryz.results199, go_sem, *]) rfl ⟨_, rfl, ?_, ?_⟩
  · repeat (first | with_reducible exact B2 | with_reducible refine Below.setCell ?_ (by simp; try omega) _)
  · intro W' hW hA
    have hlen : (d.c.set k n).length = d.c.length := List.length_set ..
    refine ⟨datIn_cells (n := 0) (k3 := k3) (A3 := A3) hW.1 (row_ints (row_agree (n := w.heap.size) (base := w.heap.size + 1 + 1) ?_ (by omega) hA)), caps_third hW.2 _ _ _ _⟩
    have SR' := (row_set (row_store (g := w.heap.size) (i := 2) (u := .slice (some ⟨g, 0, none⟩) d.c.length m2) (row_base hr (base' := w.heap.size + 1 + 1) (by omega)) (by omega)) k n).1
    repeat (first | with_reducible exact SR' | ((with_reducible refine row_store ?_ ?hh); case hh => omega))

set_option maxRecDepth 100000 in
set_option maxHeartbeats 4000000 in
theorem sAllot_bld (v : Value) (d : Dt) (n : Int) (w : World) (hv : DatC w v d) (hd : DtFine d) (hn : cellB n = true) (hg : goodMove d n) :
    Calls Tryz.prog 200 #[v, .int .i64 n] w (ReadC w v d ({ d with c := zeroN d.c d.h.toNat (n.tdiv 4).toNat, h := d.h + n.tdiv 4 }, 0)) := by
  have q0 := fine_h0 hd
  have q1 := fine_h1 hd
  have hc32 := fine_cl hd
  obtain ⟨n0, n1⟩ := cellB_true.1 hn
  obtain ⟨h1, h2, h3⟩ := hg
  obtain ⟨s, b, c, h, bn, o⟩ := d
  simp only at *
  obtain ⟨a, rfl⟩ : ∃ a : Nat, h = a := ⟨h.toNat, by omega⟩
  have HD := hv.1
  replace hv := hv.1
  obtain ⟨A1, k1, A2, k2, A3, k3, rfl⟩ := datIn_form hv
  have t1 : (n.tmod 4 != 0) = false := by rw [h1]; rfl
  have t2 : inB ((a : Int) + n.tdiv 4) 0 32 = true := inB_of h2 h3
  have hcl : c.length ≤ 32 := by omega
  have hcp : 32 ≤ c.length := by omega
  have HC := Lib.hid hc32
  have b0 : -32 ≤ n.tdiv 4 := by omega
  have b1 : n.tdiv 4 ≤ 32 := by omega
  have TA : Hid ((a : Int).toNat = a) := Lib.hid (by omega)
  obtain ⟨j1, hj1⟩ : ∃ j1 : Nat, j1 = (n.tdiv 4).toNat := ⟨_, rfl⟩
  have J1 := Lib.hid hj1
  have J2 : a + j1 ≤ 32 := by omega
  have JJ : Hid (∀ j : Nat, j ≤ j1 → (((a : Int) + j) < a + n.tdiv 4 ↔ j < j1)) := Lib.hid fun j hj => by omega
  clear hv hn h1 hc32 hd hj1
  have I3 : Ints w (.slice A3 c.length k3) c := by have h := datIn_third HD; exact h
  go_enter Tryz.func200, Tryz.ntmps200
  go_wp2_with (first
    | (go_at_call 64; refine (sIn_any _ _ _ _).mono ?_; rintro e w' ⟨rfl, rfl⟩)
    | (at_builtin; refine wpList_append_new rfl (.tmp 20) (.tmp 22) rfl rfl _ rfl (by simp) (.slice A3 c.length k3) c rfl (ints_below I3 (below_alloc (below_alloc (Below.refl _ _) _) _)) (by omega) ?_
       intro G m2 w2 hr hb
       have B2 : Below w.heap.size w w2 := below_step (below_alloc (below_alloc (Below.refl _ _) _) _) hb
       have V2 := whole_b hb (whole_alloc (whole_new w _ _) _)
       have T2 := whole_b hb (whole_new1 w _ _ _)
       have R2 : Row w2 (w.heap.size + 1 + 1) (.slice G c.length m2) c := by simpa using hr
       obtain ⟨g, m2', hG, hg1, hg2, _⟩ := row_form R2 (by omega)
       simp only [Value.slice.injEq, true_and] at hG
       obtain ⟨rfl, rfl⟩ := hG
       obtain ⟨c0, c1, c2, c3, c4, c5⟩ := six_cells V2
       have f2 := whole_free V2 2
       clear hb hr))
  clear c0 c1 c2 c4 c5
  have V3 := whole_set V2 2 (.slice (some ⟨g, 0, none⟩) c.length m2)
  have T3 := whole_far T2 (p := ⟨w.heap.size, 2, none⟩) (by simp) (.slice (some ⟨g, 0, none⟩) c.length m2)
  have R3 := row_store (g := w.heap.size) (i := 2) (u := .slice (some ⟨g, 0, none⟩) c.length m2) R2 (by omega)
  have B3 := B2.setCell (p := ⟨w.heap.size, 2, none⟩) (Nat.le_refl _) (.slice (some ⟨g, 0, none⟩) c.length m2)
  have ne0 : g ≠ w.heap.size := by omega
  have ne1 : g ≠ w.heap.size + 1 := by omega
  have ne2 : w.heap.size ≠ g := by omega
  have ne3 : w.heap.size + 1 ≠ g := by omega
  have V3' : Whole (w2.setCell ⟨w.heap.size, 2, none⟩ (.slice (some ⟨g, 0, none⟩) c.length m2)) w.heap.size 40 #[.slice A1 s.length k1, .slice A2 b.length k2, .slice (some ⟨g, 0, none⟩) c.length m2, .int .i64 a, .int .i64 bn, .string o] := V3
  clear V2 T2 R2 B2 V3 hg2 c3 f2 t1 t2
  generalize w2.setCell ⟨w.heap.size, 2, none⟩ (.slice (some ⟨g, 0, none⟩) c.length m2) = w3 at *
  go_loopw [6] (fun i wr => ∃ j : Nat, j ≤ j1 ∧ i = .int .i64 ((a : Int) + j) ∧ Whole wr w.heap.size 40 #[.slice A1 s.length k1, .slice A2 b.length k2, .slice (some ⟨g, 0, none⟩) c.length m2, .int .i64 a, .int .i64 bn, .string o] ∧
      Whole wr (w.heap.size + 1) 40 #[.slice none 0 0, .slice none 0 0, .slice none 0 0, .int .i64 0, .int .i64 0, .string ByteArray.empty] ∧ Row wr (w.heap.size + 1 + 1) (.slice (some ⟨g, 0, none⟩) c.length m2) (zeroN c a j) ∧ Below w.heap.size w wr)
    (fun i _ => 64 - (intOf i).toNat)
  case atStart => exact ⟨0, Nat.zero_le _, by simp, V3', T3, by rw [zeroN_none]; exact R3, B3⟩
  case round =>
    obtain ⟨j, hj, rfl, V4, T4, R4, B4⟩ := hrel
    clear V3' T3 R3 B3
    by_cases hlt : j < j1
    · have lt : (a : Int) + j < a + n.tdiv 4 := (JJ.out j hj).2 hlt
      have hidx : a + j < c.length := by omega
      have zl := zeroN_len (c := c) (a := a) (k := j) (by omega)
      have R4' := R4
      rw [← zl] at R4'
      have ko := row_cell R4' (a + j) (by omega)
      have kf := row_free R4' (a + j)
      have ST := (row_set R4' (a + j) 0).1
      rw [zeroN_next hidx, zl] at ST
      have V5 := whole_far V4 (p := ⟨g, a + j, none⟩) (by exact ne2) (.int .i64 0)
      have T5 := whole_far T4 (p := ⟨g, a + j, none⟩) (by exact ne3) (.int .i64 0)
      have B5 := B4.setCell (p := ⟨g, a + j, none⟩) (show w.heap.size ≤ g by omega) (.int .i64 0)
      obtain ⟨c0, c1, c2, c3, c4, c5⟩ := six_cells V4
      clear c0 c1 c4 c5 R4'
      generalize (zeroN c a j)[a + j]'_ = old at *
      clear zl
      go_wp2
      go_roundw
      case rel => exact ⟨j + 1, by omega, by go_num, V5, T5, ST, B5⟩
      case measure => simp [intOf]; omega
    · have ej : j = j1 := by omega
      have nlt : ¬ ((a : Int) + j < a + n.tdiv 4) := fun h => hlt ((JJ.out j hj).1 h)
      obtain ⟨c0, c1, c2, c3, c4, c5⟩ := six_cells V4
      obtain ⟨r0, r1, r2, r3, r4, r5⟩ := six_cells T4
      have fv := whole_free V4 3
      have fr := whole_free T4
      have ZL := Lib.hid (zeroN_len (c := c) (a := a) (k := j1) (by omega))
      have JE := Lib.hid ej
      clear ej hj hlt
      go_wp2
      refine bodyPost_ret (v := .tuple #[.agg #[.slice A1 s.length k1, .slice A2 b.length k2, .slice (some ⟨g, 0, none⟩) c.length m2, .int .i64 ((a : Int) + n.tdiv 4), .int .i64 bn, .string o], .int .i64 0]) (by simp [results, Tryz.results200, go_sem, *]) rfl ⟨_, rfl, ?_, ?_⟩
      · repeat (first | with_reducible exact B4 | with_reducible refine Below.setCell ?_ (by simp) _)
      · intro W' hW hA
        rw [← J1.out]
        refine ⟨datIn_cells (d := ⟨s, b, c, a, bn, o⟩) (n := 0) (k3 := k3) (A3 := A3) hW.1 (row_ints (row_agree (n := w.heap.size) (base := w.heap.size + 1 + 1) ?_ (by omega) hA)), caps_third hW.2 _ _ _ _⟩
        have R5 : Row wr (w.heap.size + 1 + 1) (.slice (some ⟨g, 0, none⟩) c.length m2) (zeroN c a j1) := by rw [← JE.out]; exact R4
        repeat (first | with_reducible exact R5 | ((with_reducible refine row_store ?_ ?hh); case hh => omega))

set_option maxRecDepth 100000 in
set_option maxHeartbeats 2000000 in
theorem sSay_bld (v : Value) (d : Dt) (s : ByteArray) (w : World) (hv : DatC w v d) (hd : SmallD d) (hs : s.size ≤ 65536) (hf : d.o.size + s.size ≤ 300) :
    Calls Tryz.prog 202 #[v, .string s] w (ReadC w v d ({ d with o := d.o ++ s }, 0)) := by
  have HD := hv.1
  replace hv := hv.1
  obtain ⟨A1, k1, A2, k2, A3, k3, rfl⟩ := datIn_form hv
  have hl := hd.2.2.2
  have SZ : Hid ((d.o ++ s).size ≤ maxLen) := Lib.hid (by rw [ByteArray.size_append]; unfold maxLen; omega)
  clear hv hd
  go_enter Tryz.func202, Tryz.ntmps202
  go_wp2
  refine bodyPost_ret (v := .tuple #[.agg #[.slice A1 d.s.length k1, .slice A2 d.b.length k2, .slice A3 d.c.length k3, .int .i64 d.h, .int .i64 d.n, .string (d.o ++ s)], .int .i64 0]) (by simp [results, Tryz.results202, go_sem]) rfl ⟨_, rfl, ?_, fun W' hW hA => ⟨datIn_out (k1 := k1) hW.1 SZ.out, caps_third hW.2 _ _ _ _⟩⟩
  · repeat (first | with_reducible exact Below.refl _ _ | with_reducible refine below_alloc ?_ _)

set_option maxRecDepth 100000 in
set_option maxHeartbeats 2000000 in
theorem sSay_stay (v : Value) (d : Dt) (s : ByteArray) (w : World) (hv : DatC w v d) (hd : SmallD d) (hs : s.size ≤ 65536) (hf : 300 < d.o.size + s.size) :
    Calls Tryz.prog 202 #[v, .string s] w (ReadC w v d (d, -17)) := by
  have HD := hv.1
  replace hv := hv.1
  obtain ⟨A1, k1, A2, k2, A3, k3, rfl⟩ := datIn_form hv
  have hl := hd.2.2.2
  clear hv hd
  go_enter Tryz.func202, Tryz.ntmps202
  go_wp2
  refine bodyPost_ret (v := .tuple #[.agg #[.slice A1 d.s.length k1, .slice A2 d.b.length k2, .slice A3 d.c.length k3, .int .i64 d.h, .int .i64 d.n, .string d.o], .int .i64 (-17)]) (by simp [results, Tryz.results202, go_sem]) rfl ⟨_, rfl, ?_, built_self _ _ _ _⟩
  · repeat (first | with_reducible exact Below.refl _ _ | with_reducible refine below_alloc ?_ _)

set_option maxRecDepth 100000 in
set_option maxHeartbeats 2000000 in
theorem sAllot_stay (v : Value) (d : Dt) (n : Int) (w : World) (hv : DatC w v d) (hd : DtFine d) (hn : cellB n = true) (hg : ¬ goodMove d n) :
    Calls Tryz.prog 200 #[v, .int .i64 n] w (ReadC w v d (d, -8)) := by
  have HD := hv.1
  replace hv := hv.1
  obtain ⟨A1, k1, A2, k2, A3, k3, rfl⟩ := datIn_form hv
  have q0 := fine_h0 hd
  have q1 := fine_h1 hd
  obtain ⟨n0, n1⟩ := cellB_true.1 hn
  have e : w.heap.size ≤ w.heap.size := Nat.le_refl _
  rcases good_false hg with h | ⟨h, h'⟩
  · have t1 : (n.tmod 4 != 0) = true := by rw [bne_iff_ne]; exact h
    clear hv hn hg hd h
    go_enter Tryz.func200, Tryz.ntmps200
    go_wp2_with (go_at_call 64; refine (sIn_any _ _ _ _).mono ?_; rintro e w' ⟨rfl, rfl⟩)
    refine bodyPost_ret (v := .tuple #[.agg #[.slice A1 d.s.length k1, .slice A2 d.b.length k2, .slice A3 d.c.length k3, .int .i64 d.h, .int .i64 d.n, .string d.o], .int .i64 (-8)]) (by simp [results, Tryz.results200, go_sem]) rfl ⟨_, rfl, ?_, built_self _ _ _ _⟩
    · repeat (first | with_reducible exact Below.refl _ _ | with_reducible refine below_alloc ?_ _)
  · have t1 : (n.tmod 4 != 0) = false := by rw [h]; rfl
    have b0 : -536870912 ≤ n.tdiv 4 ∧ n.tdiv 4 ≤ 536870912 := by
      have h2 := tdm n 4
      omega
    obtain ⟨b0, b1⟩ := b0
    clear hv hn hg hd h
    go_enter Tryz.func200, Tryz.ntmps200
    go_wp2_with (go_at_call 64; refine (sIn_any _ _ _ _).mono ?_; rintro e w' ⟨rfl, rfl⟩)
    refine bodyPost_ret (v := .tuple #[.agg #[.slice A1 d.s.length k1, .slice A2 d.b.length k2, .slice A3 d.c.length k3, .int .i64 d.h, .int .i64 d.n, .string d.o], .int .i64 (-8)]) (by simp [results, Tryz.results200, go_sem]) rfl ⟨_, rfl, ?_, built_self _ _ _ _⟩
    · repeat (first | with_reducible exact Below.refl _ _ | with_reducible refine below_alloc ?_ _)

end Go.Proofs.YthnbaeamekolmaaGreatDoor
