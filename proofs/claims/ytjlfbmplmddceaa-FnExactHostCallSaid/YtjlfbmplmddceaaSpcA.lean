/- spec's primitives: cells laid over others. -/
import Derived.Test.YtjlfbmplmddceaaDatT
import Derived.Test.YtjlfbmplmddceaaPrmB
namespace Go.Proofs.Ytjlfbmplmddceaa
open Go.RowKit
set_option linter.unusedVariables false
set_option linter.unusedSimpArgs false

/-- The stacks' slices are no longer than their capacities. -/
def Caps (v : Value) : Prop := ∃ A n k B m l z a b c, v = .agg #[.slice A n k, .slice B m l, z, a, b, c] ∧ n ≤ k ∧ k ≤ maxLen ∧ m ≤ l ∧ l ≤ maxLen

theorem datOf_caps {w : World} {lo hi : Nat} {v : Value} {d : Dt} (h : DatOf w lo hi v d) : Caps v := by
  obtain ⟨x, y, z, rfl, h1, h2, _⟩ := h
  obtain ⟨_, A, k, rfl, _⟩ := row_ints h1
  obtain ⟨_, B, l, rfl, _⟩ := row_ints h2
  exact ⟨_, _, _, _, _, _, _, _, _, _, rfl, (row_cap h1).1, (row_cap h1).2, (row_cap h2).1, (row_cap h2).2⟩

/-- Data that reads, its slices within their capacities. -/
def DatC (w : World) (v : Value) (d : Dt) : Prop := DatIn w v d ∧ Caps v

theorem datC_below {w w' : World} {v : Value} {d : Dt} (h : DatC w v d) (hb : Below w.heap.size w w') : DatC w' v d := ⟨datIn_below h.1 hb, h.2⟩

/-- Every row of numbers from block n on reads in the later world as it did. -/
def Agree (n : Nat) (a b : World) : Prop := ∀ k cs fr, n ≤ k → a.heap[k]? = some (.cells cs 3 fr) → b.heap[k]? = a.heap[k]?

theorem agree_refl (n : Nat) (a : World) : Agree n a a := fun _ _ _ _ _ => rfl

theorem agree_trans {n : Nat} {a b c : World} (h : Agree n a b) (k : Agree n b c) : Agree n a c := fun i cs fr hi ha => (k i cs fr hi ((h i cs fr hi ha).trans ha)).trans (h i cs fr hi ha)

theorem agree_mono {n m : Nat} {a b : World} (h : Agree n a b) (hm : n ≤ m) : Agree m a b := fun i cs fr hi => h i cs fr (Nat.le_trans hm hi)

theorem agree_below {n : Nat} {a b : World} (h : Below a.heap.size a b) : Agree n a b := fun i cs fr _ ha => h.block i (by
  rcases Nat.lt_or_ge i a.heap.size with hl | hl
  · exact hl
  · rw [Array.getElem?_eq_none hl] at ha; cases ha)

theorem agree_set {n R i : Nat} {a b : World} {t : TypeId} {cs : Array Value} (h : Agree n a b) (hw : Whole b R t cs) (ht : t ≠ 3) (u : Value) : Agree n a (b.setCell ⟨R, i, none⟩ u) := fun k c fr hk ha => by
  refine (Below.heap_setCell b _ u k ?_).trans (h k c fr hk ha)
  show k ≠ R
  rintro rfl
  have h1 := (h k c fr hk ha).trans ha
  unfold Whole at hw
  rw [hw] at h1
  injection h1 with h1
  injection h1 with _ h2
  exact ht h2

/-- The value is made of the slices of another and of rows from block n on: it reads wherever the other reads and those rows agree. -/
def Built (n : Nat) (w' : World) (v : Value) (d : Dt) (u : Value) (r : Dt) : Prop := ∀ W', DatC W' v d → Agree n w' W' → DatC W' u r

theorem built_up {n N : Nat} {a b : World} {v u : Value} {d r : Dt} (h : Built N a v d u r) (hn : n ≤ N) (hA : Agree n a b) : Built n b v d u r := fun W' hv ha => h W' hv (agree_mono (agree_trans hA ha) hn)

theorem built_comp {n N M : Nat} {a b : World} {v x u : Value} {d r q : Dt} (h : Built N a v d x r) (k : Built M b x r u q) (hn : n ≤ N) (hm : n ≤ M) (hA : Agree n a b) : Built n b v d u q := fun W' hv ha =>
  k W' (h W' hv (agree_mono (agree_trans hA ha) hn)) (agree_mono ha hm)

theorem built_now {n : Nat} {w' : World} {v u : Value} {d r : Dt} (h : Built n w' v d u r) (hv : DatC w' v d) : DatC w' u r := h w' hv (agree_refl _ _)

theorem built_self (n : Nat) (w' : World) (v : Value) (d : Dt) : Built n w' v d v d := fun _ h _ => h

/-- Data that reads, and a throw. -/
def ReadC (w : World) (v : Value) (d : Dt) (r : Dt × Int) (e : Ending) (w' : World) : Prop := ∃ u, e = .returned (.tuple #[u, .int .i64 r.2]) ∧ Below w.heap.size w w' ∧ Built w.heap.size w' v d u r.1

theorem row_agree {n base : Nat} {a b : World} {v : Value} {zs : List Int} (h : Row a base v zs) (hb : n ≤ base) (hA : Agree n a b) : Row b base v zs := by
  refine row_keep h fun g hg => ?_
  rcases h.2 with ⟨rfl, _⟩ | ⟨g', cap, cur, rfl, hb', hh, _⟩
  · simp [Value.ownBlock] at hg
  · have e : g' = g := by simpa [Value.ownBlock] using hg
    subst e
    exact hA g' _ _ (Nat.le_trans hb hb') hh

theorem datC_form {w : World} {v : Value} {d : Dt} (h : DatC w v d) : ∃ A1 k1 A2 k2 A3 k3, v = .agg #[.slice A1 d.s.length k1, .slice A2 d.b.length k2, .slice A3 d.c.length k3, .int .i64 d.h, .int .i64 d.n, .string d.o] ∧ d.s.length ≤ k1 ∧ k1 ≤ maxLen ∧ d.b.length ≤ k2 ∧ k2 ≤ maxLen := by
  obtain ⟨h1, h2⟩ := h
  obtain ⟨A1, k1, A2, k2, A3, k3, rfl⟩ := datIn_form h1
  obtain ⟨A, n, k, B, m, l, z, a, b, c, he, q1, q2, q3, q4⟩ := h2
  simp only [Value.agg.injEq, Array.mk.injEq, List.cons.injEq, Value.slice.injEq, and_true, true_and] at he
  obtain ⟨⟨rfl, rfl, rfl⟩, ⟨rfl, rfl, rfl⟩, rfl, rfl, rfl, rfl⟩ := he
  exact ⟨_, _, _, _, _, _, rfl, q1, q2, q3, q4⟩

theorem caps_stack {A1 A2 A3 C : Option Addr} {n k m l j x i : Nat} {a b c : Value} (h : Caps (.agg #[.slice A1 n k, .slice A2 m l, .slice A3 j x, a, b, c])) {q : Nat} (hq : q ≤ i) (hi : i ≤ maxLen) : Caps (.agg #[.slice C q i, .slice A2 m l, .slice A3 j x, a, b, c]) := by
  obtain ⟨A, n', k', B, m', l', z, a', b', c', he, q1, q2, q3, q4⟩ := h
  simp only [Value.agg.injEq, Array.mk.injEq, List.cons.injEq, Value.slice.injEq, and_true, true_and] at he
  obtain ⟨⟨rfl, rfl, rfl⟩, ⟨rfl, rfl, rfl⟩, rfl, rfl, rfl, rfl⟩ := he
  exact ⟨_, _, _, _, _, _, _, _, _, _, rfl, hq, hi, q3, q4⟩

set_option maxRecDepth 100000 in
set_option maxHeartbeats 2000000 in
theorem sPut_over (v : Value) (d : Dt) (k : Nat) (lv : Value) (L : List Int) (w : World) (hv : DatC w v d) (hi : Ints w lv L) (hk : k ≤ d.s.length) (hs : d.s.length ≤ 32) (hL : L.length ≤ 4) (ho : 32 < d.s.length - k + L.length) :
    Calls Try.prog 90 #[v, .int .i64 k, lv] w (ReadC w v d (d, -3)) := by
  have HD := hv
  obtain ⟨A1, k1, A2, k2, A3, k3, rfl, _⟩ := datC_form hv
  obtain ⟨_, LA, lc, rfl, _⟩ := id hi
  obtain ⟨m, hm⟩ : ∃ m, d.s.length = m + k := ⟨d.s.length - k, by omega⟩
  have s1 : IntKind.i64.wrap ((d.s.length : Int) - k) = (m : Int) := by rw [show (d.s.length : Int) - k = m by omega]; exact IntWalk.i64_in _ (by omega)
  have s2 : IntKind.i64.wrap ((m : Int) + L.length) = (m : Int) + L.length := IntWalk.i64_in _ (by omega)
  have s3 : (32 : Int) < (m : Int) + L.length := by omega
  clear hv hi hm
  go_enter Try.func90, Try.ntmps90
  go_wp2
  refine bodyPost_ret (v := .tuple #[.agg #[.slice A1 d.s.length k1, .slice A2 d.b.length k2, .slice A3 d.c.length k3, .int .i64 d.h, .int .i64 d.n, .string d.o], .int .i64 (-3)]) (by simp [results, Try.results90, go_sem]) rfl ⟨_, rfl, ?_, built_self _ _ _ _⟩
  · repeat (first | with_reducible exact Below.refl _ _ | with_reducible refine below_alloc ?_ _)

set_option maxRecDepth 100000 in
set_option maxHeartbeats 4000000 in
theorem sPut_fine (v : Value) (d : Dt) (k : Nat) (lv : Value) (L : List Int) (w : World) (hv : DatC w v d) (hi : Ints w lv L) (hk : k ≤ d.s.length) (hs : d.s.length ≤ 32) (hL : L.length ≤ 4) (ho : d.s.length - k + L.length ≤ 32) :
    Calls Try.prog 90 #[v, .int .i64 k, lv] w (ReadC w v d ({ d with s := d.s.take (d.s.length - k) ++ L }, 0)) := by
  have HD := hv
  obtain ⟨A1, k1, A2, k2, A3, k3, rfl, q1, q2, _⟩ := datC_form hv
  obtain ⟨_, LA, lc, rfl, _⟩ := id hi
  obtain ⟨m, hm⟩ : ∃ m, d.s.length = m + k := ⟨d.s.length - k, by omega⟩
  have s1 : IntKind.i64.wrap ((d.s.length : Int) - k) = (m : Int) := by rw [show (d.s.length : Int) - k = m by omega]; exact IntWalk.i64_in _ (by omega)
  have s2 : IntKind.i64.wrap ((m : Int) + L.length) = (m : Int) + L.length := IntWalk.i64_in _ (by omega)
  have s3 : ¬ ((32 : Int) < (m : Int) + L.length) := by omega
  have mk : m ≤ k1 := by omega
  have MK := Lib.hid (show d.s.length - k = m by omega)
  have TL := Lib.hid (show (d.s.take m).length = m by rw [List.length_take]; omega)
  have TK : Hid (Ints w (.slice A1 m k1) (d.s.take m)) := Lib.hid (ints_take (datIn_first HD.1) (by omega))
  have HI := Lib.hid hi
  have LL : Hid (m + L.length ≤ 1000) := Lib.hid (by omega)
  rw [MK.out]
  unfold maxLen at q2
  have tl := TL.out
  have LN := Lib.hid (show (d.s.take m ++ L).length = m + L.length by rw [List.length_append, TL.out])
  clear hv hi hm ho
  go_enter Try.func90, Try.ntmps90
  go_wp2_with (first
    | (at_builtin; refine wpList_append_new rfl (.tmp 20) (.tmp 24) rfl rfl _ rfl (by simp) (.slice A1 m k1) (d.s.take m) rfl (ints_below TK.out (below_alloc (below_alloc (Below.refl _ _) _) _)) (by rw [TL.out]; have := LL.out; omega) ?_
       intro B1 m1 w1 hr hb
       have B1' : Below w.heap.size w w1 := below_step (below_alloc (below_alloc (Below.refl _ _) _) _) hb
       have V1 := whole_b hb (whole_alloc (whole_new w _ _) _)
       have T1 := whole_b hb (whole_new1 w _ _ _)
       have R1 : Row w1 (w.heap.size + 1 + 1) (.slice B1 m m1) (d.s.take m) := by
         have h := hr
         rw [tl] at h
         simpa using h
       clear hr hb)
    | (at_builtin; refine wpList_append_ints rfl (.tmp 25) (.tmp 26) rfl rfl (w.heap.size + 1 + 1) (.slice B1 m m1) (d.s.take m) R1 (.slice LA L.length lc) L (ints_below HI.out B1') rfl rfl (by rw [TL.out]; have := LL.out; omega) (by have := whole_lt T1; omega) ?_
       intro v2 w2 hr hg hat
       have hbk : Below (w.heap.size + 1 + 1) w1 w2 := (Below.refl _ _).grown hg (by have := whole_lt T1; omega) (fun k hk => (row_lt R1 k hk).1)
       have B2' : Below w.heap.size w w2 := B1'.trans (hbk.mono (by omega))
       have V2 := whole_keep V1 (hbk.block _ (by omega))
       have T2 := whole_keep T1 (hbk.block _ (by omega))
       obtain ⟨_, C1, j1, rfl, _⟩ := row_ints hr
       rw [LN.out] at hr
       obtain ⟨c0, c1, c2, c3, c4, c5⟩ := six_cells V2
       obtain ⟨r0, r1, r2, r3, r4, r5⟩ := six_cells T2
       have f0 := whole_free V2 0
       have fr := whole_free T2
       have RC := Lib.hid (row_cap hr)
       clear hg hat))
  refine bodyPost_ret (v := .tuple #[.agg #[.slice C1 (m + L.length) j1, .slice A2 d.b.length k2, .slice A3 d.c.length k3, .int .i64 d.h, .int .i64 d.n, .string d.o], .int .i64 0]) (by simp [results, Try.results90, go_sem, *]) rfl ⟨_, rfl, ?_, ?_⟩
  · repeat (first | with_reducible exact B2' | with_reducible refine Below.setCell ?_ (by simp) _)
  · intro W' hW hA
    refine ⟨datIn_stack (n := 0) (k1 := k1) (A1 := A1) hW.1 ?_, caps_stack hW.2 (by have := RC.out.1; omega) RC.out.2⟩
    have hf : Row _ (w.heap.size + 1 + 1) (.slice C1 (m + L.length) j1) (d.s.take m ++ L) := row_agree (n := w.heap.size) ?_ (by omega) hA
    · have h2 := row_ints hf
      rw [← LN.out] at h2 ⊢
      exact h2
    · rw [← LN.out]; rw [← LN.out] at hr
      repeat (first | with_reducible exact hr | ((with_reducible refine row_store ?_ ?hh); case hh => omega))

theorem sPut_any (v : Value) (d : Dt) (k : Nat) (lv : Value) (L : List Int) (w : World) (hv : DatC w v d) (hi : Ints w lv L) (hk : k ≤ d.s.length) (hs : d.s.length ≤ 32) (hL : L.length ≤ 4) :
    Calls Try.prog 90 #[v, .int .i64 k, lv] w (ReadC w v d (dPut d k L)) := by
  unfold dPut
  by_cases h : 32 < d.s.length - k + L.length
  · rw [if_pos h]; exact sPut_over v d k lv L w hv hi hk hs hL h
  · rw [if_neg h]; exact sPut_fine v d k lv L w hv hi hk hs hL (by omega)

end Go.Proofs.Ytjlfbmplmddceaa
