/- NewHost, the given side. -/
import Derived.Test.YthhaimolcgkpaaaHsG
namespace Go.Proofs.Ythhaimolcgkpaaa
open Go.RowKit
set_option linter.unusedVariables false
set_option linter.unusedSimpArgs false

set_option maxRecDepth 100000 in
set_option maxHeartbeats 2000000 in
theorem sNewHost_any (w : World) : Calls Try.prog 20 #[] w (HCopyOf w newHt) := by
  go_enter Try.func20, Try.ntmps20
  go_wp2_with fail
  refine (sHNew_any _).mono ?_
  rintro e w1 ⟨u, rfl, hu, hb⟩
  obtain ⟨C1, j1, C2, j2, C3, j3, C4, j4, rfl⟩ := hostIn_form (hostOf_in hu)
  have B1 := below_step (below_alloc (Below.refl _ _) _) hb
  have T1 := whole_b hb (whole_new w _ _)
  have sz : ∀ o, (w.alloc o).heap.size = w.heap.size + 1 := fun o => by simp
  rw [sz] at hu
  have HU := Lib.hid hu
  clear hb hu sz
  obtain ⟨r0, r1, r2, r3, r4⟩ := five_cells T1
  have fr := whole_free T1
  go_wp2
  refine bodyPost_ret (v := .agg #[.slice C1 newHt.g.length j1, .slice C2 newHt.s.length j2, .slice C3 newHt.n.length j3, .int .i64 newHt.c, .slice C4 newHt.d.length j4]) (by simp [results, Try.results20, go_sem, *]) rfl ⟨_, rfl, ?_, ?_⟩
  · refine hostOf_top (hi := w1.heap.size) (hostOf_base (lo := w.heap.size + 1) ?_ (by omega)) (by simp)
    have h := HU.out
    repeat (first | with_reducible exact h | ((with_reducible refine hostOf_store ?_ ?hh); case hh => omega))
  · repeat (first | with_reducible exact B1 | with_reducible refine Below.setCell ?_ (by simp) _)

/-- One deed over a store: a write at an index lays its cell. -/
def foldD (S : List Int) (x : Dd) : List Int := if x.p = 1 ∧ inB x.a 0 7 = true then S.set x.a.toNat x.b else S

/-- What deeds make of a store, and a code. -/
def hFold (S : List Int) (Q : List Dd) : List Int × Int :=
  if 4096 < S.length ∨ 4096 < Q.length then ([], 2) else if S.length = 8 ∧ cellsB S = true then if ddsB Q then (Q.foldl foldD S, 0) else ([], 1) else ([], 1)

/-- A row handed back in memory of its own, and a code. -/
def RowResOf (w : World) (r : List Int × Int) (e : Ending) (w' : World) : Prop := ∃ u, e = .returned (.tuple #[u, .int .i64 r.2]) ∧ Row w' w.heap.size u r.1 ∧ Below w.heap.size w w'

theorem rowres_none (w : World) (c : Int) {w1 : World} (hb : Below w.heap.size w w1) {g : Nat} (hg : g = w1.heap.size) : RowResOf w ([], c) (.returned (.tuple #[.slice (some ⟨g, 0, none⟩) 0 0, .int .i64 c])) (w1.alloc (.cells #[] 3)) := by
  subst hg
  exact ⟨_, rfl, row_empty (whole_new w1 _ _) hb.size, below_alloc hb _⟩

theorem foldD_len (S : List Int) (x : Dd) : (foldD S x).length = S.length := by unfold foldD; split <;> simp

theorem foldl_len (Q : List Dd) (S : List Int) : (Q.foldl foldD S).length = S.length := by
  induction Q generalizing S with
  | nil => rfl
  | cons q r ih => rw [List.foldl_cons, ih, foldD_len]

theorem fold_next (S : List Int) (Q : List Dd) (k : Nat) (h : k < Q.length) : (Q.take (k + 1)).foldl foldD S = foldD ((Q.take k).foldl foldD S) Q[k] := by
  rw [List.take_succ_eq_append_getElem h, List.foldl_append]
  rfl

set_option maxRecDepth 100000 in
set_option maxHeartbeats 2000000 in
theorem sFold_long (u v : Value) (S : List Int) (Q : List Dd) (w : World) (hu : Ints w u S) (hv : Dds w v Q) (hl : 4096 < S.length ∨ 4096 < Q.length) :
    Calls Try.prog 37 #[u, v] w (RowResOf w (hFold S Q)) := by
  have R : Hid (hFold S Q = ([], 2)) := Lib.hid (by unfold hFold; rw [if_pos hl])
  obtain ⟨l1, A1, k1, rfl, _⟩ := hu
  obtain ⟨l2, A2, k2, rfl, _⟩ := hv
  unfold maxLen at l1 l2
  by_cases h1 : 4096 < S.length
  · go_enter Try.func37, Try.ntmps37
    go_wp2
    go_ret2
    rw [R.out]
    exact rowres_none w 2 (Below.refl _ _) rfl
  · have h2 : 4096 < Q.length := by omega
    clear hl
    go_enter Try.func37, Try.ntmps37
    go_wp2
    go_ret2
    rw [R.out]
    exact rowres_none w 2 (Below.refl _ _) rfl

set_option maxRecDepth 100000 in
set_option maxHeartbeats 2000000 in
theorem sFold_bad (u v : Value) (S : List Int) (Q : List Dd) (w : World) (hu : Ints w u S) (hv : Dds w v Q) (h1 : S.length ≤ 4096) (h2 : Q.length ≤ 4096) (hb : ¬ (S.length = 8 ∧ cellsB S = true)) :
    Calls Try.prog 37 #[u, v] w (RowResOf w (hFold S Q)) := by
  have R : Hid (hFold S Q = ([], 1)) := Lib.hid (by unfold hFold; rw [if_neg (by omega), if_neg hb])
  have HU := Lib.hid hu
  obtain ⟨l1, A1, k1, rfl, _⟩ := hu
  obtain ⟨l2, A2, k2, rfl, _⟩ := hv
  unfold maxLen at l1 l2
  by_cases h8 : S.length = 8
  · have tc : cellsB S = false := by cases h : cellsB S; rfl; exact absurd ⟨h8, h⟩ hb
    have t0 : ((S.length : Int) != 8) = false := by rw [bne_eq_false_iff_eq]; omega
    have u0 : ((S.length : Int) == 8) = true := by rw [beq_iff_eq]; omega
    clear h8 hb
    go_enter Try.func37, Try.ntmps37
    go_wp2_with (go_at_call 79; refine (sCells_any _ S _ HU.out).mono ?_; rintro e w' ⟨rfl, rfl⟩)
    go_ret2
    rw [R.out]
    exact rowres_none w 1 (Below.refl _ _) rfl
  · have t0 : ((S.length : Int) != 8) = true := by rw [bne_iff_ne]; omega
    have u0 : ((S.length : Int) == 8) = false := by rw [beq_eq_false_iff_ne]; omega
    clear h8 hb
    go_enter Try.func37, Try.ntmps37
    go_wp2
    go_ret2
    rw [R.out]
    exact rowres_none w 1 (Below.refl _ _) rfl

end Go.Proofs.Ythhaimolcgkpaaa
