/- PkW: several of my texts, laid together: IdeA, IdeB. -/
import Derived.Test.YthnbaeamekolmaaGreatDoorPkU
import Derived.Test.YthnbaeamekolmaaGreatDoorPkV
namespace Go.Proofs.YthnbaeamekolmaaGreatDoor
open Go.RowKit
set_option linter.unusedVariables false
set_option linter.unusedSimpArgs false

/-- New data with four cells on the stack. -/
def d4 (a b c e : Int) : Dt := { newDt with s := [a, b, c, e] }

/-- The lists. -/
def idL : List (List Int) := [[3, 3], [5, 5, 5], [12, 13], [25, 25], [27, 27], [1, 2], [9, 10], [4, 2], [11, 2], [28, 29]]

theorem new_fine : DtFine newDt := by decide

theorem d4_fine {a b c e : Int} (ha : cellB a = true) (hb : cellB b = true) (hc : cellB c = true) (he : cellB e = true) : DtFine (d4 a b c e) := by
  have h := new_fine
  exact ⟨by show (4 : Nat) ≤ 32; omega, h.2.1, h.2.2.1, by show cellsB [a, b, c, e] = true; unfold cellsB; simp [ha, hb, hc, he], h.2.2.2.2.1, h.2.2.2.2.2.1, h.2.2.2.2.2.2.1, h.2.2.2.2.2.2.2.1, h.2.2.2.2.2.2.2.2.1, h.2.2.2.2.2.2.2.2.2⟩

theorem run2 {d d1 d2 : Dt} {p q : Int} (h1 : dPrim d p.toNat 0 = (d1, 0)) (h2 : dPrim d1 q.toNat 0 = (d2, 0)) : runAll d [p, q] 0 = (d2, 2, 0) := by
  rw [runAll, h1]; simp only [if_true]
  rw [runAll, h2]; simp only [if_true]
  rw [runAll]

theorem run3 {d d1 d2 d3 : Dt} {p q r : Int} (h1 : dPrim d p.toNat 0 = (d1, 0)) (h2 : dPrim d1 q.toNat 0 = (d2, 0)) (h3 : dPrim d2 r.toNat 0 = (d3, 0)) : runAll d [p, q, r] 0 = (d3, 3, 0) := by
  rw [runAll, h1]; simp only [if_true]
  rw [runAll, h2]; simp only [if_true]
  rw [runAll, h3]; simp only [if_true]
  rw [runAll]

theorem all_of_run {d r : Dt} {l : List Int} {k : Nat} {t : Int} (hd : DtFine d) (hl : l.length ≤ 4096) (hp : allP l = true) (h : runAll d l 0 = (r, k, t)) : dAll d l = (r, (k : Int), t, 0) := by
  unfold dAll
  rw [if_neg (by omega), if_neg (by rw [dOK_true hd]; decide), if_neg (by rw [hp]; decide), h]

theorem ident_all {a b c e : Int} (ha : cellB a = true) (hb : cellB b = true) (hc : cellB c = true) (e0 : 0 ≤ e) (e1 : e ≤ 98) (k : Nat) (h : k < 10) : dAll (d4 a b c e) (idL.getD k []) = (d4 a b c e, ((idL.getD k []).length : Int), 0, 0) := by
  have he : cellB e = true := cellB_true.2 (by omega)
  have hd := d4_fine ha hb hc he
  have w1 : wrap32 (-e) = -e := wrap32_in (by omega)
  have w2 : wrap32 (-(-e)) = e := by rw [Int.neg_neg]; exact wrap32_in (by omega)
  have w3 : wrap32 (e + 1) = e + 1 := wrap32_in (by omega)
  have w4 : wrap32 (e + 1 - 1) = e := by rw [show e + 1 - 1 = e by omega]; exact wrap32_in (by omega)
  have hk : k = 0 ∨ k = 1 ∨ k = 2 ∨ k = 3 ∨ k = 4 ∨ k = 5 ∨ k = 6 ∨ k = 7 ∨ k = 8 ∨ k = 9 := by omega
  rcases hk with rfl | rfl | rfl | rfl | rfl | rfl | rfl | rfl | rfl | rfl
  · exact all_of_run hd (by decide) (by decide) (run2 (d1 := d4 a b e c) rfl rfl)
  · exact all_of_run hd (by decide) (by decide) (run3 (d1 := d4 a c e b) (d2 := d4 a e b c) rfl rfl rfl)
  · exact all_of_run hd (by decide) (by decide) (run2 (d1 := { d4 a b c e with s := [a, b, c], b := [e] }) rfl rfl)
  · refine all_of_run hd (by decide) (by decide) (run2 (d1 := d4 a b c (-e)) ?_ ?_)
    · show (d4 a b c (wrap32 (-e)), (0 : Int)) = _; rw [w1]
    · show (d4 a b c (wrap32 (-(-e))), (0 : Int)) = _; rw [w2]
  · refine all_of_run hd (by decide) (by decide) (run2 (d1 := d4 a b c (-e - 1)) rfl ?_)
    show (d4 a b c (-(-e - 1) - 1), (0 : Int)) = _
    rw [show -(-e - 1) - 1 = e by omega]
  · exact all_of_run hd (by decide) (by decide) (run2 (d1 := { d4 a b c e with s := [a, b, c, e, e] }) rfl rfl)
  · exact all_of_run hd (by decide) (by decide) (run2 (d1 := { d4 a b c e with s := [a, b, c, e, c, e] }) rfl rfl)
  · exact all_of_run hd (by decide) (by decide) (run2 (d1 := { d4 a b c e with s := [a, b, c, e, c] }) rfl rfl)
  · exact all_of_run hd (by decide) (by decide) (run2 (d1 := { d4 a b c e with s := [a, b, c, e, 4] }) rfl rfl)
  · refine all_of_run hd (by decide) (by decide) (run2 (d1 := d4 a b c (e + 1)) ?_ ?_)
    · show (d4 a b c (wrap32 (e + 1)), (0 : Int)) = _; rw [w3]
    · show (d4 a b c (wrap32 (e + 1 - 1)), (0 : Int)) = _; rw [w4]

theorem ident_drop {a b c e : Int} (hd : DtFine (d4 a b c e)) : dAll (d4 a b c e) [2, 2, 2, 2, 2, 1] = (newDt, 4, -4, 0) := by
  refine all_of_run (k := 4) hd (by decide) (by decide) ?_
  rw [runAll, show dPrim (d4 a b c e) (2 : Int).toNat 0 = ({ newDt with s := [a, b, c] }, 0) from rfl]; simp only [if_true]
  rw [runAll, show dPrim { newDt with s := [a, b, c] } (2 : Int).toNat 0 = ({ newDt with s := [a, b] }, 0) from rfl]; simp only [if_true]
  rw [runAll, show dPrim { newDt with s := [a, b] } (2 : Int).toNat 0 = ({ newDt with s := [a] }, 0) from rfl]; simp only [if_true]
  rw [runAll, show dPrim { newDt with s := [a] } (2 : Int).toNat 0 = (newDt, 0) from rfl]; simp only [if_true]
  rw [runAll, show dPrim newDt (2 : Int).toNat 0 = (newDt, -4) from rfl]
  rfl

end Go.Proofs.YthnbaeamekolmaaGreatDoor

namespace Go.Proofs.YthnbaeamekolmaaGreatDoor
open Go.RowKit
set_option linter.unusedVariables false
set_option linter.unusedSimpArgs false

/-- The world behind the lists. -/
def listsW (w : World) : World := ((((((((((w.alloc (.cells #[.int .i64 3, .int .i64 3] 3)).alloc (.cells #[.int .i64 5, .int .i64 5, .int .i64 5] 3)).alloc (.cells #[.int .i64 12, .int .i64 13] 3)).alloc (.cells #[.int .i64 25, .int .i64 25] 3)).alloc (.cells #[.int .i64 27, .int .i64 27] 3)).alloc (.cells #[.int .i64 1, .int .i64 2] 3)).alloc (.cells #[.int .i64 9, .int .i64 10] 3)).alloc (.cells #[.int .i64 4, .int .i64 2] 3)).alloc (.cells #[.int .i64 11, .int .i64 2] 3)).alloc (.cells #[.int .i64 28, .int .i64 29] 3)).alloc (.cells #[.slice (some ⟨w.heap.size, 0, none⟩) 2 2, .slice (some ⟨w.heap.size + 1, 0, none⟩) 3 3, .slice (some ⟨w.heap.size + 1 + 1, 0, none⟩) 2 2, .slice (some ⟨w.heap.size + 1 + 1 + 1, 0, none⟩) 2 2, .slice (some ⟨w.heap.size + 1 + 1 + 1 + 1, 0, none⟩) 2 2, .slice (some ⟨w.heap.size + 1 + 1 + 1 + 1 + 1, 0, none⟩) 2 2, .slice (some ⟨w.heap.size + 1 + 1 + 1 + 1 + 1 + 1, 0, none⟩) 2 2, .slice (some ⟨w.heap.size + 1 + 1 + 1 + 1 + 1 + 1 + 1, 0, none⟩) 2 2, .slice (some ⟨w.heap.size + 1 + 1 + 1 + 1 + 1 + 1 + 1 + 1, 0, none⟩) 2 2, .slice (some ⟨w.heap.size + 1 + 1 + 1 + 1 + 1 + 1 + 1 + 1 + 1, 0, none⟩) 2 2] 23)

theorem whole_at (w : World) (N : Nat) (t : TypeId) (cs : Array Value) (h : w.heap.size = N) : Whole (w.alloc (.cells cs t)) N t cs := by rw [← h]; exact whole_new w t cs

theorem lists_below (w : World) : Below w.heap.size w (listsW w) := by
  unfold listsW
  repeat (first | exact Below.refl _ _ | refine below_alloc ?_ _)

set_option maxHeartbeats 1000000 in
theorem lists_at (w W : World) (hb : Below (listsW w).heap.size (listsW w) W) (k : Nat) (hk : k < 10) :
    ∃ b n, n = (idL.getD k []).length ∧ W.cell? ⟨w.heap.size + 1 + 1 + 1 + 1 + 1 + 1 + 1 + 1 + 1 + 1, k, none⟩ = some (.slice (some ⟨b, 0, none⟩) n n) ∧ Ints W (.slice (some ⟨b, 0, none⟩) n n) (idL.getD k []) := by
  have XT : Whole (listsW w) (w.heap.size + 1 + 1 + 1 + 1 + 1 + 1 + 1 + 1 + 1 + 1) 23 #[.slice (some ⟨w.heap.size, 0, none⟩) 2 2, .slice (some ⟨w.heap.size + 1, 0, none⟩) 3 3, .slice (some ⟨w.heap.size + 1 + 1, 0, none⟩) 2 2, .slice (some ⟨w.heap.size + 1 + 1 + 1, 0, none⟩) 2 2, .slice (some ⟨w.heap.size + 1 + 1 + 1 + 1, 0, none⟩) 2 2, .slice (some ⟨w.heap.size + 1 + 1 + 1 + 1 + 1, 0, none⟩) 2 2, .slice (some ⟨w.heap.size + 1 + 1 + 1 + 1 + 1 + 1, 0, none⟩) 2 2, .slice (some ⟨w.heap.size + 1 + 1 + 1 + 1 + 1 + 1 + 1, 0, none⟩) 2 2, .slice (some ⟨w.heap.size + 1 + 1 + 1 + 1 + 1 + 1 + 1 + 1, 0, none⟩) 2 2, .slice (some ⟨w.heap.size + 1 + 1 + 1 + 1 + 1 + 1 + 1 + 1 + 1, 0, none⟩) 2 2] := whole_at _ _ _ _ (by simp)
  have XW := whole_below XT hb
  have hq : k = 0 ∨ k = 1 ∨ k = 2 ∨ k = 3 ∨ k = 4 ∨ k = 5 ∨ k = 6 ∨ k = 7 ∨ k = 8 ∨ k = 9 := by omega
  rcases hq with rfl | rfl | rfl | rfl | rfl | rfl | rfl | rfl | rfl | rfl
  · have X : Whole (listsW w) (w.heap.size) 3 #[.int .i64 3, .int .i64 3] := whole_alloc (whole_alloc (whole_alloc (whole_alloc (whole_alloc (whole_alloc (whole_alloc (whole_alloc (whole_alloc (whole_alloc (whole_at _ _ _ _ (by simp)) _) _) _) _) _) _) _) _) _) _
    exact ⟨w.heap.size, 2, rfl, whole_cell XW 0, row_ints (base := 0) (zs := [3, 3]) (row_whole (whole_below X hb) (Nat.zero_le _) (by unfold maxLen; simp))⟩
  · have X : Whole (listsW w) (w.heap.size + 1) 3 #[.int .i64 5, .int .i64 5, .int .i64 5] := whole_alloc (whole_alloc (whole_alloc (whole_alloc (whole_alloc (whole_alloc (whole_alloc (whole_alloc (whole_alloc (whole_at _ _ _ _ (by simp)) _) _) _) _) _) _) _) _) _
    exact ⟨w.heap.size + 1, 3, rfl, whole_cell XW 1, row_ints (base := 0) (zs := [5, 5, 5]) (row_whole (whole_below X hb) (Nat.zero_le _) (by unfold maxLen; simp))⟩
  · have X : Whole (listsW w) (w.heap.size + 1 + 1) 3 #[.int .i64 12, .int .i64 13] := whole_alloc (whole_alloc (whole_alloc (whole_alloc (whole_alloc (whole_alloc (whole_alloc (whole_alloc (whole_at _ _ _ _ (by simp)) _) _) _) _) _) _) _) _
    exact ⟨w.heap.size + 1 + 1, 2, rfl, whole_cell XW 2, row_ints (base := 0) (zs := [12, 13]) (row_whole (whole_below X hb) (Nat.zero_le _) (by unfold maxLen; simp))⟩
  · have X : Whole (listsW w) (w.heap.size + 1 + 1 + 1) 3 #[.int .i64 25, .int .i64 25] := whole_alloc (whole_alloc (whole_alloc (whole_alloc (whole_alloc (whole_alloc (whole_alloc (whole_at _ _ _ _ (by simp)) _) _) _) _) _) _) _
    exact ⟨w.heap.size + 1 + 1 + 1, 2, rfl, whole_cell XW 3, row_ints (base := 0) (zs := [25, 25]) (row_whole (whole_below X hb) (Nat.zero_le _) (by unfold maxLen; simp))⟩
  · have X : Whole (listsW w) (w.heap.size + 1 + 1 + 1 + 1) 3 #[.int .i64 27, .int .i64 27] := whole_alloc (whole_alloc (whole_alloc (whole_alloc (whole_alloc (whole_alloc (whole_at _ _ _ _ (by simp)) _) _) _) _) _) _
    exact ⟨w.heap.size + 1 + 1 + 1 + 1, 2, rfl, whole_cell XW 4, row_ints (base := 0) (zs := [27, 27]) (row_whole (whole_below X hb) (Nat.zero_le _) (by unfold maxLen; simp))⟩
  · have X : Whole (listsW w) (w.heap.size + 1 + 1 + 1 + 1 + 1) 3 #[.int .i64 1, .int .i64 2] := whole_alloc (whole_alloc (whole_alloc (whole_alloc (whole_alloc (whole_at _ _ _ _ (by simp)) _) _) _) _) _
    exact ⟨w.heap.size + 1 + 1 + 1 + 1 + 1, 2, rfl, whole_cell XW 5, row_ints (base := 0) (zs := [1, 2]) (row_whole (whole_below X hb) (Nat.zero_le _) (by unfold maxLen; simp))⟩
  · have X : Whole (listsW w) (w.heap.size + 1 + 1 + 1 + 1 + 1 + 1) 3 #[.int .i64 9, .int .i64 10] := whole_alloc (whole_alloc (whole_alloc (whole_alloc (whole_at _ _ _ _ (by simp)) _) _) _) _
    exact ⟨w.heap.size + 1 + 1 + 1 + 1 + 1 + 1, 2, rfl, whole_cell XW 6, row_ints (base := 0) (zs := [9, 10]) (row_whole (whole_below X hb) (Nat.zero_le _) (by unfold maxLen; simp))⟩
  · have X : Whole (listsW w) (w.heap.size + 1 + 1 + 1 + 1 + 1 + 1 + 1) 3 #[.int .i64 4, .int .i64 2] := whole_alloc (whole_alloc (whole_alloc (whole_at _ _ _ _ (by simp)) _) _) _
    exact ⟨w.heap.size + 1 + 1 + 1 + 1 + 1 + 1 + 1, 2, rfl, whole_cell XW 7, row_ints (base := 0) (zs := [4, 2]) (row_whole (whole_below X hb) (Nat.zero_le _) (by unfold maxLen; simp))⟩
  · have X : Whole (listsW w) (w.heap.size + 1 + 1 + 1 + 1 + 1 + 1 + 1 + 1) 3 #[.int .i64 11, .int .i64 2] := whole_alloc (whole_alloc (whole_at _ _ _ _ (by simp)) _) _
    exact ⟨w.heap.size + 1 + 1 + 1 + 1 + 1 + 1 + 1 + 1, 2, rfl, whole_cell XW 8, row_ints (base := 0) (zs := [11, 2]) (row_whole (whole_below X hb) (Nat.zero_le _) (by unfold maxLen; simp))⟩
  · have X : Whole (listsW w) (w.heap.size + 1 + 1 + 1 + 1 + 1 + 1 + 1 + 1 + 1) 3 #[.int .i64 28, .int .i64 29] := whole_alloc (whole_at _ _ _ _ (by simp)) _
    exact ⟨w.heap.size + 1 + 1 + 1 + 1 + 1 + 1 + 1 + 1 + 1, 2, rfl, whole_cell XW 9, row_ints (base := 0) (zs := [28, 29]) (row_whole (whole_below X hb) (Nat.zero_le _) (by unfold maxLen; simp))⟩

theorem ints_lit1 (w : World) (o : Obj) (zs : List Int) (hl : zs.length ≤ maxLen) : Ints ((w.alloc o).alloc (.cells (zs.map (Value.int .i64)).toArray 3)) (.slice (some ⟨w.heap.size + 1, 0, none⟩) zs.length zs.length) zs :=
  row_ints (base := 0) (row_whole (whole_new1 w o 3 _) (Nat.zero_le _) hl)

/-- Behind a list of primitives: the data in a block of their own, all as they were. -/
def IdCut (w0 : World) (D : Dt) (n : Nat) (s8 s9 s10 s11 : Value) (wx : World) : Prop :=
  ∃ g G1 i1 G2 i2 G3 i3, s8 = .pointer (some ⟨g, 0, none⟩) ∧ s9 = .int .i64 n ∧ s10 = .int .i64 0 ∧ s11 = .int .i64 0 ∧
    Whole wx g 40 #[.slice G1 D.s.length i1, .slice G2 D.b.length i2, .slice G3 D.c.length i3, .int .i64 D.h, .int .i64 D.n, .string D.o] ∧
    DatIn wx (.agg #[.slice G1 D.s.length i1, .slice G2 D.b.length i2, .slice G3 D.c.length i3, .int .i64 D.h, .int .i64 D.n, .string D.o]) D ∧ Below w0.heap.size w0 wx

end Go.Proofs.YthnbaeamekolmaaGreatDoor
