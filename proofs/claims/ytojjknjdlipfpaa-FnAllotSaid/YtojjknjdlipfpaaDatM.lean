/- New data: both sides. -/
import Derived.Test.YtojjknjdlipfpaaDatP
namespace Go.Proofs.Ytojjknjdlipfpaa
open Go.RowKit
set_option linter.unusedVariables false
set_option linter.unusedSimpArgs false

/-- New data. -/
def newDt : Dt := ⟨[], [], List.replicate 32 0, 0, 10, ByteArray.empty⟩

theorem row_empty {w : World} {base g : Nat} (h : Whole w g 3 #[]) (hb : base ≤ g) : Row w base (.slice (some ⟨g, 0, none⟩) 0 0) [] :=
  ⟨by simp, .inr ⟨g, 0, #[], rfl, hb, h, Nat.le_refl _, by unfold maxLen; simp, by simp, by simp⟩⟩

set_option maxRecDepth 100000 in
set_option maxHeartbeats 2000000 in
theorem sNew_any (w : World) : Calls Try.prog 54 #[] w (CopyOf w newDt) := by
  obtain ⟨i0, hi0, hz0, hz1, hz2⟩ := info_parts own_info3
  have I0 := Lib.hid hi0
  have Z0 := Lib.hid hz0
  have Z1 := Lib.hid hz1
  have B8 : Hid (i0.bytes * 32 ≤ 281474976710656) := Lib.hid (by rw [hz2]; omega)
  clear hi0 hz0 hz1 hz2
  go_enter Try.func54, Try.ntmps54
  go_wp2_with (first
    | (at_make; refine wpList_make_full _ rfl _ _ 23 rfl (w.heap.size + 1 + 1 + 1) 3 i0 _ 1 Try.underlying23 I0.out Z0.out Z1.out .i64 .i64 _ _ 32 rfl rfl rfl rfl B8.out (by unfold maxLen; omega) (by simp) ?_
       intro w1 ho1 hg1
       have hb : Below _ _ w1 := (Below.refl _ _).grown hg1 (Nat.le_refl _) (by simp)
       have B1 : Below w.heap.size w w1 := below_step (below_alloc (below_alloc (below_alloc (Below.refl _ _) _) _) _) hb
       have R3 : Row w1 (w.heap.size + 1 + 1 + 1) (.slice (some ⟨w.heap.size + 1 + 1 + 1, 0, none⟩) 32 32) (List.replicate 32 0) := by have h := zeros_row ho1; simpa using h
       have T1 := whole_b hb (whole_alloc (whole_alloc (whole_new w _ _) _) _)
       have E1 := whole_b hb (whole_alloc (whole_new1 w _ _ _) _)
       have E2 := whole_b hb (whole_new2 w _ _ _ _)
       obtain ⟨r0, r1, r2, r3, r4, r5⟩ := six_cells T1
       have fr := whole_free T1
       clear ho1 hg1 hb))
  refine bodyPost_ret (v := .agg #[.slice (some ⟨w.heap.size + 1, 0, none⟩) 0 0, .slice (some ⟨w.heap.size + 1 + 1, 0, none⟩) 0 0, .slice (some ⟨w.heap.size + 1 + 1 + 1, 0, none⟩) 32 32, .int .i64 0, .int .i64 10, .string ByteArray.empty]) (by simp [results, Try.results54, go_sem, *]; try rfl) rfl ⟨_, rfl, datOf_top (datOf_base (datOf_rows (d := newDt) (lo := w.heap.size + 1) ?_ ?_ ?_ (by decide) ?_ ?_ ?_) (by omega)) (Nat.le_refl _), ?_⟩
  · have h := row_empty (base := w.heap.size + 1) E1 (Nat.le_refl _)
    show Row _ _ _ []
    repeat (first | with_reducible exact h | ((with_reducible refine row_store ?_ ?hh); case hh => omega))
  · have h := row_empty (base := w.heap.size + 1) E2 (by omega)
    show Row _ _ _ []
    repeat (first | with_reducible exact h | ((with_reducible refine row_store ?_ ?hh); case hh => omega))
  · have h := row_base (base' := w.heap.size + 1) R3 (by omega)
    show Row _ _ _ (List.replicate 32 0)
    repeat (first | with_reducible exact h | ((with_reducible refine row_store ?_ ?hh); case hh => omega))
  · intro k hk hk2; simp [Value.ownBlock] at hk hk2; omega
  · intro k hk hk2; simp [Value.ownBlock] at hk hk2; omega
  · intro k hk hk2; simp [Value.ownBlock] at hk hk2; omega
  · repeat (first | with_reducible exact B1 | with_reducible refine Below.setCell ?_ (by simp) _)

set_option maxRecDepth 100000 in
set_option maxHeartbeats 2000000 in
theorem sNewData_any (w : World) : Calls Try.prog 26 #[] w (CopyOf w newDt) := by
  go_enter Try.func26, Try.ntmps26
  go_wp2_with fail
  refine (sNew_any _).mono ?_
  rintro e w1 ⟨u, rfl, hu, hb⟩
  obtain ⟨C1, j1, C2, j2, C3, j3, rfl⟩ := datIn_form (datOf_in hu)
  have B1 := below_step (below_alloc (Below.refl _ _) _) hb
  have T1 := whole_b hb (whole_new w _ _)
  clear hb
  obtain ⟨r0, r1, r2, r3, r4, r5⟩ := six_cells T1
  have fr := whole_free T1
  go_wp2
  refine bodyPost_ret (v := .agg #[.slice C1 newDt.s.length j1, .slice C2 newDt.b.length j2, .slice C3 newDt.c.length j3, .int .i64 newDt.h, .int .i64 newDt.n, .string newDt.o]) (by simp [results, Try.results26, go_sem, *]) rfl ⟨_, rfl, ?_, ?_⟩
  · refine datOf_top (datOf_base (datOf_keep (lo := w.heap.size + 1) (by simpa using hu) (fun g h1 h2 h3 => ?_)) (by omega)) (by simp)
    iterate 6 rw [Below.heap_setCell _ _ _ _ (by show g ≠ w.heap.size; omega)]
  · repeat (first | with_reducible exact B1 | with_reducible refine Below.setCell ?_ (by simp) _)

set_option maxRecDepth 100000 in
set_option maxHeartbeats 2000000 in
theorem iNewData_any (w : World) : Calls Try.prog 25 #[] w (CopyOf w newDt) := by
  obtain ⟨i0, hi0, hz0, hz1, hz2⟩ := info_parts own_info3
  have I0 := Lib.hid hi0
  have Z0 := Lib.hid hz0
  have Z1 := Lib.hid hz1
  have B8 : Hid (i0.bytes * 32 ≤ 281474976710656) := Lib.hid (by rw [hz2]; omega)
  clear hi0 hz0 hz1 hz2
  go_enter Try.func25, Try.ntmps25
  go_wp2_with (first
    | (at_make; refine wpList_make_full _ rfl _ _ 23 rfl (w.heap.size + 1) 3 i0 _ 1 Try.underlying23 I0.out Z0.out Z1.out .i64 .i64 _ _ 32 rfl rfl rfl rfl B8.out (by unfold maxLen; omega) (by simp) ?_
       intro w1 ho1 hg1
       have hb : Below _ _ w1 := (Below.refl _ _).grown hg1 (Nat.le_refl _) (by simp)
       have B1 : Below w.heap.size w w1 := below_step (below_alloc (Below.refl _ _) _) hb
       have R3 : Row w1 (w.heap.size + 1) (.slice (some ⟨w.heap.size + 1, 0, none⟩) 32 32) (List.replicate 32 0) := by have h := zeros_row ho1; simpa using h
       have T1 := whole_b hb (whole_new w _ _)
       obtain ⟨r0, r1, r2, r3, r4, r5⟩ := six_cells T1
       have fr := whole_free T1
       clear ho1 hg1 hb))
  refine bodyPost_ret (v := .agg #[.slice none 0 0, .slice none 0 0, .slice (some ⟨w.heap.size + 1, 0, none⟩) 32 32, .int .i64 0, .int .i64 10, .string ByteArray.empty]) (by simp [results, Try.results25, go_sem, *]; try rfl) rfl ⟨_, rfl, datOf_top (datOf_base (datOf_rows (d := newDt) (lo := w.heap.size + 1) (row_nil _ _) (row_nil _ _) ?_ (by decide) (parted_nil _) (parted_nil _) (parted_nil _)) (by omega)) (Nat.le_refl _), ?_⟩
  · have h := row_base (base' := w.heap.size + 1) R3 (by omega)
    show Row _ _ _ (List.replicate 32 0)
    repeat (first | with_reducible exact h | ((with_reducible refine row_store ?_ ?hh); case hh => omega))
  · repeat (first | with_reducible exact B1 | with_reducible refine Below.setCell ?_ (by simp) _)

end Go.Proofs.Ytojjknjdlipfpaa
