/- QkH: several of my texts, laid together: McF, DatM, HsG, HiB, HsH, McG, FoB, FoC, FoL. -/
import Derived.Test.YthnbaeamekolmaaGreatDoorQkD
import Derived.Test.YthnbaeamekolmaaGreatDoorQkE
import Derived.Test.YthnbaeamekolmaaGreatDoorDatP
import Derived.Test.YthnbaeamekolmaaGreatDoorQkB
import Derived.RegionTactic
import Derived.ChangeAlike
import Derived.BigRegion
import Derived.Deep.OwnRows
import Derived.Test.YthnbaeamekolmaaGreatDoorQkF
namespace Go.Proofs.YthnbaeamekolmaaGreatDoor
open Go.RowKit
set_option linter.unusedVariables false
set_option linter.unusedSimpArgs false

theorem wrow_os {S : Nat → Prop} {w w' : World} {lo : Nat} {v : Value} {Q : List Wd} (hn : Only S w w') (h : WRow w lo v Q) (hs : ∀ g, Blk v g → ¬ S g) : WRow w' lo v Q := by
  obtain ⟨⟨h1, h2⟩, hq⟩ := h
  refine ⟨⟨h1, ?_⟩, hq⟩
  rcases h2 with h2 | ⟨g, cap, cur, hv, hb, hg, r⟩
  · exact .inl h2
  · exact .inr ⟨g, cap, cur, hv, hb, by rw [hn.block g (Array.getElem?_eq_some_iff.1 hg).1 (hs g (.inl (by rw [hv]; rfl)))]; exact hg, r⟩

theorem row_os {S : Nat → Prop} {w w' : World} {lo : Nat} {v : Value} {Q : List Int} (hn : Only S w w') (h : Row w lo v Q) (hs : ∀ g, Blk v g → ¬ S g) : Row w' lo v Q := row_keep h fun g e => hn.block g (row_lt h g e).2 (hs g (.inl e))
theorem crow_os {S : Nat → Prop} {w w' : World} {lo : Nat} {v : Value} {Q : List Cl} (hn : Only S w w') (h : CRow w lo v Q) (hs : ∀ g, Blk v g → ¬ S g) : CRow w' lo v Q := crow_keep h fun g e => hn.block g (crow_lt h g e).2 (hs g (.inl e))
theorem hostT_os {S : Nat → Prop} {w w' : World} {lo : Nat} {v : Value} {h : Ht} (hn : Only S w w') (H : HostT w lo v h) (hs : ∀ g, Blk v g → ¬ S g) : HostT w' lo v h := hostT_only H hn fun g e => hs g (.inr e)
theorem datOf_os {S : Nat → Prop} {w w' : World} {lo hi : Nat} {v : Value} {d : Dt} (hn : Only S w w') (H : DatOf w lo hi v d) (hs : ∀ g, Blk v g → ¬ S g) : DatOf w' lo hi v d := datOf_only H hn fun g e => hs g (.inr e)

theorem blk_wrow {w : World} {lo g : Nat} {v : Value} {Q : List Wd} (h : WRow w lo v Q) (hg : Blk v g) : lo ≤ g ∧ g < w.heap.size := by
  obtain ⟨_, _, A, c, rfl, _⟩ := wrow_wds h
  exact wrow_lt h g (blk_slice hg)
theorem blk_row {w : World} {lo g : Nat} {v : Value} {Q : List Int} (h : Row w lo v Q) (hg : Blk v g) : lo ≤ g ∧ g < w.heap.size := by
  obtain ⟨_, A, c, rfl, _⟩ := row_ints h
  exact row_lt h g (blk_slice hg)
theorem blk_crow {w : World} {lo g : Nat} {v : Value} {Q : List Cl} (h : CRow w lo v Q) (hg : Blk v g) : lo ≤ g ∧ g < w.heap.size := by
  obtain ⟨_, A, c, rfl, _⟩ := crow_dds h
  exact crow_lt h g (blk_slice hg)
theorem blk_host {w : World} {lo g : Nat} {v : Value} {h : Ht} (H : HostT w lo v h) (hg : Blk v g) : lo ≤ g ∧ g < w.heap.size := by
  obtain ⟨A1, k1, A2, k2, A3, k3, A4, k4, rfl⟩ := hostIn_form (hostT_in H)
  exact hostT_mine H (blk_agg hg)
theorem blk_data {w : World} {lo hi g : Nat} {v : Value} {d : Dt} (H : DatOf w lo hi v d) (hg : Blk v g) : lo ≤ g ∧ g < hi := by
  obtain ⟨A1, k1, A2, k2, A3, k3, rfl⟩ := datIn_form (datOf_in H)
  exact datOf_mine H (blk_agg hg)

/-- A block of a machine's is one of its parts'. -/
theorem mine_parts {G : Nat} {x k a b c g s n q z i1 i2 i3 i4 i5 i6 : Value} (h : Mine (.agg #[x, k, a, b, c, i1, i2, i3, g, s, n, i4, q, z, i5, i6]) G) (e1 : i1.ownBlock = none) (e2 : i2.ownBlock = none) (e3 : i3.ownBlock = none) (e4 : i4.ownBlock = none) (e5 : i5.ownBlock = none) (e6 : i6.ownBlock = none) :
    Blk x G ∨ Blk k G ∨ Blk (.agg #[a, b, c, i1, i2, i3]) G ∨ Blk (.agg #[g, s, n, i4, q]) G ∨ Blk z G := by
  obtain ⟨u, hu, e⟩ := mine_agg.1 h
  simp only [List.mem_cons, List.not_mem_nil, or_false] at hu
  rcases hu with rfl | rfl | rfl | rfl | rfl | rfl | rfl | rfl | rfl | rfl | rfl | rfl | rfl | rfl | rfl | rfl
  · exact .inl (.inl e)
  · exact .inr (.inl (.inl e))
  · exact .inr (.inr (.inl (.inr (mine_agg.2 ⟨_, by simp, e⟩))))
  · exact .inr (.inr (.inl (.inr (mine_agg.2 ⟨_, by simp, e⟩))))
  · exact .inr (.inr (.inl (.inr (mine_agg.2 ⟨_, by simp, e⟩))))
  · rw [e1] at e; cases e
  · rw [e2] at e; cases e
  · rw [e3] at e; cases e
  · exact .inr (.inr (.inr (.inl (.inr (mine_agg.2 ⟨_, by simp, e⟩)))))
  · exact .inr (.inr (.inr (.inl (.inr (mine_agg.2 ⟨_, by simp, e⟩)))))
  · exact .inr (.inr (.inr (.inl (.inr (mine_agg.2 ⟨_, by simp, e⟩)))))
  · rw [e4] at e; cases e
  · exact .inr (.inr (.inr (.inl (.inr (mine_agg.2 ⟨_, by simp, e⟩)))))
  · exact .inr (.inr (.inr (.inr (.inl e))))
  · rw [e5] at e; cases e
  · rw [e6] at e; cases e

/-- A part's block is the machine's. -/
theorem parts_mine {G : Nat} {x k a b c g s n q z i1 i2 i3 i4 i5 i6 : Value} (h : Blk x G ∨ Blk k G ∨ Blk (.agg #[a, b, c, i1, i2, i3]) G ∨ Blk (.agg #[g, s, n, i4, q]) G ∨ Blk z G) (hx : ∀ cs, x ≠ .agg cs) (hk : ∀ cs, k ≠ .agg cs) (hz : ∀ cs, z ≠ .agg cs) :
    Mine (.agg #[x, k, a, b, c, i1, i2, i3, g, s, n, i4, q, z, i5, i6]) G := by
  rcases h with (h | ⟨cs, e, _⟩) | (h | ⟨cs, e, _⟩) | h | h | (h | ⟨cs, e, _⟩)
  · exact mine_agg.2 ⟨x, by simp, h⟩
  · exact absurd e (hx cs)
  · exact mine_agg.2 ⟨k, by simp, h⟩
  · exact absurd e (hk cs)
  · obtain ⟨u, hu, e⟩ := mine_agg.1 (blk_agg h)
    simp only [List.mem_cons, List.not_mem_nil, or_false] at hu
    exact mine_agg.2 ⟨u, by simp only [List.mem_cons, List.not_mem_nil, or_false]; rcases hu with h | h | h | h | h | h <;> simp [h], e⟩
  · obtain ⟨u, hu, e⟩ := mine_agg.1 (blk_agg h)
    simp only [List.mem_cons, List.not_mem_nil, or_false] at hu
    exact mine_agg.2 ⟨u, by simp only [List.mem_cons, List.not_mem_nil, or_false]; rcases hu with h | h | h | h | h <;> simp [h], e⟩
  · exact mine_agg.2 ⟨z, by simp, h⟩
  · exact absurd e (hz cs)

theorem mchT_mine {w : World} {lo G : Nat} {v : Value} {m : Mc} (h : MchT w lo v m) (hg : Mine v G) : lo ≤ G ∧ G < w.heap.size := by
  obtain ⟨x, k, a, b, c, g, s, n, q, z, rfl, h1, h2, h3, h4, h5, _⟩ := h
  rcases mine_parts hg rfl rfl rfl rfl rfl rfl with e | e | e | e | e
  · exact blk_wrow h1 e
  · exact blk_row h2 e
  · exact blk_data h3 e
  · exact blk_host h4 e
  · exact blk_crow h5 e

theorem mchT_only {S : Nat → Prop} {w w' : World} {lo : Nat} {v : Value} {m : Mc} (h : MchT w lo v m) (hn : Only S w w') (hs : ∀ g, Mine v g → ¬ S g) : MchT w' lo v m := by
  obtain ⟨x, k, a, b, c, g, s, n, q, z, rfl, h1, h2, h3, h4, h5, hp⟩ := h
  have hx : ∀ cs, x ≠ .agg cs := by obtain ⟨_, _, A, c, rfl, _⟩ := wrow_wds h1; intro cs e; cases e
  have hk : ∀ cs, k ≠ .agg cs := by obtain ⟨_, A, c, rfl, _⟩ := row_ints h2; intro cs e; cases e
  have hz : ∀ cs, z ≠ .agg cs := by obtain ⟨_, A, c, rfl, _⟩ := crow_dds h5; intro cs e; cases e
  exact ⟨x, k, a, b, c, g, s, n, q, z, rfl, wrow_os hn h1 fun G e => hs G (parts_mine (.inl e) hx hk hz), row_os hn h2 fun G e => hs G (parts_mine (.inr (.inl e)) hx hk hz),
    datOf_top (datOf_os hn h3 fun G e => hs G (parts_mine (.inr (.inr (.inl e))) hx hk hz)) hn.size, hostT_os hn h4 fun G e => hs G (parts_mine (.inr (.inr (.inr (.inl e)))) hx hk hz), crow_os hn h5 fun G e => hs G (parts_mine (.inr (.inr (.inr (.inr e)))) hx hk hz), hp⟩

theorem mchT_below {w w' : World} {lo : Nat} {v : Value} {m : Mc} (h : MchT w lo v m) (hb : Below w.heap.size w w') : MchT w' lo v m := mchT_only (S := fun _ => False) h (below_only hb) fun _ _ e => e

theorem mchT_b {w w' : World} {lo : Nat} {v : Value} {m : Mc} (hb : Below w.heap.size w w') (h : MchT w lo v m) : MchT w' lo v m := mchT_below h hb

/-- How many numbers a machine's rows have. -/
def numM (m : Mc) : Nat := 3 * m.w.length + m.k.length + numD m.d + numH m.h + 4 * m.c.length

/-- The machine with marks from 1 on in its rows. -/
def markM (m : Mc) : Mc := ⟨marksW 1 m.w.length, marksI (1 + 3 * m.w.length) m.k.length, markD (1 + 3 * m.w.length + m.k.length) m.d, markH (1 + 3 * m.w.length + m.k.length + numD m.d) m.h, marksC (1 + 3 * m.w.length + m.k.length + numD m.d + numH m.h) m.c.length, m.i, m.f⟩

theorem numD_small {d : Dt} (h : SmallD d) : numD d ≤ 3145728 := by unfold numD; obtain ⟨h1, h2, h3, h4⟩ := h; omega
theorem numH_small {h : Ht} (hs : SmallH h) : numH h ≤ 7340032 := by unfold numH; obtain ⟨h1, h2, h3, h4⟩ := hs; omega

theorem sep_sym {u v : Value} (h : Sep u v) : Sep v u := fun g hg hv => h g hv hg

end Go.Proofs.YthnbaeamekolmaaGreatDoor

namespace Go.Proofs.YthnbaeamekolmaaGreatDoor
open Go.RowKit
set_option linter.unusedVariables false
set_option linter.unusedSimpArgs false

/-- New data. -/
def newDt : Dt := ⟨[], [], List.replicate 32 0, 0, 10, ByteArray.empty⟩

theorem row_empty {w : World} {base g : Nat} (h : Whole w g 3 #[]) (hb : base ≤ g) : Row w base (.slice (some ⟨g, 0, none⟩) 0 0) [] :=
  ⟨by simp, .inr ⟨g, 0, #[], rfl, hb, h, Nat.le_refl _, by unfold maxLen; simp, by simp, by simp⟩⟩

set_option maxRecDepth 100000 in
set_option maxHeartbeats 2000000 in
theorem sNew_any (w : World) : Calls Tryz.prog 70 #[] w (CopyOf w newDt) := by
  obtain ⟨i0, hi0, hz0, hz1, hz2⟩ := info_parts own_info3
  have I0 := Lib.hid hi0
  have Z0 := Lib.hid hz0
  have Z1 := Lib.hid hz1
  have B8 : Hid (i0.bytes * 32 ≤ 281474976710656) := Lib.hid (by rw [hz2]; omega)
  clear hi0 hz0 hz1 hz2
  go_enter Tryz.func70, Tryz.ntmps70
  go_wp2_with (first
    | (at_make; refine wpList_make_full _ rfl _ _ 23 rfl (w.heap.size + 1 + 1 + 1) 3 i0 _ 1 Tryz.underlying23 I0.out Z0.out Z1.out .i64 .i64 _ _ 32 rfl rfl rfl rfl B8.out (by unfold maxLen; omega) (by simp) ?_
       intro w1 ho1 hg1
       have hb : Below _ _ w1 := (Below.refl _ _).grown hg1 (Nat.le_refl _) (by simp)
       have B1 : Below w.heap.size w w1 := below_step (below_alloc (below_alloc (below_alloc (Below.refl _ _) _) _) _) hb
       have R3 : Row w1 (w.heap.size + 1 + 1 + 1) (.slice (some ⟨w.heap.size + 1 + 1 + 1, 0, none⟩) 32 32) (List.replicate 32 0) := by have h := zeros_row ho1; simpa using h
       have T1 := whole_b hb (whole_alloc (whole_alloc (whole_new w _ _) _) _)
       have E1 := whole_b hb (whole_alloc (whole_new1 w _ _ _) _)
       have E2 := whole_b hb (whole_new2 w _ _ _ _)
       obtain ⟨r0, r1, r2, r3, r4, r5⟩ := six_cells T1
       have fr := whole_free T1
       clear ho1 hg1 hb))
  refine bodyPost_ret (v := .agg #[.slice (some ⟨w.heap.size + 1, 0, none⟩) 0 0, .slice (some ⟨w.heap.size + 1 + 1, 0, none⟩) 0 0, .slice (some ⟨w.heap.size + 1 + 1 + 1, 0, none⟩) 32 32, .int .i64 0, .int .i64 10, .string ByteArray.empty]) (by simp [results, Tryz.results70, go_sem, *]; try rfl) rfl ⟨_, rfl, datOf_top (datOf_base (datOf_rows (d := newDt) (lo := w.heap.size + 1) ?_ ?_ ?_ (by decide) ?_ ?_ ?_) (by omega)) (Nat.le_refl _), ?_⟩
  · have h := row_empty (base := w.heap.size + 1) E1 (Nat.le_refl _)
    show Row _ _ _ []
    repeat (first | with_reducible exact h | ((with_reducible refine row_store ?_ ?hh); case hh => omega))
  · have h := row_empty (base := w.heap.size + 1) E2 (by omega)
    show Row _ _ _ []
    repeat (first | with_reducible exact h | ((with_reducible refine row_store ?_ ?hh); case hh => omega))
  · have h := row_base (base' := w.heap.size + 1) R3 (by omega)
    show Row _ _ _ (List.replicate 32 0)
    repeat (first | with_reducible exact h | ((with_reducible refine row_store ?_ ?hh); case hh => omega))
  · intro k hk hk2; simp [Value.ownBlock] at hk hk2; omega
  · intro k hk hk2; simp [Value.ownBlock] at hk hk2; omega
  · intro k hk hk2; simp [Value.ownBlock] at hk hk2; omega
  · repeat (first | with_reducible exact B1 | with_reducible refine Below.setCell ?_ (by simp) _)

set_option maxRecDepth 100000 in
set_option maxHeartbeats 2000000 in
theorem sNewData_any (w : World) : Calls Tryz.prog 24 #[] w (CopyOf w newDt) := by
  go_enter Tryz.func24, Tryz.ntmps24
  go_wp2_with fail
  refine (sNew_any _).mono ?_
  rintro e w1 ⟨u, rfl, hu, hb⟩
  obtain ⟨C1, j1, C2, j2, C3, j3, rfl⟩ := datIn_form (datOf_in hu)
  have B1 := below_step (below_alloc (Below.refl _ _) _) hb
  have T1 := whole_b hb (whole_new w _ _)
  clear hb
  obtain ⟨r0, r1, r2, r3, r4, r5⟩ := six_cells T1
  have fr := whole_free T1
  go_wp2
  refine bodyPost_ret (v := .agg #[.slice C1 newDt.s.length j1, .slice C2 newDt.b.length j2, .slice C3 newDt.c.length j3, .int .i64 newDt.h, .int .i64 newDt.n, .string newDt.o]) (by simp [results, Tryz.results24, go_sem, *]) rfl ⟨_, rfl, ?_, ?_⟩
  · refine datOf_top (datOf_base (datOf_keep (lo := w.heap.size + 1) (by simpa using hu) (fun g h1 h2 h3 => ?_)) (by omega)) (by simp)
    iterate 6 rw [Below.heap_setCell _ _ _ _ (by show g ≠ w.heap.size; omega)]
  · repeat (first | with_reducible exact B1 | with_reducible refine Below.setCell ?_ (by simp) _)

end Go.Proofs.YthnbaeamekolmaaGreatDoor

namespace Go.Proofs.YthnbaeamekolmaaGreatDoor
open Go.RowKit
set_option linter.unusedVariables false
set_option linter.unusedSimpArgs false

/-- A new host. -/
def newHt : Ht := ⟨List.replicate 4 false, List.replicate 8 0, [], 0, []⟩

theorem make_b (W : World) : (Instr.makeSlice 26 (.int .i64 4) (.int .i64 4)).run Tryz.prog W = .ok (.slice (some ⟨W.heap.size, 0, none⟩) 4 4) (W.alloc (.cells #[.bool false, .bool false, .bool false, .bool false] 4)) :=
  by
    have h := run_make_row' 26 4 (.bool false) 1 Tryz.underlying26 own_infoB rfl .i64 .i64 4 (by decide) (by decide) W
    rw [show madeCells #[Value.bool false] 4 = #[.bool false, .bool false, .bool false, .bool false] from Array.toList_inj.1 (by rw [toList_madeCells_one]; rfl)] at h
    exact h

theorem make_i (W : World) : (Instr.makeSlice 23 (.int .i64 8) (.int .i64 8)).run Tryz.prog W = .ok (.slice (some ⟨W.heap.size, 0, none⟩) 8 8) (W.alloc (.cells #[.int .i64 0, .int .i64 0, .int .i64 0, .int .i64 0, .int .i64 0, .int .i64 0, .int .i64 0, .int .i64 0] 3)) :=
  by
    have h := run_make_row' 23 3 (.int .i64 0) 8 Tryz.underlying23 own_info3 rfl .i64 .i64 8 (by decide) (by decide) W
    rw [show madeCells #[Value.int .i64 0] 8 = #[.int .i64 0, .int .i64 0, .int .i64 0, .int .i64 0, .int .i64 0, .int .i64 0, .int .i64 0, .int .i64 0] from Array.toList_inj.1 (by rw [toList_madeCells_one]; rfl)] at h
    exact h

theorem whole_newAt {w : World} {g : Nat} {t : TypeId} {cs : Array Value} (hg : g = w.heap.size) : Whole (w.alloc (.cells cs t)) g t cs := by
  subst hg
  exact whole_new w t cs

theorem whole_drew {w : World} {g : Nat} {t : TypeId} {cs : Array Value} (h : Whole w g t cs) : Whole w.drew g t cs := h

theorem hnew_fin {w W : World} {g s n d : Nat} (h1 : Whole W g 4 #[.bool false, .bool false, .bool false, .bool false])
    (h2 : Whole W s 3 #[.int .i64 0, .int .i64 0, .int .i64 0, .int .i64 0, .int .i64 0, .int .i64 0, .int .i64 0, .int .i64 0]) (h3 : Whole W n 3 #[]) (h4 : Whole W d 181 #[])
    (l : w.heap.size ≤ g ∧ w.heap.size ≤ s ∧ w.heap.size ≤ n ∧ w.heap.size ≤ d) (e : g ≠ s ∧ g ≠ n ∧ g ≠ d ∧ s ≠ n ∧ s ≠ d ∧ n ≠ d) (hb : Below w.heap.size w W) :
    HCopyOf w newHt (.returned (.agg #[.slice (some ⟨g, 0, none⟩) 4 4, .slice (some ⟨s, 0, none⟩) 8 8, .slice (some ⟨n, 0, none⟩) 0 0, .int .i64 0, .slice (some ⟨d, 0, none⟩) 0 0])) W := by
  obtain ⟨l1, l2, l3, l4⟩ := l
  obtain ⟨e1, e2, e3, e4, e5, e6⟩ := e
  have pt : ∀ (a b la lb : Nat), a ≠ b → Parted (.slice (some ⟨a, 0, none⟩) la la) (.slice (some ⟨b, 0, none⟩) lb lb) := fun a b la lb h k hk hk2 => by
    simp [Value.ownBlock] at hk hk2
    omega
  refine ⟨_, rfl, hostOf_rows (h := newHt) ?_ ?_ ?_ ?_ (pt _ _ _ _ e1) (pt _ _ _ _ e2) (pt _ _ _ _ e3) (pt _ _ _ _ e4) (pt _ _ _ _ e5) (pt _ _ _ _ e6), hb⟩
  · exact borow_whole (zs := List.replicate 4 false) h1 l1 (by unfold maxLen; simp)
  · exact row_whole (zs := List.replicate 8 0) h2 l2 (by unfold maxLen; simp)
  · exact row_empty h3 l3
  · exact ⟨by simp [newHt, dcells], .inr ⟨d, 0, #[], rfl, l4, h4, Nat.le_refl _, by unfold maxLen; simp, by simp [newHt], by simp [newHt, dcells]⟩⟩

end Go.Proofs.YthnbaeamekolmaaGreatDoor

namespace Go.Proofs.YthnbaeamekolmaaGreatDoor
open Go.RowKit
set_option linter.unusedVariables false
set_option linter.unusedSimpArgs false

theorem hostOf_off {w : World} {lo hi g i : Nat} {v u : Value} {h : Ht} (H : HostOf w lo hi v h) (hn : ∀ k, Mine v k → k ≠ g) : HostOf (w.setCell ⟨g, i, none⟩ u) lo hi v h :=
  hostOf_only (S := fun k => k = g) H ⟨rfl, rfl, rfl, by simp [World.setCell], fun k _ hk => Below.heap_setCell w _ u k hk⟩ hn

theorem hnew_fin2 {w W : World} {g s : Nat} (h1 : Whole W g 4 #[.bool false, .bool false, .bool false, .bool false])
    (h2 : Whole W s 3 #[.int .i64 0, .int .i64 0, .int .i64 0, .int .i64 0, .int .i64 0, .int .i64 0, .int .i64 0, .int .i64 0])
    (l : w.heap.size ≤ g ∧ w.heap.size ≤ s) (e : g ≠ s) (hb : Below w.heap.size w W) :
    HCopyOf w newHt (.returned (.agg #[.slice (some ⟨g, 0, none⟩) 4 4, .slice (some ⟨s, 0, none⟩) 8 8, .slice none 0 0, .int .i64 0, .slice none 0 0])) W := by
  obtain ⟨l1, l2⟩ := l
  have pt : Parted (.slice (some ⟨g, 0, none⟩) 4 4) (.slice (some ⟨s, 0, none⟩) 8 8) := fun k hk hk2 => by
    simp [Value.ownBlock] at hk hk2
    omega
  refine ⟨_, rfl, hostOf_rows (h := newHt) ?_ ?_ (row_nil _ _) (drow_nil _ _) pt (parted_sym (parted_nil _)) (parted_sym (parted_nil _)) (parted_sym (parted_nil _)) (parted_sym (parted_nil _)) (parted_nil _), hb⟩
  · exact borow_whole (zs := List.replicate 4 false) h1 l1 (by unfold maxLen; simp)
  · exact row_whole (zs := List.replicate 8 0) h2 l2 (by unfold maxLen; simp)

theorem hGrant_small {h : Ht} (hs : SmallH h) (c : Int) (yes : Bool) : SmallH (hGrant h c yes).1 := by
  obtain ⟨h1, h2, h3, h4⟩ := hs
  unfold hGrant
  split
  · split
    · exact ⟨by simpa using h1, h2, h3, h4⟩
    · exact small_noHt
  · exact small_noHt

theorem hAnswer_small {h : Ht} (hs : SmallH h) (n : Int) : SmallH (hAnswer h n).1 := by
  obtain ⟨h1, h2, h3, h4⟩ := id hs
  unfold hAnswer
  split
  · rename_i q
    have hn := fineH_n (hOK_fine q)
    split
    · split
      · exact hs
      · exact ⟨h1, h2, by simp; omega, h4⟩
    · exact small_noHt
  · exact small_noHt

theorem small_newHt : SmallH newHt := by unfold SmallH newHt; decide

end Go.Proofs.YthnbaeamekolmaaGreatDoor

namespace Go.Proofs.YthnbaeamekolmaaGreatDoor
open Go.RowKit
set_option linter.unusedVariables false
set_option linter.unusedSimpArgs false

/-- One deed over a store: a write at an index lays its cell. -/
def foldD (S : List Int) (x : Dd) : List Int := if x.p = 1 ∧ inB x.a 0 7 = true then S.set x.a.toNat x.b else S

/-- What deeds make of a store, and a code. -/
def hFold (S : List Int) (Q : List Dd) : List Int × Int :=
  if 4096 < S.length ∨ 4096 < Q.length then ([], 2) else if S.length = 8 ∧ cellsB S = true then if ddsB Q then (Q.foldl foldD S, 0) else ([], 1) else ([], 1)

/-- A row handed back in memory of its own, and a code. -/
def RowResOf (w : World) (r : List Int × Int) (e : Ending) (w' : World) : Prop := ∃ u, e = .returned (.tuple #[u, .int .i64 r.2]) ∧ Row w' w.heap.size u r.1 ∧ Below w.heap.size w w'

theorem rowres_none (w : World) (c : Int) {w1 : World} (hb : Below w.heap.size w w1) {g : Nat} (hg : g = w1.heap.size) : RowResOf w ([], c) (.returned (.tuple #[.slice (some ⟨g, 0, none⟩) 0 0, .int .i64 c])) (w1.alloc (.cells #[] 3)) := by
  subst hg
  exact ⟨_, rfl, row_empty (whole_new w1 _ _) hb.size, below_alloc hb _⟩

theorem foldD_len (S : List Int) (x : Dd) : (foldD S x).length = S.length := by unfold foldD; split <;> simp

theorem foldl_len (Q : List Dd) (S : List Int) : (Q.foldl foldD S).length = S.length := by
  induction Q generalizing S with
  | nil => rfl
  | cons q r ih => rw [List.foldl_cons, ih, foldD_len]

theorem fold_next (S : List Int) (Q : List Dd) (k : Nat) (h : k < Q.length) : (Q.take (k + 1)).foldl foldD S = foldD ((Q.take k).foldl foldD S) Q[k] := by
  rw [List.take_succ_eq_append_getElem h, List.foldl_append]
  rfl

end Go.Proofs.YthnbaeamekolmaaGreatDoor

namespace Go.Proofs.YthnbaeamekolmaaGreatDoor
open Go.RowKit
set_option linter.unusedVariables false
set_option linter.unusedSimpArgs false

/-- The new machine. -/
def newMc : Mc := ⟨kernW, [], newDt, newHt, [], 0, 0⟩

/-- What makes a machine leaves: the machine, in memory of its own. -/
def MCopyOf (w : World) (m : Mc) (e : Ending) (w' : World) : Prop := ∃ u, e = .returned u ∧ MchT w' w.heap.size u m ∧ Below w.heap.size w w'

theorem wpList_store_mR {ops : Array Oper} {rest : List Oper} {o : Oper} {a : Act} {w : World} {Q : Exit → Act → World → Prop} (hgd : o.guard = none) (x y : Operand) (ho : o.op = .store 46 x y)
    (g : Nat) (cs : Array Value) (hx : a.eval x = .pointer (some ⟨g, 0, none⟩)) (hy : a.eval y = .agg cs) {t : TypeId} {old : Array Value} (hg : Whole w g t old) (ho' : old.size = 16) (hs : Six10 cs)
    (h : wpList Tryz.prog ops Q rest (a.put o.dst undef) (w.setRow g cs)) : wpList Tryz.prog ops Q (o :: rest) a w :=
  wpList_store_row hgd 46 x y ho g cs hx hy t old hg (by rw [hs.1]; exact size_mI) (by rw [hs.1, ho']) hs.2 h

theorem results_mI {fn : Func} {p : Tmp} (h : fn.results = #[.cell p 46]) (tmps : Array Value) (w : World) (g : Nat) (t : TypeId) (cs : Array Value)
    (hp : tmps.getD p undef = .pointer (some ⟨g, 0, none⟩)) (hg : Whole w g t cs) (hs : Six10 cs) : (results fn tmps).run Tryz.prog w = .ok (.agg cs) w :=
  results_cell_row h tmps w g t _ (0, 0) _ hp hg Tryz.underlying46 rfl (by rw [hs.1]; exact size_mI)

theorem only_row {w : World} {g : Nat} {cs : Array Value} : Only (fun k => k = g) w (w.setRow g cs) := ⟨rfl, rfl, rfl, by simp, fun k hk hne => setRow_other w g k cs hne⟩

theorem whole_row {w : World} {g : Nat} {t : TypeId} {old cs : Array Value} (h : Whole w g t old) : Whole (w.setRow g cs) g t cs := setRow_heap w g old cs t _ h

theorem crow_empty {w : World} {base g : Nat} (h : Whole w g 140 #[]) (hb : base ≤ g) : CRow w base (.slice (some ⟨g, 0, none⟩) 0 0) [] := by
  refine ⟨rfl, .inr ⟨g, 0, #[], rfl, hb, h, Nat.le_refl _, by simp [maxLen], rfl, rfl⟩⟩

theorem mchT_base {w : World} {lo lo' : Nat} {v : Value} {m : Mc} (h : MchT w lo v m) (hl : lo' ≤ lo) : MchT w lo' v m := by
  obtain ⟨x, k, a, b, c, g, s, n, q, z, rfl, h1, h2, h3, h4, h5, hp⟩ := h
  exact ⟨x, k, a, b, c, g, s, n, q, z, rfl, wrow_base h1 hl, row_base h2 hl, datOf_base h3 hl, hostT_base h4 hl, crow_base h5 hl, hp⟩

theorem alloc_szM (w : World) (o : Obj) : (w.alloc o).heap.size = w.heap.size + 1 := by simp

end Go.Proofs.YthnbaeamekolmaaGreatDoor

namespace Go.Proofs.YthnbaeamekolmaaGreatDoor
open Go.RowKit
set_option linter.unusedVariables false
set_option linter.unusedSimpArgs false

/-- The Forth is small. -/
def SmallF (F : Fo) : Prop := SmallM F.m ∧ SmallL F.l ∧ F.q.length ≤ 1048576

/-- What is left of a size: below 0, or the Forth is small. -/
def SzFOf (w : World) (F : Fo) (e : Ending) (w' : World) : Prop := ∃ r : Int, e = .returned (.int .i64 r) ∧ (r = -1 ∨ (0 ≤ r ∧ r ≤ 1048576 ∧ SmallF F)) ∧ Below w.heap.size w w'

set_option maxRecDepth 100000 in
set_option maxHeartbeats 2000000 in
theorem szForth_any (v : Value) (F : Fo) (left : Int) (w : World) (hv : FoL w v F) (h0 : 0 ≤ left) (h1 : left ≤ 1048576) :
    Calls Tryz.prog 9 #[v, .int .i64 left] w (SzFOf w F) := by
  obtain ⟨fs, cs, A0, c0, A9, c9, rfl, hf, hm, hd, hi, hn⟩ := hv
  have HF := Lib.hid hf
  have HM := Lib.hid hm
  have HD := Lib.hid hd
  have HI := Lib.hid hi.1
  have H6 := hf.row
  have V0 := whole_new w 36 fs
  have G0 := f20_range V0 hf
  unfold maxLen at hn
  clear hf hm hd hi
  go_enter Tryz.func9, Tryz.ntmps9
  go_wp2_with (first | (refine wpList_load_mFL rfl _ rfl _ rfl (by assumption) (by assumption) ?_) | fail)
  refine (szMachine_any _ F.m _ _ (mchL_below HM.out (below_alloc (Below.refl _ _) _)) h0 h1).mono ?_
  rintro e w1 ⟨r, rfl, hr, hb⟩
  have B1 := Lib.hid (below_step (below_alloc (Below.refl _ _) _) hb)
  have V1 := whole_b hb V0
  clear hb V0 G0 h0 h1
  rcases hr with rfl | ⟨h0, h1, hs⟩
  · go_wp2
    go_ret
    exact ⟨_, rfl, .inl rfl, B1.out⟩
  have S1 := Lib.hid hs
  clear hs
  obtain ⟨d16, d17, d18, d19⟩ := f20_cells V1 HF.out
  have z1 := whole_lt V1
  go_wp2_with fail
  clear d16 d17 d18 d19
  refine (szDefS_any _ F.l r _ (dfs_below HD.out B1.out) h0 h1).mono ?_
  rintro e w2 ⟨r2, rfl, hr, hb⟩
  have B2 := Lib.hid (below_step B1.out hb)
  have V2 := whole_b hb V1
  clear hb V1 B1 z1
  rcases hr with rfl | ⟨q0, q1, hs⟩
  · go_wp2
    go_ret
    exact ⟨_, rfl, .inl rfl, B2.out⟩
  have S2 := Lib.hid hs
  clear hs
  have q2 : r2 ≤ 1048576 := by omega
  obtain ⟨d16, d17, d18, d19⟩ := f20_cells V2 HF.out
  have z2 := whole_lt V2
  clear q1 h0 h1
  by_cases hz : r2 - (F.n.size : Int) < 0
  · go_wp2
    go_ret
    exact ⟨_, rfl, .inl rfl, B2.out⟩
  obtain ⟨r3, hr3⟩ : ∃ r : Int, r2 - (F.n.size : Int) = r := ⟨_, rfl⟩
  have q3 : 0 ≤ r3 := by omega
  have q4 : r3 ≤ 1048576 := by omega
  have lw : IntKind.i64.wrap (r2 - (F.n.size : Int)) = r3 := by rw [hr3]; exact IntWalk.i64_in _ (by omega)
  clear hz hr3
  go_wp2_with fail
  refine (szItems_any _ _ _ _ _ HI.out q3 q4).mono ?_
  rintro e w3 ⟨rfl, rfl⟩
  have HI' := HI.out
  unfold maxLen at HI'
  by_cases t2 : r3 - F.q.length < 0
  · rw [show leftOf r3 F.q.length = -1 by unfold leftOf; rw [if_pos t2]]
    go_wp2
    go_ret
    exact ⟨_, rfl, .inl rfl, B2.out⟩
  rw [show leftOf r3 F.q.length = r3 - F.q.length by unfold leftOf; rw [if_neg t2]]
  have S3 : Hid (F.q.length ≤ 1048576) := Lib.hid (by omega)
  obtain ⟨r4, hr4⟩ : ∃ r : Int, r3 - (F.q.length : Int) = r := ⟨_, rfl⟩
  rw [hr4]
  have q5 : 0 ≤ r4 := by omega
  have q6 : r4 ≤ 1048576 := by omega
  clear hr4 t2 HI'
  go_wp2
  go_ret
  exact ⟨r4, rfl, .inr ⟨q5, q6, S1.out, S2.out, S3.out⟩, B2.out⟩

/-- What makes a Forth leaves. -/
def FoOf (w : World) (F : Fo) (e : Ending) (w' : World) : Prop := ∃ v, e = .returned v ∧ FoIn w' v F ∧ Below w.heap.size w w'

/-- A new Forth's row with a machine laid into it. -/
def PutM (P cu : Array Value) : Prop := P.size = 20 ∧ (∀ j, j < 16 → P[j]? = cu[j]?) ∧ P[16]? = some (.slice none 0 0) ∧ P[17]? = some (.bool false) ∧ P[18]? = some (.string ⟨#[]⟩) ∧ P[19]? = some (.slice none 0 0)

theorem putM_of {cu : Array Value} (h : Six10 cu) : PutM (putR #[.slice none 0 0, .slice none 0 0, .slice none 0 0, .slice none 0 0, .slice none 0 0, .int .i64 0, .int .i64 0, .string ⟨#[]⟩, .slice none 0 0, .slice none 0 0, .slice none 0 0, .int .i64 0, .slice none 0 0, .slice none 0 0, .int .i64 0, .int .i64 0, .slice none 0 0, .bool false, .string ⟨#[]⟩, .slice none 0 0] 0 cu.toList) cu := by
  have hl : cu.toList.length = 16 := by rw [Array.length_toList]; exact h.1
  refine ⟨by rw [putR_size]; rfl, fun j hj => ?_, ?_, ?_, ?_, ?_⟩
  · have := putR_in #[.slice none 0 0, .slice none 0 0, .slice none 0 0, .slice none 0 0, .slice none 0 0, .int .i64 0, .int .i64 0, .string ⟨#[]⟩, .slice none 0 0, .slice none 0 0, .slice none 0 0, .int .i64 0, .slice none 0 0, .slice none 0 0, .int .i64 0, .int .i64 0, .slice none 0 0, .bool false, .string ⟨#[]⟩, .slice none 0 0] 0 cu.toList (by rw [hl]; decide) j (by omega)
    rw [Nat.zero_add] at this
    rw [this, Array.getElem?_toList]
  all_goals (rw [putR_out _ _ _ _ (.inr (by omega))]; rfl)

theorem putM_cells {w : World} {g : Nat} {t : TypeId} {P cu : Array Value} (h : Whole w g t P) (p : PutM P cu) :
    w.cell? ⟨g, 16, none⟩ = some (.slice none 0 0) ∧ w.cell? ⟨g, 17, none⟩ = some (.bool false) ∧ w.cell? ⟨g, 18, none⟩ = some (.string ⟨#[]⟩) ∧ w.cell? ⟨g, 19, none⟩ = some (.slice none 0 0) :=
  ⟨by rw [whole_cell h]; exact p.2.2.1, by rw [whole_cell h]; exact p.2.2.2.1, by rw [whole_cell h]; exact p.2.2.2.2.1, by rw [whole_cell h]; exact p.2.2.2.2.2⟩

theorem putM_four {P cu : Array Value} {A B : Option Addr} {m n c k : Nat} {b : Bool} {t : ByteArray} (p : PutM P cu) (h : Six10 cu) :
    F20 ((((P.setIfInBounds 16 (.slice A m c)).setIfInBounds 17 (.bool b)).setIfInBounds 18 (.string t)).setIfInBounds 19 (.slice B n k)) cu (.slice A m c) b t (.slice B n k) := by
  obtain ⟨hs, hl, _⟩ := p
  refine f20_of (by simp [hs]) h rfl rfl (fun j hj => ?_) ?_ ?_ ?_ ?_
  · rw [Array.getElem?_setIfInBounds_ne (by omega), Array.getElem?_setIfInBounds_ne (by omega), Array.getElem?_setIfInBounds_ne (by omega), Array.getElem?_setIfInBounds_ne (by omega)]; exact hl j hj
  · rw [Array.getElem?_setIfInBounds_ne (by omega), Array.getElem?_setIfInBounds_ne (by omega), Array.getElem?_setIfInBounds_ne (by omega), Array.getElem?_setIfInBounds_self_of_lt (by omega)]
  · rw [Array.getElem?_setIfInBounds_ne (by omega), Array.getElem?_setIfInBounds_ne (by omega), Array.getElem?_setIfInBounds_self_of_lt (by simp; omega)]
  · rw [Array.getElem?_setIfInBounds_ne (by omega), Array.getElem?_setIfInBounds_self_of_lt (by simp; omega)]
  · rw [Array.getElem?_setIfInBounds_self_of_lt (by simp; omega)]

set_option maxRecDepth 100000 in
set_option maxHeartbeats 4000000 in
theorem toForth_any (v : Value) (F : Fo) (w : World) (hv : FoL w v F) (hs : SmallF F) :
    Calls Tryz.prog 11 #[v] w (FoOf w F) := by
  obtain ⟨fs, cs, A0, c0, A9, c9, rfl, hf, hm, hd, hi, hn⟩ := hv
  have HF := Lib.hid hf
  have HM := Lib.hid hm
  have HD := Lib.hid hd
  have HI := Lib.hid hi
  have HN := Lib.hid hn
  have HS := Lib.hid hs
  have H6 := hf.row
  have VA := whole_alloc (whole_alloc (whole_new w 36 fs) (.cells #[.slice none 0 0, .slice none 0 0, .slice none 0 0, .slice none 0 0, .slice none 0 0, .int .i64 0, .int .i64 0, .string ⟨#[]⟩, .slice none 0 0, .slice none 0 0, .slice none 0 0, .int .i64 0, .slice none 0 0, .slice none 0 0, .int .i64 0, .int .i64 0, .slice none 0 0, .bool false, .string ⟨#[]⟩, .slice none 0 0] 50)) (.cells #[.slice none 0 0, .slice none 0 0, .slice none 0 0, .slice none 0 0, .slice none 0 0, .int .i64 0, .int .i64 0, .string ⟨#[]⟩, .slice none 0 0, .slice none 0 0, .slice none 0 0, .int .i64 0, .slice none 0 0, .slice none 0 0, .int .i64 0, .int .i64 0, .slice none 0 0, .bool false, .string ⟨#[]⟩, .slice none 0 0] 50)
  have VR := whole_alloc (whole_new1 w (.cells fs 36) 50 #[.slice none 0 0, .slice none 0 0, .slice none 0 0, .slice none 0 0, .slice none 0 0, .int .i64 0, .int .i64 0, .string ⟨#[]⟩, .slice none 0 0, .slice none 0 0, .slice none 0 0, .int .i64 0, .slice none 0 0, .slice none 0 0, .int .i64 0, .int .i64 0, .slice none 0 0, .bool false, .string ⟨#[]⟩, .slice none 0 0]) (.cells #[.slice none 0 0, .slice none 0 0, .slice none 0 0, .slice none 0 0, .slice none 0 0, .int .i64 0, .int .i64 0, .string ⟨#[]⟩, .slice none 0 0, .slice none 0 0, .slice none 0 0, .int .i64 0, .slice none 0 0, .slice none 0 0, .int .i64 0, .int .i64 0, .slice none 0 0, .bool false, .string ⟨#[]⟩, .slice none 0 0] 50)
  have VO := whole_new2 w (.cells fs 36) (.cells #[.slice none 0 0, .slice none 0 0, .slice none 0 0, .slice none 0 0, .slice none 0 0, .int .i64 0, .int .i64 0, .string ⟨#[]⟩, .slice none 0 0, .slice none 0 0, .slice none 0 0, .int .i64 0, .slice none 0 0, .slice none 0 0, .int .i64 0, .int .i64 0, .slice none 0 0, .bool false, .string ⟨#[]⟩, .slice none 0 0] 50) 50 #[.slice none 0 0, .slice none 0 0, .slice none 0 0, .slice none 0 0, .slice none 0 0, .int .i64 0, .int .i64 0, .string ⟨#[]⟩, .slice none 0 0, .slice none 0 0, .slice none 0 0, .int .i64 0, .slice none 0 0, .slice none 0 0, .int .i64 0, .int .i64 0, .slice none 0 0, .bool false, .string ⟨#[]⟩, .slice none 0 0]
  have GA := f20_range VA hf
  clear hf hm hd hi hn hs
  go_enter Tryz.func11, Tryz.ntmps11
  go_wp2_with (first | (refine wpList_load_mFL rfl _ rfl _ rfl (by assumption) (by assumption) ?_) | fail)
  refine (toMachine_any _ F.m _ (mchL_below HM.out (below_alloc (below_alloc (below_alloc (Below.refl _ _) _) _) _)) HS.out.1).mono ?_
  rintro e w1 ⟨u, rfl, hu, hb⟩
  obtain ⟨cu, rfl, U6⟩ := mchIn_cells (mchT_in hu)
  have z1 : w.heap.size + 1 + 1 + 1 ≤ w1.heap.size := by have := hb.size; simpa using this
  have M1 : Hid (MchT w1 (w.heap.size + 1 + 1 + 1) (.agg cu) F.m) := Lib.hid (mchT_base hu (by simp))
  have B1 : Hid (Below w.heap.size w w1) := Lib.hid (below_step (below_alloc (below_alloc (below_alloc (Below.refl _ _) _) _) _) hb)
  have VA1 := whole_b hb VA
  have VR1 := whole_b hb VR
  have VO1 := whole_b hb VO
  clear hb hu VA VR VO GA
  obtain ⟨P, PP, hP⟩ : ∃ P, PutM P cu ∧ putR #[.slice none 0 0, .slice none 0 0, .slice none 0 0, .slice none 0 0, .slice none 0 0, .int .i64 0, .int .i64 0, .string ⟨#[]⟩, .slice none 0 0, .slice none 0 0, .slice none 0 0, .int .i64 0, .slice none 0 0, .slice none 0 0, .int .i64 0, .int .i64 0, .slice none 0 0, .bool false, .string ⟨#[]⟩, .slice none 0 0] 0 cu.toList = P := ⟨_, putM_of U6, rfl⟩
  have HP := Lib.hid PP
  go_wp2_with (first
    | (refine wpList_store_mF rfl _ _ rfl _ _ rfl rfl VO1 rfl U6 ?_
       have ON1 := only_setCells w1 (w.heap.size + 1 + 1) 0 cu.toList
       have VA2 := whole_onl VA1 ON1 (by omega)
       have VR2 := whole_onl VR1 ON1 (by omega)
       have VO2 := whole_setCells VO1 0 cu.toList
       rw [hP] at VO2
       have B2 : Hid (Below w.heap.size w (w1.setCells (w.heap.size + 1 + 1) 0 cu.toList)) := Lib.hid (B1.out.trans (only_below ON1 B1.out.size (fun k e => by omega)))
       have M2 : Hid (MchT (w1.setCells (w.heap.size + 1 + 1) 0 cu.toList) (w.heap.size + 1 + 1 + 1) (.agg cu) F.m) := Lib.hid (mchT_only M1.out ON1 (fun g e q => by have := (mchT_mine M1.out e).1; omega))
       have z2 : w.heap.size + 1 + 1 + 1 ≤ (w1.setCells (w.heap.size + 1 + 1) 0 cu.toList).heap.size := Nat.le_trans z1 ON1.size
       clear ON1 VA1 VR1 VO1 B1 M1 z1 hP PP
       generalize w1.setCells (w.heap.size + 1 + 1) 0 cu.toList = w2 at *
       obtain ⟨d16, -, -, -⟩ := f20_cells VA2 HF.out
       have yA := whole_lt VA2)
    | fail)
  clear d16
  refine (toDefS_to _ F.l _ (dfs_below HD.out B2.out) HS.out.2.1).mono ?_
  rintro e w3 ⟨g3, rfl, hg3, hg4, hd3, hb⟩
  have D3 := Lib.hid hd3
  have B3 := Lib.hid (below_step B2.out hb)
  have VA3 := whole_b hb VA2
  have VR3 := whole_b hb VR2
  have VO3 := whole_b hb VO2
  have M3 := Lib.hid (mchT_below M2.out hb)
  have z3 : w.heap.size + 1 + 1 + 1 ≤ w3.heap.size := Nat.le_trans z2 hb.size
  clear hb hd3 VA2 VR2 VO2 B2 M2 yA
  obtain ⟨-, d17, d18, d19⟩ := f20_cells VA3 HF.out
  obtain ⟨p16, p17, p18, p19⟩ := putM_cells VO3 HP.out
  have fo := whole_free VO3
  have yA := whole_lt VA3
  have yO := whole_lt VO3
  have ONA : Only (fun k => k = (w.heap.size + 1 + 1)) w3 (((w3.setCell ⟨(w.heap.size + 1 + 1), 16, none⟩ (.slice (some ⟨g3, 0, none⟩) F.l.length F.l.length)).setCell ⟨(w.heap.size + 1 + 1), 17, none⟩ (.bool F.c)).setCell ⟨(w.heap.size + 1 + 1), 18, none⟩ (.string F.n)) := only_trans (only_trans (mc_put (w := w3) (G := (w.heap.size + 1 + 1)) (i := 16) _) (mc_put (G := (w.heap.size + 1 + 1)) (i := 17) _)) (mc_put (G := (w.heap.size + 1 + 1)) (i := 18) _)
  have BA : Below w.heap.size w (((w3.setCell ⟨(w.heap.size + 1 + 1), 16, none⟩ (.slice (some ⟨g3, 0, none⟩) F.l.length F.l.length)).setCell ⟨(w.heap.size + 1 + 1), 17, none⟩ (.bool F.c)).setCell ⟨(w.heap.size + 1 + 1), 18, none⟩ (.string F.n)) := B3.out.trans (only_below ONA B3.out.size (fun k e => by omega))
  have VAA := whole_onl VA3 ONA (by omega)
  have VRA := whole_onl VR3 ONA (by omega)
  have VOA := whole_set (whole_set (whole_set VO3 16 (.slice (some ⟨g3, 0, none⟩) F.l.length F.l.length)) 17 (.bool F.c)) 18 (.string F.n)
  have MA := Lib.hid (mchT_only M3.out ONA (fun g e q => by have := (mchT_mine M3.out e).1; omega))
  have DA := Lib.hid (dfsTo_os D3.out hg4 ONA (fun k e => by omega))
  have KA := Lib.hid (And.intro BA (And.intro VAA (And.intro VRA VOA)))
  have zA : w.heap.size + 1 + 1 + 1 ≤ (((w3.setCell ⟨(w.heap.size + 1 + 1), 16, none⟩ (.slice (some ⟨g3, 0, none⟩) F.l.length F.l.length)).setCell ⟨(w.heap.size + 1 + 1), 17, none⟩ (.bool F.c)).setCell ⟨(w.heap.size + 1 + 1), 18, none⟩ (.string F.n)).heap.size := Nat.le_trans z3 ONA.size
  have gA : g3 < (((w3.setCell ⟨(w.heap.size + 1 + 1), 16, none⟩ (.slice (some ⟨g3, 0, none⟩) F.l.length F.l.length)).setCell ⟨(w.heap.size + 1 + 1), 17, none⟩ (.bool F.c)).setCell ⟨(w.heap.size + 1 + 1), 18, none⟩ (.string F.n)).heap.size := Nat.lt_of_lt_of_le hg4 ONA.size
  have ZA := Lib.hid (And.intro zA gA)
  clear ONA BA VAA VRA VOA B3 M3 D3 zA gA
  go_wp2_with fail
  clear d17 d18 d19 p16 p17 p18 p19 fo yA yO VA3 VR3 VO3
  refine (toItemS_any _ F.q _ (its_below HI.out KA.out.1) HS.out.2.2).mono ?_
  rintro e w4 ⟨v4, rfl, hr, -, hb⟩
  obtain ⟨_, A4, c4, rfl, _⟩ := irow_its hr
  have z4 : w.heap.size + 1 + 1 + 1 ≤ w4.heap.size := Nat.le_trans ZA.out.1 hb.size
  have g4 : g3 < w4.heap.size := Nat.lt_of_lt_of_le ZA.out.2 hb.size
  have B4 := Lib.hid (below_step KA.out.1 hb)
  have VR4 := whole_b hb KA.out.2.2.1
  have VO4 := whole_b hb KA.out.2.2.2
  have M4 := Lib.hid (mchT_below MA.out hb)
  have D4 := Lib.hid (dfsTo_below DA.out ZA.out.2 hb)
  have R4 := Lib.hid (irow_base hr ZA.out.1)
  have ON5 : Only (fun k => k = (w.heap.size + 1 + 1)) w4 (w4.setCell ⟨(w.heap.size + 1 + 1), 19, none⟩ (.slice A4 F.q.length c4)) := mc_put (w := w4) (G := (w.heap.size + 1 + 1)) (i := 19) _
  have VR5 := whole_onl VR4 ON5 (by omega)
  have VO5 := whole_set VO4 19 (.slice A4 F.q.length c4)
  have p19 := whole_cell VO4 19
  have fo := whole_free VO4
  have yO := whole_lt VO4
  obtain ⟨fs', hfs⟩ : ∃ fs', ((((P.setIfInBounds 16 (.slice (some ⟨g3, 0, none⟩) F.l.length F.l.length)).setIfInBounds 17 (.bool F.c)).setIfInBounds 18 (.string F.n)).setIfInBounds 19 (.slice A4 F.q.length c4)) = fs' := ⟨_, rfl⟩
  have F5 : F20 fs' cu (.slice (some ⟨g3, 0, none⟩) F.l.length F.l.length) F.c F.n (.slice A4 F.q.length c4) := by rw [← hfs]; exact putM_four HP.out U6
  have hp19 : ((((P.setIfInBounds 16 (.slice (some ⟨g3, 0, none⟩) F.l.length F.l.length)).setIfInBounds 17 (.bool F.c)).setIfInBounds 18 (.string F.n)))[19]? = some (.slice none 0 0) := by
    rw [Array.getElem?_setIfInBounds_ne (by omega), Array.getElem?_setIfInBounds_ne (by omega), Array.getElem?_setIfInBounds_ne (by omega)]; exact HP.out.2.2.2.2.2
  rw [hp19] at p19
  rw [hfs] at VO5
  have B5 := Lib.hid (B4.out.trans (only_below ON5 B4.out.size (fun k e => by omega)))
  have M5 := Lib.hid (mchT_only M4.out ON5 (fun g e q => by have := (mchT_mine M4.out e).1; omega))
  have D5 := Lib.hid (dfsTo_os D4.out g4 ON5 (fun k e => by have := ZA.out.1; omega))
  have R5 := Lib.hid (irow_keep R4.out fun x hx => ON5.block x (irow_lt R4.out x hx).2 (fun q => by have := (irow_lt R4.out x hx).1; omega))
  have F5H := Lib.hid F5
  have s5H := Lib.hid (f20_twenty F5)
  clear hb hr KA ZA MA DA B4 M4 D4 R4 ON5 hfs hp19 F5 VR4 VO4
  go_wp2_with (first
    | (refine wpList_load_fI rfl _ rfl _ rfl VO5 s5H.out ?_)
    | (refine wpList_store_fR rfl _ _ rfl _ _ rfl rfl VR5 rfl s5H.out ?_)
    | fail)
  have ON6 : Only (fun k => k = w.heap.size + 1) (w4.setCell ⟨(w.heap.size + 1 + 1), 19, none⟩ (.slice A4 F.q.length c4)) ((w4.setCell ⟨(w.heap.size + 1 + 1), 19, none⟩ (.slice A4 F.q.length c4)).setRow (w.heap.size + 1) fs') := only_row
  have M6 := mchT_only M5.out ON6 (fun g e q => by have := (mchT_mine M5.out e).1; omega)
  have D6 := dfsTo_os D5.out (by simpa using g4) ON6 (fun k e => by omega)
  have R6 := irow_keep R5.out fun x hx => ON6.block x (irow_lt R5.out x hx).2 (fun q => by have := (irow_lt R5.out x hx).1; omega)
  obtain ⟨cu', a1, k1, a2, k2, ecu, MR⟩ := mrow_of M6
  injection ecu with ecu
  subst ecu
  refine bodyPost_ret (v := .agg fs') (results_fI rfl _ _ (w.heap.size + 1) _ _ rfl (whole_row VR5) s5H.out) rfl ⟨_, rfl, ⟨fs', cu, a1, k1, a2, k2, _, _, _, _, rfl, ⟨F5H.out, MR, dfsTo_end D6 (by have := HS.out.2.1.1; unfold maxLen; omega), Nat.le_refl _, irow_its R6, HN.out⟩⟩, ?_⟩
  exact B5.out.trans (only_below ON6 B5.out.size (fun k e => by omega))

end Go.Proofs.YthnbaeamekolmaaGreatDoor

namespace Go.Proofs.YthnbaeamekolmaaGreatDoor
open Go.RowKit
set_option linter.unusedVariables false
set_option linter.unusedSimpArgs false

set_option maxRecDepth 100000 in
set_option maxHeartbeats 2000000 in
theorem eqForth_same (u v : Value) (F : Fo) (w : World) (hu : FoIn w u F) (hv : FoIn w v F) :
    Calls Tryz.prog 13 #[u, v] w fun e w' => e = .returned (.bool true) ∧ Below w.heap.size w w' := by
  obtain ⟨fs, cs, A1, k1, A2, k2, A0, c0, A9, c9, rfl, hu⟩ := hu
  obtain ⟨gs, ds, B1, j1, B2, j2, B0, e0, B9, e9, rfl, hv⟩ := hv
  have HU := Lib.hid hu
  have HV := Lib.hid hv
  have U6 := hu.row.row
  have V6 := hv.row.row
  have X0 := whole_alloc (whole_new w 50 fs) (.cells gs 50)
  have Y0 := whole_new1 w (.cells fs 50) 50 gs
  have GX := f20_range X0 hu.row
  have GY := f20_range Y0 hv.row
  have BB : Hid (Below w.heap.size w ((w.alloc (.cells fs 50)).alloc (.cells gs 50))) := Lib.hid (below_alloc (below_alloc (Below.refl _ _) _) _)
  have tc : (F.c != F.c) = false := by cases F.c <;> rfl
  have tn : (F.n.toList != F.n.toList) = false := by simp
  clear hu hv
  go_enter Tryz.func13, Tryz.ntmps13
  go_wp2_with (first | (refine wpList_load_mF rfl _ rfl _ rfl (by assumption) (by assumption) ?_) | fail)
  refine (eqMachine_same _ _ F.m _ (mchIn_below HU.out.mach.all BB.out) (mchIn_below HV.out.mach.all BB.out)).mono ?_
  rintro e w1 ⟨rfl, hb⟩
  have B1 := Lib.hid (below_step BB.out hb)
  have X1 := whole_b hb X0
  have Y1 := whole_b hb Y0
  clear hb X0 Y0 GX GY BB
  obtain ⟨a16, a17, a18, a19⟩ := f20_cells X1 HU.out.row
  obtain ⟨b16, b17, b18, b19⟩ := f20_cells Y1 HV.out.row
  have zx := whole_lt X1
  have zy := whole_lt Y1
  go_wp2_with fail
  clear a16 a17 a18 a19 b16 b17 b18 b19
  refine (eqDefS_same _ _ F.l _ (dfs_below HU.out.defs B1.out) (dfs_below HV.out.defs B1.out)).mono ?_
  rintro e w2 ⟨rfl, hb⟩
  have B2 := Lib.hid (below_step B1.out hb)
  have X2 := whole_b hb X1
  have Y2 := whole_b hb Y1
  clear hb X1 Y1 B1 zx zy
  obtain ⟨a16, a17, a18, a19⟩ := f20_cells X2 HU.out.row
  obtain ⟨b16, b17, b18, b19⟩ := f20_cells Y2 HV.out.row
  have zx := whole_lt X2
  have zy := whole_lt Y2
  go_wp2_with fail
  clear a16 a17 a18 a19 b16 b17 b18 b19
  refine (eqItemS_same _ _ F.q _ (its_below HU.out.items B2.out) (its_below HV.out.items B2.out)).mono ?_
  rintro e w3 ⟨rfl, hb⟩
  have B3 := Lib.hid (below_step B2.out hb)
  clear hb
  go_wp2
  go_ret
  exact ⟨rfl, B3.out⟩

end Go.Proofs.YthnbaeamekolmaaGreatDoor

namespace Go.Proofs.YthnbaeamekolmaaGreatDoor
open Go.Joins Go.ChangeShapes Go.WideShapes Go.RowKit Go.Deep Go.ChangeAt
set_option linter.unusedVariables false
set_option linter.unusedSimpArgs false

section
variable {H : Type} {enc : TypeId × Value → H} {w : World} {base : Nat} {spare : Nat → Bool} {held : Bool}

set_option maxRecDepth 100000 in
set_option maxHeartbeats 1000000 in
theorem open_forth {r : Reach} {b0 : Nat} {v : Value} {d : DataW H} {p : List MemPlace} (hv : Value.okWide Tryz.prog w r b0 36 v) (h : DataW.Trod enc Tryz.prog w base (fun _ => true) held 36 v d p) :
    ∃ D : Fo, FoL w v D := by
  obtain ⟨cs, rfl, hsz⟩ := okWide_struct Tryz.underlying36 hv
  have hC : Tryz.prog.cellsOf 36 = 20 := by kernel_rfl
  rw [hC] at hsz
  obtain ⟨l⟩ := cs
  match l, hsz with
  | [c0, c1, c2, c3, c4, c5, c6, c7, c8, c9, c10, c11, c12, c13, c14, c15, c16, c17, c18, c19], _ =>
    obtain ⟨fuel, hf⟩ := h
    obtain ⟨xs, n, _, hx, _, hlen, hg⟩ := DataW.trod_struct Tryz.underlying36 hf
    have one : ∀ t, t = 33 ∨ t = 4 ∨ t = 9 ∨ t = 34 → Tryz.prog.cellsOf t = 1 := by
      rintro t (rfl | rfl | rfl | rfl) <;> kernel_rfl
    have sixteen : Tryz.prog.cellsOf 32 = 16 := by kernel_rfl
    match xs, hlen with
    | [y0, y1, y2, y3, y4], _ =>
      have g0 := hg 0 _ rfl
      have g1 := hg 1 _ rfl
      have g2 := hg 2 _ rfl
      have g3 := hg 3 _ rfl
      have g4 := hg 4 _ rfl
      simp [Value.cells, one, sixteen] at g0 g1 g2 g3 g4
      obtain ⟨zm, hm⟩ := machine_of_trod g0
      obtain ⟨zd, hd⟩ := dfs_of_cell g1
      obtain ⟨b2, e2, _⟩ := DataW.trod_bool Tryz.underlying4 g2
      obtain ⟨s3, e3, _, l3⟩ := DataW.trod_string Tryz.underlying9 g3
      obtain ⟨zq, hq⟩ := its_of_cell g4
      simp only [List.cons.injEq, and_true] at e2 e3
      subst e2 e3
      obtain ⟨_, A0, k0, rfl, _⟩ := id hd
      obtain ⟨_, A9, k9, rfl, _⟩ := id hq
      obtain ⟨cs, ecs, h6⟩ := mchL_cells hm
      injection ecs with ecs
      subst ecs
      exact ⟨⟨zm, zd, b2, s3, zq⟩, _, _, A0, k0, A9, k9, rfl, ⟨h6, ⟨rfl, rfl⟩, rfl⟩, hm, hd, hq, l3⟩

end

end Go.Proofs.YthnbaeamekolmaaGreatDoor
