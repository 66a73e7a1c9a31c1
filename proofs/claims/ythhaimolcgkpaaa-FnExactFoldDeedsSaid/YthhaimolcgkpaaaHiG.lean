/- FoldDeeds, impl's side. -/
import Derived.Test.YthhaimolcgkpaaaHiF
namespace Go.Proofs.Ythhaimolcgkpaaa
open Go.RowKit
set_option linter.unusedVariables false
set_option linter.unusedSimpArgs false

theorem ddDat_inj {x y : Dd} (h : ddDat x = ddDat y) : x = y := by
  obtain ⟨p, a, b, r⟩ := x
  obtain ⟨q, c, d, s⟩ := y
  simp [ddDat] at h
  obtain ⟨rfl, rfl, rfl, rfl⟩ := h
  rfl

theorem rowres_nil (w : World) (c : Int) {w1 : World} (hb : Below w.heap.size w w1) : RowResOf w ([], c) (.returned (.tuple #[.slice none 0 0, .int .i64 c])) w1 := ⟨_, rfl, row_nil _ _, hb⟩

theorem stoB_of {S : List Int} (h : ¬ (S.length = 8 ∧ cellsB S = true)) : stoB S = false := by
  cases q : stoB S
  · rfl
  · exact absurd (stoB_fine.1 q) h

set_option maxRecDepth 100000 in
set_option maxHeartbeats 1000000 in
theorem iFold_long (u v : Value) (S : List Int) (Q : List Dd) (w : World) (hu : Ints w u S) (hv : Dds w v Q) (hl : 4096 < S.length ∨ 4096 < Q.length) :
    Calls Try.prog 40 #[u, v] w (RowResOf w (hFold S Q)) := by
  have R : Hid (hFold S Q = ([], 2)) := Lib.hid (by unfold hFold; rw [if_pos hl])
  obtain ⟨l1, A1, k1, rfl, _⟩ := hu
  obtain ⟨l2, A2, k2, rfl, _⟩ := hv
  unfold maxLen at l1 l2
  by_cases h1 : 4096 < S.length
  · have t1 : (4096 : Int) < S.length := by omega
    clear h1 hl
    go_enter Try.func40, Try.ntmps40
    go_wp2
    go_ret2
    rw [R.out]
    exact rowres_nil w 2 (Below.refl _ _)
  · have t1 : ¬ (4096 : Int) < S.length := by omega
    have t2 : (4096 : Int) < Q.length := by omega
    clear h1 hl
    go_enter Try.func40, Try.ntmps40
    go_wp2
    go_ret2
    rw [R.out]
    exact rowres_nil w 2 (Below.refl _ _)

set_option maxRecDepth 100000 in
set_option maxHeartbeats 1000000 in
theorem iFold_bad (u v : Value) (S : List Int) (Q : List Dd) (w : World) (hu : Ints w u S) (hv : Dds w v Q) (h1 : S.length ≤ 4096) (h2 : Q.length ≤ 4096) (hb : stoB S = false ∨ ddsB Q = false) :
    Calls Try.prog 40 #[u, v] w (RowResOf w (hFold S Q)) := by
  have R : Hid (hFold S Q = ([], 1)) := Lib.hid (by
    unfold hFold
    rw [if_neg (by omega)]
    split
    · rename_i q
      rcases hb with hb | hb
      · rw [stoB_fine.2 q] at hb; cases hb
      · rw [hb]; rfl
    · rfl)
  have HU := Lib.hid hu
  have HV := Lib.hid hv
  obtain ⟨l1, A1, k1, rfl, _⟩ := hu
  obtain ⟨l2, A2, k2, rfl, _⟩ := hv
  unfold maxLen at l1 l2
  have t1 : ¬ (4096 : Int) < S.length := by omega
  have t2 : ¬ (4096 : Int) < Q.length := by omega
  clear h1 h2
  cases e : stoB S
  · clear hb
    go_enter Try.func40, Try.ntmps40
    go_wp2_with (go_at_call 74; refine (storeOK_any _ S _ HU.out).mono ?_; rintro e w' ⟨rfl, rfl⟩)
    go_ret2
    rw [R.out]
    exact rowres_nil w 1 (Below.refl _ _)
  · have e2 : ddsB Q = false := by rcases hb with h | h; rw [e] at h; cases h; exact h
    clear hb
    go_enter Try.func40, Try.ntmps40
    go_wp2_with (first
      | (go_at_call 74; refine (storeOK_any _ S _ HU.out).mono ?_; rintro e w' ⟨rfl, rfl⟩)
      | (go_at_call 76; refine (allDeeds_any _ Q _ HV.out).mono ?_; rintro e w1 ⟨rfl, hb1⟩; have B1 := Lib.hid hb1; clear hb1))
    go_ret2
    rw [R.out]
    exact rowres_nil w 1 B1.out

set_option maxRecDepth 100000 in
set_option maxHeartbeats 2000000 in
theorem iFold_main (u v : Value) (S : List Int) (Q : List Dd) (w : World) (hu : Ints w u S) (hv : Dds w v Q) (h2 : Q.length ≤ 4096) (hs : stoB S = true) (hd : ddsB Q = true) :
    Calls Try.prog 40 #[u, v] w (RowResOf w (hFold S Q)) := by
  have h8 := (stoB_fine.1 hs).1
  have R : Hid (hFold S Q = (turnTo S Q S.length, 0)) := Lib.hid (by unfold hFold; rw [if_neg (by omega), if_pos (stoB_fine.1 hs), hd, turnTo_end S Q h8]; rfl)
  have HU := Lib.hid hu
  have HV := Lib.hid hv
  have HDD := Lib.hid hd
  obtain ⟨l1, A1, k1, rfl, _⟩ := hu
  obtain ⟨l2, A2, k2, rfl, _⟩ := hv
  unfold maxLen at l1 l2
  have t1 : ¬ (4096 : Int) < S.length := by omega
  have t2 : ¬ (4096 : Int) < Q.length := by omega
  have z0 : S.length ≤ 8 := by omega
  have z1 : 8 ≤ S.length := by omega
  clear h8
  go_enter Try.func40, Try.ntmps40
  go_wp2_with (first
    | (go_at_call 74; refine (storeOK_any _ S _ HU.out).mono ?_; rintro e w' ⟨rfl, rfl⟩)
    | (go_at_call 76; refine (allDeeds_any _ Q _ HV.out).mono ?_; rintro e w1 ⟨rfl, hb1⟩; have B1 := Lib.hid hb1; clear hb1)
    | (go_at_call 82; refine (copyCells_any _ S _ (ints_below HU.out B1.out) (by omega)).mono ?_; rintro e w2 ⟨q, rfl, hr, -, hb2⟩
       obtain ⟨g, m, rfl, hg1, hg2, _⟩ := row_form hr (by omega)
       have B2 := Lib.hid (below_step B1.out hb2)
       have R2 := Lib.hid hr
       have z2 := hb2.size
       have z3 := B1.out.size
       clear hb2 hr)
    | (go_at_call 83; refine (latest_any6 _ Q _ (dds_below HV.out B2.out) HDD.out h2).mono ?_; rintro e w3 ⟨b, n, D, rfl, hm, hla, hbb, hb3⟩
       have B3 := Lib.hid (below_step B2.out hb3)
       have R3 := Lib.hid (row_below R2.out hb3)
       have M3 := Lib.hid hm
       have LA := Lib.hid hla
       have nb : b ≠ g := by omega
       clear hb3 hm hla))
  go_loopw [8, 9, 10, 33] (fun _ _ _ i wr => ∃ k : Nat, k ≤ S.length ∧ i = .int .i64 k ∧ Row wr w1.heap.size (.slice (some ⟨g, 0, none⟩) S.length m) (turnTo S Q k) ∧ wr.ownsMap Try.prog 97 ddElem b n D ∧ Below w.heap.size w wr) (fun _ _ _ i _ => S.length - (intOf i).toNat)
  case atStart => exact ⟨0, Nat.zero_le _, rfl, by rw [turnTo_zero]; exact R3.out, M3.out, B3.out⟩
  case round =>
    obtain ⟨k, hk, rfl, hr, hm, hb⟩ := hrel
    have B := Lib.hid hb
    have RW := Lib.hid hr
    have M := Lib.hid hm
    clear hb hr hm
    by_cases hlt : k < S.length
    · have KY := Lib.hid (tgt_of 1 k (by decide) (WalkArith.wf_i64 (by omega)))
      have LK := Lib.hid (LA.out k (by omega))
      cases hh : lastW Q k Q.length with
      | none =>
        have HS : Hid (Go.Maps.has D (tlit 1 k) = false) := Lib.hid (by rw [LK.out.1, hh]; rfl)
        have TS := Lib.hid (turnTo_skip (S := S) hh)
        clear hh
        go_wp2_with (first
          | (at_lookup; refine wpList_lookup_dd _ rfl _ _ rfl b n D rfl M.out _ _ rfl KY.out ?_; intro y hy; rw [HS.out]; clear hy))
        go_roundw
        case rel => exact ⟨k + 1, by omega, by go_num, by rw [TS.out]; exact row_alloc RW.out _, M.out.alloc _, below_alloc B.out _⟩
        case measure => simp [intOf]; omega
      | some x =>
        have HS : Hid (Go.Maps.has D (tlit 1 k) = true) := Lib.hid (by rw [LK.out.1, hh]; rfl)
        have TS := Lib.hid (turnTo_put (S := S) hh)
        have HX := Lib.hid (LK.out.2 x hh)
        clear hh
        have RK : Row wr w1.heap.size (.slice (some ⟨g, 0, none⟩) (turnTo S Q k).length m) (turnTo S Q k) := by rw [turnTo_len]; exact RW.out
        have ko := row_cell RK k (by rw [turnTo_len]; exact hlt)
        have kf := row_free RW.out k
        have gl := (row_lt RW.out g rfl).2
        generalize (turnTo S Q k)[k]'(by rw [turnTo_len]; exact hlt) = old at *
        have ST : Hid (Row (wr.setCell ⟨g, k, none⟩ (.int .i64 x.b)) w1.heap.size (.slice (some ⟨g, 0, none⟩) S.length m) (turnTo S Q (k + 1)) ∧ wr.grownBy (wr.setCell ⟨g, k, none⟩ (.int .i64 x.b)) (some g)) := Lib.hid (by
          have h := row_set RK k x.b
          rw [turnTo_len] at h
          exact ⟨by rw [TS.out]; exact h.1, h.2⟩)
        have MS := Lib.hid (M.out.kept ST.out.2 (by simp; omega))
        have BS := Lib.hid (B.out.setCell (p := ⟨g, k, none⟩) (show w.heap.size ≤ g by omega) (.int .i64 x.b))
        clear RK
        go_wp2_with (first
          | (at_lookup; refine wpList_lookup_dd _ rfl _ _ rfl b n D rfl M.out _ _ rfl KY.out ?_; intro y hy; rw [HS.out]; obtain rfl : x = y := ddDat_inj (HX.out.symm.trans hy); clear hy))
        go_roundw
        case rel => exact ⟨k + 1, by omega, by go_num, row_alloc ST.out.1 _, MS.out.alloc _, below_alloc BS.out _⟩
        case measure => simp [intOf]; omega
    · obtain rfl : k = S.length := by omega
      go_wp2
      go_ret2
      rw [R.out]
      exact ⟨_, rfl, row_base RW.out (by omega), B.out⟩

theorem iFold_any (u v : Value) (S : List Int) (Q : List Dd) (w : World) (hu : Ints w u S) (hv : Dds w v Q) :
    Calls Try.prog 40 #[u, v] w (RowResOf w (hFold S Q)) := by
  by_cases hl : 4096 < S.length ∨ 4096 < Q.length
  · exact iFold_long u v S Q w hu hv hl
  · cases h1 : stoB S
    · exact iFold_bad u v S Q w hu hv (by omega) (by omega) (.inl h1)
    · cases h2 : ddsB Q
      · exact iFold_bad u v S Q w hu hv (by omega) (by omega) (.inr h2)
      · exact iFold_main u v S Q w hu hv (by omega) h1 h2

theorem hFold_small {S : List Int} (Q : List Dd) (h : S.length ≤ 1048576) : (hFold S Q).1.length ≤ 1048576 := by
  unfold hFold
  split
  · simp
  · split
    · split
      · simp only [foldl_len]; exact h
      · simp
    · simp

end Go.Proofs.Ythhaimolcgkpaaa
