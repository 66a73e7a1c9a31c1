/- FoldDeeds, the given side. -/
import Derived.Test.YthhaimolcgkpaaaHsH
namespace Go.Proofs.Ythhaimolcgkpaaa
open Go.RowKit
set_option linter.unusedVariables false
set_option linter.unusedSimpArgs false

theorem fold_skip {S : List Int} {Q : List Dd} {k : Nat} {x : Dd} (h : k < Q.length) (e : Q[k] = x) (hn : ¬ (x.p = 1 ∧ inB x.a 0 7 = true)) : (Q.take (k + 1)).foldl foldD S = (Q.take k).foldl foldD S := by
  rw [fold_next S Q k h, e]; unfold foldD; rw [if_neg hn]

theorem fold_write {S : List Int} {Q : List Dd} {k j : Nat} {x : Dd} (h : k < Q.length) (e : Q[k] = x) (hp : x.p = 1) (ha : x.a = j) (hj : inB x.a 0 7 = true) : (Q.take (k + 1)).foldl foldD S = ((Q.take k).foldl foldD S).set j x.b := by
  rw [fold_next S Q k h, e]; unfold foldD; rw [if_pos ⟨hp, hj⟩, ha]; rfl

set_option maxRecDepth 100000 in
set_option maxHeartbeats 4000000 in
theorem sFold_main (u v : Value) (S : List Int) (Q : List Dd) (w : World) (hu : Ints w u S) (hv : Dds w v Q) (h2 : Q.length ≤ 4096) (h8 : S.length = 8) (hc : cellsB S = true) :
    Calls Try.prog 37 #[u, v] w (RowResOf w (hFold S Q)) := by
  have R0 : Hid (ddsB Q = false → hFold S Q = ([], 1)) := Lib.hid fun h => by unfold hFold; rw [if_neg (by omega), if_pos ⟨h8, hc⟩, h]; rfl
  have R1 : Hid (ddsB Q = true → hFold S Q = (Q.foldl foldD S, 0)) := Lib.hid fun h => by unfold hFold; rw [if_neg (by omega), if_pos ⟨h8, hc⟩, h]; rfl
  have HU := Lib.hid hu
  have HV := Lib.hid hv
  obtain ⟨l1, A1, k1, rfl, _⟩ := hu
  obtain ⟨l2, A2, k2, rfl, _⟩ := hv
  unfold maxLen at l1 l2
  have H8 := Lib.hid h8
  have t0 : ((S.length : Int) != 8) = false := by rw [bne_eq_false_iff_eq]; omega
  have u0 : ((S.length : Int) == 8) = true := by rw [beq_iff_eq]; omega
  have z0 : S.length ≤ 8 := by omega
  have z1 : 8 ≤ S.length := by omega
  clear h8
  go_enter Try.func37, Try.ntmps37
  go_wp2_with (first
    | (go_at_call 79; refine (sCells_any _ S _ HU.out).mono ?_; rintro e w' ⟨rfl, rfl⟩)
    | (at_builtin; refine wpList_append_new rfl _ _ rfl rfl _ rfl (by simp) (.slice A1 S.length k1) S rfl HU.out (by omega) ?_; intro G m w1 hr hb
       obtain ⟨g, m', hG, hg1, hg2, _⟩ := row_form hr (by omega)
       simp only [Value.slice.injEq, true_and] at hG
       obtain ⟨rfl, rfl⟩ := hG
       have RR := Lib.hid hr
       have BB := Lib.hid hb
       have VV := Lib.hid (dds_below HV.out hb)
       clear hr hb))
  go_loopw [7] (fun i wr => ∃ k : Nat, k ≤ Q.length ∧ i = .int .i64 k ∧ DdsTo Q k ∧ Row wr w.heap.size (.slice (some ⟨g, 0, none⟩) S.length m) ((Q.take k).foldl foldD S) ∧ Below w.heap.size w wr ∧ Dds wr (.slice A2 Q.length k2) Q) (fun i _ => Q.length - (intOf i).toNat)
  case atStart => exact ⟨0, Nat.zero_le _, rfl, ddsTo_zero _, RR.out, BB.out, VV.out⟩
  case round =>
    obtain ⟨k, hk, rfl, hat, hr, hb, hq⟩ := hrel
    have AT := Lib.hid hat
    have B := Lib.hid hb
    have RW := Lib.hid hr
    have VQ := Lib.hid hq
    clear hat hb hr RR BB VV
    by_cases hlt : k < Q.length
    · obtain ⟨_, A', cap', e', hcc⟩ := hq
      simp only [Value.slice.injEq, true_and] at e'
      obtain ⟨rfl, rfl⟩ := e'
      obtain ⟨ad, rfl, hd⟩ := hcc (by omega)
      have hdk := hd k hlt
      have HD := Lib.hid hdk
      obtain ⟨d0, d1, d2, d3⟩ := hdk
      clear hcc hd
      cases e : ddB Q[k]
      · have NO := Lib.hid (dds_not hlt e)
        go_wp2_with (go_at_call 80; refine (sDeed_any _ _).mono ?_; rintro e w2 ⟨rfl, hb2⟩; have B2 := Lib.hid (below_step B.out hb2); clear hb2)
        go_ret2
        rw [R0.out NO.out]
        exact rowres_none w 1 B2.out rfl
      · have NX := Lib.hid (ddsTo_next AT.out hlt e)
        have SK := Lib.hid (fun x (e : Q[k] = x) => fold_skip (S := S) hlt e)
        have WR := Lib.hid (fun j x (e : Q[k] = x) => fold_write (S := S) (j := j) hlt e)
        generalize Q[k] = y at *
        obtain ⟨p, a, b, r⟩ := y
        simp only at *
        by_cases hp : p = 1
        · subst hp
          cases ha : inB a 0 7
          · have SQ := Lib.hid (SK.out _ rfl (fun h => by simp [ha] at h))
            go_wp2_with (first
              | (go_at_call 80; refine (sDeed_any ⟨1, a, b, r⟩ _).mono ?_; rintro e w2 ⟨rfl, hb2⟩; have B2 := Lib.hid (below_step B.out hb2); have Q2 := Lib.hid (dds_below VQ.out hb2); have RW2 := Lib.hid (row_below RW.out hb2); obtain ⟨f0, f1, f2, f3⟩ := ddAt_below hb2 HD.out; clear hb2)
              | (go_at_call 57; refine (sIn_any _ _ _ _).mono ?_; rintro e w' ⟨rfl, rfl⟩))
            go_roundw
            case rel => exact ⟨k + 1, by omega, by go_num, NX.out, by rw [SQ.out]; exact RW2.out, B2.out, Q2.out⟩
            case measure => simp [intOf]; omega
          · obtain ⟨q0, q1⟩ := of_inB ha
            obtain ⟨j, rfl⟩ : ∃ j : Nat, a = j := ⟨a.toNat, by omega⟩
            have SQ := Lib.hid (WR.out j _ rfl rfl rfl ha)
            have hj : j < S.length := by omega
            go_wp2_with (first
              | (go_at_call 80; refine (sDeed_any ⟨1, j, b, r⟩ _).mono ?_; rintro e w2 ⟨rfl, hb2⟩; have B2 := Lib.hid (below_step B.out hb2); have Q2 := Lib.hid (dds_below VQ.out hb2); have RW2 := Lib.hid (row_below RW.out hb2); obtain ⟨f0, f1, f2, f3⟩ := ddAt_below hb2 HD.out; clear hb2)
              | (go_at_call 57; refine (sIn_any _ _ _ _).mono ?_; rintro e w' ⟨rfl, rfl⟩))
            have R3 : Row w2 w.heap.size (.slice (some ⟨g, 0, none⟩) ((Q.take k).foldl foldD S).length m) ((Q.take k).foldl foldD S) := by rw [foldl_len]; exact RW2.out
            have ko := row_cell R3 j (by rw [foldl_len]; exact hj)
            have kf := row_free RW2.out j
            have SR := Lib.hid (row_set R3 j b).1
            rw [foldl_len] at SR
            have SB := Lib.hid (B2.out.setCell (p := ⟨g, j, none⟩) hg1 (.int .i64 b))
            have QS : Hid (∀ u : Value, Dds (w2.setCell ⟨g, j, none⟩ u) (.slice (some ad) Q.length k2) Q) := Lib.hid fun u => dds_below HV.out (B2.out.setCell (p := ⟨g, j, none⟩) hg1 u)
            generalize ((Q.take k).foldl foldD S)[j]'(by rw [foldl_len]; exact hj) = old at *
            clear R3 d0 d1 d2 d3
            go_region
            all_goals
              go_wp2
              go_roundw
              case rel => exact ⟨k + 1, by omega, by go_num, NX.out, by rw [SQ.out]; exact SR.out, SB.out.drew, QS.out _⟩
              case measure => simp [intOf]; omega
        · have up : (p == 1) = false := by rw [beq_eq_false_iff_ne]; exact hp
          have SQ := Lib.hid (SK.out _ rfl (fun h => hp h.1))
          go_wp2_with (first
            | (go_at_call 80; refine (sDeed_any ⟨p, a, b, r⟩ _).mono ?_; rintro e w2 ⟨rfl, hb2⟩; have B2 := Lib.hid (below_step B.out hb2); have Q2 := Lib.hid (dds_below VQ.out hb2); have RW2 := Lib.hid (row_below RW.out hb2); obtain ⟨f0, f1, f2, f3⟩ := ddAt_below hb2 HD.out; clear hb2))
          go_roundw
          case rel => exact ⟨k + 1, by omega, by go_num, NX.out, by rw [SQ.out]; exact RW2.out, B2.out, Q2.out⟩
          case measure => simp [intOf]; omega
    · obtain rfl : k = Q.length := by omega
      have E := Lib.hid (ddsTo_end AT.out)
      clear hq
      go_wp2
      go_ret2
      rw [R1.out E.out]
      refine ⟨_, rfl, ?_, B.out⟩
      have h := RW.out
      rwa [List.take_length] at h

theorem sFold_any (u v : Value) (S : List Int) (Q : List Dd) (w : World) (hu : Ints w u S) (hv : Dds w v Q) :
    Calls Try.prog 37 #[u, v] w (RowResOf w (hFold S Q)) := by
  by_cases hl : 4096 < S.length ∨ 4096 < Q.length
  · exact sFold_long u v S Q w hu hv hl
  · by_cases hb : S.length = 8 ∧ cellsB S = true
    · exact sFold_main u v S Q w hu hv (by omega) hb.1 hb.2
    · exact sFold_bad u v S Q w hu hv (by omega) (by omega) hb

end Go.Proofs.Ythhaimolcgkpaaa
