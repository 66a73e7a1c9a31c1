/- PkY: several of my texts, laid together: IdC, IdD, DsC, DsD, DsE. -/
import Derived.Test.YtafhmajnkicifaaPkX
namespace Go.Proofs.Ytafhmajnkicifaa
open Go.RowKit
set_option linter.unusedVariables false
set_option linter.unusedSimpArgs false

set_option maxRecDepth 100000 in
set_option maxHeartbeats 8000000 in
theorem block1_drew (b : Nat) (a : Option Addr) (len cap : Nat) (zs : List Int) (N : Nat) (w : World) (h : Src w b a len cap zs N) (hN : N ≤ 80000) :
    Calls Try.prog 43 #[.pointer (some ⟨b, 0, none⟩), .int .i64 86, .int .i64 1] w (BlockDrew w b a len cap zs (N + 1000) 1 44) := by
  have hb0 := src_lt h
  have HA := Lib.hid (src_code_lt h)
  have H := Lib.hid h
  clear h
  go_enter Try.func43, Try.ntmps43
  go_wp2_with fail
  refine (next_small _ _ _ _ _ _ _ _ (src_alloc H.out _) (by unfold Few; omega) (by omega) (by omega)).mono ?_
  rintro e w1 ⟨v, ⟨v0, v1⟩, rfl, hs, hg⟩
  have S := hs
  have G := grown_trans (gb_alloc (World.grownBy.refl w _) _) hg
  have R_out : IRow w1 w.heap.size (.slice (some ⟨w.heap.size, 0, none⟩) 0 0) [] := irow_gb hg (irow_empty w (Nat.le_refl _)) hb0
  clear hs hg
  go_wp2
  go_loopw [7, 8] (fun o i wr => ∃ (k : Int) (A : Option Addr) (n c : Nat) (Q : List It), 0 ≤ k ∧ k ≤ 4 ∧ i = .int .i64 k ∧ o = .slice A n c ∧ IRow wr w.heap.size (.slice A n c) Q ∧ Fits 1 Q ∧ (Q.length : Int) ≤ (4 - k) * 11 ∧ Src wr b a len cap zs (N + 1 + (4 - k.toNat) * 210) ∧ w.grownBy wr (some b)) (fun _ i _ => (intOf i).toNat)
  case atStart => exact ⟨1 + v, _, _, _, [], by omega, by omega, by go_num, rfl, R_out, fits_nil _, by simp; omega, src_mono S (by omega), G⟩
  case round =>
    clear R_out S G
    obtain ⟨k, A, n, c, Q, k0, k4, rfl, rfl, R_out, F, LQ, S, G⟩ := hrel
    have zwr : w.heap.size ≤ wr.heap.size := G.size
    by_cases hlt : 0 < k
    · go_wp2_with fail
      refine (chance_i _ _ _ _ _ _ _ _ S (by unfold Few; omega) (by omega) (by omega)).mono ?_
      rintro e w11 ⟨y, rfl, hs, hg⟩
      have R_out := irow_gb hg R_out (by omega)
      have S := hs
      have G := grown_trans G hg
      have zw11 : w.heap.size ≤ w11.heap.size := by have := hg.size; omega
      clear hs hg
      cases y
      · go_wp2_with fail
        refine (flat_drew _ _ _ _ _ _ _ S (by omega)).mono ?_
        rintro e w12 ⟨⟨xk, xv⟩, rfl, xb, hx, hs, hg⟩
        have R_out := irow_gb hg R_out (by omega)
        have S := hs
        have G := grown_trans G hg
        have zw12 : w.heap.size ≤ w12.heap.size := by have := hg.size; omega
        clear hs hg
        simp only at hx xb
        rcases hx with rfl | rfl
        · cases hin : inB xv 57 62
          · have FX := xb
            go_wp2_with (first | (go_at_call 59; refine (sIn_any _ _ _ _).mono ?_; rintro e w' ⟨rfl, rfl⟩; rw [hin]) | (at_builtin; refine wpList_append_items rfl (.tmp 37) (.tmp 39) rfl rfl w.heap.size _ Q (irow_below R_out (by repeat (first | with_reducible exact Below.refl _ _ | with_reducible refine Below.setCell ?_ (by first | omega | (simp; done) | (simp; omega)) _ | with_reducible refine Below.alloc ?_ (by first | omega | (simp; done) | (simp; omega)) _))) _ [⟨1, xv⟩] (its_lit ⟨1, xv⟩ (by simp)) rfl rfl (by simp; omega) (by simp; omega) ?_; intro v9 w9 hr hgr hat; obtain ⟨A9, n9, c9, rfl⟩ := irow_form hr; have BX : Below w.heap.size w12 w9 := Below.grown (by repeat (first | with_reducible exact Below.refl _ _ | with_reducible refine Below.setCell ?_ (by first | omega | (simp; done) | (simp; omega)) _ | with_reducible refine Below.alloc ?_ (by first | omega | (simp; done) | (simp; omega)) _)) hgr (by simp; omega) (fun g hg => (irow_lt R_out g hg).1); have S := src_lo S hb0 HA.out BX; have G := gb_of_lo G BX; clear BX hgr hat))
            have FN : Fits 1 (Q ++ [(⟨1, xv⟩ : It)]) := fits_app F (fits_mono (fits_one FX (by simp)) (by omega))
            have L9 : ((Q ++ [(⟨1, xv⟩ : It)]).length : Int) ≤ (4 - (k - 1)) * 11 := by simp; omega
            generalize Q ++ [(⟨1, xv⟩ : It)] = Q9 at *
            clear R_out
            go_roundw
            case rel => exact ⟨k - 1, _, _, _, Q9, by omega, by omega, by go_num, rfl, hr, FN, L9, src_mono S (by omega), G⟩
            case measure => simp [intOf]; omega
          · have FX : itB (⟨1, 1⟩ : It) = true := by decide
            go_wp2_with (first | (go_at_call 59; refine (sIn_any _ _ _ _).mono ?_; rintro e w' ⟨rfl, rfl⟩; rw [hin]) | (at_builtin; refine wpList_append_items rfl (.tmp 37) (.tmp 39) rfl rfl w.heap.size _ Q (irow_below R_out (by repeat (first | with_reducible exact Below.refl _ _ | with_reducible refine Below.setCell ?_ (by first | omega | (simp; done) | (simp; omega)) _ | with_reducible refine Below.alloc ?_ (by first | omega | (simp; done) | (simp; omega)) _))) _ [⟨1, 1⟩] (its_lit ⟨1, 1⟩ (by simp)) rfl rfl (by simp; omega) (by simp; omega) ?_; intro v9 w9 hr hgr hat; obtain ⟨A9, n9, c9, rfl⟩ := irow_form hr; have BX : Below w.heap.size w12 w9 := Below.grown (by repeat (first | with_reducible exact Below.refl _ _ | with_reducible refine Below.setCell ?_ (by first | omega | (simp; done) | (simp; omega)) _ | with_reducible refine Below.alloc ?_ (by first | omega | (simp; done) | (simp; omega)) _)) hgr (by simp; omega) (fun g hg => (irow_lt R_out g hg).1); have S := src_lo S hb0 HA.out BX; have G := gb_of_lo G BX; clear BX hgr hat))
            have FN : Fits 1 (Q ++ [(⟨1, 1⟩ : It)]) := fits_app F (fits_mono (fits_one FX (by simp)) (by omega))
            have L9 : ((Q ++ [(⟨1, 1⟩ : It)]).length : Int) ≤ (4 - (k - 1)) * 11 := by simp; omega
            generalize Q ++ [(⟨1, 1⟩ : It)] = Q9 at *
            clear R_out
            go_roundw
            case rel => exact ⟨k - 1, _, _, _, Q9, by omega, by omega, by go_num, rfl, hr, FN, L9, src_mono S (by omega), G⟩
            case measure => simp [intOf]; omega
        · have FX := xb
          go_wp2_with (first | (at_builtin; refine wpList_append_items rfl (.tmp 37) (.tmp 39) rfl rfl w.heap.size _ Q (irow_below R_out (by repeat (first | with_reducible exact Below.refl _ _ | with_reducible refine Below.setCell ?_ (by first | omega | (simp; done) | (simp; omega)) _ | with_reducible refine Below.alloc ?_ (by first | omega | (simp; done) | (simp; omega)) _))) _ [⟨2, xv⟩] (its_lit ⟨2, xv⟩ (by simp)) rfl rfl (by simp; omega) (by simp; omega) ?_; intro v9 w9 hr hgr hat; obtain ⟨A9, n9, c9, rfl⟩ := irow_form hr; have BX : Below w.heap.size w12 w9 := Below.grown (by repeat (first | with_reducible exact Below.refl _ _ | with_reducible refine Below.setCell ?_ (by first | omega | (simp; done) | (simp; omega)) _ | with_reducible refine Below.alloc ?_ (by first | omega | (simp; done) | (simp; omega)) _)) hgr (by simp; omega) (fun g hg => (irow_lt R_out g hg).1); have S := src_lo S hb0 HA.out BX; have G := gb_of_lo G BX; clear BX hgr hat))
          have FN : Fits 1 (Q ++ [(⟨2, xv⟩ : It)]) := fits_app F (fits_mono (fits_one FX (by simp)) (by omega))
          have L9 : ((Q ++ [(⟨2, xv⟩ : It)]).length : Int) ≤ (4 - (k - 1)) * 11 := by simp; omega
          generalize Q ++ [(⟨2, xv⟩ : It)] = Q9 at *
          clear R_out
          go_roundw
          case rel => exact ⟨k - 1, _, _, _, Q9, by omega, by omega, by go_num, rfl, hr, FN, L9, src_mono S (by omega), G⟩
          case measure => simp [intOf]; omega
      · go_wp2_with fail
        refine (next_small _ _ _ _ _ _ _ _ S (by unfold Few; omega) (by omega) (by omega)).mono ?_
        rintro e w12 ⟨v5, ⟨lv5, uv5⟩, rfl, hs, hg⟩
        have R_out := irow_gb hg R_out (by omega)
        have S := hs
        have G := grown_trans G hg
        have zw12 : w.heap.size ≤ w12.heap.size := by have := hg.size; omega
        clear hs hg
        rcases (by omega : v5 = 0 ∨ v5 = 1 ∨ v5 = 2 ∨ v5 = 3 ∨ v5 = 4) with rfl | rfl | rfl | rfl | rfl
        · go_wp2_with fail
          refine (item1_any 3 _).mono ?_
          rintro e w13 ⟨v_a, rfl, hr, hbb⟩
          have R_out := irow_below R_out hbb
          have BX := hbb.mono (show w.heap.size ≤ _ from (by first | omega | (simp; done) | (simp; omega)))
          have S := src_lo S hb0 HA.out BX
          have G := gb_of_lo G BX
          have zw13 : w.heap.size ≤ w13.heap.size := by have := hbb.size; (try simp at this); omega
          clear BX hbb
          obtain ⟨A_a, n_a, c_a, rfl⟩ := irow_form hr
          have R_a := hr
          clear hr
          go_wp2_with fail
          refine (block0_drew _ _ _ _ _ _ _ S (by omega)).mono ?_
          rintro e w14 ⟨v_b, Q_b, rfl, hr, F_b, L_b, hs, hg⟩
          have R_out := irow_gb hg R_out (by omega)
          have R_a := irow_gb hg R_a (by omega)
          have S := hs
          have G := grown_trans G hg
          have zw14 : w.heap.size ≤ w14.heap.size := by have := hg.size; omega
          clear hs hg
          obtain ⟨A_b, n_b, c_b, rfl⟩ := irow_form hr
          have R_b := hr
          clear hr
          go_wp2_with fail
          refine (item1_any 5 _).mono ?_
          rintro e w15 ⟨v_c, rfl, hr, hbb⟩
          have R_out := irow_below R_out hbb
          have R_a := irow_below R_a hbb
          have R_b := irow_below R_b hbb
          have BX := hbb.mono (show w.heap.size ≤ _ from (by first | omega | (simp; done) | (simp; omega)))
          have S := src_lo S hb0 HA.out BX
          have G := gb_of_lo G BX
          have zw15 : w.heap.size ≤ w15.heap.size := by have := hbb.size; (try simp at this); omega
          clear BX hbb
          obtain ⟨A_c, n_c, c_c, rfl⟩ := irow_form hr
          have R_c := hr
          clear hr
          go_wp2_with fail
          refine (cat_any _ 4 [Q, [⟨3, 0⟩], Q_b, [⟨5, 0⟩]] _ (cats4 _ _ rfl (irow_its R_out) (irow_its R_a) (irow_its R_b) (irow_its R_c)) (by simp) rfl (by omega) (by simp; omega)).mono ?_
          rintro e w16 ⟨v9, rfl, hr, hbb⟩
          obtain ⟨A9, n9, c9, rfl⟩ := irow_form hr
          have R9 := irow_base hr (show w.heap.size ≤ _ from (by first | omega | (simp; done) | (simp; omega)))
          clear hr
          have BX := ((Below.refl _ _).alloc (by omega) _ : Below w.heap.size w15 _).trans (hbb.mono (show w.heap.size ≤ _ from (by first | omega | (simp; done) | (simp; omega))))
          have S := src_lo S hb0 HA.out BX
          have G := gb_of_lo G BX
          clear BX hbb
          have FN : Fits 1 (Q ++ (([⟨3, 0⟩] : List It) ++ Q_b ++ ([⟨5, 0⟩] : List It))) := fits_app F (fits_two F_b (by omega) (by omega))
          have E9 : ([Q, [⟨3, 0⟩], Q_b, [⟨5, 0⟩]] : List (List It)).flatten = Q ++ (([⟨3, 0⟩] : List It) ++ Q_b ++ ([⟨5, 0⟩] : List It)) := by simp
          rw [E9] at R9
          have L9 : ((Q ++ (([⟨3, 0⟩] : List It) ++ Q_b ++ ([⟨5, 0⟩] : List It))).length : Int) ≤ (4 - (k - 1)) * 11 := by simp; omega
          generalize Q ++ (([⟨3, 0⟩] : List It) ++ Q_b ++ ([⟨5, 0⟩] : List It)) = Q9 at *
          clear E9 R_out R_a R_b R_c
          go_wp2
          go_roundw
          case rel => exact ⟨k - 1, _, _, _, Q9, by omega, by omega, by go_num, rfl, R9, FN, L9, src_mono S (by omega), G⟩
          case measure => simp [intOf]; omega
        · go_wp2_with fail
          refine (item1_any 3 _).mono ?_
          rintro e w13 ⟨v_a, rfl, hr, hbb⟩
          have R_out := irow_below R_out hbb
          have BX := hbb.mono (show w.heap.size ≤ _ from (by first | omega | (simp; done) | (simp; omega)))
          have S := src_lo S hb0 HA.out BX
          have G := gb_of_lo G BX
          have zw13 : w.heap.size ≤ w13.heap.size := by have := hbb.size; (try simp at this); omega
          clear BX hbb
          obtain ⟨A_a, n_a, c_a, rfl⟩ := irow_form hr
          have R_a := hr
          clear hr
          go_wp2_with fail
          refine (block0_drew _ _ _ _ _ _ _ S (by omega)).mono ?_
          rintro e w14 ⟨v_b, Q_b, rfl, hr, F_b, L_b, hs, hg⟩
          have R_out := irow_gb hg R_out (by omega)
          have R_a := irow_gb hg R_a (by omega)
          have S := hs
          have G := grown_trans G hg
          have zw14 : w.heap.size ≤ w14.heap.size := by have := hg.size; omega
          clear hs hg
          obtain ⟨A_b, n_b, c_b, rfl⟩ := irow_form hr
          have R_b := hr
          clear hr
          go_wp2_with fail
          refine (item1_any 4 _).mono ?_
          rintro e w15 ⟨v_c, rfl, hr, hbb⟩
          have R_out := irow_below R_out hbb
          have R_a := irow_below R_a hbb
          have R_b := irow_below R_b hbb
          have BX := hbb.mono (show w.heap.size ≤ _ from (by first | omega | (simp; done) | (simp; omega)))
          have S := src_lo S hb0 HA.out BX
          have G := gb_of_lo G BX
          have zw15 : w.heap.size ≤ w15.heap.size := by have := hbb.size; (try simp at this); omega
          clear BX hbb
          obtain ⟨A_c, n_c, c_c, rfl⟩ := irow_form hr
          have R_c := hr
          clear hr
          go_wp2_with fail
          refine (block0_drew _ _ _ _ _ _ _ S (by omega)).mono ?_
          rintro e w16 ⟨v_d, Q_d, rfl, hr, F_d, L_d, hs, hg⟩
          have R_out := irow_gb hg R_out (by omega)
          have R_a := irow_gb hg R_a (by omega)
          have R_b := irow_gb hg R_b (by omega)
          have R_c := irow_gb hg R_c (by omega)
          have S := hs
          have G := grown_trans G hg
          have zw16 : w.heap.size ≤ w16.heap.size := by have := hg.size; omega
          clear hs hg
          obtain ⟨A_d, n_d, c_d, rfl⟩ := irow_form hr
          have R_d := hr
          clear hr
          go_wp2_with fail
          refine (item1_any 5 _).mono ?_
          rintro e w17 ⟨v_e, rfl, hr, hbb⟩
          have R_out := irow_below R_out hbb
          have R_a := irow_below R_a hbb
          have R_b := irow_below R_b hbb
          have R_c := irow_below R_c hbb
          have R_d := irow_below R_d hbb
          have BX := hbb.mono (show w.heap.size ≤ _ from (by first | omega | (simp; done) | (simp; omega)))
          have S := src_lo S hb0 HA.out BX
          have G := gb_of_lo G BX
          have zw17 : w.heap.size ≤ w17.heap.size := by have := hbb.size; (try simp at this); omega
          clear BX hbb
          obtain ⟨A_e, n_e, c_e, rfl⟩ := irow_form hr
          have R_e := hr
          clear hr
          go_wp2_with fail
          refine (cat_any _ 6 [Q, [⟨3, 0⟩], Q_b, [⟨4, 0⟩], Q_d, [⟨5, 0⟩]] _ (cats6 _ _ rfl (irow_its R_out) (irow_its R_a) (irow_its R_b) (irow_its R_c) (irow_its R_d) (irow_its R_e)) (by simp) rfl (by omega) (by simp; omega)).mono ?_
          rintro e w18 ⟨v9, rfl, hr, hbb⟩
          obtain ⟨A9, n9, c9, rfl⟩ := irow_form hr
          have R9 := irow_base hr (show w.heap.size ≤ _ from (by first | omega | (simp; done) | (simp; omega)))
          clear hr
          have BX := ((Below.refl _ _).alloc (by omega) _ : Below w.heap.size w17 _).trans (hbb.mono (show w.heap.size ≤ _ from (by first | omega | (simp; done) | (simp; omega))))
          have S := src_lo S hb0 HA.out BX
          have G := gb_of_lo G BX
          clear BX hbb
          have FN : Fits 1 (Q ++ (([⟨3, 0⟩] : List It) ++ Q_b ++ ([⟨4, 0⟩] : List It) ++ Q_d ++ ([⟨5, 0⟩] : List It))) := fits_app F (fits_three F_b F_d (by omega))
          have E9 : ([Q, [⟨3, 0⟩], Q_b, [⟨4, 0⟩], Q_d, [⟨5, 0⟩]] : List (List It)).flatten = Q ++ (([⟨3, 0⟩] : List It) ++ Q_b ++ ([⟨4, 0⟩] : List It) ++ Q_d ++ ([⟨5, 0⟩] : List It)) := by simp
          rw [E9] at R9
          have L9 : ((Q ++ (([⟨3, 0⟩] : List It) ++ Q_b ++ ([⟨4, 0⟩] : List It) ++ Q_d ++ ([⟨5, 0⟩] : List It))).length : Int) ≤ (4 - (k - 1)) * 11 := by simp; omega
          generalize Q ++ (([⟨3, 0⟩] : List It) ++ Q_b ++ ([⟨4, 0⟩] : List It) ++ Q_d ++ ([⟨5, 0⟩] : List It)) = Q9 at *
          clear E9 R_out R_a R_b R_c R_d R_e
          go_wp2
          go_roundw
          case rel => exact ⟨k - 1, _, _, _, Q9, by omega, by omega, by go_num, rfl, R9, FN, L9, src_mono S (by omega), G⟩
          case measure => simp [intOf]; omega
        · go_wp2_with fail
          refine (next_small _ _ _ _ _ _ _ _ S (by unfold Few; omega) (by omega) (by omega)).mono ?_
          rintro e w13 ⟨v6, ⟨lv6, uv6⟩, rfl, hs, hg⟩
          have R_out := irow_gb hg R_out (by omega)
          have S := hs
          have G := grown_trans G hg
          have zw13 : w.heap.size ≤ w13.heap.size := by have := hg.size; omega
          clear hs hg
          go_wp2_with fail
          refine (lit1_any (1 + v6) _).mono ?_
          rintro e w14 ⟨v_a, rfl, hr, hbb⟩
          have R_out := irow_below R_out hbb
          have BX := hbb.mono (show w.heap.size ≤ _ from (by first | omega | (simp; done) | (simp; omega)))
          have S := src_lo S hb0 HA.out BX
          have G := gb_of_lo G BX
          have zw14 : w.heap.size ≤ w14.heap.size := by have := hbb.size; (try simp at this); omega
          clear BX hbb
          obtain ⟨A_a, n_a, c_a, rfl⟩ := irow_form hr
          have R_a := hr
          clear hr
          go_wp2_with fail
          refine (item1_any 6 _).mono ?_
          rintro e w15 ⟨v_c, rfl, hr, hbb⟩
          have R_out := irow_below R_out hbb
          have R_a := irow_below R_a hbb
          have BX := hbb.mono (show w.heap.size ≤ _ from (by first | omega | (simp; done) | (simp; omega)))
          have S := src_lo S hb0 HA.out BX
          have G := gb_of_lo G BX
          have zw15 : w.heap.size ≤ w15.heap.size := by have := hbb.size; (try simp at this); omega
          clear BX hbb
          obtain ⟨A_c, n_c, c_c, rfl⟩ := irow_form hr
          have R_c := hr
          clear hr
          go_wp2_with fail
          refine (word1_any 29 _).mono ?_
          rintro e w16 ⟨v_d, rfl, hr, hbb⟩
          have R_out := irow_below R_out hbb
          have R_a := irow_below R_a hbb
          have R_c := irow_below R_c hbb
          have BX := hbb.mono (show w.heap.size ≤ _ from (by first | omega | (simp; done) | (simp; omega)))
          have S := src_lo S hb0 HA.out BX
          have G := gb_of_lo G BX
          have zw16 : w.heap.size ≤ w16.heap.size := by have := hbb.size; (try simp at this); omega
          clear BX hbb
          obtain ⟨A_d, n_d, c_d, rfl⟩ := irow_form hr
          have R_d := hr
          clear hr
          go_wp2_with fail
          refine (block0_drew _ _ _ _ _ _ _ S (by omega)).mono ?_
          rintro e w17 ⟨v_b, Q_b, rfl, hr, F_b, L_b, hs, hg⟩
          have R_out := irow_gb hg R_out (by omega)
          have R_a := irow_gb hg R_a (by omega)
          have R_c := irow_gb hg R_c (by omega)
          have R_d := irow_gb hg R_d (by omega)
          have S := hs
          have G := grown_trans G hg
          have zw17 : w.heap.size ≤ w17.heap.size := by have := hg.size; omega
          clear hs hg
          obtain ⟨A_b, n_b, c_b, rfl⟩ := irow_form hr
          have R_b := hr
          clear hr
          go_wp2_with fail
          refine (word1_any 1 _).mono ?_
          rintro e w18 ⟨v_e, rfl, hr, hbb⟩
          have R_out := irow_below R_out hbb
          have R_a := irow_below R_a hbb
          have R_c := irow_below R_c hbb
          have R_d := irow_below R_d hbb
          have R_b := irow_below R_b hbb
          have BX := hbb.mono (show w.heap.size ≤ _ from (by first | omega | (simp; done) | (simp; omega)))
          have S := src_lo S hb0 HA.out BX
          have G := gb_of_lo G BX
          have zw18 : w.heap.size ≤ w18.heap.size := by have := hbb.size; (try simp at this); omega
          clear BX hbb
          obtain ⟨A_e, n_e, c_e, rfl⟩ := irow_form hr
          have R_e := hr
          clear hr
          go_wp2_with fail
          refine (word1_any 37 _).mono ?_
          rintro e w19 ⟨v_f, rfl, hr, hbb⟩
          have R_out := irow_below R_out hbb
          have R_a := irow_below R_a hbb
          have R_c := irow_below R_c hbb
          have R_d := irow_below R_d hbb
          have R_b := irow_below R_b hbb
          have R_e := irow_below R_e hbb
          have BX := hbb.mono (show w.heap.size ≤ _ from (by first | omega | (simp; done) | (simp; omega)))
          have S := src_lo S hb0 HA.out BX
          have G := gb_of_lo G BX
          have zw19 : w.heap.size ≤ w19.heap.size := by have := hbb.size; (try simp at this); omega
          clear BX hbb
          obtain ⟨A_f, n_f, c_f, rfl⟩ := irow_form hr
          have R_f := hr
          clear hr
          go_wp2_with fail
          refine (item1_any 7 _).mono ?_
          rintro e w20 ⟨v_g, rfl, hr, hbb⟩
          have R_out := irow_below R_out hbb
          have R_a := irow_below R_a hbb
          have R_c := irow_below R_c hbb
          have R_d := irow_below R_d hbb
          have R_b := irow_below R_b hbb
          have R_e := irow_below R_e hbb
          have R_f := irow_below R_f hbb
          have BX := hbb.mono (show w.heap.size ≤ _ from (by first | omega | (simp; done) | (simp; omega)))
          have S := src_lo S hb0 HA.out BX
          have G := gb_of_lo G BX
          have zw20 : w.heap.size ≤ w20.heap.size := by have := hbb.size; (try simp at this); omega
          clear BX hbb
          obtain ⟨A_g, n_g, c_g, rfl⟩ := irow_form hr
          have R_g := hr
          clear hr
          go_wp2_with fail
          refine (cat_any _ 8 [Q, [⟨2, 1 + v6⟩], [⟨6, 0⟩], [⟨1, 29⟩], Q_b, [⟨1, 1⟩], [⟨1, 37⟩], [⟨7, 0⟩]] _ (cats8 _ _ rfl (irow_its R_out) (irow_its R_a) (irow_its R_c) (irow_its R_d) (irow_its R_b) (irow_its R_e) (irow_its R_f) (irow_its R_g)) (by simp) rfl (by omega) (by simp; omega)).mono ?_
          rintro e w21 ⟨v9, rfl, hr, hbb⟩
          obtain ⟨A9, n9, c9, rfl⟩ := irow_form hr
          have R9 := irow_base hr (show w.heap.size ≤ _ from (by first | omega | (simp; done) | (simp; omega)))
          clear hr
          have BX := ((Below.refl _ _).alloc (by omega) _ : Below w.heap.size w20 _).trans (hbb.mono (show w.heap.size ≤ _ from (by first | omega | (simp; done) | (simp; omega))))
          have S := src_lo S hb0 HA.out BX
          have G := gb_of_lo G BX
          clear BX hbb
          have FN : Fits 1 (Q ++ (([⟨2, 1 + v6⟩] : List It) ++ (([⟨6, 0⟩] : List It) ++ (([⟨1, 29⟩] : List It) ++ Q_b ++ ([⟨1, 1⟩] : List It) ++ ([⟨1, 37⟩] : List It)) ++ ([⟨7, 0⟩] : List It)))) := fits_app F (fits_app (fits_mono (fits_one (itB_lit (by omega)) (by simp)) (by omega)) (fits_mono (fits_two (fits_app (fits_app (fits_app (fits_one (by decide) (by simp)) F_b) (fits_one (by decide) (by simp))) (fits_one (by decide) (by simp))) (by omega) (by omega)) (by omega)))
          have E9 : ([Q, [⟨2, 1 + v6⟩], [⟨6, 0⟩], [⟨1, 29⟩], Q_b, [⟨1, 1⟩], [⟨1, 37⟩], [⟨7, 0⟩]] : List (List It)).flatten = Q ++ (([⟨2, 1 + v6⟩] : List It) ++ (([⟨6, 0⟩] : List It) ++ (([⟨1, 29⟩] : List It) ++ Q_b ++ ([⟨1, 1⟩] : List It) ++ ([⟨1, 37⟩] : List It)) ++ ([⟨7, 0⟩] : List It))) := by simp
          rw [E9] at R9
          have L9 : ((Q ++ (([⟨2, 1 + v6⟩] : List It) ++ (([⟨6, 0⟩] : List It) ++ (([⟨1, 29⟩] : List It) ++ Q_b ++ ([⟨1, 1⟩] : List It) ++ ([⟨1, 37⟩] : List It)) ++ ([⟨7, 0⟩] : List It)))).length : Int) ≤ (4 - (k - 1)) * 11 := by simp; omega
          generalize Q ++ (([⟨2, 1 + v6⟩] : List It) ++ (([⟨6, 0⟩] : List It) ++ (([⟨1, 29⟩] : List It) ++ Q_b ++ ([⟨1, 1⟩] : List It) ++ ([⟨1, 37⟩] : List It)) ++ ([⟨7, 0⟩] : List It))) = Q9 at *
          clear E9 R_out R_a R_c R_d R_b R_e R_f R_g
          go_wp2
          go_roundw
          case rel => exact ⟨k - 1, _, _, _, Q9, by omega, by omega, by go_num, rfl, R9, FN, L9, src_mono S (by omega), G⟩
          case measure => simp [intOf]; omega
        · go_wp2_with fail
          refine (next_small _ _ _ _ _ _ _ _ S (by unfold Few; omega) (by omega) (by omega)).mono ?_
          rintro e w13 ⟨v6, ⟨lv6, uv6⟩, rfl, hs, hg⟩
          have R_out := irow_gb hg R_out (by omega)
          have S := hs
          have G := grown_trans G hg
          have zw13 : w.heap.size ≤ w13.heap.size := by have := hg.size; omega
          clear hs hg
          go_wp2_with fail
          refine (lit1_any v6 _).mono ?_
          rintro e w14 ⟨v_a, rfl, hr, hbb⟩
          have R_out := irow_below R_out hbb
          have BX := hbb.mono (show w.heap.size ≤ _ from (by first | omega | (simp; done) | (simp; omega)))
          have S := src_lo S hb0 HA.out BX
          have G := gb_of_lo G BX
          have zw14 : w.heap.size ≤ w14.heap.size := by have := hbb.size; (try simp at this); omega
          clear BX hbb
          obtain ⟨A_a, n_a, c_a, rfl⟩ := irow_form hr
          have R_a := hr
          clear hr
          go_wp2_with fail
          refine (lit1_any 0 _).mono ?_
          rintro e w15 ⟨v_c, rfl, hr, hbb⟩
          have R_out := irow_below R_out hbb
          have R_a := irow_below R_a hbb
          have BX := hbb.mono (show w.heap.size ≤ _ from (by first | omega | (simp; done) | (simp; omega)))
          have S := src_lo S hb0 HA.out BX
          have G := gb_of_lo G BX
          have zw15 : w.heap.size ≤ w15.heap.size := by have := hbb.size; (try simp at this); omega
          clear BX hbb
          obtain ⟨A_c, n_c, c_c, rfl⟩ := irow_form hr
          have R_c := hr
          clear hr
          go_wp2_with fail
          refine (item1_any 10 _).mono ?_
          rintro e w16 ⟨v_d, rfl, hr, hbb⟩
          have R_out := irow_below R_out hbb
          have R_a := irow_below R_a hbb
          have R_c := irow_below R_c hbb
          have BX := hbb.mono (show w.heap.size ≤ _ from (by first | omega | (simp; done) | (simp; omega)))
          have S := src_lo S hb0 HA.out BX
          have G := gb_of_lo G BX
          have zw16 : w.heap.size ≤ w16.heap.size := by have := hbb.size; (try simp at this); omega
          clear BX hbb
          obtain ⟨A_d, n_d, c_d, rfl⟩ := irow_form hr
          have R_d := hr
          clear hr
          go_wp2_with fail
          refine (block0_drew _ _ _ _ _ _ _ S (by omega)).mono ?_
          rintro e w17 ⟨v_b, Q_b, rfl, hr, F_b, L_b, hs, hg⟩
          have R_out := irow_gb hg R_out (by omega)
          have R_a := irow_gb hg R_a (by omega)
          have R_c := irow_gb hg R_c (by omega)
          have R_d := irow_gb hg R_d (by omega)
          have S := hs
          have G := grown_trans G hg
          have zw17 : w.heap.size ≤ w17.heap.size := by have := hg.size; omega
          clear hs hg
          obtain ⟨A_b, n_b, c_b, rfl⟩ := irow_form hr
          have R_b := hr
          clear hr
          go_wp2_with fail
          refine (next_small _ _ _ _ _ _ _ _ (src_alloc S _) (by unfold Few; omega) (by omega) (by omega)).mono ?_
          rintro e w18 ⟨v7, ⟨l7, u7⟩, rfl, hs, hg⟩
          have Y7 := whole_gbI hg (whole_new w17 _ _) (by omega)
          have R_out := irow_gb hg (irow_alloc R_out _) (by omega)
          have R_a := irow_gb hg (irow_alloc R_a _) (by omega)
          have R_c := irow_gb hg (irow_alloc R_c _) (by omega)
          have R_d := irow_gb hg (irow_alloc R_d _) (by omega)
          have R_b := irow_gb hg (irow_alloc R_b _) (by omega)
          have S := hs
          have G := grown_trans (gb_alloc G _) hg
          have zw18 : w.heap.size ≤ w18.heap.size := by have := hg.size; (try simp at this); omega
          clear hs hg
          obtain ⟨kk, hkk, yc⟩ : ∃ kk : Int, (kk = 11 ∨ kk = 12) ∧ w18.cell? ⟨w17.heap.size, v7.toNat, none⟩ = some (.int .i64 kk) := by
            rcases (by omega : v7 = 0 ∨ v7 = 1 ∨ v7 = 2) with rfl | rfl | rfl
            · exact ⟨11, .inl rfl, whole_cell Y7 0⟩
            · exact ⟨11, .inl rfl, whole_cell Y7 1⟩
            · exact ⟨12, .inr rfl, whole_cell Y7 2⟩
          obtain ⟨j7, rfl⟩ := Int.eq_ofNat_of_zero_le l7
          simp only [Int.toNat_natCast] at yc
          clear Y7
          have R_out := irow_alloc R_out (.cells #[.int .i64 kk, .int .i64 0] 59)
          have R_a := irow_alloc R_a (.cells #[.int .i64 kk, .int .i64 0] 59)
          have R_c := irow_alloc R_c (.cells #[.int .i64 kk, .int .i64 0] 59)
          have R_d := irow_alloc R_d (.cells #[.int .i64 kk, .int .i64 0] 59)
          have R_b := irow_alloc R_b (.cells #[.int .i64 kk, .int .i64 0] 59)
          have R_e := irow_one w18 ⟨kk, 0⟩
          have S := src_alloc S (.cells #[.int .i64 kk, .int .i64 0] 59)
          have G := gb_alloc G (.cells #[.int .i64 kk, .int .i64 0] 59)
          have zzz : w.heap.size ≤ (w18.alloc (.cells #[.int .i64 kk, .int .i64 0] 59)).heap.size := by simp; omega
          go_wp2_with fail
          refine (cat_any (w18.heap.size + 1) 6 [Q, [⟨2, v6⟩], [⟨2, 0⟩], [⟨10, 0⟩], Q_b, [⟨kk, 0⟩]] _ (cats6 _ _ (by simp) (irow_its R_out) (irow_its R_a) (irow_its R_c) (irow_its R_d) (irow_its R_b) (irow_its R_e)) (by simp) rfl (by omega) (by simp; omega)).mono ?_
          rintro e w19 ⟨v9, rfl, hr, hbb⟩
          obtain ⟨A9, n9, c9, rfl⟩ := irow_form hr
          have R9 := irow_base hr (show w.heap.size ≤ _ from (by first | omega | (simp; done) | (simp; omega)))
          clear hr
          have BX := ((Below.refl _ _).alloc (by omega) _ : Below w.heap.size (w18.alloc (.cells #[.int .i64 kk, .int .i64 0] 59)) _).trans (hbb.mono (show w.heap.size ≤ _ from (by first | omega | (simp; done) | (simp; omega))))
          have S := src_lo S hb0 HA.out BX
          have G := gb_of_lo G BX
          clear BX hbb
          have FN : Fits 1 (Q ++ (([⟨2, v6⟩] : List It) ++ (([⟨2, 0⟩] : List It) ++ (([⟨10, 0⟩] : List It) ++ Q_b ++ ([⟨kk, 0⟩] : List It))))) := fits_app F (fits_app (fits_mono (fits_one (itB_lit (by omega)) (by simp)) (by omega)) (fits_app (fits_mono (fits_one (by decide) (by simp)) (by omega)) (fits_two F_b (by omega) (by omega))))
          have E9 : ([Q, [⟨2, v6⟩], [⟨2, 0⟩], [⟨10, 0⟩], Q_b, [⟨kk, 0⟩]] : List (List It)).flatten = Q ++ (([⟨2, v6⟩] : List It) ++ (([⟨2, 0⟩] : List It) ++ (([⟨10, 0⟩] : List It) ++ Q_b ++ ([⟨kk, 0⟩] : List It)))) := by simp
          rw [E9] at R9
          have L9 : ((Q ++ (([⟨2, v6⟩] : List It) ++ (([⟨2, 0⟩] : List It) ++ (([⟨10, 0⟩] : List It) ++ Q_b ++ ([⟨kk, 0⟩] : List It))))).length : Int) ≤ (4 - (k - 1)) * 11 := by simp; omega
          generalize Q ++ (([⟨2, v6⟩] : List It) ++ (([⟨2, 0⟩] : List It) ++ (([⟨10, 0⟩] : List It) ++ Q_b ++ ([⟨kk, 0⟩] : List It)))) = Q9 at *
          clear E9 R_out R_a R_c R_d R_b R_e
          go_wp2
          go_roundw
          case rel => exact ⟨k - 1, _, _, _, Q9, by omega, by omega, by go_num, rfl, R9, FN, L9, src_mono S (by omega), G⟩
          case measure => simp [intOf]; omega
        · go_wp2_with fail
          refine (item1_any 6 _).mono ?_
          rintro e w13 ⟨v_a, rfl, hr, hbb⟩
          have R_out := irow_below R_out hbb
          have BX := hbb.mono (show w.heap.size ≤ _ from (by first | omega | (simp; done) | (simp; omega)))
          have S := src_lo S hb0 HA.out BX
          have G := gb_of_lo G BX
          have zw13 : w.heap.size ≤ w13.heap.size := by have := hbb.size; (try simp at this); omega
          clear BX hbb
          obtain ⟨A_a, n_a, c_a, rfl⟩ := irow_form hr
          have R_a := hr
          clear hr
          go_wp2_with fail
          refine (block0_drew _ _ _ _ _ _ _ S (by omega)).mono ?_
          rintro e w14 ⟨v_b, Q_b, rfl, hr, F_b, L_b, hs, hg⟩
          have R_out := irow_gb hg R_out (by omega)
          have R_a := irow_gb hg R_a (by omega)
          have S := hs
          have G := grown_trans G hg
          have zw14 : w.heap.size ≤ w14.heap.size := by have := hg.size; omega
          clear hs hg
          obtain ⟨A_b, n_b, c_b, rfl⟩ := irow_form hr
          have R_b := hr
          clear hr
          go_wp2_with fail
          refine (item1_any 8 _).mono ?_
          rintro e w15 ⟨v_c, rfl, hr, hbb⟩
          have R_out := irow_below R_out hbb
          have R_a := irow_below R_a hbb
          have R_b := irow_below R_b hbb
          have BX := hbb.mono (show w.heap.size ≤ _ from (by first | omega | (simp; done) | (simp; omega)))
          have S := src_lo S hb0 HA.out BX
          have G := gb_of_lo G BX
          have zw15 : w.heap.size ≤ w15.heap.size := by have := hbb.size; (try simp at this); omega
          clear BX hbb
          obtain ⟨A_c, n_c, c_c, rfl⟩ := irow_form hr
          have R_c := hr
          clear hr
          go_wp2_with fail
          refine (block0_drew _ _ _ _ _ _ _ S (by omega)).mono ?_
          rintro e w16 ⟨v_d, Q_d, rfl, hr, F_d, L_d, hs, hg⟩
          have R_out := irow_gb hg R_out (by omega)
          have R_a := irow_gb hg R_a (by omega)
          have R_b := irow_gb hg R_b (by omega)
          have R_c := irow_gb hg R_c (by omega)
          have S := hs
          have G := grown_trans G hg
          have zw16 : w.heap.size ≤ w16.heap.size := by have := hg.size; omega
          clear hs hg
          obtain ⟨A_d, n_d, c_d, rfl⟩ := irow_form hr
          have R_d := hr
          clear hr
          go_wp2_with fail
          refine (item1_any 9 _).mono ?_
          rintro e w17 ⟨v_e, rfl, hr, hbb⟩
          have R_out := irow_below R_out hbb
          have R_a := irow_below R_a hbb
          have R_b := irow_below R_b hbb
          have R_c := irow_below R_c hbb
          have R_d := irow_below R_d hbb
          have BX := hbb.mono (show w.heap.size ≤ _ from (by first | omega | (simp; done) | (simp; omega)))
          have S := src_lo S hb0 HA.out BX
          have G := gb_of_lo G BX
          have zw17 : w.heap.size ≤ w17.heap.size := by have := hbb.size; (try simp at this); omega
          clear BX hbb
          obtain ⟨A_e, n_e, c_e, rfl⟩ := irow_form hr
          have R_e := hr
          clear hr
          go_wp2_with fail
          refine (cat_any _ 6 [Q, [⟨6, 0⟩], Q_b, [⟨8, 0⟩], Q_d, [⟨9, 0⟩]] _ (cats6 _ _ rfl (irow_its R_out) (irow_its R_a) (irow_its R_b) (irow_its R_c) (irow_its R_d) (irow_its R_e)) (by simp) rfl (by omega) (by simp; omega)).mono ?_
          rintro e w18 ⟨v9, rfl, hr, hbb⟩
          obtain ⟨A9, n9, c9, rfl⟩ := irow_form hr
          have R9 := irow_base hr (show w.heap.size ≤ _ from (by first | omega | (simp; done) | (simp; omega)))
          clear hr
          have BX := ((Below.refl _ _).alloc (by omega) _ : Below w.heap.size w17 _).trans (hbb.mono (show w.heap.size ≤ _ from (by first | omega | (simp; done) | (simp; omega))))
          have S := src_lo S hb0 HA.out BX
          have G := gb_of_lo G BX
          clear BX hbb
          have FN : Fits 1 (Q ++ (([⟨6, 0⟩] : List It) ++ Q_b ++ ([⟨8, 0⟩] : List It) ++ Q_d ++ ([⟨9, 0⟩] : List It))) := fits_app F (fits_three (fits_mono F_b (by omega)) F_d (by omega))
          have E9 : ([Q, [⟨6, 0⟩], Q_b, [⟨8, 0⟩], Q_d, [⟨9, 0⟩]] : List (List It)).flatten = Q ++ (([⟨6, 0⟩] : List It) ++ Q_b ++ ([⟨8, 0⟩] : List It) ++ Q_d ++ ([⟨9, 0⟩] : List It)) := by simp
          rw [E9] at R9
          have L9 : ((Q ++ (([⟨6, 0⟩] : List It) ++ Q_b ++ ([⟨8, 0⟩] : List It) ++ Q_d ++ ([⟨9, 0⟩] : List It))).length : Int) ≤ (4 - (k - 1)) * 11 := by simp; omega
          generalize Q ++ (([⟨6, 0⟩] : List It) ++ Q_b ++ ([⟨8, 0⟩] : List It) ++ Q_d ++ ([⟨9, 0⟩] : List It)) = Q9 at *
          clear E9 R_out R_a R_b R_c R_d R_e
          go_wp2
          go_roundw
          case rel => exact ⟨k - 1, _, _, _, Q9, by omega, by omega, by go_num, rfl, R9, FN, L9, src_mono S (by omega), G⟩
          case measure => simp [intOf]; omega
    · obtain rfl : k = 0 := by omega
      go_wp2
      go_ret
      exact ⟨_, Q, rfl, R_out, F, by omega, src_mono S (by omega), G⟩

end Go.Proofs.Ytafhmajnkicifaa

namespace Go.Proofs.Ytafhmajnkicifaa
open Go.RowKit
set_option linter.unusedVariables false
set_option linter.unusedSimpArgs false

set_option maxRecDepth 100000 in
set_option maxHeartbeats 8000000 in
theorem block2_drew (b : Nat) (a : Option Addr) (len cap : Nat) (zs : List Int) (N : Nat) (w : World) (h : Src w b a len cap zs N) (hN : N ≤ 60000) :
    Calls Try.prog 43 #[.pointer (some ⟨b, 0, none⟩), .int .i64 86, .int .i64 2] w (BlockDrew w b a len cap zs (N + 10000) 2 364) := by
  have hb0 := src_lt h
  have HA := Lib.hid (src_code_lt h)
  have H := Lib.hid h
  clear h
  go_enter Try.func43, Try.ntmps43
  go_wp2_with fail
  refine (next_small _ _ _ _ _ _ _ _ (src_alloc H.out _) (by unfold Few; omega) (by omega) (by omega)).mono ?_
  rintro e w1 ⟨v, ⟨v0, v1⟩, rfl, hs, hg⟩
  have S := hs
  have G := grown_trans (gb_alloc (World.grownBy.refl w _) _) hg
  have R_out : IRow w1 w.heap.size (.slice (some ⟨w.heap.size, 0, none⟩) 0 0) [] := irow_gb hg (irow_empty w (Nat.le_refl _)) hb0
  clear hs hg
  go_wp2
  go_loopw [7, 8] (fun o i wr => ∃ (k : Int) (A : Option Addr) (n c : Nat) (Q : List It), 0 ≤ k ∧ k ≤ 4 ∧ i = .int .i64 k ∧ o = .slice A n c ∧ IRow wr w.heap.size (.slice A n c) Q ∧ Fits 2 Q ∧ (Q.length : Int) ≤ (4 - k) * 91 ∧ Src wr b a len cap zs (N + 1 + (4 - k.toNat) * 2010) ∧ w.grownBy wr (some b)) (fun _ i _ => (intOf i).toNat)
  case atStart => exact ⟨1 + v, _, _, _, [], by omega, by omega, by go_num, rfl, R_out, fits_nil _, by simp; omega, src_mono S (by omega), G⟩
  case round =>
    clear R_out S G
    obtain ⟨k, A, n, c, Q, k0, k4, rfl, rfl, R_out, F, LQ, S, G⟩ := hrel
    have zwr : w.heap.size ≤ wr.heap.size := G.size
    by_cases hlt : 0 < k
    · go_wp2_with fail
      refine (chance_i _ _ _ _ _ _ _ _ S (by unfold Few; omega) (by omega) (by omega)).mono ?_
      rintro e w11 ⟨y, rfl, hs, hg⟩
      have R_out := irow_gb hg R_out (by omega)
      have S := hs
      have G := grown_trans G hg
      have zw11 : w.heap.size ≤ w11.heap.size := by have := hg.size; omega
      clear hs hg
      cases y
      · go_wp2_with fail
        refine (flat_drew _ _ _ _ _ _ _ S (by omega)).mono ?_
        rintro e w12 ⟨⟨xk, xv⟩, rfl, xb, hx, hs, hg⟩
        have R_out := irow_gb hg R_out (by omega)
        have S := hs
        have G := grown_trans G hg
        have zw12 : w.heap.size ≤ w12.heap.size := by have := hg.size; omega
        clear hs hg
        simp only at hx xb
        rcases hx with rfl | rfl
        · cases hin : inB xv 57 62
          · have FX := xb
            go_wp2_with (first | (go_at_call 59; refine (sIn_any _ _ _ _).mono ?_; rintro e w' ⟨rfl, rfl⟩; rw [hin]) | (at_builtin; refine wpList_append_items rfl (.tmp 37) (.tmp 39) rfl rfl w.heap.size _ Q (irow_below R_out (by repeat (first | with_reducible exact Below.refl _ _ | with_reducible refine Below.setCell ?_ (by first | omega | (simp; done) | (simp; omega)) _ | with_reducible refine Below.alloc ?_ (by first | omega | (simp; done) | (simp; omega)) _))) _ [⟨1, xv⟩] (its_lit ⟨1, xv⟩ (by simp)) rfl rfl (by simp; omega) (by simp; omega) ?_; intro v9 w9 hr hgr hat; obtain ⟨A9, n9, c9, rfl⟩ := irow_form hr; have BX : Below w.heap.size w12 w9 := Below.grown (by repeat (first | with_reducible exact Below.refl _ _ | with_reducible refine Below.setCell ?_ (by first | omega | (simp; done) | (simp; omega)) _ | with_reducible refine Below.alloc ?_ (by first | omega | (simp; done) | (simp; omega)) _)) hgr (by simp; omega) (fun g hg => (irow_lt R_out g hg).1); have S := src_lo S hb0 HA.out BX; have G := gb_of_lo G BX; clear BX hgr hat))
            have FN : Fits 2 (Q ++ [(⟨1, xv⟩ : It)]) := fits_app F (fits_mono (fits_one FX (by simp)) (by omega))
            have L9 : ((Q ++ [(⟨1, xv⟩ : It)]).length : Int) ≤ (4 - (k - 1)) * 91 := by simp; omega
            generalize Q ++ [(⟨1, xv⟩ : It)] = Q9 at *
            clear R_out
            go_roundw
            case rel => exact ⟨k - 1, _, _, _, Q9, by omega, by omega, by go_num, rfl, hr, FN, L9, src_mono S (by omega), G⟩
            case measure => simp [intOf]; omega
          · have FX : itB (⟨1, 1⟩ : It) = true := by decide
            go_wp2_with (first | (go_at_call 59; refine (sIn_any _ _ _ _).mono ?_; rintro e w' ⟨rfl, rfl⟩; rw [hin]) | (at_builtin; refine wpList_append_items rfl (.tmp 37) (.tmp 39) rfl rfl w.heap.size _ Q (irow_below R_out (by repeat (first | with_reducible exact Below.refl _ _ | with_reducible refine Below.setCell ?_ (by first | omega | (simp; done) | (simp; omega)) _ | with_reducible refine Below.alloc ?_ (by first | omega | (simp; done) | (simp; omega)) _))) _ [⟨1, 1⟩] (its_lit ⟨1, 1⟩ (by simp)) rfl rfl (by simp; omega) (by simp; omega) ?_; intro v9 w9 hr hgr hat; obtain ⟨A9, n9, c9, rfl⟩ := irow_form hr; have BX : Below w.heap.size w12 w9 := Below.grown (by repeat (first | with_reducible exact Below.refl _ _ | with_reducible refine Below.setCell ?_ (by first | omega | (simp; done) | (simp; omega)) _ | with_reducible refine Below.alloc ?_ (by first | omega | (simp; done) | (simp; omega)) _)) hgr (by simp; omega) (fun g hg => (irow_lt R_out g hg).1); have S := src_lo S hb0 HA.out BX; have G := gb_of_lo G BX; clear BX hgr hat))
            have FN : Fits 2 (Q ++ [(⟨1, 1⟩ : It)]) := fits_app F (fits_mono (fits_one FX (by simp)) (by omega))
            have L9 : ((Q ++ [(⟨1, 1⟩ : It)]).length : Int) ≤ (4 - (k - 1)) * 91 := by simp; omega
            generalize Q ++ [(⟨1, 1⟩ : It)] = Q9 at *
            clear R_out
            go_roundw
            case rel => exact ⟨k - 1, _, _, _, Q9, by omega, by omega, by go_num, rfl, hr, FN, L9, src_mono S (by omega), G⟩
            case measure => simp [intOf]; omega
        · have FX := xb
          go_wp2_with (first | (at_builtin; refine wpList_append_items rfl (.tmp 37) (.tmp 39) rfl rfl w.heap.size _ Q (irow_below R_out (by repeat (first | with_reducible exact Below.refl _ _ | with_reducible refine Below.setCell ?_ (by first | omega | (simp; done) | (simp; omega)) _ | with_reducible refine Below.alloc ?_ (by first | omega | (simp; done) | (simp; omega)) _))) _ [⟨2, xv⟩] (its_lit ⟨2, xv⟩ (by simp)) rfl rfl (by simp; omega) (by simp; omega) ?_; intro v9 w9 hr hgr hat; obtain ⟨A9, n9, c9, rfl⟩ := irow_form hr; have BX : Below w.heap.size w12 w9 := Below.grown (by repeat (first | with_reducible exact Below.refl _ _ | with_reducible refine Below.setCell ?_ (by first | omega | (simp; done) | (simp; omega)) _ | with_reducible refine Below.alloc ?_ (by first | omega | (simp; done) | (simp; omega)) _)) hgr (by simp; omega) (fun g hg => (irow_lt R_out g hg).1); have S := src_lo S hb0 HA.out BX; have G := gb_of_lo G BX; clear BX hgr hat))
          have FN : Fits 2 (Q ++ [(⟨2, xv⟩ : It)]) := fits_app F (fits_mono (fits_one FX (by simp)) (by omega))
          have L9 : ((Q ++ [(⟨2, xv⟩ : It)]).length : Int) ≤ (4 - (k - 1)) * 91 := by simp; omega
          generalize Q ++ [(⟨2, xv⟩ : It)] = Q9 at *
          clear R_out
          go_roundw
          case rel => exact ⟨k - 1, _, _, _, Q9, by omega, by omega, by go_num, rfl, hr, FN, L9, src_mono S (by omega), G⟩
          case measure => simp [intOf]; omega
      · go_wp2_with fail
        refine (next_small _ _ _ _ _ _ _ _ S (by unfold Few; omega) (by omega) (by omega)).mono ?_
        rintro e w12 ⟨v5, ⟨lv5, uv5⟩, rfl, hs, hg⟩
        have R_out := irow_gb hg R_out (by omega)
        have S := hs
        have G := grown_trans G hg
        have zw12 : w.heap.size ≤ w12.heap.size := by have := hg.size; omega
        clear hs hg
        rcases (by omega : v5 = 0 ∨ v5 = 1 ∨ v5 = 2 ∨ v5 = 3 ∨ v5 = 4) with rfl | rfl | rfl | rfl | rfl
        · go_wp2_with fail
          refine (item1_any 3 _).mono ?_
          rintro e w13 ⟨v_a, rfl, hr, hbb⟩
          have R_out := irow_below R_out hbb
          have BX := hbb.mono (show w.heap.size ≤ _ from (by first | omega | (simp; done) | (simp; omega)))
          have S := src_lo S hb0 HA.out BX
          have G := gb_of_lo G BX
          have zw13 : w.heap.size ≤ w13.heap.size := by have := hbb.size; (try simp at this); omega
          clear BX hbb
          obtain ⟨A_a, n_a, c_a, rfl⟩ := irow_form hr
          have R_a := hr
          clear hr
          go_wp2_with fail
          refine (block1_drew _ _ _ _ _ _ _ S (by omega)).mono ?_
          rintro e w14 ⟨v_b, Q_b, rfl, hr, F_b, L_b, hs, hg⟩
          have R_out := irow_gb hg R_out (by omega)
          have R_a := irow_gb hg R_a (by omega)
          have S := hs
          have G := grown_trans G hg
          have zw14 : w.heap.size ≤ w14.heap.size := by have := hg.size; omega
          clear hs hg
          obtain ⟨A_b, n_b, c_b, rfl⟩ := irow_form hr
          have R_b := hr
          clear hr
          go_wp2_with fail
          refine (item1_any 5 _).mono ?_
          rintro e w15 ⟨v_c, rfl, hr, hbb⟩
          have R_out := irow_below R_out hbb
          have R_a := irow_below R_a hbb
          have R_b := irow_below R_b hbb
          have BX := hbb.mono (show w.heap.size ≤ _ from (by first | omega | (simp; done) | (simp; omega)))
          have S := src_lo S hb0 HA.out BX
          have G := gb_of_lo G BX
          have zw15 : w.heap.size ≤ w15.heap.size := by have := hbb.size; (try simp at this); omega
          clear BX hbb
          obtain ⟨A_c, n_c, c_c, rfl⟩ := irow_form hr
          have R_c := hr
          clear hr
          go_wp2_with fail
          refine (cat_any _ 4 [Q, [⟨3, 0⟩], Q_b, [⟨5, 0⟩]] _ (cats4 _ _ rfl (irow_its R_out) (irow_its R_a) (irow_its R_b) (irow_its R_c)) (by simp) rfl (by omega) (by simp; omega)).mono ?_
          rintro e w16 ⟨v9, rfl, hr, hbb⟩
          obtain ⟨A9, n9, c9, rfl⟩ := irow_form hr
          have R9 := irow_base hr (show w.heap.size ≤ _ from (by first | omega | (simp; done) | (simp; omega)))
          clear hr
          have BX := ((Below.refl _ _).alloc (by omega) _ : Below w.heap.size w15 _).trans (hbb.mono (show w.heap.size ≤ _ from (by first | omega | (simp; done) | (simp; omega))))
          have S := src_lo S hb0 HA.out BX
          have G := gb_of_lo G BX
          clear BX hbb
          have FN : Fits 2 (Q ++ (([⟨3, 0⟩] : List It) ++ Q_b ++ ([⟨5, 0⟩] : List It))) := fits_app F (fits_two F_b (by omega) (by omega))
          have E9 : ([Q, [⟨3, 0⟩], Q_b, [⟨5, 0⟩]] : List (List It)).flatten = Q ++ (([⟨3, 0⟩] : List It) ++ Q_b ++ ([⟨5, 0⟩] : List It)) := by simp
          rw [E9] at R9
          have L9 : ((Q ++ (([⟨3, 0⟩] : List It) ++ Q_b ++ ([⟨5, 0⟩] : List It))).length : Int) ≤ (4 - (k - 1)) * 91 := by simp; omega
          generalize Q ++ (([⟨3, 0⟩] : List It) ++ Q_b ++ ([⟨5, 0⟩] : List It)) = Q9 at *
          clear E9 R_out R_a R_b R_c
          go_wp2
          go_roundw
          case rel => exact ⟨k - 1, _, _, _, Q9, by omega, by omega, by go_num, rfl, R9, FN, L9, src_mono S (by omega), G⟩
          case measure => simp [intOf]; omega
        · go_wp2_with fail
          refine (item1_any 3 _).mono ?_
          rintro e w13 ⟨v_a, rfl, hr, hbb⟩
          have R_out := irow_below R_out hbb
          have BX := hbb.mono (show w.heap.size ≤ _ from (by first | omega | (simp; done) | (simp; omega)))
          have S := src_lo S hb0 HA.out BX
          have G := gb_of_lo G BX
          have zw13 : w.heap.size ≤ w13.heap.size := by have := hbb.size; (try simp at this); omega
          clear BX hbb
          obtain ⟨A_a, n_a, c_a, rfl⟩ := irow_form hr
          have R_a := hr
          clear hr
          go_wp2_with fail
          refine (block1_drew _ _ _ _ _ _ _ S (by omega)).mono ?_
          rintro e w14 ⟨v_b, Q_b, rfl, hr, F_b, L_b, hs, hg⟩
          have R_out := irow_gb hg R_out (by omega)
          have R_a := irow_gb hg R_a (by omega)
          have S := hs
          have G := grown_trans G hg
          have zw14 : w.heap.size ≤ w14.heap.size := by have := hg.size; omega
          clear hs hg
          obtain ⟨A_b, n_b, c_b, rfl⟩ := irow_form hr
          have R_b := hr
          clear hr
          go_wp2_with fail
          refine (item1_any 4 _).mono ?_
          rintro e w15 ⟨v_c, rfl, hr, hbb⟩
          have R_out := irow_below R_out hbb
          have R_a := irow_below R_a hbb
          have R_b := irow_below R_b hbb
          have BX := hbb.mono (show w.heap.size ≤ _ from (by first | omega | (simp; done) | (simp; omega)))
          have S := src_lo S hb0 HA.out BX
          have G := gb_of_lo G BX
          have zw15 : w.heap.size ≤ w15.heap.size := by have := hbb.size; (try simp at this); omega
          clear BX hbb
          obtain ⟨A_c, n_c, c_c, rfl⟩ := irow_form hr
          have R_c := hr
          clear hr
          go_wp2_with fail
          refine (block1_drew _ _ _ _ _ _ _ S (by omega)).mono ?_
          rintro e w16 ⟨v_d, Q_d, rfl, hr, F_d, L_d, hs, hg⟩
          have R_out := irow_gb hg R_out (by omega)
          have R_a := irow_gb hg R_a (by omega)
          have R_b := irow_gb hg R_b (by omega)
          have R_c := irow_gb hg R_c (by omega)
          have S := hs
          have G := grown_trans G hg
          have zw16 : w.heap.size ≤ w16.heap.size := by have := hg.size; omega
          clear hs hg
          obtain ⟨A_d, n_d, c_d, rfl⟩ := irow_form hr
          have R_d := hr
          clear hr
          go_wp2_with fail
          refine (item1_any 5 _).mono ?_
          rintro e w17 ⟨v_e, rfl, hr, hbb⟩
          have R_out := irow_below R_out hbb
          have R_a := irow_below R_a hbb
          have R_b := irow_below R_b hbb
          have R_c := irow_below R_c hbb
          have R_d := irow_below R_d hbb
          have BX := hbb.mono (show w.heap.size ≤ _ from (by first | omega | (simp; done) | (simp; omega)))
          have S := src_lo S hb0 HA.out BX
          have G := gb_of_lo G BX
          have zw17 : w.heap.size ≤ w17.heap.size := by have := hbb.size; (try simp at this); omega
          clear BX hbb
          obtain ⟨A_e, n_e, c_e, rfl⟩ := irow_form hr
          have R_e := hr
          clear hr
          go_wp2_with fail
          refine (cat_any _ 6 [Q, [⟨3, 0⟩], Q_b, [⟨4, 0⟩], Q_d, [⟨5, 0⟩]] _ (cats6 _ _ rfl (irow_its R_out) (irow_its R_a) (irow_its R_b) (irow_its R_c) (irow_its R_d) (irow_its R_e)) (by simp) rfl (by omega) (by simp; omega)).mono ?_
          rintro e w18 ⟨v9, rfl, hr, hbb⟩
          obtain ⟨A9, n9, c9, rfl⟩ := irow_form hr
          have R9 := irow_base hr (show w.heap.size ≤ _ from (by first | omega | (simp; done) | (simp; omega)))
          clear hr
          have BX := ((Below.refl _ _).alloc (by omega) _ : Below w.heap.size w17 _).trans (hbb.mono (show w.heap.size ≤ _ from (by first | omega | (simp; done) | (simp; omega))))
          have S := src_lo S hb0 HA.out BX
          have G := gb_of_lo G BX
          clear BX hbb
          have FN : Fits 2 (Q ++ (([⟨3, 0⟩] : List It) ++ Q_b ++ ([⟨4, 0⟩] : List It) ++ Q_d ++ ([⟨5, 0⟩] : List It))) := fits_app F (fits_three F_b F_d (by omega))
          have E9 : ([Q, [⟨3, 0⟩], Q_b, [⟨4, 0⟩], Q_d, [⟨5, 0⟩]] : List (List It)).flatten = Q ++ (([⟨3, 0⟩] : List It) ++ Q_b ++ ([⟨4, 0⟩] : List It) ++ Q_d ++ ([⟨5, 0⟩] : List It)) := by simp
          rw [E9] at R9
          have L9 : ((Q ++ (([⟨3, 0⟩] : List It) ++ Q_b ++ ([⟨4, 0⟩] : List It) ++ Q_d ++ ([⟨5, 0⟩] : List It))).length : Int) ≤ (4 - (k - 1)) * 91 := by simp; omega
          generalize Q ++ (([⟨3, 0⟩] : List It) ++ Q_b ++ ([⟨4, 0⟩] : List It) ++ Q_d ++ ([⟨5, 0⟩] : List It)) = Q9 at *
          clear E9 R_out R_a R_b R_c R_d R_e
          go_wp2
          go_roundw
          case rel => exact ⟨k - 1, _, _, _, Q9, by omega, by omega, by go_num, rfl, R9, FN, L9, src_mono S (by omega), G⟩
          case measure => simp [intOf]; omega
        · go_wp2_with fail
          refine (next_small _ _ _ _ _ _ _ _ S (by unfold Few; omega) (by omega) (by omega)).mono ?_
          rintro e w13 ⟨v6, ⟨lv6, uv6⟩, rfl, hs, hg⟩
          have R_out := irow_gb hg R_out (by omega)
          have S := hs
          have G := grown_trans G hg
          have zw13 : w.heap.size ≤ w13.heap.size := by have := hg.size; omega
          clear hs hg
          go_wp2_with fail
          refine (lit1_any (1 + v6) _).mono ?_
          rintro e w14 ⟨v_a, rfl, hr, hbb⟩
          have R_out := irow_below R_out hbb
          have BX := hbb.mono (show w.heap.size ≤ _ from (by first | omega | (simp; done) | (simp; omega)))
          have S := src_lo S hb0 HA.out BX
          have G := gb_of_lo G BX
          have zw14 : w.heap.size ≤ w14.heap.size := by have := hbb.size; (try simp at this); omega
          clear BX hbb
          obtain ⟨A_a, n_a, c_a, rfl⟩ := irow_form hr
          have R_a := hr
          clear hr
          go_wp2_with fail
          refine (item1_any 6 _).mono ?_
          rintro e w15 ⟨v_c, rfl, hr, hbb⟩
          have R_out := irow_below R_out hbb
          have R_a := irow_below R_a hbb
          have BX := hbb.mono (show w.heap.size ≤ _ from (by first | omega | (simp; done) | (simp; omega)))
          have S := src_lo S hb0 HA.out BX
          have G := gb_of_lo G BX
          have zw15 : w.heap.size ≤ w15.heap.size := by have := hbb.size; (try simp at this); omega
          clear BX hbb
          obtain ⟨A_c, n_c, c_c, rfl⟩ := irow_form hr
          have R_c := hr
          clear hr
          go_wp2_with fail
          refine (word1_any 29 _).mono ?_
          rintro e w16 ⟨v_d, rfl, hr, hbb⟩
          have R_out := irow_below R_out hbb
          have R_a := irow_below R_a hbb
          have R_c := irow_below R_c hbb
          have BX := hbb.mono (show w.heap.size ≤ _ from (by first | omega | (simp; done) | (simp; omega)))
          have S := src_lo S hb0 HA.out BX
          have G := gb_of_lo G BX
          have zw16 : w.heap.size ≤ w16.heap.size := by have := hbb.size; (try simp at this); omega
          clear BX hbb
          obtain ⟨A_d, n_d, c_d, rfl⟩ := irow_form hr
          have R_d := hr
          clear hr
          go_wp2_with fail
          refine (block0_drew _ _ _ _ _ _ _ S (by omega)).mono ?_
          rintro e w17 ⟨v_b, Q_b, rfl, hr, F_b, L_b, hs, hg⟩
          have R_out := irow_gb hg R_out (by omega)
          have R_a := irow_gb hg R_a (by omega)
          have R_c := irow_gb hg R_c (by omega)
          have R_d := irow_gb hg R_d (by omega)
          have S := hs
          have G := grown_trans G hg
          have zw17 : w.heap.size ≤ w17.heap.size := by have := hg.size; omega
          clear hs hg
          obtain ⟨A_b, n_b, c_b, rfl⟩ := irow_form hr
          have R_b := hr
          clear hr
          go_wp2_with fail
          refine (word1_any 1 _).mono ?_
          rintro e w18 ⟨v_e, rfl, hr, hbb⟩
          have R_out := irow_below R_out hbb
          have R_a := irow_below R_a hbb
          have R_c := irow_below R_c hbb
          have R_d := irow_below R_d hbb
          have R_b := irow_below R_b hbb
          have BX := hbb.mono (show w.heap.size ≤ _ from (by first | omega | (simp; done) | (simp; omega)))
          have S := src_lo S hb0 HA.out BX
          have G := gb_of_lo G BX
          have zw18 : w.heap.size ≤ w18.heap.size := by have := hbb.size; (try simp at this); omega
          clear BX hbb
          obtain ⟨A_e, n_e, c_e, rfl⟩ := irow_form hr
          have R_e := hr
          clear hr
          go_wp2_with fail
          refine (word1_any 37 _).mono ?_
          rintro e w19 ⟨v_f, rfl, hr, hbb⟩
          have R_out := irow_below R_out hbb
          have R_a := irow_below R_a hbb
          have R_c := irow_below R_c hbb
          have R_d := irow_below R_d hbb
          have R_b := irow_below R_b hbb
          have R_e := irow_below R_e hbb
          have BX := hbb.mono (show w.heap.size ≤ _ from (by first | omega | (simp; done) | (simp; omega)))
          have S := src_lo S hb0 HA.out BX
          have G := gb_of_lo G BX
          have zw19 : w.heap.size ≤ w19.heap.size := by have := hbb.size; (try simp at this); omega
          clear BX hbb
          obtain ⟨A_f, n_f, c_f, rfl⟩ := irow_form hr
          have R_f := hr
          clear hr
          go_wp2_with fail
          refine (item1_any 7 _).mono ?_
          rintro e w20 ⟨v_g, rfl, hr, hbb⟩
          have R_out := irow_below R_out hbb
          have R_a := irow_below R_a hbb
          have R_c := irow_below R_c hbb
          have R_d := irow_below R_d hbb
          have R_b := irow_below R_b hbb
          have R_e := irow_below R_e hbb
          have R_f := irow_below R_f hbb
          have BX := hbb.mono (show w.heap.size ≤ _ from (by first | omega | (simp; done) | (simp; omega)))
          have S := src_lo S hb0 HA.out BX
          have G := gb_of_lo G BX
          have zw20 : w.heap.size ≤ w20.heap.size := by have := hbb.size; (try simp at this); omega
          clear BX hbb
          obtain ⟨A_g, n_g, c_g, rfl⟩ := irow_form hr
          have R_g := hr
          clear hr
          go_wp2_with fail
          refine (cat_any _ 8 [Q, [⟨2, 1 + v6⟩], [⟨6, 0⟩], [⟨1, 29⟩], Q_b, [⟨1, 1⟩], [⟨1, 37⟩], [⟨7, 0⟩]] _ (cats8 _ _ rfl (irow_its R_out) (irow_its R_a) (irow_its R_c) (irow_its R_d) (irow_its R_b) (irow_its R_e) (irow_its R_f) (irow_its R_g)) (by simp) rfl (by omega) (by simp; omega)).mono ?_
          rintro e w21 ⟨v9, rfl, hr, hbb⟩
          obtain ⟨A9, n9, c9, rfl⟩ := irow_form hr
          have R9 := irow_base hr (show w.heap.size ≤ _ from (by first | omega | (simp; done) | (simp; omega)))
          clear hr
          have BX := ((Below.refl _ _).alloc (by omega) _ : Below w.heap.size w20 _).trans (hbb.mono (show w.heap.size ≤ _ from (by first | omega | (simp; done) | (simp; omega))))
          have S := src_lo S hb0 HA.out BX
          have G := gb_of_lo G BX
          clear BX hbb
          have FN : Fits 2 (Q ++ (([⟨2, 1 + v6⟩] : List It) ++ (([⟨6, 0⟩] : List It) ++ (([⟨1, 29⟩] : List It) ++ Q_b ++ ([⟨1, 1⟩] : List It) ++ ([⟨1, 37⟩] : List It)) ++ ([⟨7, 0⟩] : List It)))) := fits_app F (fits_app (fits_mono (fits_one (itB_lit (by omega)) (by simp)) (by omega)) (fits_mono (fits_two (fits_app (fits_app (fits_app (fits_one (by decide) (by simp)) F_b) (fits_one (by decide) (by simp))) (fits_one (by decide) (by simp))) (by omega) (by omega)) (by omega)))
          have E9 : ([Q, [⟨2, 1 + v6⟩], [⟨6, 0⟩], [⟨1, 29⟩], Q_b, [⟨1, 1⟩], [⟨1, 37⟩], [⟨7, 0⟩]] : List (List It)).flatten = Q ++ (([⟨2, 1 + v6⟩] : List It) ++ (([⟨6, 0⟩] : List It) ++ (([⟨1, 29⟩] : List It) ++ Q_b ++ ([⟨1, 1⟩] : List It) ++ ([⟨1, 37⟩] : List It)) ++ ([⟨7, 0⟩] : List It))) := by simp
          rw [E9] at R9
          have L9 : ((Q ++ (([⟨2, 1 + v6⟩] : List It) ++ (([⟨6, 0⟩] : List It) ++ (([⟨1, 29⟩] : List It) ++ Q_b ++ ([⟨1, 1⟩] : List It) ++ ([⟨1, 37⟩] : List It)) ++ ([⟨7, 0⟩] : List It)))).length : Int) ≤ (4 - (k - 1)) * 91 := by simp; omega
          generalize Q ++ (([⟨2, 1 + v6⟩] : List It) ++ (([⟨6, 0⟩] : List It) ++ (([⟨1, 29⟩] : List It) ++ Q_b ++ ([⟨1, 1⟩] : List It) ++ ([⟨1, 37⟩] : List It)) ++ ([⟨7, 0⟩] : List It))) = Q9 at *
          clear E9 R_out R_a R_c R_d R_b R_e R_f R_g
          go_wp2
          go_roundw
          case rel => exact ⟨k - 1, _, _, _, Q9, by omega, by omega, by go_num, rfl, R9, FN, L9, src_mono S (by omega), G⟩
          case measure => simp [intOf]; omega
        · go_wp2_with fail
          refine (next_small _ _ _ _ _ _ _ _ S (by unfold Few; omega) (by omega) (by omega)).mono ?_
          rintro e w13 ⟨v6, ⟨lv6, uv6⟩, rfl, hs, hg⟩
          have R_out := irow_gb hg R_out (by omega)
          have S := hs
          have G := grown_trans G hg
          have zw13 : w.heap.size ≤ w13.heap.size := by have := hg.size; omega
          clear hs hg
          go_wp2_with fail
          refine (lit1_any v6 _).mono ?_
          rintro e w14 ⟨v_a, rfl, hr, hbb⟩
          have R_out := irow_below R_out hbb
          have BX := hbb.mono (show w.heap.size ≤ _ from (by first | omega | (simp; done) | (simp; omega)))
          have S := src_lo S hb0 HA.out BX
          have G := gb_of_lo G BX
          have zw14 : w.heap.size ≤ w14.heap.size := by have := hbb.size; (try simp at this); omega
          clear BX hbb
          obtain ⟨A_a, n_a, c_a, rfl⟩ := irow_form hr
          have R_a := hr
          clear hr
          go_wp2_with fail
          refine (lit1_any 0 _).mono ?_
          rintro e w15 ⟨v_c, rfl, hr, hbb⟩
          have R_out := irow_below R_out hbb
          have R_a := irow_below R_a hbb
          have BX := hbb.mono (show w.heap.size ≤ _ from (by first | omega | (simp; done) | (simp; omega)))
          have S := src_lo S hb0 HA.out BX
          have G := gb_of_lo G BX
          have zw15 : w.heap.size ≤ w15.heap.size := by have := hbb.size; (try simp at this); omega
          clear BX hbb
          obtain ⟨A_c, n_c, c_c, rfl⟩ := irow_form hr
          have R_c := hr
          clear hr
          go_wp2_with fail
          refine (item1_any 10 _).mono ?_
          rintro e w16 ⟨v_d, rfl, hr, hbb⟩
          have R_out := irow_below R_out hbb
          have R_a := irow_below R_a hbb
          have R_c := irow_below R_c hbb
          have BX := hbb.mono (show w.heap.size ≤ _ from (by first | omega | (simp; done) | (simp; omega)))
          have S := src_lo S hb0 HA.out BX
          have G := gb_of_lo G BX
          have zw16 : w.heap.size ≤ w16.heap.size := by have := hbb.size; (try simp at this); omega
          clear BX hbb
          obtain ⟨A_d, n_d, c_d, rfl⟩ := irow_form hr
          have R_d := hr
          clear hr
          go_wp2_with fail
          refine (block1_drew _ _ _ _ _ _ _ S (by omega)).mono ?_
          rintro e w17 ⟨v_b, Q_b, rfl, hr, F_b, L_b, hs, hg⟩
          have R_out := irow_gb hg R_out (by omega)
          have R_a := irow_gb hg R_a (by omega)
          have R_c := irow_gb hg R_c (by omega)
          have R_d := irow_gb hg R_d (by omega)
          have S := hs
          have G := grown_trans G hg
          have zw17 : w.heap.size ≤ w17.heap.size := by have := hg.size; omega
          clear hs hg
          obtain ⟨A_b, n_b, c_b, rfl⟩ := irow_form hr
          have R_b := hr
          clear hr
          go_wp2_with fail
          refine (next_small _ _ _ _ _ _ _ _ (src_alloc S _) (by unfold Few; omega) (by omega) (by omega)).mono ?_
          rintro e w18 ⟨v7, ⟨l7, u7⟩, rfl, hs, hg⟩
          have Y7 := whole_gbI hg (whole_new w17 _ _) (by omega)
          have R_out := irow_gb hg (irow_alloc R_out _) (by omega)
          have R_a := irow_gb hg (irow_alloc R_a _) (by omega)
          have R_c := irow_gb hg (irow_alloc R_c _) (by omega)
          have R_d := irow_gb hg (irow_alloc R_d _) (by omega)
          have R_b := irow_gb hg (irow_alloc R_b _) (by omega)
          have S := hs
          have G := grown_trans (gb_alloc G _) hg
          have zw18 : w.heap.size ≤ w18.heap.size := by have := hg.size; (try simp at this); omega
          clear hs hg
          obtain ⟨kk, hkk, yc⟩ : ∃ kk : Int, (kk = 11 ∨ kk = 12) ∧ w18.cell? ⟨w17.heap.size, v7.toNat, none⟩ = some (.int .i64 kk) := by
            rcases (by omega : v7 = 0 ∨ v7 = 1 ∨ v7 = 2) with rfl | rfl | rfl
            · exact ⟨11, .inl rfl, whole_cell Y7 0⟩
            · exact ⟨11, .inl rfl, whole_cell Y7 1⟩
            · exact ⟨12, .inr rfl, whole_cell Y7 2⟩
          obtain ⟨j7, rfl⟩ := Int.eq_ofNat_of_zero_le l7
          simp only [Int.toNat_natCast] at yc
          clear Y7
          have R_out := irow_alloc R_out (.cells #[.int .i64 kk, .int .i64 0] 59)
          have R_a := irow_alloc R_a (.cells #[.int .i64 kk, .int .i64 0] 59)
          have R_c := irow_alloc R_c (.cells #[.int .i64 kk, .int .i64 0] 59)
          have R_d := irow_alloc R_d (.cells #[.int .i64 kk, .int .i64 0] 59)
          have R_b := irow_alloc R_b (.cells #[.int .i64 kk, .int .i64 0] 59)
          have R_e := irow_one w18 ⟨kk, 0⟩
          have S := src_alloc S (.cells #[.int .i64 kk, .int .i64 0] 59)
          have G := gb_alloc G (.cells #[.int .i64 kk, .int .i64 0] 59)
          have zzz : w.heap.size ≤ (w18.alloc (.cells #[.int .i64 kk, .int .i64 0] 59)).heap.size := by simp; omega
          go_wp2_with fail
          refine (cat_any (w18.heap.size + 1) 6 [Q, [⟨2, v6⟩], [⟨2, 0⟩], [⟨10, 0⟩], Q_b, [⟨kk, 0⟩]] _ (cats6 _ _ (by simp) (irow_its R_out) (irow_its R_a) (irow_its R_c) (irow_its R_d) (irow_its R_b) (irow_its R_e)) (by simp) rfl (by omega) (by simp; omega)).mono ?_
          rintro e w19 ⟨v9, rfl, hr, hbb⟩
          obtain ⟨A9, n9, c9, rfl⟩ := irow_form hr
          have R9 := irow_base hr (show w.heap.size ≤ _ from (by first | omega | (simp; done) | (simp; omega)))
          clear hr
          have BX := ((Below.refl _ _).alloc (by omega) _ : Below w.heap.size (w18.alloc (.cells #[.int .i64 kk, .int .i64 0] 59)) _).trans (hbb.mono (show w.heap.size ≤ _ from (by first | omega | (simp; done) | (simp; omega))))
          have S := src_lo S hb0 HA.out BX
          have G := gb_of_lo G BX
          clear BX hbb
          have FN : Fits 2 (Q ++ (([⟨2, v6⟩] : List It) ++ (([⟨2, 0⟩] : List It) ++ (([⟨10, 0⟩] : List It) ++ Q_b ++ ([⟨kk, 0⟩] : List It))))) := fits_app F (fits_app (fits_mono (fits_one (itB_lit (by omega)) (by simp)) (by omega)) (fits_app (fits_mono (fits_one (by decide) (by simp)) (by omega)) (fits_two F_b (by omega) (by omega))))
          have E9 : ([Q, [⟨2, v6⟩], [⟨2, 0⟩], [⟨10, 0⟩], Q_b, [⟨kk, 0⟩]] : List (List It)).flatten = Q ++ (([⟨2, v6⟩] : List It) ++ (([⟨2, 0⟩] : List It) ++ (([⟨10, 0⟩] : List It) ++ Q_b ++ ([⟨kk, 0⟩] : List It)))) := by simp
          rw [E9] at R9
          have L9 : ((Q ++ (([⟨2, v6⟩] : List It) ++ (([⟨2, 0⟩] : List It) ++ (([⟨10, 0⟩] : List It) ++ Q_b ++ ([⟨kk, 0⟩] : List It))))).length : Int) ≤ (4 - (k - 1)) * 91 := by simp; omega
          generalize Q ++ (([⟨2, v6⟩] : List It) ++ (([⟨2, 0⟩] : List It) ++ (([⟨10, 0⟩] : List It) ++ Q_b ++ ([⟨kk, 0⟩] : List It)))) = Q9 at *
          clear E9 R_out R_a R_c R_d R_b R_e
          go_wp2
          go_roundw
          case rel => exact ⟨k - 1, _, _, _, Q9, by omega, by omega, by go_num, rfl, R9, FN, L9, src_mono S (by omega), G⟩
          case measure => simp [intOf]; omega
        · go_wp2_with fail
          refine (item1_any 6 _).mono ?_
          rintro e w13 ⟨v_a, rfl, hr, hbb⟩
          have R_out := irow_below R_out hbb
          have BX := hbb.mono (show w.heap.size ≤ _ from (by first | omega | (simp; done) | (simp; omega)))
          have S := src_lo S hb0 HA.out BX
          have G := gb_of_lo G BX
          have zw13 : w.heap.size ≤ w13.heap.size := by have := hbb.size; (try simp at this); omega
          clear BX hbb
          obtain ⟨A_a, n_a, c_a, rfl⟩ := irow_form hr
          have R_a := hr
          clear hr
          go_wp2_with fail
          refine (block0_drew _ _ _ _ _ _ _ S (by omega)).mono ?_
          rintro e w14 ⟨v_b, Q_b, rfl, hr, F_b, L_b, hs, hg⟩
          have R_out := irow_gb hg R_out (by omega)
          have R_a := irow_gb hg R_a (by omega)
          have S := hs
          have G := grown_trans G hg
          have zw14 : w.heap.size ≤ w14.heap.size := by have := hg.size; omega
          clear hs hg
          obtain ⟨A_b, n_b, c_b, rfl⟩ := irow_form hr
          have R_b := hr
          clear hr
          go_wp2_with fail
          refine (item1_any 8 _).mono ?_
          rintro e w15 ⟨v_c, rfl, hr, hbb⟩
          have R_out := irow_below R_out hbb
          have R_a := irow_below R_a hbb
          have R_b := irow_below R_b hbb
          have BX := hbb.mono (show w.heap.size ≤ _ from (by first | omega | (simp; done) | (simp; omega)))
          have S := src_lo S hb0 HA.out BX
          have G := gb_of_lo G BX
          have zw15 : w.heap.size ≤ w15.heap.size := by have := hbb.size; (try simp at this); omega
          clear BX hbb
          obtain ⟨A_c, n_c, c_c, rfl⟩ := irow_form hr
          have R_c := hr
          clear hr
          go_wp2_with fail
          refine (block1_drew _ _ _ _ _ _ _ S (by omega)).mono ?_
          rintro e w16 ⟨v_d, Q_d, rfl, hr, F_d, L_d, hs, hg⟩
          have R_out := irow_gb hg R_out (by omega)
          have R_a := irow_gb hg R_a (by omega)
          have R_b := irow_gb hg R_b (by omega)
          have R_c := irow_gb hg R_c (by omega)
          have S := hs
          have G := grown_trans G hg
          have zw16 : w.heap.size ≤ w16.heap.size := by have := hg.size; omega
          clear hs hg
          obtain ⟨A_d, n_d, c_d, rfl⟩ := irow_form hr
          have R_d := hr
          clear hr
          go_wp2_with fail
          refine (item1_any 9 _).mono ?_
          rintro e w17 ⟨v_e, rfl, hr, hbb⟩
          have R_out := irow_below R_out hbb
          have R_a := irow_below R_a hbb
          have R_b := irow_below R_b hbb
          have R_c := irow_below R_c hbb
          have R_d := irow_below R_d hbb
          have BX := hbb.mono (show w.heap.size ≤ _ from (by first | omega | (simp; done) | (simp; omega)))
          have S := src_lo S hb0 HA.out BX
          have G := gb_of_lo G BX
          have zw17 : w.heap.size ≤ w17.heap.size := by have := hbb.size; (try simp at this); omega
          clear BX hbb
          obtain ⟨A_e, n_e, c_e, rfl⟩ := irow_form hr
          have R_e := hr
          clear hr
          go_wp2_with fail
          refine (cat_any _ 6 [Q, [⟨6, 0⟩], Q_b, [⟨8, 0⟩], Q_d, [⟨9, 0⟩]] _ (cats6 _ _ rfl (irow_its R_out) (irow_its R_a) (irow_its R_b) (irow_its R_c) (irow_its R_d) (irow_its R_e)) (by simp) rfl (by omega) (by simp; omega)).mono ?_
          rintro e w18 ⟨v9, rfl, hr, hbb⟩
          obtain ⟨A9, n9, c9, rfl⟩ := irow_form hr
          have R9 := irow_base hr (show w.heap.size ≤ _ from (by first | omega | (simp; done) | (simp; omega)))
          clear hr
          have BX := ((Below.refl _ _).alloc (by omega) _ : Below w.heap.size w17 _).trans (hbb.mono (show w.heap.size ≤ _ from (by first | omega | (simp; done) | (simp; omega))))
          have S := src_lo S hb0 HA.out BX
          have G := gb_of_lo G BX
          clear BX hbb
          have FN : Fits 2 (Q ++ (([⟨6, 0⟩] : List It) ++ Q_b ++ ([⟨8, 0⟩] : List It) ++ Q_d ++ ([⟨9, 0⟩] : List It))) := fits_app F (fits_three (fits_mono F_b (by omega)) F_d (by omega))
          have E9 : ([Q, [⟨6, 0⟩], Q_b, [⟨8, 0⟩], Q_d, [⟨9, 0⟩]] : List (List It)).flatten = Q ++ (([⟨6, 0⟩] : List It) ++ Q_b ++ ([⟨8, 0⟩] : List It) ++ Q_d ++ ([⟨9, 0⟩] : List It)) := by simp
          rw [E9] at R9
          have L9 : ((Q ++ (([⟨6, 0⟩] : List It) ++ Q_b ++ ([⟨8, 0⟩] : List It) ++ Q_d ++ ([⟨9, 0⟩] : List It))).length : Int) ≤ (4 - (k - 1)) * 91 := by simp; omega
          generalize Q ++ (([⟨6, 0⟩] : List It) ++ Q_b ++ ([⟨8, 0⟩] : List It) ++ Q_d ++ ([⟨9, 0⟩] : List It)) = Q9 at *
          clear E9 R_out R_a R_b R_c R_d R_e
          go_wp2
          go_roundw
          case rel => exact ⟨k - 1, _, _, _, Q9, by omega, by omega, by go_num, rfl, R9, FN, L9, src_mono S (by omega), G⟩
          case measure => simp [intOf]; omega
    · obtain rfl : k = 0 := by omega
      go_wp2
      go_ret
      exact ⟨_, Q, rfl, R_out, F, by omega, src_mono S (by omega), G⟩

end Go.Proofs.Ytafhmajnkicifaa

namespace Go.Proofs.Ytafhmajnkicifaa
open Go.RowKit
set_option linter.unusedVariables false
set_option linter.unusedSimpArgs false

def chB (v : Int) (n : Nat) : Bool := decide (v + 1 = n)

/-- A chance. -/
def ChE (w : World) (b : Nat) (a : Option Addr) (len cap : Nat) (zs : List Int) (n : Nat) (s : DSt) (e : Ending) (w' : World) : Prop :=
  ∃ (t : Bool) (v : Int) (s' : DSt), dNx len zs n s = (v, s') ∧ chB v n = t ∧ s'.1 = s.1 + 1 ∧ e = .returned (.bool t) ∧ SrcS w' b a len cap zs s' ∧ w.grownBy w' (some b)

theorem chanceE (b : Nat) (a : Option Addr) (len cap : Nat) (zs : List Int) (s : DSt) (n : Nat) (w : World) (h : SrcS w b a len cap zs s) (hN : s.1 < 1000000000) (h1 : 1 < n) (h2 : n ≤ 256) :
    Calls Try.prog 44 #[.pointer (some ⟨b, 0, none⟩), .int .i64 n] w (ChE w b a len cap zs n s) := by
  refine (chanceD b a len cap zs s n w h hN h1 h2).mono ?_
  rintro e w' ⟨t, v, s', he, ht, hp, hr, hs, hg⟩
  refine ⟨t, v, s', he, ?_, hp, hr, hs, hg⟩
  unfold chB
  rw [Bool.eq_iff_iff, ht, decide_eq_true_iff]

def fixI (x : It) : It := if x.k = 1 then (if inB x.v 57 62 = true then ⟨1, 1⟩ else x) else x

/-- A loop that draws. -/
def dLoop (f : List It → DSt → List It × DSt) : Nat → List It → DSt → List It × DSt
  | 0, Q, s => (Q, s)
  | n + 1, Q, s => dLoop f n (f Q s).1 (f Q s).2

theorem dLoop_succ (f : List It → DSt → List It × DSt) (n : Nat) (Q : List It) (s : DSt) : dLoop f (n + 1) Q s = dLoop f n (f Q s).1 (f Q s).2 := rfl

def dStp0 (len : Nat) (zs : List Int) (Q : List It) (s : DSt) : List It × DSt := (Q ++ [fixI (dFlat len zs s).1], (dFlat len zs s).2)

def dStpB (len : Nat) (zs : List Int) (f0 f : DSt → List It × DSt) (Q : List It) (s : DSt) : List It × DSt :=
  let c := dNx len zs 4 s
  if chB c.1 4 = true then
    let p := dNx len zs 5 c.2
    if p.1 = 0 then (Q ++ ([⟨3, 0⟩] ++ (f p.2).1 ++ [⟨5, 0⟩]), (f p.2).2)
    else if p.1 = 1 then (Q ++ ([⟨3, 0⟩] ++ (f p.2).1 ++ [⟨4, 0⟩] ++ (f (f p.2).2).1 ++ [⟨5, 0⟩]), (f (f p.2).2).2)
    else if p.1 = 2 then
      let l := dNx len zs 3 p.2
      (Q ++ ([⟨2, 1 + l.1⟩] ++ ([⟨6, 0⟩] ++ ([⟨1, 29⟩] ++ (f0 l.2).1 ++ [⟨1, 1⟩] ++ [⟨1, 37⟩]) ++ [⟨7, 0⟩])), (f0 l.2).2)
    else if p.1 = 3 then
      let l := dNx len zs 4 p.2
      let m := dNx len zs 3 (f l.2).2
      (Q ++ ([⟨2, l.1⟩] ++ ([⟨2, 0⟩] ++ ([⟨10, 0⟩] ++ (f l.2).1 ++ [⟨if m.1 = 2 then 12 else 11, 0⟩]))), m.2)
    else (Q ++ ([⟨6, 0⟩] ++ (f0 p.2).1 ++ [⟨8, 0⟩] ++ (f (f0 p.2).2).1 ++ [⟨9, 0⟩]), (f (f0 p.2).2).2)
  else (Q ++ [fixI (dFlat len zs c.2).1], (dFlat len zs c.2).2)

def dBlk0 (len : Nat) (zs : List Int) (s : DSt) : List It × DSt := dLoop (dStp0 len zs) (1 + (dNx len zs 4 s).1).toNat [] (dNx len zs 4 s).2

def dBlk1 (len : Nat) (zs : List Int) (s : DSt) : List It × DSt := dLoop (dStpB len zs (dBlk0 len zs) (dBlk0 len zs)) (1 + (dNx len zs 4 s).1).toNat [] (dNx len zs 4 s).2

def dBlk2 (len : Nat) (zs : List Int) (s : DSt) : List It × DSt := dLoop (dStpB len zs (dBlk0 len zs) (dBlk1 len zs)) (1 + (dNx len zs 4 s).1).toNat [] (dNx len zs 4 s).2

/-- What an exact draw of a block leaves. -/
def BlkD (f : DSt → List It × DSt) (m d M : Nat) (w : World) (b : Nat) (a : Option Addr) (len cap : Nat) (zs : List Int) (s : DSt) (e : Ending) (w' : World) : Prop :=
  ∃ v Q s', f s = (Q, s') ∧ e = .returned v ∧ IRow w' w.heap.size v Q ∧ Fits d Q ∧ Q.length ≤ M ∧ s'.1 ≤ s.1 + m ∧ SrcS w' b a len cap zs s' ∧ w.grownBy w' (some b)

set_option maxRecDepth 100000 in
set_option maxHeartbeats 8000000 in
theorem block0D (b : Nat) (a : Option Addr) (len cap : Nat) (zs : List Int) (s0 : DSt) (w : World) (h : SrcS w b a len cap zs s0) (hN : s0.1 ≤ 600000000) :
    Calls Try.prog 43 #[.pointer (some ⟨b, 0, none⟩), .int .i64 86, .int .i64 0] w (BlkD (dBlk0 len zs) 100 0 4 w b a len cap zs s0) := by
  have hb0 := srcS_lt h
  have HA := Lib.hid (srcS_code_lt h)
  have H := Lib.hid h
  clear h
  go_enter Try.func43, Try.ntmps43
  go_wp2_with fail
  refine (nextD _ _ _ _ _ _ 4 _ (srcS_alloc H.out _) (by omega) (by omega) (by omega)).mono ?_
  rintro e w1 ⟨v, t1, he1, ⟨v0, v1⟩, hp1, rfl, hs, hg⟩
  have E1 := Lib.hid he1
  clear he1
  have S := hs
  have G := grown_trans (gb_alloc (World.grownBy.refl w _) _) hg
  have R_out : IRow w1 w.heap.size (.slice (some ⟨w.heap.size, 0, none⟩) 0 0) [] := irow_gb hg (irow_empty w (Nat.le_refl _)) hb0
  clear hs hg
  obtain ⟨R0, hR0⟩ : ∃ R, dLoop (dStp0 len zs) (1 + v).toNat [] t1 = R := ⟨_, rfl⟩
  have RES : Hid (dBlk0 len zs s0 = R0) := Lib.hid (by unfold dBlk0; rw [E1.out]; exact hR0)
  have HR0 := Lib.hid hR0
  clear hR0
  go_wp2
  go_loopw [7, 8] (fun o i wr => ∃ (k : Int) (A : Option Addr) (n c : Nat) (Q : List It) (t : DSt), 0 ≤ k ∧ k ≤ 4 ∧ i = .int .i64 k ∧ o = .slice A n c ∧ IRow wr w.heap.size (.slice A n c) Q ∧ Fits 0 Q ∧ (Q.length : Int) ≤ (4 - k) * 1 ∧ SrcS wr b a len cap zs t ∧ t.1 ≤ s0.1 + 1 + (4 - k.toNat) * 20 ∧ dLoop (dStp0 len zs) k.toNat Q t = R0 ∧ w.grownBy wr (some b)) (fun _ i _ => (intOf i).toNat)
  case atStart => exact ⟨1 + v, _, _, _, [], t1, by omega, by omega, by go_num, rfl, R_out, fits_nil _, by simp; omega, S, by omega, HR0.out, G⟩
  case round =>
    clear R_out S G
    obtain ⟨k, A, n, c, Q, t, k0, k4, rfl, rfl, R_out, F, LQ, S, hpt, RT, G⟩ := hrel
    have HRT := Lib.hid RT
    clear RT
    have zwr : w.heap.size ≤ wr.heap.size := G.size
    by_cases hlt : 0 < k
    · go_wp2_with fail
      refine (flatD _ _ _ _ _ _ _ S (by omega)).mono ?_
      rintro e w11 ⟨⟨xk, xv⟩, t11, he11, rfl, xb, hx, hp11, hs, hg⟩
      have E11 := Lib.hid he11
      clear he11
      have R_out := irow_gb hg R_out (by omega)
      have S := hs
      have G := grown_trans G hg
      have zw11 : w.heap.size ≤ w11.heap.size := by have := hg.size; omega
      clear hs hg
      simp only at hx xb
      rcases hx with rfl | rfl
      · cases hin : inB xv 57 62
        · have FX := xb
          go_wp2_with (first | (go_at_call 59; refine (sIn_any _ _ _ _).mono ?_; rintro e w' ⟨rfl, rfl⟩; rw [hin]) | (at_builtin; refine wpList_append_items rfl (.tmp 37) (.tmp 39) rfl rfl w.heap.size _ Q (irow_below R_out (by repeat (first | with_reducible exact Below.refl _ _ | with_reducible refine Below.setCell ?_ (by first | omega | (simp; done) | (simp; omega)) _ | with_reducible refine Below.alloc ?_ (by first | omega | (simp; done) | (simp; omega)) _))) _ [⟨1, xv⟩] (its_lit ⟨1, xv⟩ (by simp)) rfl rfl (by simp; omega) (by simp; omega) ?_; intro v9 w9 hr hgr hat; obtain ⟨A9, n9, c9, rfl⟩ := irow_form hr; have BX : Below w.heap.size w11 w9 := Below.grown (by repeat (first | with_reducible exact Below.refl _ _ | with_reducible refine Below.setCell ?_ (by first | omega | (simp; done) | (simp; omega)) _ | with_reducible refine Below.alloc ?_ (by first | omega | (simp; done) | (simp; omega)) _)) hgr (by simp; omega) (fun g hg => (irow_lt R_out g hg).1); have S := srcS_lo S hb0 HA.out BX; have G := gb_of_lo G BX; clear BX hgr hat))
          have FN : Fits 0 (Q ++ [(⟨1, xv⟩ : It)]) := fits_app F (fits_mono (fits_one FX (by simp)) (by omega))
          have L9 : ((Q ++ [(⟨1, xv⟩ : It)]).length : Int) ≤ (4 - (k - 1)) * 1 := by simp; omega
          have RN : Hid (dLoop (dStp0 len zs) (k - 1).toNat (Q ++ [(⟨1, xv⟩ : It)]) t11 = R0) := Lib.hid (by
            have q := HRT.out
            rw [show k.toNat = (k - 1).toNat + 1 by omega, dLoop_succ] at q
            rw [show (dStp0 len zs) Q t = (Q ++ [(⟨1, xv⟩ : It)], t11) by (unfold dStp0; simp [E11.out, fixI, hin])] at q
            exact q)
          generalize Q ++ [(⟨1, xv⟩ : It)] = Q9 at *
          clear R_out
          go_roundw
          case rel => exact ⟨k - 1, _, _, _, Q9, t11, by omega, by omega, by go_num, rfl, hr, FN, L9, S, by omega, RN.out, G⟩
          case measure => simp [intOf]; omega
        · have FX : itB (⟨1, 1⟩ : It) = true := by decide
          go_wp2_with (first | (go_at_call 59; refine (sIn_any _ _ _ _).mono ?_; rintro e w' ⟨rfl, rfl⟩; rw [hin]) | (at_builtin; refine wpList_append_items rfl (.tmp 37) (.tmp 39) rfl rfl w.heap.size _ Q (irow_below R_out (by repeat (first | with_reducible exact Below.refl _ _ | with_reducible refine Below.setCell ?_ (by first | omega | (simp; done) | (simp; omega)) _ | with_reducible refine Below.alloc ?_ (by first | omega | (simp; done) | (simp; omega)) _))) _ [⟨1, 1⟩] (its_lit ⟨1, 1⟩ (by simp)) rfl rfl (by simp; omega) (by simp; omega) ?_; intro v9 w9 hr hgr hat; obtain ⟨A9, n9, c9, rfl⟩ := irow_form hr; have BX : Below w.heap.size w11 w9 := Below.grown (by repeat (first | with_reducible exact Below.refl _ _ | with_reducible refine Below.setCell ?_ (by first | omega | (simp; done) | (simp; omega)) _ | with_reducible refine Below.alloc ?_ (by first | omega | (simp; done) | (simp; omega)) _)) hgr (by simp; omega) (fun g hg => (irow_lt R_out g hg).1); have S := srcS_lo S hb0 HA.out BX; have G := gb_of_lo G BX; clear BX hgr hat))
          have FN : Fits 0 (Q ++ [(⟨1, 1⟩ : It)]) := fits_app F (fits_mono (fits_one FX (by simp)) (by omega))
          have L9 : ((Q ++ [(⟨1, 1⟩ : It)]).length : Int) ≤ (4 - (k - 1)) * 1 := by simp; omega
          have RN : Hid (dLoop (dStp0 len zs) (k - 1).toNat (Q ++ [(⟨1, 1⟩ : It)]) t11 = R0) := Lib.hid (by
            have q := HRT.out
            rw [show k.toNat = (k - 1).toNat + 1 by omega, dLoop_succ] at q
            rw [show (dStp0 len zs) Q t = (Q ++ [(⟨1, 1⟩ : It)], t11) by (unfold dStp0; simp [E11.out, fixI, hin])] at q
            exact q)
          generalize Q ++ [(⟨1, 1⟩ : It)] = Q9 at *
          clear R_out
          go_roundw
          case rel => exact ⟨k - 1, _, _, _, Q9, t11, by omega, by omega, by go_num, rfl, hr, FN, L9, S, by omega, RN.out, G⟩
          case measure => simp [intOf]; omega
      · have FX := xb
        go_wp2_with (first | (at_builtin; refine wpList_append_items rfl (.tmp 37) (.tmp 39) rfl rfl w.heap.size _ Q (irow_below R_out (by repeat (first | with_reducible exact Below.refl _ _ | with_reducible refine Below.setCell ?_ (by first | omega | (simp; done) | (simp; omega)) _ | with_reducible refine Below.alloc ?_ (by first | omega | (simp; done) | (simp; omega)) _))) _ [⟨2, xv⟩] (its_lit ⟨2, xv⟩ (by simp)) rfl rfl (by simp; omega) (by simp; omega) ?_; intro v9 w9 hr hgr hat; obtain ⟨A9, n9, c9, rfl⟩ := irow_form hr; have BX : Below w.heap.size w11 w9 := Below.grown (by repeat (first | with_reducible exact Below.refl _ _ | with_reducible refine Below.setCell ?_ (by first | omega | (simp; done) | (simp; omega)) _ | with_reducible refine Below.alloc ?_ (by first | omega | (simp; done) | (simp; omega)) _)) hgr (by simp; omega) (fun g hg => (irow_lt R_out g hg).1); have S := srcS_lo S hb0 HA.out BX; have G := gb_of_lo G BX; clear BX hgr hat))
        have FN : Fits 0 (Q ++ [(⟨2, xv⟩ : It)]) := fits_app F (fits_mono (fits_one FX (by simp)) (by omega))
        have L9 : ((Q ++ [(⟨2, xv⟩ : It)]).length : Int) ≤ (4 - (k - 1)) * 1 := by simp; omega
        have RN : Hid (dLoop (dStp0 len zs) (k - 1).toNat (Q ++ [(⟨2, xv⟩ : It)]) t11 = R0) := Lib.hid (by
          have q := HRT.out
          rw [show k.toNat = (k - 1).toNat + 1 by omega, dLoop_succ] at q
          rw [show (dStp0 len zs) Q t = (Q ++ [(⟨2, xv⟩ : It)], t11) by (unfold dStp0; simp [E11.out, fixI])] at q
          exact q)
        generalize Q ++ [(⟨2, xv⟩ : It)] = Q9 at *
        clear R_out
        go_roundw
        case rel => exact ⟨k - 1, _, _, _, Q9, t11, by omega, by omega, by go_num, rfl, hr, FN, L9, S, by omega, RN.out, G⟩
        case measure => simp [intOf]; omega
    · obtain rfl : k = 0 := by omega
      go_wp2
      go_ret
      exact ⟨_, Q, t, by rw [RES.out]; have q := HRT.out; simpa [dLoop] using q.symm, rfl, R_out, F, by omega, by omega, S, G⟩

end Go.Proofs.Ytafhmajnkicifaa

namespace Go.Proofs.Ytafhmajnkicifaa
open Go.RowKit
set_option linter.unusedVariables false
set_option linter.unusedSimpArgs false

set_option maxRecDepth 100000 in
set_option maxHeartbeats 8000000 in
theorem block1D (b : Nat) (a : Option Addr) (len cap : Nat) (zs : List Int) (s0 : DSt) (w : World) (h : SrcS w b a len cap zs s0) (hN : s0.1 ≤ 500000000) :
    Calls Try.prog 43 #[.pointer (some ⟨b, 0, none⟩), .int .i64 86, .int .i64 1] w (BlkD (dBlk1 len zs) 1000 1 44 w b a len cap zs s0) := by
  have hb0 := srcS_lt h
  have HA := Lib.hid (srcS_code_lt h)
  have H := Lib.hid h
  clear h
  go_enter Try.func43, Try.ntmps43
  go_wp2_with fail
  refine (nextD _ _ _ _ _ _ 4 _ (srcS_alloc H.out _) (by omega) (by omega) (by omega)).mono ?_
  rintro e w1 ⟨v, t1, he1, ⟨v0, v1⟩, hp1, rfl, hs, hg⟩
  have E1 := Lib.hid he1
  clear he1
  have S := hs
  have G := grown_trans (gb_alloc (World.grownBy.refl w _) _) hg
  have R_out : IRow w1 w.heap.size (.slice (some ⟨w.heap.size, 0, none⟩) 0 0) [] := irow_gb hg (irow_empty w (Nat.le_refl _)) hb0
  clear hs hg
  obtain ⟨R0, hR0⟩ : ∃ R, dLoop (dStpB len zs (dBlk0 len zs) (dBlk0 len zs)) (1 + v).toNat [] t1 = R := ⟨_, rfl⟩
  have RES : Hid (dBlk1 len zs s0 = R0) := Lib.hid (by unfold dBlk1; rw [E1.out]; exact hR0)
  have HR0 := Lib.hid hR0
  clear hR0
  go_wp2
  go_loopw [7, 8] (fun o i wr => ∃ (k : Int) (A : Option Addr) (n c : Nat) (Q : List It) (t : DSt), 0 ≤ k ∧ k ≤ 4 ∧ i = .int .i64 k ∧ o = .slice A n c ∧ IRow wr w.heap.size (.slice A n c) Q ∧ Fits 1 Q ∧ (Q.length : Int) ≤ (4 - k) * 11 ∧ SrcS wr b a len cap zs t ∧ t.1 ≤ s0.1 + 1 + (4 - k.toNat) * 210 ∧ dLoop (dStpB len zs (dBlk0 len zs) (dBlk0 len zs)) k.toNat Q t = R0 ∧ w.grownBy wr (some b)) (fun _ i _ => (intOf i).toNat)
  case atStart => exact ⟨1 + v, _, _, _, [], t1, by omega, by omega, by go_num, rfl, R_out, fits_nil _, by simp; omega, S, by omega, HR0.out, G⟩
  case round =>
    clear R_out S G
    obtain ⟨k, A, n, c, Q, t, k0, k4, rfl, rfl, R_out, F, LQ, S, hpt, RT, G⟩ := hrel
    have HRT := Lib.hid RT
    clear RT
    have zwr : w.heap.size ≤ wr.heap.size := G.size
    by_cases hlt : 0 < k
    · go_wp2_with fail
      refine (chanceE _ _ _ _ _ _ 4 _ S (by omega) (by omega) (by omega)).mono ?_
      rintro e w11 ⟨y, vc, t11, he11, hc11, hp11, rfl, hs, hg⟩
      have E11 := Lib.hid he11
      clear he11
      have HC11 := Lib.hid hc11
      clear hc11
      have R_out := irow_gb hg R_out (by omega)
      have S := hs
      have G := grown_trans G hg
      have zw11 : w.heap.size ≤ w11.heap.size := by have := hg.size; omega
      clear hs hg
      cases y
      · go_wp2_with fail
        refine (flatD _ _ _ _ _ _ _ S (by omega)).mono ?_
        rintro e w12 ⟨⟨xk, xv⟩, t12, he12, rfl, xb, hx, hp12, hs, hg⟩
        have E12 := Lib.hid he12
        clear he12
        have R_out := irow_gb hg R_out (by omega)
        have S := hs
        have G := grown_trans G hg
        have zw12 : w.heap.size ≤ w12.heap.size := by have := hg.size; omega
        clear hs hg
        simp only at hx xb
        rcases hx with rfl | rfl
        · cases hin : inB xv 57 62
          · have FX := xb
            go_wp2_with (first | (go_at_call 59; refine (sIn_any _ _ _ _).mono ?_; rintro e w' ⟨rfl, rfl⟩; rw [hin]) | (at_builtin; refine wpList_append_items rfl (.tmp 37) (.tmp 39) rfl rfl w.heap.size _ Q (irow_below R_out (by repeat (first | with_reducible exact Below.refl _ _ | with_reducible refine Below.setCell ?_ (by first | omega | (simp; done) | (simp; omega)) _ | with_reducible refine Below.alloc ?_ (by first | omega | (simp; done) | (simp; omega)) _))) _ [⟨1, xv⟩] (its_lit ⟨1, xv⟩ (by simp)) rfl rfl (by simp; omega) (by simp; omega) ?_; intro v9 w9 hr hgr hat; obtain ⟨A9, n9, c9, rfl⟩ := irow_form hr; have BX : Below w.heap.size w12 w9 := Below.grown (by repeat (first | with_reducible exact Below.refl _ _ | with_reducible refine Below.setCell ?_ (by first | omega | (simp; done) | (simp; omega)) _ | with_reducible refine Below.alloc ?_ (by first | omega | (simp; done) | (simp; omega)) _)) hgr (by simp; omega) (fun g hg => (irow_lt R_out g hg).1); have S := srcS_lo S hb0 HA.out BX; have G := gb_of_lo G BX; clear BX hgr hat))
            have FN : Fits 1 (Q ++ [(⟨1, xv⟩ : It)]) := fits_app F (fits_mono (fits_one FX (by simp)) (by omega))
            have L9 : ((Q ++ [(⟨1, xv⟩ : It)]).length : Int) ≤ (4 - (k - 1)) * 11 := by simp; omega
            have RN : Hid (dLoop (dStpB len zs (dBlk0 len zs) (dBlk0 len zs)) (k - 1).toNat (Q ++ [(⟨1, xv⟩ : It)]) t12 = R0) := Lib.hid (by
              have q := HRT.out
              rw [show k.toNat = (k - 1).toNat + 1 by omega, dLoop_succ] at q
              rw [show (dStpB len zs (dBlk0 len zs) (dBlk0 len zs)) Q t = (Q ++ [(⟨1, xv⟩ : It)], t12) by (unfold dStpB; simp [E11.out, HC11.out, E12.out, fixI, hin])] at q
              exact q)
            generalize Q ++ [(⟨1, xv⟩ : It)] = Q9 at *
            clear R_out
            go_roundw
            case rel => exact ⟨k - 1, _, _, _, Q9, t12, by omega, by omega, by go_num, rfl, hr, FN, L9, S, by omega, RN.out, G⟩
            case measure => simp [intOf]; omega
          · have FX : itB (⟨1, 1⟩ : It) = true := by decide
            go_wp2_with (first | (go_at_call 59; refine (sIn_any _ _ _ _).mono ?_; rintro e w' ⟨rfl, rfl⟩; rw [hin]) | (at_builtin; refine wpList_append_items rfl (.tmp 37) (.tmp 39) rfl rfl w.heap.size _ Q (irow_below R_out (by repeat (first | with_reducible exact Below.refl _ _ | with_reducible refine Below.setCell ?_ (by first | omega | (simp; done) | (simp; omega)) _ | with_reducible refine Below.alloc ?_ (by first | omega | (simp; done) | (simp; omega)) _))) _ [⟨1, 1⟩] (its_lit ⟨1, 1⟩ (by simp)) rfl rfl (by simp; omega) (by simp; omega) ?_; intro v9 w9 hr hgr hat; obtain ⟨A9, n9, c9, rfl⟩ := irow_form hr; have BX : Below w.heap.size w12 w9 := Below.grown (by repeat (first | with_reducible exact Below.refl _ _ | with_reducible refine Below.setCell ?_ (by first | omega | (simp; done) | (simp; omega)) _ | with_reducible refine Below.alloc ?_ (by first | omega | (simp; done) | (simp; omega)) _)) hgr (by simp; omega) (fun g hg => (irow_lt R_out g hg).1); have S := srcS_lo S hb0 HA.out BX; have G := gb_of_lo G BX; clear BX hgr hat))
            have FN : Fits 1 (Q ++ [(⟨1, 1⟩ : It)]) := fits_app F (fits_mono (fits_one FX (by simp)) (by omega))
            have L9 : ((Q ++ [(⟨1, 1⟩ : It)]).length : Int) ≤ (4 - (k - 1)) * 11 := by simp; omega
            have RN : Hid (dLoop (dStpB len zs (dBlk0 len zs) (dBlk0 len zs)) (k - 1).toNat (Q ++ [(⟨1, 1⟩ : It)]) t12 = R0) := Lib.hid (by
              have q := HRT.out
              rw [show k.toNat = (k - 1).toNat + 1 by omega, dLoop_succ] at q
              rw [show (dStpB len zs (dBlk0 len zs) (dBlk0 len zs)) Q t = (Q ++ [(⟨1, 1⟩ : It)], t12) by (unfold dStpB; simp [E11.out, HC11.out, E12.out, fixI, hin])] at q
              exact q)
            generalize Q ++ [(⟨1, 1⟩ : It)] = Q9 at *
            clear R_out
            go_roundw
            case rel => exact ⟨k - 1, _, _, _, Q9, t12, by omega, by omega, by go_num, rfl, hr, FN, L9, S, by omega, RN.out, G⟩
            case measure => simp [intOf]; omega
        · have FX := xb
          go_wp2_with (first | (at_builtin; refine wpList_append_items rfl (.tmp 37) (.tmp 39) rfl rfl w.heap.size _ Q (irow_below R_out (by repeat (first | with_reducible exact Below.refl _ _ | with_reducible refine Below.setCell ?_ (by first | omega | (simp; done) | (simp; omega)) _ | with_reducible refine Below.alloc ?_ (by first | omega | (simp; done) | (simp; omega)) _))) _ [⟨2, xv⟩] (its_lit ⟨2, xv⟩ (by simp)) rfl rfl (by simp; omega) (by simp; omega) ?_; intro v9 w9 hr hgr hat; obtain ⟨A9, n9, c9, rfl⟩ := irow_form hr; have BX : Below w.heap.size w12 w9 := Below.grown (by repeat (first | with_reducible exact Below.refl _ _ | with_reducible refine Below.setCell ?_ (by first | omega | (simp; done) | (simp; omega)) _ | with_reducible refine Below.alloc ?_ (by first | omega | (simp; done) | (simp; omega)) _)) hgr (by simp; omega) (fun g hg => (irow_lt R_out g hg).1); have S := srcS_lo S hb0 HA.out BX; have G := gb_of_lo G BX; clear BX hgr hat))
          have FN : Fits 1 (Q ++ [(⟨2, xv⟩ : It)]) := fits_app F (fits_mono (fits_one FX (by simp)) (by omega))
          have L9 : ((Q ++ [(⟨2, xv⟩ : It)]).length : Int) ≤ (4 - (k - 1)) * 11 := by simp; omega
          have RN : Hid (dLoop (dStpB len zs (dBlk0 len zs) (dBlk0 len zs)) (k - 1).toNat (Q ++ [(⟨2, xv⟩ : It)]) t12 = R0) := Lib.hid (by
            have q := HRT.out
            rw [show k.toNat = (k - 1).toNat + 1 by omega, dLoop_succ] at q
            rw [show (dStpB len zs (dBlk0 len zs) (dBlk0 len zs)) Q t = (Q ++ [(⟨2, xv⟩ : It)], t12) by (unfold dStpB; simp [E11.out, HC11.out, E12.out, fixI])] at q
            exact q)
          generalize Q ++ [(⟨2, xv⟩ : It)] = Q9 at *
          clear R_out
          go_roundw
          case rel => exact ⟨k - 1, _, _, _, Q9, t12, by omega, by omega, by go_num, rfl, hr, FN, L9, S, by omega, RN.out, G⟩
          case measure => simp [intOf]; omega
      · go_wp2_with fail
        refine (nextD _ _ _ _ _ _ 5 _ S (by omega) (by omega) (by omega)).mono ?_
        rintro e w12 ⟨v5, t12, he12, ⟨lv5, uv5⟩, hp12, rfl, hs, hg⟩
        have E12 := Lib.hid he12
        clear he12
        have R_out := irow_gb hg R_out (by omega)
        have S := hs
        have G := grown_trans G hg
        have zw12 : w.heap.size ≤ w12.heap.size := by have := hg.size; omega
        clear hs hg
        rcases (by omega : v5 = 0 ∨ v5 = 1 ∨ v5 = 2 ∨ v5 = 3 ∨ v5 = 4) with rfl | rfl | rfl | rfl | rfl
        · go_wp2_with fail
          refine (item1_any 3 _).mono ?_
          rintro e w13 ⟨v_a, rfl, hr, hbb⟩
          have R_out := irow_below R_out hbb
          have BX := hbb.mono (show w.heap.size ≤ _ from (by first | omega | (simp; done) | (simp; omega)))
          have S := srcS_lo S hb0 HA.out BX
          have G := gb_of_lo G BX
          have zw13 : w.heap.size ≤ w13.heap.size := by have := hbb.size; (try simp at this); omega
          clear BX hbb
          obtain ⟨A_a, n_a, c_a, rfl⟩ := irow_form hr
          have R_a := hr
          clear hr
          go_wp2_with fail
          refine (block0D _ _ _ _ _ _ _ S (by omega)).mono ?_
          rintro e w14 ⟨v_b, Q_b, t14, he14, rfl, hr, F_b, L_b, hp14, hs, hg⟩
          have E14 := Lib.hid he14
          clear he14
          have R_out := irow_gb hg R_out (by omega)
          have R_a := irow_gb hg R_a (by omega)
          have S := hs
          have G := grown_trans G hg
          have zw14 : w.heap.size ≤ w14.heap.size := by have := hg.size; omega
          clear hs hg
          obtain ⟨A_b, n_b, c_b, rfl⟩ := irow_form hr
          have R_b := hr
          clear hr
          go_wp2_with fail
          refine (item1_any 5 _).mono ?_
          rintro e w15 ⟨v_c, rfl, hr, hbb⟩
          have R_out := irow_below R_out hbb
          have R_a := irow_below R_a hbb
          have R_b := irow_below R_b hbb
          have BX := hbb.mono (show w.heap.size ≤ _ from (by first | omega | (simp; done) | (simp; omega)))
          have S := srcS_lo S hb0 HA.out BX
          have G := gb_of_lo G BX
          have zw15 : w.heap.size ≤ w15.heap.size := by have := hbb.size; (try simp at this); omega
          clear BX hbb
          obtain ⟨A_c, n_c, c_c, rfl⟩ := irow_form hr
          have R_c := hr
          clear hr
          go_wp2_with fail
          refine (cat_any _ 4 [Q, [⟨3, 0⟩], Q_b, [⟨5, 0⟩]] _ (cats4 _ _ rfl (irow_its R_out) (irow_its R_a) (irow_its R_b) (irow_its R_c)) (by simp) rfl (by omega) (by simp; omega)).mono ?_
          rintro e w16 ⟨v9, rfl, hr, hbb⟩
          obtain ⟨A9, n9, c9, rfl⟩ := irow_form hr
          have R9 := irow_base hr (show w.heap.size ≤ _ from (by first | omega | (simp; done) | (simp; omega)))
          clear hr
          have BX := ((Below.refl _ _).alloc (by omega) _ : Below w.heap.size w15 _).trans (hbb.mono (show w.heap.size ≤ _ from (by first | omega | (simp; done) | (simp; omega))))
          have S := srcS_lo S hb0 HA.out BX
          have G := gb_of_lo G BX
          clear BX hbb
          have FN : Fits 1 (Q ++ (([⟨3, 0⟩] : List It) ++ Q_b ++ ([⟨5, 0⟩] : List It))) := fits_app F (fits_two F_b (by omega) (by omega))
          have E9 : ([Q, [⟨3, 0⟩], Q_b, [⟨5, 0⟩]] : List (List It)).flatten = Q ++ (([⟨3, 0⟩] : List It) ++ Q_b ++ ([⟨5, 0⟩] : List It)) := by simp
          rw [E9] at R9
          have L9 : ((Q ++ (([⟨3, 0⟩] : List It) ++ Q_b ++ ([⟨5, 0⟩] : List It))).length : Int) ≤ (4 - (k - 1)) * 11 := by simp; omega
          have RN : Hid (dLoop (dStpB len zs (dBlk0 len zs) (dBlk0 len zs)) (k - 1).toNat (Q ++ (([⟨3, 0⟩] : List It) ++ Q_b ++ ([⟨5, 0⟩] : List It))) t14 = R0) := Lib.hid (by
            have q := HRT.out
            rw [show k.toNat = (k - 1).toNat + 1 by omega, dLoop_succ] at q
            rw [show (dStpB len zs (dBlk0 len zs) (dBlk0 len zs)) Q t = (Q ++ (([⟨3, 0⟩] : List It) ++ Q_b ++ ([⟨5, 0⟩] : List It)), t14) by (unfold dStpB; simp [E11.out, HC11.out, E12.out, E14.out, fixI])] at q
            exact q)
          generalize Q ++ (([⟨3, 0⟩] : List It) ++ Q_b ++ ([⟨5, 0⟩] : List It)) = Q9 at *
          clear E9 R_out R_a R_b R_c
          go_wp2
          go_roundw
          case rel => exact ⟨k - 1, _, _, _, Q9, t14, by omega, by omega, by go_num, rfl, R9, FN, L9, S, by omega, RN.out, G⟩
          case measure => simp [intOf]; omega
        · go_wp2_with fail
          refine (item1_any 3 _).mono ?_
          rintro e w13 ⟨v_a, rfl, hr, hbb⟩
          have R_out := irow_below R_out hbb
          have BX := hbb.mono (show w.heap.size ≤ _ from (by first | omega | (simp; done) | (simp; omega)))
          have S := srcS_lo S hb0 HA.out BX
          have G := gb_of_lo G BX
          have zw13 : w.heap.size ≤ w13.heap.size := by have := hbb.size; (try simp at this); omega
          clear BX hbb
          obtain ⟨A_a, n_a, c_a, rfl⟩ := irow_form hr
          have R_a := hr
          clear hr
          go_wp2_with fail
          refine (block0D _ _ _ _ _ _ _ S (by omega)).mono ?_
          rintro e w14 ⟨v_b, Q_b, t14, he14, rfl, hr, F_b, L_b, hp14, hs, hg⟩
          have E14 := Lib.hid he14
          clear he14
          have R_out := irow_gb hg R_out (by omega)
          have R_a := irow_gb hg R_a (by omega)
          have S := hs
          have G := grown_trans G hg
          have zw14 : w.heap.size ≤ w14.heap.size := by have := hg.size; omega
          clear hs hg
          obtain ⟨A_b, n_b, c_b, rfl⟩ := irow_form hr
          have R_b := hr
          clear hr
          go_wp2_with fail
          refine (item1_any 4 _).mono ?_
          rintro e w15 ⟨v_c, rfl, hr, hbb⟩
          have R_out := irow_below R_out hbb
          have R_a := irow_below R_a hbb
          have R_b := irow_below R_b hbb
          have BX := hbb.mono (show w.heap.size ≤ _ from (by first | omega | (simp; done) | (simp; omega)))
          have S := srcS_lo S hb0 HA.out BX
          have G := gb_of_lo G BX
          have zw15 : w.heap.size ≤ w15.heap.size := by have := hbb.size; (try simp at this); omega
          clear BX hbb
          obtain ⟨A_c, n_c, c_c, rfl⟩ := irow_form hr
          have R_c := hr
          clear hr
          go_wp2_with fail
          refine (block0D _ _ _ _ _ _ _ S (by omega)).mono ?_
          rintro e w16 ⟨v_d, Q_d, t16, he16, rfl, hr, F_d, L_d, hp16, hs, hg⟩
          have E16 := Lib.hid he16
          clear he16
          have R_out := irow_gb hg R_out (by omega)
          have R_a := irow_gb hg R_a (by omega)
          have R_b := irow_gb hg R_b (by omega)
          have R_c := irow_gb hg R_c (by omega)
          have S := hs
          have G := grown_trans G hg
          have zw16 : w.heap.size ≤ w16.heap.size := by have := hg.size; omega
          clear hs hg
          obtain ⟨A_d, n_d, c_d, rfl⟩ := irow_form hr
          have R_d := hr
          clear hr
          go_wp2_with fail
          refine (item1_any 5 _).mono ?_
          rintro e w17 ⟨v_e, rfl, hr, hbb⟩
          have R_out := irow_below R_out hbb
          have R_a := irow_below R_a hbb
          have R_b := irow_below R_b hbb
          have R_c := irow_below R_c hbb
          have R_d := irow_below R_d hbb
          have BX := hbb.mono (show w.heap.size ≤ _ from (by first | omega | (simp; done) | (simp; omega)))
          have S := srcS_lo S hb0 HA.out BX
          have G := gb_of_lo G BX
          have zw17 : w.heap.size ≤ w17.heap.size := by have := hbb.size; (try simp at this); omega
          clear BX hbb
          obtain ⟨A_e, n_e, c_e, rfl⟩ := irow_form hr
          have R_e := hr
          clear hr
          go_wp2_with fail
          refine (cat_any _ 6 [Q, [⟨3, 0⟩], Q_b, [⟨4, 0⟩], Q_d, [⟨5, 0⟩]] _ (cats6 _ _ rfl (irow_its R_out) (irow_its R_a) (irow_its R_b) (irow_its R_c) (irow_its R_d) (irow_its R_e)) (by simp) rfl (by omega) (by simp; omega)).mono ?_
          rintro e w18 ⟨v9, rfl, hr, hbb⟩
          obtain ⟨A9, n9, c9, rfl⟩ := irow_form hr
          have R9 := irow_base hr (show w.heap.size ≤ _ from (by first | omega | (simp; done) | (simp; omega)))
          clear hr
          have BX := ((Below.refl _ _).alloc (by omega) _ : Below w.heap.size w17 _).trans (hbb.mono (show w.heap.size ≤ _ from (by first | omega | (simp; done) | (simp; omega))))
          have S := srcS_lo S hb0 HA.out BX
          have G := gb_of_lo G BX
          clear BX hbb
          have FN : Fits 1 (Q ++ (([⟨3, 0⟩] : List It) ++ Q_b ++ ([⟨4, 0⟩] : List It) ++ Q_d ++ ([⟨5, 0⟩] : List It))) := fits_app F (fits_three F_b F_d (by omega))
          have E9 : ([Q, [⟨3, 0⟩], Q_b, [⟨4, 0⟩], Q_d, [⟨5, 0⟩]] : List (List It)).flatten = Q ++ (([⟨3, 0⟩] : List It) ++ Q_b ++ ([⟨4, 0⟩] : List It) ++ Q_d ++ ([⟨5, 0⟩] : List It)) := by simp
          rw [E9] at R9
          have L9 : ((Q ++ (([⟨3, 0⟩] : List It) ++ Q_b ++ ([⟨4, 0⟩] : List It) ++ Q_d ++ ([⟨5, 0⟩] : List It))).length : Int) ≤ (4 - (k - 1)) * 11 := by simp; omega
          have RN : Hid (dLoop (dStpB len zs (dBlk0 len zs) (dBlk0 len zs)) (k - 1).toNat (Q ++ (([⟨3, 0⟩] : List It) ++ Q_b ++ ([⟨4, 0⟩] : List It) ++ Q_d ++ ([⟨5, 0⟩] : List It))) t16 = R0) := Lib.hid (by
            have q := HRT.out
            rw [show k.toNat = (k - 1).toNat + 1 by omega, dLoop_succ] at q
            rw [show (dStpB len zs (dBlk0 len zs) (dBlk0 len zs)) Q t = (Q ++ (([⟨3, 0⟩] : List It) ++ Q_b ++ ([⟨4, 0⟩] : List It) ++ Q_d ++ ([⟨5, 0⟩] : List It)), t16) by (unfold dStpB; simp [E11.out, HC11.out, E12.out, E14.out, E16.out, fixI])] at q
            exact q)
          generalize Q ++ (([⟨3, 0⟩] : List It) ++ Q_b ++ ([⟨4, 0⟩] : List It) ++ Q_d ++ ([⟨5, 0⟩] : List It)) = Q9 at *
          clear E9 R_out R_a R_b R_c R_d R_e
          go_wp2
          go_roundw
          case rel => exact ⟨k - 1, _, _, _, Q9, t16, by omega, by omega, by go_num, rfl, R9, FN, L9, S, by omega, RN.out, G⟩
          case measure => simp [intOf]; omega
        · go_wp2_with fail
          refine (nextD _ _ _ _ _ _ 3 _ S (by omega) (by omega) (by omega)).mono ?_
          rintro e w13 ⟨v6, t13, he13, ⟨lv6, uv6⟩, hp13, rfl, hs, hg⟩
          have E13 := Lib.hid he13
          clear he13
          have R_out := irow_gb hg R_out (by omega)
          have S := hs
          have G := grown_trans G hg
          have zw13 : w.heap.size ≤ w13.heap.size := by have := hg.size; omega
          clear hs hg
          go_wp2_with fail
          refine (lit1_any (1 + v6) _).mono ?_
          rintro e w14 ⟨v_a, rfl, hr, hbb⟩
          have R_out := irow_below R_out hbb
          have BX := hbb.mono (show w.heap.size ≤ _ from (by first | omega | (simp; done) | (simp; omega)))
          have S := srcS_lo S hb0 HA.out BX
          have G := gb_of_lo G BX
          have zw14 : w.heap.size ≤ w14.heap.size := by have := hbb.size; (try simp at this); omega
          clear BX hbb
          obtain ⟨A_a, n_a, c_a, rfl⟩ := irow_form hr
          have R_a := hr
          clear hr
          go_wp2_with fail
          refine (item1_any 6 _).mono ?_
          rintro e w15 ⟨v_c, rfl, hr, hbb⟩
          have R_out := irow_below R_out hbb
          have R_a := irow_below R_a hbb
          have BX := hbb.mono (show w.heap.size ≤ _ from (by first | omega | (simp; done) | (simp; omega)))
          have S := srcS_lo S hb0 HA.out BX
          have G := gb_of_lo G BX
          have zw15 : w.heap.size ≤ w15.heap.size := by have := hbb.size; (try simp at this); omega
          clear BX hbb
          obtain ⟨A_c, n_c, c_c, rfl⟩ := irow_form hr
          have R_c := hr
          clear hr
          go_wp2_with fail
          refine (word1_any 29 _).mono ?_
          rintro e w16 ⟨v_d, rfl, hr, hbb⟩
          have R_out := irow_below R_out hbb
          have R_a := irow_below R_a hbb
          have R_c := irow_below R_c hbb
          have BX := hbb.mono (show w.heap.size ≤ _ from (by first | omega | (simp; done) | (simp; omega)))
          have S := srcS_lo S hb0 HA.out BX
          have G := gb_of_lo G BX
          have zw16 : w.heap.size ≤ w16.heap.size := by have := hbb.size; (try simp at this); omega
          clear BX hbb
          obtain ⟨A_d, n_d, c_d, rfl⟩ := irow_form hr
          have R_d := hr
          clear hr
          go_wp2_with fail
          refine (block0D _ _ _ _ _ _ _ S (by omega)).mono ?_
          rintro e w17 ⟨v_b, Q_b, t17, he17, rfl, hr, F_b, L_b, hp17, hs, hg⟩
          have E17 := Lib.hid he17
          clear he17
          have R_out := irow_gb hg R_out (by omega)
          have R_a := irow_gb hg R_a (by omega)
          have R_c := irow_gb hg R_c (by omega)
          have R_d := irow_gb hg R_d (by omega)
          have S := hs
          have G := grown_trans G hg
          have zw17 : w.heap.size ≤ w17.heap.size := by have := hg.size; omega
          clear hs hg
          obtain ⟨A_b, n_b, c_b, rfl⟩ := irow_form hr
          have R_b := hr
          clear hr
          go_wp2_with fail
          refine (word1_any 1 _).mono ?_
          rintro e w18 ⟨v_e, rfl, hr, hbb⟩
          have R_out := irow_below R_out hbb
          have R_a := irow_below R_a hbb
          have R_c := irow_below R_c hbb
          have R_d := irow_below R_d hbb
          have R_b := irow_below R_b hbb
          have BX := hbb.mono (show w.heap.size ≤ _ from (by first | omega | (simp; done) | (simp; omega)))
          have S := srcS_lo S hb0 HA.out BX
          have G := gb_of_lo G BX
          have zw18 : w.heap.size ≤ w18.heap.size := by have := hbb.size; (try simp at this); omega
          clear BX hbb
          obtain ⟨A_e, n_e, c_e, rfl⟩ := irow_form hr
          have R_e := hr
          clear hr
          go_wp2_with fail
          refine (word1_any 37 _).mono ?_
          rintro e w19 ⟨v_f, rfl, hr, hbb⟩
          have R_out := irow_below R_out hbb
          have R_a := irow_below R_a hbb
          have R_c := irow_below R_c hbb
          have R_d := irow_below R_d hbb
          have R_b := irow_below R_b hbb
          have R_e := irow_below R_e hbb
          have BX := hbb.mono (show w.heap.size ≤ _ from (by first | omega | (simp; done) | (simp; omega)))
          have S := srcS_lo S hb0 HA.out BX
          have G := gb_of_lo G BX
          have zw19 : w.heap.size ≤ w19.heap.size := by have := hbb.size; (try simp at this); omega
          clear BX hbb
          obtain ⟨A_f, n_f, c_f, rfl⟩ := irow_form hr
          have R_f := hr
          clear hr
          go_wp2_with fail
          refine (item1_any 7 _).mono ?_
          rintro e w20 ⟨v_g, rfl, hr, hbb⟩
          have R_out := irow_below R_out hbb
          have R_a := irow_below R_a hbb
          have R_c := irow_below R_c hbb
          have R_d := irow_below R_d hbb
          have R_b := irow_below R_b hbb
          have R_e := irow_below R_e hbb
          have R_f := irow_below R_f hbb
          have BX := hbb.mono (show w.heap.size ≤ _ from (by first | omega | (simp; done) | (simp; omega)))
          have S := srcS_lo S hb0 HA.out BX
          have G := gb_of_lo G BX
          have zw20 : w.heap.size ≤ w20.heap.size := by have := hbb.size; (try simp at this); omega
          clear BX hbb
          obtain ⟨A_g, n_g, c_g, rfl⟩ := irow_form hr
          have R_g := hr
          clear hr
          go_wp2_with fail
          refine (cat_any _ 8 [Q, [⟨2, 1 + v6⟩], [⟨6, 0⟩], [⟨1, 29⟩], Q_b, [⟨1, 1⟩], [⟨1, 37⟩], [⟨7, 0⟩]] _ (cats8 _ _ rfl (irow_its R_out) (irow_its R_a) (irow_its R_c) (irow_its R_d) (irow_its R_b) (irow_its R_e) (irow_its R_f) (irow_its R_g)) (by simp) rfl (by omega) (by simp; omega)).mono ?_
          rintro e w21 ⟨v9, rfl, hr, hbb⟩
          obtain ⟨A9, n9, c9, rfl⟩ := irow_form hr
          have R9 := irow_base hr (show w.heap.size ≤ _ from (by first | omega | (simp; done) | (simp; omega)))
          clear hr
          have BX := ((Below.refl _ _).alloc (by omega) _ : Below w.heap.size w20 _).trans (hbb.mono (show w.heap.size ≤ _ from (by first | omega | (simp; done) | (simp; omega))))
          have S := srcS_lo S hb0 HA.out BX
          have G := gb_of_lo G BX
          clear BX hbb
          have FN : Fits 1 (Q ++ (([⟨2, 1 + v6⟩] : List It) ++ (([⟨6, 0⟩] : List It) ++ (([⟨1, 29⟩] : List It) ++ Q_b ++ ([⟨1, 1⟩] : List It) ++ ([⟨1, 37⟩] : List It)) ++ ([⟨7, 0⟩] : List It)))) := fits_app F (fits_app (fits_mono (fits_one (itB_lit (by omega)) (by simp)) (by omega)) (fits_mono (fits_two (fits_app (fits_app (fits_app (fits_one (by decide) (by simp)) F_b) (fits_one (by decide) (by simp))) (fits_one (by decide) (by simp))) (by omega) (by omega)) (by omega)))
          have E9 : ([Q, [⟨2, 1 + v6⟩], [⟨6, 0⟩], [⟨1, 29⟩], Q_b, [⟨1, 1⟩], [⟨1, 37⟩], [⟨7, 0⟩]] : List (List It)).flatten = Q ++ (([⟨2, 1 + v6⟩] : List It) ++ (([⟨6, 0⟩] : List It) ++ (([⟨1, 29⟩] : List It) ++ Q_b ++ ([⟨1, 1⟩] : List It) ++ ([⟨1, 37⟩] : List It)) ++ ([⟨7, 0⟩] : List It))) := by simp
          rw [E9] at R9
          have L9 : ((Q ++ (([⟨2, 1 + v6⟩] : List It) ++ (([⟨6, 0⟩] : List It) ++ (([⟨1, 29⟩] : List It) ++ Q_b ++ ([⟨1, 1⟩] : List It) ++ ([⟨1, 37⟩] : List It)) ++ ([⟨7, 0⟩] : List It)))).length : Int) ≤ (4 - (k - 1)) * 11 := by simp; omega
          have RN : Hid (dLoop (dStpB len zs (dBlk0 len zs) (dBlk0 len zs)) (k - 1).toNat (Q ++ (([⟨2, 1 + v6⟩] : List It) ++ (([⟨6, 0⟩] : List It) ++ (([⟨1, 29⟩] : List It) ++ Q_b ++ ([⟨1, 1⟩] : List It) ++ ([⟨1, 37⟩] : List It)) ++ ([⟨7, 0⟩] : List It)))) t17 = R0) := Lib.hid (by
            have q := HRT.out
            rw [show k.toNat = (k - 1).toNat + 1 by omega, dLoop_succ] at q
            rw [show (dStpB len zs (dBlk0 len zs) (dBlk0 len zs)) Q t = (Q ++ (([⟨2, 1 + v6⟩] : List It) ++ (([⟨6, 0⟩] : List It) ++ (([⟨1, 29⟩] : List It) ++ Q_b ++ ([⟨1, 1⟩] : List It) ++ ([⟨1, 37⟩] : List It)) ++ ([⟨7, 0⟩] : List It))), t17) by (unfold dStpB; simp [E11.out, HC11.out, E12.out, E13.out, E17.out, fixI])] at q
            exact q)
          generalize Q ++ (([⟨2, 1 + v6⟩] : List It) ++ (([⟨6, 0⟩] : List It) ++ (([⟨1, 29⟩] : List It) ++ Q_b ++ ([⟨1, 1⟩] : List It) ++ ([⟨1, 37⟩] : List It)) ++ ([⟨7, 0⟩] : List It))) = Q9 at *
          clear E9 R_out R_a R_c R_d R_b R_e R_f R_g
          go_wp2
          go_roundw
          case rel => exact ⟨k - 1, _, _, _, Q9, t17, by omega, by omega, by go_num, rfl, R9, FN, L9, S, by omega, RN.out, G⟩
          case measure => simp [intOf]; omega
        · go_wp2_with fail
          refine (nextD _ _ _ _ _ _ 4 _ S (by omega) (by omega) (by omega)).mono ?_
          rintro e w13 ⟨v6, t13, he13, ⟨lv6, uv6⟩, hp13, rfl, hs, hg⟩
          have E13 := Lib.hid he13
          clear he13
          have R_out := irow_gb hg R_out (by omega)
          have S := hs
          have G := grown_trans G hg
          have zw13 : w.heap.size ≤ w13.heap.size := by have := hg.size; omega
          clear hs hg
          go_wp2_with fail
          refine (lit1_any v6 _).mono ?_
          rintro e w14 ⟨v_a, rfl, hr, hbb⟩
          have R_out := irow_below R_out hbb
          have BX := hbb.mono (show w.heap.size ≤ _ from (by first | omega | (simp; done) | (simp; omega)))
          have S := srcS_lo S hb0 HA.out BX
          have G := gb_of_lo G BX
          have zw14 : w.heap.size ≤ w14.heap.size := by have := hbb.size; (try simp at this); omega
          clear BX hbb
          obtain ⟨A_a, n_a, c_a, rfl⟩ := irow_form hr
          have R_a := hr
          clear hr
          go_wp2_with fail
          refine (lit1_any 0 _).mono ?_
          rintro e w15 ⟨v_c, rfl, hr, hbb⟩
          have R_out := irow_below R_out hbb
          have R_a := irow_below R_a hbb
          have BX := hbb.mono (show w.heap.size ≤ _ from (by first | omega | (simp; done) | (simp; omega)))
          have S := srcS_lo S hb0 HA.out BX
          have G := gb_of_lo G BX
          have zw15 : w.heap.size ≤ w15.heap.size := by have := hbb.size; (try simp at this); omega
          clear BX hbb
          obtain ⟨A_c, n_c, c_c, rfl⟩ := irow_form hr
          have R_c := hr
          clear hr
          go_wp2_with fail
          refine (item1_any 10 _).mono ?_
          rintro e w16 ⟨v_d, rfl, hr, hbb⟩
          have R_out := irow_below R_out hbb
          have R_a := irow_below R_a hbb
          have R_c := irow_below R_c hbb
          have BX := hbb.mono (show w.heap.size ≤ _ from (by first | omega | (simp; done) | (simp; omega)))
          have S := srcS_lo S hb0 HA.out BX
          have G := gb_of_lo G BX
          have zw16 : w.heap.size ≤ w16.heap.size := by have := hbb.size; (try simp at this); omega
          clear BX hbb
          obtain ⟨A_d, n_d, c_d, rfl⟩ := irow_form hr
          have R_d := hr
          clear hr
          go_wp2_with fail
          refine (block0D _ _ _ _ _ _ _ S (by omega)).mono ?_
          rintro e w17 ⟨v_b, Q_b, t17, he17, rfl, hr, F_b, L_b, hp17, hs, hg⟩
          have E17 := Lib.hid he17
          clear he17
          have R_out := irow_gb hg R_out (by omega)
          have R_a := irow_gb hg R_a (by omega)
          have R_c := irow_gb hg R_c (by omega)
          have R_d := irow_gb hg R_d (by omega)
          have S := hs
          have G := grown_trans G hg
          have zw17 : w.heap.size ≤ w17.heap.size := by have := hg.size; omega
          clear hs hg
          obtain ⟨A_b, n_b, c_b, rfl⟩ := irow_form hr
          have R_b := hr
          clear hr
          go_wp2_with fail
          refine (nextD _ _ _ _ _ _ 3 _ (srcS_alloc S _) (by omega) (by omega) (by omega)).mono ?_
          rintro e w18 ⟨v7, t18, he18, ⟨l7, u7⟩, hp18, rfl, hs, hg⟩
          have E18 := Lib.hid he18
          clear he18
          have Y7 := whole_gbI hg (whole_new w17 _ _) (by omega)
          have R_out := irow_gb hg (irow_alloc R_out _) (by omega)
          have R_a := irow_gb hg (irow_alloc R_a _) (by omega)
          have R_c := irow_gb hg (irow_alloc R_c _) (by omega)
          have R_d := irow_gb hg (irow_alloc R_d _) (by omega)
          have R_b := irow_gb hg (irow_alloc R_b _) (by omega)
          have S := hs
          have G := grown_trans (gb_alloc G _) hg
          have zw18 : w.heap.size ≤ w18.heap.size := by have := hg.size; (try simp at this); omega
          clear hs hg
          obtain ⟨kk, hkk, yc, ek⟩ : ∃ kk : Int, (kk = 11 ∨ kk = 12) ∧ w18.cell? ⟨w17.heap.size, v7.toNat, none⟩ = some (.int .i64 kk) ∧ kk = (if v7 = 2 then 12 else 11) := by
            rcases (by omega : v7 = 0 ∨ v7 = 1 ∨ v7 = 2) with rfl | rfl | rfl
            · exact ⟨11, .inl rfl, whole_cell Y7 0, by simp⟩
            · exact ⟨11, .inl rfl, whole_cell Y7 1, by simp⟩
            · exact ⟨12, .inr rfl, whole_cell Y7 2, by simp⟩
          have EKK := Lib.hid ek
          clear ek
          obtain ⟨j7, rfl⟩ := Int.eq_ofNat_of_zero_le l7
          simp only [Int.toNat_natCast] at yc
          clear Y7
          have R_out := irow_alloc R_out (.cells #[.int .i64 kk, .int .i64 0] 59)
          have R_a := irow_alloc R_a (.cells #[.int .i64 kk, .int .i64 0] 59)
          have R_c := irow_alloc R_c (.cells #[.int .i64 kk, .int .i64 0] 59)
          have R_d := irow_alloc R_d (.cells #[.int .i64 kk, .int .i64 0] 59)
          have R_b := irow_alloc R_b (.cells #[.int .i64 kk, .int .i64 0] 59)
          have R_e := irow_one w18 ⟨kk, 0⟩
          have S := srcS_alloc S (.cells #[.int .i64 kk, .int .i64 0] 59)
          have G := gb_alloc G (.cells #[.int .i64 kk, .int .i64 0] 59)
          have zzz : w.heap.size ≤ (w18.alloc (.cells #[.int .i64 kk, .int .i64 0] 59)).heap.size := by simp; omega
          go_wp2_with fail
          refine (cat_any (w18.heap.size + 1) 6 [Q, [⟨2, v6⟩], [⟨2, 0⟩], [⟨10, 0⟩], Q_b, [⟨kk, 0⟩]] _ (cats6 _ _ (by simp) (irow_its R_out) (irow_its R_a) (irow_its R_c) (irow_its R_d) (irow_its R_b) (irow_its R_e)) (by simp) rfl (by omega) (by simp; omega)).mono ?_
          rintro e w19 ⟨v9, rfl, hr, hbb⟩
          obtain ⟨A9, n9, c9, rfl⟩ := irow_form hr
          have R9 := irow_base hr (show w.heap.size ≤ _ from (by first | omega | (simp; done) | (simp; omega)))
          clear hr
          have BX := ((Below.refl _ _).alloc (by omega) _ : Below w.heap.size (w18.alloc (.cells #[.int .i64 kk, .int .i64 0] 59)) _).trans (hbb.mono (show w.heap.size ≤ _ from (by first | omega | (simp; done) | (simp; omega))))
          have S := srcS_lo S hb0 HA.out BX
          have G := gb_of_lo G BX
          clear BX hbb
          have FN : Fits 1 (Q ++ (([⟨2, v6⟩] : List It) ++ (([⟨2, 0⟩] : List It) ++ (([⟨10, 0⟩] : List It) ++ Q_b ++ ([⟨kk, 0⟩] : List It))))) := fits_app F (fits_app (fits_mono (fits_one (itB_lit (by omega)) (by simp)) (by omega)) (fits_app (fits_mono (fits_one (by decide) (by simp)) (by omega)) (fits_two F_b (by omega) (by omega))))
          have E9 : ([Q, [⟨2, v6⟩], [⟨2, 0⟩], [⟨10, 0⟩], Q_b, [⟨kk, 0⟩]] : List (List It)).flatten = Q ++ (([⟨2, v6⟩] : List It) ++ (([⟨2, 0⟩] : List It) ++ (([⟨10, 0⟩] : List It) ++ Q_b ++ ([⟨kk, 0⟩] : List It)))) := by simp
          rw [E9] at R9
          have L9 : ((Q ++ (([⟨2, v6⟩] : List It) ++ (([⟨2, 0⟩] : List It) ++ (([⟨10, 0⟩] : List It) ++ Q_b ++ ([⟨kk, 0⟩] : List It))))).length : Int) ≤ (4 - (k - 1)) * 11 := by simp; omega
          have RN : Hid (dLoop (dStpB len zs (dBlk0 len zs) (dBlk0 len zs)) (k - 1).toNat (Q ++ (([⟨2, v6⟩] : List It) ++ (([⟨2, 0⟩] : List It) ++ (([⟨10, 0⟩] : List It) ++ Q_b ++ ([⟨kk, 0⟩] : List It))))) t18 = R0) := Lib.hid (by
            have q := HRT.out
            rw [show k.toNat = (k - 1).toNat + 1 by omega, dLoop_succ] at q
            rw [show (dStpB len zs (dBlk0 len zs) (dBlk0 len zs)) Q t = (Q ++ (([⟨2, v6⟩] : List It) ++ (([⟨2, 0⟩] : List It) ++ (([⟨10, 0⟩] : List It) ++ Q_b ++ ([⟨kk, 0⟩] : List It)))), t18) by (unfold dStpB; simp [E11.out, HC11.out, E12.out, E13.out, E17.out, E18.out, EKK.out, fixI])] at q
            exact q)
          generalize Q ++ (([⟨2, v6⟩] : List It) ++ (([⟨2, 0⟩] : List It) ++ (([⟨10, 0⟩] : List It) ++ Q_b ++ ([⟨kk, 0⟩] : List It)))) = Q9 at *
          clear E9 R_out R_a R_c R_d R_b R_e
          go_wp2
          go_roundw
          case rel => exact ⟨k - 1, _, _, _, Q9, t18, by omega, by omega, by go_num, rfl, R9, FN, L9, S, by omega, RN.out, G⟩
          case measure => simp [intOf]; omega
        · go_wp2_with fail
          refine (item1_any 6 _).mono ?_
          rintro e w13 ⟨v_a, rfl, hr, hbb⟩
          have R_out := irow_below R_out hbb
          have BX := hbb.mono (show w.heap.size ≤ _ from (by first | omega | (simp; done) | (simp; omega)))
          have S := srcS_lo S hb0 HA.out BX
          have G := gb_of_lo G BX
          have zw13 : w.heap.size ≤ w13.heap.size := by have := hbb.size; (try simp at this); omega
          clear BX hbb
          obtain ⟨A_a, n_a, c_a, rfl⟩ := irow_form hr
          have R_a := hr
          clear hr
          go_wp2_with fail
          refine (block0D _ _ _ _ _ _ _ S (by omega)).mono ?_
          rintro e w14 ⟨v_b, Q_b, t14, he14, rfl, hr, F_b, L_b, hp14, hs, hg⟩
          have E14 := Lib.hid he14
          clear he14
          have R_out := irow_gb hg R_out (by omega)
          have R_a := irow_gb hg R_a (by omega)
          have S := hs
          have G := grown_trans G hg
          have zw14 : w.heap.size ≤ w14.heap.size := by have := hg.size; omega
          clear hs hg
          obtain ⟨A_b, n_b, c_b, rfl⟩ := irow_form hr
          have R_b := hr
          clear hr
          go_wp2_with fail
          refine (item1_any 8 _).mono ?_
          rintro e w15 ⟨v_c, rfl, hr, hbb⟩
          have R_out := irow_below R_out hbb
          have R_a := irow_below R_a hbb
          have R_b := irow_below R_b hbb
          have BX := hbb.mono (show w.heap.size ≤ _ from (by first | omega | (simp; done) | (simp; omega)))
          have S := srcS_lo S hb0 HA.out BX
          have G := gb_of_lo G BX
          have zw15 : w.heap.size ≤ w15.heap.size := by have := hbb.size; (try simp at this); omega
          clear BX hbb
          obtain ⟨A_c, n_c, c_c, rfl⟩ := irow_form hr
          have R_c := hr
          clear hr
          go_wp2_with fail
          refine (block0D _ _ _ _ _ _ _ S (by omega)).mono ?_
          rintro e w16 ⟨v_d, Q_d, t16, he16, rfl, hr, F_d, L_d, hp16, hs, hg⟩
          have E16 := Lib.hid he16
          clear he16
          have R_out := irow_gb hg R_out (by omega)
          have R_a := irow_gb hg R_a (by omega)
          have R_b := irow_gb hg R_b (by omega)
          have R_c := irow_gb hg R_c (by omega)
          have S := hs
          have G := grown_trans G hg
          have zw16 : w.heap.size ≤ w16.heap.size := by have := hg.size; omega
          clear hs hg
          obtain ⟨A_d, n_d, c_d, rfl⟩ := irow_form hr
          have R_d := hr
          clear hr
          go_wp2_with fail
          refine (item1_any 9 _).mono ?_
          rintro e w17 ⟨v_e, rfl, hr, hbb⟩
          have R_out := irow_below R_out hbb
          have R_a := irow_below R_a hbb
          have R_b := irow_below R_b hbb
          have R_c := irow_below R_c hbb
          have R_d := irow_below R_d hbb
          have BX := hbb.mono (show w.heap.size ≤ _ from (by first | omega | (simp; done) | (simp; omega)))
          have S := srcS_lo S hb0 HA.out BX
          have G := gb_of_lo G BX
          have zw17 : w.heap.size ≤ w17.heap.size := by have := hbb.size; (try simp at this); omega
          clear BX hbb
          obtain ⟨A_e, n_e, c_e, rfl⟩ := irow_form hr
          have R_e := hr
          clear hr
          go_wp2_with fail
          refine (cat_any _ 6 [Q, [⟨6, 0⟩], Q_b, [⟨8, 0⟩], Q_d, [⟨9, 0⟩]] _ (cats6 _ _ rfl (irow_its R_out) (irow_its R_a) (irow_its R_b) (irow_its R_c) (irow_its R_d) (irow_its R_e)) (by simp) rfl (by omega) (by simp; omega)).mono ?_
          rintro e w18 ⟨v9, rfl, hr, hbb⟩
          obtain ⟨A9, n9, c9, rfl⟩ := irow_form hr
          have R9 := irow_base hr (show w.heap.size ≤ _ from (by first | omega | (simp; done) | (simp; omega)))
          clear hr
          have BX := ((Below.refl _ _).alloc (by omega) _ : Below w.heap.size w17 _).trans (hbb.mono (show w.heap.size ≤ _ from (by first | omega | (simp; done) | (simp; omega))))
          have S := srcS_lo S hb0 HA.out BX
          have G := gb_of_lo G BX
          clear BX hbb
          have FN : Fits 1 (Q ++ (([⟨6, 0⟩] : List It) ++ Q_b ++ ([⟨8, 0⟩] : List It) ++ Q_d ++ ([⟨9, 0⟩] : List It))) := fits_app F (fits_three (fits_mono F_b (by omega)) F_d (by omega))
          have E9 : ([Q, [⟨6, 0⟩], Q_b, [⟨8, 0⟩], Q_d, [⟨9, 0⟩]] : List (List It)).flatten = Q ++ (([⟨6, 0⟩] : List It) ++ Q_b ++ ([⟨8, 0⟩] : List It) ++ Q_d ++ ([⟨9, 0⟩] : List It)) := by simp
          rw [E9] at R9
          have L9 : ((Q ++ (([⟨6, 0⟩] : List It) ++ Q_b ++ ([⟨8, 0⟩] : List It) ++ Q_d ++ ([⟨9, 0⟩] : List It))).length : Int) ≤ (4 - (k - 1)) * 11 := by simp; omega
          have RN : Hid (dLoop (dStpB len zs (dBlk0 len zs) (dBlk0 len zs)) (k - 1).toNat (Q ++ (([⟨6, 0⟩] : List It) ++ Q_b ++ ([⟨8, 0⟩] : List It) ++ Q_d ++ ([⟨9, 0⟩] : List It))) t16 = R0) := Lib.hid (by
            have q := HRT.out
            rw [show k.toNat = (k - 1).toNat + 1 by omega, dLoop_succ] at q
            rw [show (dStpB len zs (dBlk0 len zs) (dBlk0 len zs)) Q t = (Q ++ (([⟨6, 0⟩] : List It) ++ Q_b ++ ([⟨8, 0⟩] : List It) ++ Q_d ++ ([⟨9, 0⟩] : List It)), t16) by (unfold dStpB; simp [E11.out, HC11.out, E12.out, E14.out, E16.out, fixI])] at q
            exact q)
          generalize Q ++ (([⟨6, 0⟩] : List It) ++ Q_b ++ ([⟨8, 0⟩] : List It) ++ Q_d ++ ([⟨9, 0⟩] : List It)) = Q9 at *
          clear E9 R_out R_a R_b R_c R_d R_e
          go_wp2
          go_roundw
          case rel => exact ⟨k - 1, _, _, _, Q9, t16, by omega, by omega, by go_num, rfl, R9, FN, L9, S, by omega, RN.out, G⟩
          case measure => simp [intOf]; omega
    · obtain rfl : k = 0 := by omega
      go_wp2
      go_ret
      exact ⟨_, Q, t, by rw [RES.out]; have q := HRT.out; simpa [dLoop] using q.symm, rfl, R_out, F, by omega, by omega, S, G⟩

end Go.Proofs.Ytafhmajnkicifaa

namespace Go.Proofs.Ytafhmajnkicifaa
open Go.RowKit
set_option linter.unusedVariables false
set_option linter.unusedSimpArgs false

set_option maxRecDepth 100000 in
set_option maxHeartbeats 8000000 in
theorem block2D (b : Nat) (a : Option Addr) (len cap : Nat) (zs : List Int) (s0 : DSt) (w : World) (h : SrcS w b a len cap zs s0) (hN : s0.1 ≤ 400000000) :
    Calls Try.prog 43 #[.pointer (some ⟨b, 0, none⟩), .int .i64 86, .int .i64 2] w (BlkD (dBlk2 len zs) 10000 2 364 w b a len cap zs s0) := by
  have hb0 := srcS_lt h
  have HA := Lib.hid (srcS_code_lt h)
  have H := Lib.hid h
  clear h
  go_enter Try.func43, Try.ntmps43
  go_wp2_with fail
  refine (nextD _ _ _ _ _ _ 4 _ (srcS_alloc H.out _) (by omega) (by omega) (by omega)).mono ?_
  rintro e w1 ⟨v, t1, he1, ⟨v0, v1⟩, hp1, rfl, hs, hg⟩
  have E1 := Lib.hid he1
  clear he1
  have S := hs
  have G := grown_trans (gb_alloc (World.grownBy.refl w _) _) hg
  have R_out : IRow w1 w.heap.size (.slice (some ⟨w.heap.size, 0, none⟩) 0 0) [] := irow_gb hg (irow_empty w (Nat.le_refl _)) hb0
  clear hs hg
  obtain ⟨R0, hR0⟩ : ∃ R, dLoop (dStpB len zs (dBlk0 len zs) (dBlk1 len zs)) (1 + v).toNat [] t1 = R := ⟨_, rfl⟩
  have RES : Hid (dBlk2 len zs s0 = R0) := Lib.hid (by unfold dBlk2; rw [E1.out]; exact hR0)
  have HR0 := Lib.hid hR0
  clear hR0
  go_wp2
  go_loopw [7, 8] (fun o i wr => ∃ (k : Int) (A : Option Addr) (n c : Nat) (Q : List It) (t : DSt), 0 ≤ k ∧ k ≤ 4 ∧ i = .int .i64 k ∧ o = .slice A n c ∧ IRow wr w.heap.size (.slice A n c) Q ∧ Fits 2 Q ∧ (Q.length : Int) ≤ (4 - k) * 91 ∧ SrcS wr b a len cap zs t ∧ t.1 ≤ s0.1 + 1 + (4 - k.toNat) * 2010 ∧ dLoop (dStpB len zs (dBlk0 len zs) (dBlk1 len zs)) k.toNat Q t = R0 ∧ w.grownBy wr (some b)) (fun _ i _ => (intOf i).toNat)
  case atStart => exact ⟨1 + v, _, _, _, [], t1, by omega, by omega, by go_num, rfl, R_out, fits_nil _, by simp; omega, S, by omega, HR0.out, G⟩
  case round =>
    clear R_out S G
    obtain ⟨k, A, n, c, Q, t, k0, k4, rfl, rfl, R_out, F, LQ, S, hpt, RT, G⟩ := hrel
    have HRT := Lib.hid RT
    clear RT
    have zwr : w.heap.size ≤ wr.heap.size := G.size
    by_cases hlt : 0 < k
    · go_wp2_with fail
      refine (chanceE _ _ _ _ _ _ 4 _ S (by omega) (by omega) (by omega)).mono ?_
      rintro e w11 ⟨y, vc, t11, he11, hc11, hp11, rfl, hs, hg⟩
      have E11 := Lib.hid he11
      clear he11
      have HC11 := Lib.hid hc11
      clear hc11
      have R_out := irow_gb hg R_out (by omega)
      have S := hs
      have G := grown_trans G hg
      have zw11 : w.heap.size ≤ w11.heap.size := by have := hg.size; omega
      clear hs hg
      cases y
      · go_wp2_with fail
        refine (flatD _ _ _ _ _ _ _ S (by omega)).mono ?_
        rintro e w12 ⟨⟨xk, xv⟩, t12, he12, rfl, xb, hx, hp12, hs, hg⟩
        have E12 := Lib.hid he12
        clear he12
        have R_out := irow_gb hg R_out (by omega)
        have S := hs
        have G := grown_trans G hg
        have zw12 : w.heap.size ≤ w12.heap.size := by have := hg.size; omega
        clear hs hg
        simp only at hx xb
        rcases hx with rfl | rfl
        · cases hin : inB xv 57 62
          · have FX := xb
            go_wp2_with (first | (go_at_call 59; refine (sIn_any _ _ _ _).mono ?_; rintro e w' ⟨rfl, rfl⟩; rw [hin]) | (at_builtin; refine wpList_append_items rfl (.tmp 37) (.tmp 39) rfl rfl w.heap.size _ Q (irow_below R_out (by repeat (first | with_reducible exact Below.refl _ _ | with_reducible refine Below.setCell ?_ (by first | omega | (simp; done) | (simp; omega)) _ | with_reducible refine Below.alloc ?_ (by first | omega | (simp; done) | (simp; omega)) _))) _ [⟨1, xv⟩] (its_lit ⟨1, xv⟩ (by simp)) rfl rfl (by simp; omega) (by simp; omega) ?_; intro v9 w9 hr hgr hat; obtain ⟨A9, n9, c9, rfl⟩ := irow_form hr; have BX : Below w.heap.size w12 w9 := Below.grown (by repeat (first | with_reducible exact Below.refl _ _ | with_reducible refine Below.setCell ?_ (by first | omega | (simp; done) | (simp; omega)) _ | with_reducible refine Below.alloc ?_ (by first | omega | (simp; done) | (simp; omega)) _)) hgr (by simp; omega) (fun g hg => (irow_lt R_out g hg).1); have S := srcS_lo S hb0 HA.out BX; have G := gb_of_lo G BX; clear BX hgr hat))
            have FN : Fits 2 (Q ++ [(⟨1, xv⟩ : It)]) := fits_app F (fits_mono (fits_one FX (by simp)) (by omega))
            have L9 : ((Q ++ [(⟨1, xv⟩ : It)]).length : Int) ≤ (4 - (k - 1)) * 91 := by simp; omega
            have RN : Hid (dLoop (dStpB len zs (dBlk0 len zs) (dBlk1 len zs)) (k - 1).toNat (Q ++ [(⟨1, xv⟩ : It)]) t12 = R0) := Lib.hid (by
              have q := HRT.out
              rw [show k.toNat = (k - 1).toNat + 1 by omega, dLoop_succ] at q
              rw [show (dStpB len zs (dBlk0 len zs) (dBlk1 len zs)) Q t = (Q ++ [(⟨1, xv⟩ : It)], t12) by (unfold dStpB; simp [E11.out, HC11.out, E12.out, fixI, hin])] at q
              exact q)
            generalize Q ++ [(⟨1, xv⟩ : It)] = Q9 at *
            clear R_out
            go_roundw
            case rel => exact ⟨k - 1, _, _, _, Q9, t12, by omega, by omega, by go_num, rfl, hr, FN, L9, S, by omega, RN.out, G⟩
            case measure => simp [intOf]; omega
          · have FX : itB (⟨1, 1⟩ : It) = true := by decide
            go_wp2_with (first | (go_at_call 59; refine (sIn_any _ _ _ _).mono ?_; rintro e w' ⟨rfl, rfl⟩; rw [hin]) | (at_builtin; refine wpList_append_items rfl (.tmp 37) (.tmp 39) rfl rfl w.heap.size _ Q (irow_below R_out (by repeat (first | with_reducible exact Below.refl _ _ | with_reducible refine Below.setCell ?_ (by first | omega | (simp; done) | (simp; omega)) _ | with_reducible refine Below.alloc ?_ (by first | omega | (simp; done) | (simp; omega)) _))) _ [⟨1, 1⟩] (its_lit ⟨1, 1⟩ (by simp)) rfl rfl (by simp; omega) (by simp; omega) ?_; intro v9 w9 hr hgr hat; obtain ⟨A9, n9, c9, rfl⟩ := irow_form hr; have BX : Below w.heap.size w12 w9 := Below.grown (by repeat (first | with_reducible exact Below.refl _ _ | with_reducible refine Below.setCell ?_ (by first | omega | (simp; done) | (simp; omega)) _ | with_reducible refine Below.alloc ?_ (by first | omega | (simp; done) | (simp; omega)) _)) hgr (by simp; omega) (fun g hg => (irow_lt R_out g hg).1); have S := srcS_lo S hb0 HA.out BX; have G := gb_of_lo G BX; clear BX hgr hat))
            have FN : Fits 2 (Q ++ [(⟨1, 1⟩ : It)]) := fits_app F (fits_mono (fits_one FX (by simp)) (by omega))
            have L9 : ((Q ++ [(⟨1, 1⟩ : It)]).length : Int) ≤ (4 - (k - 1)) * 91 := by simp; omega
            have RN : Hid (dLoop (dStpB len zs (dBlk0 len zs) (dBlk1 len zs)) (k - 1).toNat (Q ++ [(⟨1, 1⟩ : It)]) t12 = R0) := Lib.hid (by
              have q := HRT.out
              rw [show k.toNat = (k - 1).toNat + 1 by omega, dLoop_succ] at q
              rw [show (dStpB len zs (dBlk0 len zs) (dBlk1 len zs)) Q t = (Q ++ [(⟨1, 1⟩ : It)], t12) by (unfold dStpB; simp [E11.out, HC11.out, E12.out, fixI, hin])] at q
              exact q)
            generalize Q ++ [(⟨1, 1⟩ : It)] = Q9 at *
            clear R_out
            go_roundw
            case rel => exact ⟨k - 1, _, _, _, Q9, t12, by omega, by omega, by go_num, rfl, hr, FN, L9, S, by omega, RN.out, G⟩
            case measure => simp [intOf]; omega
        · have FX := xb
          go_wp2_with (first | (at_builtin; refine wpList_append_items rfl (.tmp 37) (.tmp 39) rfl rfl w.heap.size _ Q (irow_below R_out (by repeat (first | with_reducible exact Below.refl _ _ | with_reducible refine Below.setCell ?_ (by first | omega | (simp; done) | (simp; omega)) _ | with_reducible refine Below.alloc ?_ (by first | omega | (simp; done) | (simp; omega)) _))) _ [⟨2, xv⟩] (its_lit ⟨2, xv⟩ (by simp)) rfl rfl (by simp; omega) (by simp; omega) ?_; intro v9 w9 hr hgr hat; obtain ⟨A9, n9, c9, rfl⟩ := irow_form hr; have BX : Below w.heap.size w12 w9 := Below.grown (by repeat (first | with_reducible exact Below.refl _ _ | with_reducible refine Below.setCell ?_ (by first | omega | (simp; done) | (simp; omega)) _ | with_reducible refine Below.alloc ?_ (by first | omega | (simp; done) | (simp; omega)) _)) hgr (by simp; omega) (fun g hg => (irow_lt R_out g hg).1); have S := srcS_lo S hb0 HA.out BX; have G := gb_of_lo G BX; clear BX hgr hat))
          have FN : Fits 2 (Q ++ [(⟨2, xv⟩ : It)]) := fits_app F (fits_mono (fits_one FX (by simp)) (by omega))
          have L9 : ((Q ++ [(⟨2, xv⟩ : It)]).length : Int) ≤ (4 - (k - 1)) * 91 := by simp; omega
          have RN : Hid (dLoop (dStpB len zs (dBlk0 len zs) (dBlk1 len zs)) (k - 1).toNat (Q ++ [(⟨2, xv⟩ : It)]) t12 = R0) := Lib.hid (by
            have q := HRT.out
            rw [show k.toNat = (k - 1).toNat + 1 by omega, dLoop_succ] at q
            rw [show (dStpB len zs (dBlk0 len zs) (dBlk1 len zs)) Q t = (Q ++ [(⟨2, xv⟩ : It)], t12) by (unfold dStpB; simp [E11.out, HC11.out, E12.out, fixI])] at q
            exact q)
          generalize Q ++ [(⟨2, xv⟩ : It)] = Q9 at *
          clear R_out
          go_roundw
          case rel => exact ⟨k - 1, _, _, _, Q9, t12, by omega, by omega, by go_num, rfl, hr, FN, L9, S, by omega, RN.out, G⟩
          case measure => simp [intOf]; omega
      · go_wp2_with fail
        refine (nextD _ _ _ _ _ _ 5 _ S (by omega) (by omega) (by omega)).mono ?_
        rintro e w12 ⟨v5, t12, he12, ⟨lv5, uv5⟩, hp12, rfl, hs, hg⟩
        have E12 := Lib.hid he12
        clear he12
        have R_out := irow_gb hg R_out (by omega)
        have S := hs
        have G := grown_trans G hg
        have zw12 : w.heap.size ≤ w12.heap.size := by have := hg.size; omega
        clear hs hg
        rcases (by omega : v5 = 0 ∨ v5 = 1 ∨ v5 = 2 ∨ v5 = 3 ∨ v5 = 4) with rfl | rfl | rfl | rfl | rfl
        · go_wp2_with fail
          refine (item1_any 3 _).mono ?_
          rintro e w13 ⟨v_a, rfl, hr, hbb⟩
          have R_out := irow_below R_out hbb
          have BX := hbb.mono (show w.heap.size ≤ _ from (by first | omega | (simp; done) | (simp; omega)))
          have S := srcS_lo S hb0 HA.out BX
          have G := gb_of_lo G BX
          have zw13 : w.heap.size ≤ w13.heap.size := by have := hbb.size; (try simp at this); omega
          clear BX hbb
          obtain ⟨A_a, n_a, c_a, rfl⟩ := irow_form hr
          have R_a := hr
          clear hr
          go_wp2_with fail
          refine (block1D _ _ _ _ _ _ _ S (by omega)).mono ?_
          rintro e w14 ⟨v_b, Q_b, t14, he14, rfl, hr, F_b, L_b, hp14, hs, hg⟩
          have E14 := Lib.hid he14
          clear he14
          have R_out := irow_gb hg R_out (by omega)
          have R_a := irow_gb hg R_a (by omega)
          have S := hs
          have G := grown_trans G hg
          have zw14 : w.heap.size ≤ w14.heap.size := by have := hg.size; omega
          clear hs hg
          obtain ⟨A_b, n_b, c_b, rfl⟩ := irow_form hr
          have R_b := hr
          clear hr
          go_wp2_with fail
          refine (item1_any 5 _).mono ?_
          rintro e w15 ⟨v_c, rfl, hr, hbb⟩
          have R_out := irow_below R_out hbb
          have R_a := irow_below R_a hbb
          have R_b := irow_below R_b hbb
          have BX := hbb.mono (show w.heap.size ≤ _ from (by first | omega | (simp; done) | (simp; omega)))
          have S := srcS_lo S hb0 HA.out BX
          have G := gb_of_lo G BX
          have zw15 : w.heap.size ≤ w15.heap.size := by have := hbb.size; (try simp at this); omega
          clear BX hbb
          obtain ⟨A_c, n_c, c_c, rfl⟩ := irow_form hr
          have R_c := hr
          clear hr
          go_wp2_with fail
          refine (cat_any _ 4 [Q, [⟨3, 0⟩], Q_b, [⟨5, 0⟩]] _ (cats4 _ _ rfl (irow_its R_out) (irow_its R_a) (irow_its R_b) (irow_its R_c)) (by simp) rfl (by omega) (by simp; omega)).mono ?_
          rintro e w16 ⟨v9, rfl, hr, hbb⟩
          obtain ⟨A9, n9, c9, rfl⟩ := irow_form hr
          have R9 := irow_base hr (show w.heap.size ≤ _ from (by first | omega | (simp; done) | (simp; omega)))
          clear hr
          have BX := ((Below.refl _ _).alloc (by omega) _ : Below w.heap.size w15 _).trans (hbb.mono (show w.heap.size ≤ _ from (by first | omega | (simp; done) | (simp; omega))))
          have S := srcS_lo S hb0 HA.out BX
          have G := gb_of_lo G BX
          clear BX hbb
          have FN : Fits 2 (Q ++ (([⟨3, 0⟩] : List It) ++ Q_b ++ ([⟨5, 0⟩] : List It))) := fits_app F (fits_two F_b (by omega) (by omega))
          have E9 : ([Q, [⟨3, 0⟩], Q_b, [⟨5, 0⟩]] : List (List It)).flatten = Q ++ (([⟨3, 0⟩] : List It) ++ Q_b ++ ([⟨5, 0⟩] : List It)) := by simp
          rw [E9] at R9
          have L9 : ((Q ++ (([⟨3, 0⟩] : List It) ++ Q_b ++ ([⟨5, 0⟩] : List It))).length : Int) ≤ (4 - (k - 1)) * 91 := by simp; omega
          have RN : Hid (dLoop (dStpB len zs (dBlk0 len zs) (dBlk1 len zs)) (k - 1).toNat (Q ++ (([⟨3, 0⟩] : List It) ++ Q_b ++ ([⟨5, 0⟩] : List It))) t14 = R0) := Lib.hid (by
            have q := HRT.out
            rw [show k.toNat = (k - 1).toNat + 1 by omega, dLoop_succ] at q
            rw [show (dStpB len zs (dBlk0 len zs) (dBlk1 len zs)) Q t = (Q ++ (([⟨3, 0⟩] : List It) ++ Q_b ++ ([⟨5, 0⟩] : List It)), t14) by (unfold dStpB; simp [E11.out, HC11.out, E12.out, E14.out, fixI])] at q
            exact q)
          generalize Q ++ (([⟨3, 0⟩] : List It) ++ Q_b ++ ([⟨5, 0⟩] : List It)) = Q9 at *
          clear E9 R_out R_a R_b R_c
          go_wp2
          go_roundw
          case rel => exact ⟨k - 1, _, _, _, Q9, t14, by omega, by omega, by go_num, rfl, R9, FN, L9, S, by omega, RN.out, G⟩
          case measure => simp [intOf]; omega
        · go_wp2_with fail
          refine (item1_any 3 _).mono ?_
          rintro e w13 ⟨v_a, rfl, hr, hbb⟩
          have R_out := irow_below R_out hbb
          have BX := hbb.mono (show w.heap.size ≤ _ from (by first | omega | (simp; done) | (simp; omega)))
          have S := srcS_lo S hb0 HA.out BX
          have G := gb_of_lo G BX
          have zw13 : w.heap.size ≤ w13.heap.size := by have := hbb.size; (try simp at this); omega
          clear BX hbb
          obtain ⟨A_a, n_a, c_a, rfl⟩ := irow_form hr
          have R_a := hr
          clear hr
          go_wp2_with fail
          refine (block1D _ _ _ _ _ _ _ S (by omega)).mono ?_
          rintro e w14 ⟨v_b, Q_b, t14, he14, rfl, hr, F_b, L_b, hp14, hs, hg⟩
          have E14 := Lib.hid he14
          clear he14
          have R_out := irow_gb hg R_out (by omega)
          have R_a := irow_gb hg R_a (by omega)
          have S := hs
          have G := grown_trans G hg
          have zw14 : w.heap.size ≤ w14.heap.size := by have := hg.size; omega
          clear hs hg
          obtain ⟨A_b, n_b, c_b, rfl⟩ := irow_form hr
          have R_b := hr
          clear hr
          go_wp2_with fail
          refine (item1_any 4 _).mono ?_
          rintro e w15 ⟨v_c, rfl, hr, hbb⟩
          have R_out := irow_below R_out hbb
          have R_a := irow_below R_a hbb
          have R_b := irow_below R_b hbb
          have BX := hbb.mono (show w.heap.size ≤ _ from (by first | omega | (simp; done) | (simp; omega)))
          have S := srcS_lo S hb0 HA.out BX
          have G := gb_of_lo G BX
          have zw15 : w.heap.size ≤ w15.heap.size := by have := hbb.size; (try simp at this); omega
          clear BX hbb
          obtain ⟨A_c, n_c, c_c, rfl⟩ := irow_form hr
          have R_c := hr
          clear hr
          go_wp2_with fail
          refine (block1D _ _ _ _ _ _ _ S (by omega)).mono ?_
          rintro e w16 ⟨v_d, Q_d, t16, he16, rfl, hr, F_d, L_d, hp16, hs, hg⟩
          have E16 := Lib.hid he16
          clear he16
          have R_out := irow_gb hg R_out (by omega)
          have R_a := irow_gb hg R_a (by omega)
          have R_b := irow_gb hg R_b (by omega)
          have R_c := irow_gb hg R_c (by omega)
          have S := hs
          have G := grown_trans G hg
          have zw16 : w.heap.size ≤ w16.heap.size := by have := hg.size; omega
          clear hs hg
          obtain ⟨A_d, n_d, c_d, rfl⟩ := irow_form hr
          have R_d := hr
          clear hr
          go_wp2_with fail
          refine (item1_any 5 _).mono ?_
          rintro e w17 ⟨v_e, rfl, hr, hbb⟩
          have R_out := irow_below R_out hbb
          have R_a := irow_below R_a hbb
          have R_b := irow_below R_b hbb
          have R_c := irow_below R_c hbb
          have R_d := irow_below R_d hbb
          have BX := hbb.mono (show w.heap.size ≤ _ from (by first | omega | (simp; done) | (simp; omega)))
          have S := srcS_lo S hb0 HA.out BX
          have G := gb_of_lo G BX
          have zw17 : w.heap.size ≤ w17.heap.size := by have := hbb.size; (try simp at this); omega
          clear BX hbb
          obtain ⟨A_e, n_e, c_e, rfl⟩ := irow_form hr
          have R_e := hr
          clear hr
          go_wp2_with fail
          refine (cat_any _ 6 [Q, [⟨3, 0⟩], Q_b, [⟨4, 0⟩], Q_d, [⟨5, 0⟩]] _ (cats6 _ _ rfl (irow_its R_out) (irow_its R_a) (irow_its R_b) (irow_its R_c) (irow_its R_d) (irow_its R_e)) (by simp) rfl (by omega) (by simp; omega)).mono ?_
          rintro e w18 ⟨v9, rfl, hr, hbb⟩
          obtain ⟨A9, n9, c9, rfl⟩ := irow_form hr
          have R9 := irow_base hr (show w.heap.size ≤ _ from (by first | omega | (simp; done) | (simp; omega)))
          clear hr
          have BX := ((Below.refl _ _).alloc (by omega) _ : Below w.heap.size w17 _).trans (hbb.mono (show w.heap.size ≤ _ from (by first | omega | (simp; done) | (simp; omega))))
          have S := srcS_lo S hb0 HA.out BX
          have G := gb_of_lo G BX
          clear BX hbb
          have FN : Fits 2 (Q ++ (([⟨3, 0⟩] : List It) ++ Q_b ++ ([⟨4, 0⟩] : List It) ++ Q_d ++ ([⟨5, 0⟩] : List It))) := fits_app F (fits_three F_b F_d (by omega))
          have E9 : ([Q, [⟨3, 0⟩], Q_b, [⟨4, 0⟩], Q_d, [⟨5, 0⟩]] : List (List It)).flatten = Q ++ (([⟨3, 0⟩] : List It) ++ Q_b ++ ([⟨4, 0⟩] : List It) ++ Q_d ++ ([⟨5, 0⟩] : List It)) := by simp
          rw [E9] at R9
          have L9 : ((Q ++ (([⟨3, 0⟩] : List It) ++ Q_b ++ ([⟨4, 0⟩] : List It) ++ Q_d ++ ([⟨5, 0⟩] : List It))).length : Int) ≤ (4 - (k - 1)) * 91 := by simp; omega
          have RN : Hid (dLoop (dStpB len zs (dBlk0 len zs) (dBlk1 len zs)) (k - 1).toNat (Q ++ (([⟨3, 0⟩] : List It) ++ Q_b ++ ([⟨4, 0⟩] : List It) ++ Q_d ++ ([⟨5, 0⟩] : List It))) t16 = R0) := Lib.hid (by
            have q := HRT.out
            rw [show k.toNat = (k - 1).toNat + 1 by omega, dLoop_succ] at q
            rw [show (dStpB len zs (dBlk0 len zs) (dBlk1 len zs)) Q t = (Q ++ (([⟨3, 0⟩] : List It) ++ Q_b ++ ([⟨4, 0⟩] : List It) ++ Q_d ++ ([⟨5, 0⟩] : List It)), t16) by (unfold dStpB; simp [E11.out, HC11.out, E12.out, E14.out, E16.out, fixI])] at q
            exact q)
          generalize Q ++ (([⟨3, 0⟩] : List It) ++ Q_b ++ ([⟨4, 0⟩] : List It) ++ Q_d ++ ([⟨5, 0⟩] : List It)) = Q9 at *
          clear E9 R_out R_a R_b R_c R_d R_e
          go_wp2
          go_roundw
          case rel => exact ⟨k - 1, _, _, _, Q9, t16, by omega, by omega, by go_num, rfl, R9, FN, L9, S, by omega, RN.out, G⟩
          case measure => simp [intOf]; omega
        · go_wp2_with fail
          refine (nextD _ _ _ _ _ _ 3 _ S (by omega) (by omega) (by omega)).mono ?_
          rintro e w13 ⟨v6, t13, he13, ⟨lv6, uv6⟩, hp13, rfl, hs, hg⟩
          have E13 := Lib.hid he13
          clear he13
          have R_out := irow_gb hg R_out (by omega)
          have S := hs
          have G := grown_trans G hg
          have zw13 : w.heap.size ≤ w13.heap.size := by have := hg.size; omega
          clear hs hg
          go_wp2_with fail
          refine (lit1_any (1 + v6) _).mono ?_
          rintro e w14 ⟨v_a, rfl, hr, hbb⟩
          have R_out := irow_below R_out hbb
          have BX := hbb.mono (show w.heap.size ≤ _ from (by first | omega | (simp; done) | (simp; omega)))
          have S := srcS_lo S hb0 HA.out BX
          have G := gb_of_lo G BX
          have zw14 : w.heap.size ≤ w14.heap.size := by have := hbb.size; (try simp at this); omega
          clear BX hbb
          obtain ⟨A_a, n_a, c_a, rfl⟩ := irow_form hr
          have R_a := hr
          clear hr
          go_wp2_with fail
          refine (item1_any 6 _).mono ?_
          rintro e w15 ⟨v_c, rfl, hr, hbb⟩
          have R_out := irow_below R_out hbb
          have R_a := irow_below R_a hbb
          have BX := hbb.mono (show w.heap.size ≤ _ from (by first | omega | (simp; done) | (simp; omega)))
          have S := srcS_lo S hb0 HA.out BX
          have G := gb_of_lo G BX
          have zw15 : w.heap.size ≤ w15.heap.size := by have := hbb.size; (try simp at this); omega
          clear BX hbb
          obtain ⟨A_c, n_c, c_c, rfl⟩ := irow_form hr
          have R_c := hr
          clear hr
          go_wp2_with fail
          refine (word1_any 29 _).mono ?_
          rintro e w16 ⟨v_d, rfl, hr, hbb⟩
          have R_out := irow_below R_out hbb
          have R_a := irow_below R_a hbb
          have R_c := irow_below R_c hbb
          have BX := hbb.mono (show w.heap.size ≤ _ from (by first | omega | (simp; done) | (simp; omega)))
          have S := srcS_lo S hb0 HA.out BX
          have G := gb_of_lo G BX
          have zw16 : w.heap.size ≤ w16.heap.size := by have := hbb.size; (try simp at this); omega
          clear BX hbb
          obtain ⟨A_d, n_d, c_d, rfl⟩ := irow_form hr
          have R_d := hr
          clear hr
          go_wp2_with fail
          refine (block0D _ _ _ _ _ _ _ S (by omega)).mono ?_
          rintro e w17 ⟨v_b, Q_b, t17, he17, rfl, hr, F_b, L_b, hp17, hs, hg⟩
          have E17 := Lib.hid he17
          clear he17
          have R_out := irow_gb hg R_out (by omega)
          have R_a := irow_gb hg R_a (by omega)
          have R_c := irow_gb hg R_c (by omega)
          have R_d := irow_gb hg R_d (by omega)
          have S := hs
          have G := grown_trans G hg
          have zw17 : w.heap.size ≤ w17.heap.size := by have := hg.size; omega
          clear hs hg
          obtain ⟨A_b, n_b, c_b, rfl⟩ := irow_form hr
          have R_b := hr
          clear hr
          go_wp2_with fail
          refine (word1_any 1 _).mono ?_
          rintro e w18 ⟨v_e, rfl, hr, hbb⟩
          have R_out := irow_below R_out hbb
          have R_a := irow_below R_a hbb
          have R_c := irow_below R_c hbb
          have R_d := irow_below R_d hbb
          have R_b := irow_below R_b hbb
          have BX := hbb.mono (show w.heap.size ≤ _ from (by first | omega | (simp; done) | (simp; omega)))
          have S := srcS_lo S hb0 HA.out BX
          have G := gb_of_lo G BX
          have zw18 : w.heap.size ≤ w18.heap.size := by have := hbb.size; (try simp at this); omega
          clear BX hbb
          obtain ⟨A_e, n_e, c_e, rfl⟩ := irow_form hr
          have R_e := hr
          clear hr
          go_wp2_with fail
          refine (word1_any 37 _).mono ?_
          rintro e w19 ⟨v_f, rfl, hr, hbb⟩
          have R_out := irow_below R_out hbb
          have R_a := irow_below R_a hbb
          have R_c := irow_below R_c hbb
          have R_d := irow_below R_d hbb
          have R_b := irow_below R_b hbb
          have R_e := irow_below R_e hbb
          have BX := hbb.mono (show w.heap.size ≤ _ from (by first | omega | (simp; done) | (simp; omega)))
          have S := srcS_lo S hb0 HA.out BX
          have G := gb_of_lo G BX
          have zw19 : w.heap.size ≤ w19.heap.size := by have := hbb.size; (try simp at this); omega
          clear BX hbb
          obtain ⟨A_f, n_f, c_f, rfl⟩ := irow_form hr
          have R_f := hr
          clear hr
          go_wp2_with fail
          refine (item1_any 7 _).mono ?_
          rintro e w20 ⟨v_g, rfl, hr, hbb⟩
          have R_out := irow_below R_out hbb
          have R_a := irow_below R_a hbb
          have R_c := irow_below R_c hbb
          have R_d := irow_below R_d hbb
          have R_b := irow_below R_b hbb
          have R_e := irow_below R_e hbb
          have R_f := irow_below R_f hbb
          have BX := hbb.mono (show w.heap.size ≤ _ from (by first | omega | (simp; done) | (simp; omega)))
          have S := srcS_lo S hb0 HA.out BX
          have G := gb_of_lo G BX
          have zw20 : w.heap.size ≤ w20.heap.size := by have := hbb.size; (try simp at this); omega
          clear BX hbb
          obtain ⟨A_g, n_g, c_g, rfl⟩ := irow_form hr
          have R_g := hr
          clear hr
          go_wp2_with fail
          refine (cat_any _ 8 [Q, [⟨2, 1 + v6⟩], [⟨6, 0⟩], [⟨1, 29⟩], Q_b, [⟨1, 1⟩], [⟨1, 37⟩], [⟨7, 0⟩]] _ (cats8 _ _ rfl (irow_its R_out) (irow_its R_a) (irow_its R_c) (irow_its R_d) (irow_its R_b) (irow_its R_e) (irow_its R_f) (irow_its R_g)) (by simp) rfl (by omega) (by simp; omega)).mono ?_
          rintro e w21 ⟨v9, rfl, hr, hbb⟩
          obtain ⟨A9, n9, c9, rfl⟩ := irow_form hr
          have R9 := irow_base hr (show w.heap.size ≤ _ from (by first | omega | (simp; done) | (simp; omega)))
          clear hr
          have BX := ((Below.refl _ _).alloc (by omega) _ : Below w.heap.size w20 _).trans (hbb.mono (show w.heap.size ≤ _ from (by first | omega | (simp; done) | (simp; omega))))
          have S := srcS_lo S hb0 HA.out BX
          have G := gb_of_lo G BX
          clear BX hbb
          have FN : Fits 2 (Q ++ (([⟨2, 1 + v6⟩] : List It) ++ (([⟨6, 0⟩] : List It) ++ (([⟨1, 29⟩] : List It) ++ Q_b ++ ([⟨1, 1⟩] : List It) ++ ([⟨1, 37⟩] : List It)) ++ ([⟨7, 0⟩] : List It)))) := fits_app F (fits_app (fits_mono (fits_one (itB_lit (by omega)) (by simp)) (by omega)) (fits_mono (fits_two (fits_app (fits_app (fits_app (fits_one (by decide) (by simp)) F_b) (fits_one (by decide) (by simp))) (fits_one (by decide) (by simp))) (by omega) (by omega)) (by omega)))
          have E9 : ([Q, [⟨2, 1 + v6⟩], [⟨6, 0⟩], [⟨1, 29⟩], Q_b, [⟨1, 1⟩], [⟨1, 37⟩], [⟨7, 0⟩]] : List (List It)).flatten = Q ++ (([⟨2, 1 + v6⟩] : List It) ++ (([⟨6, 0⟩] : List It) ++ (([⟨1, 29⟩] : List It) ++ Q_b ++ ([⟨1, 1⟩] : List It) ++ ([⟨1, 37⟩] : List It)) ++ ([⟨7, 0⟩] : List It))) := by simp
          rw [E9] at R9
          have L9 : ((Q ++ (([⟨2, 1 + v6⟩] : List It) ++ (([⟨6, 0⟩] : List It) ++ (([⟨1, 29⟩] : List It) ++ Q_b ++ ([⟨1, 1⟩] : List It) ++ ([⟨1, 37⟩] : List It)) ++ ([⟨7, 0⟩] : List It)))).length : Int) ≤ (4 - (k - 1)) * 91 := by simp; omega
          have RN : Hid (dLoop (dStpB len zs (dBlk0 len zs) (dBlk1 len zs)) (k - 1).toNat (Q ++ (([⟨2, 1 + v6⟩] : List It) ++ (([⟨6, 0⟩] : List It) ++ (([⟨1, 29⟩] : List It) ++ Q_b ++ ([⟨1, 1⟩] : List It) ++ ([⟨1, 37⟩] : List It)) ++ ([⟨7, 0⟩] : List It)))) t17 = R0) := Lib.hid (by
            have q := HRT.out
            rw [show k.toNat = (k - 1).toNat + 1 by omega, dLoop_succ] at q
            rw [show (dStpB len zs (dBlk0 len zs) (dBlk1 len zs)) Q t = (Q ++ (([⟨2, 1 + v6⟩] : List It) ++ (([⟨6, 0⟩] : List It) ++ (([⟨1, 29⟩] : List It) ++ Q_b ++ ([⟨1, 1⟩] : List It) ++ ([⟨1, 37⟩] : List It)) ++ ([⟨7, 0⟩] : List It))), t17) by (unfold dStpB; simp [E11.out, HC11.out, E12.out, E13.out, E17.out, fixI])] at q
            exact q)
          generalize Q ++ (([⟨2, 1 + v6⟩] : List It) ++ (([⟨6, 0⟩] : List It) ++ (([⟨1, 29⟩] : List It) ++ Q_b ++ ([⟨1, 1⟩] : List It) ++ ([⟨1, 37⟩] : List It)) ++ ([⟨7, 0⟩] : List It))) = Q9 at *
          clear E9 R_out R_a R_c R_d R_b R_e R_f R_g
          go_wp2
          go_roundw
          case rel => exact ⟨k - 1, _, _, _, Q9, t17, by omega, by omega, by go_num, rfl, R9, FN, L9, S, by omega, RN.out, G⟩
          case measure => simp [intOf]; omega
        · go_wp2_with fail
          refine (nextD _ _ _ _ _ _ 4 _ S (by omega) (by omega) (by omega)).mono ?_
          rintro e w13 ⟨v6, t13, he13, ⟨lv6, uv6⟩, hp13, rfl, hs, hg⟩
          have E13 := Lib.hid he13
          clear he13
          have R_out := irow_gb hg R_out (by omega)
          have S := hs
          have G := grown_trans G hg
          have zw13 : w.heap.size ≤ w13.heap.size := by have := hg.size; omega
          clear hs hg
          go_wp2_with fail
          refine (lit1_any v6 _).mono ?_
          rintro e w14 ⟨v_a, rfl, hr, hbb⟩
          have R_out := irow_below R_out hbb
          have BX := hbb.mono (show w.heap.size ≤ _ from (by first | omega | (simp; done) | (simp; omega)))
          have S := srcS_lo S hb0 HA.out BX
          have G := gb_of_lo G BX
          have zw14 : w.heap.size ≤ w14.heap.size := by have := hbb.size; (try simp at this); omega
          clear BX hbb
          obtain ⟨A_a, n_a, c_a, rfl⟩ := irow_form hr
          have R_a := hr
          clear hr
          go_wp2_with fail
          refine (lit1_any 0 _).mono ?_
          rintro e w15 ⟨v_c, rfl, hr, hbb⟩
          have R_out := irow_below R_out hbb
          have R_a := irow_below R_a hbb
          have BX := hbb.mono (show w.heap.size ≤ _ from (by first | omega | (simp; done) | (simp; omega)))
          have S := srcS_lo S hb0 HA.out BX
          have G := gb_of_lo G BX
          have zw15 : w.heap.size ≤ w15.heap.size := by have := hbb.size; (try simp at this); omega
          clear BX hbb
          obtain ⟨A_c, n_c, c_c, rfl⟩ := irow_form hr
          have R_c := hr
          clear hr
          go_wp2_with fail
          refine (item1_any 10 _).mono ?_
          rintro e w16 ⟨v_d, rfl, hr, hbb⟩
          have R_out := irow_below R_out hbb
          have R_a := irow_below R_a hbb
          have R_c := irow_below R_c hbb
          have BX := hbb.mono (show w.heap.size ≤ _ from (by first | omega | (simp; done) | (simp; omega)))
          have S := srcS_lo S hb0 HA.out BX
          have G := gb_of_lo G BX
          have zw16 : w.heap.size ≤ w16.heap.size := by have := hbb.size; (try simp at this); omega
          clear BX hbb
          obtain ⟨A_d, n_d, c_d, rfl⟩ := irow_form hr
          have R_d := hr
          clear hr
          go_wp2_with fail
          refine (block1D _ _ _ _ _ _ _ S (by omega)).mono ?_
          rintro e w17 ⟨v_b, Q_b, t17, he17, rfl, hr, F_b, L_b, hp17, hs, hg⟩
          have E17 := Lib.hid he17
          clear he17
          have R_out := irow_gb hg R_out (by omega)
          have R_a := irow_gb hg R_a (by omega)
          have R_c := irow_gb hg R_c (by omega)
          have R_d := irow_gb hg R_d (by omega)
          have S := hs
          have G := grown_trans G hg
          have zw17 : w.heap.size ≤ w17.heap.size := by have := hg.size; omega
          clear hs hg
          obtain ⟨A_b, n_b, c_b, rfl⟩ := irow_form hr
          have R_b := hr
          clear hr
          go_wp2_with fail
          refine (nextD _ _ _ _ _ _ 3 _ (srcS_alloc S _) (by omega) (by omega) (by omega)).mono ?_
          rintro e w18 ⟨v7, t18, he18, ⟨l7, u7⟩, hp18, rfl, hs, hg⟩
          have E18 := Lib.hid he18
          clear he18
          have Y7 := whole_gbI hg (whole_new w17 _ _) (by omega)
          have R_out := irow_gb hg (irow_alloc R_out _) (by omega)
          have R_a := irow_gb hg (irow_alloc R_a _) (by omega)
          have R_c := irow_gb hg (irow_alloc R_c _) (by omega)
          have R_d := irow_gb hg (irow_alloc R_d _) (by omega)
          have R_b := irow_gb hg (irow_alloc R_b _) (by omega)
          have S := hs
          have G := grown_trans (gb_alloc G _) hg
          have zw18 : w.heap.size ≤ w18.heap.size := by have := hg.size; (try simp at this); omega
          clear hs hg
          obtain ⟨kk, hkk, yc, ek⟩ : ∃ kk : Int, (kk = 11 ∨ kk = 12) ∧ w18.cell? ⟨w17.heap.size, v7.toNat, none⟩ = some (.int .i64 kk) ∧ kk = (if v7 = 2 then 12 else 11) := by
            rcases (by omega : v7 = 0 ∨ v7 = 1 ∨ v7 = 2) with rfl | rfl | rfl
            · exact ⟨11, .inl rfl, whole_cell Y7 0, by simp⟩
            · exact ⟨11, .inl rfl, whole_cell Y7 1, by simp⟩
            · exact ⟨12, .inr rfl, whole_cell Y7 2, by simp⟩
          have EKK := Lib.hid ek
          clear ek
          obtain ⟨j7, rfl⟩ := Int.eq_ofNat_of_zero_le l7
          simp only [Int.toNat_natCast] at yc
          clear Y7
          have R_out := irow_alloc R_out (.cells #[.int .i64 kk, .int .i64 0] 59)
          have R_a := irow_alloc R_a (.cells #[.int .i64 kk, .int .i64 0] 59)
          have R_c := irow_alloc R_c (.cells #[.int .i64 kk, .int .i64 0] 59)
          have R_d := irow_alloc R_d (.cells #[.int .i64 kk, .int .i64 0] 59)
          have R_b := irow_alloc R_b (.cells #[.int .i64 kk, .int .i64 0] 59)
          have R_e := irow_one w18 ⟨kk, 0⟩
          have S := srcS_alloc S (.cells #[.int .i64 kk, .int .i64 0] 59)
          have G := gb_alloc G (.cells #[.int .i64 kk, .int .i64 0] 59)
          have zzz : w.heap.size ≤ (w18.alloc (.cells #[.int .i64 kk, .int .i64 0] 59)).heap.size := by simp; omega
          go_wp2_with fail
          refine (cat_any (w18.heap.size + 1) 6 [Q, [⟨2, v6⟩], [⟨2, 0⟩], [⟨10, 0⟩], Q_b, [⟨kk, 0⟩]] _ (cats6 _ _ (by simp) (irow_its R_out) (irow_its R_a) (irow_its R_c) (irow_its R_d) (irow_its R_b) (irow_its R_e)) (by simp) rfl (by omega) (by simp; omega)).mono ?_
          rintro e w19 ⟨v9, rfl, hr, hbb⟩
          obtain ⟨A9, n9, c9, rfl⟩ := irow_form hr
          have R9 := irow_base hr (show w.heap.size ≤ _ from (by first | omega | (simp; done) | (simp; omega)))
          clear hr
          have BX := ((Below.refl _ _).alloc (by omega) _ : Below w.heap.size (w18.alloc (.cells #[.int .i64 kk, .int .i64 0] 59)) _).trans (hbb.mono (show w.heap.size ≤ _ from (by first | omega | (simp; done) | (simp; omega))))
          have S := srcS_lo S hb0 HA.out BX
          have G := gb_of_lo G BX
          clear BX hbb
          have FN : Fits 2 (Q ++ (([⟨2, v6⟩] : List It) ++ (([⟨2, 0⟩] : List It) ++ (([⟨10, 0⟩] : List It) ++ Q_b ++ ([⟨kk, 0⟩] : List It))))) := fits_app F (fits_app (fits_mono (fits_one (itB_lit (by omega)) (by simp)) (by omega)) (fits_app (fits_mono (fits_one (by decide) (by simp)) (by omega)) (fits_two F_b (by omega) (by omega))))
          have E9 : ([Q, [⟨2, v6⟩], [⟨2, 0⟩], [⟨10, 0⟩], Q_b, [⟨kk, 0⟩]] : List (List It)).flatten = Q ++ (([⟨2, v6⟩] : List It) ++ (([⟨2, 0⟩] : List It) ++ (([⟨10, 0⟩] : List It) ++ Q_b ++ ([⟨kk, 0⟩] : List It)))) := by simp
          rw [E9] at R9
          have L9 : ((Q ++ (([⟨2, v6⟩] : List It) ++ (([⟨2, 0⟩] : List It) ++ (([⟨10, 0⟩] : List It) ++ Q_b ++ ([⟨kk, 0⟩] : List It))))).length : Int) ≤ (4 - (k - 1)) * 91 := by simp; omega
          have RN : Hid (dLoop (dStpB len zs (dBlk0 len zs) (dBlk1 len zs)) (k - 1).toNat (Q ++ (([⟨2, v6⟩] : List It) ++ (([⟨2, 0⟩] : List It) ++ (([⟨10, 0⟩] : List It) ++ Q_b ++ ([⟨kk, 0⟩] : List It))))) t18 = R0) := Lib.hid (by
            have q := HRT.out
            rw [show k.toNat = (k - 1).toNat + 1 by omega, dLoop_succ] at q
            rw [show (dStpB len zs (dBlk0 len zs) (dBlk1 len zs)) Q t = (Q ++ (([⟨2, v6⟩] : List It) ++ (([⟨2, 0⟩] : List It) ++ (([⟨10, 0⟩] : List It) ++ Q_b ++ ([⟨kk, 0⟩] : List It)))), t18) by (unfold dStpB; simp [E11.out, HC11.out, E12.out, E13.out, E17.out, E18.out, EKK.out, fixI])] at q
            exact q)
          generalize Q ++ (([⟨2, v6⟩] : List It) ++ (([⟨2, 0⟩] : List It) ++ (([⟨10, 0⟩] : List It) ++ Q_b ++ ([⟨kk, 0⟩] : List It)))) = Q9 at *
          clear E9 R_out R_a R_c R_d R_b R_e
          go_wp2
          go_roundw
          case rel => exact ⟨k - 1, _, _, _, Q9, t18, by omega, by omega, by go_num, rfl, R9, FN, L9, S, by omega, RN.out, G⟩
          case measure => simp [intOf]; omega
        · go_wp2_with fail
          refine (item1_any 6 _).mono ?_
          rintro e w13 ⟨v_a, rfl, hr, hbb⟩
          have R_out := irow_below R_out hbb
          have BX := hbb.mono (show w.heap.size ≤ _ from (by first | omega | (simp; done) | (simp; omega)))
          have S := srcS_lo S hb0 HA.out BX
          have G := gb_of_lo G BX
          have zw13 : w.heap.size ≤ w13.heap.size := by have := hbb.size; (try simp at this); omega
          clear BX hbb
          obtain ⟨A_a, n_a, c_a, rfl⟩ := irow_form hr
          have R_a := hr
          clear hr
          go_wp2_with fail
          refine (block0D _ _ _ _ _ _ _ S (by omega)).mono ?_
          rintro e w14 ⟨v_b, Q_b, t14, he14, rfl, hr, F_b, L_b, hp14, hs, hg⟩
          have E14 := Lib.hid he14
          clear he14
          have R_out := irow_gb hg R_out (by omega)
          have R_a := irow_gb hg R_a (by omega)
          have S := hs
          have G := grown_trans G hg
          have zw14 : w.heap.size ≤ w14.heap.size := by have := hg.size; omega
          clear hs hg
          obtain ⟨A_b, n_b, c_b, rfl⟩ := irow_form hr
          have R_b := hr
          clear hr
          go_wp2_with fail
          refine (item1_any 8 _).mono ?_
          rintro e w15 ⟨v_c, rfl, hr, hbb⟩
          have R_out := irow_below R_out hbb
          have R_a := irow_below R_a hbb
          have R_b := irow_below R_b hbb
          have BX := hbb.mono (show w.heap.size ≤ _ from (by first | omega | (simp; done) | (simp; omega)))
          have S := srcS_lo S hb0 HA.out BX
          have G := gb_of_lo G BX
          have zw15 : w.heap.size ≤ w15.heap.size := by have := hbb.size; (try simp at this); omega
          clear BX hbb
          obtain ⟨A_c, n_c, c_c, rfl⟩ := irow_form hr
          have R_c := hr
          clear hr
          go_wp2_with fail
          refine (block1D _ _ _ _ _ _ _ S (by omega)).mono ?_
          rintro e w16 ⟨v_d, Q_d, t16, he16, rfl, hr, F_d, L_d, hp16, hs, hg⟩
          have E16 := Lib.hid he16
          clear he16
          have R_out := irow_gb hg R_out (by omega)
          have R_a := irow_gb hg R_a (by omega)
          have R_b := irow_gb hg R_b (by omega)
          have R_c := irow_gb hg R_c (by omega)
          have S := hs
          have G := grown_trans G hg
          have zw16 : w.heap.size ≤ w16.heap.size := by have := hg.size; omega
          clear hs hg
          obtain ⟨A_d, n_d, c_d, rfl⟩ := irow_form hr
          have R_d := hr
          clear hr
          go_wp2_with fail
          refine (item1_any 9 _).mono ?_
          rintro e w17 ⟨v_e, rfl, hr, hbb⟩
          have R_out := irow_below R_out hbb
          have R_a := irow_below R_a hbb
          have R_b := irow_below R_b hbb
          have R_c := irow_below R_c hbb
          have R_d := irow_below R_d hbb
          have BX := hbb.mono (show w.heap.size ≤ _ from (by first | omega | (simp; done) | (simp; omega)))
          have S := srcS_lo S hb0 HA.out BX
          have G := gb_of_lo G BX
          have zw17 : w.heap.size ≤ w17.heap.size := by have := hbb.size; (try simp at this); omega
          clear BX hbb
          obtain ⟨A_e, n_e, c_e, rfl⟩ := irow_form hr
          have R_e := hr
          clear hr
          go_wp2_with fail
          refine (cat_any _ 6 [Q, [⟨6, 0⟩], Q_b, [⟨8, 0⟩], Q_d, [⟨9, 0⟩]] _ (cats6 _ _ rfl (irow_its R_out) (irow_its R_a) (irow_its R_b) (irow_its R_c) (irow_its R_d) (irow_its R_e)) (by simp) rfl (by omega) (by simp; omega)).mono ?_
          rintro e w18 ⟨v9, rfl, hr, hbb⟩
          obtain ⟨A9, n9, c9, rfl⟩ := irow_form hr
          have R9 := irow_base hr (show w.heap.size ≤ _ from (by first | omega | (simp; done) | (simp; omega)))
          clear hr
          have BX := ((Below.refl _ _).alloc (by omega) _ : Below w.heap.size w17 _).trans (hbb.mono (show w.heap.size ≤ _ from (by first | omega | (simp; done) | (simp; omega))))
          have S := srcS_lo S hb0 HA.out BX
          have G := gb_of_lo G BX
          clear BX hbb
          have FN : Fits 2 (Q ++ (([⟨6, 0⟩] : List It) ++ Q_b ++ ([⟨8, 0⟩] : List It) ++ Q_d ++ ([⟨9, 0⟩] : List It))) := fits_app F (fits_three (fits_mono F_b (by omega)) F_d (by omega))
          have E9 : ([Q, [⟨6, 0⟩], Q_b, [⟨8, 0⟩], Q_d, [⟨9, 0⟩]] : List (List It)).flatten = Q ++ (([⟨6, 0⟩] : List It) ++ Q_b ++ ([⟨8, 0⟩] : List It) ++ Q_d ++ ([⟨9, 0⟩] : List It)) := by simp
          rw [E9] at R9
          have L9 : ((Q ++ (([⟨6, 0⟩] : List It) ++ Q_b ++ ([⟨8, 0⟩] : List It) ++ Q_d ++ ([⟨9, 0⟩] : List It))).length : Int) ≤ (4 - (k - 1)) * 91 := by simp; omega
          have RN : Hid (dLoop (dStpB len zs (dBlk0 len zs) (dBlk1 len zs)) (k - 1).toNat (Q ++ (([⟨6, 0⟩] : List It) ++ Q_b ++ ([⟨8, 0⟩] : List It) ++ Q_d ++ ([⟨9, 0⟩] : List It))) t16 = R0) := Lib.hid (by
            have q := HRT.out
            rw [show k.toNat = (k - 1).toNat + 1 by omega, dLoop_succ] at q
            rw [show (dStpB len zs (dBlk0 len zs) (dBlk1 len zs)) Q t = (Q ++ (([⟨6, 0⟩] : List It) ++ Q_b ++ ([⟨8, 0⟩] : List It) ++ Q_d ++ ([⟨9, 0⟩] : List It)), t16) by (unfold dStpB; simp [E11.out, HC11.out, E12.out, E14.out, E16.out, fixI])] at q
            exact q)
          generalize Q ++ (([⟨6, 0⟩] : List It) ++ Q_b ++ ([⟨8, 0⟩] : List It) ++ Q_d ++ ([⟨9, 0⟩] : List It)) = Q9 at *
          clear E9 R_out R_a R_b R_c R_d R_e
          go_wp2
          go_roundw
          case rel => exact ⟨k - 1, _, _, _, Q9, t16, by omega, by omega, by go_num, rfl, R9, FN, L9, S, by omega, RN.out, G⟩
          case measure => simp [intOf]; omega
    · obtain rfl : k = 0 := by omega
      go_wp2
      go_ret
      exact ⟨_, Q, t, by rw [RES.out]; have q := HRT.out; simpa [dLoop] using q.symm, rfl, R_out, F, by omega, by omega, S, G⟩

end Go.Proofs.Ytafhmajnkicifaa
