/- PkI: several of my texts, laid together: IdD, IdE, IdF, IdG. -/
import Derived.Test.YtkcogfgjabemfaaIdC
import Derived.Deep.DeepCutAuto
import Derived.BigRegion
import Derived.Test.YtkcogfgjabemfaaAtA
import Derived.Test.YtkcogfgjabemfaaCmM
namespace Go.Proofs.Ytkcogfgjabemfaa
open Go.RowKit
set_option linter.unusedVariables false
set_option linter.unusedSimpArgs false

set_option maxRecDepth 100000 in
set_option maxHeartbeats 8000000 in
theorem block2_drew (b : Nat) (a : Option Addr) (len cap : Nat) (zs : List Int) (N : Nat) (w : World) (h : Src w b a len cap zs N) (hN : N ≤ 60000) :
    Calls Try.prog 119 #[.pointer (some ⟨b, 0, none⟩), .int .i64 86, .int .i64 2] w (BlockDrew w b a len cap zs (N + 10000) 2 364) := by
  have hb0 := src_lt h
  have HA := Lib.hid (src_code_lt h)
  have H := Lib.hid h
  clear h
  go_enter Try.func119, Try.ntmps119
  go_wp2_with fail
  refine (next_small _ _ _ _ _ _ _ _ (src_alloc H.out _) (by unfold Few; omega) (by omega) (by omega)).mono ?_
  rintro e w1 ⟨v, ⟨v0, v1⟩, rfl, hs, hg⟩
  have S := hs
  have G := grown_trans (gb_alloc (World.grownBy.refl w _) _) hg
  have R_out : IRow w1 w.heap.size (.slice (some ⟨w.heap.size, 0, none⟩) 0 0) [] := irow_gb hg (irow_empty w (Nat.le_refl _)) hb0
  clear hs hg
  go_wp2
  go_loopw [7, 8] (fun o i wr => ∃ (k : Int) (A : Option Addr) (n c : Nat) (Q : List It), 0 ≤ k ∧ k ≤ 4 ∧ i = .int .i64 k ∧ o = .slice A n c ∧ IRow wr w.heap.size (.slice A n c) Q ∧ Fits 2 Q ∧ (Q.length : Int) ≤ (4 - k) * 91 ∧ Src wr b a len cap zs (N + 1 + (4 - k.toNat) * 2010) ∧ w.grownBy wr (some b)) (fun _ i _ => (intOf i).toNat)
  case atStart => exact ⟨1 + v, _, _, _, [], by omega, by omega, by go_num, rfl, R_out, fits_nil _, by simp; omega, src_mono S (by omega), G⟩
  case round =>
    clear R_out S G
    obtain ⟨k, A, n, c, Q, k0, k4, rfl, rfl, R_out, F, LQ, S, G⟩ := hrel
    have zwr : w.heap.size ≤ wr.heap.size := G.size
    by_cases hlt : 0 < k
    · go_wp2_with fail
      refine (chance_i _ _ _ _ _ _ _ _ S (by unfold Few; omega) (by omega) (by omega)).mono ?_
      rintro e w11 ⟨y, rfl, hs, hg⟩
      have R_out := irow_gb hg R_out (by omega)
      have S := hs
      have G := grown_trans G hg
      have zw11 : w.heap.size ≤ w11.heap.size := by have := hg.size; omega
      clear hs hg
      cases y
      · go_wp2_with fail
        refine (flat_drew _ _ _ _ _ _ _ S (by omega)).mono ?_
        rintro e w12 ⟨⟨xk, xv⟩, rfl, xb, hx, hs, hg⟩
        have R_out := irow_gb hg R_out (by omega)
        have S := hs
        have G := grown_trans G hg
        have zw12 : w.heap.size ≤ w12.heap.size := by have := hg.size; omega
        clear hs hg
        simp only at hx xb
        rcases hx with rfl | rfl
        · cases hin : inB xv 57 62
          · have FX := xb
            go_wp2_with (first | (go_at_call 58; refine (sIn_any _ _ _ _).mono ?_; rintro e w' ⟨rfl, rfl⟩; rw [hin]) | (at_builtin; refine wpList_append_items rfl (.tmp 37) (.tmp 39) rfl rfl w.heap.size _ Q (irow_below R_out (by repeat (first | with_reducible exact Below.refl _ _ | with_reducible refine Below.setCell ?_ (by first | omega | (simp; done) | (simp; omega)) _ | with_reducible refine Below.alloc ?_ (by first | omega | (simp; done) | (simp; omega)) _))) _ [⟨1, xv⟩] (its_lit ⟨1, xv⟩ (by simp)) rfl rfl (by simp; omega) (by simp; omega) ?_; intro v9 w9 hr hgr hat; obtain ⟨A9, n9, c9, rfl⟩ := irow_form hr; have BX : Below w.heap.size w12 w9 := Below.grown (by repeat (first | with_reducible exact Below.refl _ _ | with_reducible refine Below.setCell ?_ (by first | omega | (simp; done) | (simp; omega)) _ | with_reducible refine Below.alloc ?_ (by first | omega | (simp; done) | (simp; omega)) _)) hgr (by simp; omega) (fun g hg => (irow_lt R_out g hg).1); have S := src_lo S hb0 HA.out BX; have G := gb_of_lo G BX; clear BX hgr hat))
            have FN : Fits 2 (Q ++ [(⟨1, xv⟩ : It)]) := fits_app F (fits_mono (fits_one FX (by simp)) (by omega))
            have L9 : ((Q ++ [(⟨1, xv⟩ : It)]).length : Int) ≤ (4 - (k - 1)) * 91 := by simp; omega
            generalize Q ++ [(⟨1, xv⟩ : It)] = Q9 at *
            clear R_out
            go_roundw
            case rel => exact ⟨k - 1, _, _, _, Q9, by omega, by omega, by go_num, rfl, hr, FN, L9, src_mono S (by omega), G⟩
            case measure => simp [intOf]; omega
          · have FX : itB (⟨1, 1⟩ : It) = true := by decide
            go_wp2_with (first | (go_at_call 58; refine (sIn_any _ _ _ _).mono ?_; rintro e w' ⟨rfl, rfl⟩; rw [hin]) | (at_builtin; refine wpList_append_items rfl (.tmp 37) (.tmp 39) rfl rfl w.heap.size _ Q (irow_below R_out (by repeat (first | with_reducible exact Below.refl _ _ | with_reducible refine Below.setCell ?_ (by first | omega | (simp; done) | (simp; omega)) _ | with_reducible refine Below.alloc ?_ (by first | omega | (simp; done) | (simp; omega)) _))) _ [⟨1, 1⟩] (its_lit ⟨1, 1⟩ (by simp)) rfl rfl (by simp; omega) (by simp; omega) ?_; intro v9 w9 hr hgr hat; obtain ⟨A9, n9, c9, rfl⟩ := irow_form hr; have BX : Below w.heap.size w12 w9 := Below.grown (by repeat (first | with_reducible exact Below.refl _ _ | with_reducible refine Below.setCell ?_ (by first | omega | (simp; done) | (simp; omega)) _ | with_reducible refine Below.alloc ?_ (by first | omega | (simp; done) | (simp; omega)) _)) hgr (by simp; omega) (fun g hg => (irow_lt R_out g hg).1); have S := src_lo S hb0 HA.out BX; have G := gb_of_lo G BX; clear BX hgr hat))
            have FN : Fits 2 (Q ++ [(⟨1, 1⟩ : It)]) := fits_app F (fits_mono (fits_one FX (by simp)) (by omega))
            have L9 : ((Q ++ [(⟨1, 1⟩ : It)]).length : Int) ≤ (4 - (k - 1)) * 91 := by simp; omega
            generalize Q ++ [(⟨1, 1⟩ : It)] = Q9 at *
            clear R_out
            go_roundw
            case rel => exact ⟨k - 1, _, _, _, Q9, by omega, by omega, by go_num, rfl, hr, FN, L9, src_mono S (by omega), G⟩
            case measure => simp [intOf]; omega
        · have FX := xb
          go_wp2_with (first | (at_builtin; refine wpList_append_items rfl (.tmp 37) (.tmp 39) rfl rfl w.heap.size _ Q (irow_below R_out (by repeat (first | with_reducible exact Below.refl _ _ | with_reducible refine Below.setCell ?_ (by first | omega | (simp; done) | (simp; omega)) _ | with_reducible refine Below.alloc ?_ (by first | omega | (simp; done) | (simp; omega)) _))) _ [⟨2, xv⟩] (its_lit ⟨2, xv⟩ (by simp)) rfl rfl (by simp; omega) (by simp; omega) ?_; intro v9 w9 hr hgr hat; obtain ⟨A9, n9, c9, rfl⟩ := irow_form hr; have BX : Below w.heap.size w12 w9 := Below.grown (by repeat (first | with_reducible exact Below.refl _ _ | with_reducible refine Below.setCell ?_ (by first | omega | (simp; done) | (simp; omega)) _ | with_reducible refine Below.alloc ?_ (by first | omega | (simp; done) | (simp; omega)) _)) hgr (by simp; omega) (fun g hg => (irow_lt R_out g hg).1); have S := src_lo S hb0 HA.out BX; have G := gb_of_lo G BX; clear BX hgr hat))
          have FN : Fits 2 (Q ++ [(⟨2, xv⟩ : It)]) := fits_app F (fits_mono (fits_one FX (by simp)) (by omega))
          have L9 : ((Q ++ [(⟨2, xv⟩ : It)]).length : Int) ≤ (4 - (k - 1)) * 91 := by simp; omega
          generalize Q ++ [(⟨2, xv⟩ : It)] = Q9 at *
          clear R_out
          go_roundw
          case rel => exact ⟨k - 1, _, _, _, Q9, by omega, by omega, by go_num, rfl, hr, FN, L9, src_mono S (by omega), G⟩
          case measure => simp [intOf]; omega
      · go_wp2_with fail
        refine (next_small _ _ _ _ _ _ _ _ S (by unfold Few; omega) (by omega) (by omega)).mono ?_
        rintro e w12 ⟨v5, ⟨lv5, uv5⟩, rfl, hs, hg⟩
        have R_out := irow_gb hg R_out (by omega)
        have S := hs
        have G := grown_trans G hg
        have zw12 : w.heap.size ≤ w12.heap.size := by have := hg.size; omega
        clear hs hg
        rcases (by omega : v5 = 0 ∨ v5 = 1 ∨ v5 = 2 ∨ v5 = 3 ∨ v5 = 4) with rfl | rfl | rfl | rfl | rfl
        · go_wp2_with fail
          refine (item1_any 3 _).mono ?_
          rintro e w13 ⟨v_a, rfl, hr, hbb⟩
          have R_out := irow_below R_out hbb
          have BX := hbb.mono (show w.heap.size ≤ _ from (by first | omega | (simp; done) | (simp; omega)))
          have S := src_lo S hb0 HA.out BX
          have G := gb_of_lo G BX
          have zw13 : w.heap.size ≤ w13.heap.size := by have := hbb.size; (try simp at this); omega
          clear BX hbb
          obtain ⟨A_a, n_a, c_a, rfl⟩ := irow_form hr
          have R_a := hr
          clear hr
          go_wp2_with fail
          refine (block1_drew _ _ _ _ _ _ _ S (by omega)).mono ?_
          rintro e w14 ⟨v_b, Q_b, rfl, hr, F_b, L_b, hs, hg⟩
          have R_out := irow_gb hg R_out (by omega)
          have R_a := irow_gb hg R_a (by omega)
          have S := hs
          have G := grown_trans G hg
          have zw14 : w.heap.size ≤ w14.heap.size := by have := hg.size; omega
          clear hs hg
          obtain ⟨A_b, n_b, c_b, rfl⟩ := irow_form hr
          have R_b := hr
          clear hr
          go_wp2_with fail
          refine (item1_any 5 _).mono ?_
          rintro e w15 ⟨v_c, rfl, hr, hbb⟩
          have R_out := irow_below R_out hbb
          have R_a := irow_below R_a hbb
          have R_b := irow_below R_b hbb
          have BX := hbb.mono (show w.heap.size ≤ _ from (by first | omega | (simp; done) | (simp; omega)))
          have S := src_lo S hb0 HA.out BX
          have G := gb_of_lo G BX
          have zw15 : w.heap.size ≤ w15.heap.size := by have := hbb.size; (try simp at this); omega
          clear BX hbb
          obtain ⟨A_c, n_c, c_c, rfl⟩ := irow_form hr
          have R_c := hr
          clear hr
          go_wp2_with fail
          refine (cat_any _ 4 [Q, [⟨3, 0⟩], Q_b, [⟨5, 0⟩]] _ (cats4 _ _ rfl (irow_its R_out) (irow_its R_a) (irow_its R_b) (irow_its R_c)) (by simp) rfl (by omega) (by simp; omega)).mono ?_
          rintro e w16 ⟨v9, rfl, hr, hbb⟩
          obtain ⟨A9, n9, c9, rfl⟩ := irow_form hr
          have R9 := irow_base hr (show w.heap.size ≤ _ from (by first | omega | (simp; done) | (simp; omega)))
          clear hr
          have BX := ((Below.refl _ _).alloc (by omega) _ : Below w.heap.size w15 _).trans (hbb.mono (show w.heap.size ≤ _ from (by first | omega | (simp; done) | (simp; omega))))
          have S := src_lo S hb0 HA.out BX
          have G := gb_of_lo G BX
          clear BX hbb
          have FN : Fits 2 (Q ++ (([⟨3, 0⟩] : List It) ++ Q_b ++ ([⟨5, 0⟩] : List It))) := fits_app F (fits_two F_b (by omega) (by omega))
          have E9 : ([Q, [⟨3, 0⟩], Q_b, [⟨5, 0⟩]] : List (List It)).flatten = Q ++ (([⟨3, 0⟩] : List It) ++ Q_b ++ ([⟨5, 0⟩] : List It)) := by simp
          rw [E9] at R9
          have L9 : ((Q ++ (([⟨3, 0⟩] : List It) ++ Q_b ++ ([⟨5, 0⟩] : List It))).length : Int) ≤ (4 - (k - 1)) * 91 := by simp; omega
          generalize Q ++ (([⟨3, 0⟩] : List It) ++ Q_b ++ ([⟨5, 0⟩] : List It)) = Q9 at *
          clear E9 R_out R_a R_b R_c
          go_wp2
          go_roundw
          case rel => exact ⟨k - 1, _, _, _, Q9, by omega, by omega, by go_num, rfl, R9, FN, L9, src_mono S (by omega), G⟩
          case measure => simp [intOf]; omega
        · go_wp2_with fail
          refine (item1_any 3 _).mono ?_
          rintro e w13 ⟨v_a, rfl, hr, hbb⟩
          have R_out := irow_below R_out hbb
          have BX := hbb.mono (show w.heap.size ≤ _ from (by first | omega | (simp; done) | (simp; omega)))
          have S := src_lo S hb0 HA.out BX
          have G := gb_of_lo G BX
          have zw13 : w.heap.size ≤ w13.heap.size := by have := hbb.size; (try simp at this); omega
          clear BX hbb
          obtain ⟨A_a, n_a, c_a, rfl⟩ := irow_form hr
          have R_a := hr
          clear hr
          go_wp2_with fail
          refine (block1_drew _ _ _ _ _ _ _ S (by omega)).mono ?_
          rintro e w14 ⟨v_b, Q_b, rfl, hr, F_b, L_b, hs, hg⟩
          have R_out := irow_gb hg R_out (by omega)
          have R_a := irow_gb hg R_a (by omega)
          have S := hs
          have G := grown_trans G hg
          have zw14 : w.heap.size ≤ w14.heap.size := by have := hg.size; omega
          clear hs hg
          obtain ⟨A_b, n_b, c_b, rfl⟩ := irow_form hr
          have R_b := hr
          clear hr
          go_wp2_with fail
          refine (item1_any 4 _).mono ?_
          rintro e w15 ⟨v_c, rfl, hr, hbb⟩
          have R_out := irow_below R_out hbb
          have R_a := irow_below R_a hbb
          have R_b := irow_below R_b hbb
          have BX := hbb.mono (show w.heap.size ≤ _ from (by first | omega | (simp; done) | (simp; omega)))
          have S := src_lo S hb0 HA.out BX
          have G := gb_of_lo G BX
          have zw15 : w.heap.size ≤ w15.heap.size := by have := hbb.size; (try simp at this); omega
          clear BX hbb
          obtain ⟨A_c, n_c, c_c, rfl⟩ := irow_form hr
          have R_c := hr
          clear hr
          go_wp2_with fail
          refine (block1_drew _ _ _ _ _ _ _ S (by omega)).mono ?_
          rintro e w16 ⟨v_d, Q_d, rfl, hr, F_d, L_d, hs, hg⟩
          have R_out := irow_gb hg R_out (by omega)
          have R_a := irow_gb hg R_a (by omega)
          have R_b := irow_gb hg R_b (by omega)
          have R_c := irow_gb hg R_c (by omega)
          have S := hs
          have G := grown_trans G hg
          have zw16 : w.heap.size ≤ w16.heap.size := by have := hg.size; omega
          clear hs hg
          obtain ⟨A_d, n_d, c_d, rfl⟩ := irow_form hr
          have R_d := hr
          clear hr
          go_wp2_with fail
          refine (item1_any 5 _).mono ?_
          rintro e w17 ⟨v_e, rfl, hr, hbb⟩
          have R_out := irow_below R_out hbb
          have R_a := irow_below R_a hbb
          have R_b := irow_below R_b hbb
          have R_c := irow_below R_c hbb
          have R_d := irow_below R_d hbb
          have BX := hbb.mono (show w.heap.size ≤ _ from (by first | omega | (simp; done) | (simp; omega)))
          have S := src_lo S hb0 HA.out BX
          have G := gb_of_lo G BX
          have zw17 : w.heap.size ≤ w17.heap.size := by have := hbb.size; (try simp at this); omega
          clear BX hbb
          obtain ⟨A_e, n_e, c_e, rfl⟩ := irow_form hr
          have R_e := hr
          clear hr
          go_wp2_with fail
          refine (cat_any _ 6 [Q, [⟨3, 0⟩], Q_b, [⟨4, 0⟩], Q_d, [⟨5, 0⟩]] _ (cats6 _ _ rfl (irow_its R_out) (irow_its R_a) (irow_its R_b) (irow_its R_c) (irow_its R_d) (irow_its R_e)) (by simp) rfl (by omega) (by simp; omega)).mono ?_
          rintro e w18 ⟨v9, rfl, hr, hbb⟩
          obtain ⟨A9, n9, c9, rfl⟩ := irow_form hr
          have R9 := irow_base hr (show w.heap.size ≤ _ from (by first | omega | (simp; done) | (simp; omega)))
          clear hr
          have BX := ((Below.refl _ _).alloc (by omega) _ : Below w.heap.size w17 _).trans (hbb.mono (show w.heap.size ≤ _ from (by first | omega | (simp; done) | (simp; omega))))
          have S := src_lo S hb0 HA.out BX
          have G := gb_of_lo G BX
          clear BX hbb
          have FN : Fits 2 (Q ++ (([⟨3, 0⟩] : List It) ++ Q_b ++ ([⟨4, 0⟩] : List It) ++ Q_d ++ ([⟨5, 0⟩] : List It))) := fits_app F (fits_three F_b F_d (by omega))
          have E9 : ([Q, [⟨3, 0⟩], Q_b, [⟨4, 0⟩], Q_d, [⟨5, 0⟩]] : List (List It)).flatten = Q ++ (([⟨3, 0⟩] : List It) ++ Q_b ++ ([⟨4, 0⟩] : List It) ++ Q_d ++ ([⟨5, 0⟩] : List It)) := by simp
          rw [E9] at R9
          have L9 : ((Q ++ (([⟨3, 0⟩] : List It) ++ Q_b ++ ([⟨4, 0⟩] : List It) ++ Q_d ++ ([⟨5, 0⟩] : List It))).length : Int) ≤ (4 - (k - 1)) * 91 := by simp; omega
          generalize Q ++ (([⟨3, 0⟩] : List It) ++ Q_b ++ ([⟨4, 0⟩] : List It) ++ Q_d ++ ([⟨5, 0⟩] : List It)) = Q9 at *
          clear E9 R_out R_a R_b R_c R_d R_e
          go_wp2
          go_roundw
          case rel => exact ⟨k - 1, _, _, _, Q9, by omega, by omega, by go_num, rfl, R9, FN, L9, src_mono S (by omega), G⟩
          case measure => simp [intOf]; omega
        · go_wp2_with fail
          refine (next_small _ _ _ _ _ _ _ _ S (by unfold Few; omega) (by omega) (by omega)).mono ?_
          rintro e w13 ⟨v6, ⟨lv6, uv6⟩, rfl, hs, hg⟩
          have R_out := irow_gb hg R_out (by omega)
          have S := hs
          have G := grown_trans G hg
          have zw13 : w.heap.size ≤ w13.heap.size := by have := hg.size; omega
          clear hs hg
          go_wp2_with fail
          refine (lit1_any (1 + v6) _).mono ?_
          rintro e w14 ⟨v_a, rfl, hr, hbb⟩
          have R_out := irow_below R_out hbb
          have BX := hbb.mono (show w.heap.size ≤ _ from (by first | omega | (simp; done) | (simp; omega)))
          have S := src_lo S hb0 HA.out BX
          have G := gb_of_lo G BX
          have zw14 : w.heap.size ≤ w14.heap.size := by have := hbb.size; (try simp at this); omega
          clear BX hbb
          obtain ⟨A_a, n_a, c_a, rfl⟩ := irow_form hr
          have R_a := hr
          clear hr
          go_wp2_with fail
          refine (item1_any 6 _).mono ?_
          rintro e w15 ⟨v_c, rfl, hr, hbb⟩
          have R_out := irow_below R_out hbb
          have R_a := irow_below R_a hbb
          have BX := hbb.mono (show w.heap.size ≤ _ from (by first | omega | (simp; done) | (simp; omega)))
          have S := src_lo S hb0 HA.out BX
          have G := gb_of_lo G BX
          have zw15 : w.heap.size ≤ w15.heap.size := by have := hbb.size; (try simp at this); omega
          clear BX hbb
          obtain ⟨A_c, n_c, c_c, rfl⟩ := irow_form hr
          have R_c := hr
          clear hr
          go_wp2_with fail
          refine (word1_any 29 _).mono ?_
          rintro e w16 ⟨v_d, rfl, hr, hbb⟩
          have R_out := irow_below R_out hbb
          have R_a := irow_below R_a hbb
          have R_c := irow_below R_c hbb
          have BX := hbb.mono (show w.heap.size ≤ _ from (by first | omega | (simp; done) | (simp; omega)))
          have S := src_lo S hb0 HA.out BX
          have G := gb_of_lo G BX
          have zw16 : w.heap.size ≤ w16.heap.size := by have := hbb.size; (try simp at this); omega
          clear BX hbb
          obtain ⟨A_d, n_d, c_d, rfl⟩ := irow_form hr
          have R_d := hr
          clear hr
          go_wp2_with fail
          refine (block0_drew _ _ _ _ _ _ _ S (by omega)).mono ?_
          rintro e w17 ⟨v_b, Q_b, rfl, hr, F_b, L_b, hs, hg⟩
          have R_out := irow_gb hg R_out (by omega)
          have R_a := irow_gb hg R_a (by omega)
          have R_c := irow_gb hg R_c (by omega)
          have R_d := irow_gb hg R_d (by omega)
          have S := hs
          have G := grown_trans G hg
          have zw17 : w.heap.size ≤ w17.heap.size := by have := hg.size; omega
          clear hs hg
          obtain ⟨A_b, n_b, c_b, rfl⟩ := irow_form hr
          have R_b := hr
          clear hr
          go_wp2_with fail
          refine (word1_any 1 _).mono ?_
          rintro e w18 ⟨v_e, rfl, hr, hbb⟩
          have R_out := irow_below R_out hbb
          have R_a := irow_below R_a hbb
          have R_c := irow_below R_c hbb
          have R_d := irow_below R_d hbb
          have R_b := irow_below R_b hbb
          have BX := hbb.mono (show w.heap.size ≤ _ from (by first | omega | (simp; done) | (simp; omega)))
          have S := src_lo S hb0 HA.out BX
          have G := gb_of_lo G BX
          have zw18 : w.heap.size ≤ w18.heap.size := by have := hbb.size; (try simp at this); omega
          clear BX hbb
          obtain ⟨A_e, n_e, c_e, rfl⟩ := irow_form hr
          have R_e := hr
          clear hr
          go_wp2_with fail
          refine (word1_any 37 _).mono ?_
          rintro e w19 ⟨v_f, rfl, hr, hbb⟩
          have R_out := irow_below R_out hbb
          have R_a := irow_below R_a hbb
          have R_c := irow_below R_c hbb
          have R_d := irow_below R_d hbb
          have R_b := irow_below R_b hbb
          have R_e := irow_below R_e hbb
          have BX := hbb.mono (show w.heap.size ≤ _ from (by first | omega | (simp; done) | (simp; omega)))
          have S := src_lo S hb0 HA.out BX
          have G := gb_of_lo G BX
          have zw19 : w.heap.size ≤ w19.heap.size := by have := hbb.size; (try simp at this); omega
          clear BX hbb
          obtain ⟨A_f, n_f, c_f, rfl⟩ := irow_form hr
          have R_f := hr
          clear hr
          go_wp2_with fail
          refine (item1_any 7 _).mono ?_
          rintro e w20 ⟨v_g, rfl, hr, hbb⟩
          have R_out := irow_below R_out hbb
          have R_a := irow_below R_a hbb
          have R_c := irow_below R_c hbb
          have R_d := irow_below R_d hbb
          have R_b := irow_below R_b hbb
          have R_e := irow_below R_e hbb
          have R_f := irow_below R_f hbb
          have BX := hbb.mono (show w.heap.size ≤ _ from (by first | omega | (simp; done) | (simp; omega)))
          have S := src_lo S hb0 HA.out BX
          have G := gb_of_lo G BX
          have zw20 : w.heap.size ≤ w20.heap.size := by have := hbb.size; (try simp at this); omega
          clear BX hbb
          obtain ⟨A_g, n_g, c_g, rfl⟩ := irow_form hr
          have R_g := hr
          clear hr
          go_wp2_with fail
          refine (cat_any _ 8 [Q, [⟨2, 1 + v6⟩], [⟨6, 0⟩], [⟨1, 29⟩], Q_b, [⟨1, 1⟩], [⟨1, 37⟩], [⟨7, 0⟩]] _ (cats8 _ _ rfl (irow_its R_out) (irow_its R_a) (irow_its R_c) (irow_its R_d) (irow_its R_b) (irow_its R_e) (irow_its R_f) (irow_its R_g)) (by simp) rfl (by omega) (by simp; omega)).mono ?_
          rintro e w21 ⟨v9, rfl, hr, hbb⟩
          obtain ⟨A9, n9, c9, rfl⟩ := irow_form hr
          have R9 := irow_base hr (show w.heap.size ≤ _ from (by first | omega | (simp; done) | (simp; omega)))
          clear hr
          have BX := ((Below.refl _ _).alloc (by omega) _ : Below w.heap.size w20 _).trans (hbb.mono (show w.heap.size ≤ _ from (by first | omega | (simp; done) | (simp; omega))))
          have S := src_lo S hb0 HA.out BX
          have G := gb_of_lo G BX
          clear BX hbb
          have FN : Fits 2 (Q ++ (([⟨2, 1 + v6⟩] : List It) ++ (([⟨6, 0⟩] : List It) ++ (([⟨1, 29⟩] : List It) ++ Q_b ++ ([⟨1, 1⟩] : List It) ++ ([⟨1, 37⟩] : List It)) ++ ([⟨7, 0⟩] : List It)))) := fits_app F (fits_app (fits_mono (fits_one (itB_lit (by omega)) (by simp)) (by omega)) (fits_mono (fits_two (fits_app (fits_app (fits_app (fits_one (by decide) (by simp)) F_b) (fits_one (by decide) (by simp))) (fits_one (by decide) (by simp))) (by omega) (by omega)) (by omega)))
          have E9 : ([Q, [⟨2, 1 + v6⟩], [⟨6, 0⟩], [⟨1, 29⟩], Q_b, [⟨1, 1⟩], [⟨1, 37⟩], [⟨7, 0⟩]] : List (List It)).flatten = Q ++ (([⟨2, 1 + v6⟩] : List It) ++ (([⟨6, 0⟩] : List It) ++ (([⟨1, 29⟩] : List It) ++ Q_b ++ ([⟨1, 1⟩] : List It) ++ ([⟨1, 37⟩] : List It)) ++ ([⟨7, 0⟩] : List It))) := by simp
          rw [E9] at R9
          have L9 : ((Q ++ (([⟨2, 1 + v6⟩] : List It) ++ (([⟨6, 0⟩] : List It) ++ (([⟨1, 29⟩] : List It) ++ Q_b ++ ([⟨1, 1⟩] : List It) ++ ([⟨1, 37⟩] : List It)) ++ ([⟨7, 0⟩] : List It)))).length : Int) ≤ (4 - (k - 1)) * 91 := by simp; omega
          generalize Q ++ (([⟨2, 1 + v6⟩] : List It) ++ (([⟨6, 0⟩] : List It) ++ (([⟨1, 29⟩] : List It) ++ Q_b ++ ([⟨1, 1⟩] : List It) ++ ([⟨1, 37⟩] : List It)) ++ ([⟨7, 0⟩] : List It))) = Q9 at *
          clear E9 R_out R_a R_c R_d R_b R_e R_f R_g
          go_wp2
          go_roundw
          case rel => exact ⟨k - 1, _, _, _, Q9, by omega, by omega, by go_num, rfl, R9, FN, L9, src_mono S (by omega), G⟩
          case measure => simp [intOf]; omega
        · go_wp2_with fail
          refine (next_small _ _ _ _ _ _ _ _ S (by unfold Few; omega) (by omega) (by omega)).mono ?_
          rintro e w13 ⟨v6, ⟨lv6, uv6⟩, rfl, hs, hg⟩
          have R_out := irow_gb hg R_out (by omega)
          have S := hs
          have G := grown_trans G hg
          have zw13 : w.heap.size ≤ w13.heap.size := by have := hg.size; omega
          clear hs hg
          go_wp2_with fail
          refine (lit1_any v6 _).mono ?_
          rintro e w14 ⟨v_a, rfl, hr, hbb⟩
          have R_out := irow_below R_out hbb
          have BX := hbb.mono (show w.heap.size ≤ _ from (by first | omega | (simp; done) | (simp; omega)))
          have S := src_lo S hb0 HA.out BX
          have G := gb_of_lo G BX
          have zw14 : w.heap.size ≤ w14.heap.size := by have := hbb.size; (try simp at this); omega
          clear BX hbb
          obtain ⟨A_a, n_a, c_a, rfl⟩ := irow_form hr
          have R_a := hr
          clear hr
          go_wp2_with fail
          refine (lit1_any 0 _).mono ?_
          rintro e w15 ⟨v_c, rfl, hr, hbb⟩
          have R_out := irow_below R_out hbb
          have R_a := irow_below R_a hbb
          have BX := hbb.mono (show w.heap.size ≤ _ from (by first | omega | (simp; done) | (simp; omega)))
          have S := src_lo S hb0 HA.out BX
          have G := gb_of_lo G BX
          have zw15 : w.heap.size ≤ w15.heap.size := by have := hbb.size; (try simp at this); omega
          clear BX hbb
          obtain ⟨A_c, n_c, c_c, rfl⟩ := irow_form hr
          have R_c := hr
          clear hr
          go_wp2_with fail
          refine (item1_any 10 _).mono ?_
          rintro e w16 ⟨v_d, rfl, hr, hbb⟩
          have R_out := irow_below R_out hbb
          have R_a := irow_below R_a hbb
          have R_c := irow_below R_c hbb
          have BX := hbb.mono (show w.heap.size ≤ _ from (by first | omega | (simp; done) | (simp; omega)))
          have S := src_lo S hb0 HA.out BX
          have G := gb_of_lo G BX
          have zw16 : w.heap.size ≤ w16.heap.size := by have := hbb.size; (try simp at this); omega
          clear BX hbb
          obtain ⟨A_d, n_d, c_d, rfl⟩ := irow_form hr
          have R_d := hr
          clear hr
          go_wp2_with fail
          refine (block1_drew _ _ _ _ _ _ _ S (by omega)).mono ?_
          rintro e w17 ⟨v_b, Q_b, rfl, hr, F_b, L_b, hs, hg⟩
          have R_out := irow_gb hg R_out (by omega)
          have R_a := irow_gb hg R_a (by omega)
          have R_c := irow_gb hg R_c (by omega)
          have R_d := irow_gb hg R_d (by omega)
          have S := hs
          have G := grown_trans G hg
          have zw17 : w.heap.size ≤ w17.heap.size := by have := hg.size; omega
          clear hs hg
          obtain ⟨A_b, n_b, c_b, rfl⟩ := irow_form hr
          have R_b := hr
          clear hr
          go_wp2_with fail
          refine (next_small _ _ _ _ _ _ _ _ (src_alloc S _) (by unfold Few; omega) (by omega) (by omega)).mono ?_
          rintro e w18 ⟨v7, ⟨l7, u7⟩, rfl, hs, hg⟩
          have Y7 := whole_gbI hg (whole_new w17 _ _) (by omega)
          have R_out := irow_gb hg (irow_alloc R_out _) (by omega)
          have R_a := irow_gb hg (irow_alloc R_a _) (by omega)
          have R_c := irow_gb hg (irow_alloc R_c _) (by omega)
          have R_d := irow_gb hg (irow_alloc R_d _) (by omega)
          have R_b := irow_gb hg (irow_alloc R_b _) (by omega)
          have S := hs
          have G := grown_trans (gb_alloc G _) hg
          have zw18 : w.heap.size ≤ w18.heap.size := by have := hg.size; (try simp at this); omega
          clear hs hg
          obtain ⟨kk, hkk, yc⟩ : ∃ kk : Int, (kk = 11 ∨ kk = 12) ∧ w18.cell? ⟨w17.heap.size, v7.toNat, none⟩ = some (.int .i64 kk) := by
            rcases (by omega : v7 = 0 ∨ v7 = 1 ∨ v7 = 2) with rfl | rfl | rfl
            · exact ⟨11, .inl rfl, whole_cell Y7 0⟩
            · exact ⟨11, .inl rfl, whole_cell Y7 1⟩
            · exact ⟨12, .inr rfl, whole_cell Y7 2⟩
          obtain ⟨j7, rfl⟩ := Int.eq_ofNat_of_zero_le l7
          simp only [Int.toNat_natCast] at yc
          clear Y7
          have R_out := irow_alloc R_out (.cells #[.int .i64 kk, .int .i64 0] 94)
          have R_a := irow_alloc R_a (.cells #[.int .i64 kk, .int .i64 0] 94)
          have R_c := irow_alloc R_c (.cells #[.int .i64 kk, .int .i64 0] 94)
          have R_d := irow_alloc R_d (.cells #[.int .i64 kk, .int .i64 0] 94)
          have R_b := irow_alloc R_b (.cells #[.int .i64 kk, .int .i64 0] 94)
          have R_e := irow_one w18 ⟨kk, 0⟩
          have S := src_alloc S (.cells #[.int .i64 kk, .int .i64 0] 94)
          have G := gb_alloc G (.cells #[.int .i64 kk, .int .i64 0] 94)
          have zzz : w.heap.size ≤ (w18.alloc (.cells #[.int .i64 kk, .int .i64 0] 94)).heap.size := by simp; omega
          go_wp2_with fail
          refine (cat_any (w18.heap.size + 1) 6 [Q, [⟨2, v6⟩], [⟨2, 0⟩], [⟨10, 0⟩], Q_b, [⟨kk, 0⟩]] _ (cats6 _ _ (by simp) (irow_its R_out) (irow_its R_a) (irow_its R_c) (irow_its R_d) (irow_its R_b) (irow_its R_e)) (by simp) rfl (by omega) (by simp; omega)).mono ?_
          rintro e w19 ⟨v9, rfl, hr, hbb⟩
          obtain ⟨A9, n9, c9, rfl⟩ := irow_form hr
          have R9 := irow_base hr (show w.heap.size ≤ _ from (by first | omega | (simp; done) | (simp; omega)))
          clear hr
          have BX := ((Below.refl _ _).alloc (by omega) _ : Below w.heap.size (w18.alloc (.cells #[.int .i64 kk, .int .i64 0] 94)) _).trans (hbb.mono (show w.heap.size ≤ _ from (by first | omega | (simp; done) | (simp; omega))))
          have S := src_lo S hb0 HA.out BX
          have G := gb_of_lo G BX
          clear BX hbb
          have FN : Fits 2 (Q ++ (([⟨2, v6⟩] : List It) ++ (([⟨2, 0⟩] : List It) ++ (([⟨10, 0⟩] : List It) ++ Q_b ++ ([⟨kk, 0⟩] : List It))))) := fits_app F (fits_app (fits_mono (fits_one (itB_lit (by omega)) (by simp)) (by omega)) (fits_app (fits_mono (fits_one (by decide) (by simp)) (by omega)) (fits_two F_b (by omega) (by omega))))
          have E9 : ([Q, [⟨2, v6⟩], [⟨2, 0⟩], [⟨10, 0⟩], Q_b, [⟨kk, 0⟩]] : List (List It)).flatten = Q ++ (([⟨2, v6⟩] : List It) ++ (([⟨2, 0⟩] : List It) ++ (([⟨10, 0⟩] : List It) ++ Q_b ++ ([⟨kk, 0⟩] : List It)))) := by simp
          rw [E9] at R9
          have L9 : ((Q ++ (([⟨2, v6⟩] : List It) ++ (([⟨2, 0⟩] : List It) ++ (([⟨10, 0⟩] : List It) ++ Q_b ++ ([⟨kk, 0⟩] : List It))))).length : Int) ≤ (4 - (k - 1)) * 91 := by simp; omega
          generalize Q ++ (([⟨2, v6⟩] : List It) ++ (([⟨2, 0⟩] : List It) ++ (([⟨10, 0⟩] : List It) ++ Q_b ++ ([⟨kk, 0⟩] : List It)))) = Q9 at *
          clear E9 R_out R_a R_c R_d R_b R_e
          go_wp2
          go_roundw
          case rel => exact ⟨k - 1, _, _, _, Q9, by omega, by omega, by go_num, rfl, R9, FN, L9, src_mono S (by omega), G⟩
          case measure => simp [intOf]; omega
        · go_wp2_with fail
          refine (item1_any 6 _).mono ?_
          rintro e w13 ⟨v_a, rfl, hr, hbb⟩
          have R_out := irow_below R_out hbb
          have BX := hbb.mono (show w.heap.size ≤ _ from (by first | omega | (simp; done) | (simp; omega)))
          have S := src_lo S hb0 HA.out BX
          have G := gb_of_lo G BX
          have zw13 : w.heap.size ≤ w13.heap.size := by have := hbb.size; (try simp at this); omega
          clear BX hbb
          obtain ⟨A_a, n_a, c_a, rfl⟩ := irow_form hr
          have R_a := hr
          clear hr
          go_wp2_with fail
          refine (block0_drew _ _ _ _ _ _ _ S (by omega)).mono ?_
          rintro e w14 ⟨v_b, Q_b, rfl, hr, F_b, L_b, hs, hg⟩
          have R_out := irow_gb hg R_out (by omega)
          have R_a := irow_gb hg R_a (by omega)
          have S := hs
          have G := grown_trans G hg
          have zw14 : w.heap.size ≤ w14.heap.size := by have := hg.size; omega
          clear hs hg
          obtain ⟨A_b, n_b, c_b, rfl⟩ := irow_form hr
          have R_b := hr
          clear hr
          go_wp2_with fail
          refine (item1_any 8 _).mono ?_
          rintro e w15 ⟨v_c, rfl, hr, hbb⟩
          have R_out := irow_below R_out hbb
          have R_a := irow_below R_a hbb
          have R_b := irow_below R_b hbb
          have BX := hbb.mono (show w.heap.size ≤ _ from (by first | omega | (simp; done) | (simp; omega)))
          have S := src_lo S hb0 HA.out BX
          have G := gb_of_lo G BX
          have zw15 : w.heap.size ≤ w15.heap.size := by have := hbb.size; (try simp at this); omega
          clear BX hbb
          obtain ⟨A_c, n_c, c_c, rfl⟩ := irow_form hr
          have R_c := hr
          clear hr
          go_wp2_with fail
          refine (block1_drew _ _ _ _ _ _ _ S (by omega)).mono ?_
          rintro e w16 ⟨v_d, Q_d, rfl, hr, F_d, L_d, hs, hg⟩
          have R_out := irow_gb hg R_out (by omega)
          have R_a := irow_gb hg R_a (by omega)
          have R_b := irow_gb hg R_b (by omega)
          have R_c := irow_gb hg R_c (by omega)
          have S := hs
          have G := grown_trans G hg
          have zw16 : w.heap.size ≤ w16.heap.size := by have := hg.size; omega
          clear hs hg
          obtain ⟨A_d, n_d, c_d, rfl⟩ := irow_form hr
          have R_d := hr
          clear hr
          go_wp2_with fail
          refine (item1_any 9 _).mono ?_
          rintro e w17 ⟨v_e, rfl, hr, hbb⟩
          have R_out := irow_below R_out hbb
          have R_a := irow_below R_a hbb
          have R_b := irow_below R_b hbb
          have R_c := irow_below R_c hbb
          have R_d := irow_below R_d hbb
          have BX := hbb.mono (show w.heap.size ≤ _ from (by first | omega | (simp; done) | (simp; omega)))
          have S := src_lo S hb0 HA.out BX
          have G := gb_of_lo G BX
          have zw17 : w.heap.size ≤ w17.heap.size := by have := hbb.size; (try simp at this); omega
          clear BX hbb
          obtain ⟨A_e, n_e, c_e, rfl⟩ := irow_form hr
          have R_e := hr
          clear hr
          go_wp2_with fail
          refine (cat_any _ 6 [Q, [⟨6, 0⟩], Q_b, [⟨8, 0⟩], Q_d, [⟨9, 0⟩]] _ (cats6 _ _ rfl (irow_its R_out) (irow_its R_a) (irow_its R_b) (irow_its R_c) (irow_its R_d) (irow_its R_e)) (by simp) rfl (by omega) (by simp; omega)).mono ?_
          rintro e w18 ⟨v9, rfl, hr, hbb⟩
          obtain ⟨A9, n9, c9, rfl⟩ := irow_form hr
          have R9 := irow_base hr (show w.heap.size ≤ _ from (by first | omega | (simp; done) | (simp; omega)))
          clear hr
          have BX := ((Below.refl _ _).alloc (by omega) _ : Below w.heap.size w17 _).trans (hbb.mono (show w.heap.size ≤ _ from (by first | omega | (simp; done) | (simp; omega))))
          have S := src_lo S hb0 HA.out BX
          have G := gb_of_lo G BX
          clear BX hbb
          have FN : Fits 2 (Q ++ (([⟨6, 0⟩] : List It) ++ Q_b ++ ([⟨8, 0⟩] : List It) ++ Q_d ++ ([⟨9, 0⟩] : List It))) := fits_app F (fits_three (fits_mono F_b (by omega)) F_d (by omega))
          have E9 : ([Q, [⟨6, 0⟩], Q_b, [⟨8, 0⟩], Q_d, [⟨9, 0⟩]] : List (List It)).flatten = Q ++ (([⟨6, 0⟩] : List It) ++ Q_b ++ ([⟨8, 0⟩] : List It) ++ Q_d ++ ([⟨9, 0⟩] : List It)) := by simp
          rw [E9] at R9
          have L9 : ((Q ++ (([⟨6, 0⟩] : List It) ++ Q_b ++ ([⟨8, 0⟩] : List It) ++ Q_d ++ ([⟨9, 0⟩] : List It))).length : Int) ≤ (4 - (k - 1)) * 91 := by simp; omega
          generalize Q ++ (([⟨6, 0⟩] : List It) ++ Q_b ++ ([⟨8, 0⟩] : List It) ++ Q_d ++ ([⟨9, 0⟩] : List It)) = Q9 at *
          clear E9 R_out R_a R_b R_c R_d R_e
          go_wp2
          go_roundw
          case rel => exact ⟨k - 1, _, _, _, Q9, by omega, by omega, by go_num, rfl, R9, FN, L9, src_mono S (by omega), G⟩
          case measure => simp [intOf]; omega
    · obtain rfl : k = 0 := by omega
      go_wp2
      go_ret
      exact ⟨_, Q, rfl, R_out, F, by omega, src_mono S (by omega), G⟩

end Go.Proofs.Ytkcogfgjabemfaa

namespace Go.Proofs.Ytkcogfgjabemfaa
open Go.RowKit
set_option linter.unusedVariables false
set_option linter.unusedSimpArgs false

/-- What drawn items that fit leave. -/
def FitDrew (w : World) (b : Nat) (a : Option Addr) (len cap : Nat) (zs : List Int) (N : Nat) (e : Ending) (w' : World) : Prop :=
  ∃ v Q, e = .returned v ∧ IRow w' w.heap.size v Q ∧ Fits 2 Q ∧ Q.length ≤ 60 ∧ Src w' b a len cap zs N ∧ w.grownBy w' (some b)

set_option maxRecDepth 100000 in
set_option maxHeartbeats 4000000 in
theorem items_drew (b : Nat) (a : Option Addr) (len cap : Nat) (zs : List Int) (N : Nat) (w : World) (h : Src w b a len cap zs N) (hN : N ≤ 10000) :
    Calls Try.prog 72 #[.pointer (some ⟨b, 0, none⟩), .int .i64 86] w (FitDrew w b a len cap zs (N + 11000)) := by
  have hb0 := src_lt h
  have HA := Lib.hid (src_code_lt h)
  have H := Lib.hid h
  clear h
  go_enter Try.func72, Try.ntmps72
  go_wp2_with fail
  refine (block2_drew _ _ _ _ _ _ _ H.out (by omega)).mono ?_
  rintro e w1 ⟨v1, Q1, rfl, hr, F1, L1, hs, hg⟩
  obtain ⟨A1, n1, c1, rfl⟩ := irow_form hr
  have z1 : w.heap.size ≤ w1.heap.size := hg.size
  have G1 := hg
  have R1 := hr
  have S1 := hs
  clear hr hs hg
  go_wp2_with fail
  refine (chance_i _ _ _ _ _ _ _ _ S1 (by unfold Few; omega) (by omega) (by omega)).mono ?_
  rintro e w2 ⟨y, rfl, hs, hg⟩
  have R2 := irow_gb hg R1 hb0
  have G2 := grown_trans G1 hg
  have S2 := hs
  have z2 : w.heap.size ≤ w2.heap.size := G2.size
  clear hs hg R1 G1 S1
  have LEN : ∀ {W : World} {A n c} {Q : List It}, IRow W w.heap.size (.slice A n c) Q → n = Q.length := fun h => by
    obtain ⟨_, _, _, e, _⟩ := irow_its h
    cases e; rfl
  cases y
  · have e1 := Lib.hid (LEN R2)
    by_cases h60 : Q1.length ≤ 60
    · have t : ¬ (60 : Int) < (n1 : Int) := by have := e1.out; omega
      go_wp2
      go_ret
      exact ⟨_, Q1, rfl, R2, F1, h60, src_mono S2 (by omega), G2⟩
    · have t : (60 : Int) < (n1 : Int) := by have := e1.out; omega
      go_wp2_with fail
      refine (block0_drew _ _ _ _ _ _ _ S2 (by omega)).mono ?_
      rintro e w3 ⟨v3, Q3, rfl, hr, F3, L3, hs, hg⟩
      go_wp2
      go_ret
      exact ⟨_, Q3, rfl, irow_base hr z2, fits_mono F3 (by omega), by omega, src_mono hs (by omega), grown_trans G2 hg⟩
  · by_cases h60 : Q1.length + 1 ≤ 60
    · have FN : Fits 2 (Q1 ++ [(⟨13, 0⟩ : It)]) := fits_app F1 (fits_mono (fits_one (by decide) (by simp)) (by omega))
      have LN : (Q1 ++ [(⟨13, 0⟩ : It)]).length ≤ 60 := by simpa using h60
      go_wp2_with (first | (at_builtin; refine wpList_append_items rfl (.tmp 11) (.tmp 13) rfl rfl w.heap.size _ Q1 (irow_below R2 (by repeat (first | with_reducible exact Below.refl _ _ | with_reducible refine Below.alloc ?_ (by first | omega | (simp; done) | (simp; omega)) _))) _ [⟨13, 0⟩] (its_lit ⟨13, 0⟩ (by simp)) rfl rfl (by simp; omega) (by simp; omega) ?_; intro v3 w3 hr hgr hat; obtain ⟨A3, n3, c3, rfl⟩ := irow_form hr; have BX : Below w.heap.size w2 w3 := Below.grown (by repeat (first | with_reducible exact Below.refl _ _ | with_reducible refine Below.alloc ?_ (by first | omega | (simp; done) | (simp; omega)) _)) hgr (by simp; omega) (fun g hg => (irow_lt R2 g hg).1); have S3 := src_lo S2 hb0 HA.out BX; have G3 := gb_of_lo G2 BX; have z3 : w.heap.size ≤ w3.heap.size := G3.size; have t : ¬ (60 : Int) < (n3 : Int) := (by have := LEN hr; simp at this; omega); clear BX hgr hat))
      go_ret
      exact ⟨_, _, rfl, hr, FN, LN, src_mono S3 (by omega), G3⟩
    · go_wp2_with (first | (at_builtin; refine wpList_append_items rfl (.tmp 11) (.tmp 13) rfl rfl w.heap.size _ Q1 (irow_below R2 (by repeat (first | with_reducible exact Below.refl _ _ | with_reducible refine Below.alloc ?_ (by first | omega | (simp; done) | (simp; omega)) _))) _ [⟨13, 0⟩] (its_lit ⟨13, 0⟩ (by simp)) rfl rfl (by simp; omega) (by simp; omega) ?_; intro v3 w3 hr hgr hat; obtain ⟨A3, n3, c3, rfl⟩ := irow_form hr; have BX : Below w.heap.size w2 w3 := Below.grown (by repeat (first | with_reducible exact Below.refl _ _ | with_reducible refine Below.alloc ?_ (by first | omega | (simp; done) | (simp; omega)) _)) hgr (by simp; omega) (fun g hg => (irow_lt R2 g hg).1); have S3 := src_lo S2 hb0 HA.out BX; have G3 := gb_of_lo G2 BX; have z3 : w.heap.size ≤ w3.heap.size := G3.size; have t : (60 : Int) < (n3 : Int) := (by have := LEN hr; simp at this; omega); clear BX hgr hat))
      refine (block0_drew _ _ _ _ _ _ _ S3 (by omega)).mono ?_
      rintro e w4 ⟨v4, Q4, rfl, hr4, F4, L4, hs4, hg4⟩
      go_wp2
      go_ret
      exact ⟨_, Q4, rfl, irow_base hr4 z3, fits_mono F4 (by omega), by omega, src_mono hs4 (by omega), grown_trans G3 hg4⟩

end Go.Proofs.Ytkcogfgjabemfaa

namespace Go.Proofs.Ytkcogfgjabemfaa
open Go.RowKit
set_option linter.unusedVariables false
set_option linter.unusedSimpArgs false

theorem next_upto (b : Nat) (a : Option Addr) (len cap : Nat) (zs : List Int) (N : Nat) (n : Int) (w : World) (h : Src w b a len cap zs N) (hN : Few N) (h1 : 1 ≤ n) (h2 : n ≤ 256) :
    Calls Try.prog 94 #[.pointer (some ⟨b, 0, none⟩), .int .i64 n] w (Drew w b a len cap zs (N + 1) fun v => 0 ≤ v ∧ v < n) := by
  by_cases h : 1 < n
  · exact next_small _ _ _ _ _ _ _ _ ‹_› hN h h2
  · refine (next_one _ _ _ _ _ _ n _ ‹_› (by omega)).mono ?_
    rintro e w1 ⟨v, rfl, rfl, hs, hg⟩
    exact ⟨0, ⟨by omega, by omega⟩, rfl, src_mono hs (by omega), hg⟩

theorem irow_len {w : World} {lo : Nat} {A : Option Addr} {n c : Nat} {Q : List It} (h : IRow w lo (.slice A n c) Q) : n = Q.length := by
  obtain ⟨_, _, _, e, _⟩ := irow_its h
  cases e; rfl

theorem irow_cap {w : World} {lo n k : Nat} {A : Option Addr} {Q : List It} (h : IRow w lo (.slice A n k) Q) : n ≤ k := by
  rcases h.2 with ⟨hv, h0⟩ | ⟨g', cap', cur, hv, hb', hg, h1, h2, h3, h4⟩
  · simp only [Value.slice.injEq] at hv
    omega
  · simp only [Value.slice.injEq] at hv
    obtain ⟨_, rfl, rfl⟩ := hv
    omega

theorem irow_block {w : World} {lo : Nat} {A : Option Addr} {n c : Nat} {Q : List It} (h : IRow w lo (.slice A n c) Q) (h0 : 0 < n) : ∃ g, A = some ⟨g, 0, none⟩ ∧ lo ≤ g ∧ g < w.heap.size := by
  rcases h.2 with ⟨hv, _⟩ | ⟨g, cap, cur, hv, hb, hg, h1, h2, h3, h4⟩
  · have : n = 0 := by injection hv
    omega
  · refine ⟨g, by injection hv, hb, ?_⟩
    exact (irow_lt h g (by rw [hv]; rfl)).2

theorem irow_oneG {w : World} {g : Nat} (x : It) (hg : g = w.heap.size) : IRow (w.alloc (.cells #[.int .i64 x.k, .int .i64 x.v] 94)) w.heap.size (.slice (some ⟨g, 0, none⟩) 1 1) [x] := by subst hg; exact irow_one w x

theorem irow_emptyG {w : World} {g base : Nat} (hg : g = w.heap.size) (hb : base ≤ w.heap.size) : IRow (w.alloc (.cells #[] 94)) base (.slice (some ⟨g, 0, none⟩) 0 0) [] := by subst hg; exact irow_empty w hb

theorem next_head : (Try.prog.funcs[94]?).map (fun fn => (fn.name == "runtime.NumGoroutine", fn.body.isNone)) = some (false, false) := by kernel_rfl

/-- A call of the source's next, as one step of a region that draws its order: by its contract. -/
theorem step_next {w : World} {ops : Array Oper} {o : Oper} {a : Act} {K : Act → World → Prop} {Q : Exit → Act → World → Prop} {E : Prop} (hgd : o.guard = none) (s x : Operand) (ts : Array TypeId)
    (ho : o.op = .call { callee := .value (.func 94), args := #[s, x], argTypes := ts }) (u v : Value) (hs : a.eval s = u) (hx : a.eval x = v) {R : Ending → World → Prop} (hc : Calls Try.prog 94 #[u, v] w R)
    (h : ∀ e w', R e w' → ∃ r, e = .returned r ∧ K (a.put o.dst r) w') :
    if Region.wanted o (yielded ops a.tmps) = true then Oper.wp Try.prog o a w K Q else E := by
  have hw : Region.wanted o (yielded ops a.tmps) = true := by simp [Region.wanted, hgd]
  rw [if_pos hw]
  obtain ⟨fn, hfn, hp⟩ : ∃ fn, Try.prog.funcs[94]? = some fn ∧ (fn.name == "runtime.NumGoroutine", fn.body.isNone) = (false, false) := by
    have q := next_head
    rw [Option.map_eq_some_iff] at q
    exact q
  simp only [Prod.mk.injEq] at hp
  have hr : (execOp a.eval o).run Try.prog w = .ok (.enter 94 #[u, v]) w := by
    unfold execOp
    simp only [ho, resolve, invoke, Sem.run_bind, Sem.run_pure, Result.andThen_ok, List.map_toArray, List.map_cons, List.map_nil, hs, hx]
    have h1 : ¬ fn.name = "runtime.NumGoroutine" := by simpa using hp.1
    have h2 : ¬ fn.body = none := fun e => by rw [e] at hp; simp at hp
    simp [callFunc, go_sem, hfn, h1, h2]
  unfold Oper.wp
  rw [hr, Oper.upon_enter]
  refine hc.mono ?_
  intro e w' hq
  obtain ⟨r, rfl, hk⟩ := h e w' hq
  exact hk

/-- A change of blocks made since, beside one's own source. -/
theorem gb_own {a w w' : World} {b : Nat} {r : Option Nat} (h : a.grownBy w (some b)) (k : w.grownBy w' r) (hv : ∀ g, r = some g → a.heap.size ≤ g) : a.grownBy w' (some b) :=
  ⟨k.os.trans h.os, k.tape.trans h.tape, k.output.trans h.output, Nat.le_trans h.size k.size, fun i hi hne => (k.block i (Nat.lt_of_lt_of_le hi h.size) (fun e => by have := hv i e.symm; omega)).trans (h.block i hi hne)⟩

/-- The items behind the first so many, as the language's own part of a slice. -/
theorem its_from {w : World} {lo : Nat} {A : Option Addr} {n c : Nat} {Q : List It} (h : IRow w lo (.slice A n c) Q) (k : Nat) (hk : k ≤ n) : Its w (.slice (if c = k then A else Option.map (fun x => x.add (k * 2)) A) (n - k) (c - k)) (Q.drop k) := by
  have e := irow_len h
  have r := irow_cap h
  have hm := (irow_its h).1
  subst e
  have hl : (Q.drop k).length = Q.length - k := List.length_drop
  refine ⟨by rw [hl]; omega, _, _, by rw [hl], fun h0 => ?_⟩
  rw [hl] at h0
  obtain ⟨g, rfl, _⟩ := irow_block h (by omega)
  refine ⟨⟨g, k * 2, none⟩, by rw [if_neg (by omega)]; simp [Addr.add_lit], fun i hi => ?_⟩
  rw [hl] at hi
  have q := irow_at h (k + i) (by omega)
  rw [List.getElem_drop]
  rw [show (⟨g, k * 2, none⟩ : Addr).add (i * 2) = ⟨g, (k + i) * 2, none⟩ by rw [Addr.add_lit]; congr 1; omega]
  exact q

/-- What drawn items leave, whether they fit or not. -/
def AnyDrew (w : World) (b : Nat) (a : Option Addr) (len cap : Nat) (zs : List Int) (N : Nat) (e : Ending) (w' : World) : Prop :=
  ∃ A n c Q, e = .returned (.slice A n c) ∧ IRow w' w.heap.size (.slice A n c) Q ∧ Q.length ≤ 100 ∧ Src w' b a len cap zs N ∧ w.grownBy w' (some b)

set_option maxRecDepth 100000 in
set_option maxHeartbeats 8000000 in
theorem any_drew (b : Nat) (a : Option Addr) (len cap : Nat) (zs : List Int) (w : World) (h : Src w b a len cap zs 0) :
    Calls Try.prog 67 #[.pointer (some ⟨b, 0, none⟩)] w (AnyDrew w b a len cap zs 20000) := by
  have hb0 := src_lt h
  have HA := Lib.hid (src_code_lt h)
  have H := Lib.hid h
  clear h
  go_enter Try.func67, Try.ntmps67
  go_wp2_with fail
  refine (items_drew _ _ _ _ _ _ _ H.out (by omega)).mono ?_
  rintro e w1 ⟨v1, Q, rfl, hr, -, L1, hs, hg⟩
  obtain ⟨A, n, c, rfl⟩ := irow_form hr
  have R1 := hr
  have G1 := hg
  have S1 := hs
  have ln : n ≤ 60 := by have := irow_len hr; omega
  have li : IntKind.i64.wrap ((n : Int) + 1) = (n : Int) + 1 := IntWalk.i64_in _ (by omega)
  clear hr hs hg
  go_wp2_with fail
  refine (next_upto _ _ _ _ _ _ _ _ S1 (by unfold Few; omega) (by omega) (by omega)).mono ?_
  rintro e w2 ⟨k, ⟨k0, k1⟩, rfl, hs, hg⟩
  have R2 := irow_gb hg R1 hb0
  have G2 := grown_trans G1 hg
  have S2 := hs
  clear hs hg R1 G1 S1
  obtain ⟨k, rfl⟩ := Int.eq_ofNat_of_zero_le k0
  go_wp2_with fail
  refine (next_small _ _ _ _ _ _ _ _ S2 (by unfold Few; omega) (by omega) (by omega)).mono ?_
  rintro e w3 ⟨v8, ⟨l8, u8⟩, rfl, hs, hg⟩
  have R := irow_gb hg R2 hb0
  have G := grown_trans G2 hg
  have S := hs
  have zz : w.heap.size ≤ w3.heap.size := G.size
  have LQ : Q.length ≤ 100 := by omega
  clear hs hg R2 G2 S2
  rcases (by omega : v8 = 0 ∨ v8 = 1 ∨ v8 = 2 ∨ v8 = 3 ∨ (v8 ≠ 0 ∧ v8 ≠ 1 ∧ v8 ≠ 2 ∧ v8 ≠ 3)) with rfl | rfl | rfl | rfl | ⟨n0, n1, n2, n3⟩
  · have RM := irow_cap R
    have LE := irow_len R
    have h0 : (0 : Int) ≤ (k : Int) := by omega
    have s1 : (k : Int) ≤ (c : Int) := by omega
    have s2 : (k : Int) ≤ (n : Int) := by omega
    have IT1 := Lib.hid (fun W (B : w3.grownBy W (some b)) => prow_its (prow_cut (irow_prow (irow_gb B R hb0)) (show k ≤ Q.length by omega)))
    have LT := Lib.hid (show (Q.take k).length = k from by rw [List.length_take]; omega)
    have LD := Lib.hid (show (Q.drop k).length = Q.length - k from by rw [List.length_drop])
    have OWE := Lib.hid (irow_empty w3 (Nat.le_refl _))
    have hb3 : b < w3.heap.size := by omega
    have HA3 := Lib.hid (fun x (h1 : a = some x) (h2 : 0 < cap) => Nat.lt_of_lt_of_le (HA.out x h1 h2) zz)
    have HR := Lib.hid R
    have HS := Lib.hid S
    have HG := Lib.hid G
    have HL := Lib.hid LE
    have HF := Lib.hid (fun W (B : w3.grownBy W (some b)) => its_from (irow_gb B R hb0) k (by omega))
    clear R S G LE RM
    go_upto_region 5 with fail
    go_region_law (first
        | (refine step_next rfl (.tmp 22) _ _ rfl (.pointer (some ⟨b, 0, none⟩)) (.int .i64 11) rfl rfl (next_small b a len cap zs _ 11 _ (src_lo HS.out hb3 HA3.out (by repeat (first | with_reducible exact B4 | with_reducible exact Below.refl _ _ | with_reducible refine below_alloc ?_ _ | with_reducible refine Below.drew ?_))) (by unfold Few; omega) (by omega) (by omega)) ?_
           rintro e mc ⟨vc, ⟨lc, uc⟩, rfl, hsc, hgc⟩
           refine ⟨_, rfl, ?_⟩
           have KC : w3.grownBy mc (some b) := grown_trans (gb_of_lo (World.grownBy.refl w3 _) (by repeat (first | with_reducible exact B4 | with_reducible exact Below.refl _ _ | with_reducible refine below_alloc ?_ _ | with_reducible refine Below.drew ?_))) hgc
           have zc : w3.heap.size ≤ mc.heap.size := KC.size
           have BC : Below w3.heap.size mc mc := Below.refl _ _
           have lv : IntKind.i64.wrap (3 + vc) = 3 + vc := IntWalk.i64_in _ (by omega)
           try (have hr4 := irow_gb hgc (irow_keep hr4 (fun _ _ => rfl)) hb3)
           try (have OW := irow_gb hgc (irow_keep OWE.out (fun _ _ => rfl)) hb3)
           clear hgc)
        | (refine step_append_items (w := (w3.alloc (.cells #[] 94)).drew) rfl (.tmp 17) (.tmp 20) rfl rfl w3.heap.size (.slice (some ⟨w3.heap.size, 0, none⟩) 0 0) [] rfl (show IRow _ w3.heap.size _ [] from irow_keep OWE.out (fun _ _ => rfl)) (.slice A k c) (Q.take k) rfl (IT1.out _ (by repeat (first | with_reducible exact K5 | with_reducible exact K4 | with_reducible exact KC | with_reducible exact World.grownBy.refl _ _ | with_reducible refine gb_alloc ?_ _ | with_reducible refine gb_drew ?_))) (by have := LT.out; simp; omega) (by first | omega | (simp [World.drew]; done) | (simp [World.drew]; omega)) ?_
           intro v4 m4 hr4 hg4 hat4
           obtain ⟨A4, n4, c4, rfl⟩ := irow_form hr4
           have K4 : w3.grownBy m4 (some b) := gb_own (by repeat (first | with_reducible exact K5 | with_reducible exact K4 | with_reducible exact KC | with_reducible exact World.grownBy.refl _ _ | with_reducible refine gb_alloc ?_ _ | with_reducible refine gb_drew ?_)) hg4 (fun g hg => (irow_lt (show IRow _ w3.heap.size _ [] from irow_keep OWE.out (fun _ _ => rfl)) g hg).1)
           have z4 : w3.heap.size ≤ m4.heap.size := K4.size
           have B4 : Below w3.heap.size w3 m4 := Below.grown (by repeat (first | with_reducible exact B4 | with_reducible exact Below.refl _ _ | with_reducible refine below_alloc ?_ _ | with_reducible refine Below.drew ?_)) hg4 (by first | omega | (simp [World.drew]; done) | (simp [World.drew]; omega)) (fun g hg => (irow_lt (show IRow _ w3.heap.size _ [] from irow_keep OWE.out (fun _ _ => rfl)) g hg).1)
           clear hat4 hg4)
        | (refine step_append_items (w := mc) rfl (.tmp 17) (.tmp 20) rfl rfl w3.heap.size (.slice (some ⟨w3.heap.size, 0, none⟩) 0 0) [] rfl (show IRow _ w3.heap.size _ [] from OW) (.slice A k c) (Q.take k) rfl (IT1.out _ (by repeat (first | with_reducible exact K5 | with_reducible exact K4 | with_reducible exact KC | with_reducible exact World.grownBy.refl _ _ | with_reducible refine gb_alloc ?_ _ | with_reducible refine gb_drew ?_))) (by have := LT.out; simp; omega) (by first | omega | (simp [World.drew]; done) | (simp [World.drew]; omega)) ?_
           intro v4 m4 hr4 hg4 hat4
           obtain ⟨A4, n4, c4, rfl⟩ := irow_form hr4
           have K4 : w3.grownBy m4 (some b) := gb_own (by repeat (first | with_reducible exact K5 | with_reducible exact K4 | with_reducible exact KC | with_reducible exact World.grownBy.refl _ _ | with_reducible refine gb_alloc ?_ _ | with_reducible refine gb_drew ?_)) hg4 (fun g hg => (irow_lt (show IRow _ w3.heap.size _ [] from OW) g hg).1)
           have z4 : w3.heap.size ≤ m4.heap.size := K4.size
           have BC4 : Below w3.heap.size mc m4 := Below.grown (by repeat (first | with_reducible exact BC5 | with_reducible exact BC4 | with_reducible exact BC | with_reducible refine Below.alloc ?_ (by first | omega | (simp; done) | (simp; omega)) _ | with_reducible refine Below.drew ?_)) hg4 (by first | omega | (simp [World.drew]; done) | (simp [World.drew]; omega)) (fun g hg => (irow_lt (show IRow _ w3.heap.size _ [] from OW) g hg).1)
           clear hat4 hg4)
        | (refine step_append_items (w := mc.alloc (.cells #[] 94)) rfl (.tmp 17) (.tmp 20) rfl rfl w3.heap.size (.slice (some ⟨mc.heap.size, 0, none⟩) 0 0) [] rfl (show IRow _ w3.heap.size _ [] from irow_empty mc zc) (.slice A k c) (Q.take k) rfl (IT1.out _ (by repeat (first | with_reducible exact K5 | with_reducible exact K4 | with_reducible exact KC | with_reducible exact World.grownBy.refl _ _ | with_reducible refine gb_alloc ?_ _ | with_reducible refine gb_drew ?_))) (by have := LT.out; simp; omega) (by first | omega | (simp [World.drew]; done) | (simp [World.drew]; omega)) ?_
           intro v4 m4 hr4 hg4 hat4
           obtain ⟨A4, n4, c4, rfl⟩ := irow_form hr4
           have K4 : w3.grownBy m4 (some b) := gb_own (by repeat (first | with_reducible exact K5 | with_reducible exact K4 | with_reducible exact KC | with_reducible exact World.grownBy.refl _ _ | with_reducible refine gb_alloc ?_ _ | with_reducible refine gb_drew ?_)) hg4 (fun g hg => (irow_lt (show IRow _ w3.heap.size _ [] from irow_empty mc zc) g hg).1)
           have z4 : w3.heap.size ≤ m4.heap.size := K4.size
           have BC4 : Below w3.heap.size mc m4 := Below.grown (by repeat (first | with_reducible exact BC5 | with_reducible exact BC4 | with_reducible exact BC | with_reducible refine Below.alloc ?_ (by first | omega | (simp; done) | (simp; omega)) _ | with_reducible refine Below.drew ?_)) hg4 (by first | omega | (simp [World.drew]; done) | (simp [World.drew]; omega)) (fun g hg => (irow_lt (show IRow _ w3.heap.size _ [] from irow_empty mc zc) g hg).1)
           clear hat4 hg4)
        | (refine step_append_items (w := mc.alloc (.cells #[.int .i64 (3 + vc), .int .i64 0] 94)) rfl (.tmp 17) (.tmp 20) rfl rfl w3.heap.size (.slice (some ⟨w3.heap.size, 0, none⟩) 0 0) [] rfl (show IRow _ w3.heap.size _ [] from irow_alloc OW _) (.slice A k c) (Q.take k) rfl (IT1.out _ (by repeat (first | with_reducible exact K5 | with_reducible exact K4 | with_reducible exact KC | with_reducible exact World.grownBy.refl _ _ | with_reducible refine gb_alloc ?_ _ | with_reducible refine gb_drew ?_))) (by have := LT.out; simp; omega) (by first | omega | (simp [World.drew]; done) | (simp [World.drew]; omega)) ?_
           intro v4 m4 hr4 hg4 hat4
           obtain ⟨A4, n4, c4, rfl⟩ := irow_form hr4
           have K4 : w3.grownBy m4 (some b) := gb_own (by repeat (first | with_reducible exact K5 | with_reducible exact K4 | with_reducible exact KC | with_reducible exact World.grownBy.refl _ _ | with_reducible refine gb_alloc ?_ _ | with_reducible refine gb_drew ?_)) hg4 (fun g hg => (irow_lt (show IRow _ w3.heap.size _ [] from irow_alloc OW _) g hg).1)
           have z4 : w3.heap.size ≤ m4.heap.size := K4.size
           have BC4 : Below w3.heap.size mc m4 := Below.grown (by repeat (first | with_reducible exact BC5 | with_reducible exact BC4 | with_reducible exact BC | with_reducible refine Below.alloc ?_ (by first | omega | (simp; done) | (simp; omega)) _ | with_reducible refine Below.drew ?_)) hg4 (by first | omega | (simp [World.drew]; done) | (simp [World.drew]; omega)) (fun g hg => (irow_lt (show IRow _ w3.heap.size _ [] from irow_alloc OW _) g hg).1)
           have IL : Its m4 (.slice (some ⟨mc.heap.size, 0, none⟩) 1 1) [⟨3 + vc, 0⟩] := irow_its (irow_keep (irow_one mc ⟨3 + vc, 0⟩) (fun g hg => by simp [Value.ownBlock] at hg; subst hg; exact hg4.block _ (by simp [World.drew] <;> omega) (by simp [Value.ownBlock] <;> omega)))
           clear hat4 hg4)
        | (refine step_append_items (w := (mc.alloc (.cells #[] 94)).alloc (.cells #[.int .i64 (3 + vc), .int .i64 0] 94)) rfl (.tmp 17) (.tmp 20) rfl rfl w3.heap.size (.slice (some ⟨mc.heap.size, 0, none⟩) 0 0) [] rfl (show IRow _ w3.heap.size _ [] from irow_alloc (irow_empty mc zc) _) (.slice A k c) (Q.take k) rfl (IT1.out _ (by repeat (first | with_reducible exact K5 | with_reducible exact K4 | with_reducible exact KC | with_reducible exact World.grownBy.refl _ _ | with_reducible refine gb_alloc ?_ _ | with_reducible refine gb_drew ?_))) (by have := LT.out; simp; omega) (by first | omega | (simp [World.drew]; done) | (simp [World.drew]; omega)) ?_
           intro v4 m4 hr4 hg4 hat4
           obtain ⟨A4, n4, c4, rfl⟩ := irow_form hr4
           have K4 : w3.grownBy m4 (some b) := gb_own (by repeat (first | with_reducible exact K5 | with_reducible exact K4 | with_reducible exact KC | with_reducible exact World.grownBy.refl _ _ | with_reducible refine gb_alloc ?_ _ | with_reducible refine gb_drew ?_)) hg4 (fun g hg => (irow_lt (show IRow _ w3.heap.size _ [] from irow_alloc (irow_empty mc zc) _) g hg).1)
           have z4 : w3.heap.size ≤ m4.heap.size := K4.size
           have BC4 : Below w3.heap.size mc m4 := Below.grown (by repeat (first | with_reducible exact BC5 | with_reducible exact BC4 | with_reducible exact BC | with_reducible refine Below.alloc ?_ (by first | omega | (simp; done) | (simp; omega)) _ | with_reducible refine Below.drew ?_)) hg4 (by first | omega | (simp [World.drew]; done) | (simp [World.drew]; omega)) (fun g hg => (irow_lt (show IRow _ w3.heap.size _ [] from irow_alloc (irow_empty mc zc) _) g hg).1)
           have IL : Its m4 (.slice (some ⟨mc.heap.size + 1, 0, none⟩) 1 1) [⟨3 + vc, 0⟩] := irow_its (irow_keep (irow_oneG (w := mc.alloc (.cells #[] 94)) (g := mc.heap.size + 1) ⟨3 + vc, 0⟩ (by simp)) (fun g hg => by simp [Value.ownBlock] at hg; subst hg; exact hg4.block _ (by simp [World.drew] <;> omega) (by simp [Value.ownBlock] <;> omega)))
           clear hat4 hg4)
        | (refine step_append_items (w := (mc.alloc (.cells #[.int .i64 (3 + vc), .int .i64 0] 94)).alloc (.cells #[] 94)) rfl (.tmp 17) (.tmp 20) rfl rfl w3.heap.size (.slice (some ⟨mc.heap.size + 1, 0, none⟩) 0 0) [] rfl (show IRow _ w3.heap.size _ [] from irow_emptyG (w := mc.alloc (.cells #[.int .i64 (3 + vc), .int .i64 0] 94)) (g := mc.heap.size + 1) (base := w3.heap.size) (by simp) (by simp; omega)) (.slice A k c) (Q.take k) rfl (IT1.out _ (by repeat (first | with_reducible exact K5 | with_reducible exact K4 | with_reducible exact KC | with_reducible exact World.grownBy.refl _ _ | with_reducible refine gb_alloc ?_ _ | with_reducible refine gb_drew ?_))) (by have := LT.out; simp; omega) (by first | omega | (simp [World.drew]; done) | (simp [World.drew]; omega)) ?_
           intro v4 m4 hr4 hg4 hat4
           obtain ⟨A4, n4, c4, rfl⟩ := irow_form hr4
           have K4 : w3.grownBy m4 (some b) := gb_own (by repeat (first | with_reducible exact K5 | with_reducible exact K4 | with_reducible exact KC | with_reducible exact World.grownBy.refl _ _ | with_reducible refine gb_alloc ?_ _ | with_reducible refine gb_drew ?_)) hg4 (fun g hg => (irow_lt (show IRow _ w3.heap.size _ [] from irow_emptyG (w := mc.alloc (.cells #[.int .i64 (3 + vc), .int .i64 0] 94)) (g := mc.heap.size + 1) (base := w3.heap.size) (by simp) (by simp; omega)) g hg).1)
           have z4 : w3.heap.size ≤ m4.heap.size := K4.size
           have BC4 : Below w3.heap.size mc m4 := Below.grown (by repeat (first | with_reducible exact BC5 | with_reducible exact BC4 | with_reducible exact BC | with_reducible refine Below.alloc ?_ (by first | omega | (simp; done) | (simp; omega)) _ | with_reducible refine Below.drew ?_)) hg4 (by first | omega | (simp [World.drew]; done) | (simp [World.drew]; omega)) (fun g hg => (irow_lt (show IRow _ w3.heap.size _ [] from irow_emptyG (w := mc.alloc (.cells #[.int .i64 (3 + vc), .int .i64 0] 94)) (g := mc.heap.size + 1) (base := w3.heap.size) (by simp) (by simp; omega)) g hg).1)
           have IL : Its m4 (.slice (some ⟨mc.heap.size, 0, none⟩) 1 1) [⟨3 + vc, 0⟩] := irow_its (irow_keep (irow_alloc (irow_one mc ⟨3 + vc, 0⟩) _) (fun g hg => by simp [Value.ownBlock] at hg; subst hg; exact hg4.block _ (by simp [World.drew] <;> omega) (by simp [Value.ownBlock] <;> omega)))
           clear hat4 hg4)
        | (refine step_append_items (w := _) rfl (.tmp 21) (.tmp 26) rfl rfl w3.heap.size (.slice A4 n4 c4) ([] ++ Q.take k) rfl (show IRow _ w3.heap.size _ _ from irow_alloc hr4 _) _ [⟨3 + vc, 0⟩] rfl (its_lit ⟨3 + vc, 0⟩ (by simp)) (by have := LT.out; simp; omega) (by first | omega | (simp [World.drew]; done) | (simp [World.drew]; omega)) ?_
           intro v5 m5 hr5 hg5 hat5
           obtain ⟨A5, n5, c5, rfl⟩ := irow_form hr5
           have K5 : w3.grownBy m5 (some b) := gb_own (by repeat (first | with_reducible exact K5 | with_reducible exact K4 | with_reducible exact KC | with_reducible exact World.grownBy.refl _ _ | with_reducible refine gb_alloc ?_ _ | with_reducible refine gb_drew ?_)) hg5 (fun g hg => (irow_lt hr4 g hg).1)
           have z5 : w3.heap.size ≤ m5.heap.size := K5.size
           have BC5 : Below w3.heap.size mc m5 := Below.grown (by repeat (first | with_reducible exact BC5 | with_reducible exact BC4 | with_reducible exact BC | with_reducible refine Below.alloc ?_ (by first | omega | (simp; done) | (simp; omega)) _ | with_reducible refine Below.drew ?_)) hg5 (by first | omega | (simp [World.drew]; done) | (simp [World.drew]; omega)) (fun g hg => (irow_lt hr4 g hg).1)
           clear hat5 hg5)
        | (refine step_append_items (w := _) rfl (.tmp 21) (.tmp 26) rfl rfl w3.heap.size (.slice A4 n4 c4) ([] ++ Q.take k) rfl hr4 _ [⟨3 + vc, 0⟩] rfl IL (by have := LT.out; simp; omega) (by first | omega | (simp [World.drew]; done) | (simp [World.drew]; omega)) ?_
           intro v5 m5 hr5 hg5 hat5
           obtain ⟨A5, n5, c5, rfl⟩ := irow_form hr5
           have K5 : w3.grownBy m5 (some b) := gb_own (by repeat (first | with_reducible exact K5 | with_reducible exact K4 | with_reducible exact KC | with_reducible exact World.grownBy.refl _ _ | with_reducible refine gb_alloc ?_ _ | with_reducible refine gb_drew ?_)) hg5 (fun g hg => (irow_lt hr4 g hg).1)
           have z5 : w3.heap.size ≤ m5.heap.size := K5.size
           have BC5 : Below w3.heap.size mc m5 := Below.grown (by repeat (first | with_reducible exact BC5 | with_reducible exact BC4 | with_reducible exact BC | with_reducible refine Below.alloc ?_ (by first | omega | (simp; done) | (simp; omega)) _ | with_reducible refine Below.drew ?_)) hg5 (by first | omega | (simp [World.drew]; done) | (simp [World.drew]; omega)) (fun g hg => (irow_lt hr4 g hg).1)
           clear hat5 hg5)
        | (refine step_append_items (w := m5) rfl (.tmp 27) (.tmp 30) rfl rfl w3.heap.size (.slice A5 n5 c5) ([] ++ Q.take k ++ [⟨3 + vc, 0⟩]) rfl hr5 (.slice (if c = k then A else Option.map (fun x => x.add (k * 2)) A) (n - k) (c - k)) (Q.drop k) rfl (HF.out m5 K5) (by have := LT.out; have := LD.out; simp; omega) z5 ?_
           intro v6 m6 hr6 hg6 hat6
           obtain ⟨A6, n6, c6, rfl⟩ := irow_form hr6
           have BX : Below w3.heap.size mc m6 := Below.grown BC5 hg6 z5 (fun g hg => (irow_lt hr5 g hg).1)
           have S6 := Lib.hid (src_lo hsc hb3 HA3.out BX)
           have G6 := Lib.hid (grown_trans HG.out (gb_own K5 hg6 (fun g hg => (irow_lt hr5 g hg).1)))
           have R6 := Lib.hid (irow_base (prow_irow hr6) zz)
           have L6 : ([] ++ Q.take k ++ [(⟨3 + vc, 0⟩ : It)] ++ Q.drop k).length ≤ 61 := (by have := LT.out; have := LD.out; have := HL.out; simp only [List.nil_append, List.length_append, List.length_drop, List.length_cons, List.length_nil]; omega)
           have hm6 : m6.heap.size = m6.heap.size := rfl
           clear BX hg6 hat6))
    all_goals
      have R := R6.out
      have S := S6.out
      have G := G6.out
      generalize ([] ++ Q.take k ++ [(⟨3 + vc, 0⟩ : It)] ++ Q.drop k) = Q6 at *
      clear R6 S6 G6 hr6 hr5 hr4
      have LE := Lib.hid (irow_len R)
      have RM := irow_cap R
      by_cases h60 : (60 : Int) < (n6 : Int)
      · go_wp2_with fail
        all_goals
          refine (chance_i _ _ _ _ _ _ _ _ S (by unfold Few; omega) (by omega) (by omega)).mono ?_
          rintro e wz ⟨y, rfl, hs, hg⟩
          have RZ := irow_gb hg R hb0
          have GZ := grown_trans G hg
          have s60 : (60 : Int) ≤ (c6 : Int) := by omega
          cases y
          · go_wp2
            go_ret
            exact ⟨_, _, _, Q6.take 60, rfl, prow_cut RZ (by have := LE.out; omega), by rw [List.length_take]; omega, src_mono hs (by omega), GZ⟩
          · go_wp2
            go_ret
            exact ⟨_, _, _, Q6, rfl, RZ, by omega, src_mono hs (by omega), GZ⟩
      · go_wp2
        all_goals go_ret
        all_goals exact ⟨_, _, _, Q6, rfl, R, by omega, src_mono S (by omega), G⟩
  · by_cases hk : (k : Int) < (n : Int)
    · have RM := irow_cap R
      have LE := irow_len R
      have h0 : (0 : Int) ≤ (k : Int) := by omega
      have s1 : (k : Int) ≤ (c : Int) := by omega
      have s2 : (k : Int) + 1 ≤ (n : Int) := by omega
      have s3 : (0 : Int) ≤ (k : Int) + 1 := by omega
      have la : IntKind.i64.wrap ((k : Int) + 1) = (k : Int) + 1 := IntWalk.i64_in _ (by omega)
      have OWN := Lib.hid (show PRow 94 ((w3.alloc (.cells #[] 94)).drew) w.heap.size (.slice (some ⟨w3.heap.size, 0, none⟩) 0 0) [] from irow_keep (irow_empty w3 zz) (fun g _ => rfl))
      have IT1 := Lib.hid (show Its ((w3.alloc (.cells #[] 94)).drew) (.slice A k c) (Q.take k) from its_below (prow_its (prow_cut R (by omega))) (below_alloc (Below.refl _ _) _).drew)
      have LT := Lib.hid (show (Q.take k).length = k from by rw [List.length_take]; omega)
      have LD := Lib.hid (show (Q.drop (k + 1)).length ≤ 60 from by rw [List.length_drop]; omega)
      have HR := Lib.hid R
      have HS := Lib.hid S
      have HG := Lib.hid G
      have HL := Lib.hid LE
      have HF := Lib.hid (fun W (B : Below w3.heap.size w3 W) => its_below (its_from R (k + 1) (by omega)) B)
      clear R S G LE
      go_upto_region 8 with fail
      go_region_law (first
        | (refine step_append_items (w := (w3.alloc (.cells #[] 94)).drew) rfl (.tmp 38) (.tmp 41) rfl rfl w.heap.size (.slice (some ⟨w3.heap.size, 0, none⟩) 0 0) [] rfl OWN.out (.slice A k c) (Q.take k) rfl IT1.out (by have := LT.out; simp; omega) (by simp [World.drew]; omega) ?_
           intro v4 m4 hr4 hg4 hat4
           obtain ⟨A4, n4, c4, rfl⟩ := irow_form hr4
           have B4 : Below w3.heap.size w3 m4 := Below.grown (below_alloc (Below.refl _ _) _).drew hg4 (by simp [World.drew]) (fun g hg => by simp [Value.ownBlock] at hg; omega)
           have z4 : w.heap.size ≤ m4.heap.size := Nat.le_trans zz B4.size
           clear hat4 hg4)
        | (refine step_append_items (w := m4) rfl (.tmp 42) (.tmp 46) rfl rfl w.heap.size (.slice A4 n4 c4) ([] ++ Q.take k) rfl hr4 (.slice (if c = k + 1 then A else Option.map (fun x => x.add ((k + 1) * 2)) A) (n - (k + 1)) (c - (k + 1))) (Q.drop (k + 1)) rfl (HF.out m4 B4) (by have := LT.out; have := LD.out; simp; omega) z4 ?_
           intro v5 m5 hr5 hg5 hat5
           obtain ⟨A5, n5, c5, rfl⟩ := irow_form hr5
           have BX : Below w.heap.size w3 m5 := Below.grown (B4.mono zz) hg5 z4 (fun g hg => (irow_lt hr4 g hg).1)
           have S5 := Lib.hid (src_lo HS.out hb0 HA.out BX)
           have G5 := Lib.hid (gb_of_lo HG.out BX)
           have L5 : ([] ++ Q.take k ++ Q.drop (k + 1)).length ≤ 60 := (by have := LT.out; have := HL.out; simp only [List.nil_append, List.length_append, List.length_drop]; omega)
           have n60 : ¬ (60 : Int) < (n5 : Int) := (by have := irow_len hr5; omega)
           clear BX hg5 hat5))
      all_goals go_wp2
      all_goals go_ret
      all_goals exact ⟨_, _, _, _, rfl, hr5, Nat.le_trans L5 (by omega), src_mono S5.out (by omega), G5.out⟩
    · have h60 : ¬ (60 : Int) < (n : Int) := by omega
      go_wp2
      go_ret
      exact ⟨_, _, _, Q, rfl, R, LQ, src_mono S (by omega), G⟩
  · by_cases hk : (k : Int) < (n : Int)
    · obtain ⟨g, rfl, hg0, hg1⟩ := irow_block R (by omega)
      go_wp2_with fail
      refine (next_small _ _ _ _ _ _ _ _ S (by unfold Few; omega) (by omega) (by omega)).mono ?_
      rintro e w4 ⟨v4, ⟨l4, u4⟩, rfl, hs, hg⟩
      have R4 := irow_gb hg R hb0
      have G4 := grown_trans G hg
      have S4 := hs
      clear hs hg R G S
      go_wp2_with fail
      refine (next_small _ _ _ _ _ _ _ _ S4 (by unfold Few; omega) (by omega) (by omega)).mono ?_
      rintro e w5 ⟨v5, ⟨l5, u5⟩, rfl, hs, hg⟩
      have R5 := irow_gb hg R4 hb0
      have G5 := grown_trans G4 hg
      have S5 := hs
      have z5 : w.heap.size ≤ w5.heap.size := G5.size
      clear hs hg R4 G4 S4
      have e5 := irow_len R5
      have kq : k < Q.length := by omega
      obtain ⟨q0, q1⟩ := irow_at (show IRow w5 w.heap.size (.slice (some ⟨g, 0, none⟩) Q.length c) Q by rw [← e5]; exact R5) k kq
      have R6 : IRow (set2 w5 g k ⟨v4, v5⟩) w.heap.size (.slice (some ⟨g, 0, none⟩) n c) (Q.set k ⟨v4, v5⟩) := by
        have := irow_set (show IRow w5 w.heap.size (.slice (some ⟨g, 0, none⟩) Q.length c) Q by rw [← e5]; exact R5) k kq ⟨v4, v5⟩
        rw [e5]; exact this
      have f0 := irow_free R5
      have B6 : Below w.heap.size w5 (set2 w5 g k ⟨v4, v5⟩) := below_set2 (Below.refl _ _) hg0 k _
      have S6 := src_lo S5 hb0 HA.out B6
      have G6 := gb_of_lo G5 B6
      have LQ6 : (Q.set k (⟨v4, v5⟩ : It)).length ≤ 100 := by rw [List.length_set]; exact LQ
      unfold set2 at R6 S6 G6
      have HR6 := Lib.hid R6
      have HS6 := Lib.hid S6
      have HG6 := Lib.hid G6
      have RM := irow_cap R5
      clear R5 S5 G5 R6 S6 G6 B6 e5
      have LE := Lib.hid (irow_len HR6.out)
      by_cases h60 : (60 : Int) < (n : Int)
      · omega
      · go_wp2
        go_ret
        exact ⟨_, _, _, Q.set k ⟨v4, v5⟩, rfl, HR6.out, LQ6, src_mono HS6.out (by omega), HG6.out⟩
    · have h60 : ¬ (60 : Int) < (n : Int) := by omega
      go_wp2
      go_ret
      exact ⟨_, _, _, Q, rfl, R, LQ, src_mono S (by omega), G⟩
  · have LQ60 : Q.length ≤ 60 := by have := irow_len R; omega
    go_wp2
    go_loopw [3, 5] (fun o i wr => ∃ (j : Nat) (A' : Option Addr) (n' c' : Nat) (Q' : List It), j ≤ 9 ∧ i = .int .i64 j ∧ o = .slice A' n' c' ∧ IRow wr w.heap.size (.slice A' n' c') Q' ∧ Q'.length ≤ 60 + 2 * j ∧ Src wr b a len cap zs (11010 + 2 * j) ∧ w.grownBy wr (some b)) (fun _ i _ => 9 - (intOf i).toNat)
    case atStart => exact ⟨0, _, _, _, Q, by omega, rfl, rfl, R, by omega, src_mono S (by omega), G⟩
    case round =>
      clear R S G zz
      obtain ⟨j, A', n', c', Q', hj, rfl, rfl, R, LJ, S, G⟩ := hrel
      have zz : w.heap.size ≤ wr.heap.size := G.size
      go_wp2_with fail
      refine (next_small _ _ _ _ _ _ _ _ S (by unfold Few; omega) (by omega) (by omega)).mono ?_
      rintro e w4 ⟨v4, ⟨l4, u4⟩, rfl, hs, hg⟩
      have R4 := irow_gb hg R hb0
      have G4 := grown_trans G hg
      have S4 := hs
      have z4 : w.heap.size ≤ w4.heap.size := G4.size
      have la : IntKind.i64.wrap (7 + v4) = 7 + v4 := IntWalk.i64_in _ (by omega)
      clear hs hg R G S
      by_cases hlt : (j : Int) < 7 + v4
      · go_wp2_with fail
        refine (item1_any 3 _).mono ?_
        rintro e w5 ⟨v5, rfl, hr, hbb⟩
        obtain ⟨A5, n5, c5, rfl⟩ := irow_form hr
        have R5 := irow_below R4 hbb
        have BX := hbb.mono z4
        have S5 := src_lo S4 hb0 HA.out BX
        have G5 := gb_of_lo G4 BX
        have z5 : w.heap.size ≤ w5.heap.size := G5.size
        have V5 : IRow w5 w.heap.size (.slice A5 n5 c5) [⟨3, 0⟩] := irow_base hr z4
        clear hbb BX hr R4 S4 G4
        go_wp2_with (first | (at_builtin; refine wpList_append_items rfl (.tmp 71) (.tmp 72) rfl rfl w.heap.size _ [⟨3, 0⟩] V5 _ Q' (irow_its R5) rfl rfl (by simp; omega) z5 ?_; intro v6 w6 hr6 hgr hat; obtain ⟨A6, n6, c6, rfl⟩ := irow_form hr6; have BX : Below w.heap.size w5 w6 := Below.grown (Below.refl _ _) hgr z5 (fun g hg => (irow_lt V5 g hg).1); have S6 := src_lo S5 hb0 HA.out BX; have G6 := gb_of_lo G5 BX; have z6 : w.heap.size ≤ w6.heap.size := G6.size; clear BX hgr hat) | fail)
        have L6 : ([⟨3, 0⟩] ++ Q' : List It).length ≤ 61 + 2 * j := by simp; omega
        generalize ([⟨3, 0⟩] ++ Q' : List It) = Q6 at *
        refine (chance_i _ _ _ _ _ _ _ _ S6 (by unfold Few; omega) (by omega) (by omega)).mono ?_
        rintro e w7 ⟨y, rfl, hs, hg⟩
        have R7 := irow_gb hg hr6 hb0
        have G7 := grown_trans G6 hg
        have S7 := hs
        have z7 : w.heap.size ≤ w7.heap.size := G7.size
        clear hs hg hr6 G6 S6 V5 R5 S5 G5
        cases y
        · go_wp2
          go_roundw
          case rel => exact ⟨j + 1, _, _, _, Q6, by omega, by go_num, rfl, R7, by omega, src_mono S7 (by omega), G7⟩
          case measure => simp [intOf]; omega
        · go_wp2_with (first | (at_builtin; refine wpList_append_items rfl (.tmp 76) (.tmp 78) rfl rfl w.heap.size _ Q6 (irow_below R7 (by repeat (first | with_reducible exact Below.refl _ _ | with_reducible refine Below.setCell ?_ (by first | omega | (simp; done) | (simp; omega)) _ | with_reducible refine Below.alloc ?_ (by first | omega | (simp; done) | (simp; omega)) _))) _ [⟨5, 0⟩] (its_lit ⟨5, 0⟩ (by simp)) rfl rfl (by simp; omega) (by simp; omega) ?_; intro v8 w8 hr8 hgr hat; obtain ⟨A8, n8, c8, rfl⟩ := irow_form hr8; have BX : Below w.heap.size w7 w8 := Below.grown (by repeat (first | with_reducible exact Below.refl _ _ | with_reducible refine Below.setCell ?_ (by first | omega | (simp; done) | (simp; omega)) _ | with_reducible refine Below.alloc ?_ (by first | omega | (simp; done) | (simp; omega)) _)) hgr (by simp; omega) (fun g hg => (irow_lt R7 g hg).1); have S8 := src_lo S7 hb0 HA.out BX; have G8 := gb_of_lo G7 BX; clear BX hgr hat))
          have L8 : (Q6 ++ [(⟨5, 0⟩ : It)]).length ≤ 60 + 2 * (j + 1) := by simp; omega
          generalize (Q6 ++ [(⟨5, 0⟩ : It)]) = Q8 at *
          go_roundw
          case rel => exact ⟨j + 1, _, _, _, Q8, by omega, by go_num, rfl, hr8, L8, src_mono S8 (by omega), G8⟩
          case measure => simp [intOf]; omega
      · have R := R4
        have S := S4
        have G := G4
        have LQ : Q'.length ≤ 100 := by omega
        clear R4 S4 G4
        have LE := Lib.hid (irow_len R)
        have RM := irow_cap R
        by_cases h60 : (60 : Int) < (n' : Int)
        · go_wp2_with fail
          refine (chance_i _ _ _ _ _ _ _ _ S (by unfold Few; omega) (by omega) (by omega)).mono ?_
          rintro e wz ⟨y, rfl, hs, hg⟩
          have RZ := irow_gb hg R hb0
          have GZ := grown_trans G hg
          have s0 : (60 : Int) ≤ (c' : Int) := by omega
          cases y
          · go_wp2
            go_ret
            exact ⟨_, _, _, Q'.take 60, rfl, prow_cut RZ (by have := LE.out; omega), by rw [List.length_take]; omega, src_mono hs (by omega), GZ⟩
          · go_wp2
            go_ret
            exact ⟨_, _, _, Q', rfl, RZ, LQ, src_mono hs (by omega), GZ⟩
        · go_wp2
          go_ret
          exact ⟨_, _, _, Q', rfl, R, LQ, src_mono S (by omega), G⟩
  · have e0 : (v8 == 0) = false := by rw [beq_eq_false_iff_ne]; exact n0
    have e1 : (v8 == 1) = false := by rw [beq_eq_false_iff_ne]; exact n1
    have e2 : (v8 == 2) = false := by rw [beq_eq_false_iff_ne]; exact n2
    have e3 : (v8 == 3) = false := by rw [beq_eq_false_iff_ne]; exact n3
    clear n0 n1 n2 n3
    have h60 : ¬ (60 : Int) < (n : Int) := by omega
    go_wp2
    go_ret
    exact ⟨_, _, _, Q, rfl, R, LQ, src_mono S (by omega), G⟩

end Go.Proofs.Ytkcogfgjabemfaa

namespace Go.Proofs.Ytkcogfgjabemfaa
open Go.RowKit
set_option linter.unusedVariables false
set_option linter.unusedSimpArgs false

/-- What drawn items leave. -/
def DrawnI (w : World) (P : List It → Prop) (e : Ending) (w' : World) : Prop := ∃ A n c Q, e = .returned (.slice A n c) ∧ IRow w' w.heap.size (.slice A n c) Q ∧ P Q ∧ Below w.heap.size w w'

set_option maxRecDepth 100000 in
set_option maxHeartbeats 400000 in
theorem itemsDrawn_any (a : Option Addr) (len cap : Nat) (zs : List Int) (w : World) (h : BRow w a len cap zs) (hl : len ≤ 9223372036854775807) :
    Calls Try.prog 21 #[.slice a len cap] w (DrawnI w fun Q => Fits 2 Q ∧ Q.length ≤ 60) := by
  have S := Lib.hid (src_new h)
  clear h
  go_enter Try.func21, Try.ntmps21
  go_wp2_with fail
  refine (source_any _ _ _ _ hl).mono ?_
  rintro e w' ⟨rfl, rfl⟩
  go_wp2_with fail
  refine (items_drew _ _ _ _ _ _ _ S.out (by omega)).mono ?_
  rintro e w1 ⟨v, Q, rfl, hr, F1, L1, hs, hg⟩
  obtain ⟨A, n, c, rfl⟩ := irow_form hr
  have G := Lib.hid (below_newS _ hg)
  have R := Lib.hid (irow_base hr (show w.heap.size ≤ _ by simp))
  clear hs hg hr
  go_wp2
  go_ret
  exact ⟨_, _, _, Q, rfl, R.out, ⟨F1, L1⟩, G.out⟩

set_option maxRecDepth 100000 in
set_option maxHeartbeats 400000 in
theorem doubtItems_any (a : Option Addr) (len cap : Nat) (zs : List Int) (w : World) (h : BRow w a len cap zs) (hl : len ≤ 9223372036854775807) :
    Calls Try.prog 18 #[.slice a len cap] w (DrawnI w fun Q => Q.length ≤ 60) := by
  have S := Lib.hid (src_new h)
  clear h
  go_enter Try.func18, Try.ntmps18
  go_wp2_with fail
  refine (source_any _ _ _ _ hl).mono ?_
  rintro e w' ⟨rfl, rfl⟩
  go_wp2_with fail
  refine (any_drew _ _ _ _ _ _ S.out).mono ?_
  rintro e w1 ⟨A, n, c, Q, rfl, hr, L1, hs, hg⟩
  have G := Lib.hid (below_newS _ hg)
  have R := irow_base hr (show w.heap.size ≤ _ by simp)
  have RM := irow_cap R
  have LE := Lib.hid (irow_len R)
  have HR := Lib.hid R
  clear hs hg hr R
  by_cases h60 : n ≤ 60
  · have e1 : min (n : Int) 60 = (n : Int) := by omega
    have s1 : (n : Int) ≤ (c : Int) := by omega
    have s0 : (0 : Int) ≤ (n : Int) := by omega
    go_wp2
    go_ret
    exact ⟨_, _, _, Q, rfl, HR.out, by have := LE.out; omega, G.out⟩
  · have e1 : min (n : Int) 60 = 60 := by omega
    have s1 : (60 : Int) ≤ (c : Int) := by omega
    go_wp2
    go_ret
    exact ⟨_, _, _, Q.take 60, rfl, prow_cut HR.out (by have := LE.out; omega), by show (Q.take 60).length ≤ 60; rw [List.length_take]; omega, G.out⟩

set_option maxRecDepth 100000 in
set_option maxHeartbeats 400000 in
theorem at_one (a : Option Addr) (len cap : Nat) (w : World) : Calls Try.prog 23 #[.slice a len cap, .int .i64 0, .int .i64 1] w (AtPost w 1) := by
  go_enter Try.func23, Try.ntmps23
  go_wp2
  go_ret
  exact ⟨0, 0, ⟨by omega, by omega⟩, rfl, rfl⟩

theorem at_upto (a : Option Addr) (len cap : Nat) (zs : List Int) (n : Nat) (w : World) (h : BRow w a len cap zs) (hlx : len ≤ 1048576) (h1 : 1 ≤ n) (h2 : n ≤ 1000000000) :
    Calls Try.prog 23 #[.slice a len cap, .int .i64 0, .int .i64 n] w (AtPost w n) := by
  by_cases h3 : 1 < n
  · exact at_any a len cap zs 0 n w h hlx (by omega) h3 h2
  · obtain rfl : n = 1 := by omega
    exact at_one a len cap w

theorem goO_take (Q : List It) (o : List Int) (h : (goO Q o).1 = Q.length) (p : Nat) (hp : p ≤ Q.length) : (goO (Q.take p) o).1 = p := by
  induction Q generalizing o p with
  | nil => simp at hp; subst hp; simp [goO]
  | cons x r ih =>
    cases p with
    | zero => simp [goO]
    | succ p =>
      rw [List.take_succ_cons]
      unfold goO at h ⊢
      by_cases hf : fitB o x.k = true
      · rw [if_pos hf] at h ⊢
        simp at h hp ⊢
        exact ih _ h p hp
      · rw [if_neg hf] at h
        simp at h

theorem wf_small (n : Nat) (h : n ≤ 1000000) : (Lit.int .i64 (n : Int)).wf = true := by
  have h1 : IntKind.i64.min = -9223372036854775808 := by decide
  have h2 : IntKind.i64.max = 9223372036854775807 := by decide
  unfold Lit.wf
  simp
  omega

/-- What items that fit come to. -/
structure GoodI (Q : List It) : Prop where
  chk : chkI Q = (0, 0)
  all : openI Q (Q.length : Nat) = ([], 0)
  some : ∀ p : Nat, p ≤ Q.length → (openI Q p).2 = 0
  size : sizeI Q = ((sumI Q : Int) + 1, 0)
  code : ∀ p : Nat, p ≤ Q.length → (compI Q p 84).2 = 0 ∧ (compI Q p 84).1.length = sumI Q + 1

theorem good_of {Q : List It} (f : Fits 2 Q) (hl : Q.length ≤ 60) : GoodI Q := by
  have ha : askI Q = 0 := by
    unfold askI
    rw [if_neg (by omega), if_neg (by omega), if_pos (List.all_eq_true.2 f.1)]
  have hg := fits_go f (by omega)
  have hc : chkI Q = (0, 0) := by
    unfold chkI
    rw [if_neg (by simpa using ha), hg, if_neg (by simp)]
  have ho : ∀ p : Nat, p ≤ Q.length → openI Q p = ((goO (Q.take p) []).2, 0) := fun p hp => by
    unfold openI
    rw [if_neg (by simpa using ha), if_neg (by omega), Int.toNat_natCast, goO_take Q [] (by rw [hg]) p hp, if_neg (by omega)]
  refine ⟨hc, by rw [ho _ (Nat.le_refl _), List.take_length, hg], fun p hp => by rw [ho p hp], by unfold sizeI; rw [if_neg (by simpa using ha)], fun p hp => ?_⟩
  have hs := sumI_le Q
  have e : compI Q p 84 = ((runC p 84 Q).1 ++ [53], 0) := by
    unfold compI inB
    rw [hc, if_neg (by simp), if_neg (by simp; omega), if_neg (by omega)]
  have hm := made_end (runC_small p 84 Q (by rw [hg]) f.1)
  rw [e]
  exact ⟨rfl, by simp [hm.2]⟩

end Go.Proofs.Ytkcogfgjabemfaa
