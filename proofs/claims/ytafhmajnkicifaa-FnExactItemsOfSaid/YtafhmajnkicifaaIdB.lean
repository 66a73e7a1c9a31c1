/- A drawn block of items. -/
import Derived.Test.YtafhmajnkicifaaIdA
import Derived.Test.YtafhmajnkicifaaIdM
namespace Go.Proofs.Ytafhmajnkicifaa
open Go.RowKit
set_option linter.unusedVariables false
set_option linter.unusedSimpArgs false

theorem cats4 (w : World) (t : TypeId) {g : Nat} (hg : g = w.heap.size) {v0 v1 v2 v3 : Value} {Q0 Q1 Q2 Q3 : List It} (h0 : Its w v0 Q0) (h1 : Its w v1 Q1) (h2 : Its w v2 Q2) (h3 : Its w v3 Q3) : Cats (w.alloc (.cells #[v0, v1, v2, v3] t)) g [Q0, Q1, Q2, Q3] := by
  subst hg
  have X := whole_new w t #[v0, v1, v2, v3]
  have B := below_alloc (Below.refl w.heap.size w) (.cells #[v0, v1, v2, v3] t)
  intro k hk
  rcases k with _ | _ | _ | _ | k
  · exact ⟨v0, whole_cell X 0, its_below h0 B⟩
  · exact ⟨v1, whole_cell X 1, its_below h1 B⟩
  · exact ⟨v2, whole_cell X 2, its_below h2 B⟩
  · exact ⟨v3, whole_cell X 3, its_below h3 B⟩
  · simp at hk; omega

theorem cats6 (w : World) (t : TypeId) {g : Nat} (hg : g = w.heap.size) {v0 v1 v2 v3 v4 v5 : Value} {Q0 Q1 Q2 Q3 Q4 Q5 : List It} (h0 : Its w v0 Q0) (h1 : Its w v1 Q1) (h2 : Its w v2 Q2) (h3 : Its w v3 Q3) (h4 : Its w v4 Q4) (h5 : Its w v5 Q5) : Cats (w.alloc (.cells #[v0, v1, v2, v3, v4, v5] t)) g [Q0, Q1, Q2, Q3, Q4, Q5] := by
  subst hg
  have X := whole_new w t #[v0, v1, v2, v3, v4, v5]
  have B := below_alloc (Below.refl w.heap.size w) (.cells #[v0, v1, v2, v3, v4, v5] t)
  intro k hk
  rcases k with _ | _ | _ | _ | _ | _ | k
  · exact ⟨v0, whole_cell X 0, its_below h0 B⟩
  · exact ⟨v1, whole_cell X 1, its_below h1 B⟩
  · exact ⟨v2, whole_cell X 2, its_below h2 B⟩
  · exact ⟨v3, whole_cell X 3, its_below h3 B⟩
  · exact ⟨v4, whole_cell X 4, its_below h4 B⟩
  · exact ⟨v5, whole_cell X 5, its_below h5 B⟩
  · simp at hk; omega

theorem cats8 (w : World) (t : TypeId) {g : Nat} (hg : g = w.heap.size) {v0 v1 v2 v3 v4 v5 v6 v7 : Value} {Q0 Q1 Q2 Q3 Q4 Q5 Q6 Q7 : List It} (h0 : Its w v0 Q0) (h1 : Its w v1 Q1) (h2 : Its w v2 Q2) (h3 : Its w v3 Q3) (h4 : Its w v4 Q4) (h5 : Its w v5 Q5) (h6 : Its w v6 Q6) (h7 : Its w v7 Q7) : Cats (w.alloc (.cells #[v0, v1, v2, v3, v4, v5, v6, v7] t)) g [Q0, Q1, Q2, Q3, Q4, Q5, Q6, Q7] := by
  subst hg
  have X := whole_new w t #[v0, v1, v2, v3, v4, v5, v6, v7]
  have B := below_alloc (Below.refl w.heap.size w) (.cells #[v0, v1, v2, v3, v4, v5, v6, v7] t)
  intro k hk
  rcases k with _ | _ | _ | _ | _ | _ | _ | _ | k
  · exact ⟨v0, whole_cell X 0, its_below h0 B⟩
  · exact ⟨v1, whole_cell X 1, its_below h1 B⟩
  · exact ⟨v2, whole_cell X 2, its_below h2 B⟩
  · exact ⟨v3, whole_cell X 3, its_below h3 B⟩
  · exact ⟨v4, whole_cell X 4, its_below h4 B⟩
  · exact ⟨v5, whole_cell X 5, its_below h5 B⟩
  · exact ⟨v6, whole_cell X 6, its_below h6 B⟩
  · exact ⟨v7, whole_cell X 7, its_below h7 B⟩
  · simp at hk; omega

/-- What a drawn block leaves. -/
def BlockDrew (w : World) (b : Nat) (a : Option Addr) (len cap : Nat) (zs : List Int) (N d M : Nat) (e : Ending) (w' : World) : Prop :=
  ∃ v Q, e = .returned v ∧ IRow w' w.heap.size v Q ∧ Fits d Q ∧ Q.length ≤ M ∧ Src w' b a len cap zs N ∧ w.grownBy w' (some b)

set_option maxRecDepth 100000 in
set_option maxHeartbeats 8000000 in
theorem block0_drew (b : Nat) (a : Option Addr) (len cap : Nat) (zs : List Int) (N : Nat) (w : World) (h : Src w b a len cap zs N) (hN : N ≤ 90000) :
    Calls Try.prog 43 #[.pointer (some ⟨b, 0, none⟩), .int .i64 86, .int .i64 0] w (BlockDrew w b a len cap zs (N + 100) 0 4) := by
  have hb0 := src_lt h
  have HA := Lib.hid (src_code_lt h)
  have H := Lib.hid h
  clear h
  go_enter Try.func43, Try.ntmps43
  go_wp2_with fail
  refine (next_small _ _ _ _ _ _ _ _ (src_alloc H.out _) (by unfold Few; omega) (by omega) (by omega)).mono ?_
  rintro e w1 ⟨v, ⟨v0, v1⟩, rfl, hs, hg⟩
  have S := hs
  have G := grown_trans (gb_alloc (World.grownBy.refl w _) _) hg
  have R_out : IRow w1 w.heap.size (.slice (some ⟨w.heap.size, 0, none⟩) 0 0) [] := irow_gb hg (irow_empty w (Nat.le_refl _)) hb0
  clear hs hg
  go_wp2
  go_loopw [7, 8] (fun o i wr => ∃ (k : Int) (A : Option Addr) (n c : Nat) (Q : List It), 0 ≤ k ∧ k ≤ 4 ∧ i = .int .i64 k ∧ o = .slice A n c ∧ IRow wr w.heap.size (.slice A n c) Q ∧ Fits 0 Q ∧ (Q.length : Int) ≤ (4 - k) * 1 ∧ Src wr b a len cap zs (N + 1 + (4 - k.toNat) * 20) ∧ w.grownBy wr (some b)) (fun _ i _ => (intOf i).toNat)
  case atStart => exact ⟨1 + v, _, _, _, [], by omega, by omega, by go_num, rfl, R_out, fits_nil _, by simp; omega, src_mono S (by omega), G⟩
  case round =>
    clear R_out S G
    obtain ⟨k, A, n, c, Q, k0, k4, rfl, rfl, R_out, F, LQ, S, G⟩ := hrel
    have zwr : w.heap.size ≤ wr.heap.size := G.size
    by_cases hlt : 0 < k
    · go_wp2_with fail
      refine (flat_drew _ _ _ _ _ _ _ S (by omega)).mono ?_
      rintro e w11 ⟨⟨xk, xv⟩, rfl, xb, hx, hs, hg⟩
      have R_out := irow_gb hg R_out (by omega)
      have S := hs
      have G := grown_trans G hg
      have zw11 : w.heap.size ≤ w11.heap.size := by have := hg.size; omega
      clear hs hg
      simp only at hx xb
      rcases hx with rfl | rfl
      · cases hin : inB xv 57 62
        · have FX := xb
          go_wp2_with (first | (go_at_call 59; refine (sIn_any _ _ _ _).mono ?_; rintro e w' ⟨rfl, rfl⟩; rw [hin]) | (at_builtin; refine wpList_append_items rfl (.tmp 37) (.tmp 39) rfl rfl w.heap.size _ Q (irow_below R_out (by repeat (first | with_reducible exact Below.refl _ _ | with_reducible refine Below.setCell ?_ (by first | omega | (simp; done) | (simp; omega)) _ | with_reducible refine Below.alloc ?_ (by first | omega | (simp; done) | (simp; omega)) _))) _ [⟨1, xv⟩] (its_lit ⟨1, xv⟩ (by simp)) rfl rfl (by simp; omega) (by simp; omega) ?_; intro v9 w9 hr hgr hat; obtain ⟨A9, n9, c9, rfl⟩ := irow_form hr; have BX : Below w.heap.size w11 w9 := Below.grown (by repeat (first | with_reducible exact Below.refl _ _ | with_reducible refine Below.setCell ?_ (by first | omega | (simp; done) | (simp; omega)) _ | with_reducible refine Below.alloc ?_ (by first | omega | (simp; done) | (simp; omega)) _)) hgr (by simp; omega) (fun g hg => (irow_lt R_out g hg).1); have S := src_lo S hb0 HA.out BX; have G := gb_of_lo G BX; clear BX hgr hat))
          have FN : Fits 0 (Q ++ [(⟨1, xv⟩ : It)]) := fits_app F (fits_mono (fits_one FX (by simp)) (by omega))
          have L9 : ((Q ++ [(⟨1, xv⟩ : It)]).length : Int) ≤ (4 - (k - 1)) * 1 := by simp; omega
          generalize Q ++ [(⟨1, xv⟩ : It)] = Q9 at *
          clear R_out
          go_roundw
          case rel => exact ⟨k - 1, _, _, _, Q9, by omega, by omega, by go_num, rfl, hr, FN, L9, src_mono S (by omega), G⟩
          case measure => simp [intOf]; omega
        · have FX : itB (⟨1, 1⟩ : It) = true := by decide
          go_wp2_with (first | (go_at_call 59; refine (sIn_any _ _ _ _).mono ?_; rintro e w' ⟨rfl, rfl⟩; rw [hin]) | (at_builtin; refine wpList_append_items rfl (.tmp 37) (.tmp 39) rfl rfl w.heap.size _ Q (irow_below R_out (by repeat (first | with_reducible exact Below.refl _ _ | with_reducible refine Below.setCell ?_ (by first | omega | (simp; done) | (simp; omega)) _ | with_reducible refine Below.alloc ?_ (by first | omega | (simp; done) | (simp; omega)) _))) _ [⟨1, 1⟩] (its_lit ⟨1, 1⟩ (by simp)) rfl rfl (by simp; omega) (by simp; omega) ?_; intro v9 w9 hr hgr hat; obtain ⟨A9, n9, c9, rfl⟩ := irow_form hr; have BX : Below w.heap.size w11 w9 := Below.grown (by repeat (first | with_reducible exact Below.refl _ _ | with_reducible refine Below.setCell ?_ (by first | omega | (simp; done) | (simp; omega)) _ | with_reducible refine Below.alloc ?_ (by first | omega | (simp; done) | (simp; omega)) _)) hgr (by simp; omega) (fun g hg => (irow_lt R_out g hg).1); have S := src_lo S hb0 HA.out BX; have G := gb_of_lo G BX; clear BX hgr hat))
          have FN : Fits 0 (Q ++ [(⟨1, 1⟩ : It)]) := fits_app F (fits_mono (fits_one FX (by simp)) (by omega))
          have L9 : ((Q ++ [(⟨1, 1⟩ : It)]).length : Int) ≤ (4 - (k - 1)) * 1 := by simp; omega
          generalize Q ++ [(⟨1, 1⟩ : It)] = Q9 at *
          clear R_out
          go_roundw
          case rel => exact ⟨k - 1, _, _, _, Q9, by omega, by omega, by go_num, rfl, hr, FN, L9, src_mono S (by omega), G⟩
          case measure => simp [intOf]; omega
      · have FX := xb
        go_wp2_with (first | (at_builtin; refine wpList_append_items rfl (.tmp 37) (.tmp 39) rfl rfl w.heap.size _ Q (irow_below R_out (by repeat (first | with_reducible exact Below.refl _ _ | with_reducible refine Below.setCell ?_ (by first | omega | (simp; done) | (simp; omega)) _ | with_reducible refine Below.alloc ?_ (by first | omega | (simp; done) | (simp; omega)) _))) _ [⟨2, xv⟩] (its_lit ⟨2, xv⟩ (by simp)) rfl rfl (by simp; omega) (by simp; omega) ?_; intro v9 w9 hr hgr hat; obtain ⟨A9, n9, c9, rfl⟩ := irow_form hr; have BX : Below w.heap.size w11 w9 := Below.grown (by repeat (first | with_reducible exact Below.refl _ _ | with_reducible refine Below.setCell ?_ (by first | omega | (simp; done) | (simp; omega)) _ | with_reducible refine Below.alloc ?_ (by first | omega | (simp; done) | (simp; omega)) _)) hgr (by simp; omega) (fun g hg => (irow_lt R_out g hg).1); have S := src_lo S hb0 HA.out BX; have G := gb_of_lo G BX; clear BX hgr hat))
        have FN : Fits 0 (Q ++ [(⟨2, xv⟩ : It)]) := fits_app F (fits_mono (fits_one FX (by simp)) (by omega))
        have L9 : ((Q ++ [(⟨2, xv⟩ : It)]).length : Int) ≤ (4 - (k - 1)) * 1 := by simp; omega
        generalize Q ++ [(⟨2, xv⟩ : It)] = Q9 at *
        clear R_out
        go_roundw
        case rel => exact ⟨k - 1, _, _, _, Q9, by omega, by omega, by go_num, rfl, hr, FN, L9, src_mono S (by omega), G⟩
        case measure => simp [intOf]; omega
    · obtain rfl : k = 0 := by omega
      go_wp2
      go_ret
      exact ⟨_, Q, rfl, R_out, F, by omega, src_mono S (by omega), G⟩

end Go.Proofs.Ytafhmajnkicifaa
