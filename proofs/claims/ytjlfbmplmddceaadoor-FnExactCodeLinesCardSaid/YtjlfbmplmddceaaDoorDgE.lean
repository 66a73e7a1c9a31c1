/- CodeLines: the given side's loop. -/
import Derived.Test.YtjlfbmplmddceaaDoorDgD
namespace Go.Proofs.YtjlfbmplmddceaaDoor
open Go.RowKit
set_option linter.unusedVariables false
set_option linter.unusedSimpArgs false

theorem lines_made (w : World) {w' : World} (n : Int) {g : Nat} (hg : g = w'.heap.size) (hb : Below w.heap.size w w') : LinesOf w ([], n) (.returned (.tuple #[.slice (some ⟨g, 0, none⟩) 0 0, .int .i64 n])) (w'.alloc (.cells #[] 9)) := by
  subst hg
  exact ⟨_, rfl, (owns_new hb.size).1, hb.alloc hb.size _⟩

set_option maxRecDepth 100000 in
set_option maxHeartbeats 8000000 in
theorem sCodeLines_any (v u : Value) (Q : List Wd) (c : List Int) (a : Int) (w : World) (hv : Wds w v Q) (hu : Ints w u c) (hz : ∀ z ∈ c, -9223372036854775808 ≤ z ∧ z ≤ 9223372036854775807) :
    Calls Tryd.prog 8 #[v, u, .int .i64 a] w (LinesOf w (linesR Q c a)) := by
  have HV := Lib.hid hv
  have HU := Lib.hid hu
  have HZ := Lib.hid hz
  obtain ⟨A, ca, rfl, hcap, hl, hn⟩ := wds_form hv
  obtain ⟨lc, B, cb, rfl, -⟩ := hu
  unfold maxLen at hl lc
  clear hv hz hn hcap
  by_cases q1 : 4096 < Q.length
  · have E : Hid (linesR Q c a = ([], 2)) := Lib.hid (by unfold linesR; rw [if_pos (.inl q1)])
    go_enter Tryd.func8, Tryd.ntmps8
    go_wp2
    go_ret2
    rw [E.out]
    exact lines_made w 2 rfl (Below.refl _ _)
  by_cases q2 : 4096 < c.length
  · have E : Hid (linesR Q c a = ([], 2)) := Lib.hid (by unfold linesR; rw [if_pos (.inr q2)])
    go_enter Tryd.func8, Tryd.ntmps8
    go_wp2
    go_ret2
    rw [E.out]
    exact lines_made w 2 rfl (Below.refl _ _)
  have LE : Hid (linesR Q c a = if dictB Q = false then ([], 1) else if inB a 0 c.length = false then ([], 4) else goL Q c (c.length + 1) a.toNat []) := Lib.hid (by unfold linesR; rw [if_neg (by omega)])
  go_enter Tryd.func8, Tryd.ntmps8
  go_wp2_with fail
  refine (sDict_any _ Q _ HV.out).mono ?_
  rintro e w1 ⟨rfl, hb⟩
  have B1 := Lib.hid hb
  clear hb
  cases hd : dictB Q
  · have E : Hid (linesR Q c a = ([], 1)) := Lib.hid (by rw [LE.out, hd]; rfl)
    go_wp2
    go_ret2
    rw [E.out]
    exact lines_made w 1 rfl B1.out
  have LE2 : Hid (linesR Q c a = if inB a 0 c.length = false then ([], 4) else goL Q c (c.length + 1) a.toNat []) := Lib.hid (by rw [LE.out, hd]; rfl)
  go_wp2_with fail
  refine (sIn_any _ _ _ _).mono ?_
  rintro e w1' ⟨rfl, rfl⟩
  cases hin : inB a 0 (c.length : Int)
  · have E : Hid (linesR Q c a = ([], 4)) := Lib.hid (by rw [LE2.out, hin]; rfl)
    go_wp2
    go_ret2
    rw [E.out]
    exact lines_made w 4 rfl B1.out
  have h12 : 0 ≤ a ∧ a ≤ c.length := of_decide_eq_true hin
  obtain ⟨a0, rfl⟩ : ∃ n : Nat, a = (n : Int) := ⟨a.toNat, by omega⟩
  have LE3 : Hid (linesR Q c (a0 : Int) = goL Q c (c.length + 1) a0 []) := Lib.hid (by rw [LE2.out, hin]; rfl)
  have h3 : a0 ≤ c.length := by omega
  generalize linesR Q c (a0 : Int) = R at *
  clear LE LE2 hin h12 q1
  have HD := Lib.hid hd
  have DN := Lib.hid (dict_names hd)
  obtain ⟨i0, hi, hz0, hz1, hz2⟩ := info_parts own_info9
  go_wp2
  go_loopw [9, 8] (fun i ls wr => ∃ (f k : Nat) (acc : List (List UInt8)), i = .int .i64 k ∧ k ≤ c.length ∧ acc.length ≤ k ∧ c.length + 1 ≤ f + k ∧ R = goL Q c f k acc ∧ wr.ownsRow w.heap.size 9 1 ls acc.length (acc.map strV) ∧ Below w.heap.size w wr) (fun i _ _ => c.length + 1 - (intOf i).toNat)
  case atStart => exact ⟨c.length + 1, a0, [], rfl, h3, Nat.zero_le _, by omega, LE3.out, (owns_new B1.out.size).1, B1.out.alloc B1.out.size _⟩
  case round =>
    obtain ⟨f, k, acc, rfl, hk, hak, hf, hR, ho, hb⟩ := hrel
    have HB := Lib.hid hb
    have HO := Lib.hid ho
    have HR := Lib.hid hR
    clear hb ho hR
    by_cases hlt : k < c.length
    · have gk := getD_at hlt
      obtain ⟨_, A', ca', e', hc⟩ := HU.out
      simp only [Value.slice.injEq, true_and] at e'
      obtain ⟨rfl, rfl⟩ := e'
      obtain ⟨ad, rfl, hc2⟩ := hc (by omega)
      have HC := Lib.hid hc2
      have ck0 := hc2 k hlt
      have ck := (HB.out.cell (World.block_lt_of_cell? _ _ ck0)).trans ck0
      clear hc hc2 ck0
      by_cases hr : 1 ≤ c[k] ∧ c[k] ≤ Q.length
      rotate_left
      · have L := lineR_bad (Q := Q) (c := c) (i := k) (by rw [gk]; exact hr)
        have E := Lib.hid (HR.out.trans ((goL_bad (Q := Q) (acc := acc) hlt hf (by rw [L]; simp)).trans (by rw [L])))
        have ib : inB c[k] 1 (Q.length : Int) = false := decide_eq_false hr
        clear L hr gk
        generalize c[k] = n at *
        go_wp2_with (go_at_call 32; refine (sIn_any _ _ _ _).mono ?_; rintro e w' ⟨rfl, rfl⟩)
        go_ret2
        rw [E.out]
        exact lines_made w 13 rfl HB.out
      · obtain ⟨j, hj⟩ : ∃ j : Nat, c[k] = (j : Int) + 1 := ⟨(c[k] - 1).toNat, by omega⟩
        have jq : j < Q.length := by omega
        have gj : c.getD k 0 = (j : Int) + 1 := by rw [gk, hj]
        rw [hj] at ck
        clear gk hr hj
        have R1 := Lib.hid (fun h => lineR_one gj jq h)
        have R2 := Lib.hid (fun h h' => lineR_end gj jq h h')
        have R3 := Lib.hid (fun h h' => lineR_two gj jq h h')
        obtain ⟨g, rfl⟩ : ∃ g, A = some ⟨g, 0, none⟩ := wds_block HV.out (by omega)
        obtain ⟨a0', -, -⟩ := wds_word HV.out j jq
        have a0 := (HB.out.cell (World.block_lt_of_cell? _ _ a0')).trans a0'
        have sx := DN.out j jq
        have il := itoa_len k (by omega) (by omega)
        have is_ := str_size (Lib.itoa k)
        have ss : ((⟨(Lib.itoa k).toArray⟩ : ByteArray) ++ ⟨#[32]⟩).size = (Lib.itoa k).length + 1 := by rw [ByteArray.size_append, is_]; rfl
        have ls := lnB_size k Q[j] (by omega) (by omega) sx
        have LB : Hid (((⟨(Lib.itoa k).toArray⟩ : ByteArray) ++ ⟨#[32]⟩ ++ Q[j].n) = lnB k Q[j]) := Lib.hid rfl
        have IT : Hid (∀ W, W.cell? ⟨g, j * 3, none⟩ = some (.string Q[j].n) → Calls Tryd.prog 33 #[.int .i64 (k : Int)] W fun e w' => e = .returned (.string ⟨(Lib.itoa k).toArray⟩) ∧ w'.cell? ⟨g, j * 3, none⟩ = some (.string Q[j].n) ∧ Below W.heap.size W w') := Lib.hid fun W hq =>
          (sDigits_any k W (by omega) (by omega)).mono fun e w' ⟨h1, h2⟩ => ⟨h1, (h2.cell (World.block_lt_of_cell? _ _ hq)).trans hq, h2⟩
        have OP := Lib.hid (fun W (b : Below w.heap.size w W) => sOperand_any _ Q j W (wds_below HV.out b) HD.out jq)
        have ib : inB ((j : Int) + 1) 1 (Q.length : Int) = true := decide_eq_true ⟨by omega, by omega⟩
        have n2 : ((j : Int) + 1) - 1 = j := by omega
        have n5 : IntKind.i64.wrap ((j : Int) + 1 - 1) = j := by rw [n2]; exact IntWalk.i64_in _ (by omega)
        have n6 : IntKind.i64.wrap (j : Int) = j := IntWalk.i64_in _ (by omega)
        have b0 : (0 : Int) ≤ j := by omega
        have b1 : (j : Int) < Q.length := by omega
        have sz1 : ¬ (9223372036854775807 < (Lib.itoa k).length + 1) := by omega
        have sz2 : ¬ (9223372036854775807 < (Lib.itoa k).length + 1 + Q[j].n.size) := by omega
        clear a0'
        generalize Q[j] = x at *
        go_wp2_with (go_at_call 32; refine (sIn_any _ _ _ _).mono ?_; rintro e w' ⟨rfl, rfl⟩)
        go_region_held3 (fun w' => w'.cell? ⟨g, j * 3, none⟩ = some (.string x.n)) (first | exact a0 | exact hc1)
          (first | (go_at_call 33; refine (IT.out wr.drew a0).mono ?_; rintro e w2 ⟨rfl, hc1, hb⟩; have B2 := Lib.hid (below_stepW HB.out.drew hb); have O2 := Lib.hid (own_over_below (w := wr.drew) HO.out hb); clear hb))
        rw [LB.out]
        generalize lnB k x = ln at *
        clear a0 hc1 IT LB ss is_ il sz1 sz2 sx
        have z2 := B2.out.size
        go_wp2_with fail
        refine (OP.out _ B2.out).mono ?_
        rintro e w3 ⟨n3, rfl, rfl⟩
        have B3 : Hid (Below w.heap.size w (w2.drewN n3)) := Lib.hid ⟨B2.out.os, B2.out.tape, B2.out.output, B2.out.size, B2.out.block⟩
        have O3 : Hid ((w2.drewN n3).ownsRow w.heap.size 9 1 _ acc.length (acc.map strV)) := O2
        have z3 : w.heap.size ≤ (w2.drewN n3).heap.size := z2
        generalize w2.drewN n3 = w3 at *
        clear B2 O2 z2 OP
        cases ho : opB ((j : Int) + 1)
        · have L := R1.out ho
          have q3 : (acc.length : Int) ≤ 4096 := by omega
          have FE := Lib.hid (fun e => goL_exit (Q := Q) (c := c) (acc := acc) hlt hf (by rw [L]) e)
          have FN := Lib.hid (fun e => goL_next (Q := Q) (c := c) (acc := acc) hlt hf (by rw [L]) e)
          rw [L, gj] at FE FN
          simp only at FE FN
          have TS := Lib.hid (bl_str ln)
          clear L
          go_wp2_with (at_builtin; refine wpList_append_own _ rfl _ _ 25 rfl w.heap.size 9 i0 (.string ⟨#[]⟩) 1 16 Tryd.underlying25 hi hz0 hz1 hz2 rfl (by decide) _ _ _ rfl (O3.out.alloc _) ⟨w3.heap.size, 0, none⟩ 1 1 [.string ln] rfl rfl ?c1 ?c2 ?c3 ?c4 ?c5 ?_)
          case c1 =>
            intro jj u hu
            cases jj with
            | zero => simp at hu; subst hu; exact cell_new _ _ _
            | succ jj => simp at hu
          case c2 => first | rfl | (intro u hu; simp at hu; subst hu; rfl)
          case c3 => first | omega | (unfold maxLen; omega)
          case c4 => omega
          case c5 => first | omega | (simp; omega)
          intro v' wx hown' hgrow hnil
          have BX := Lib.hid (owns_below B3.out O3.out hgrow)
          generalize ln = tx at *
          have OX : Hid (wx.ownsRow w.heap.size 9 1 v' (acc ++ [bl tx]).length ((acc ++ [bl tx]).map strV)) := Lib.hid (by rw [List.length_append, List.map_append, List.map_cons, TS.out]; exact hown')
          clear hown' hgrow hnil
          go_wp2_with fail
          refine (sW_EXIT _).mono ?_
          rintro e wy ⟨rfl, hb⟩
          have BY := Lib.hid (below_stepW BX.out hb)
          have OY := Lib.hid (own_over_below OX.out hb)
          clear hb BX OX
          by_cases he : (j : Int) + 1 = 53
          · have E := Lib.hid (HR.out.trans (FE.out he))
            have e1 : ((j : Int) + 1 == 53) = true := by rw [beq_iff_eq]; exact he
            go_wp2
            go_ret2
            rw [E.out]
            exact ⟨_, rfl, OY.out, BY.out⟩
          · obtain ⟨f', rfl, hE⟩ := FN.out he
            have E := Lib.hid (HR.out.trans hE)
            have e1 : ((j : Int) + 1 == 53) = false := by rw [beq_eq_false_iff_ne]; exact he
            clear hE he
            go_wp2
            go_roundw
            case rel => exact ⟨f', k + 1, acc ++ [bl tx], by go_num, by omega, by simp; omega, by omega, E.out, OY.out, BY.out⟩
            case measure => simp [intOf]; omega
        · have j1 : IntKind.i64.wrap ((k : Int) + 1) = (k : Int) + 1 := IntWalk.i64_in _ (by omega)
          by_cases hl2 : c.length ≤ k + 1
          · have L := R2.out ho hl2
            have E := Lib.hid (HR.out.trans ((goL_bad (Q := Q) (acc := acc) hlt hf (by rw [L]; simp)).trans (by rw [L])))
            have m1 : ((k : Int) + 1 == (c.length : Int)) = true := by rw [beq_iff_eq]; omega
            clear L
            go_wp2
            go_ret2
            rw [E.out]
            exact lines_made w 8 rfl B3.out
          · have m1 : ((k : Int) + 1 == (c.length : Int)) = false := by rw [beq_eq_false_iff_ne]; omega
            have L := R3.out ho hl2
            have gi := getD_at (c := c) (i := k + 1) (by omega)
            rw [gi] at L
            have zz := HZ.out _ (List.getElem_mem (show k + 1 < c.length by omega))
            have ai := HC.out (k + 1) (by omega)
            have ai1 := (B3.out.cell (World.block_lt_of_cell? _ _ ai)).trans ai
            rw [Addr.add_succ'] at ai1
            have j2 : (k : Int) + 1 < c.length := by omega
            have j3 : (0 : Int) ≤ (k : Int) + 1 := by omega
            unfold lnO at L
            generalize c[k + 1] = n at *
            have il := itoa_len n zz.1 zz.2
            have is_ := str_size (Lib.itoa n)
            have ss : ((⟨#[32]⟩ : ByteArray) ++ ⟨(Lib.itoa n).toArray⟩).size = 1 + (Lib.itoa n).length := by rw [ByteArray.size_append, is_]; rfl
            have sz3 : ¬ (9223372036854775807 < 1 + (Lib.itoa n).length) := by omega
            have sz4 : ¬ (9223372036854775807 < ln.size + (1 + (Lib.itoa n).length)) := by omega
            clear gi ai R1 R2 R3
            go_wp2_with fail
            refine (sDigits_any n _ zz.1 zz.2).mono ?_
            rintro e w4 ⟨rfl, hb⟩
            have B4 := Lib.hid (below_stepW B3.out hb)
            have O4 := Lib.hid (own_over_below O3.out hb)
            have z4 := B4.out.size
            clear hb B3 O3 z3 ai1
            have FE := Lib.hid (fun e => goL_exit (Q := Q) (c := c) (acc := acc) hlt hf (by rw [L]) e)
            have FN := Lib.hid (fun e => goL_next (Q := Q) (c := c) (acc := acc) hlt hf (by rw [L]) e)
            rw [L, gj] at FE FN
            simp only at FE FN
            have TS := Lib.hid (bl_str (ln ++ ((⟨#[32]⟩ : ByteArray) ++ ⟨(Lib.itoa n).toArray⟩)))
            clear L
            go_wp2_with (at_builtin; refine wpList_append_own _ rfl _ _ 25 rfl w.heap.size 9 i0 (.string ⟨#[]⟩) 1 16 Tryd.underlying25 hi hz0 hz1 hz2 rfl (by decide) _ _ _ rfl (O4.out.alloc _) ⟨w4.heap.size, 0, none⟩ 1 1 [.string (ln ++ ((⟨#[32]⟩ : ByteArray) ++ ⟨(Lib.itoa n).toArray⟩))] rfl rfl ?c1 ?c2 ?c3 ?c4 ?c5 ?_)
            case c1 =>
              intro jj u hu
              cases jj with
              | zero => simp at hu; subst hu; exact cell_new _ _ _
              | succ jj => simp at hu
            case c2 => first | rfl | (intro u hu; simp at hu; subst hu; rfl)
            case c3 => first | omega | (unfold maxLen; omega)
            case c4 => omega
            case c5 => first | omega | (simp; omega)
            intro v' wx hown' hgrow hnil
            have BX := Lib.hid (owns_below B4.out O4.out hgrow)
            generalize (ln ++ ((⟨#[32]⟩ : ByteArray) ++ ⟨(Lib.itoa n).toArray⟩)) = tx at *
            have OX : Hid (wx.ownsRow w.heap.size 9 1 v' (acc ++ [bl tx]).length ((acc ++ [bl tx]).map strV)) := Lib.hid (by rw [List.length_append, List.map_append, List.map_cons, TS.out]; exact hown')
            clear hown' hgrow hnil
            go_wp2_with fail
            refine (sW_EXIT _).mono ?_
            rintro e wy ⟨rfl, hb⟩
            have BY := Lib.hid (below_stepW BX.out hb)
            have OY := Lib.hid (own_over_below OX.out hb)
            clear hb BX OX
            by_cases he : (j : Int) + 1 = 53
            · have E := Lib.hid (HR.out.trans (FE.out he))
              have e1 : ((j : Int) + 1 == 53) = true := by rw [beq_iff_eq]; exact he
              go_wp2
              go_ret2
              rw [E.out]
              exact ⟨_, rfl, OY.out, BY.out⟩
            · obtain ⟨f', rfl, hE⟩ := FN.out he
              have E := Lib.hid (HR.out.trans hE)
              have e1 : ((j : Int) + 1 == 53) = false := by rw [beq_eq_false_iff_ne]; exact he
              clear hE he
              go_wp2
              go_roundw
              case rel => exact ⟨f', k + 2, acc ++ [bl tx], by go_num, by omega, by simp; omega, by omega, E.out, OY.out, BY.out⟩
              case measure => simp [intOf]; omega
    · obtain rfl : k = c.length := by omega
      have E := Lib.hid (HR.out.trans (goL_end (Nat.le_refl _) hf))
      go_wp2
      go_ret2
      rw [E.out]
      exact lines_made w 8 rfl HB.out

end Go.Proofs.YtjlfbmplmddceaaDoor
