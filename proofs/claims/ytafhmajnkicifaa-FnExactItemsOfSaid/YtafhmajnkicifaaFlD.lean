/- The program's writer of items: lists of nodes; ItemsOf. -/
import Derived.Test.YtafhmajnkicifaaFlC
namespace Go.Proofs.Ytafhmajnkicifaa
open Go.RowKit
set_option linter.unusedVariables false
set_option linter.unusedSimpArgs false

theorem wr_cell {w : World} {G : Nat} {Q : List It} {u : Option Nat} (h : WrAt w G Q u) : ∃ A c, w.cell? ⟨G, 0, none⟩ = some (.slice A Q.length c) ∧ IRow w (G + 1) (.slice A Q.length c) Q := by
  obtain ⟨A, n, c, hw, hr, hu⟩ := h
  obtain ⟨_, A', c', e, _⟩ := irow_its hr
  simp only [Value.slice.injEq] at e
  obtain ⟨rfl, rfl, rfl⟩ := e
  have c0 := whole_cell hw 0
  simp at c0
  exact ⟨A, c, c0, hr⟩

set_option maxRecDepth 100000 in
set_option maxHeartbeats 400000 in
theorem addN_zero : AddN 0 := by
  intro r v L w G Q u hr hv hW hQ
  obtain ⟨rfl, A, c, rfl⟩ := hv
  have HW := Lib.hid hW
  go_enter Try.func33, Try.ntmps33
  go_wp2
  go_loopw [11] (fun i wr => i = .int .i64 0 ∧ wr = w) (fun i _ => 0)
  case atStart => exact ⟨rfl, rfl⟩
  case round =>
    obtain ⟨rfl, rfl⟩ := hrel
    go_wp2
    go_ret
    exact ⟨true, rfl, ⟨rfl, rfl, rfl, Nat.le_refl _, fun _ _ _ => rfl⟩, fun _ => ⟨⟨okT_nil _ _, by simp⟩, u, by rw [itT_nil, List.append_nil]; exact HW.out, newU_refl _ _⟩, by simp⟩

set_option maxRecDepth 100000 in
set_option maxHeartbeats 4000000 in
theorem addN_step (d : Nat) (ih : AddN d) : AddN (d + 1) := by
  intro r v L w G Q u hr hv hW hQ
  have HV := Lib.hid hv
  obtain ⟨hl, A, ca, rfl, _⟩ := hv
  unfold maxLen at hl
  have IH := Lib.hid ih
  have HW := Lib.hid hW
  have HQ := Lib.hid hQ
  have zG := (wr_lt hW).1
  clear ih hW hQ
  go_enter Try.func33, Try.ntmps33
  go_wp2
  go_loopw [11] (fun i wr => ∃ (k : Nat) (uk : Option Nat), k ≤ L.length ∧ i = .int .i64 k ∧ WrAt wr G (Q ++ itT (d + 1) (L.take k)) uk ∧ NewU w u uk ∧ OnlyW G u w wr ∧ okT (d + 1) r (L.take k) = true ∧ (k = 0 ∨ Q.length + (itT (d + 1) (L.take k)).length ≤ 60)) (fun i _ => L.length - (intOf i).toNat)
  case atStart => exact ⟨0, u, Nat.zero_le _, rfl, by rw [List.take_zero, itT_nil, List.append_nil]; exact HW.out, newU_refl _ _, ⟨rfl, rfl, rfl, Nat.le_refl _, fun _ _ _ => rfl⟩, okT_nil _ _, .inl rfl⟩
  case round =>
    obtain ⟨k, uk, hk, rfl, hwr, hnu, how, hok, hle⟩ := hrel
    have HWR := Lib.hid hwr
    have HNU := Lib.hid hnu
    have HOW := Lib.hid how
    have HOK := Lib.hid hok
    have HLE := Lib.hid hle
    have zr := how.size
    clear hwr hnu how hok hle
    by_cases hlt : k < L.length
    · have L0 : L ≠ [] := fun e => by rw [e] at hlt; simp at hlt
      have REF : Hid (okT (d + 1) r L = true ∧ (L = [] ∨ Q.length + (itT (d + 1) L).length ≤ 60) → 0 < r ∧ nodB L[k] = true ∧ okT d (r - 1) L[k].a = true ∧ okT d (r - 1) L[k].b = true ∧ Q.length + (itT (d + 1) (L.take k)).length + (itN (itT d) L[k]).length ≤ 60) := Lib.hid (by
        rintro ⟨p1, p2⟩
        obtain ⟨q1, q2, q3, q4⟩ := okT_at d r L hlt p1
        have q5 := itT_le d L hlt
        rcases p2 with p2 | p2
        · exact absurd p2 L0
        · exact ⟨q1, q2, q3, q4, by omega⟩)
      by_cases h0 : r = 0
      · have lv : (9 : Int) < ((10 - r : Nat) : Int) := by omega
        have FN : Hid (¬ (okT (d + 1) r L = true ∧ (L = [] ∨ Q.length + (itT (d + 1) L).length ≤ 60))) := Lib.hid fun p => by have := REF.out p; omega
        obtain ⟨_, A', ca', e', hc⟩ := ndb_keep (d + 1) HV.out (onlyW_low HW.out HOW.out)
        simp only [Value.slice.injEq, true_and] at e'
        obtain ⟨rfl, rfl⟩ := e'
        obtain ⟨ga, hA, hbl, ha⟩ := hc (by omega)
        subst hA
        obtain ⟨a0, a1, A1, n1, e1, B1, m1, f1, a2, a3, ra, rb⟩ := ha k hlt
        clear ha hc ra rb REF h0 L0
        go_wp2
        go_ret
        exact ⟨false, rfl, onlyW_trans HOW.out HNU.out (onlyW_below (below_alloc (Below.refl _ _) _)), by simp, fun _ => FN.out⟩
      · have lv : ¬ (9 : Int) < ((10 - r : Nat) : Int) := by omega
        have h1 : 1 ≤ r := by omega
        have hQ2 : (Q ++ itT (d + 1) (L.take k)).length ≤ Bd r := by
          have q := HQ.out
          unfold Bd at q ⊢
          rcases HLE.out with rfl | q2
          · rw [List.take_zero, itT_nil, List.append_nil]; exact q
          · rw [List.length_append]; omega
        obtain ⟨_, A', ca', e', hc⟩ := ndb_keep (d + 1) HV.out (onlyW_low HW.out HOW.out)
        simp only [Value.slice.injEq, true_and] at e'
        obtain ⟨rfl, rfl⟩ := e'
        obtain ⟨ga, hA, hbl, ha⟩ := hc (by omega)
        subst hA
        obtain ⟨a0, a1, A1, n1, e1, B1, m1, f1, a2, a3, ra, rb⟩ := ha k hlt
        obtain ⟨_, A2, e2, q⟩ := ndb_form ra
        simp only [Value.slice.injEq] at q
        obtain ⟨rfl, rfl, rfl⟩ := q
        obtain ⟨_, B2, f2, q⟩ := ndb_form rb
        simp only [Value.slice.injEq] at q
        obtain ⟨rfl, rfl, rfl⟩ := q
        have RA := Lib.hid ra
        have RB := Lib.hid rb
        have zg : G < wr.heap.size := by omega
        have BA : Hid (Below wr.heap.size wr (wr.alloc (.cells #[.int .i64 L[k].k, .int .i64 L[k].v, .slice A1 L[k].a.length e1, .slice B1 L[k].b.length f1] 64))) := Lib.hid (below_alloc (Below.refl _ _) _)
        have XA := Lib.hid (whole_new wr 64 #[.int .i64 L[k].k, .int .i64 L[k].v, .slice A1 L[k].a.length e1, .slice B1 L[k].b.length f1])
        have NBV : nodB L[k] = nodV L[k].k L[k].v L[k].a.length L[k].b.length := nodB_nums _
        have IN : Hid (itN (itT d) L[k] = itN (itT d) (.mk L[k].k L[k].v L[k].a L[k].b)) := Lib.hid rfl
        have TK : Hid (itT (d + 1) (L.take (k + 1)) = itT (d + 1) (L.take k) ++ itN (itT d) (.mk L[k].k L[k].v L[k].a L[k].b)) := Lib.hid (itT_take d L hlt)
        have OT : Hid (okT (d + 1) r (L.take (k + 1)) = (okT (d + 1) r (L.take k) && (decide (0 < r) && nodB L[k] && okT d (r - 1) L[k].a && okT d (r - 1) L[k].b))) := Lib.hid (okT_take d r L hlt)
        clear ha hc ra rb h0 L0
        rw [NBV] at REF OT
        generalize L[k].k = xk at *
        generalize L[k].v = xv at *
        generalize L[k].a = xa at *
        generalize L[k].b = xb at *
        clear NBV
        go_wp2_with fail
        refine (nodeOK_any xk xv A1 B1 xa.length e1 xb.length f1 _).mono ?_
        rintro e w1 ⟨rfl, h2⟩
        have BB := Lib.hid (below_step BA.out h2)
        have XB := Lib.hid (whole_below XA.out h2)
        have x0 := whole_cell XB.out 0
        have x1 := whole_cell XB.out 1
        have x2 := whole_cell XB.out 2
        have x3 := whole_cell XB.out 3
        simp at x0 x1 x2 x3
        have WB := Lib.hid (wr_below HWR.out BB.out)
        have z1 := BB.out.size
        clear h2 XA a0 a1 a2 a3
        by_cases hn : nodV xk xv xa.length xb.length = true
        · have HN := Lib.hid hn
          rw [hn]
          have CA := Lib.hid (addNode_any d IH.out xk xv A1 B1 e1 f1 xa xb r w1 G (Q ++ itT (d + 1) (L.take k)) uk h1 hr hn (ndb_keep d RA.out fun b hb => BB.out.block b (by omega)) (ndb_keep d RB.out fun b hb => BB.out.block b (by omega)) WB.out hQ2)
          clear hn
          go_wp2_with fail
          refine CA.out.mono ?_
          rintro e w2 ⟨bb, rfl, ow, tt, ff⟩
          have OW2 := Lib.hid (onlyW_trans HOW.out HNU.out (onlyW_trans (onlyW_below BB.out) (newU_refl _ _) ow))
          cases bb with
          | false =>
            have F := ff rfl
            have FN : Hid (¬ (okT (d + 1) r L = true ∧ (L = [] ∨ Q.length + (itT (d + 1) L).length ≤ 60))) := Lib.hid fun p => by
              obtain ⟨q1, q2, q3, q4, q5⟩ := REF.out p
              rw [IN.out] at q5
              exact F ⟨q3, q4, by rw [List.length_append]; omega⟩
            clear tt ff F ow CA x0 x1 x2 x3
            go_wp2
            go_ret
            exact ⟨false, rfl, OW2.out, by simp, fun _ => FN.out⟩
          | true =>
            obtain ⟨⟨oa, ob⟩, u2, wr2, nu2⟩ := tt rfl
            rw [List.append_assoc, ← TK.out] at wr2
            have W2 := Lib.hid wr2
            have NU2 := Lib.hid (newU_trans HNU.out (newU_trans (newU_refl _ _) nu2 BB.out.size) zr)
            obtain ⟨C, cc, c0, _⟩ := wr_cell wr2
            have OKN : Hid (okT (d + 1) r (L.take (k + 1)) = true) := Lib.hid (by rw [OT.out, HOK.out, HN.out, oa, ob]; simp; omega)
            obtain ⟨nl, hnl⟩ : ∃ nl, (Q ++ itT (d + 1) (L.take (k + 1))).length = nl := ⟨_, rfl⟩
            rw [hnl] at c0
            have NL := Lib.hid hnl
            clear tt ff ow CA x0 x1 x2 x3 wr2 nu2 oa ob hnl
            by_cases h6 : 60 < nl
            · have t6 : (60 : Int) < (nl : Int) := by omega
              have FN : Hid (¬ (okT (d + 1) r L = true ∧ (L = [] ∨ Q.length + (itT (d + 1) L).length ≤ 60))) := Lib.hid fun p => by
                obtain ⟨q1, q2, q3, q4, q5⟩ := REF.out p
                rw [IN.out] at q5
                have q6 := NL.out
                rw [TK.out] at q6
                simp only [List.length_append] at q6
                omega
              clear h6
              go_wp2
              go_ret
              exact ⟨false, rfl, OW2.out, by simp, fun _ => FN.out⟩
            · have t6 : ¬ (60 : Int) < (nl : Int) := by omega
              have L6 : Hid (Q.length + (itT (d + 1) (L.take (k + 1))).length ≤ 60) := Lib.hid (by have q6 := NL.out; rw [List.length_append] at q6; omega)
              clear h6
              go_wp2
              go_roundw
              case rel => exact ⟨k + 1, u2, by omega, by go_num, W2.out, NU2.out, OW2.out, OKN.out, .inr L6.out⟩
              case measure => simp [intOf]; omega
        · have hn : nodV xk xv xa.length xb.length = false := by simpa using hn
          have FN : Hid (¬ (okT (d + 1) r L = true ∧ (L = [] ∨ Q.length + (itT (d + 1) L).length ≤ 60))) := Lib.hid fun p => by
            have q := (REF.out p).2.1
            rw [hn] at q; cases q
          rw [hn]
          clear hn x0 x1 x2 x3
          go_wp2
          go_ret
          exact ⟨false, rfl, onlyW_trans HOW.out HNU.out (onlyW_below BB.out), by simp, fun _ => FN.out⟩
    · obtain rfl : k = L.length := by omega
      have W1 := HWR.out
      have K1 := HOK.out
      have E1 := HLE.out
      rw [List.take_length] at W1 K1 E1
      have W2 := Lib.hid W1
      have K2 := Lib.hid K1
      have E2 : Hid (L = [] ∨ Q.length + (itT (d + 1) L).length ≤ 60) := Lib.hid (by
        rcases E1 with q | q
        · exact .inl (List.eq_nil_of_length_eq_zero q)
        · exact .inr q)
      clear hlt W1 K1 E1
      go_wp2
      go_ret
      exact ⟨true, rfl, HOW.out, fun _ => ⟨⟨K2.out, E2.out⟩, uk, W2.out, HNU.out⟩, by simp⟩

theorem addNodes_any (d : Nat) : AddN d := by
  induction d with
  | zero => exact addN_zero
  | succ d ih => exact addN_step d ih

end Go.Proofs.Ytafhmajnkicifaa
