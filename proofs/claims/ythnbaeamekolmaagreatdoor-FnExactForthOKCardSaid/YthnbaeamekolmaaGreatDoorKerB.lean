/- spec's kernel: the list, and the test whether a list begins with it. -/
import Derived.Test.YthnbaeamekolmaaGreatDoorKerA
namespace Go.Proofs.YthnbaeamekolmaaGreatDoor
open Go.RowKit
set_option linter.unusedVariables false
set_option linter.unusedSimpArgs false

theorem txts_below {w w' : World} {g : Nat} {Q : List (List UInt8)} (h : Txts w g Q) (hb : Below w.heap.size w w') : Txts w' g Q := fun k hk => cells_below hb _ _ (h k hk)

/-- Five lists of texts, and the block that holds them. -/
theorem lists_made {w : World} {g0 g : Nat} (hg : g0 < w.heap.size) (h0 : g0 ≠ g) (h1 : g0 ≠ g + 1) (h2 : g0 ≠ g + 1 + 1) (h3 : g0 ≠ g + 1 + 1 + 1) (h4 : g0 ≠ g + 1 + 1 + 1 + 1) (hs : w.heap.size = g + 1 + 1 + 1 + 1 + 1)
    (t0 : Txts w g primsL) (t1 : Txts w (g + 1) flowsL) (t2 : Txts w (g + 1 + 1) innersL) (t3 : Txts w (g + 1 + 1 + 1) hostsL) (t4 : Txts w (g + 1 + 1 + 1 + 1) syntaxL) :
    ListsAt (w.alloc (.cells #[.slice (some ⟨g, 0, none⟩) primsL.length primsL.length, .slice (some ⟨g + 1, 0, none⟩) flowsL.length flowsL.length, .slice (some ⟨g + 1 + 1, 0, none⟩) innersL.length innersL.length, .slice (some ⟨g + 1 + 1 + 1, 0, none⟩) hostsL.length hostsL.length, .slice (some ⟨g + 1 + 1 + 1 + 1, 0, none⟩) syntaxL.length syntaxL.length] 146)) g0 w.heap.size := by
  have txt : ∀ (i x : Nat), i < 5 → Txts w x (klist i) → ∀ k, k < kcnt i → w.cell? ⟨x, k, none⟩ = some (.string (kname (koff i + k))) := by
    intro i x hi ht k hk
    have h := ht k (by rw [klist_len hi]; exact hk)
    rw [h]
    have e := klist_at hi hk
    rw [List.getD_eq_getElem?_getD, List.getElem?_eq_getElem (by rw [klist_len hi]; exact hk)] at e
    simp only [Option.getD_some] at e
    unfold kname
    rw [← e]
  have hb : Below w.heap.size w (w.alloc (.cells #[.slice (some ⟨g, 0, none⟩) primsL.length primsL.length, .slice (some ⟨g + 1, 0, none⟩) flowsL.length flowsL.length, .slice (some ⟨g + 1 + 1, 0, none⟩) innersL.length innersL.length, .slice (some ⟨g + 1 + 1 + 1, 0, none⟩) hostsL.length hostsL.length, .slice (some ⟨g + 1 + 1 + 1 + 1, 0, none⟩) syntaxL.length syntaxL.length] 146)) := below_allocW (Below.refl _ _) _
  refine ⟨by omega, by simp, fun i hi => ?_⟩
  match i, hi with
  | 0, _ => exact ⟨g, by omega, by simp; omega, by rw [cell_of_row _ _ _ _ _ _ (heap_alloc_new w _)]; rfl, fun k hk => cells_below hb _ _ (txt 0 g (by omega) t0 k hk)⟩
  | 1, _ => exact ⟨g + 1, by omega, by simp; omega, by rw [cell_of_row _ _ _ _ _ _ (heap_alloc_new w _)]; rfl, fun k hk => cells_below hb _ _ (txt 1 (g + 1) (by omega) t1 k hk)⟩
  | 2, _ => exact ⟨g + 1 + 1, by omega, by simp; omega, by rw [cell_of_row _ _ _ _ _ _ (heap_alloc_new w _)]; rfl, fun k hk => cells_below hb _ _ (txt 2 (g + 1 + 1) (by omega) t2 k hk)⟩
  | 3, _ => exact ⟨g + 1 + 1 + 1, by omega, by simp; omega, by rw [cell_of_row _ _ _ _ _ _ (heap_alloc_new w _)]; rfl, fun k hk => cells_below hb _ _ (txt 3 (g + 1 + 1 + 1) (by omega) t3 k hk)⟩
  | 4, _ => exact ⟨g + 1 + 1 + 1 + 1, by omega, by simp; omega, by rw [cell_of_row _ _ _ _ _ _ (heap_alloc_new w _)]; rfl, fun k hk => cells_below hb _ _ (txt 4 (g + 1 + 1 + 1 + 1) (by omega) t4 k hk)⟩

theorem wrow_empty (w : World) {base : Nat} (hb : base ≤ w.heap.size) : WRow (w.alloc (.cells #[] 129)) base (.slice (some ⟨w.heap.size, 0, none⟩) 0 0) [] :=
  ⟨World.ownsRow_made w #[] 0 hb (by unfold maxLen; omega) rfl, fun _ h => by simp at h⟩

theorem wdAt_new (w : World) (x : Wd) : ∀ k (h : k < [x].length), WdAt (w.alloc (.cells #[.string x.n, .int .i64 x.k, .int .i64 x.v] 129)) ⟨w.heap.size, k * 3, none⟩ [x][k] := by
  intro k hk
  have : k = 0 := by simp at hk; omega
  subst this
  refine ⟨?_, ?_, ?_⟩ <;> simp

theorem alloc_size (w : World) (o : Obj) : (w.alloc o).heap.size = w.heap.size + 1 := by simp

theorem kern_start (w : World) : ListsAt (((((((w.alloc (.cells #[] 129)).alloc (.cells (primsL.map strV).toArray 9)).alloc (.cells (flowsL.map strV).toArray 9)).alloc (.cells (innersL.map strV).toArray 9)).alloc (.cells (hostsL.map strV).toArray 9)).alloc (.cells (syntaxL.map strV).toArray 9)).alloc (.cells #[.slice (some ⟨w.heap.size + 1, 0, none⟩) primsL.length primsL.length, .slice (some ⟨w.heap.size + 1 + 1, 0, none⟩) flowsL.length flowsL.length, .slice (some ⟨w.heap.size + 1 + 1 + 1, 0, none⟩) innersL.length innersL.length, .slice (some ⟨w.heap.size + 1 + 1 + 1 + 1, 0, none⟩) hostsL.length hostsL.length, .slice (some ⟨w.heap.size + 1 + 1 + 1 + 1 + 1, 0, none⟩) syntaxL.length syntaxL.length] 146)) w.heap.size (w.heap.size + 1 + 1 + 1 + 1 + 1 + 1) ∧ Below w.heap.size w (((((((w.alloc (.cells #[] 129)).alloc (.cells (primsL.map strV).toArray 9)).alloc (.cells (flowsL.map strV).toArray 9)).alloc (.cells (innersL.map strV).toArray 9)).alloc (.cells (hostsL.map strV).toArray 9)).alloc (.cells (syntaxL.map strV).toArray 9)).alloc (.cells #[.slice (some ⟨w.heap.size + 1, 0, none⟩) primsL.length primsL.length, .slice (some ⟨w.heap.size + 1 + 1, 0, none⟩) flowsL.length flowsL.length, .slice (some ⟨w.heap.size + 1 + 1 + 1, 0, none⟩) innersL.length innersL.length, .slice (some ⟨w.heap.size + 1 + 1 + 1 + 1, 0, none⟩) hostsL.length hostsL.length, .slice (some ⟨w.heap.size + 1 + 1 + 1 + 1 + 1, 0, none⟩) syntaxL.length syntaxL.length] 146)) ∧ WRow (((((((w.alloc (.cells #[] 129)).alloc (.cells (primsL.map strV).toArray 9)).alloc (.cells (flowsL.map strV).toArray 9)).alloc (.cells (innersL.map strV).toArray 9)).alloc (.cells (hostsL.map strV).toArray 9)).alloc (.cells (syntaxL.map strV).toArray 9)).alloc (.cells #[.slice (some ⟨w.heap.size + 1, 0, none⟩) primsL.length primsL.length, .slice (some ⟨w.heap.size + 1 + 1, 0, none⟩) flowsL.length flowsL.length, .slice (some ⟨w.heap.size + 1 + 1 + 1, 0, none⟩) innersL.length innersL.length, .slice (some ⟨w.heap.size + 1 + 1 + 1 + 1, 0, none⟩) hostsL.length hostsL.length, .slice (some ⟨w.heap.size + 1 + 1 + 1 + 1 + 1, 0, none⟩) syntaxL.length syntaxL.length] 146)) w.heap.size (.slice (some ⟨w.heap.size, 0, none⟩) 0 0) [] := by
  have T0 := txts_lit (w.alloc (.cells #[] 129)) primsL
  have T1 := txts_lit ((w.alloc (.cells #[] 129)).alloc (.cells (primsL.map strV).toArray 9)) flowsL
  have T2 := txts_lit (((w.alloc (.cells #[] 129)).alloc (.cells (primsL.map strV).toArray 9)).alloc (.cells (flowsL.map strV).toArray 9)) innersL
  have T3 := txts_lit ((((w.alloc (.cells #[] 129)).alloc (.cells (primsL.map strV).toArray 9)).alloc (.cells (flowsL.map strV).toArray 9)).alloc (.cells (innersL.map strV).toArray 9)) hostsL
  have T4 := txts_lit (((((w.alloc (.cells #[] 129)).alloc (.cells (primsL.map strV).toArray 9)).alloc (.cells (flowsL.map strV).toArray 9)).alloc (.cells (innersL.map strV).toArray 9)).alloc (.cells (hostsL.map strV).toArray 9)) syntaxL
  have R := wrow_empty w (Nat.le_refl _)
  have B : Below w.heap.size w (((((((w.alloc (.cells #[] 129)).alloc (.cells (primsL.map strV).toArray 9)).alloc (.cells (flowsL.map strV).toArray 9)).alloc (.cells (innersL.map strV).toArray 9)).alloc (.cells (hostsL.map strV).toArray 9)).alloc (.cells (syntaxL.map strV).toArray 9)).alloc (.cells #[.slice (some ⟨w.heap.size + 1, 0, none⟩) primsL.length primsL.length, .slice (some ⟨w.heap.size + 1 + 1, 0, none⟩) flowsL.length flowsL.length, .slice (some ⟨w.heap.size + 1 + 1 + 1, 0, none⟩) innersL.length innersL.length, .slice (some ⟨w.heap.size + 1 + 1 + 1 + 1, 0, none⟩) hostsL.length hostsL.length, .slice (some ⟨w.heap.size + 1 + 1 + 1 + 1 + 1, 0, none⟩) syntaxL.length syntaxL.length] 146)) := below_allocW (below_allocW (below_allocW (below_allocW (below_allocW (below_allocW (below_allocW (Below.refl _ _) _) _) _) _) _) _) _
  have st : ∀ (a : World) (o : Obj), Below a.heap.size a (a.alloc o) := fun a o => below_allocW (Below.refl _ _) _
  refine ⟨?_, B, ?_⟩
  · have h := lists_made (w := ((((((w.alloc (.cells #[] 129)).alloc (.cells (primsL.map strV).toArray 9)).alloc (.cells (flowsL.map strV).toArray 9)).alloc (.cells (innersL.map strV).toArray 9)).alloc (.cells (hostsL.map strV).toArray 9)).alloc (.cells (syntaxL.map strV).toArray 9))) (g0 := w.heap.size) (g := w.heap.size + 1) (by simp; omega) (by omega) (by omega) (by omega) (by omega) (by omega) (by simp)
      (by have h : Txts ((((((w.alloc (.cells #[] 129)).alloc (.cells (primsL.map strV).toArray 9)).alloc (.cells (flowsL.map strV).toArray 9)).alloc (.cells (innersL.map strV).toArray 9)).alloc (.cells (hostsL.map strV).toArray 9)).alloc (.cells (syntaxL.map strV).toArray 9)) (w.alloc (.cells #[] 129)).heap.size primsL := txts_below (txts_below (txts_below (txts_below T0 (st _ _)) (st _ _)) (st _ _)) (st _ _)
          simpa only [alloc_size] using h)
      (by have h : Txts ((((((w.alloc (.cells #[] 129)).alloc (.cells (primsL.map strV).toArray 9)).alloc (.cells (flowsL.map strV).toArray 9)).alloc (.cells (innersL.map strV).toArray 9)).alloc (.cells (hostsL.map strV).toArray 9)).alloc (.cells (syntaxL.map strV).toArray 9)) ((w.alloc (.cells #[] 129)).alloc (.cells (primsL.map strV).toArray 9)).heap.size flowsL := txts_below (txts_below (txts_below T1 (st _ _)) (st _ _)) (st _ _)
          simpa only [alloc_size] using h)
      (by have h : Txts ((((((w.alloc (.cells #[] 129)).alloc (.cells (primsL.map strV).toArray 9)).alloc (.cells (flowsL.map strV).toArray 9)).alloc (.cells (innersL.map strV).toArray 9)).alloc (.cells (hostsL.map strV).toArray 9)).alloc (.cells (syntaxL.map strV).toArray 9)) (((w.alloc (.cells #[] 129)).alloc (.cells (primsL.map strV).toArray 9)).alloc (.cells (flowsL.map strV).toArray 9)).heap.size innersL := txts_below (txts_below T2 (st _ _)) (st _ _)
          simpa only [alloc_size] using h)
      (by have h : Txts ((((((w.alloc (.cells #[] 129)).alloc (.cells (primsL.map strV).toArray 9)).alloc (.cells (flowsL.map strV).toArray 9)).alloc (.cells (innersL.map strV).toArray 9)).alloc (.cells (hostsL.map strV).toArray 9)).alloc (.cells (syntaxL.map strV).toArray 9)) ((((w.alloc (.cells #[] 129)).alloc (.cells (primsL.map strV).toArray 9)).alloc (.cells (flowsL.map strV).toArray 9)).alloc (.cells (innersL.map strV).toArray 9)).heap.size hostsL := txts_below T3 (st _ _)
          simpa only [alloc_size] using h)
      (by have h : Txts ((((((w.alloc (.cells #[] 129)).alloc (.cells (primsL.map strV).toArray 9)).alloc (.cells (flowsL.map strV).toArray 9)).alloc (.cells (innersL.map strV).toArray 9)).alloc (.cells (hostsL.map strV).toArray 9)).alloc (.cells (syntaxL.map strV).toArray 9)) (((((w.alloc (.cells #[] 129)).alloc (.cells (primsL.map strV).toArray 9)).alloc (.cells (flowsL.map strV).toArray 9)).alloc (.cells (innersL.map strV).toArray 9)).alloc (.cells (hostsL.map strV).toArray 9)).heap.size syntaxL := T4
          simpa only [alloc_size] using h)
    simpa only [alloc_size] using h
  · exact wrow_below (wrow_below (wrow_below (wrow_below (wrow_below (wrow_below R (st _ _)) (st _ _)) (st _ _)) (st _ _)) (st _ _)) (st _ _)

set_option maxRecDepth 100000 in
set_option maxHeartbeats 4000000 in
theorem sKernel_any (w : World) : Calls Tryz.prog 229 #[] w (ListOf w kernW) := by
  obtain ⟨hL, hB, hR⟩ := kern_start w
  have HL := Lib.hid hL
  have HB := Lib.hid hB
  have HR := Lib.hid hR
  clear hL hB hR
  have EL : Hid (([primsL.length, flowsL.length, innersL.length, hostsL.length, syntaxL.length] : List Nat) = [52, 4, 6, 4, 17]) := Lib.hid rfl
  go_enter Tryz.func229, Tryz.ntmps229
  go_wp2_with fail
  refine (sPrims_any _).mono ?_
  rintro e w1 ⟨rfl, rfl⟩
  go_wp2_with fail
  refine (sFlows_any _).mono ?_
  rintro e w1 ⟨rfl, rfl⟩
  go_wp2_with fail
  refine (sInners_any _).mono ?_
  rintro e w1 ⟨rfl, rfl⟩
  go_wp2_with fail
  refine (sHosts_any _).mono ?_
  rintro e w1 ⟨rfl, rfl⟩
  go_wp2_with fail
  refine (sSyntax_any _).mono ?_
  rintro e w1 ⟨rfl, rfl⟩
  go_wp2_with fail
  generalize hW : (((((((w.alloc (.cells #[] 129)).alloc (.cells (primsL.map strV).toArray 9)).alloc (.cells (flowsL.map strV).toArray 9)).alloc (.cells (innersL.map strV).toArray 9)).alloc (.cells (hostsL.map strV).toArray 9)).alloc (.cells (syntaxL.map strV).toArray 9)).alloc (.cells #[.slice (some ⟨w.heap.size + 1, 0, none⟩) primsL.length primsL.length, .slice (some ⟨w.heap.size + 1 + 1, 0, none⟩) flowsL.length flowsL.length, .slice (some ⟨w.heap.size + 1 + 1 + 1, 0, none⟩) innersL.length innersL.length, .slice (some ⟨w.heap.size + 1 + 1 + 1 + 1, 0, none⟩) hostsL.length hostsL.length, .slice (some ⟨w.heap.size + 1 + 1 + 1 + 1 + 1, 0, none⟩) syntaxL.length syntaxL.length] 146)) = W at *
  clear hW
  have hzW := HL.out.2.1
  go_loopw [3, 1] (fun i v wr => ∃ n : Nat, n ≤ 5 ∧ i = .int .i64 n ∧ WRow wr w.heap.size v (kernW.take (koff n)) ∧ (v.ownBlock = some w.heap.size ∨ ∃ g, v.ownBlock = some g ∧ W.heap.size ≤ g) ∧ W.grownBy wr (some w.heap.size)) (fun i _ _ => 5 - (intOf i).toNat)
  case atStart => exact ⟨0, by omega, rfl, HR.out, .inl rfl, World.grownBy.refl _ _⟩
  case round =>
    obtain ⟨n, hn, rfl, hr, ho, hg⟩ := hrel
    have R1 := Lib.hid hr
    have O1 := Lib.hid ho
    have G1 := Lib.hid hg
    clear hr ho hg
    by_cases hlt : n < 5
    · obtain ⟨gl1, gl2, hli⟩ := HL.out
      obtain ⟨g, a1, a2, a3, a4⟩ := hli n hlt
      have A3 : Hid (W.cell? ⟨w.heap.size + 1 + 1 + 1 + 1 + 1 + 1, n, none⟩ = some (.slice (some ⟨g, 0, none⟩) (kcnt n) (kcnt n))) := Lib.hid a3
      have A4 := Lib.hid a4
      have hc52 := kcnt_le n
      have hko := koff_le n
      have KN := Lib.hid (koff_next hlt)
      clear a3 a4 hli
      generalize hc : kcnt n = c at *
      have HC := Lib.hid hc
      clear hc
      go_wp2_with fail
      go_loopw [4, 1] (fun i v wr => ∃ k : Nat, k ≤ c ∧ i = .int .i64 k ∧ WRow wr w.heap.size v (kernW.take (koff n + k)) ∧ (v.ownBlock = some w.heap.size ∨ ∃ g, v.ownBlock = some g ∧ W.heap.size ≤ g) ∧ W.grownBy wr (some w.heap.size)) (fun i _ _ => c - (intOf i).toNat)
      case atStart => exact ⟨0, by omega, rfl, R1.out, O1.out, G1.out⟩
      case round =>
        obtain ⟨k, hk, rfl, hr, ho, hg⟩ := hrel
        have R2 := Lib.hid hr
        have O2 := Lib.hid ho
        have G2 := Lib.hid hg
        have hcell : wr.cell? ⟨w.heap.size + 1 + 1 + 1 + 1 + 1 + 1, n, none⟩ = some (.slice (some ⟨g, 0, none⟩) c c) := hg.cell A3.out (by simp; omega)
        clear hr ho hg
        by_cases hlt2 : k < c
        · have htext : wr.cell? ⟨g, k, none⟩ = some (.string (kname (koff n + k))) := G2.out.cell (A4.out k hlt2) (by simp; omega)
          have KM := Lib.hid (kern_mk hlt (show k < kcnt n by rw [HC.out]; exact hlt2))
          have KS := Lib.hid (kname_small (koff n + k))
          have KT := Lib.hid (kernW_take (show koff n + k < 83 by have := KN.out; have := koff_le (n + 1); omega))
          have hko2 : koff n + k < 83 := by have := KN.out; have := koff_le (n + 1); omega
          generalize kname (koff n + k) = s at *
          have RA := Lib.hid (wrow_below R2.out (below_allocW (Below.refl _ _) (.cells #[.string s, .int .i64 ((n : Int) + 1), .int .i64 ((k : Int) + 1)] 129)))
          have NW := Lib.hid (wdAt_new wr ⟨s, (n : Int) + 1, (k : Int) + 1⟩)
          have NL : Hid ((kernW.take (koff n + k)).length = koff n + k) := Lib.hid (by rw [List.length_take, kernW_len]; omega)
          have hz6 : W.heap.size ≤ wr.heap.size := G2.out.size
          go_wp2_with (at_builtin; refine wpList_append_words rfl _ _ rfl w.heap.size u1 (kernW.take (koff n + k)) rfl RA.out wr.heap.size 1 1 [⟨s, (n : Int) + 1, (k : Int) + 1⟩] rfl rfl NW.out (names_one (by have := KS.out; unfold maxLen; show s.size ≤ _; omega)) (by rw [NL.out]; simp; omega) (by simp; omega) ?_
                       intro v' wx hrow hgrow hnil hat
                       have RX : Hid (WRow wx w.heap.size v' (kernW.take (koff n + (k + 1)))) := Lib.hid (by rw [← Nat.add_assoc, KT.out, KM.out]; exact hrow)
                       have GX : Hid (W.grownBy wx (some w.heap.size)) := Lib.hid (gb_step (gb_trans G2.out (World.grownBy_alloc _ _ _)) hgrow (fun x hx => by
                         rcases O2.out with h | ⟨y, h, hy⟩ <;> rw [h] at hx <;> simp at hx <;> omega))
                       have OX : Hid (v'.ownBlock = some w.heap.size ∨ ∃ g, v'.ownBlock = some g ∧ W.heap.size ≤ g) := Lib.hid (by
                         rcases hat with h | h
                         · rw [h]; exact O2.out
                         · exact .inr ⟨_, h, by simp; omega⟩)
                       clear hrow hgrow hnil hat)
          go_roundw
          case rel => exact ⟨k + 1, by omega, by go_num, RX.out, OX.out, GX.out⟩
          case measure => simp [intOf]; omega
        · obtain rfl : k = c := by omega
          clear hlt2
          have RN : Hid (WRow wr w.heap.size u1 (kernW.take (koff (n + 1)))) := Lib.hid (by rw [← KN.out]; exact R2.out)
          go_wp2
          go_roundw
          case rel => exact ⟨n + 1, by omega, by go_num, RN.out, O2.out, G2.out⟩
          case measure => simp [intOf]; omega
    · obtain rfl : n = 5 := by omega
      clear hlt
      go_wp2
      go_ret
      refine ⟨u1, rfl, by have h := R1.out; rwa [show kernW.take (koff 5) = kernW from List.take_of_length_le (by rw [kernW_len]; decide)] at h, ?_, HB.out.grown G1.out HB.out.size (fun x hx => by simp at hx; omega)⟩
      rcases O1.out with h | ⟨y, h, _⟩ <;> rw [h] <;> simp

end Go.Proofs.YthnbaeamekolmaaGreatDoor
