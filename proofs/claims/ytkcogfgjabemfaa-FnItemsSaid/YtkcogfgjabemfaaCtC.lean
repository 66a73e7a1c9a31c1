/- The given side's CheckItems, SizeOf, OpenAt; impl's OpenAt. -/
import Derived.Test.YtkcogfgjabemfaaCtB
namespace Go.Proofs.Ytkcogfgjabemfaa
open Go.RowKit
set_option linter.unusedVariables false
set_option linter.unusedSimpArgs false

theorem row_fresh (w : World) {base : Nat} (hb : base ≤ w.heap.size) : Row (w.alloc (.cells #[] 3)) base (.slice (some ⟨w.heap.size, 0, none⟩) 0 0) [] :=
  World.ownsRow_made w #[] 0 hb (by unfold maxLen; omega) rfl

theorem irow_room {w : World} {lo n k : Nat} {A : Option Addr} {Q : List It} (h : IRow w lo (.slice A n k) Q) : n ≤ k := by
  rcases h.2 with ⟨hv, h0⟩ | ⟨g', cap', cur, hv, hb', hg, h1, h2, h3, h4⟩
  · simp only [Value.slice.injEq] at hv
    omega
  · simp only [Value.slice.injEq] at hv
    obtain ⟨_, rfl, rfl⟩ := hv
    omega

/-- What l07Check comes to: the first item that does not fit. -/
def placeI (Q : List It) : Int × Int := if (goO Q []).1 < Q.length ∨ 0 < (goO Q []).2.length then (((goO Q []).1 : Int), 12) else (0, 0)

set_option maxRecDepth 100000 in
set_option maxHeartbeats 2000000 in
theorem sPlace_any (v : Value) (Q : List It) (w : World) (hv : Its w v Q) (hl : Q.length ≤ 60) (hq : ∀ x ∈ Q, itB x = true) :
    Calls Try.prog 71 #[v] w (TwoOf w (placeI Q)) := by
  have HV := Lib.hid hv
  have HQ := Lib.hid hq
  obtain ⟨_, A, cap, rfl, _⟩ := hv
  clear hq
  have R0 : Hid (Row (w.alloc (.cells #[] 3)) w.heap.size (.slice (some ⟨w.heap.size, 0, none⟩) 0 0) []) := Lib.hid (row_fresh w (Nat.le_refl _))
  have B0 : Hid (Below w.heap.size w (w.alloc (.cells #[] 3))) := Lib.hid (below_alloc (Below.refl _ _) _)
  go_enter Try.func71, Try.ntmps71
  go_wp2
  go_loopw [4, 5] (fun v i wr => ∃ (k : Nat) (o : List Int), k ≤ Q.length ∧ i = .int .i64 k ∧ Got Q k o ∧ Row wr w.heap.size v o ∧ Below w.heap.size w wr) (fun _ i _ => Q.length - (intOf i).toNat)
  case atStart => exact ⟨0, [], Nat.zero_le _, rfl, got_start Q, R0.out, B0.out⟩
  case round =>
    obtain ⟨k, o, hk, rfl, hg, hm, hb⟩ := hrel
    have HG := Lib.hid hg
    have HM := Lib.hid hm
    have HB := Lib.hid hb
    have zb : w.heap.size ≤ wr.heap.size := hb.size
    have ho : o.length ≤ 60 := by have := got_len hg; omega
    obtain ⟨_, C, c, rfl, _⟩ := row_ints hm
    clear hg hb hm
    by_cases hlt : k < Q.length
    · obtain ⟨_, A', ca', e', hc⟩ := its_below HV.out HB.out
      simp only [Value.slice.injEq, true_and] at e'
      obtain ⟨rfl, rfl⟩ := e'
      obtain ⟨ga, rfl, ha⟩ := hc (by omega)
      obtain ⟨c0, c1⟩ := ha k hlt
      have hi := itB_kind (HQ.out Q[k] (List.getElem_mem hlt))
      clear ha hc
      go_wp2_with fail
      refine (sStep_any _ w.heap.size _ o Q[k].k HM.out (by omega) zb hi).mono ?_
      rintro e w2 ⟨u, rfl, hr2, hb2⟩
      have B2 := Lib.hid (below_step HB.out hb2)
      have R2 := Lib.hid hr2
      clear hb2 c0 c1 hr2
      by_cases hf : fitB o Q[k].k = true
      · have G2 := Lib.hid (got_fit HG.out hlt hf)
        rw [hf]
        clear hf
        go_wp2
        go_roundw
        case rel => exact ⟨k + 1, _, by omega, by go_num, G2.out, R2.out, B2.out⟩
        case measure => simp [intOf]; omega
      · have hf : fitB o Q[k].k = false := by simpa using hf
        have G2 := Lib.hid (got_not HG.out hlt hf)
        have EP : Hid (placeI Q = ((k : Int), 12)) := Lib.hid (by unfold placeI; rw [G2.out]; rw [if_pos (.inl hlt)])
        rw [hf]
        clear hf
        go_wp2
        go_ret2
        exact ⟨by rw [EP.out]; rfl, B2.out⟩
    · obtain rfl : k = Q.length := by omega
      have G2 := Lib.hid (got_end HG.out)
      clear hlt
      by_cases hz : o.length = 0
      · obtain rfl : o = [] := List.eq_nil_of_length_eq_zero hz
        have EP : Hid (placeI Q = (0, 0)) := Lib.hid (by unfold placeI; rw [G2.out]; rw [if_neg (by simp)])
        clear hz ho
        go_wp2
        go_ret2
        exact ⟨by rw [EP.out]; rfl, HB.out⟩
      · have EP : Hid (placeI Q = ((Q.length : Int), 12)) := Lib.hid (by unfold placeI; rw [G2.out]; rw [if_pos (.inr (by simp; omega))])
        have t1 : (0 : Int) < (o.length : Int) := by omega
        clear hz
        go_wp2
        go_ret2
        exact ⟨by rw [EP.out]; rfl, HB.out⟩

set_option maxRecDepth 100000 in
set_option maxHeartbeats 1000000 in
theorem sCheck_any (v : Value) (Q : List It) (w : World) (hv : Its w v Q) :
    Calls Try.prog 20 #[v] w (TwoOf w (chkI Q)) := by
  have HV := Lib.hid hv
  obtain ⟨hl, A, cap, rfl, _⟩ := hv
  unfold maxLen at hl
  by_cases hb : 4096 < Q.length
  · have t1 : (4096 : Int) < (Q.length : Int) := by omega
    have EF : Hid (chkI Q = (0, 2)) := Lib.hid (by unfold chkI askI; rw [if_pos (by rw [if_pos hb]; decide), if_pos hb])
    clear hb
    go_enter Try.func20, Try.ntmps20
    go_wp2
    go_ret2
    exact ⟨by rw [EF.out]; rfl, Below.refl _ _⟩
  have t1 : ¬ (4096 : Int) < (Q.length : Int) := by omega
  clear hb
  by_cases h0 : askI Q = 0
  · obtain ⟨h1, h2⟩ := askI_ok h0
    have HQ := Lib.hid h2
    have H0 := Lib.hid h0
    have EF : Hid (chkI Q = placeI Q) := Lib.hid (by unfold chkI placeI; rw [if_neg (by simpa using h0)])
    clear h0 h2
    go_enter Try.func20, Try.ntmps20
    go_wp2_with fail
    refine (sAsk_any _ Q _ HV.out).mono ?_
    rintro e w1 ⟨rfl, hb1⟩
    rw [H0.out]
    go_wp2_with fail
    refine (sPlace_any _ Q _ (its_below HV.out hb1) h1 HQ.out).mono ?_
    rintro e w2 ⟨rfl, hb2⟩
    go_wp2
    go_ret2
    exact ⟨by rw [EF.out]; rfl, below_step hb1 hb2⟩
  · have EF : Hid (chkI Q = (0, askI Q)) := Lib.hid (by unfold chkI; rw [if_pos h0])
    have t0 : (askI Q != 0) = true := by simpa using h0
    clear h0
    go_enter Try.func20, Try.ntmps20
    go_wp2_with fail
    refine (sAsk_any _ Q _ HV.out).mono ?_
    rintro e w1 ⟨rfl, hb1⟩
    go_wp2
    go_ret2
    exact ⟨by rw [EF.out]; rfl, hb1⟩

set_option maxRecDepth 100000 in
set_option maxHeartbeats 1000000 in
theorem sSum_any (v : Value) (Q : List It) (w : World) (hv : Its w v Q) (hl : Q.length ≤ 60) :
    Calls Try.prog 75 #[v] w fun e w' => e = .returned (.int .i64 ((sumI Q + 1 : Nat) : Int)) ∧ Below w.heap.size w w' := by
  have HV := Lib.hid hv
  obtain ⟨_, A, cap, rfl, _⟩ := hv
  go_enter Try.func75, Try.ntmps75
  go_wp2
  go_loopw [3, 4] (fun s i wr => ∃ k : Nat, k ≤ Q.length ∧ i = .int .i64 k ∧ s = .int .i64 ((sumI (Q.take k) + 1 : Nat) : Int) ∧ Below w.heap.size w wr) (fun _ i _ => Q.length - (intOf i).toNat)
  case atStart => exact ⟨0, Nat.zero_le _, rfl, rfl, Below.refl _ _⟩
  case round =>
    obtain ⟨k, hk, rfl, rfl, hb⟩ := hrel
    have HB := Lib.hid hb
    clear hb
    by_cases hlt : k < Q.length
    · obtain ⟨_, A', ca', e', hc⟩ := its_below HV.out HB.out
      simp only [Value.slice.injEq, true_and] at e'
      obtain ⟨rfl, rfl⟩ := e'
      obtain ⟨ga, rfl, ha⟩ := hc (by omega)
      obtain ⟨c0, c1⟩ := ha k hlt
      have ES := Lib.hid (sumI_take hlt)
      have q1 : sumI (Q.take k) ≤ 120 := by have := sumI_le (Q.take k); rw [List.length_take] at this; omega
      have q2 := cellsI_le Q[k].k
      generalize sumI (Q.take k) = s at *
      clear ha hc
      go_wp2_with fail
      refine (sCellsOf_any _ _).mono ?_
      rintro e w2 ⟨rfl, rfl⟩
      generalize cellsI Q[k].k = c at *
      go_wp2
      go_roundw
      case rel => exact ⟨k + 1, by omega, by go_num, by rw [ES.out]; go_num, HB.out⟩
      case measure => simp [intOf]; omega
    · obtain rfl : k = Q.length := by omega
      clear hlt
      go_wp2
      go_ret
      exact ⟨ret_int (by rw [List.take_length]), HB.out⟩

set_option maxRecDepth 100000 in
set_option maxHeartbeats 1000000 in
theorem sSize_any (v : Value) (Q : List It) (w : World) (hv : Its w v Q) :
    Calls Try.prog 26 #[v] w (TwoOf w (sizeI Q)) := by
  have HV := Lib.hid hv
  obtain ⟨hl, A, cap, rfl, _⟩ := hv
  unfold maxLen at hl
  by_cases hb : 4096 < Q.length
  · have t1 : (4096 : Int) < (Q.length : Int) := by omega
    have EF : Hid (sizeI Q = (0, 2)) := Lib.hid (by unfold sizeI askI; rw [if_pos (by rw [if_pos hb]; decide), if_pos hb])
    clear hb
    go_enter Try.func26, Try.ntmps26
    go_wp2
    go_ret2
    exact ⟨by rw [EF.out]; rfl, Below.refl _ _⟩
  have t1 : ¬ (4096 : Int) < (Q.length : Int) := by omega
  clear hb
  by_cases h0 : askI Q = 0
  · obtain ⟨h1, h2⟩ := askI_ok h0
    have H0 := Lib.hid h0
    have EF : Hid (sizeI Q = ((sumI Q : Int) + 1, 0)) := Lib.hid (by unfold sizeI; rw [if_neg (by simpa using h0)])
    clear h0 h2
    go_enter Try.func26, Try.ntmps26
    go_wp2_with fail
    refine (sAsk_any _ Q _ HV.out).mono ?_
    rintro e w1 ⟨rfl, hb1⟩
    rw [H0.out]
    go_wp2_with fail
    refine (sSum_any _ Q _ (its_below HV.out hb1) h1).mono ?_
    rintro e w2 ⟨rfl, hb2⟩
    go_wp2
    go_ret2
    exact ⟨by rw [EF.out]; rfl, below_step hb1 hb2⟩
  · have EF : Hid (sizeI Q = (0, askI Q)) := Lib.hid (by unfold sizeI; rw [if_pos h0])
    have t0 : (askI Q != 0) = true := by simpa using h0
    clear h0
    go_enter Try.func26, Try.ntmps26
    go_wp2_with fail
    refine (sAsk_any _ Q _ HV.out).mono ?_
    rintro e w1 ⟨rfl, hb1⟩
    go_wp2
    go_ret2
    exact ⟨by rw [EF.out]; rfl, hb1⟩

/-- A list of numbers and a code. -/
def ListCOf (w : World) (p : List Int × Int) (e : Ending) (w' : World) : Prop := ∃ v, e = .returned (.tuple #[v, .int .i64 p.2]) ∧ Row w' w.heap.size v p.1 ∧ Below w.heap.size w w'

set_option maxRecDepth 100000 in
set_option maxHeartbeats 2000000 in
theorem iOpen_any (v : Value) (Q : List It) (p : Int) (w : World) {base : Nat} (hw : IRow w base v Q) (hp : (Lit.int .i64 p).wf = true) :
    Calls Try.prog 22 #[v, .int .i64 p] w (ListCOf w (openI Q p)) := by
  have hv := irow_its hw
  have HV := Lib.hid hv
  obtain ⟨hl, A, cap, rfl, _⟩ := hv
  have hroom := irow_room hw
  clear hw
  unfold maxLen at hl
  by_cases h0 : askI Q = 0
  · obtain ⟨h1, h2⟩ := askI_ok h0
    have HQ := Lib.hid h2
    have H0 := Lib.hid h0
    have EA : Hid (openI Q p = if p < 0 ∨ (Q.length : Int) < p then ([], 4) else if (goO (Q.take p.toNat) []).1 < p.toNat then ([], 12) else ((goO (Q.take p.toNat) []).2, 0)) := Lib.hid (by unfold openI; rw [if_neg (by simpa using h0)])
    clear h0 h2
    by_cases hneg : p < 0
    · have EF : Hid (openI Q p = ([], 4)) := Lib.hid (by rw [EA.out, if_pos (.inl hneg)])
      go_enter Try.func22, Try.ntmps22
      go_wp2_with fail
      refine (itemsCode_any _ Q _ HV.out).mono ?_
      rintro e w1 ⟨rfl, hb1⟩
      rw [H0.out]
      go_wp2
      go_ret2
      exact ⟨_, by rw [EF.out]; rfl, by rw [EF.out]; exact row_nil _ _, hb1⟩
    by_cases hbig : (Q.length : Int) < p
    · have EF : Hid (openI Q p = ([], 4)) := Lib.hid (by rw [EA.out, if_pos (.inr hbig)])
      have hneg' : ¬ p < 0 := hneg
      go_enter Try.func22, Try.ntmps22
      go_wp2_with fail
      refine (itemsCode_any _ Q _ HV.out).mono ?_
      rintro e w1 ⟨rfl, hb1⟩
      rw [H0.out]
      go_wp2
      go_ret2
      exact ⟨_, by rw [EF.out]; rfl, by rw [EF.out]; exact row_nil _ _, hb1⟩
    obtain ⟨n, rfl⟩ : ∃ n : Nat, p = n := ⟨p.toNat, by omega⟩
    have hn : n ≤ Q.length := by omega
    have EB : Hid (openI Q n = if (goO (Q.take n) []).1 < n then ([], 12) else ((goO (Q.take n) []).2, 0)) := Lib.hid (by rw [EA.out, if_neg (by omega)]; simp)
    have hcap : n ≤ cap := by omega
    have HT := Lib.hid (fun x (hx : x ∈ Q.take n) => HQ.out x (List.mem_of_mem_take hx))
    have hg1 : (goO (Q.take n) []).1 ≤ n := by have := goO_le (Q.take n) []; rw [List.length_take] at this; omega
    obtain ⟨r, hr⟩ : ∃ r, goO (Q.take n) [] = r := ⟨_, rfl⟩
    obtain ⟨m, o⟩ := r
    rw [hr] at EB hg1
    simp only at EB hg1
    have HG := Lib.hid hr
    have hl2 : (Q.take n).length ≤ 60 := by rw [List.length_take]; omega
    clear EA hneg hbig hr
    by_cases hm : m < n
    · have EF : Hid (openI Q n = ([], 12)) := Lib.hid (by rw [EB.out, if_pos hm])
      have t1 : (m : Int) < (n : Int) := by omega
      clear EB hm
      go_enter Try.func22, Try.ntmps22
      go_wp2_with fail
      refine (itemsCode_any _ Q _ HV.out).mono ?_
      rintro e w1 ⟨rfl, hb1⟩
      rw [H0.out]
      go_wp2_with fail
      refine (openStructs_any _ (Q.take n) _ (its_upto (its_below HV.out hb1) hn) hl2 HT.out).mono ?_
      rintro e w2 ⟨u, rfl, hr, hb2⟩
      rw [HG.out] at hr ⊢
      go_wp2
      go_ret2
      exact ⟨_, by rw [EF.out]; rfl, by rw [EF.out]; exact row_nil _ _, below_step hb1 hb2⟩
    · have EF : Hid (openI Q n = (o, 0)) := Lib.hid (by rw [EB.out, if_neg hm])
      obtain rfl : m = n := by omega
      clear EB hm
      go_enter Try.func22, Try.ntmps22
      go_wp2_with fail
      refine (itemsCode_any _ Q _ HV.out).mono ?_
      rintro e w1 ⟨rfl, hb1⟩
      rw [H0.out]
      go_wp2_with fail
      refine (openStructs_any _ (Q.take m) _ (its_upto (its_below HV.out hb1) hn) hl2 HT.out).mono ?_
      rintro e w2 ⟨u, rfl, hr, hb2⟩
      rw [HG.out] at hr ⊢
      have R2 := Lib.hid (row_base hr hb1.size)
      clear hr
      go_wp2
      go_ret2
      exact ⟨_, by rw [EF.out]; rfl, by rw [EF.out]; exact R2.out, below_step hb1 hb2⟩
  · have EF : Hid (openI Q p = ([], askI Q)) := Lib.hid (by unfold openI; rw [if_pos h0])
    have t0 : (askI Q != 0) = true := by simpa using h0
    clear h0
    go_enter Try.func22, Try.ntmps22
    go_wp2_with fail
    refine (itemsCode_any _ Q _ HV.out).mono ?_
    rintro e w1 ⟨rfl, hb1⟩
    go_wp2
    go_ret2
    exact ⟨_, by rw [EF.out]; rfl, by rw [EF.out]; exact row_nil _ _, hb1⟩

set_option maxRecDepth 100000 in
set_option maxHeartbeats 2000000 in
theorem sOpen_any (v : Value) (Q : List It) (p : Int) (w : World) (hv : Its w v Q) (hp : (Lit.int .i64 p).wf = true) :
    Calls Try.prog 24 #[v, .int .i64 p] w (ListCOf w (openI Q p)) := by
  have HV := Lib.hid hv
  obtain ⟨hl, A, cap, rfl, _⟩ := hv
  unfold maxLen at hl
  by_cases hb : 4096 < Q.length
  · have t1 : (4096 : Int) < (Q.length : Int) := by omega
    have EF : Hid (openI Q p = ([], 2)) := Lib.hid (by unfold openI askI; rw [if_pos (by rw [if_pos hb]; decide), if_pos hb])
    clear hb
    go_enter Try.func24, Try.ntmps24
    go_wp2
    go_ret2
    exact ⟨_, by rw [EF.out]; rfl, by rw [EF.out]; exact row_fresh _ (Nat.le_refl _), below_alloc (Below.refl _ _) _⟩
  have t1 : ¬ (4096 : Int) < (Q.length : Int) := by omega
  clear hb
  by_cases h0 : askI Q = 0
  · obtain ⟨h1, h2⟩ := askI_ok h0
    have HQ := Lib.hid h2
    have H0 := Lib.hid h0
    have EA : Hid (openI Q p = if p < 0 ∨ (Q.length : Int) < p then ([], 4) else if (goO (Q.take p.toNat) []).1 < p.toNat then ([], 12) else ((goO (Q.take p.toNat) []).2, 0)) := Lib.hid (by unfold openI; rw [if_neg (by simpa using h0)])
    clear h0 h2
    by_cases hr : p < 0 ∨ (Q.length : Int) < p
    · have EF : Hid (openI Q p = ([], 4)) := Lib.hid (by rw [EA.out, if_pos hr])
      have IN : Hid (inB p 0 Q.length = false) := Lib.hid (by unfold inB; rw [decide_eq_false (by omega)])
      clear hr
      go_enter Try.func24, Try.ntmps24
      go_wp2_with fail
      refine (sAsk_any _ Q _ HV.out).mono ?_
      rintro e w1 ⟨rfl, hb1⟩
      rw [H0.out]
      go_wp2_with (refine (sIn_any _ _ _ _).mono ?_; rintro e w' ⟨rfl, rfl⟩; rw [IN.out])
      go_ret2
      exact ⟨_, by rw [EF.out]; rfl, by rw [EF.out]; exact row_fresh _ hb1.size, below_alloc hb1 _⟩
    obtain ⟨n, rfl⟩ : ∃ n : Nat, p = n := ⟨p.toNat, by omega⟩
    have hn : n ≤ Q.length := by omega
    have EB : Hid (openI Q n = if (goO (Q.take n) []).1 < n then ([], 12) else ((goO (Q.take n) []).2, 0)) := Lib.hid (by rw [EA.out, if_neg (by omega)]; simp)
    have IN : Hid (inB (n : Int) 0 Q.length = true) := Lib.hid (by unfold inB; rw [decide_eq_true (by omega)])
    have LT : Hid ((Q.take n).length = n) := Lib.hid (by rw [List.length_take]; omega)
    clear EA hr
    go_enter Try.func24, Try.ntmps24
    go_wp2_with fail
    refine (sAsk_any _ Q _ HV.out).mono ?_
    rintro e w1 ⟨rfl, hb1⟩
    rw [H0.out]
    have R0 : Hid (Row (w1.alloc (.cells #[] 3)) w.heap.size (.slice (some ⟨w1.heap.size, 0, none⟩) 0 0) []) := Lib.hid (row_fresh w1 hb1.size)
    have B0 : Hid (Below w.heap.size w (w1.alloc (.cells #[] 3))) := Lib.hid (below_alloc hb1 _)
    clear hb1
    go_wp2_with (refine (sIn_any _ _ _ _).mono ?_; rintro e w' ⟨rfl, rfl⟩; rw [IN.out])
    go_loopw [7, 8] (fun v i wr => ∃ (k : Nat) (o : List Int), k ≤ n ∧ i = .int .i64 k ∧ Got (Q.take n) k o ∧ Row wr w.heap.size v o ∧ Below w.heap.size w wr) (fun _ i _ => n - (intOf i).toNat)
    case atStart => exact ⟨0, [], Nat.zero_le _, rfl, got_start _, R0.out, B0.out⟩
    case round =>
      obtain ⟨k, o, hk, rfl, hg, hm, hb⟩ := hrel
      have HG := Lib.hid hg
      have HM := Lib.hid hm
      have HB := Lib.hid hb
      have zb : w.heap.size ≤ wr.heap.size := hb.size
      have ho : o.length ≤ 60 := by have := got_len hg; omega
      have HI := Lib.hid (row_ints hm)
      obtain ⟨_, C, c, rfl, _⟩ := row_ints hm
      clear hg hb hm
      by_cases hlt : k < n
      · have hltQ : k < Q.length := by omega
        obtain ⟨_, A', ca', e', hc⟩ := its_below HV.out HB.out
        simp only [Value.slice.injEq, true_and] at e'
        obtain ⟨rfl, rfl⟩ := e'
        obtain ⟨ga, rfl, ha⟩ := hc (by omega)
        obtain ⟨c0, c1⟩ := ha k hltQ
        have hi := itB_kind (HQ.out Q[k] (List.getElem_mem hltQ))
        have EX : Hid ((Q.take n)[k]'(by rw [LT.out]; exact hlt) = Q[k]) := Lib.hid (by rw [List.getElem_take])
        clear ha hc
        go_wp2_with fail
        refine (sStep_any _ w.heap.size _ o Q[k].k HM.out (by omega) zb hi).mono ?_
        rintro e w2 ⟨u, rfl, hr2, hb2⟩
        have B2 := Lib.hid (below_step HB.out hb2)
        have R2 := Lib.hid hr2
        clear hb2 c0 c1 hr2
        by_cases hf : fitB o Q[k].k = true
        · have G2 : Hid (Got (Q.take n) (k + 1) (nextO o Q[k].k)) := Lib.hid (by
            have h := got_fit HG.out (by rw [LT.out]; exact hlt) (by rw [EX.out]; exact hf)
            rwa [EX.out] at h)
          rw [hf]
          clear hf
          go_wp2
          go_roundw
          case rel => exact ⟨k + 1, _, by omega, by go_num, G2.out, R2.out, B2.out⟩
          case measure => simp [intOf]; omega
        · have hf : fitB o Q[k].k = false := by simpa using hf
          have EP : Hid (openI Q n = ([], 12)) := Lib.hid (by
            rw [EB.out, got_not HG.out (by rw [LT.out]; exact hlt) (by rw [EX.out]; exact hf), if_pos hlt])
          rw [hf]
          clear hf
          go_wp2
          go_ret2
          exact ⟨_, by rw [EP.out]; rfl, by rw [EP.out]; exact row_fresh _ B2.out.size, below_alloc B2.out _⟩
      · obtain rfl : k = n := by omega
        have EP : Hid (openI Q k = (o, 0)) := Lib.hid (by
          have h := HG.out
          rw [show Got (Q.take k) k o = Got (Q.take k) (Q.take k).length o by rw [LT.out]] at h
          rw [EB.out, got_end h, LT.out, if_neg hlt])
        clear hlt
        go_wp2_with (at_builtin; refine wpList_append_new rfl (.tmp 47) (.tmp 48) rfl rfl _ rfl (by simp) (.slice C o.length c) o rfl HI.out (by omega) ?_
                     intro B1 m1 w2 hr1 hb1
                     have R1 := Lib.hid (row_base hr1 zb)
                     have S1 := Lib.hid (below_step HB.out hb1)
                     clear hr1 hb1)
        go_ret2
        exact ⟨_, by rw [EP.out]; rfl, by rw [EP.out]; exact R1.out, S1.out⟩
  · have EF : Hid (openI Q p = ([], askI Q)) := Lib.hid (by unfold openI; rw [if_pos h0])
    have t0 : (askI Q != 0) = true := by simpa using h0
    clear h0
    go_enter Try.func24, Try.ntmps24
    go_wp2_with fail
    refine (sAsk_any _ Q _ HV.out).mono ?_
    rintro e w1 ⟨rfl, hb1⟩
    go_wp2
    go_ret2
    exact ⟨_, by rw [EF.out]; rfl, by rw [EF.out]; exact row_fresh _ hb1.size, below_alloc hb1 _⟩

theorem openI_small (Q : List It) (p : Int) : (openI Q p).1.length ≤ 1000 := by
  unfold openI
  by_cases h0 : askI Q = 0
  · obtain ⟨h1, _⟩ := askI_ok h0
    have h2 := goO_len (Q.take p.toNat) []
    rw [List.length_take] at h2
    rw [if_neg (by simpa using h0)]
    split
    · simp
    · split
      · simp
      · show (goO (Q.take p.toNat) []).2.length ≤ 1000
        simp only [List.length_nil, Nat.zero_add] at h2; omega
  · rw [if_pos h0]; simp

end Go.Proofs.Ytkcogfgjabemfaa
