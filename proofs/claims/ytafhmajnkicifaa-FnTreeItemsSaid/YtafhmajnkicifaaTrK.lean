/- The tree of items: both sides. -/
import Derived.Test.YtafhmajnkicifaaTrT
import Derived.Test.YtafhmajnkicifaaTrJ
import Derived.Test.YtafhmajnkicifaaMkC
namespace Go.Proofs.Ytafhmajnkicifaa
open Go.RowKit
set_option linter.unusedVariables false
set_option linter.unusedSimpArgs false

/-- What TreeOf comes to: its tree. -/
def trI (Q : List It) : List Nd := if (chkI Q).2 = 0 then treeI Q else []

theorem chk_good {Q : List It} (h : (chkI Q).2 = 0) : Q.length ≤ 60 ∧ (∀ x ∈ Q, itB x = true) ∧ askI Q = 0 ∧ Good Q [] := by
  unfold chkI at h
  by_cases h0 : askI Q = 0
  · rw [if_neg (by simpa using h0)] at h
    obtain ⟨h1, h2⟩ := askI_ok h0
    refine ⟨h1, h2, h0, fun x hx => itB_kind (h2 x hx), ?_⟩
    by_cases h3 : (goO Q []).1 < Q.length ∨ 0 < (goO Q []).2.length
    · rw [if_pos h3] at h; cases h
    · have h4 := goO_le Q []
      refine Prod.ext ?_ (List.eq_nil_of_length_eq_zero ?_)
      · show (goO Q []).1 = Q.length; omega
      · show (goO Q []).2.length = 0; omega
  · rw [if_pos h0] at h; exact absurd h h0

theorem prs_size (n : Nat) : ∀ (d : Nat) (Q : List It), szT d (prs n Q).1 + (prs n Q).2.2.length ≤ Q.length := by
  induction n with
  | zero => intro d Q; simp [prs, szT_nil]
  | succ n ih =>
    intro d Q
    cases Q with
    | nil => simp [prs, szT_nil]
    | cons x R =>
      cases d with
      | zero =>
        have h := prs_len (n + 1) (x :: R)
        show 0 + _ ≤ _
        omega
      | succ d =>
        have a1 := ih d R
        have a2 := ih d (prs n R).2.2
        have b1 := ih (d + 1) R
        have b2 := ih (d + 1) (prs n R).2.2
        have b3 := ih (d + 1) (prs n (prs n R).2.2).2.2
        simp only [List.length_cons]
        unfold prs
        repeat' split
        all_goals (simp only [szT_cons, szT_nil, Nd.a, Nd.b])
        all_goals omega

theorem trI_size (d : Nat) (Q : List It) : szT d (trI Q) ≤ 60 := by
  unfold trI
  by_cases h : (chkI Q).2 = 0
  · rw [if_pos h]
    have h1 := (chk_good h).1
    have h2 := prs_size (Q.length + 1) d Q
    unfold treeI; omega
  · rw [if_neg h, szT_nil]; omega

/-- What the program's TreeOf leaves. -/
def TreeOfI (Q : List It) (w : World) (e : Ending) (w' : World) : Prop :=
  ∃ A n c, e = .returned (.tuple #[.slice A n c, .int .i64 (chkI Q).2]) ∧ TOwn 9 w' w.heap.size w'.heap.size (.slice A n c) (trI Q) ∧ Below w.heap.size w w'

/-- What the reference's TreeOf leaves. -/
def TreeOfS (Q : List It) (w : World) (e : Ending) (w' : World) : Prop :=
  ∃ A n c, e = .returned (.tuple #[.slice A n c, .int .i64 (chkI Q).2]) ∧ SPart 9 w.heap.size w' none (.slice A n c) (trI Q) ∧ Below w.heap.size w w'

set_option maxRecDepth 100000 in
set_option maxHeartbeats 2000000 in
theorem iTree_any (v : Value) (Q : List It) (w : World) {base : Nat} (hv : IRow w base v Q) (h0 : 0 < w.heap.size) :
    Calls Try.prog 8 #[v] w (TreeOfI Q w) := by
  have HV := Lib.hid hv
  have hi := irow_its hv
  obtain ⟨_, A, cap, rfl, _⟩ := hi
  obtain ⟨ib, hib, hbl⟩ : ∃ ib, ib < w.heap.size ∧ ∀ ad, A = some ad → 0 < Q.length → ad.block = ib := by
    rcases Nat.eq_zero_or_pos Q.length with z | z
    · exact ⟨0, h0, fun ad _ h => by omega⟩
    · rcases hv.2 with ⟨q, q0⟩ | ⟨g, cap', cur, q, _, hg, _⟩
      · omega
      · simp only [Value.slice.injEq] at q
        obtain ⟨rfl, _, _⟩ := q
        exact ⟨g, (irow_lt hv g rfl).2, fun ad e _ => by simp only [Option.some.injEq] at e; rw [← e]⟩
  have rm := irow_room hv
  clear hv
  by_cases hc : (chkI Q).2 = 0
  · obtain ⟨g1, g2, g3, g4⟩ := chk_good hc
    have TE : Hid (trI Q = treeI Q) := Lib.hid (by unfold trI; rw [if_pos hc])
    have HC := Lib.hid hc
    clear hc g2 g3
    go_enter Try.func8, Try.ntmps8
    go_wp2_with fail
    refine (iCheck_any _ Q _ (irow_its HV.out)).mono ?_
    rintro e w1 ⟨rfl, b1⟩
    have z1 := b1.size
    have B2 : Below w1.heap.size w1 (w1.alloc (.cells #[.slice A Q.length cap] 50)) := below_alloc (Below.refl _ _) _
    have RD : Hid (RdAt (w1.alloc (.cells #[.slice A Q.length cap] 50)) w1.heap.size ib Q) := Lib.hid ⟨A, _, cap, whole_new w1 _ _, its_below (its_below (irow_its HV.out) b1) B2, rm, hbl⟩
    have BB := Lib.hid (below_step b1 B2)
    have C2 := Lib.hid (nodes_any Q [] (w1.alloc (.cells #[.slice A Q.length cap] 50)) w1.heap.size ib (by omega) g4 (by simp) RD.out (by simp; omega) (by omega))
    have WS : Hid ((w1.alloc (.cells #[.slice A Q.length cap] 50)).heap.size = w1.heap.size + 1) := Lib.hid (by simp)
    have PE := Lib.hid (prs_end (Q.length + 1) Q [] (by omega) g4)
    rw [HC.out]
    clear b1 B2 hbl g4
    go_wp2_with fail
    refine C2.out.mono ?_
    rintro e w2 ⟨A2, n2, c2, rfl, t2, r2, gb⟩
    rw [WS.out] at t2
    have z2 : w1.heap.size + 1 ≤ w2.heap.size := by have := gb.size; rw [WS.out] at this; exact this
    have T2 := Lib.hid t2
    have B3 : Hid (Below w.heap.size w w2) := Lib.hid ⟨gb.os.trans BB.out.os, gb.tape.trans BB.out.tape, gb.output.trans BB.out.output, by omega, fun k hk => (gb.block k (by rw [WS.out]; omega) (by simp; omega)).trans (BB.out.block k hk)⟩
    clear t2 r2 gb
    go_wp2
    go_ret2
    refine ⟨A2, n2, c2, by rw [HC.out]; rfl, ?_, B3.out⟩
    rw [TE.out]
    exact town_wide _ T2.out (by omega) (Nat.le_refl _)
  · have TE : Hid (trI Q = []) := Lib.hid (by unfold trI; rw [if_neg hc])
    have t0 : ((chkI Q).2 != 0) = true := by simpa using hc
    clear hc
    go_enter Try.func8, Try.ntmps8
    go_wp2_with fail
    refine (iCheck_any _ Q _ (irow_its HV.out)).mono ?_
    rintro e w1 ⟨rfl, b1⟩
    have B1 := Lib.hid b1
    have z1 := b1.size
    clear b1
    go_wp2
    go_ret2
    refine ⟨none, 0, 0, rfl, ?_, B1.out⟩
    rw [TE.out]
    exact town_nil _ _ z1

set_option maxRecDepth 100000 in
set_option maxHeartbeats 2000000 in
theorem sTree0_any (v : Value) (Q : List It) (w : World) (hv : Its w v Q) (h1 : Q.length ≤ 60) (hg : Good Q []) :
    Calls Try.prog 32 #[v] w fun e w' => ∃ A n c, e = .returned (.slice A n c) ∧ SPart 9 w.heap.size w' none (.slice A n c) (treeI Q) ∧ Below w.heap.size w w' := by
  have C1 := Lib.hid (parse_all (Q.length + 1) Q v (by omega) (by omega) (Q.length + 1) [] 0 w (by omega) (by omega) (by simpa using hg) (by simp) hv)
  obtain ⟨_, A, cap, rfl, _⟩ := hv
  clear hg
  go_enter Try.func32, Try.ntmps32
  go_wp2_with fail
  refine C1.out.mono ?_
  rintro e w1 ⟨A1, n1, c1, p, rfl, s1, _, b1⟩
  have S1 := Lib.hid s1
  have B1 := Lib.hid b1
  clear s1 b1
  go_wp2
  go_ret
  exact ⟨A1, n1, c1, rfl, by simpa [treeI] using S1.out, B1.out⟩

set_option maxRecDepth 100000 in
set_option maxHeartbeats 2000000 in
theorem sTree_any (v : Value) (Q : List It) (w : World) (hv : Its w v Q) :
    Calls Try.prog 9 #[v] w (TreeOfS Q w) := by
  have HV := Lib.hid hv
  obtain ⟨hl, A, cap, rfl, _⟩ := hv
  unfold maxLen at hl
  by_cases hb : 4096 < Q.length
  · have t1 : (4096 : Int) < (Q.length : Int) := by omega
    have EF : Hid (chkI Q = (0, 2)) := Lib.hid (by unfold chkI askI; rw [if_pos (by rw [if_pos hb]; decide), if_pos hb])
    clear hb
    go_enter Try.func9, Try.ntmps9
    go_wp2
    go_ret2
    refine ⟨_, _, _, by rw [EF.out]; rfl, ?_, below_alloc (Below.refl _ _) _⟩
    rw [show trI Q = [] by unfold trI; rw [EF.out]; rfl]
    exact spart_nil _ _ _ _ _ _
  have t1 : ¬ (4096 : Int) < (Q.length : Int) := by omega
  clear hb
  by_cases h0 : askI Q = 0
  · obtain ⟨h1, h2⟩ := askI_ok h0
    have HQ := Lib.hid h2
    have H0 := Lib.hid h0
    have EF : Hid (chkI Q = placeI Q) := Lib.hid (by unfold chkI placeI; rw [if_neg (by simpa using h0)])
    clear h0 h2
    by_cases hc : (chkI Q).2 = 0
    · have HC := Lib.hid hc
      have G4 := Lib.hid (chk_good hc).2.2.2
      have P0 : (placeI Q).2 = 0 := by rw [← EF.out]; exact hc
      have TE : Hid (trI Q = treeI Q) := Lib.hid (by unfold trI; rw [if_pos hc])
      have HP := Lib.hid P0
      clear hc P0
      go_enter Try.func9, Try.ntmps9
      go_wp2_with fail
      refine (sAsk_any _ Q _ HV.out).mono ?_
      rintro e w1 ⟨rfl, hb1⟩
      rw [H0.out]
      have B1 := Lib.hid hb1
      clear hb1
      go_wp2_with fail
      refine (sPlace_any _ Q _ (its_below HV.out B1.out) h1 HQ.out).mono ?_
      rintro e w2 ⟨rfl, hb2⟩
      rw [HP.out]
      have B2 := Lib.hid (below_step B1.out hb2)
      clear hb2
      go_wp2_with fail
      refine (sTree0_any _ Q _ (its_below HV.out B2.out) h1 G4.out).mono ?_
      rintro e w3 ⟨A3, n3, c3, rfl, s3, hb3⟩
      have B3 := Lib.hid (below_step B2.out hb3)
      have S3 := Lib.hid (spart_wide (lo := w.heap.size) (own := none) s3 B2.out.size (fun g hg => by cases hg))
      clear s3 hb3
      go_wp2
      go_ret2
      exact ⟨A3, n3, c3, by rw [HC.out]; rfl, by rw [TE.out]; exact S3.out, B3.out⟩
    · have TE : Hid (trI Q = []) := Lib.hid (by unfold trI; rw [if_neg hc])
      have t0 : ((placeI Q).2 != 0) = true := by rw [← EF.out]; simpa using hc
      clear hc
      go_enter Try.func9, Try.ntmps9
      go_wp2_with fail
      refine (sAsk_any _ Q _ HV.out).mono ?_
      rintro e w1 ⟨rfl, hb1⟩
      rw [H0.out]
      have B1 := Lib.hid hb1
      clear hb1
      go_wp2_with fail
      refine (sPlace_any _ Q _ (its_below HV.out B1.out) h1 HQ.out).mono ?_
      rintro e w2 ⟨rfl, hb2⟩
      have B2 := Lib.hid (below_step B1.out hb2)
      clear hb2
      go_wp2
      go_ret2
      exact ⟨_, _, _, by rw [EF.out]; rfl, by rw [TE.out]; exact spart_nil _ _ _ _ _ _, below_alloc B2.out _⟩
  · have EF : Hid (chkI Q = (0, askI Q)) := Lib.hid (by unfold chkI; rw [if_pos h0])
    have TE : Hid (trI Q = []) := Lib.hid (by unfold trI; rw [EF.out]; exact if_neg h0)
    have t0 : (askI Q != 0) = true := by simpa using h0
    clear h0
    go_enter Try.func9, Try.ntmps9
    go_wp2_with fail
    refine (sAsk_any _ Q _ HV.out).mono ?_
    rintro e w1 ⟨rfl, hb1⟩
    have B1 := Lib.hid hb1
    clear hb1
    go_wp2
    go_ret2
    exact ⟨_, _, _, by rw [EF.out]; rfl, by rw [TE.out]; exact spart_nil _ _ _ _ _ _, below_alloc B1.out _⟩

end Go.Proofs.Ytafhmajnkicifaa
