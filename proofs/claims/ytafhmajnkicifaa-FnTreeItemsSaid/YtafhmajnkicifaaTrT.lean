/- The reference's reader of items, whole. -/
import Derived.Test.YtafhmajnkicifaaTrS
import Derived.BigQuiet
namespace Go.Proofs.Ytafhmajnkicifaa
open Go.RowKit
set_option linter.unusedVariables false
set_option linter.unusedSimpArgs false

/-- What reading from an item on leaves. -/
def PrsOf (N : Nat) (Q : List It) (o : List Int) (fr : Nat) (w : World) (e : Ending) (w' : World) : Prop :=
  ∃ A n c p, e = .returned (.tuple #[.slice A n c, .int .i64 (p : Nat)]) ∧ SPart (9 - o.length) w.heap.size w' none (.slice A n c) (prs N (Q.drop fr)).1 ∧
    (o ≠ [] → ∃ h : p < Q.length, fr ≤ p ∧ Q[p].k = (prs N (Q.drop fr)).2.1 ∧ Q.drop (p + 1) = (prs N (Q.drop fr)).2.2) ∧ Below w.heap.size w w'

/-- Reading from an item on, fewer than m items ahead of the end. -/
def PrsN (N : Nat) (Q : List It) (v : Value) (m : Nat) : Prop := ∀ (o : List Int) (fr : Nat) (w : World), Q.length - fr < m → fr ≤ Q.length → Good (Q.drop fr) o → o.length ≤ 8 → Its w v Q →
  Calls Try.prog 51 #[v, .int .i64 (fr : Nat)] w (PrsOf N Q o fr w)

/-- The loop's invariant. -/
def SInvAt (N : Nat) (Q : List It) (o : List Int) (fr : Nat) (w : World) (l : Value) (i : Nat) (wr : World) : Prop :=
  ∃ A n c L, l = .slice A n c ∧ SRow (8 - o.length) w.heap.size wr (.slice A n c) L ∧ i ≤ Q.length ∧ fr ≤ i ∧ Good (Q.drop i) o ∧ prs N (Q.drop fr) = (L ++ (prs N (Q.drop i)).1, (prs N (Q.drop i)).2) ∧
    L.length + (Q.length - i) ≤ Q.length ∧ Below w.heap.size w wr

theorem fit_room {o : List Int} {k : Int} (h : fitB o k = true) (hk : k = 3 ∨ k = 6 ∨ k = 10) : o.length < 8 := by
  unfold fitB at h
  rcases hk with rfl | rfl | rfl <;> simp at h <;> omega

theorem si_done {N : Nat} {Q : List It} {o : List Int} {fr : Nat} {w w4 w5 : World} {v v' : Value} {L : List Nd} {x : It} {y : Nd} {i j : Nat} (hi : i < Q.length) (hx : Q[i] = x) (hij : i ≤ j) (hj : j < Q.length) (hf : fr ≤ i)
    (hR : SRow (8 - o.length) w.heap.size w4 v L) (hP : PushedS (8 - o.length) w.heap.size v w4 (L ++ [y]) v' w5) (hg : Good (Q.drop (j + 1)) o) (hst : StepT N x (Q.drop (i + 1)) y (Q.drop (j + 1)))
    (hq : prs N (Q.drop fr) = (L ++ (prs N (x :: Q.drop (i + 1))).1, (prs N (x :: Q.drop (i + 1))).2)) (hl : L.length + (Q.length - i) ≤ Q.length) (hb : Below w.heap.size w w4) : SInvAt N Q o fr w v' (j + 1) w5 := by
  obtain ⟨r5, g5, A, n, c, rfl⟩ := hP
  have own := srow_own hR
  obtain ⟨e1, e2⟩ := hst
  refine ⟨A, n, c, L ++ [y], rfl, r5, by omega, by omega, hg, ?_, by simp; omega, ⟨g5.os.trans hb.os, g5.tape.trans hb.tape, g5.output.trans hb.output, Nat.le_trans hb.size g5.size, fun k hk => (g5.block k (by have := hb.size; omega) (fun e => by have := own k e.symm; omega)).trans (hb.block k hk)⟩⟩
  rw [hq, e1, List.append_assoc]; rfl

theorem node_inS {d lo : Nat} {w : World} {own : Option Nat} {y : Nd} {A B : Option Addr} {n c n2 c2 : Nat} (sa : SPart d lo w own (.slice A n c) y.a) (sb : SPart d lo w own (.slice B n2 c2) y.b) (ho : ∀ g, own = some g → g < w.heap.size) (t : TypeId) :
    NodeInS d lo (w.alloc (.cells #[.int .i64 y.k, .int .i64 y.v, .slice A n c, .slice B n2 c2] t)) own y ⟨w.heap.size, 0, none⟩ := by
  have X := whole_new w t #[.int .i64 y.k, .int .i64 y.v, .slice A n c, .slice B n2 c2]
  exact ⟨A, n, c, B, n2, c2, spart_keep sa (fun b _ h2 _ => Below.heap_alloc w _ b h2) (by simp), spart_keep sb (fun b _ h2 _ => Below.heap_alloc w _ b h2) (by simp), whole_cell X 0, whole_cell X 1, whole_cell X 2, whole_cell X 3⟩

set_option maxRecDepth 100000 in
set_option maxHeartbeats 8000000 in
theorem parse_succ (N : Nat) (Q : List It) (v : Value) (m : Nat) (hN : Q.length < N) (hQ : Q.length ≤ 1000000) (ih : PrsN N Q v m) : PrsN N Q v (m + 1) := by
  intro o fr w hm hfr hg ho hv
  have HV := Lib.hid hv
  have IH := Lib.hid ih
  have ST0 : Hid (SInvAt N Q o fr w (.slice (some ⟨w.heap.size, 0, none⟩) 0 0) fr (w.alloc (.cells #[] 64))) := Lib.hid ⟨_, _, _, [], rfl, srow_fresh _ w (Nat.le_refl _), hfr, Nat.le_refl _, hg, by simp, by simp, below_alloc (Below.refl _ _) _⟩
  obtain ⟨_, A, cap, rfl, _⟩ := hv
  clear ih hg
  go_enter Try.func51, Try.ntmps51
  go_wp2
  go_loopw [6, 7] (fun l iv wr => ∃ i : Nat, iv = .int .i64 (i : Nat) ∧ SInvAt N Q o fr w l i wr) (fun _ iv _ => Q.length - (intOf iv).toNat)
  case atStart => exact ⟨fr, rfl, ST0.out⟩
  case round =>
    obtain ⟨i, rfl, A0, n, c, L, rfl, hr, hi, hf, hgd, hp, hl, hb⟩ := hrel
    have HB := Lib.hid hb
    have HR := Lib.hid hr
    have zr := hb.size
    have own := srow_own hr
    clear hb hr ST0
    by_cases hlt : i < Q.length
    · have ed := List.drop_eq_getElem_cons hlt
      rw [ed] at hgd hp
      obtain ⟨kx, fx, gx⟩ := good_cons hgd
      obtain ⟨_, A', ca', e', hc⟩ := HV.out
      simp only [Value.slice.injEq, true_and] at e'
      obtain ⟨rfl, rfl⟩ := e'
      obtain ⟨ad, rfl, ha⟩ := hc (by omega)
      have RD : Hid (∀ W, Below w.heap.size w W → ∀ j (h : j < Q.length), ItAt W (ad.add (j * 2)) Q[j]) := Lib.hid fun W hW j h => by
        obtain ⟨_, A2, c2, e2, h2⟩ := its_below HV.out hW
        simp only [Value.slice.injEq, true_and] at e2
        obtain ⟨rfl, rfl⟩ := e2
        obtain ⟨ad2, e3, h3⟩ := h2 (by omega)
        simp only [Option.some.injEq] at e3
        subst e3
        exact h3 j h
      obtain ⟨c0, c1⟩ := RD.out wr HB.out i hlt
      have EX : Hid (Q[i] = Q[i]) := Lib.hid rfl
      obtain ⟨xk, xv, hx⟩ : ∃ xk xv, Q[i] = ⟨xk, xv⟩ := ⟨_, _, rfl⟩
      rw [hx] at c0 c1 kx fx gx hp
      simp only at c0 c1 kx fx gx
      have HX := Lib.hid hx
      have HP := Lib.hid hp
      have GX := Lib.hid gx
      have o8 : (xk = 3 ∨ xk = 6 ∨ xk = 10) → o.length < 8 := fun hk => fit_room fx hk
      have O8 := Lib.hid o8
      have HC := Lib.hid hc
      clear ed hgd hp gx ha hc hx fx o8 EX
      by_cases h1 : xk = 1
      · subst h1
        have GG : Hid (Good (Q.drop (i + 1)) o) := Lib.hid (by rw [← next_same o (.inl rfl)]; exact GX.out)
        have ST : Hid (StepT N ⟨1, xv⟩ (Q.drop (i + 1)) (.mk 1 xv [] []) (Q.drop (i + 1))) := Lib.hid (step_word (by simp only [List.length_cons, List.length_drop]; omega) (.inl rfl))
        have R4 : Hid (SRow (8 - o.length) w.heap.size ((((wr.alloc (.cells #[.int .i64 1, .int .i64 xv] 59)).alloc (.cells #[] 64)).alloc (.cells #[] 64)).alloc (.cells #[.int .i64 1, .int .i64 xv, .slice (some ⟨wr.heap.size + 1, 0, none⟩) 0 0, .slice (some ⟨wr.heap.size + 1 + 1, 0, none⟩) 0 0] 64)) (.slice A0 n c) L) := Lib.hid (srow_below HR.out (below_alloc (below_alloc (below_alloc (below_alloc (Below.refl _ _) _) _) _) _))
        have B4 : Hid (Below w.heap.size w ((((wr.alloc (.cells #[.int .i64 1, .int .i64 xv] 59)).alloc (.cells #[] 64)).alloc (.cells #[] 64)).alloc (.cells #[.int .i64 1, .int .i64 xv, .slice (some ⟨wr.heap.size + 1, 0, none⟩) 0 0, .slice (some ⟨wr.heap.size + 1 + 1, 0, none⟩) 0 0] 64))) := Lib.hid (below_step HB.out (below_alloc (below_alloc (below_alloc (below_alloc (Below.refl _ _) _) _) _) _))
        have ND : Hid (NodeInS (8 - o.length) w.heap.size ((((wr.alloc (.cells #[.int .i64 1, .int .i64 xv] 59)).alloc (.cells #[] 64)).alloc (.cells #[] 64)).alloc (.cells #[.int .i64 1, .int .i64 xv, .slice (some ⟨wr.heap.size + 1, 0, none⟩) 0 0, .slice (some ⟨wr.heap.size + 1 + 1, 0, none⟩) 0 0] 64)) (Value.slice A0 n c).ownBlock (.mk 1 xv [] []) ⟨wr.heap.size + 1 + 1 + 1, 0, none⟩) := Lib.hid (by
          have q := node_inS (d := 8 - o.length) (lo := w.heap.size) (w := (((wr.alloc (.cells #[.int .i64 1, .int .i64 xv] 59)).alloc (.cells #[] 64)).alloc (.cells #[] 64))) (own := (Value.slice A0 n c).ownBlock) (y := .mk 1 xv [] []) (spart_nil _ _ _ _ (some ⟨wr.heap.size + 1, 0, none⟩) 0) (spart_nil _ _ _ _ (some ⟨wr.heap.size + 1 + 1, 0, none⟩) 0) (fun g hg => by have := own g hg; simp; omega) 64
          rw [show (((wr.alloc (.cells #[.int .i64 1, .int .i64 xv] 59)).alloc (.cells #[] 64)).alloc (.cells #[] 64)).heap.size = wr.heap.size + 1 + 1 + 1 by simp] at q
          exact q)
        go_wp2_with (first
          | (at_builtin; refine wpList_append_nodeS rfl (.tmp 41) (.tmp 49) rfl rfl R4.out (by omega) (by simp; omega) ND.out rfl rfl ?_
             intro v5 w5 hp5
             have P5 := Lib.hid hp5
             clear hp5))
        have DN := Lib.hid (si_done hlt HX.out (Nat.le_refl _) hlt hf R4.out P5.out GG.out ST.out HP.out hl B4.out)
        go_wp2
        go_roundw
        case rel => exact ⟨i + 1, by go_num, DN.out⟩
        case measure => simp [intOf]; omega
      by_cases h2 : xk = 2
      · subst h2
        have GG : Hid (Good (Q.drop (i + 1)) o) := Lib.hid (by rw [← next_same o (.inr (.inl rfl))]; exact GX.out)
        have ST : Hid (StepT N ⟨2, xv⟩ (Q.drop (i + 1)) (.mk 2 xv [] []) (Q.drop (i + 1))) := Lib.hid (step_word (by simp only [List.length_cons, List.length_drop]; omega) (.inr (.inl rfl)))
        have R4 : Hid (SRow (8 - o.length) w.heap.size ((((wr.alloc (.cells #[.int .i64 2, .int .i64 xv] 59)).alloc (.cells #[] 64)).alloc (.cells #[] 64)).alloc (.cells #[.int .i64 2, .int .i64 xv, .slice (some ⟨wr.heap.size + 1, 0, none⟩) 0 0, .slice (some ⟨wr.heap.size + 1 + 1, 0, none⟩) 0 0] 64)) (.slice A0 n c) L) := Lib.hid (srow_below HR.out (below_alloc (below_alloc (below_alloc (below_alloc (Below.refl _ _) _) _) _) _))
        have B4 : Hid (Below w.heap.size w ((((wr.alloc (.cells #[.int .i64 2, .int .i64 xv] 59)).alloc (.cells #[] 64)).alloc (.cells #[] 64)).alloc (.cells #[.int .i64 2, .int .i64 xv, .slice (some ⟨wr.heap.size + 1, 0, none⟩) 0 0, .slice (some ⟨wr.heap.size + 1 + 1, 0, none⟩) 0 0] 64))) := Lib.hid (below_step HB.out (below_alloc (below_alloc (below_alloc (below_alloc (Below.refl _ _) _) _) _) _))
        have ND : Hid (NodeInS (8 - o.length) w.heap.size ((((wr.alloc (.cells #[.int .i64 2, .int .i64 xv] 59)).alloc (.cells #[] 64)).alloc (.cells #[] 64)).alloc (.cells #[.int .i64 2, .int .i64 xv, .slice (some ⟨wr.heap.size + 1, 0, none⟩) 0 0, .slice (some ⟨wr.heap.size + 1 + 1, 0, none⟩) 0 0] 64)) (Value.slice A0 n c).ownBlock (.mk 2 xv [] []) ⟨wr.heap.size + 1 + 1 + 1, 0, none⟩) := Lib.hid (by
          have q := node_inS (d := 8 - o.length) (lo := w.heap.size) (w := (((wr.alloc (.cells #[.int .i64 2, .int .i64 xv] 59)).alloc (.cells #[] 64)).alloc (.cells #[] 64))) (own := (Value.slice A0 n c).ownBlock) (y := .mk 2 xv [] []) (spart_nil _ _ _ _ (some ⟨wr.heap.size + 1, 0, none⟩) 0) (spart_nil _ _ _ _ (some ⟨wr.heap.size + 1 + 1, 0, none⟩) 0) (fun g hg => by have := own g hg; simp; omega) 64
          rw [show (((wr.alloc (.cells #[.int .i64 2, .int .i64 xv] 59)).alloc (.cells #[] 64)).alloc (.cells #[] 64)).heap.size = wr.heap.size + 1 + 1 + 1 by simp] at q
          exact q)
        go_wp2_with (first
          | (at_builtin; refine wpList_append_nodeS rfl (.tmp 41) (.tmp 49) rfl rfl R4.out (by omega) (by simp; omega) ND.out rfl rfl ?_
             intro v5 w5 hp5
             have P5 := Lib.hid hp5
             clear hp5))
        have DN := Lib.hid (si_done hlt HX.out (Nat.le_refl _) hlt hf R4.out P5.out GG.out ST.out HP.out hl B4.out)
        go_wp2
        go_roundw
        case rel => exact ⟨i + 1, by go_num, DN.out⟩
        case measure => simp [intOf]; omega
      by_cases h13 : xk = 13
      · subst h13
        have GG : Hid (Good (Q.drop (i + 1)) o) := Lib.hid (by rw [← next_same o (.inr (.inr rfl))]; exact GX.out)
        have ST : Hid (StepT N ⟨13, xv⟩ (Q.drop (i + 1)) (.mk 13 xv [] []) (Q.drop (i + 1))) := Lib.hid (step_word (by simp only [List.length_cons, List.length_drop]; omega) (.inr (.inr rfl)))
        have R4 : Hid (SRow (8 - o.length) w.heap.size ((((wr.alloc (.cells #[.int .i64 13, .int .i64 xv] 59)).alloc (.cells #[] 64)).alloc (.cells #[] 64)).alloc (.cells #[.int .i64 13, .int .i64 xv, .slice (some ⟨wr.heap.size + 1, 0, none⟩) 0 0, .slice (some ⟨wr.heap.size + 1 + 1, 0, none⟩) 0 0] 64)) (.slice A0 n c) L) := Lib.hid (srow_below HR.out (below_alloc (below_alloc (below_alloc (below_alloc (Below.refl _ _) _) _) _) _))
        have B4 : Hid (Below w.heap.size w ((((wr.alloc (.cells #[.int .i64 13, .int .i64 xv] 59)).alloc (.cells #[] 64)).alloc (.cells #[] 64)).alloc (.cells #[.int .i64 13, .int .i64 xv, .slice (some ⟨wr.heap.size + 1, 0, none⟩) 0 0, .slice (some ⟨wr.heap.size + 1 + 1, 0, none⟩) 0 0] 64))) := Lib.hid (below_step HB.out (below_alloc (below_alloc (below_alloc (below_alloc (Below.refl _ _) _) _) _) _))
        have ND : Hid (NodeInS (8 - o.length) w.heap.size ((((wr.alloc (.cells #[.int .i64 13, .int .i64 xv] 59)).alloc (.cells #[] 64)).alloc (.cells #[] 64)).alloc (.cells #[.int .i64 13, .int .i64 xv, .slice (some ⟨wr.heap.size + 1, 0, none⟩) 0 0, .slice (some ⟨wr.heap.size + 1 + 1, 0, none⟩) 0 0] 64)) (Value.slice A0 n c).ownBlock (.mk 13 xv [] []) ⟨wr.heap.size + 1 + 1 + 1, 0, none⟩) := Lib.hid (by
          have q := node_inS (d := 8 - o.length) (lo := w.heap.size) (w := (((wr.alloc (.cells #[.int .i64 13, .int .i64 xv] 59)).alloc (.cells #[] 64)).alloc (.cells #[] 64))) (own := (Value.slice A0 n c).ownBlock) (y := .mk 13 xv [] []) (spart_nil _ _ _ _ (some ⟨wr.heap.size + 1, 0, none⟩) 0) (spart_nil _ _ _ _ (some ⟨wr.heap.size + 1 + 1, 0, none⟩) 0) (fun g hg => by have := own g hg; simp; omega) 64
          rw [show (((wr.alloc (.cells #[.int .i64 13, .int .i64 xv] 59)).alloc (.cells #[] 64)).alloc (.cells #[] 64)).heap.size = wr.heap.size + 1 + 1 + 1 by simp] at q
          exact q)
        go_wp2_with (first
          | (at_builtin; refine wpList_append_nodeS rfl (.tmp 41) (.tmp 49) rfl rfl R4.out (by omega) (by simp; omega) ND.out rfl rfl ?_
             intro v5 w5 hp5
             have P5 := Lib.hid hp5
             clear hp5))
        have DN := Lib.hid (si_done hlt HX.out (Nat.le_refl _) hlt hf R4.out P5.out GG.out ST.out HP.out hl B4.out)
        go_wp2
        go_roundw
        case rel => exact ⟨i + 1, by go_num, DN.out⟩
        case measure => simp [intOf]; omega
      by_cases h3 : xk = 3
      · subst h3
        have O := O8.out (.inl rfl)
        have GG : Hid (Good (Q.drop (i + 1)) (o ++ [3])) := Lib.hid (by rw [← next_up o (.inl rfl)]; exact GX.out)
        have LX : (⟨3, xv⟩ :: Q.drop (i + 1) : List It).length < N := by simp only [List.length_cons, List.length_drop]; omega
        have en := prs_end N (Q.drop (i + 1)) (o ++ [3]) (by rw [List.length_drop]; omega) GG.out
        obtain ⟨f1, f2, f3⟩ := en.2.1 (by simp)
        have ft := fit_top f1 f2
        have d1 : 9 - (o ++ [3]).length = 8 - o.length := by simp only [List.length_append, List.length_singleton]; omega
        have wi : IntKind.i64.wrap ((i : Int) + 1) = ((i + 1 : Nat) : Int) := by rw [show (i : Int) + 1 = ((i + 1 : Nat) : Int) by omega]; exact IntWalk.i64_in _ (by omega)
        have B1 : Hid (Below wr.heap.size wr (((wr.alloc (.cells #[.int .i64 3, .int .i64 xv] 59)).alloc (.cells #[] 64)).alloc (.cells #[.int .i64 3, .int .i64 0, .slice none 0 0, .slice (some ⟨wr.heap.size + 1, 0, none⟩) 0 0] 64))) := Lib.hid (below_alloc (below_alloc (below_alloc (Below.refl _ _) _) _) _)
        have C1 := Lib.hid (IH.out (o ++ [3]) (i + 1) (((wr.alloc (.cells #[.int .i64 3, .int .i64 xv] 59)).alloc (.cells #[] 64)).alloc (.cells #[.int .i64 3, .int .i64 0, .slice none 0 0, .slice (some ⟨wr.heap.size + 1, 0, none⟩) 0 0] 64)) (by omega) (by omega) GG.out (by simp only [List.length_append, List.length_singleton]; omega) (its_below HV.out (below_step HB.out B1.out)))
        have W1S : (((wr.alloc (.cells #[.int .i64 3, .int .i64 xv] 59)).alloc (.cells #[] 64)).alloc (.cells #[.int .i64 3, .int .i64 0, .slice none 0 0, .slice (some ⟨wr.heap.size + 1, 0, none⟩) 0 0] 64)).heap.size = wr.heap.size + 3 := by simp
        have WS := Lib.hid W1S
        have X1 : Hid (Whole (((wr.alloc (.cells #[.int .i64 3, .int .i64 xv] 59)).alloc (.cells #[] 64)).alloc (.cells #[.int .i64 3, .int .i64 0, .slice none 0 0, .slice (some ⟨wr.heap.size + 1, 0, none⟩) 0 0] 64)) (wr.heap.size + 1 + 1) 64 #[.int .i64 3, .int .i64 0, .slice none 0 0, .slice (some ⟨wr.heap.size + 1, 0, none⟩) 0 0]) := Lib.hid (by
          have q := whole_new ((wr.alloc (.cells #[.int .i64 3, .int .i64 xv] 59)).alloc (.cells #[] 64)) 64 #[.int .i64 3, .int .i64 0, .slice none 0 0, .slice (some ⟨wr.heap.size + 1, 0, none⟩) 0 0]
          rwa [show ((wr.alloc (.cells #[.int .i64 3, .int .i64 xv] 59)).alloc (.cells #[] 64)).heap.size = wr.heap.size + 1 + 1 by simp] at q)
        clear en f1 W1S
        go_wp2_with fail
        refine C1.out.mono ?_
        rintro e1 w2 ⟨A1, n1, c1, p, rfl, s1, en1, b1⟩
        rw [d1, WS.out] at s1
        obtain ⟨hp1, fp1, k1, t1⟩ := en1 (by simp)
        have z2 : wr.heap.size + 3 ≤ w2.heap.size := by have := b1.size; rw [WS.out] at this; exact this
        have HB2 := Lib.hid (below_step (below_step HB.out B1.out) (b1.mono (by rw [WS.out]; omega)))
        have S1 := Lib.hid s1
        have T1 := Lib.hid t1
        have K1 := Lib.hid k1
        have FR := Lib.hid fp1
        have X2 := whole_below X1.out b1
        have HX2 := Lib.hid X2
        have x0 := whole_cell X2 0
        have x1 := whole_cell X2 1
        have x2 := whole_cell X2 2
        have x3 := whole_cell X2 3
        have xf := whole_free X2
        simp at x0 x1 x2 x3
        have BW3 : Hid (Below w.heap.size w (w2.setCell ⟨wr.heap.size + 1 + 1, 2, none⟩ (.slice A1 n1 c1))) := Lib.hid (HB2.out.setCell (by show w.heap.size ≤ wr.heap.size + 1 + 1; omega) _)
        have S3 : Hid (SPart (8 - o.length) (wr.heap.size + 3) (w2.setCell ⟨wr.heap.size + 1 + 1, 2, none⟩ (.slice A1 n1 c1)) none (.slice A1 n1 c1) (prs N (Q.drop (i + 1))).1) := Lib.hid (spart_keep S1.out (fun b h1 h2 _ => Below.heap_setCell _ _ _ _ (by show b ≠ wr.heap.size + 1 + 1; omega)) (by simp))
        have RW3 : Hid (SRow (8 - o.length) w.heap.size (w2.setCell ⟨wr.heap.size + 1 + 1, 2, none⟩ (.slice A1 n1 c1)) (.slice A0 n c) L) := Lib.hid (srow_keep HR.out (fun b h1 h2 => by
          rw [Below.heap_setCell _ _ _ _ (by show b ≠ wr.heap.size + 1 + 1; omega), b1.block b (by rw [WS.out]; omega), B1.out.block b h2]) (by simp; omega))
        have cp := (RD.out _ BW3.out p hp1).1
        rw [K1.out] at cp
        have HB1 := Lib.hid b1
        clear b1 s1 t1 k1 en1 X2
        by_cases h5 : (prs N (Q.drop (i + 1))).2.1 = 5
        · rw [h5] at cp
          have ST : Hid (StepT N ⟨3, xv⟩ (Q.drop (i + 1)) (.mk 3 0 (prs N (Q.drop (i + 1))).1 []) (Q.drop (p + 1))) := Lib.hid (by rw [T1.out]; exact step_if LX rfl h5)
          have GT : Hid (Good (Q.drop (p + 1)) o) := Lib.hid (by rw [T1.out]; rw [h5, next_down o 3 (by omega)] at f3; exact f3)
          have RW := RW3
          have BW := BW3
          clear f2 f3 ft h5
          have R4 : Hid (SRow (8 - o.length) w.heap.size ((w2.setCell ⟨wr.heap.size + 1 + 1, 2, none⟩ (.slice A1 n1 c1)).alloc (.cells #[.int .i64 3, .int .i64 0, .slice A1 n1 c1, .slice (some ⟨wr.heap.size + 1, 0, none⟩) 0 0] 64)) (.slice A0 n c) L) := Lib.hid (srow_keep RW.out (fun b _ h2 => Below.heap_alloc _ _ b h2) (by simp))
          have B4 : Hid (Below w.heap.size w ((w2.setCell ⟨wr.heap.size + 1 + 1, 2, none⟩ (.slice A1 n1 c1)).alloc (.cells #[.int .i64 3, .int .i64 0, .slice A1 n1 c1, .slice (some ⟨wr.heap.size + 1, 0, none⟩) 0 0] 64))) := Lib.hid (below_alloc BW.out _)
          have ZL : Hid (w.heap.size ≤ ((w2.setCell ⟨wr.heap.size + 1 + 1, 2, none⟩ (.slice A1 n1 c1)).alloc (.cells #[.int .i64 3, .int .i64 0, .slice A1 n1 c1, .slice (some ⟨wr.heap.size + 1, 0, none⟩) 0 0] 64)).heap.size) := Lib.hid (by simp; omega)
          have ND : Hid (NodeInS (8 - o.length) w.heap.size ((w2.setCell ⟨wr.heap.size + 1 + 1, 2, none⟩ (.slice A1 n1 c1)).alloc (.cells #[.int .i64 3, .int .i64 0, .slice A1 n1 c1, .slice (some ⟨wr.heap.size + 1, 0, none⟩) 0 0] 64)) (Value.slice A0 n c).ownBlock (.mk 3 0 (prs N (Q.drop (i + 1))).1 []) ⟨w2.heap.size, 0, none⟩) := Lib.hid (by
            have q := node_inS (d := 8 - o.length) (lo := w.heap.size) (w := (w2.setCell ⟨wr.heap.size + 1 + 1, 2, none⟩ (.slice A1 n1 c1))) (own := (Value.slice A0 n c).ownBlock) (y := .mk 3 0 (prs N (Q.drop (i + 1))).1 []) (spart_wide S3.out (by omega) (fun g hg => by have := own g hg; omega)) (spart_nil _ _ _ _ (some ⟨wr.heap.size + 1, 0, none⟩) 0) (fun g hg => by have := own g hg; simp; omega) 64
            rw [show (w2.setCell ⟨wr.heap.size + 1 + 1, 2, none⟩ (.slice A1 n1 c1)).heap.size = w2.heap.size by simp] at q
            exact q)
          go_wp2_with (first
            | (at_builtin; refine wpList_append_nodeS rfl (.tmp 83) (.tmp 85) rfl rfl R4.out (by omega) ZL.out ND.out rfl rfl ?_
               intro v5 w5 hp5
               have P5 := Lib.hid hp5
               clear hp5))
          have DN := Lib.hid (si_done hlt HX.out (by omega) hp1 hf R4.out P5.out GT.out ST.out HP.out hl B4.out)
          go_wp2
          go_roundw
          case rel => exact ⟨p + 1, by go_num, DN.out⟩
          case measure => simp [intOf]; omega
        · have h4 : (prs N (Q.drop (i + 1))).2.1 = 4 := by omega
          rw [h4] at cp
          rw [h4, next_flip o 3 (by omega), ← T1.out] at f3
          have en2 := prs_end N (Q.drop (p + 1)) (o ++ [4]) (by rw [List.length_drop]; omega) f3
          obtain ⟨q1, q2, q3⟩ := en2.2.1 (by simp)
          have qt := fit_top q1 q2
          have h52 : (prs N (Q.drop (p + 1))).2.1 = 5 := by omega
          have d2 : 9 - (o ++ [4]).length = 8 - o.length := by simp only [List.length_append, List.length_singleton]; omega
          have wp : IntKind.i64.wrap ((p : Int) + 1) = ((p + 1 : Nat) : Int) := by rw [show (p : Int) + 1 = ((p + 1 : Nat) : Int) by omega]; exact IntWalk.i64_in _ (by omega)
          have C2 := Lib.hid (IH.out (o ++ [4]) (p + 1) (w2.setCell ⟨wr.heap.size + 1 + 1, 2, none⟩ (.slice A1 n1 c1)) (by omega) (by omega) f3 (by simp only [List.length_append, List.length_singleton]; omega) (its_below HV.out BW3.out))
          have X3 := Lib.hid (whole_set HX2.out 2 (.slice A1 n1 c1))
          have G3 := Lib.hid q3
          have ne5 := Lib.hid h5
          clear en2 q1 q3 f2 f3 ft h5
          go_wp2_with fail
          refine C2.out.mono ?_
          rintro e2 w4 ⟨A2, n2, c2, p2, rfl, s2, en2, b2⟩
          rw [d2] at s2
          obtain ⟨hp2, fp2, k2, t2⟩ := en2 (by simp)
          have z4 : w2.heap.size ≤ w4.heap.size := by have := b2.size; simpa using this
          have X4 := whole_below X3.out b2
          have x0 := whole_cell X4 0
          have x1 := whole_cell X4 1
          have x2 := whole_cell X4 2
          have x3 := whole_cell X4 3
          have xf := whole_free X4
          simp at x0 x1 x2 x3
          have ST : Hid (StepT N ⟨3, xv⟩ (Q.drop (i + 1)) (.mk 3 1 (prs N (Q.drop (i + 1))).1 (prs N (Q.drop (p + 1))).1) (Q.drop (p2 + 1))) := Lib.hid (by
            rw [t2, T1.out]; exact step_else LX rfl ne5.out)
          have GT : Hid (Good (Q.drop (p2 + 1)) o) := Lib.hid (by rw [t2]; have q := G3.out; rw [h52, next_down o 4 (by omega)] at q; exact q)
          have far : ∀ b, wr.heap.size + 3 ≤ b ∨ b < wr.heap.size → ((w4.setCell ⟨wr.heap.size + 1 + 1, 3, none⟩ (.slice A2 n2 c2)).setCell ⟨wr.heap.size + 1 + 1, 1, none⟩ (.int .i64 1)).heap[b]? = w4.heap[b]? := fun b h => by rw [Below.heap_setCell _ _ _ _ (by show b ≠ wr.heap.size + 1 + 1; omega), Below.heap_setCell _ _ _ _ (by show b ≠ wr.heap.size + 1 + 1; omega)]
          have RW : Hid (SRow (8 - o.length) w.heap.size ((w4.setCell ⟨wr.heap.size + 1 + 1, 3, none⟩ (.slice A2 n2 c2)).setCell ⟨wr.heap.size + 1 + 1, 1, none⟩ (.int .i64 1)) (.slice A0 n c) L) := Lib.hid (srow_keep HR.out (fun b h1 h2 => by
            rw [far b (.inr h2), b2.block b (by simp; omega), Below.heap_setCell _ _ _ _ (by show b ≠ wr.heap.size + 1 + 1; omega), HB1.out.block b (by rw [WS.out]; omega), B1.out.block b h2]) (by simp; omega))
          have BW : Hid (Below w.heap.size w ((w4.setCell ⟨wr.heap.size + 1 + 1, 3, none⟩ (.slice A2 n2 c2)).setCell ⟨wr.heap.size + 1 + 1, 1, none⟩ (.int .i64 1))) := Lib.hid (((below_step BW3.out (b2.mono (by simp <;> omega))).setCell (by show w.heap.size ≤ wr.heap.size + 1 + 1; omega) _).setCell (by show w.heap.size ≤ wr.heap.size + 1 + 1; omega) _)
          have SA : Hid (SPart (8 - o.length) (wr.heap.size + 3) ((w4.setCell ⟨wr.heap.size + 1 + 1, 3, none⟩ (.slice A2 n2 c2)).setCell ⟨wr.heap.size + 1 + 1, 1, none⟩ (.int .i64 1)) none (.slice A1 n1 c1) (prs N (Q.drop (i + 1))).1) := Lib.hid (spart_keep S3.out (fun b h1 h2 _ => by rw [far b (.inl h1), b2.block b h2]) (by simp <;> omega))
          have SB : Hid (SPart (8 - o.length) (w2.setCell ⟨wr.heap.size + 1 + 1, 2, none⟩ (.slice A1 n1 c1)).heap.size ((w4.setCell ⟨wr.heap.size + 1 + 1, 3, none⟩ (.slice A2 n2 c2)).setCell ⟨wr.heap.size + 1 + 1, 1, none⟩ (.int .i64 1)) none (.slice A2 n2 c2) (prs N (Q.drop (p + 1))).1) := Lib.hid (spart_keep s2 (fun b h1 h2 _ => far b (.inl (by simp at h1; omega))) (by simp))
          clear b2 s2 t2 k2 en2 X4 C2 X3
          have R4 : Hid (SRow (8 - o.length) w.heap.size (((w4.setCell ⟨wr.heap.size + 1 + 1, 3, none⟩ (.slice A2 n2 c2)).setCell ⟨wr.heap.size + 1 + 1, 1, none⟩ (.int .i64 1)).alloc (.cells #[.int .i64 3, .int .i64 1, .slice A1 n1 c1, .slice A2 n2 c2] 64)) (.slice A0 n c) L) := Lib.hid (srow_keep RW.out (fun b _ h2 => Below.heap_alloc _ _ b h2) (by simp))
          have B4 : Hid (Below w.heap.size w (((w4.setCell ⟨wr.heap.size + 1 + 1, 3, none⟩ (.slice A2 n2 c2)).setCell ⟨wr.heap.size + 1 + 1, 1, none⟩ (.int .i64 1)).alloc (.cells #[.int .i64 3, .int .i64 1, .slice A1 n1 c1, .slice A2 n2 c2] 64))) := Lib.hid (below_alloc BW.out _)
          have ZL : Hid (w.heap.size ≤ (((w4.setCell ⟨wr.heap.size + 1 + 1, 3, none⟩ (.slice A2 n2 c2)).setCell ⟨wr.heap.size + 1 + 1, 1, none⟩ (.int .i64 1)).alloc (.cells #[.int .i64 3, .int .i64 1, .slice A1 n1 c1, .slice A2 n2 c2] 64)).heap.size) := Lib.hid (by simp; omega)
          have ND : Hid (NodeInS (8 - o.length) w.heap.size (((w4.setCell ⟨wr.heap.size + 1 + 1, 3, none⟩ (.slice A2 n2 c2)).setCell ⟨wr.heap.size + 1 + 1, 1, none⟩ (.int .i64 1)).alloc (.cells #[.int .i64 3, .int .i64 1, .slice A1 n1 c1, .slice A2 n2 c2] 64)) (Value.slice A0 n c).ownBlock (.mk 3 1 (prs N (Q.drop (i + 1))).1 (prs N (Q.drop (p + 1))).1) ⟨w4.heap.size, 0, none⟩) := Lib.hid (by
            have q := node_inS (d := 8 - o.length) (lo := w.heap.size) (w := ((w4.setCell ⟨wr.heap.size + 1 + 1, 3, none⟩ (.slice A2 n2 c2)).setCell ⟨wr.heap.size + 1 + 1, 1, none⟩ (.int .i64 1))) (own := (Value.slice A0 n c).ownBlock) (y := .mk 3 1 (prs N (Q.drop (i + 1))).1 (prs N (Q.drop (p + 1))).1) (spart_wide SA.out (by omega) (fun g hg => by have := own g hg; omega)) (spart_wide SB.out (by simp; omega) (fun g hg => by have := own g hg; simp; omega)) (fun g hg => by have := own g hg; simp; omega) 64
            rw [show ((w4.setCell ⟨wr.heap.size + 1 + 1, 3, none⟩ (.slice A2 n2 c2)).setCell ⟨wr.heap.size + 1 + 1, 1, none⟩ (.int .i64 1)).heap.size = w4.heap.size by simp] at q
            exact q)
          go_wp2_with (first
            | (at_builtin; refine wpList_append_nodeS rfl (.tmp 83) (.tmp 85) rfl rfl R4.out (by omega) ZL.out ND.out rfl rfl ?_
               intro v5 w5 hp5
               have P5 := Lib.hid hp5
               clear hp5))
          have DN := Lib.hid (si_done hlt HX.out (by omega) hp2 hf R4.out P5.out GT.out ST.out HP.out hl B4.out)
          go_wp2
          go_roundw
          case rel => exact ⟨p2 + 1, by go_num, DN.out⟩
          case measure => simp [intOf]; omega
      by_cases h6 : xk = 6
      · subst h6
        have O := O8.out (.inr (.inl rfl))
        have GG : Hid (Good (Q.drop (i + 1)) (o ++ [6])) := Lib.hid (by rw [← next_up o (.inr (.inl rfl))]; exact GX.out)
        have LX : (⟨6, xv⟩ :: Q.drop (i + 1) : List It).length < N := by simp only [List.length_cons, List.length_drop]; omega
        have en := prs_end N (Q.drop (i + 1)) (o ++ [6]) (by rw [List.length_drop]; omega) GG.out
        obtain ⟨f1, f2, f3⟩ := en.2.1 (by simp)
        have ft := fit_top f1 f2
        have d1 : 9 - (o ++ [6]).length = 8 - o.length := by simp only [List.length_append, List.length_singleton]; omega
        have wi : IntKind.i64.wrap ((i : Int) + 1) = ((i + 1 : Nat) : Int) := by rw [show (i : Int) + 1 = ((i + 1 : Nat) : Int) by omega]; exact IntWalk.i64_in _ (by omega)
        have B1 : Hid (Below wr.heap.size wr (wr.alloc (.cells #[.int .i64 6, .int .i64 xv] 59))) := Lib.hid (below_alloc (Below.refl _ _) _)
        have C1 := Lib.hid (IH.out (o ++ [6]) (i + 1) (wr.alloc (.cells #[.int .i64 6, .int .i64 xv] 59)) (by omega) (by omega) GG.out (by simp only [List.length_append, List.length_singleton]; omega) (its_below HV.out (below_step HB.out B1.out)))
        have W1S : (wr.alloc (.cells #[.int .i64 6, .int .i64 xv] 59)).heap.size = wr.heap.size + 1 := by simp
        have WS := Lib.hid W1S
        clear en f1 W1S
        go_wp2_with fail
        refine C1.out.mono ?_
        rintro e1 w2 ⟨A1, n1, c1, p, rfl, s1, en1, b1⟩
        rw [d1, WS.out] at s1
        obtain ⟨hp1, fp1, k1, t1⟩ := en1 (by simp)
        have z2 : wr.heap.size + 1 ≤ w2.heap.size := by have := b1.size; rw [WS.out] at this; exact this
        have HB2 := Lib.hid (below_step (below_step HB.out B1.out) (b1.mono (by rw [WS.out]; omega)))
        have S1 := Lib.hid s1
        have T1 := Lib.hid t1
        have K1 := Lib.hid k1
        have FR := Lib.hid fp1
        have cp := (RD.out _ HB2.out p hp1).1
        rw [K1.out] at cp
        have HB1 := Lib.hid b1
        have RW2 : Hid (SRow (8 - o.length) w.heap.size w2 (.slice A0 n c) L) := Lib.hid (srow_keep HR.out (fun b h1 h2 => by rw [b1.block b (by rw [WS.out]; omega), B1.out.block b h2]) (by omega))
        clear b1 s1 t1 k1 en1
        by_cases h8 : (prs N (Q.drop (i + 1))).2.1 = 8
        · rw [h8] at cp
          rw [h8, next_flip o 6 (by omega), ← T1.out] at f3
          have en2 := prs_end N (Q.drop (p + 1)) (o ++ [8]) (by rw [List.length_drop]; omega) f3
          obtain ⟨q1, q2, q3⟩ := en2.2.1 (by simp)
          have qt := fit_top q1 q2
          have h9 : (prs N (Q.drop (p + 1))).2.1 = 9 := by omega
          have d2 : 9 - (o ++ [8]).length = 8 - o.length := by simp only [List.length_append, List.length_singleton]; omega
          have wp : IntKind.i64.wrap ((p : Int) + 1) = ((p + 1 : Nat) : Int) := by rw [show (p : Int) + 1 = ((p + 1 : Nat) : Int) by omega]; exact IntWalk.i64_in _ (by omega)
          have B3 : Hid (Below w2.heap.size w2 ((w2.alloc (.cells #[] 64)).alloc (.cells #[.int .i64 8, .int .i64 0, .slice A1 n1 c1, .slice (some ⟨w2.heap.size, 0, none⟩) 0 0] 64))) := Lib.hid (below_alloc (below_alloc (Below.refl _ _) _) _)
          have BW3 : Hid (Below w.heap.size w ((w2.alloc (.cells #[] 64)).alloc (.cells #[.int .i64 8, .int .i64 0, .slice A1 n1 c1, .slice (some ⟨w2.heap.size, 0, none⟩) 0 0] 64))) := Lib.hid (below_step HB2.out (B3.out.mono (by omega)))
          have C2 := Lib.hid (IH.out (o ++ [8]) (p + 1) ((w2.alloc (.cells #[] 64)).alloc (.cells #[.int .i64 8, .int .i64 0, .slice A1 n1 c1, .slice (some ⟨w2.heap.size, 0, none⟩) 0 0] 64)) (by omega) (by omega) f3 (by simp only [List.length_append, List.length_singleton]; omega) (its_below HV.out BW3.out))
          have X3 : Hid (Whole ((w2.alloc (.cells #[] 64)).alloc (.cells #[.int .i64 8, .int .i64 0, .slice A1 n1 c1, .slice (some ⟨w2.heap.size, 0, none⟩) 0 0] 64)) (w2.heap.size + 1) 64 #[.int .i64 8, .int .i64 0, .slice A1 n1 c1, .slice (some ⟨w2.heap.size, 0, none⟩) 0 0]) := Lib.hid (by
            have q := whole_new (w2.alloc (.cells #[] 64)) 64 #[.int .i64 8, .int .i64 0, .slice A1 n1 c1, .slice (some ⟨w2.heap.size, 0, none⟩) 0 0]
            rwa [show (w2.alloc (.cells #[] 64)).heap.size = w2.heap.size + 1 by simp] at q)
          have G3 := Lib.hid q3
          have ne8 := Lib.hid h8
          have W3S : ((w2.alloc (.cells #[] 64)).alloc (.cells #[.int .i64 8, .int .i64 0, .slice A1 n1 c1, .slice (some ⟨w2.heap.size, 0, none⟩) 0 0] 64)).heap.size = w2.heap.size + 2 := by simp
          have WS3 := Lib.hid W3S
          clear en2 q1 q3 f2 f3 ft h8 W3S
          go_wp2_with fail
          refine C2.out.mono ?_
          rintro e2 w4 ⟨A2, n2, c2, p2, rfl, s2, en2, b2⟩
          rw [d2, WS3.out] at s2
          obtain ⟨hp2, fp2, k2, t2⟩ := en2 (by simp)
          have z4 : w2.heap.size + 2 ≤ w4.heap.size := by have := b2.size; rw [WS3.out] at this; exact this
          have X4 := whole_below X3.out b2
          have x0 := whole_cell X4 0
          have x1 := whole_cell X4 1
          have x2 := whole_cell X4 2
          have x3 := whole_cell X4 3
          have xf := whole_free X4
          simp at x0 x1 x2 x3
          have ST : Hid (StepT N ⟨6, xv⟩ (Q.drop (i + 1)) (.mk 8 0 (prs N (Q.drop (i + 1))).1 (prs N (Q.drop (p + 1))).1) (Q.drop (p2 + 1))) := Lib.hid (by
            rw [t2, T1.out]; exact step_while LX (.inl rfl) ne8.out)
          have GT : Hid (Good (Q.drop (p2 + 1)) o) := Lib.hid (by rw [t2]; have q := G3.out; rw [h9, next_down o 8 (by omega)] at q; exact q)
          have far : ∀ b, b ≠ w2.heap.size + 1 → (w4.setCell ⟨w2.heap.size + 1, 3, none⟩ (.slice A2 n2 c2)).heap[b]? = w4.heap[b]? := fun b h => Below.heap_setCell _ _ _ _ (by show b ≠ w2.heap.size + 1; exact h)
          have old : ∀ b, b < w2.heap.size → (w4.setCell ⟨w2.heap.size + 1, 3, none⟩ (.slice A2 n2 c2)).heap[b]? = w2.heap[b]? := fun b h => by rw [far b (by omega), b2.block b (by rw [WS3.out]; omega), B3.out.block b h]
          have RW : Hid (SRow (8 - o.length) w.heap.size (w4.setCell ⟨w2.heap.size + 1, 3, none⟩ (.slice A2 n2 c2)) (.slice A0 n c) L) := Lib.hid (srow_keep RW2.out (fun b h1 h2 => old b h2) (by simp <;> omega))
          have BW : Hid (Below w.heap.size w (w4.setCell ⟨w2.heap.size + 1, 3, none⟩ (.slice A2 n2 c2))) := Lib.hid ((below_step BW3.out (b2.mono (by rw [WS3.out]; omega))).setCell (by show w.heap.size ≤ w2.heap.size + 1; omega) _)
          have SA : Hid (SPart (8 - o.length) (wr.heap.size + 1) (w4.setCell ⟨w2.heap.size + 1, 3, none⟩ (.slice A2 n2 c2)) none (.slice A1 n1 c1) (prs N (Q.drop (i + 1))).1) := Lib.hid (spart_keep S1.out (fun b h1 h2 _ => old b h2) (by simp <;> omega))
          have SB : Hid (SPart (8 - o.length) (w2.heap.size + 2) (w4.setCell ⟨w2.heap.size + 1, 3, none⟩ (.slice A2 n2 c2)) none (.slice A2 n2 c2) (prs N (Q.drop (p + 1))).1) := Lib.hid (spart_keep s2 (fun b h1 h2 _ => far b (by omega)) (by simp))
          clear b2 s2 t2 k2 en2 X4 C2 X3 far old
          have R4 : Hid (SRow (8 - o.length) w.heap.size ((w4.setCell ⟨w2.heap.size + 1, 3, none⟩ (.slice A2 n2 c2)).alloc (.cells #[.int .i64 8, .int .i64 0, .slice A1 n1 c1, .slice A2 n2 c2] 64)) (.slice A0 n c) L) := Lib.hid (srow_keep RW.out (fun b _ h2 => Below.heap_alloc _ _ b h2) (by simp))
          have B4 : Hid (Below w.heap.size w ((w4.setCell ⟨w2.heap.size + 1, 3, none⟩ (.slice A2 n2 c2)).alloc (.cells #[.int .i64 8, .int .i64 0, .slice A1 n1 c1, .slice A2 n2 c2] 64))) := Lib.hid (below_alloc BW.out _)
          have ZL : Hid (w.heap.size ≤ ((w4.setCell ⟨w2.heap.size + 1, 3, none⟩ (.slice A2 n2 c2)).alloc (.cells #[.int .i64 8, .int .i64 0, .slice A1 n1 c1, .slice A2 n2 c2] 64)).heap.size) := Lib.hid (by simp; omega)
          have ND : Hid (NodeInS (8 - o.length) w.heap.size ((w4.setCell ⟨w2.heap.size + 1, 3, none⟩ (.slice A2 n2 c2)).alloc (.cells #[.int .i64 8, .int .i64 0, .slice A1 n1 c1, .slice A2 n2 c2] 64)) (Value.slice A0 n c).ownBlock (.mk 8 0 (prs N (Q.drop (i + 1))).1 (prs N (Q.drop (p + 1))).1) ⟨w4.heap.size, 0, none⟩) := Lib.hid (by
            have q := node_inS (d := 8 - o.length) (lo := w.heap.size) (w := (w4.setCell ⟨w2.heap.size + 1, 3, none⟩ (.slice A2 n2 c2))) (own := (Value.slice A0 n c).ownBlock) (y := .mk 8 0 (prs N (Q.drop (i + 1))).1 (prs N (Q.drop (p + 1))).1) (spart_wide SA.out (by omega) (fun g hg => by have := own g hg; omega)) (spart_wide SB.out (by omega) (fun g hg => by have := own g hg; omega)) (fun g hg => by have := own g hg; simp; omega) 64
            rw [show (w4.setCell ⟨w2.heap.size + 1, 3, none⟩ (.slice A2 n2 c2)).heap.size = w4.heap.size by simp] at q
            exact q)
          go_wp2_with (first
            | (at_builtin; refine wpList_append_nodeS rfl (.tmp 118) (.tmp 120) rfl rfl R4.out (by omega) ZL.out ND.out rfl rfl ?_
               intro v5 w5 hp5
               have P5 := Lib.hid hp5
               clear hp5))
          have DN := Lib.hid (si_done hlt HX.out (by omega) hp2 hf R4.out P5.out GT.out ST.out HP.out hl B4.out)
          go_wp2
          go_roundw
          case rel => exact ⟨p2 + 1, by go_num, DN.out⟩
          case measure => simp [intOf]; omega
        · have ST : Hid (StepT N ⟨6, xv⟩ (Q.drop (i + 1)) (.mk (prs N (Q.drop (i + 1))).2.1 0 (prs N (Q.drop (i + 1))).1 []) (Q.drop (p + 1))) := Lib.hid (by rw [T1.out]; exact step_loop LX (.inl rfl) h8)
          have GT : Hid (Good (Q.drop (p + 1)) o) := Lib.hid (by rw [T1.out]; rw [next_down o 6 (by omega)] at f3; exact f3)
          have B3 : Hid (Below w2.heap.size w2 ((w2.alloc (.cells #[] 64)).alloc (.cells #[.int .i64 (prs N (Q.drop (i + 1))).2.1, .int .i64 0, .slice A1 n1 c1, .slice (some ⟨w2.heap.size, 0, none⟩) 0 0] 64))) := Lib.hid (below_alloc (below_alloc (Below.refl _ _) _) _)
          have BW : Hid (Below w.heap.size w ((w2.alloc (.cells #[] 64)).alloc (.cells #[.int .i64 (prs N (Q.drop (i + 1))).2.1, .int .i64 0, .slice A1 n1 c1, .slice (some ⟨w2.heap.size, 0, none⟩) 0 0] 64))) := Lib.hid (below_step HB2.out (B3.out.mono (by omega)))
          have RW : Hid (SRow (8 - o.length) w.heap.size ((w2.alloc (.cells #[] 64)).alloc (.cells #[.int .i64 (prs N (Q.drop (i + 1))).2.1, .int .i64 0, .slice A1 n1 c1, .slice (some ⟨w2.heap.size, 0, none⟩) 0 0] 64)) (.slice A0 n c) L) := Lib.hid (srow_keep RW2.out (fun b h1 h2 => B3.out.block b h2) (by simp <;> omega))
          have SA : Hid (SPart (8 - o.length) (wr.heap.size + 1) ((w2.alloc (.cells #[] 64)).alloc (.cells #[.int .i64 (prs N (Q.drop (i + 1))).2.1, .int .i64 0, .slice A1 n1 c1, .slice (some ⟨w2.heap.size, 0, none⟩) 0 0] 64)) none (.slice A1 n1 c1) (prs N (Q.drop (i + 1))).1) := Lib.hid (spart_keep S1.out (fun b h1 h2 _ => B3.out.block b h2) (by simp <;> omega))
          have e8 : ((prs N (Q.drop (i + 1))).2.1 == 8) = false := by simpa using h8
          clear f2 f3 ft h8
          have R4 : Hid (SRow (8 - o.length) w.heap.size (((w2.alloc (.cells #[] 64)).alloc (.cells #[.int .i64 (prs N (Q.drop (i + 1))).2.1, .int .i64 0, .slice A1 n1 c1, .slice (some ⟨w2.heap.size, 0, none⟩) 0 0] 64)).alloc (.cells #[.int .i64 (prs N (Q.drop (i + 1))).2.1, .int .i64 0, .slice A1 n1 c1, .slice (some ⟨w2.heap.size, 0, none⟩) 0 0] 64)) (.slice A0 n c) L) := Lib.hid (srow_keep RW.out (fun b _ h2 => Below.heap_alloc _ _ b h2) (by simp))
          have B4 : Hid (Below w.heap.size w (((w2.alloc (.cells #[] 64)).alloc (.cells #[.int .i64 (prs N (Q.drop (i + 1))).2.1, .int .i64 0, .slice A1 n1 c1, .slice (some ⟨w2.heap.size, 0, none⟩) 0 0] 64)).alloc (.cells #[.int .i64 (prs N (Q.drop (i + 1))).2.1, .int .i64 0, .slice A1 n1 c1, .slice (some ⟨w2.heap.size, 0, none⟩) 0 0] 64))) := Lib.hid (below_alloc BW.out _)
          have ZL : Hid (w.heap.size ≤ (((w2.alloc (.cells #[] 64)).alloc (.cells #[.int .i64 (prs N (Q.drop (i + 1))).2.1, .int .i64 0, .slice A1 n1 c1, .slice (some ⟨w2.heap.size, 0, none⟩) 0 0] 64)).alloc (.cells #[.int .i64 (prs N (Q.drop (i + 1))).2.1, .int .i64 0, .slice A1 n1 c1, .slice (some ⟨w2.heap.size, 0, none⟩) 0 0] 64)).heap.size) := Lib.hid (by simp; omega)
          have ND : Hid (NodeInS (8 - o.length) w.heap.size (((w2.alloc (.cells #[] 64)).alloc (.cells #[.int .i64 (prs N (Q.drop (i + 1))).2.1, .int .i64 0, .slice A1 n1 c1, .slice (some ⟨w2.heap.size, 0, none⟩) 0 0] 64)).alloc (.cells #[.int .i64 (prs N (Q.drop (i + 1))).2.1, .int .i64 0, .slice A1 n1 c1, .slice (some ⟨w2.heap.size, 0, none⟩) 0 0] 64)) (Value.slice A0 n c).ownBlock (.mk (prs N (Q.drop (i + 1))).2.1 0 (prs N (Q.drop (i + 1))).1 []) ⟨w2.heap.size + 1 + 1, 0, none⟩) := Lib.hid (by
            have q := node_inS (d := 8 - o.length) (lo := w.heap.size) (w := ((w2.alloc (.cells #[] 64)).alloc (.cells #[.int .i64 (prs N (Q.drop (i + 1))).2.1, .int .i64 0, .slice A1 n1 c1, .slice (some ⟨w2.heap.size, 0, none⟩) 0 0] 64))) (own := (Value.slice A0 n c).ownBlock) (y := .mk (prs N (Q.drop (i + 1))).2.1 0 (prs N (Q.drop (i + 1))).1 []) (spart_wide SA.out (by omega) (fun g hg => by have := own g hg; omega)) (spart_nil _ _ _ _ (some ⟨w2.heap.size, 0, none⟩) 0) (fun g hg => by have := own g hg; simp; omega) 64
            rw [show ((w2.alloc (.cells #[] 64)).alloc (.cells #[.int .i64 (prs N (Q.drop (i + 1))).2.1, .int .i64 0, .slice A1 n1 c1, .slice (some ⟨w2.heap.size, 0, none⟩) 0 0] 64)).heap.size = w2.heap.size + 1 + 1 by simp] at q
            exact q)
          go_wp2_with (first
            | (at_builtin; refine wpList_append_nodeS rfl (.tmp 118) (.tmp 120) rfl rfl R4.out (by omega) ZL.out ND.out rfl rfl ?_
               intro v5 w5 hp5
               have P5 := Lib.hid hp5
               clear hp5))
          have DN := Lib.hid (si_done hlt HX.out (by omega) hp1 hf R4.out P5.out GT.out ST.out HP.out hl B4.out)
          go_wp2
          go_roundw
          case rel => exact ⟨p + 1, by go_num, DN.out⟩
          case measure => simp [intOf]; omega
      by_cases h10 : xk = 10
      · subst h10
        have O := O8.out (.inr (.inr rfl))
        have GG : Hid (Good (Q.drop (i + 1)) (o ++ [10])) := Lib.hid (by rw [← next_up o (.inr (.inr rfl))]; exact GX.out)
        have LX : (⟨10, xv⟩ :: Q.drop (i + 1) : List It).length < N := by simp only [List.length_cons, List.length_drop]; omega
        have en := prs_end N (Q.drop (i + 1)) (o ++ [10]) (by rw [List.length_drop]; omega) GG.out
        obtain ⟨f1, f2, f3⟩ := en.2.1 (by simp)
        have ft := fit_top f1 f2
        have d1 : 9 - (o ++ [10]).length = 8 - o.length := by simp only [List.length_append, List.length_singleton]; omega
        have wi : IntKind.i64.wrap ((i : Int) + 1) = ((i + 1 : Nat) : Int) := by rw [show (i : Int) + 1 = ((i + 1 : Nat) : Int) by omega]; exact IntWalk.i64_in _ (by omega)
        have B1 : Hid (Below wr.heap.size wr (wr.alloc (.cells #[.int .i64 10, .int .i64 xv] 59))) := Lib.hid (below_alloc (Below.refl _ _) _)
        have C1 := Lib.hid (IH.out (o ++ [10]) (i + 1) (wr.alloc (.cells #[.int .i64 10, .int .i64 xv] 59)) (by omega) (by omega) GG.out (by simp only [List.length_append, List.length_singleton]; omega) (its_below HV.out (below_step HB.out B1.out)))
        have W1S : (wr.alloc (.cells #[.int .i64 10, .int .i64 xv] 59)).heap.size = wr.heap.size + 1 := by simp
        have WS := Lib.hid W1S
        clear en f1 W1S
        go_wp2_with fail
        refine C1.out.mono ?_
        rintro e1 w2 ⟨A1, n1, c1, p, rfl, s1, en1, b1⟩
        rw [d1, WS.out] at s1
        obtain ⟨hp1, fp1, k1, t1⟩ := en1 (by simp)
        have z2 : wr.heap.size + 1 ≤ w2.heap.size := by have := b1.size; rw [WS.out] at this; exact this
        have HB2 := Lib.hid (below_step (below_step HB.out B1.out) (b1.mono (by rw [WS.out]; omega)))
        have S1 := Lib.hid s1
        have T1 := Lib.hid t1
        have K1 := Lib.hid k1
        have FR := Lib.hid fp1
        have cp := (RD.out _ HB2.out p hp1).1
        rw [K1.out] at cp
        have cq := (RD.out (w2.alloc (.cells #[] 64)) (below_step HB2.out ((below_alloc (Below.refl _ _) _).mono (by omega))) p hp1).1
        rw [K1.out] at cq
        have h8 : (prs N (Q.drop (i + 1))).2.1 ≠ 8 := by omega
        have ST : Hid (StepT N ⟨10, xv⟩ (Q.drop (i + 1)) (.mk (prs N (Q.drop (i + 1))).2.1 0 (prs N (Q.drop (i + 1))).1 []) (Q.drop (p + 1))) := Lib.hid (by rw [T1.out]; exact step_loop LX (.inr rfl) h8)
        have GT : Hid (Good (Q.drop (p + 1)) o) := Lib.hid (by rw [T1.out]; rw [next_down o 10 (by omega)] at f3; exact f3)
        have BW : Hid (Below w.heap.size w (w2.alloc (.cells #[] 64))) := Lib.hid (below_step HB2.out ((below_alloc (Below.refl _ _) _).mono (by omega)))
        have RW : Hid (SRow (8 - o.length) w.heap.size (w2.alloc (.cells #[] 64)) (.slice A0 n c) L) := Lib.hid (srow_keep HR.out (fun b h1 h2 => by rw [Below.heap_alloc _ _ b (by omega), b1.block b (by rw [WS.out]; omega), B1.out.block b h2]) (by simp; omega))
        have SA : Hid (SPart (8 - o.length) (wr.heap.size + 1) (w2.alloc (.cells #[] 64)) none (.slice A1 n1 c1) (prs N (Q.drop (i + 1))).1) := Lib.hid (spart_keep S1.out (fun b h1 h2 _ => Below.heap_alloc _ _ b h2) (by simp))
        clear b1 s1 t1 k1 en1 f2 f3 ft h8
        have R4 : Hid (SRow (8 - o.length) w.heap.size ((w2.alloc (.cells #[] 64)).alloc (.cells #[.int .i64 (prs N (Q.drop (i + 1))).2.1, .int .i64 0, .slice A1 n1 c1, .slice (some ⟨w2.heap.size, 0, none⟩) 0 0] 64)) (.slice A0 n c) L) := Lib.hid (srow_keep RW.out (fun b _ h2 => Below.heap_alloc _ _ b h2) (by simp))
        have B4 : Hid (Below w.heap.size w ((w2.alloc (.cells #[] 64)).alloc (.cells #[.int .i64 (prs N (Q.drop (i + 1))).2.1, .int .i64 0, .slice A1 n1 c1, .slice (some ⟨w2.heap.size, 0, none⟩) 0 0] 64))) := Lib.hid (below_alloc BW.out _)
        have ZL : Hid (w.heap.size ≤ ((w2.alloc (.cells #[] 64)).alloc (.cells #[.int .i64 (prs N (Q.drop (i + 1))).2.1, .int .i64 0, .slice A1 n1 c1, .slice (some ⟨w2.heap.size, 0, none⟩) 0 0] 64)).heap.size) := Lib.hid (by simp; omega)
        have ND : Hid (NodeInS (8 - o.length) w.heap.size ((w2.alloc (.cells #[] 64)).alloc (.cells #[.int .i64 (prs N (Q.drop (i + 1))).2.1, .int .i64 0, .slice A1 n1 c1, .slice (some ⟨w2.heap.size, 0, none⟩) 0 0] 64)) (Value.slice A0 n c).ownBlock (.mk (prs N (Q.drop (i + 1))).2.1 0 (prs N (Q.drop (i + 1))).1 []) ⟨w2.heap.size + 1, 0, none⟩) := Lib.hid (by
          have q := node_inS (d := 8 - o.length) (lo := w.heap.size) (w := (w2.alloc (.cells #[] 64))) (own := (Value.slice A0 n c).ownBlock) (y := .mk (prs N (Q.drop (i + 1))).2.1 0 (prs N (Q.drop (i + 1))).1 []) (spart_wide SA.out (by omega) (fun g hg => by have := own g hg; omega)) (spart_nil _ _ _ _ (some ⟨w2.heap.size, 0, none⟩) 0) (fun g hg => by have := own g hg; simp; omega) 64
          rw [show (w2.alloc (.cells #[] 64)).heap.size = w2.heap.size + 1 by simp] at q
          exact q)
        go_wp2_with (first
          | (at_builtin; refine wpList_append_nodeS rfl (.tmp 132) (.tmp 141) rfl rfl R4.out (by omega) ZL.out ND.out rfl rfl ?_
             intro v5 w5 hp5
             have P5 := Lib.hid hp5
             clear hp5))
        have DN := Lib.hid (si_done hlt HX.out (by omega) hp1 hf R4.out P5.out GT.out ST.out HP.out hl B4.out)
        go_wp2
        go_roundw
        case rel => exact ⟨p + 1, by go_num, DN.out⟩
        case measure => simp [intOf]; omega
      have q1 : (xk == 1) = false := by simp [h1]
      have q2 : (xk == 2) = false := by simp [h2]
      have q3 : (xk == 3) = false := by simp [h3]
      have q6 : (xk == 6) = false := by simp [h6]
      have q10 : (xk == 10) = false := by simp [h10]
      have q13 : (xk == 13) = false := by simp [h13]
      have SP : Hid (prs N (⟨xk, xv⟩ :: Q.drop (i + 1)) = ([], xk, Q.drop (i + 1))) := Lib.hid (step_stop (by simp only [List.length_cons, List.length_drop]; omega) ⟨h3, h6, h10, h1, h2, h13⟩)
      have D8 : 9 - o.length = 8 - o.length + 1 := by omega
      clear h1 h2 h3 h6 h10 h13
      go_wp2
      go_ret2
      have P := HP.out
      rw [SP.out] at P
      simp only [List.append_nil] at P
      refine ⟨A0, n, c, i, rfl, ?_, fun _ => ⟨hlt, hf, by rw [P, HX.out], by rw [P]⟩, below_alloc HB.out _⟩
      rw [P, D8]
      exact spart_keep (srow_built HR.out) (fun b _ h2 _ => Below.heap_alloc _ _ b h2) (by simp)
    · obtain rfl : i = Q.length := by omega
      rw [List.drop_length] at hgd hp
      have o0 := good_nil hgd
      have e0 : prs N ([] : List It) = ([], 0, []) := by cases N <;> rfl
      rw [e0] at hp
      simp only [List.append_nil] at hp
      have HP := Lib.hid hp
      clear hgd hp e0 hlt
      go_wp2
      go_ret2
      refine ⟨A0, n, c, Q.length, rfl, ?_, fun h => absurd o0 h, HB.out⟩
      rw [HP.out, show 9 - o.length = 8 - o.length + 1 by omega]
      exact srow_built HR.out

/-- All of them. -/
theorem parse_all (N : Nat) (Q : List It) (v : Value) (hN : Q.length < N) (hQ : Q.length ≤ 1000000) : ∀ m, PrsN N Q v m := by
  intro m
  induction m with
  | zero => intro o fr w h; omega
  | succ m ih => exact parse_succ N Q v m hN hQ ih

end Go.Proofs.Ytafhmajnkicifaa
