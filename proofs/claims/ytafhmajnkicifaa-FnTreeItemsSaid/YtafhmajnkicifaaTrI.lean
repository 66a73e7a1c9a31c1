/- The program's reader of items: a list of nodes. -/
import Derived.Test.YtafhmajnkicifaaTrH
import Derived.BigQuiet
namespace Go.Proofs.Ytafhmajnkicifaa
open Go.RowKit
set_option linter.unusedVariables false
set_option linter.unusedSimpArgs false

/-- How many items a reader's box has still. -/
def restN (w : World) (G : Nat) : Nat := match w.cell? ⟨G, 0, none⟩ with
  | some (.slice _ n _) => n
  | _ => 0

theorem restN_of {w : World} {G ib : Nat} {Q : List It} (h : RdAt w G ib Q) : restN w G = Q.length := by
  obtain ⟨A, n, c, h1, h2, _⟩ := h
  have q := whole_cell h1 0
  obtain ⟨_, A', c', e, _⟩ := h2
  simp only [Value.slice.injEq] at e
  obtain ⟨rfl, rfl, rfl⟩ := e
  simp at q
  unfold restN
  rw [q]

/-- The loop's invariant. -/
def NdInv (N : Nat) (Q : List It) (o : List Int) (w : World) (G ib : Nat) (l : Value) (wr : World) : Prop :=
  ∃ A n c L R, l = .slice A n c ∧ TOwn (9 - o.length) wr w.heap.size wr.heap.size (.slice A n c) L ∧ RdAt wr G ib R ∧ Good R o ∧ prs N Q = (L ++ (prs N R).1, (prs N R).2) ∧ L.length + R.length ≤ Q.length ∧ w.grownBy wr (some G)

theorem gb_setG {a w : World} {b : Nat} (h : a.grownBy w (some b)) (i : Nat) (u : Value) : a.grownBy (w.setCell ⟨b, i, none⟩ u) (some b) :=
  grown_trans h ⟨rfl, rfl, rfl, by simp, fun k hk hr => Below.heap_setCell _ _ _ _ (by intro e; exact hr (congrArg some e))⟩

theorem nd_ready {d : Nat} {wr w3 : World} {lo G s m : Nat} {v : Value} {L : List Nd} {y : Nd} {A B : Option Addr} {n c n2 c2 : Nat} {t : TypeId} (hT : TOwn (d + 1) wr lo wr.heap.size v L) (hG : G < lo) (g : wr.grownBy w3 (some G)) (h1 : wr.heap.size ≤ s) (h2 : s ≤ m) (h3 : m ≤ w3.heap.size)
    (ta : TOwn d w3 s m (.slice A n c) y.a) (tb : TOwn d w3 m w3.heap.size (.slice B n2 c2) y.b) :
    TOwn (d + 1) (w3.alloc (.cells #[.int .i64 y.k, .int .i64 y.v, .slice A n c, .slice B n2 c2] t)) lo wr.heap.size v L ∧
      NodeIn d (w3.alloc (.cells #[.int .i64 y.k, .int .i64 y.v, .slice A n c, .slice B n2 c2] t)) wr.heap.size y ⟨w3.heap.size, 0, none⟩ := by
  have X := whole_new w3 t #[.int .i64 y.k, .int .i64 y.v, .slice A n c, .slice B n2 c2]
  have keep : ∀ b, b < w3.heap.size → (w3.alloc (.cells #[.int .i64 y.k, .int .i64 y.v, .slice A n c, .slice B n2 c2] t)).heap[b]? = w3.heap[b]? := fun b hb => Below.heap_alloc w3 _ b hb
  have hs := g.size
  refine ⟨town_keep _ hT fun b hb1 hb2 => (keep b (by omega)).trans (g.block b hb2 (by simp; omega)), s, m, w3.heap.size, A, n, c, B, n2, c2, h1, h2, h3, by simp, ?_, ?_, ?_, ?_, ?_, ?_⟩
  · exact town_keep _ ta fun b hb1 hb2 => keep b (by omega)
  · exact town_keep _ tb fun b hb1 hb2 => keep b (by omega)
  · exact whole_cell X 0
  · exact whole_cell X 1
  · exact whole_cell X 2
  · exact whole_cell X 3

theorem nd_done {N : Nat} {Q : List It} {o : List Int} {w wr w4 w5 : World} {G ib : Nat} {v v' : Value} {L : List Nd} {x : It} {y : Nd} {S T : List It} (ho : o.length ≤ 8)
    (hT : TOwn (8 - o.length + 1) w4 w.heap.size wr.heap.size v L) (hG : G < w.heap.size) (hi : ib < w.heap.size) (h4 : w.heap.size ≤ w4.heap.size) (hP : Pushed (8 - o.length + 1) w.heap.size v w4 (L ++ [y]) v' w5) (hr : RdAt w4 G ib T) (hg : Good T o)
    (hst : StepT N x S y T) (hq : prs N Q = (L ++ (prs N (x :: S)).1, (prs N (x :: S)).2)) (hl : L.length + (x :: S).length ≤ Q.length) (hgr : w.grownBy w4 (some G)) : NdInv N Q o w G ib v' w5 ∧ restN w5 G ≤ S.length := by
  obtain ⟨t5, g5, _, A, n, c, rfl⟩ := hP
  have own : ∀ g, v.ownBlock = some g → w.heap.size ≤ g := by
    obtain ⟨xs, h, _⟩ := hT
    exact fun g hg => (World.ownsRow.lt h g hg).1
  have keep : ∀ b, b < w.heap.size → w5.heap[b]? = w4.heap[b]? := fun b hb => g5.block b (by omega) (fun e => by have := own b e.symm; omega)
  have r5 := rd_keep hr (keep G hG) (keep ib hi)
  obtain ⟨e1, e2⟩ := hst
  have e9 : 9 - o.length = 8 - o.length + 1 := by omega
  simp only [List.length_cons] at hl
  refine ⟨⟨A, n, c, L ++ [y], T, rfl, by rw [e9]; exact t5, r5, hg, ?_, by simp; omega, ?_⟩, by rw [restN_of r5]; exact e2⟩
  · rw [hq, e1, List.append_assoc]; rfl
  · exact ⟨g5.os.trans hgr.os, g5.tape.trans hgr.tape, g5.output.trans hgr.output, Nat.le_trans hgr.size g5.size, fun k hk hne => (keep k hk).trans (hgr.block k hk hne)⟩

set_option maxRecDepth 100000 in
set_option maxHeartbeats 4000000 in
theorem nodes_succ (N m : Nat) (hm : m < N) (hM : m ≤ 1000000) (ih : NodesN N m) : NodesN N (m + 1) := by
  intro Q o w G ib hQ hg ho hr hi hne
  have hG := rd_lt hr
  have IH := Lib.hid ih
  have START : Hid (NdInv N Q o w G ib (.slice none 0 0) w) := Lib.hid ⟨none, 0, 0, [], Q, rfl, town_nil _ _ (Nat.le_refl _), hr, hg, by simp, by simp, World.grownBy.refl _ _⟩
  clear ih hr hg
  go_enter Try.func29, Try.ntmps29
  go_wp2
  go_loopw [4] (fun l wr => NdInv N Q o w G ib l wr) (fun _ wr => restN wr G)
  case atStart => exact START.out
  case round =>
    obtain ⟨A, n, c, L, R, rfl, ht, hrd, hgd, hp, hl, hgr⟩ := hrel
    have e9 : 9 - o.length = 8 - o.length + 1 := by omega
    rw [e9] at ht
    have HT := Lib.hid ht
    have HRD := Lib.hid hrd
    have HGD := Lib.hid hgd
    have HP := Lib.hid hp
    have HGR := Lib.hid hgr
    have zr := hgr.size
    obtain ⟨B, k, e, hw, hits, hke, hbl⟩ := id hrd
    have x0 := whole_cell hw 0
    have xf := whole_free hw
    simp at x0
    have HI := Lib.hid hits
    clear ht hrd hgd hp hgr START
    cases R with
    | nil =>
      obtain ⟨_, B', e', q, _⟩ := hits
      simp only [Value.slice.injEq] at q
      obtain ⟨rfl, rfl, rfl⟩ := q
      clear hbl
      go_wp2
      refine bodyPost_ret (v := .tuple #[.slice A n c, .int .i64 0]) (by simp [results, Try.results29, go_sem, *]) rfl ?_
      refine ⟨A, n, c, ?_, ?_, ?_, HGR.out⟩
      all_goals (have P := HP.out; have e0 : prs N ([] : List It) = ([], 0, []) := by (cases N <;> rfl))
      all_goals (rw [e0] at P; simp only [List.append_nil] at P; rw [P])
      · rw [e9]; exact HT.out
      · exact HRD.out
    | cons x S =>
      obtain ⟨kx, fx, gx⟩ := good_cons HGD.out
      obtain ⟨ek, ad, eB, i0, i1⟩ := its_head hits
      subst eB
      have xb : ad.block = ib := hbl ad rfl (by omega)
      have HKE := Lib.hid hke
      have HBL := Lib.hid hbl
      have HW := Lib.hid hw
      have GXX := Lib.hid gx
      have KX := Lib.hid kx
      obtain ⟨xk, xv⟩ := x
      simp only at i0 i1 gx kx fx
      have p0 : (0 : Int) < (k : Int) := by omega
      have p1 : (1 : Int) ≤ (k : Int) := by omega
      have pn : 0 < k := by omega
      have pn1 : 1 ≤ k := pn
      have zG : G ≠ wr.heap.size := by omega
      have zG' : wr.heap.size ≠ G := by omega
      have XB := Lib.hid xb
      have EK := Lib.hid ek
      have Wa := whole_alloc hw (.cells #[.int .i64 xk, .int .i64 xv] 59)
      have Wb := whole_new wr 59 #[.int .i64 xk, .int .i64 xv]
      have y0 := whole_cell Wa 0
      have yf := whole_free Wa
      have z0 := whole_cell Wb 0
      have z1 := whole_cell Wb 1
      have zf := whole_free Wb
      simp at y0 z0 z1
      have RT : Hid (RdAt ((wr.alloc (.cells #[.int .i64 xk, .int .i64 xv] 59)).setCell ⟨G, 0, none⟩ (.slice (if e = 1 then some ad else Option.map (fun x => x.add (1 * 2)) (some ad)) (k - 1) (e - 1))) G ib S) := Lib.hid (rd_tail hits hke hbl (whole_set Wa 0 _) ((Below.heap_setCell _ _ _ _ (by show ib ≠ G; exact hne)).trans (Below.heap_alloc wr _ ib (by omega))))
      have RT1 : Hid (e = 1 → RdAt ((wr.alloc (.cells #[.int .i64 xk, .int .i64 xv] 59)).setCell ⟨G, 0, none⟩ (.slice (some ad) (k - 1) 0)) G ib S) := Lib.hid fun he => by have q := RT.out; rw [if_pos he, he] at q; exact q
      have RT2 : Hid (¬ e = 1 → RdAt ((wr.alloc (.cells #[.int .i64 xk, .int .i64 xv] 59)).setCell ⟨G, 0, none⟩ (.slice (some ⟨ad.block, ad.off + 2, none⟩) (k - 1) (e - 1))) G ib S) := Lib.hid fun he => by have q := RT.out; rw [if_neg he] at q; exact q
      clear RT
      have GT : Hid (∀ u, wr.grownBy ((wr.alloc (.cells #[.int .i64 xk, .int .i64 xv] 59)).setCell ⟨G, 0, none⟩ u) (some G)) := Lib.hid fun u => gb_setG (gb_alloc (World.grownBy.refl _ _) _) 0 u
      have PH := Lib.hid Wa
      have BH := Lib.hid Wb
      clear hits hbl hw gx kx xb ek hke Wa Wb
      by_cases h3 : xk = 3
      · subst h3
        have NX : Hid (Good S (o ++ [3])) := Lib.hid (by rw [← next_up o (.inl rfl)]; exact GXX.out)
        have o8 : o.length < 8 := by unfold fitB at fx; simp at fx; omega
        go_wp2_with fail
        · have r2 := RT1.out (by assumption)
          refine (cond_any N m IH.out ⟨3, xv⟩ S o _ G ib (by simp at hl; omega) (by simp at hl; omega) NX.out o8 r2 (by simp; omega) hne rfl).mono ?_
          rintro e3 w3 ⟨y, T, A2, n2, c2, B2, m2, d2, mid, rfl, st, gt, r3, s1, s2, ta, tb, g3⟩
          have G3 := grown_trans (GT.out _) g3
          have z2 : wr.heap.size + 1 ≤ mid := by simp at s1; omega
          have ND := Lib.hid (nd_ready (t := 64) HT.out hG G3 (by simp) s1 s2 ta tb)
          have ST := Lib.hid st
          have GG := Lib.hid gt
          have R4 := Lib.hid (rd_below r3 (below_alloc (Below.refl _ _) (.cells #[.int .i64 y.k, .int .i64 y.v, .slice A2 n2 c2, .slice B2 m2 d2] 64)))
          have G4 := Lib.hid (gb_alloc (grown_trans HGR.out G3) (.cells #[.int .i64 y.k, .int .i64 y.v, .slice A2 n2 c2, .slice B2 m2 d2] 64))
          clear st gt r3 ta tb g3
          go_wp2_with (first
            | (at_builtin; refine wpList_append_node rfl (.tmp 33) (.tmp 36) rfl rfl ND.out.1 (by simp at hl; omega) zr (by simp; omega) ND.out.2 rfl rfl ?_
               intro v5 w5 hp5
               have P5 := Lib.hid hp5
               clear hp5))
          have DN := Lib.hid (nd_done ho ND.out.1 hG hi (by simp; omega) P5.out R4.out GG.out ST.out HP.out hl G4.out)
          have ME := restN_of HRD.out
          go_roundw
          case rel => exact DN.out.1
          case measure => have M := DN.out.2; simp at ME; omega
        · have r2 := RT2.out (by assumption)
          refine (cond_any N m IH.out ⟨3, xv⟩ S o _ G ib (by simp at hl; omega) (by simp at hl; omega) NX.out o8 r2 (by simp; omega) hne rfl).mono ?_
          rintro e3 w3 ⟨y, T, A2, n2, c2, B2, m2, d2, mid, rfl, st, gt, r3, s1, s2, ta, tb, g3⟩
          have G3 := grown_trans (GT.out _) g3
          have z2 : wr.heap.size + 1 ≤ mid := by simp at s1; omega
          have ND := Lib.hid (nd_ready (t := 64) HT.out hG G3 (by simp) s1 s2 ta tb)
          have ST := Lib.hid st
          have GG := Lib.hid gt
          have R4 := Lib.hid (rd_below r3 (below_alloc (Below.refl _ _) (.cells #[.int .i64 y.k, .int .i64 y.v, .slice A2 n2 c2, .slice B2 m2 d2] 64)))
          have G4 := Lib.hid (gb_alloc (grown_trans HGR.out G3) (.cells #[.int .i64 y.k, .int .i64 y.v, .slice A2 n2 c2, .slice B2 m2 d2] 64))
          clear st gt r3 ta tb g3
          go_wp2_with (first
            | (at_builtin; refine wpList_append_node rfl (.tmp 33) (.tmp 36) rfl rfl ND.out.1 (by simp at hl; omega) zr (by simp; omega) ND.out.2 rfl rfl ?_
               intro v5 w5 hp5
               have P5 := Lib.hid hp5
               clear hp5))
          have DN := Lib.hid (nd_done ho ND.out.1 hG hi (by simp; omega) P5.out R4.out GG.out ST.out HP.out hl G4.out)
          have ME := restN_of HRD.out
          go_roundw
          case rel => exact DN.out.1
          case measure => have M := DN.out.2; simp at ME; omega
      by_cases h6 : xk = 6
      · subst h6
        have NX : Hid (Good S (o ++ [6])) := Lib.hid (by rw [← next_up o (.inr (.inl rfl))]; exact GXX.out)
        have o8 : o.length < 8 := by unfold fitB at fx; simp at fx; omega
        go_wp2_with fail
        · have r2 := RT1.out (by assumption)
          refine (loop_any N m IH.out ⟨6, xv⟩ S o _ G ib (by simp at hl; omega) (by simp at hl; omega) NX.out o8 r2 (by simp; omega) hne (.inl rfl)).mono ?_
          rintro e3 w3 ⟨y, T, A2, n2, c2, B2, m2, d2, mid, rfl, st, gt, r3, s1, s2, ta, tb, g3⟩
          have G3 := grown_trans (GT.out _) g3
          have z2 : wr.heap.size + 1 ≤ mid := by simp at s1; omega
          have ND := Lib.hid (nd_ready (t := 64) HT.out hG G3 (by simp) s1 s2 ta tb)
          have ST := Lib.hid st
          have GG := Lib.hid gt
          have R4 := Lib.hid (rd_below r3 (below_alloc (Below.refl _ _) (.cells #[.int .i64 y.k, .int .i64 y.v, .slice A2 n2 c2, .slice B2 m2 d2] 64)))
          have G4 := Lib.hid (gb_alloc (grown_trans HGR.out G3) (.cells #[.int .i64 y.k, .int .i64 y.v, .slice A2 n2 c2, .slice B2 m2 d2] 64))
          clear st gt r3 ta tb g3
          go_wp2_with (first
            | (at_builtin; refine wpList_append_node rfl (.tmp 41) (.tmp 44) rfl rfl ND.out.1 (by simp at hl; omega) zr (by simp; omega) ND.out.2 rfl rfl ?_
               intro v5 w5 hp5
               have P5 := Lib.hid hp5
               clear hp5))
          have DN := Lib.hid (nd_done ho ND.out.1 hG hi (by simp; omega) P5.out R4.out GG.out ST.out HP.out hl G4.out)
          have ME := restN_of HRD.out
          go_roundw
          case rel => exact DN.out.1
          case measure => have M := DN.out.2; simp at ME; omega
        · have r2 := RT2.out (by assumption)
          refine (loop_any N m IH.out ⟨6, xv⟩ S o _ G ib (by simp at hl; omega) (by simp at hl; omega) NX.out o8 r2 (by simp; omega) hne (.inl rfl)).mono ?_
          rintro e3 w3 ⟨y, T, A2, n2, c2, B2, m2, d2, mid, rfl, st, gt, r3, s1, s2, ta, tb, g3⟩
          have G3 := grown_trans (GT.out _) g3
          have z2 : wr.heap.size + 1 ≤ mid := by simp at s1; omega
          have ND := Lib.hid (nd_ready (t := 64) HT.out hG G3 (by simp) s1 s2 ta tb)
          have ST := Lib.hid st
          have GG := Lib.hid gt
          have R4 := Lib.hid (rd_below r3 (below_alloc (Below.refl _ _) (.cells #[.int .i64 y.k, .int .i64 y.v, .slice A2 n2 c2, .slice B2 m2 d2] 64)))
          have G4 := Lib.hid (gb_alloc (grown_trans HGR.out G3) (.cells #[.int .i64 y.k, .int .i64 y.v, .slice A2 n2 c2, .slice B2 m2 d2] 64))
          clear st gt r3 ta tb g3
          go_wp2_with (first
            | (at_builtin; refine wpList_append_node rfl (.tmp 41) (.tmp 44) rfl rfl ND.out.1 (by simp at hl; omega) zr (by simp; omega) ND.out.2 rfl rfl ?_
               intro v5 w5 hp5
               have P5 := Lib.hid hp5
               clear hp5))
          have DN := Lib.hid (nd_done ho ND.out.1 hG hi (by simp; omega) P5.out R4.out GG.out ST.out HP.out hl G4.out)
          have ME := restN_of HRD.out
          go_roundw
          case rel => exact DN.out.1
          case measure => have M := DN.out.2; simp at ME; omega
      by_cases h10 : xk = 10
      · subst h10
        have NX : Hid (Good S (o ++ [10])) := Lib.hid (by rw [← next_up o (.inr (.inr rfl))]; exact GXX.out)
        have o8 : o.length < 8 := by unfold fitB at fx; simp at fx; omega
        go_wp2_with fail
        · have r2 := RT1.out (by assumption)
          refine (loop_any N m IH.out ⟨10, xv⟩ S o _ G ib (by simp at hl; omega) (by simp at hl; omega) NX.out o8 r2 (by simp; omega) hne (.inr rfl)).mono ?_
          rintro e3 w3 ⟨y, T, A2, n2, c2, B2, m2, d2, mid, rfl, st, gt, r3, s1, s2, ta, tb, g3⟩
          have G3 := grown_trans (GT.out _) g3
          have z2 : wr.heap.size + 1 ≤ mid := by simp at s1; omega
          have ND := Lib.hid (nd_ready (t := 64) HT.out hG G3 (by simp) s1 s2 ta tb)
          have ST := Lib.hid st
          have GG := Lib.hid gt
          have R4 := Lib.hid (rd_below r3 (below_alloc (Below.refl _ _) (.cells #[.int .i64 y.k, .int .i64 y.v, .slice A2 n2 c2, .slice B2 m2 d2] 64)))
          have G4 := Lib.hid (gb_alloc (grown_trans HGR.out G3) (.cells #[.int .i64 y.k, .int .i64 y.v, .slice A2 n2 c2, .slice B2 m2 d2] 64))
          clear st gt r3 ta tb g3
          go_wp2_with (first
            | (at_builtin; refine wpList_append_node rfl (.tmp 41) (.tmp 44) rfl rfl ND.out.1 (by simp at hl; omega) zr (by simp; omega) ND.out.2 rfl rfl ?_
               intro v5 w5 hp5
               have P5 := Lib.hid hp5
               clear hp5))
          have DN := Lib.hid (nd_done ho ND.out.1 hG hi (by simp; omega) P5.out R4.out GG.out ST.out HP.out hl G4.out)
          have ME := restN_of HRD.out
          go_roundw
          case rel => exact DN.out.1
          case measure => have M := DN.out.2; simp at ME; omega
        · have r2 := RT2.out (by assumption)
          refine (loop_any N m IH.out ⟨10, xv⟩ S o _ G ib (by simp at hl; omega) (by simp at hl; omega) NX.out o8 r2 (by simp; omega) hne (.inr rfl)).mono ?_
          rintro e3 w3 ⟨y, T, A2, n2, c2, B2, m2, d2, mid, rfl, st, gt, r3, s1, s2, ta, tb, g3⟩
          have G3 := grown_trans (GT.out _) g3
          have z2 : wr.heap.size + 1 ≤ mid := by simp at s1; omega
          have ND := Lib.hid (nd_ready (t := 64) HT.out hG G3 (by simp) s1 s2 ta tb)
          have ST := Lib.hid st
          have GG := Lib.hid gt
          have R4 := Lib.hid (rd_below r3 (below_alloc (Below.refl _ _) (.cells #[.int .i64 y.k, .int .i64 y.v, .slice A2 n2 c2, .slice B2 m2 d2] 64)))
          have G4 := Lib.hid (gb_alloc (grown_trans HGR.out G3) (.cells #[.int .i64 y.k, .int .i64 y.v, .slice A2 n2 c2, .slice B2 m2 d2] 64))
          clear st gt r3 ta tb g3
          go_wp2_with (first
            | (at_builtin; refine wpList_append_node rfl (.tmp 41) (.tmp 44) rfl rfl ND.out.1 (by simp at hl; omega) zr (by simp; omega) ND.out.2 rfl rfl ?_
               intro v5 w5 hp5
               have P5 := Lib.hid hp5
               clear hp5))
          have DN := Lib.hid (nd_done ho ND.out.1 hG hi (by simp; omega) P5.out R4.out GG.out ST.out HP.out hl G4.out)
          have ME := restN_of HRD.out
          go_roundw
          case rel => exact DN.out.1
          case measure => have M := DN.out.2; simp at ME; omega
      by_cases h1 : xk = 1
      · subst h1
        have GG : Hid (Good S o) := Lib.hid (by rw [← next_same o (.inl rfl)]; exact GXX.out)
        by_cases he : e = 1
        · have r2 := RT1.out he
          have zW : ((wr.alloc (.cells #[.int .i64 1, .int .i64 xv] 59)).setCell ⟨G, 0, none⟩ (.slice (some ad) (k - 1) 0)).heap.size = wr.heap.size + 1 := by simp
          have nd := (nd_ready (t := 64) (y := .mk 1 xv [] []) (A := none) (B := none) (n := 0) (c := 0) (n2 := 0) (c2 := 0) (s := wr.heap.size) (m := wr.heap.size) HT.out hG (GT.out _) (Nat.le_refl _) (Nat.le_refl _) (by simp) (town_nil _ _ (Nat.le_refl _)) (town_nil _ ((wr.alloc (.cells #[.int .i64 1, .int .i64 xv] 59)).setCell ⟨G, 0, none⟩ (.slice (some ad) (k - 1) 0)) (by simp)))
          rw [zW] at nd
          have ND := Lib.hid nd
          clear nd zW
          have ST : Hid (StepT N ⟨1, xv⟩ S (.mk 1 xv [] []) S) := Lib.hid (step_word (by simp only [List.length_cons] at hl ⊢; omega) (.inl rfl))
          have R4 := Lib.hid (rd_below r2 (below_alloc (Below.refl _ _) (.cells #[.int .i64 1, .int .i64 xv, .slice none 0 0, .slice none 0 0] 64)))
          have G4 := Lib.hid (gb_alloc (grown_trans HGR.out (GT.out (.slice (some ad) (k - 1) 0))) (.cells #[.int .i64 1, .int .i64 xv, .slice none 0 0, .slice none 0 0] 64))
          clear r2
          go_wp2_with (first
            | (at_builtin; refine wpList_append_node rfl (.tmp 50) (.tmp 56) rfl rfl ND.out.1 (by simp at hl; omega) zr (by simp; omega) ND.out.2 rfl rfl ?_
               intro v5 w5 hp5
               have P5 := Lib.hid hp5
               clear hp5))
          have DN := Lib.hid (nd_done ho ND.out.1 hG hi (by simp; omega) P5.out R4.out GG.out ST.out HP.out hl G4.out)
          have ME := restN_of HRD.out
          go_roundw
          case rel => exact DN.out.1
          case measure => have M := DN.out.2; simp at ME; omega
        · have r2 := RT2.out he
          have zW : ((wr.alloc (.cells #[.int .i64 1, .int .i64 xv] 59)).setCell ⟨G, 0, none⟩ (.slice (some ⟨ad.block, ad.off + 2, none⟩) (k - 1) (e - 1))).heap.size = wr.heap.size + 1 := by simp
          have nd := (nd_ready (t := 64) (y := .mk 1 xv [] []) (A := none) (B := none) (n := 0) (c := 0) (n2 := 0) (c2 := 0) (s := wr.heap.size) (m := wr.heap.size) HT.out hG (GT.out _) (Nat.le_refl _) (Nat.le_refl _) (by simp) (town_nil _ _ (Nat.le_refl _)) (town_nil _ ((wr.alloc (.cells #[.int .i64 1, .int .i64 xv] 59)).setCell ⟨G, 0, none⟩ (.slice (some ⟨ad.block, ad.off + 2, none⟩) (k - 1) (e - 1))) (by simp)))
          rw [zW] at nd
          have ND := Lib.hid nd
          clear nd zW
          have ST : Hid (StepT N ⟨1, xv⟩ S (.mk 1 xv [] []) S) := Lib.hid (step_word (by simp only [List.length_cons] at hl ⊢; omega) (.inl rfl))
          have R4 := Lib.hid (rd_below r2 (below_alloc (Below.refl _ _) (.cells #[.int .i64 1, .int .i64 xv, .slice none 0 0, .slice none 0 0] 64)))
          have G4 := Lib.hid (gb_alloc (grown_trans HGR.out (GT.out (.slice (some ⟨ad.block, ad.off + 2, none⟩) (k - 1) (e - 1)))) (.cells #[.int .i64 1, .int .i64 xv, .slice none 0 0, .slice none 0 0] 64))
          clear r2
          go_wp2_with (first
            | (at_builtin; refine wpList_append_node rfl (.tmp 50) (.tmp 56) rfl rfl ND.out.1 (by simp at hl; omega) zr (by simp; omega) ND.out.2 rfl rfl ?_
               intro v5 w5 hp5
               have P5 := Lib.hid hp5
               clear hp5))
          have DN := Lib.hid (nd_done ho ND.out.1 hG hi (by simp; omega) P5.out R4.out GG.out ST.out HP.out hl G4.out)
          have ME := restN_of HRD.out
          go_roundw
          case rel => exact DN.out.1
          case measure => have M := DN.out.2; simp at ME; omega
      by_cases h2 : xk = 2
      · subst h2
        have GG : Hid (Good S o) := Lib.hid (by rw [← next_same o (.inr (.inl rfl))]; exact GXX.out)
        by_cases he : e = 1
        · have r2 := RT1.out he
          have zW : ((wr.alloc (.cells #[.int .i64 2, .int .i64 xv] 59)).setCell ⟨G, 0, none⟩ (.slice (some ad) (k - 1) 0)).heap.size = wr.heap.size + 1 := by simp
          have nd := (nd_ready (t := 64) (y := .mk 2 xv [] []) (A := none) (B := none) (n := 0) (c := 0) (n2 := 0) (c2 := 0) (s := wr.heap.size) (m := wr.heap.size) HT.out hG (GT.out _) (Nat.le_refl _) (Nat.le_refl _) (by simp) (town_nil _ _ (Nat.le_refl _)) (town_nil _ ((wr.alloc (.cells #[.int .i64 2, .int .i64 xv] 59)).setCell ⟨G, 0, none⟩ (.slice (some ad) (k - 1) 0)) (by simp)))
          rw [zW] at nd
          have ND := Lib.hid nd
          clear nd zW
          have ST : Hid (StepT N ⟨2, xv⟩ S (.mk 2 xv [] []) S) := Lib.hid (step_word (by simp only [List.length_cons] at hl ⊢; omega) (.inr (.inl rfl)))
          have R4 := Lib.hid (rd_below r2 (below_alloc (Below.refl _ _) (.cells #[.int .i64 2, .int .i64 xv, .slice none 0 0, .slice none 0 0] 64)))
          have G4 := Lib.hid (gb_alloc (grown_trans HGR.out (GT.out (.slice (some ad) (k - 1) 0))) (.cells #[.int .i64 2, .int .i64 xv, .slice none 0 0, .slice none 0 0] 64))
          clear r2
          go_wp2_with (first
            | (at_builtin; refine wpList_append_node rfl (.tmp 50) (.tmp 56) rfl rfl ND.out.1 (by simp at hl; omega) zr (by simp; omega) ND.out.2 rfl rfl ?_
               intro v5 w5 hp5
               have P5 := Lib.hid hp5
               clear hp5))
          have DN := Lib.hid (nd_done ho ND.out.1 hG hi (by simp; omega) P5.out R4.out GG.out ST.out HP.out hl G4.out)
          have ME := restN_of HRD.out
          go_roundw
          case rel => exact DN.out.1
          case measure => have M := DN.out.2; simp at ME; omega
        · have r2 := RT2.out he
          have zW : ((wr.alloc (.cells #[.int .i64 2, .int .i64 xv] 59)).setCell ⟨G, 0, none⟩ (.slice (some ⟨ad.block, ad.off + 2, none⟩) (k - 1) (e - 1))).heap.size = wr.heap.size + 1 := by simp
          have nd := (nd_ready (t := 64) (y := .mk 2 xv [] []) (A := none) (B := none) (n := 0) (c := 0) (n2 := 0) (c2 := 0) (s := wr.heap.size) (m := wr.heap.size) HT.out hG (GT.out _) (Nat.le_refl _) (Nat.le_refl _) (by simp) (town_nil _ _ (Nat.le_refl _)) (town_nil _ ((wr.alloc (.cells #[.int .i64 2, .int .i64 xv] 59)).setCell ⟨G, 0, none⟩ (.slice (some ⟨ad.block, ad.off + 2, none⟩) (k - 1) (e - 1))) (by simp)))
          rw [zW] at nd
          have ND := Lib.hid nd
          clear nd zW
          have ST : Hid (StepT N ⟨2, xv⟩ S (.mk 2 xv [] []) S) := Lib.hid (step_word (by simp only [List.length_cons] at hl ⊢; omega) (.inr (.inl rfl)))
          have R4 := Lib.hid (rd_below r2 (below_alloc (Below.refl _ _) (.cells #[.int .i64 2, .int .i64 xv, .slice none 0 0, .slice none 0 0] 64)))
          have G4 := Lib.hid (gb_alloc (grown_trans HGR.out (GT.out (.slice (some ⟨ad.block, ad.off + 2, none⟩) (k - 1) (e - 1)))) (.cells #[.int .i64 2, .int .i64 xv, .slice none 0 0, .slice none 0 0] 64))
          clear r2
          go_wp2_with (first
            | (at_builtin; refine wpList_append_node rfl (.tmp 50) (.tmp 56) rfl rfl ND.out.1 (by simp at hl; omega) zr (by simp; omega) ND.out.2 rfl rfl ?_
               intro v5 w5 hp5
               have P5 := Lib.hid hp5
               clear hp5))
          have DN := Lib.hid (nd_done ho ND.out.1 hG hi (by simp; omega) P5.out R4.out GG.out ST.out HP.out hl G4.out)
          have ME := restN_of HRD.out
          go_roundw
          case rel => exact DN.out.1
          case measure => have M := DN.out.2; simp at ME; omega
      by_cases h13 : xk = 13
      · subst h13
        have GG : Hid (Good S o) := Lib.hid (by rw [← next_same o (.inr (.inr rfl))]; exact GXX.out)
        by_cases he : e = 1
        · have r2 := RT1.out he
          have zW : ((wr.alloc (.cells #[.int .i64 13, .int .i64 xv] 59)).setCell ⟨G, 0, none⟩ (.slice (some ad) (k - 1) 0)).heap.size = wr.heap.size + 1 := by simp
          have nd := (nd_ready (t := 64) (y := .mk 13 xv [] []) (A := none) (B := none) (n := 0) (c := 0) (n2 := 0) (c2 := 0) (s := wr.heap.size) (m := wr.heap.size) HT.out hG (GT.out _) (Nat.le_refl _) (Nat.le_refl _) (by simp) (town_nil _ _ (Nat.le_refl _)) (town_nil _ ((wr.alloc (.cells #[.int .i64 13, .int .i64 xv] 59)).setCell ⟨G, 0, none⟩ (.slice (some ad) (k - 1) 0)) (by simp)))
          rw [zW] at nd
          have ND := Lib.hid nd
          clear nd zW
          have ST : Hid (StepT N ⟨13, xv⟩ S (.mk 13 xv [] []) S) := Lib.hid (step_word (by simp only [List.length_cons] at hl ⊢; omega) (.inr (.inr rfl)))
          have R4 := Lib.hid (rd_below r2 (below_alloc (Below.refl _ _) (.cells #[.int .i64 13, .int .i64 xv, .slice none 0 0, .slice none 0 0] 64)))
          have G4 := Lib.hid (gb_alloc (grown_trans HGR.out (GT.out (.slice (some ad) (k - 1) 0))) (.cells #[.int .i64 13, .int .i64 xv, .slice none 0 0, .slice none 0 0] 64))
          clear r2
          go_wp2_with (first
            | (at_builtin; refine wpList_append_node rfl (.tmp 50) (.tmp 56) rfl rfl ND.out.1 (by simp at hl; omega) zr (by simp; omega) ND.out.2 rfl rfl ?_
               intro v5 w5 hp5
               have P5 := Lib.hid hp5
               clear hp5))
          have DN := Lib.hid (nd_done ho ND.out.1 hG hi (by simp; omega) P5.out R4.out GG.out ST.out HP.out hl G4.out)
          have ME := restN_of HRD.out
          go_roundw
          case rel => exact DN.out.1
          case measure => have M := DN.out.2; simp at ME; omega
        · have r2 := RT2.out he
          have zW : ((wr.alloc (.cells #[.int .i64 13, .int .i64 xv] 59)).setCell ⟨G, 0, none⟩ (.slice (some ⟨ad.block, ad.off + 2, none⟩) (k - 1) (e - 1))).heap.size = wr.heap.size + 1 := by simp
          have nd := (nd_ready (t := 64) (y := .mk 13 xv [] []) (A := none) (B := none) (n := 0) (c := 0) (n2 := 0) (c2 := 0) (s := wr.heap.size) (m := wr.heap.size) HT.out hG (GT.out _) (Nat.le_refl _) (Nat.le_refl _) (by simp) (town_nil _ _ (Nat.le_refl _)) (town_nil _ ((wr.alloc (.cells #[.int .i64 13, .int .i64 xv] 59)).setCell ⟨G, 0, none⟩ (.slice (some ⟨ad.block, ad.off + 2, none⟩) (k - 1) (e - 1))) (by simp)))
          rw [zW] at nd
          have ND := Lib.hid nd
          clear nd zW
          have ST : Hid (StepT N ⟨13, xv⟩ S (.mk 13 xv [] []) S) := Lib.hid (step_word (by simp only [List.length_cons] at hl ⊢; omega) (.inr (.inr rfl)))
          have R4 := Lib.hid (rd_below r2 (below_alloc (Below.refl _ _) (.cells #[.int .i64 13, .int .i64 xv, .slice none 0 0, .slice none 0 0] 64)))
          have G4 := Lib.hid (gb_alloc (grown_trans HGR.out (GT.out (.slice (some ⟨ad.block, ad.off + 2, none⟩) (k - 1) (e - 1)))) (.cells #[.int .i64 13, .int .i64 xv, .slice none 0 0, .slice none 0 0] 64))
          clear r2
          go_wp2_with (first
            | (at_builtin; refine wpList_append_node rfl (.tmp 50) (.tmp 56) rfl rfl ND.out.1 (by simp at hl; omega) zr (by simp; omega) ND.out.2 rfl rfl ?_
               intro v5 w5 hp5
               have P5 := Lib.hid hp5
               clear hp5))
          have DN := Lib.hid (nd_done ho ND.out.1 hG hi (by simp; omega) P5.out R4.out GG.out ST.out HP.out hl G4.out)
          have ME := restN_of HRD.out
          go_roundw
          case rel => exact DN.out.1
          case measure => have M := DN.out.2; simp at ME; omega
      have q3 : (xk == 3) = false := by simp [h3]
      have q6 : (xk == 6) = false := by simp [h6]
      have q10 : (xk == 10) = false := by simp [h10]
      have q1 : (xk == 1) = false := by simp [h1]
      have q2 : (xk == 2) = false := by simp [h2]
      have q13 : (xk == 13) = false := by simp [h13]
      have STOP : Hid (prs N (⟨xk, xv⟩ :: S) = ([], xk, S)) := Lib.hid (step_stop (by simp only [List.length_cons] at hl ⊢; omega) ⟨h3, h6, h10, h1, h2, h13⟩)
      clear h3 h6 h10 h1 h2 h13
      by_cases he : e = 1
      · have R2 := Lib.hid (RT1.out he)
        have G4 := Lib.hid (grown_trans HGR.out (GT.out (.slice (some ad) (k - 1) 0)))
        have T4 := Lib.hid (town_keep _ HT.out fun b h1 h2 => (GT.out (.slice (some ad) (k - 1) 0)).block b h2 (by simp; omega))
        go_wp2_with fail
        go_quiet (fail)
        go_wp2
        refine bodyPost_ret (v := .tuple #[.slice A n c, .int .i64 xk]) (by simp [results, Try.results29, go_sem, *]) rfl ?_
        have P := HP.out
        rw [STOP.out] at P
        simp only [List.append_nil] at P
        refine ⟨A, n, c, by rw [P], ?_, ?_, gb_of_lo G4.out (below_draws (Below.refl _ _) _)⟩
        · rw [e9, P]
          exact town_wide _ (town_keep _ T4.out fun b _ _ => rfl) (Nat.le_refl _) (by simp)
        · rw [P]; exact rd_below R2.out (below_draws (Below.refl _ _) _)
      · have R2 := Lib.hid (RT2.out he)
        have G4 := Lib.hid (grown_trans HGR.out (GT.out (.slice (some ⟨ad.block, ad.off + 2, none⟩) (k - 1) (e - 1))))
        have T4 := Lib.hid (town_keep _ HT.out fun b h1 h2 => (GT.out (.slice (some ⟨ad.block, ad.off + 2, none⟩) (k - 1) (e - 1))).block b h2 (by simp; omega))
        go_wp2_with fail
        go_quiet (fail)
        go_wp2
        refine bodyPost_ret (v := .tuple #[.slice A n c, .int .i64 xk]) (by simp [results, Try.results29, go_sem, *]) rfl ?_
        have P := HP.out
        rw [STOP.out] at P
        simp only [List.append_nil] at P
        refine ⟨A, n, c, by rw [P], ?_, ?_, gb_of_lo G4.out (below_draws (Below.refl _ _) _)⟩
        · rw [e9, P]
          exact town_wide _ (town_keep _ T4.out fun b _ _ => rfl) (Nat.le_refl _) (by simp)
        · rw [P]; exact rd_below R2.out (below_draws (Below.refl _ _) _)

end Go.Proofs.Ytafhmajnkicifaa
