/- The program's reader of items: a conditional and a loop, given the nodes of shorter lists. -/
import Derived.Test.YtafhmajnkicifaaTrC
import Derived.Test.YtafhmajnkicifaaTrF
import Derived.Test.YtafhmajnkicifaaGbA
namespace Go.Proofs.Ytafhmajnkicifaa
open Go.RowKit
set_option linter.unusedVariables false
set_option linter.unusedSimpArgs false

/-- The reader, and what it has still to read. -/
def RdAt (w : World) (G ib : Nat) (Q : List It) : Prop := ∃ A n c, Whole w G 50 #[.slice A n c] ∧ Its w (.slice A n c) Q ∧ n ≤ c ∧ ∀ ad, A = some ad → 0 < n → ad.block = ib

theorem rd_keep {w w' : World} {G ib : Nat} {Q : List It} (h : RdAt w G ib Q) (h1 : w'.heap[G]? = w.heap[G]?) (h2 : w'.heap[ib]? = w.heap[ib]?) : RdAt w' G ib Q := by
  obtain ⟨A, n, c, k1, k2, k3, k4⟩ := h
  obtain ⟨hl, A', c', e, hc⟩ := k2
  simp only [Value.slice.injEq] at e
  obtain ⟨rfl, rfl, rfl⟩ := e
  refine ⟨A, _, c, whole_keep k1 h1, ⟨hl, A, c, rfl, fun hp => ?_⟩, k3, k4⟩
  obtain ⟨ad, ha, hd⟩ := hc hp
  refine ⟨ad, ha, fun k hk => ?_⟩
  obtain ⟨c0, c1⟩ := hd k hk
  have eb : (ad.add (k * 2)).block = ib := by rw [add_block]; exact k4 ad ha hp
  have hb : w'.heap[(ad.add (k * 2)).block]? = w.heap[(ad.add (k * 2)).block]? := by rw [eb]; exact h2
  exact ⟨(World.cell?_of_block hb).trans c0, (World.cell?_of_block (a := ⟨(ad.add (k * 2)).block, (ad.add (k * 2)).off + 1, none⟩) hb).trans c1⟩

theorem rd_below {w w' : World} {G ib : Nat} {Q : List It} (h : RdAt w G ib Q) (hb : Below w.heap.size w w') : RdAt w' G ib Q := by
  obtain ⟨A, n, c, h1, h2, h3, h4⟩ := h
  exact ⟨A, n, c, whole_below h1 hb, its_below h2 hb, h3, h4⟩

theorem rd_lt {w : World} {G ib : Nat} {Q : List It} (h : RdAt w G ib Q) : G < w.heap.size := by
  obtain ⟨A, n, c, h1, _⟩ := h
  exact whole_lt h1

theorem town_nil (d : Nat) (w : World) {lo hi : Nat} (h : lo ≤ hi) : TOwn d w lo hi (.slice none 0 0) [] := by
  cases d with
  | zero => exact ⟨rfl, none, 0, rfl⟩
  | succ d => exact ⟨[], World.ownsRow_nil w lo _ 4, (fun g hg => by cases hg), (fun _ => lo), Nat.le_refl _, (fun i hi => by simp at hi), h, (fun k hk => by simp at hk)⟩

/-- What the nodes of items leave. -/
def NodesOf (N : Nat) (Q : List It) (o : List Int) (w : World) (G ib : Nat) (e : Ending) (w' : World) : Prop :=
  ∃ A n c, e = .returned (.tuple #[.slice A n c, .int .i64 (prs N Q).2.1]) ∧ TOwn (9 - o.length) w' w.heap.size w'.heap.size (.slice A n c) (prs N Q).1 ∧ RdAt w' G ib (prs N Q).2.2 ∧ w.grownBy w' (some G)

/-- The nodes of lists shorter than m are read so. -/
def NodesN (N m : Nat) : Prop := ∀ (Q : List It) (o : List Int) (w : World) (G ib : Nat), Q.length < m → Good Q o → o.length ≤ 8 → RdAt w G ib Q → ib < w.heap.size → ib ≠ G →
  Calls Try.prog 29 #[.pointer (some ⟨G, 0, none⟩)] w (NodesOf N Q o w G ib)

/-- What one structure leaves. -/
def NodeOf (N : Nat) (x : It) (S : List It) (o : List Int) (w : World) (G ib : Nat) (e : Ending) (w' : World) : Prop :=
  ∃ y T A n c B n2 c2 mid, e = .returned (.agg #[.int .i64 y.k, .int .i64 y.v, .slice A n c, .slice B n2 c2]) ∧ StepT N x S y T ∧ Good T o ∧ RdAt w' G ib T ∧ w.heap.size ≤ mid ∧ mid ≤ w'.heap.size ∧
    TOwn (8 - o.length) w' w.heap.size mid (.slice A n c) y.a ∧ TOwn (8 - o.length) w' mid w'.heap.size (.slice B n2 c2) y.b ∧ w.grownBy w' (some G)

set_option maxRecDepth 100000 in
set_option maxHeartbeats 2000000 in
theorem cond_any (N m : Nat) (ih : NodesN N m) (x : It) (S : List It) (o : List Int) (w : World) (G ib : Nat) (hS : S.length < m) (hN : S.length + 1 < N) (hg : Good S (o ++ [3])) (ho : o.length < 8) (hr : RdAt w G ib S) (hi : ib < w.heap.size) (hne : ib ≠ G) (hx : x.k = 3) :
    Calls Try.prog 47 #[.pointer (some ⟨G, 0, none⟩)] w (NodeOf N x S o w G ib) := by
  have hG := rd_lt hr
  have en := prs_end N S (o ++ [3]) (by omega) hg
  obtain ⟨p1, p2, p3⟩ := en.2.1 (by simp)
  have pl := en.2.2
  have pt := fit_top p1 p2
  have d1 : 9 - (o ++ [3]).length = 8 - o.length := by simp only [List.length_append, List.length_singleton]; omega
  have B0 : Below w.heap.size w (w.alloc (.cells #[.int .i64 0, .int .i64 0, .slice none 0 0, .slice none 0 0] 64)) := below_alloc (Below.refl _ _) _
  have C1 := Lib.hid (ih S (o ++ [3]) (w.alloc (.cells #[.int .i64 0, .int .i64 0, .slice none 0 0, .slice none 0 0] 64)) G ib hS hg (by simp only [List.length_append, List.length_singleton]; omega) (rd_below hr B0) (by simp; omega) hne)
  have X0 := Lib.hid (whole_new w 64 #[.int .i64 0, .int .i64 0, .slice none 0 0, .slice none 0 0])
  have IH := Lib.hid ih
  have LX : (x :: S).length < N := by simp only [List.length_cons]; omega
  clear hr ih en p1
  go_enter Try.func47, Try.ntmps47
  go_wp2_with fail
  refine C1.out.mono ?_
  rintro e1 w1 ⟨A, n, c, rfl, t1, r1, g1⟩
  rw [d1] at t1
  have z1 : w.heap.size + 1 ≤ w1.heap.size := by have := g1.size; simpa using this
  have X1 := whole_keep X0.out (g1.block _ (by simp) (by simp; omega))
  have G1 := gb_of_lo (World.grownBy.refl w (some G)) B0
  have GG1 := Lib.hid (grown_trans G1 g1)
  have T1 : TOwn (8 - o.length) w1 (w.heap.size + 1) w1.heap.size (.slice A n c) (prs N S).1 := by
    have e : (w.alloc (.cells #[.int .i64 0, .int .i64 0, .slice none 0 0, .slice none 0 0] 64)).heap.size = w.heap.size + 1 := Array.size_push ..
    rwa [e] at t1
  have HT1 := Lib.hid T1
  have HR1 := Lib.hid r1
  have x0 := whole_cell X1 0
  have x1 := whole_cell X1 1
  have x2 := whole_cell X1 2
  have x3 := whole_cell X1 3
  have xf := whole_free X1
  simp at x0 x1 x2 x3
  clear t1 r1 g1 G1 T1 C1 X0
  by_cases h5 : (prs N S).2.1 = 5
  · have ST := Lib.hid (step_if LX hx h5)
    have GT : Hid (Good (prs N S).2.2 o) := Lib.hid (by rw [h5, next_down o 3 (by omega)] at p3; exact p3)
    rw [h5]
    go_wp2
    refine bodyPost_ret (v := .agg #[.int .i64 3, .int .i64 0, .slice A n c, .slice none 0 0]) (by simp [results, Try.results47, go_sem, *]) rfl
      ⟨_, _, A, n, c, none, 0, 0, w1.heap.size, rfl, ST.out, GT.out, ?_, by omega, by simp, ?_, ?_, ?_⟩
    · exact rd_keep HR1.out (by rw [Below.heap_setCell _ _ _ _ (by show G ≠ w.heap.size; omega), Below.heap_setCell _ _ _ _ (by show G ≠ w.heap.size; omega), Below.heap_setCell _ _ _ _ (by show G ≠ w.heap.size; omega), Below.heap_setCell _ _ _ _ (by show G ≠ w.heap.size; omega)]) (by rw [Below.heap_setCell _ _ _ _ (by show ib ≠ w.heap.size; omega), Below.heap_setCell _ _ _ _ (by show ib ≠ w.heap.size; omega), Below.heap_setCell _ _ _ _ (by show ib ≠ w.heap.size; omega), Below.heap_setCell _ _ _ _ (by show ib ≠ w.heap.size; omega)])
    · exact town_wide _ (town_keep _ HT1.out fun b h1 h2 => by rw [Below.heap_setCell _ _ _ _ (by show b ≠ w.heap.size; omega), Below.heap_setCell _ _ _ _ (by show b ≠ w.heap.size; omega), Below.heap_setCell _ _ _ _ (by show b ≠ w.heap.size; omega), Below.heap_setCell _ _ _ _ (by show b ≠ w.heap.size; omega)]) (by omega) (Nat.le_refl _)
    · exact town_nil _ _ (by simp)
    · repeat (first | with_reducible exact GG1.out | with_reducible refine gb_set ?_ (by simp) _)
  · have h4 : (prs N S).2.1 = 4 := by omega
    have ST := Lib.hid (step_else LX hx h5)
    rw [h4, next_flip o 3 (by omega)] at p3
    have en2 := prs_end N (prs N S).2.2 (o ++ [4]) (by omega) p3
    obtain ⟨q1, q2, q3⟩ := en2.2.1 (by simp)
    have qt := fit_top q1 q2
    have h52 : (prs N (prs N S).2.2).2.1 = 5 := by omega
    have GT : Hid (Good (prs N (prs N S).2.2).2.2 o) := Lib.hid (by rw [h52, next_down o 4 (by omega)] at q3; exact q3)
    have d2 : 9 - (o ++ [4]).length = 8 - o.length := by simp only [List.length_append, List.length_singleton]; omega
    have C2 := Lib.hid (IH.out (prs N S).2.2 (o ++ [4]) w1 G ib (by omega) p3 (by simp only [List.length_append, List.length_singleton]; omega) HR1.out (by omega) hne)
    rw [h4]
    clear en2 q1 q3 IH p3
    go_wp2_with fail
    refine C2.out.mono ?_
    rintro e2 w2 ⟨B, n2, c2, rfl, t2, r2, g2⟩
    rw [d2] at t2
    have z2 := g2.size
    have X2 := whole_keep X1 (g2.block _ (by omega) (by simp; omega))
    have HT2 := Lib.hid t2
    have HR2 := Lib.hid r2
    have GG2 := Lib.hid (grown_trans GG1.out g2)
    have HT12 := Lib.hid (town_keep _ HT1.out fun b h1 h2 => g2.block b (by omega) (by simp; omega))
    have x0 := whole_cell X2 0
    have x1 := whole_cell X2 1
    have x2 := whole_cell X2 2
    have x3 := whole_cell X2 3
    have xf := whole_free X2
    simp at x0 x1 x2 x3
    clear t2 r2 g2 C2
    go_wp2
    refine bodyPost_ret (v := .agg #[.int .i64 3, .int .i64 1, .slice A n c, .slice B n2 c2]) (by simp [results, Try.results47, go_sem, *]) rfl
      ⟨_, _, A, n, c, B, n2, c2, w1.heap.size, rfl, ST.out, GT.out, ?_, by omega, by simp; omega, ?_, ?_, ?_⟩
    · exact rd_keep HR2.out (by rw [Below.heap_setCell _ _ _ _ (by show G ≠ w.heap.size; omega), Below.heap_setCell _ _ _ _ (by show G ≠ w.heap.size; omega), Below.heap_setCell _ _ _ _ (by show G ≠ w.heap.size; omega), Below.heap_setCell _ _ _ _ (by show G ≠ w.heap.size; omega)]) (by rw [Below.heap_setCell _ _ _ _ (by show ib ≠ w.heap.size; omega), Below.heap_setCell _ _ _ _ (by show ib ≠ w.heap.size; omega), Below.heap_setCell _ _ _ _ (by show ib ≠ w.heap.size; omega), Below.heap_setCell _ _ _ _ (by show ib ≠ w.heap.size; omega)])
    · exact town_wide _ (town_keep _ HT12.out fun b h1 h2 => by rw [Below.heap_setCell _ _ _ _ (by show b ≠ w.heap.size; omega), Below.heap_setCell _ _ _ _ (by show b ≠ w.heap.size; omega), Below.heap_setCell _ _ _ _ (by show b ≠ w.heap.size; omega), Below.heap_setCell _ _ _ _ (by show b ≠ w.heap.size; omega)]) (by omega) (Nat.le_refl _)
    · exact town_wide _ (town_keep _ HT2.out fun b h1 h2 => by rw [Below.heap_setCell _ _ _ _ (by show b ≠ w.heap.size; omega), Below.heap_setCell _ _ _ _ (by show b ≠ w.heap.size; omega), Below.heap_setCell _ _ _ _ (by show b ≠ w.heap.size; omega), Below.heap_setCell _ _ _ _ (by show b ≠ w.heap.size; omega)]) (Nat.le_refl _) (by simp)
    · repeat (first | with_reducible exact GG2.out | with_reducible refine gb_set ?_ (by simp) _)

set_option maxRecDepth 100000 in
set_option maxHeartbeats 2000000 in
theorem loop_any (N m : Nat) (ih : NodesN N m) (x : It) (S : List It) (o : List Int) (w : World) (G ib : Nat) (hS : S.length < m) (hN : S.length + 1 < N) (hg : Good S (o ++ [x.k])) (ho : o.length < 8) (hr : RdAt w G ib S) (hi : ib < w.heap.size) (hne : ib ≠ G) (hx : x.k = 6 ∨ x.k = 10) :
    Calls Try.prog 48 #[.pointer (some ⟨G, 0, none⟩)] w (NodeOf N x S o w G ib) := by
  have hG := rd_lt hr
  have en := prs_end N S (o ++ [x.k]) (by omega) hg
  obtain ⟨p1, p2, p3⟩ := en.2.1 (by simp)
  have pl := en.2.2
  have pt := fit_top p1 p2
  have d1 : 9 - (o ++ [x.k]).length = 8 - o.length := by simp only [List.length_append, List.length_singleton]; omega
  have B0 : Below w.heap.size w (w.alloc (.cells #[.int .i64 0, .int .i64 0, .slice none 0 0, .slice none 0 0] 64)) := below_alloc (Below.refl _ _) _
  have C1 := Lib.hid (ih S (o ++ [x.k]) (w.alloc (.cells #[.int .i64 0, .int .i64 0, .slice none 0 0, .slice none 0 0] 64)) G ib hS hg (by simp only [List.length_append, List.length_singleton]; omega) (rd_below hr B0) (by simp; omega) hne)
  have X0 := Lib.hid (whole_new w 64 #[.int .i64 0, .int .i64 0, .slice none 0 0, .slice none 0 0])
  have IH := Lib.hid ih
  have LX : (x :: S).length < N := by simp only [List.length_cons]; omega
  clear hr ih en p1
  go_enter Try.func48, Try.ntmps48
  go_wp2_with fail
  refine C1.out.mono ?_
  rintro e1 w1 ⟨A, n, c, rfl, t1, r1, g1⟩
  rw [d1] at t1
  have z1 : w.heap.size + 1 ≤ w1.heap.size := by have := g1.size; simpa using this
  have X1 := whole_keep X0.out (g1.block _ (by simp) (by simp; omega))
  have G1 := gb_of_lo (World.grownBy.refl w (some G)) B0
  have GG1 := Lib.hid (grown_trans G1 g1)
  have T1 : TOwn (8 - o.length) w1 (w.heap.size + 1) w1.heap.size (.slice A n c) (prs N S).1 := by
    have e : (w.alloc (.cells #[.int .i64 0, .int .i64 0, .slice none 0 0, .slice none 0 0] 64)).heap.size = w.heap.size + 1 := Array.size_push ..
    rwa [e] at t1
  have HT1 := Lib.hid T1
  have HR1 := Lib.hid r1
  have HX1 := Lib.hid X1
  clear t1 r1 g1 G1 T1 C1 X0
  by_cases h8 : (prs N S).2.1 = 8
  · have ST := Lib.hid (step_while LX hx h8)
    rw [h8, next_flip o _ (by omega)] at p3
    have en2 := prs_end N (prs N S).2.2 (o ++ [8]) (by omega) p3
    obtain ⟨q1, q2, q3⟩ := en2.2.1 (by simp)
    have qt := fit_top q1 q2
    have h9 : (prs N (prs N S).2.2).2.1 = 9 := by omega
    have GT : Hid (Good (prs N (prs N S).2.2).2.2 o) := Lib.hid (by rw [h9, next_down o _ (by omega)] at q3; exact q3)
    have d2 : 9 - (o ++ [8]).length = 8 - o.length := by simp only [List.length_append, List.length_singleton]; omega
    have B1 : Below w1.heap.size w1 (w1.alloc (.cells #[.int .i64 8, .int .i64 0, .slice A n c, .slice none 0 0] 64)) := below_alloc (Below.refl _ _) _
    have C2 := Lib.hid (IH.out (prs N S).2.2 (o ++ [8]) _ G ib (by omega) p3 (by simp only [List.length_append, List.length_singleton]; omega) (rd_below HR1.out B1) (by simp; omega) hne)
    have Y1 := Lib.hid (whole_new w1 64 #[.int .i64 8, .int .i64 0, .slice A n c, .slice none 0 0])
    have X1a := Lib.hid (whole_alloc X1 (.cells #[.int .i64 8, .int .i64 0, .slice A n c, .slice none 0 0] 64))
    rw [h8]
    clear en2 q1 q3 IH p3 X1
    go_wp2_with fail
    refine C2.out.mono ?_
    rintro e2 w2 ⟨B, n2, c2, rfl, t2, r2, g2⟩
    rw [d2] at t2
    have z2 : w1.heap.size + 1 ≤ w2.heap.size := by have := g2.size; simpa using this
    have X2 := whole_keep X1a.out (g2.block _ (by simp; omega) (by simp; omega))
    have Y2 := whole_keep Y1.out (g2.block _ (by simp) (by simp; omega))
    have HT2 : Hid (TOwn (8 - o.length) w2 (w1.heap.size + 1) w2.heap.size (.slice B n2 c2) (prs N (prs N S).2.2).1) := Lib.hid (by
      have e : (w1.alloc (.cells #[.int .i64 8, .int .i64 0, .slice A n c, .slice none 0 0] 64)).heap.size = w1.heap.size + 1 := Array.size_push ..
      rwa [e] at t2)
    have HR2 := Lib.hid r2
    have GG2 := Lib.hid (grown_trans (gb_of_lo GG1.out (B1.mono (by omega))) g2)
    have HT12 := Lib.hid (town_keep _ HT1.out fun b h1 h2 => (g2.block b (by simp; omega) (by simp; omega)).trans (Below.heap_alloc w1 _ b (by omega)))
    have x0 := whole_cell X2 0
    have x1 := whole_cell X2 1
    have x2 := whole_cell X2 2
    have x3 := whole_cell X2 3
    have xf := whole_free X2
    have y0 := whole_cell Y2 0
    have y1 := whole_cell Y2 1
    have y2 := whole_cell Y2 2
    have y3 := whole_cell Y2 3
    have yf := whole_free Y2
    simp at x0 x1 x2 x3 y0 y1 y2 y3
    clear t2 r2 g2 C2 X2 Y2
    go_wp2
    refine bodyPost_ret (v := .agg #[.int .i64 8, .int .i64 0, .slice A n c, .slice B n2 c2]) (by simp [results, Try.results48, go_sem, *]) rfl
      ⟨_, _, A, n, c, B, n2, c2, w1.heap.size, rfl, ST.out, GT.out, ?_, by omega, by simp; omega, ?_, ?_, ?_⟩
    · exact rd_keep HR2.out (by rw [Below.heap_setCell _ _ _ _ (by first | (show G ≠ w.heap.size; omega) | (show G ≠ w1.heap.size; omega)), Below.heap_setCell _ _ _ _ (by first | (show G ≠ w.heap.size; omega) | (show G ≠ w1.heap.size; omega)), Below.heap_setCell _ _ _ _ (by first | (show G ≠ w.heap.size; omega) | (show G ≠ w1.heap.size; omega)), Below.heap_setCell _ _ _ _ (by first | (show G ≠ w.heap.size; omega) | (show G ≠ w1.heap.size; omega)), Below.heap_setCell _ _ _ _ (by first | (show G ≠ w.heap.size; omega) | (show G ≠ w1.heap.size; omega))]) (by rw [Below.heap_setCell _ _ _ _ (by first | (show ib ≠ w.heap.size; omega) | (show ib ≠ w1.heap.size; omega)), Below.heap_setCell _ _ _ _ (by first | (show ib ≠ w.heap.size; omega) | (show ib ≠ w1.heap.size; omega)), Below.heap_setCell _ _ _ _ (by first | (show ib ≠ w.heap.size; omega) | (show ib ≠ w1.heap.size; omega)), Below.heap_setCell _ _ _ _ (by first | (show ib ≠ w.heap.size; omega) | (show ib ≠ w1.heap.size; omega)), Below.heap_setCell _ _ _ _ (by first | (show ib ≠ w.heap.size; omega) | (show ib ≠ w1.heap.size; omega))])
    · exact town_wide _ (town_keep _ HT12.out fun b h1 h2 => by rw [Below.heap_setCell _ _ _ _ (by first | (show b ≠ w.heap.size; omega) | (show b ≠ w1.heap.size; omega)), Below.heap_setCell _ _ _ _ (by first | (show b ≠ w.heap.size; omega) | (show b ≠ w1.heap.size; omega)), Below.heap_setCell _ _ _ _ (by first | (show b ≠ w.heap.size; omega) | (show b ≠ w1.heap.size; omega)), Below.heap_setCell _ _ _ _ (by first | (show b ≠ w.heap.size; omega) | (show b ≠ w1.heap.size; omega)), Below.heap_setCell _ _ _ _ (by first | (show b ≠ w.heap.size; omega) | (show b ≠ w1.heap.size; omega))]) (by omega) (Nat.le_refl _)
    · exact town_wide _ (town_keep _ HT2.out fun b h1 h2 => by rw [Below.heap_setCell _ _ _ _ (by first | (show b ≠ w.heap.size; omega) | (show b ≠ w1.heap.size; omega)), Below.heap_setCell _ _ _ _ (by first | (show b ≠ w.heap.size; omega) | (show b ≠ w1.heap.size; omega)), Below.heap_setCell _ _ _ _ (by first | (show b ≠ w.heap.size; omega) | (show b ≠ w1.heap.size; omega)), Below.heap_setCell _ _ _ _ (by first | (show b ≠ w.heap.size; omega) | (show b ≠ w1.heap.size; omega)), Below.heap_setCell _ _ _ _ (by first | (show b ≠ w.heap.size; omega) | (show b ≠ w1.heap.size; omega))]) (by omega) (by simp)
    · repeat (first | with_reducible exact GG2.out | with_reducible refine gb_set ?_ (by first | (simp; done) | (simp; omega)) _)
  · have ST := Lib.hid (step_loop LX hx h8)
    have GT : Hid (Good (prs N S).2.2 o) := Lib.hid (by rw [next_down o _ (by omega)] at p3; exact p3)
    have BG : Hid (w.grownBy (w1.alloc (.cells #[.int .i64 (prs N S).2.1, .int .i64 0, .slice A n c, .slice none 0 0] 64)) (some G)) := Lib.hid (gb_alloc GG1.out _)
    have X1a := whole_alloc X1 (.cells #[.int .i64 (prs N S).2.1, .int .i64 0, .slice A n c, .slice none 0 0] 64)
    have RA := Lib.hid (rd_below HR1.out (below_alloc (Below.refl w1.heap.size w1) (.cells #[.int .i64 (prs N S).2.1, .int .i64 0, .slice A n c, .slice none 0 0] 64)))
    have TA := Lib.hid (town_keep _ HT1.out fun b h1 h2 => Below.heap_alloc w1 (.cells #[.int .i64 (prs N S).2.1, .int .i64 0, .slice A n c, .slice none 0 0] 64) b (by omega))
    have t8 : ((prs N S).2.1 == 8) = false := by rw [beq_eq_false_iff_ne]; exact h8
    generalize (prs N S).2.1 = ev at *
    have x0 := whole_cell X1a 0
    have x1 := whole_cell X1a 1
    have x2 := whole_cell X1a 2
    have x3 := whole_cell X1a 3
    have xf := whole_free X1a
    simp at x0 x1 x2 x3
    clear X1 X1a IH p3
    go_wp2
    refine bodyPost_ret (v := .agg #[.int .i64 ev, .int .i64 0, .slice A n c, .slice none 0 0]) (by simp [results, Try.results48, go_sem, *]) rfl
      ⟨_, _, A, n, c, none, 0, 0, w1.heap.size, rfl, ST.out, GT.out, ?_, by omega, by simp, ?_, ?_, ?_⟩
    · exact rd_keep RA.out (by rw [Below.heap_setCell _ _ _ _ (by first | (show G ≠ w.heap.size; omega) | (show G ≠ w1.heap.size; omega)), Below.heap_setCell _ _ _ _ (by first | (show G ≠ w.heap.size; omega) | (show G ≠ w1.heap.size; omega)), Below.heap_setCell _ _ _ _ (by first | (show G ≠ w.heap.size; omega) | (show G ≠ w1.heap.size; omega)), Below.heap_setCell _ _ _ _ (by first | (show G ≠ w.heap.size; omega) | (show G ≠ w1.heap.size; omega))]) (by rw [Below.heap_setCell _ _ _ _ (by first | (show ib ≠ w.heap.size; omega) | (show ib ≠ w1.heap.size; omega)), Below.heap_setCell _ _ _ _ (by first | (show ib ≠ w.heap.size; omega) | (show ib ≠ w1.heap.size; omega)), Below.heap_setCell _ _ _ _ (by first | (show ib ≠ w.heap.size; omega) | (show ib ≠ w1.heap.size; omega)), Below.heap_setCell _ _ _ _ (by first | (show ib ≠ w.heap.size; omega) | (show ib ≠ w1.heap.size; omega))])
    · exact town_wide _ (town_keep _ TA.out fun b h1 h2 => by rw [Below.heap_setCell _ _ _ _ (by first | (show b ≠ w.heap.size; omega) | (show b ≠ w1.heap.size; omega)), Below.heap_setCell _ _ _ _ (by first | (show b ≠ w.heap.size; omega) | (show b ≠ w1.heap.size; omega)), Below.heap_setCell _ _ _ _ (by first | (show b ≠ w.heap.size; omega) | (show b ≠ w1.heap.size; omega)), Below.heap_setCell _ _ _ _ (by first | (show b ≠ w.heap.size; omega) | (show b ≠ w1.heap.size; omega))]) (by omega) (Nat.le_refl _)
    · exact town_nil _ _ (by simp)
    · repeat (first | with_reducible exact BG.out | with_reducible refine gb_set ?_ (by first | (simp; done) | (simp; omega)) _)

end Go.Proofs.Ytafhmajnkicifaa
