/- An argument's nodes, copied. -/
import Derived.Test.YtafhmajnkicifaaTrC
import Derived.Test.YtafhmajnkicifaaGbA
namespace Go.Proofs.Ytafhmajnkicifaa
open Go.RowKit
set_option linter.unusedVariables false
set_option linter.unusedSimpArgs false

/-- A row of nodes of which the first k are filled in. -/
def TFill (d : Nat) (w : World) (lo hi : Nat) (v : Value) (L : List Nd) (k : Nat) : Prop :=
  ∃ xs, w.ownsRow lo 64 4 v L.length xs ∧ lo ≤ hi ∧ (∀ g, v.ownBlock = some g → g < hi) ∧
    ∃ p : Nat → Nat, lo ≤ p 0 ∧ (∀ i, i < 3 * k → p i ≤ p (i + 1)) ∧ p (3 * k) ≤ hi ∧ (∀ g, v.ownBlock = some g → g < p 0) ∧
      ∀ j (hj : j < L.length), j < k → xs[j * 4]? = some (.int .i64 L[j].k) ∧ xs[j * 4 + 1]? = some (.int .i64 L[j].v) ∧
        ∃ A n c B m e, xs[j * 4 + 2]? = some (.slice A n c) ∧ xs[j * 4 + 3]? = some (.slice B m e) ∧
          TOwn d w (p (3 * j)) (p (3 * j + 1)) (.slice A n c) L[j].a ∧ TOwn d w (p (3 * j + 1)) (p (3 * j + 2)) (.slice B m e) L[j].b

theorem tfill_start {d : Nat} {w : World} {g n c hi : Nat} {L : List Nd} {xs : List Value} (h : w.ownsRow g 64 4 (.slice (some ⟨g, 0, none⟩) n c) L.length xs) (hh : g < hi) : TFill d w g hi (.slice (some ⟨g, 0, none⟩) n c) L 0 :=
  ⟨xs, h, by omega, fun q hq => by simp [Value.ownBlock] at hq; omega, fun _ => hi, (by show g ≤ hi; omega), fun i hi => by omega, Nat.le_refl _, fun q hq => (by show q < hi; simp [Value.ownBlock] at hq; omega), fun j _ hj => by omega⟩

theorem tfill_keep {d : Nat} {w w' : World} {lo hi hi' : Nat} {v : Value} {L : List Nd} {k : Nat} (hkl : k ≤ L.length) (h : TFill d w lo hi v L k) (hk : ∀ b, lo ≤ b → b < hi → w'.heap[b]? = w.heap[b]?) (hw : hi ≤ hi') : TFill d w' lo hi' v L k := by
  obtain ⟨xs, hr, hl, hh, p, p0, pu, pe, ph, hc⟩ := h
  have up := up_le pu
  refine ⟨xs, ownsRow_keepN hr fun g hg => hk g (World.ownsRow.lt hr g hg).1 (hh g hg), by omega, fun g hg => Nat.lt_of_lt_of_le (hh g hg) hw, p, p0, pu, by omega, ph, fun j hj hjk => ?_⟩
  obtain ⟨c0, c1, A, n, c, B, m, e, c2, c3, ta, tb⟩ := hc j hj hjk
  have q0 := up 0 (3 * j) (by omega) (by omega)
  have q1 := up (3 * j) (3 * j + 1) (by omega) (by omega)
  have q2 := up (3 * j + 1) (3 * j + 2) (by omega) (by omega)
  have q3 := up (3 * j + 2) (3 * k) (by omega) (by omega)
  exact ⟨c0, c1, A, n, c, B, m, e, c2, c3, town_keep d ta fun b h1 h2 => hk b (by omega) (by omega), town_keep d tb fun b h1 h2 => hk b (by omega) (by omega)⟩

theorem tfill_end {d : Nat} {w : World} {lo hi : Nat} {v : Value} {L : List Nd} (h : TFill d w lo hi v L L.length) : TOwn (d + 1) w lo hi v L := by
  obtain ⟨xs, hr, hl, hh, p, p0, pu, pe, ph, hc⟩ := h
  have up := up_le pu
  refine ⟨xs, hr, hh, p, p0, pu, pe, fun j hj => ?_⟩
  obtain ⟨c0, c1, A, n, c, B, m, e, c2, c3, ta, tb⟩ := hc j hj hj
  have q0 := up 0 (3 * j) (by omega) (by omega)
  exact ⟨c0, c1, fun g hg => .inl (by have := ph g hg; omega), A, n, c, B, m, e, c2, c3, ta, tb⟩

/-- A node stored in a row. -/
def set4 (w : World) (g k : Nat) (a b c d : Value) : World :=
  (((w.setCell ⟨g, k * 4, none⟩ a).setCell ⟨g, k * 4 + 1, none⟩ b).setCell ⟨g, k * 4 + 2, none⟩ c).setCell ⟨g, k * 4 + 3, none⟩ d

theorem set4_far (w : World) (g k : Nat) (a b c d : Value) {x : Nat} (h : x ≠ g) : (set4 w g k a b c d).heap[x]? = w.heap[x]? := by
  unfold set4
  rw [Below.heap_setCell _ _ _ _ h, Below.heap_setCell _ _ _ _ h, Below.heap_setCell _ _ _ _ h, Below.heap_setCell _ _ _ _ h]

theorem set4_size (w : World) (g k : Nat) (a b c d : Value) : (set4 w g k a b c d).heap.size = w.heap.size := by simp [set4]

theorem tfill_set {d : Nat} {w : World} {lo hi s m e g c k : Nat} {L : List Nd} (h : TFill d w lo hi (.slice (some ⟨g, 0, none⟩) L.length c) L k) (hk : k < L.length) (h1 : hi ≤ s) (h2 : s ≤ m) (h3 : m ≤ e)
    {A B : Option Addr} {n1 c1 n2 c2 : Nat} (ta : TOwn d w s m (.slice A n1 c1) L[k].a) (tb : TOwn d w m e (.slice B n2 c2) L[k].b) :
    TFill d (set4 w g k (.int .i64 L[k].k) (.int .i64 L[k].v) (.slice A n1 c1) (.slice B n2 c2)) lo e (.slice (some ⟨g, 0, none⟩) L.length c) L (k + 1) := by
  obtain ⟨xs, hr, hl, hh, p, p0, pu, pe, ph, hc⟩ := h
  have up := up_le pu
  have gp : g < p 0 := ph g rfl
  have lx := hr.1
  have r1 := (hr.stored (k * 4) (.int .i64 L[k].k)).1
  have r2 := (r1.stored (k * 4 + 1) (.int .i64 L[k].v)).1
  have r3 := (r2.stored (k * 4 + 2) (.slice A n1 c1)).1
  have r4 := (r3.stored (k * 4 + 3) (.slice B n2 c2)).1
  have far : ∀ b, g < b → (set4 w g k (.int .i64 L[k].k) (.int .i64 L[k].v) (.slice A n1 c1) (.slice B n2 c2)).heap[b]? = w.heap[b]? := fun b hb => set4_far _ _ _ _ _ _ _ (by omega)
  refine ⟨_, r4, by omega, fun q hq => by have := hh q hq; omega, fun i => if i ≤ 3 * k then (if i = 3 * k then s else p i) else if i = 3 * k + 1 then m else e, ?_, ?_, ?_, ?_, ?_⟩
  · show lo ≤ if 0 ≤ 3 * k then (if 0 = 3 * k then s else p 0) else _
    rw [if_pos (by omega)]
    split <;> omega
  · intro i hi
    show (if i ≤ 3 * k then (if i = 3 * k then s else p i) else if i = 3 * k + 1 then m else e) ≤ (if i + 1 ≤ 3 * k then (if i + 1 = 3 * k then s else p (i + 1)) else if i + 1 = 3 * k + 1 then m else e)
    by_cases a1 : i < 3 * k
    · have q := pu i a1
      have q2 := up (i + 1) (3 * k) (by omega) (by omega)
      rw [if_pos (by omega), if_neg (by omega), if_pos (by omega)]
      split <;> omega
    · rw [if_neg (show ¬ i + 1 ≤ 3 * k by omega)]
      by_cases a2 : i = 3 * k
      · rw [if_pos (by omega), if_pos a2, if_pos (by omega)]; omega
      · rw [if_neg (by omega), if_neg (show ¬ i + 1 = 3 * k + 1 by omega)]
        split <;> omega
  · show (if 3 * (k + 1) ≤ 3 * k then _ else if 3 * (k + 1) = 3 * k + 1 then m else e) ≤ e
    rw [if_neg (by omega), if_neg (by omega)]; omega
  · intro q hq
    show q < if 0 ≤ 3 * k then (if 0 = 3 * k then s else p 0) else _
    rw [if_pos (by omega)]
    have := ph q hq
    have u := up 0 (3 * k) (by omega) (by omega)
    split <;> omega
  · intro j hj hjk
    by_cases ej : j = k
    · subst ej
      simp only [show 3 * j ≤ 3 * j from Nat.le_refl _, if_true, show ¬ 3 * j + 1 ≤ 3 * j from by omega, show ¬ 3 * j + 2 ≤ 3 * j from by omega, show ¬ 3 * j + 2 = 3 * j + 1 from by omega, if_false]
      refine ⟨?_, ?_, A, n1, c1, B, n2, c2, ?_, ?_, town_keep d ta fun b q1 q2 => far b (by have := up 0 (3 * j) (by omega) (by omega); omega), town_keep d tb fun b q1 q2 => far b (by have := up 0 (3 * j) (by omega) (by omega); omega)⟩
      · rw [List.getElem?_set_ne (by omega), List.getElem?_set_ne (by omega), List.getElem?_set_ne (by omega), List.getElem?_set_self (by omega)]
      · rw [List.getElem?_set_ne (by omega), List.getElem?_set_ne (by omega), List.getElem?_set_self (by simp; omega)]
      · rw [List.getElem?_set_ne (by omega), List.getElem?_set_self (by simp; omega)]
      · rw [List.getElem?_set_self (by simp; omega)]
    · obtain ⟨d0, d1, A', n', c', B', m', e', d2, d3, sa, sb⟩ := hc j hj (by omega)
      have u0 := up 0 (3 * j) (by omega) (by omega)
      have u1 := up (3 * j) (3 * j + 1) (by omega) (by omega)
      have u2 := up (3 * j + 1) (3 * j + 2) (by omega) (by omega)
      simp only [show 3 * j ≤ 3 * k from by omega, show ¬ 3 * j = 3 * k from by omega, show 3 * j + 1 ≤ 3 * k from by omega, show ¬ 3 * j + 1 = 3 * k from by omega, show 3 * j + 2 ≤ 3 * k from by omega, show ¬ 3 * j + 2 = 3 * k from by omega, if_true, if_false]
      refine ⟨?_, ?_, A', n', c', B', m', e', ?_, ?_, town_keep d sa fun b q1 q2 => far b (by omega), town_keep d sb fun b q1 q2 => far b (by omega)⟩
      · rw [List.getElem?_set_ne (by omega), List.getElem?_set_ne (by omega), List.getElem?_set_ne (by omega), List.getElem?_set_ne (by omega)]; exact d0
      · rw [List.getElem?_set_ne (by omega), List.getElem?_set_ne (by omega), List.getElem?_set_ne (by omega), List.getElem?_set_ne (by omega)]; exact d1
      · rw [List.getElem?_set_ne (by omega), List.getElem?_set_ne (by omega), List.getElem?_set_ne (by omega), List.getElem?_set_ne (by omega)]; exact d2
      · rw [List.getElem?_set_ne (by omega), List.getElem?_set_ne (by omega), List.getElem?_set_ne (by omega), List.getElem?_set_ne (by omega)]; exact d3

theorem tfill_cell {d : Nat} {w : World} {lo hi g c k : Nat} {L : List Nd} (h : TFill d w lo hi (.slice (some ⟨g, 0, none⟩) L.length c) L k) (hk : k < L.length) (j : Nat) (hj : j < 4) :
    (∃ u, w.cell? ⟨g, k * 4 + j, none⟩ = some u) ∧ w.frozen? ⟨g, k * 4 + j, none⟩ = false := by
  obtain ⟨xs, hr, _⟩ := h
  have lx := hr.1
  refine ⟨⟨xs[k * 4 + j]'(by omega), ?_⟩, ?_⟩
  · rw [World.ownsRow.cellAt hr (k * 4 + j) (by omega)]
    exact List.getElem?_eq_getElem _
  · rcases hr.2 with ⟨hv, _⟩ | ⟨g', cap, cur, hv, _, hg, _⟩
    · cases hv
    · simp only [Value.slice.injEq, Option.some.injEq, Addr.mk.injEq, and_true, true_and] at hv
      obtain ⟨rfl, _⟩ := hv
      simp [World.frozen?, hg]

theorem only_refl (S : Nat → Prop) (w : World) : Only S w w := ⟨rfl, rfl, rfl, Nat.le_refl _, fun _ _ _ => rfl⟩

theorem only_set {S : Nat → Prop} {w w' : World} (h : Only S w w') {p : Addr} (hp : S p.block) (u : Value) : Only S w (w'.setCell p u) :=
  only_trans h ⟨rfl, rfl, rfl, by simp, fun k _ hn => Below.heap_setCell _ _ _ _ (fun e => hn (by rw [e]; exact hp))⟩

/-- What a copy of nodes leaves. -/
def ToOf (d : Nat) (L : List Nd) (w : World) (e : Ending) (w' : World) : Prop :=
  e = .returned (.slice (some ⟨w.heap.size, 0, none⟩) L.length L.length) ∧ TOwn d w' w.heap.size w'.heap.size (.slice (some ⟨w.heap.size, 0, none⟩) L.length L.length) L ∧ Below w.heap.size w w' ∧ w.heap.size < w'.heap.size

/-- Nodes are copied. -/
def ToN (d : Nat) : Prop := ∀ (v : Value) (L : List Nd) (w : World), Nds d w v L → szT d L ≤ 1048576 → Calls Try.prog 23 #[v] w (ToOf d L w)

/-- What a copy of a node leaves. -/
def To1 (d : Nat) (k v : Int) (a b : List Nd) (w : World) (e : Ending) (w' : World) : Prop :=
  ∃ A n c B n2 c2 s m, e = .returned (.agg #[.int .i64 k, .int .i64 v, .slice A n c, .slice B n2 c2]) ∧ w.heap.size ≤ s ∧ s ≤ m ∧ m ≤ w'.heap.size ∧ TOwn d w' s m (.slice A n c) a ∧ TOwn d w' m w'.heap.size (.slice B n2 c2) b ∧ Below w.heap.size w w'

set_option maxRecDepth 100000 in
set_option maxHeartbeats 2000000 in
theorem toNode1_any (d : Nat) (ih : ToN d) (k v : Int) (A B : Option Addr) (n c n2 c2 : Nat) (a b : List Nd) (w : World) (ha : Nds d w (.slice A n c) a) (hb : Nds d w (.slice B n2 c2) b) (sa : szT d a ≤ 1048576) (sb : szT d b ≤ 1048576) :
    Calls Try.prog 41 #[.agg #[.int .i64 k, .int .i64 v, .slice A n c, .slice B n2 c2]] w (To1 d k v a b w) := by
  have B0 : Hid (Below w.heap.size w (((w.alloc (.cells #[.int .i64 k, .int .i64 v, .slice A n c, .slice B n2 c2] 68)).alloc (.cells #[.int .i64 0, .int .i64 0, .slice none 0 0, .slice none 0 0] 64)).alloc (.cells #[.int .i64 k, .int .i64 v, .slice none 0 0, .slice none 0 0] 64))) := Lib.hid (below_alloc (below_alloc (below_alloc (Below.refl _ _) _) _) _)
  generalize hW : (((w.alloc (.cells #[.int .i64 k, .int .i64 v, .slice A n c, .slice B n2 c2] 68)).alloc (.cells #[.int .i64 0, .int .i64 0, .slice none 0 0, .slice none 0 0] 64)).alloc (.cells #[.int .i64 k, .int .i64 v, .slice none 0 0, .slice none 0 0] 64)) = W1 at B0
  have W1S : Hid (W1.heap.size = w.heap.size + 1 + 1 + 1) := Lib.hid (by rw [← hW]; simp)
  have XB : Hid (Whole W1 w.heap.size 68 #[.int .i64 k, .int .i64 v, .slice A n c, .slice B n2 c2]) := Lib.hid (by
    rw [← hW]
    exact whole_alloc (whole_alloc (whole_new w _ _) _) _)
  have XR : Hid (Whole W1 (w.heap.size + 1) 64 #[.int .i64 0, .int .i64 0, .slice none 0 0, .slice none 0 0]) := Lib.hid (by
    rw [← hW]
    have q := whole_new (w.alloc (.cells #[.int .i64 k, .int .i64 v, .slice A n c, .slice B n2 c2] 68)) 64 #[.int .i64 0, .int .i64 0, .slice none 0 0, .slice none 0 0]
    rw [show (w.alloc (.cells #[.int .i64 k, .int .i64 v, .slice A n c, .slice B n2 c2] 68)).heap.size = w.heap.size + 1 by simp] at q
    exact whole_alloc q _)
  have XO : Hid (Whole W1 (w.heap.size + 1 + 1) 64 #[.int .i64 k, .int .i64 v, .slice none 0 0, .slice none 0 0]) := Lib.hid (by
    rw [← hW]
    have q := whole_new ((w.alloc (.cells #[.int .i64 k, .int .i64 v, .slice A n c, .slice B n2 c2] 68)).alloc (.cells #[.int .i64 0, .int .i64 0, .slice none 0 0, .slice none 0 0] 64)) 64 #[.int .i64 k, .int .i64 v, .slice none 0 0, .slice none 0 0]
    rwa [show ((w.alloc (.cells #[.int .i64 k, .int .i64 v, .slice A n c, .slice B n2 c2] 68)).alloc (.cells #[.int .i64 0, .int .i64 0, .slice none 0 0, .slice none 0 0] 64)).heap.size = w.heap.size + 1 + 1 by simp] at q)
  have C1 := Lib.hid (ih (.slice A n c) a W1 (nds_below ha B0.out) sa)
  have HB := Lib.hid hb
  have IH := Lib.hid ih
  have HW := Lib.hid hW
  clear ha hb ih hW
  go_enter Try.func41, Try.ntmps41
  go_wp2_with fail
  rw [HW.out]
  refine C1.out.mono ?_
  rintro e w2 ⟨rfl, t1, b1, z1⟩
  have B1 := Lib.hid (below_step B0.out b1)
  have XB2 := whole_below XB.out b1
  have XR2 := Lib.hid (whole_below XR.out b1)
  have XO2 := Lib.hid (whole_below XO.out b1)
  have o2 := whole_cell XO2.out 2
  have of := whole_free XO2.out
  have q3 := whole_cell XB2 3
  simp at o2 q3
  have T1 := Lib.hid t1
  have B2 : Hid (Below w.heap.size w (w2.setCell ⟨w.heap.size + 1 + 1, 2, none⟩ (.slice (some ⟨W1.heap.size, 0, none⟩) a.length a.length))) := Lib.hid (B1.out.setCell (by show w.heap.size ≤ w.heap.size + 1 + 1; omega) _)
  have C2 := Lib.hid (IH.out (.slice B n2 c2) b _ (nds_below HB.out B2.out) sb)
  clear t1 b1 XB2 C1 XB XR XO
  go_wp2_with fail
  refine C2.out.mono ?_
  rintro e w4 ⟨rfl, t2, b2, z2⟩
  have XR4 := whole_below (whole_far XR2.out (by show w.heap.size + 1 ≠ w.heap.size + 1 + 1; omega) _) b2
  have XO4 := whole_below (whole_set XO2.out 2 (.slice (some ⟨W1.heap.size, 0, none⟩) a.length a.length)) b2
  have o0 := whole_cell XO4 0
  have o1 := whole_cell XO4 1
  have o2 := whole_cell XO4 2
  have o3 := whole_cell XO4 3
  have of := whole_free XO4
  have r0 := whole_cell XR4 0
  have r1 := whole_cell XR4 1
  have r2 := whole_cell XR4 2
  have r3 := whole_cell XR4 3
  have rf := whole_free XR4
  simp at o0 o1 o2 o3 r0 r1 r2 r3
  have T2 := Lib.hid t2
  have B4 := Lib.hid (below_step B2.out b2)
  have T14 := Lib.hid (town_keep d T1.out fun x h1 h2 => (b2.block x (by simp; omega)).trans (Below.heap_setCell _ _ _ _ (by have ws := W1S.out; show x ≠ w.heap.size + 1 + 1; omega)))
  have z3 : w2.heap.size ≤ w4.heap.size := by have := b2.size; simpa using this
  have z1' : W1.heap.size ≤ w2.heap.size := by omega
  clear t2 b2 C2 XR4 XO4
  go_wp2
  refine bodyPost_ret (v := .agg #[.int .i64 k, .int .i64 v, .slice (some ⟨W1.heap.size, 0, none⟩) a.length a.length, .slice (some ⟨w2.heap.size, 0, none⟩) b.length b.length]) (by simp [results, Try.results41, go_sem, *]) rfl ?_
  have fin : ∀ {W : World}, Only (fun b => b = w.heap.size + 1 ∨ b = w.heap.size + 1 + 1) w4 W → To1 d k v a b w (.returned (.agg #[.int .i64 k, .int .i64 v, .slice (some ⟨W1.heap.size, 0, none⟩) a.length a.length, .slice (some ⟨w2.heap.size, 0, none⟩) b.length b.length])) W := fun {W} ho => by
    have zz := ho.size
    have ws := W1S.out
    refine ⟨_, _, _, _, _, _, W1.heap.size, w2.heap.size, rfl, by omega, z1', by omega, ?_, ?_, ?_⟩
    · exact town_keep d T14.out fun x h1 h2 => ho.block x (by omega) (by omega)
    · have q := T2.out
      rw [show (w2.setCell ⟨w.heap.size + 1 + 1, 2, none⟩ (.slice (some ⟨W1.heap.size, 0, none⟩) a.length a.length)).heap.size = w2.heap.size by simp] at q
      exact town_wide d (town_keep d q fun x h1 h2 => ho.block x h2 (by omega)) (Nat.le_refl _) zz
    · have b4 := B4.out
      exact ⟨ho.os.trans b4.os, ho.tape.trans b4.tape, ho.output.trans b4.output, Nat.le_trans b4.size zz, fun x hx => (ho.block x (by have := b4.size; omega) (by omega)).trans (b4.block x hx)⟩
  refine fin ?_
  repeat (first | exact only_refl _ _ | refine only_set ?_ (by show _ ∨ _; simp) _)

theorem szT_app' (d : Nat) (L M : List Nd) : szT (d + 1) (L ++ M) = szT (d + 1) L + szT (d + 1) M := by
  induction L with
  | nil => rw [List.nil_append, szT_nil]; omega
  | cons y r ih => rw [List.cons_append, szT_cons, szT_cons, ih]; omega

theorem szT_ge' (d : Nat) (L : List Nd) : L.length ≤ szT (d + 1) L := by
  induction L with
  | nil => simp
  | cons x r ih => rw [szT_cons, List.length_cons]; omega

theorem szT_at (d : Nat) (L : List Nd) {k : Nat} (hk : k < L.length) : szT d L[k].a + szT d L[k].b ≤ szT (d + 1) L := by
  have h := szT_app' d (L.take k) (L.drop k)
  rw [List.take_append_drop, List.drop_eq_getElem_cons hk, szT_cons] at h
  omega

set_option maxRecDepth 100000 in
set_option maxHeartbeats 2000000 in
theorem to_zero : ToN 0 := by
  intro v L w hv hs
  obtain ⟨i0, hi0, hz0, hz1, hz2⟩ := info_parts own_infoNd
  obtain ⟨rfl, A, cap, rfl⟩ := hv
  have I0 := Lib.hid hi0
  have Z0 := Lib.hid hz0
  have Z1 := Lib.hid hz1
  have B8 : Hid (i0.bytes * 0 ≤ 281474976710656) := Lib.hid (by omega)
  clear hi0 hz0 hz1 hz2
  go_enter Try.func23, Try.ntmps23
  go_wp2_with (first
    | (at_make; refine wpList_make_full _ rfl _ _ 25 rfl w.heap.size 64 i0 _ 4 Try.underlying25 I0.out Z0.out Z1.out .i64 .i64 _ _ 0 rfl rfl rfl rfl B8.out (by unfold maxLen; omega) (by simp) ?_
       intro w1 ho1 hg1
       have L1 : Hid (w.heap.size < w1.heap.size) := Lib.hid ((World.ownsRow.lt ho1 w.heap.size rfl).2)
       have B1 : Hid (Below w.heap.size w w1) := Lib.hid ((Below.refl _ _).grown hg1 (Nat.le_refl _) (by simp))
       clear ho1 hg1))
  go_loopw [4] (fun i wr => i = .int .i64 0 ∧ wr = w1) (fun i _ => 0)
  case atStart => exact ⟨rfl, rfl⟩
  case round =>
    obtain ⟨rfl, rfl⟩ := hrel
    go_wp2
    go_ret
    exact ⟨rfl, ⟨rfl, _, _, rfl⟩, B1.out, L1.out⟩

set_option maxRecDepth 100000 in
set_option maxHeartbeats 4000000 in
theorem to_step (d : Nat) (ih : ToN d) : ToN (d + 1) := by
  intro v L w hv hs
  obtain ⟨i0, hi0, hz0, hz1, hz2⟩ := info_parts own_infoNd
  have ge := szT_ge' d L
  have l1 : L.length ≤ 1048576 := by omega
  have I0 := Lib.hid hi0
  have Z0 := Lib.hid hz0
  have Z1 := Lib.hid hz1
  have B8 : Hid (i0.bytes * L.length ≤ 281474976710656) := Lib.hid (by rw [hz2]; omega)
  have HV := Lib.hid hv
  have IH := Lib.hid ih
  have HS := Lib.hid hs
  obtain ⟨hl, A, cap, rfl, hc⟩ := hv
  clear hc hi0 hz0 hz1 hz2 hl ih hs
  go_enter Try.func23, Try.ntmps23
  go_wp2_with (first
    | (at_make; refine wpList_make_full _ rfl _ _ 25 rfl w.heap.size 64 i0 _ 4 Try.underlying25 I0.out Z0.out Z1.out .i64 .i64 _ _ L.length rfl rfl rfl rfl B8.out (by unfold maxLen; omega) (by simp) ?_
       intro w1 ho1 hg1
       have L1 : Hid (w.heap.size < w1.heap.size) := Lib.hid ((World.ownsRow.lt ho1 w.heap.size rfl).2)
       have R1 : Hid (TFill d w1 w.heap.size w1.heap.size (.slice (some ⟨w.heap.size, 0, none⟩) L.length L.length) L 0) := Lib.hid (tfill_start ho1 L1.out)
       have B1 : Hid (Below w.heap.size w w1) := Lib.hid ((Below.refl _ _).grown hg1 (Nat.le_refl _) (by simp))
       clear ho1 hg1))
  go_loopw [4] (fun i wr => ∃ k : Nat, k ≤ L.length ∧ i = .int .i64 k ∧ TFill d wr w.heap.size wr.heap.size (.slice (some ⟨w.heap.size, 0, none⟩) L.length L.length) L k ∧ Below w.heap.size w wr ∧ w.heap.size < wr.heap.size) (fun i _ => L.length - (intOf i).toNat)
  case atStart => exact ⟨0, Nat.zero_le _, rfl, R1.out, B1.out, L1.out⟩
  case round =>
    obtain ⟨k, hk, rfl, hr, hb, hz⟩ := hrel
    have HR := Lib.hid hr
    have HB := Lib.hid hb
    clear hr hb
    by_cases hlt : k < L.length
    · obtain ⟨_, A', cap', e', hc⟩ := nds_below HV.out HB.out
      simp only [Value.slice.injEq, true_and] at e'
      obtain ⟨rfl, rfl⟩ := e'
      obtain ⟨ad, rfl, hd⟩ := hc (by omega)
      obtain ⟨a0, a1, A1, n1, e1, C1, m1, f1, a2, a3, ra, rb⟩ := hd k hlt
      have sz := szT_at d L hlt
      have CL := Lib.hid (toNode1_any d IH.out L[k].k L[k].v _ _ _ _ _ _ _ _ wr ra rb (by have := HS.out; omega) (by have := HS.out; omega))
      clear hc hd ra rb
      go_wp2_with fail
      refine CL.out.mono ?_
      rintro e w2 ⟨A2, n2, c2, B2, n3, c3, s, m, rfl, q1, q2, q3, ta, tb, hb2⟩
      have BB := Lib.hid (below_step HB.out hb2)
      have R2 := Lib.hid (tfill_keep (hi' := wr.heap.size) (Nat.le_of_lt hlt) HR.out (fun b _ h2 => hb2.block b h2) (Nat.le_refl _))
      have R3 := Lib.hid (tfill_set R2.out hlt q1 q2 q3 ta tb)
      obtain ⟨⟨o0, p0⟩, f0⟩ := tfill_cell R2.out hlt 0 (by omega)
      obtain ⟨⟨o1, p1⟩, g1⟩ := tfill_cell R2.out hlt 1 (by omega)
      obtain ⟨⟨o2, p2⟩, f2⟩ := tfill_cell R2.out hlt 2 (by omega)
      obtain ⟨⟨o3, p3⟩, f3⟩ := tfill_cell R2.out hlt 3 (by omega)
      rw [Nat.add_zero] at p0 f0
      have zl : w.heap.size < w2.heap.size := by have := hb2.size; omega
      have ES := Lib.hid (set4_size w2 w.heap.size k (.int .i64 L[k].k) (.int .i64 L[k].v) (.slice A2 n2 c2) (.slice B2 n3 c3))
      have SB : Hid (Below w.heap.size w (set4 w2 w.heap.size k (.int .i64 L[k].k) (.int .i64 L[k].v) (.slice A2 n2 c2) (.slice B2 n3 c3))) := Lib.hid ((((BB.out.setCell (Nat.le_refl _) _).setCell (Nat.le_refl _) _).setCell (Nat.le_refl _) _).setCell (Nat.le_refl _) _)
      have R4 : Hid (TFill d (set4 w2 w.heap.size k (.int .i64 L[k].k) (.int .i64 L[k].v) (.slice A2 n2 c2) (.slice B2 n3 c3)) w.heap.size (set4 w2 w.heap.size k (.int .i64 L[k].k) (.int .i64 L[k].v) (.slice A2 n2 c2) (.slice B2 n3 c3)).heap.size (.slice (some ⟨w.heap.size, 0, none⟩) L.length L.length) L (k + 1)) := Lib.hid (by rw [ES.out]; exact R3.out)
      have Z4 : Hid (w.heap.size < (set4 w2 w.heap.size k (.int .i64 L[k].k) (.int .i64 L[k].v) (.slice A2 n2 c2) (.slice B2 n3 c3)).heap.size) := Lib.hid (by rw [ES.out]; exact zl)
      clear hb2 ta tb q1 q2 q3 a0 a1 a2 a3 CL
      unfold set4 at R4 SB Z4
      go_wp2
      go_roundw
      case rel => exact ⟨k + 1, by omega, by go_num, R4.out, SB.out, Z4.out⟩
      case measure => simp [intOf]; omega
    · obtain rfl : k = L.length := by omega
      clear hlt
      go_wp2
      go_ret
      exact ⟨rfl, tfill_end HR.out, HB.out, hz⟩

theorem toNodeS_any (d : Nat) : ToN d := by
  induction d with
  | zero => exact to_zero
  | succ d ih => exact to_step d ih

end Go.Proofs.Ytafhmajnkicifaa
