/- The program's writer of items: nodes. -/
import Derived.Test.YtafhmajnkicifaaFlB
namespace Go.Proofs.Ytafhmajnkicifaa
open Go.RowKit
set_option linter.unusedVariables false
set_option linter.unusedSimpArgs false

/-- How many items there may be ahead of nodes with r levels left. -/
def Bd (r : Nat) : Nat := 80 - 2 * r

/-- What a writing of nodes leaves: true where S holds, false where R does not. -/
def AddOf (S R : Prop) (w : World) (G : Nat) (u : Option Nat) (Q : List It) (e : Ending) (w' : World) : Prop :=
  ∃ b : Bool, e = .returned (.bool b) ∧ OnlyW G u w w' ∧ (b = true → S ∧ ∃ u', WrAt w' G Q u' ∧ NewU w u u') ∧ (b = false → ¬ R)

/-- Nodes are written. -/
def AddN (d : Nat) : Prop := ∀ (r : Nat) (v : Value) (L : List Nd) (w : World) (G : Nat) (Q : List It) (u : Option Nat), r ≤ 9 → NdB d G w v L → WrAt w G Q u → Q.length ≤ Bd r →
  Calls Try.prog 33 #[.pointer (some ⟨G, 0, none⟩), v, .int .i64 ((10 - r : Nat) : Int)] w
    (AddOf (okT d r L = true ∧ (L = [] ∨ Q.length + (itT d L).length ≤ 60)) (okT d r L = true ∧ (L = [] ∨ Q.length + (itT d L).length ≤ 60)) w G u (Q ++ itT d L))

theorem newU_ne {w : World} {u u' : Option Nat} {g : Nat} (h : NewU w u u') (hg : g < w.heap.size) (hn : u ≠ some g) : u' ≠ some g := by
  rcases h with rfl | ⟨g', rfl, hg'⟩
  · exact hn
  · intro e; have := Option.some.inj e; omega

theorem onlyW_low {w w' : World} {G : Nat} {Q : List It} {u : Option Nat} (h : WrAt w G Q u) (k : OnlyW G u w w') : ∀ b, b < G → w'.heap[b]? = w.heap[b]? := fun b hb =>
  k.block b (by have := (wr_lt h).1; omega) (fun q => by
    rcases q with q | q
    · omega
    · have := (wr_lt h).2 b q; omega)

theorem onlyW_whole {w w' : World} {G g : Nat} {u : Option Nat} {t : TypeId} {cs : Array Value} (h : Whole w g t cs) (k : OnlyW G u w w') (h1 : g ≠ G) (h2 : u ≠ some g) : Whole w' g t cs :=
  whole_keep h (k.block g (whole_lt h) (fun q => q.elim h1 h2))

set_option maxRecDepth 100000 in
set_option maxHeartbeats 4000000 in
theorem addNode_word (d : Nat) (ih : AddN d) (k v : Int) (A B : Option Addr) (c c2 : Nat) (a b : List Nd) (r : Nat) (w : World) (G : Nat) (Q : List It) (u : Option Nat) (hr1 : 1 ≤ r) (hr9 : r ≤ 9) (hw : wrdV k = true) (hn : nodV k v a.length b.length = true) (ha : NdB d G w (.slice A a.length c) a) (hb : NdB d G w (.slice B b.length c2) b) (hW : WrAt w G Q u) (hQ : Q.length ≤ Bd r) :
    Calls Try.prog 53 #[.pointer (some ⟨G, 0, none⟩), .agg #[.int .i64 k, .int .i64 v, .slice A a.length c, .slice B b.length c2], .int .i64 ((10 - r : Nat) : Int)] w (AddOf (okT d (r - 1) a = true ∧ okT d (r - 1) b = true) (okT d (r - 1) a = true ∧ okT d (r - 1) b = true ∧ Q.length + (itN (itT d) (.mk k v a b)).length ≤ 60) w G u (Q ++ itN (itT d) (.mk k v a b))) := by
  unfold Bd at hQ
  have hlt := wr_lt hW
  have zG := hlt.1
  have HL := Lib.hid hlt.2
  have B0 : Hid (Below w.heap.size w (w.alloc (.cells #[.int .i64 k, .int .i64 v, .slice A a.length c, .slice B b.length c2] 64))) := Lib.hid (below_alloc (Below.refl _ _) _)
  have X0 := Lib.hid (whole_new w 64 #[.int .i64 k, .int .i64 v, .slice A a.length c, .slice B b.length c2])
  have UN : Hid (u ≠ some w.heap.size) := Lib.hid (fun e => by have := HL.out _ e; omega)
  have HA := Lib.hid ha
  have HB := Lib.hid hb
  have HW0 := Lib.hid hW
  have HW := Lib.hid (wr_below hW B0.out)
  have IH := Lib.hid ih
  have HK := Lib.hid hw
  have nb := nodB_word (x := .mk k v a b) hn hw
  have a0 := List.eq_nil_of_length_eq_zero nb.1
  have b0 := List.eq_nil_of_length_eq_zero nb.2.1
  have EI : Hid (itN (itT d) (.mk k v a b) = [⟨k, v⟩]) := Lib.hid (by unfold itN; exact if_pos hw)
  have OK : Hid (okT d (r - 1) a = true ∧ okT d (r - 1) b = true) := Lib.hid ⟨by rw [show a = [] from a0]; exact okT_nil _ _, by rw [show b = [] from b0]; exact okT_nil _ _⟩
  clear hw hn nb a0 b0 ha hb hW ih hlt
  go_enter Try.func53, Try.ntmps53
  go_wp2_with fail
  refine (isItem_any _ _).mono ?_
  rintro e w1 ⟨rfl, hw1⟩
  subst hw1
  rw [show (decide (k = 1) || decide (k = 2) || decide (k = 13)) = true from HK.out]
  go_wp2_with fail
  refine (add_items _ G Q u k v HW.out (by omega)).mono ?_
  rintro e w2 ⟨rfl, ow, u1, wr1, nu1⟩
  have OW := Lib.hid (onlyW_trans (onlyW_below B0.out) (newU_refl _ _) ow)
  have WR := Lib.hid wr1
  have NU := Lib.hid nu1
  clear ow wr1 nu1
  go_wp2
  go_ret
  refine ⟨true, rfl, OW.out, fun _ => ⟨OK.out, u1, by rw [EI.out]; exact WR.out, newU_trans (newU_refl _ _) NU.out B0.out.size⟩, by simp⟩

set_option maxRecDepth 100000 in
set_option maxHeartbeats 4000000 in
theorem addNode_one (d : Nat) (ih : AddN d) (k v : Int) (A B : Option Addr) (c c2 : Nat) (a b : List Nd) (r : Nat) (w : World) (G : Nat) (Q : List It) (u : Option Nat) (hr1 : 1 ≤ r) (hr9 : r ≤ 9) (hw : wrdV k = false) (hm : midV k v = 0) (hb0 : b = []) (ha : NdB d G w (.slice A a.length c) a) (hb : NdB d G w (.slice B b.length c2) b) (hW : WrAt w G Q u) (hQ : Q.length ≤ Bd r) :
    Calls Try.prog 53 #[.pointer (some ⟨G, 0, none⟩), .agg #[.int .i64 k, .int .i64 v, .slice A a.length c, .slice B b.length c2], .int .i64 ((10 - r : Nat) : Int)] w (AddOf (okT d (r - 1) a = true ∧ okT d (r - 1) b = true) (okT d (r - 1) a = true ∧ okT d (r - 1) b = true ∧ Q.length + (itN (itT d) (.mk k v a b)).length ≤ 60) w G u (Q ++ itN (itT d) (.mk k v a b))) := by
  unfold Bd at hQ
  have hlt := wr_lt hW
  have zG := hlt.1
  have HL := Lib.hid hlt.2
  have B0 : Hid (Below w.heap.size w (w.alloc (.cells #[.int .i64 k, .int .i64 v, .slice A a.length c, .slice B b.length c2] 64))) := Lib.hid (below_alloc (Below.refl _ _) _)
  have X0 := Lib.hid (whole_new w 64 #[.int .i64 k, .int .i64 v, .slice A a.length c, .slice B b.length c2])
  have UN : Hid (u ≠ some w.heap.size) := Lib.hid (fun e => by have := HL.out _ e; omega)
  have HA := Lib.hid ha
  have HB := Lib.hid hb
  have HW0 := Lib.hid hW
  have HW := Lib.hid (wr_below hW B0.out)
  have IH := Lib.hid ih
  have HK := Lib.hid hw
  obtain ⟨o, ho⟩ : ∃ o, opnV k = o := ⟨_, rfl⟩
  obtain ⟨m, hmm⟩ : ∃ m, midV k v = m := ⟨_, rfl⟩
  obtain ⟨f, hf⟩ : ∃ f, endV k = f := ⟨_, rfl⟩
  have EI : Hid (itN (itT d) (.mk k v a b) = [⟨o, 0⟩] ++ itT d a ++ [⟨f, 0⟩]) := Lib.hid (by
    unfold itN
    rw [if_neg (by show ¬ wrdV k = true; rw [hw]; simp)]
    show [⟨opnV k, 0⟩] ++ itT d a ++ (if midV k v ≠ 0 then [⟨midV k v, 0⟩] ++ itT d b else []) ++ [⟨endV k, 0⟩] = _
    rw [if_neg (by simpa using hm), ho, hf]; simp)
  have BD : Hid (∀ W, Calls Try.prog 68 #[.agg #[.int .i64 k, .int .i64 v, .slice A a.length c, .slice B b.length c2]] W fun e w' => e = .returned (.tuple #[.int .i64 o, .int .i64 m, .int .i64 f]) ∧ Below W.heap.size W w') := Lib.hid fun W => by
    have q := bounds_any k v A B a.length c b.length c2 W
    unfold BndOf at q
    rwa [ho, hmm, hf] at q
  have tm : (m != 0) = false := by rw [← hmm]; simpa using hm
  have wl : IntKind.i64.wrap (((10 - r : Nat) : Int) + 1) = ((10 - (r - 1) : Nat) : Int) := by rw [show ((10 - r : Nat) : Int) + 1 = ((10 - (r - 1) : Nat) : Int) by omega]; exact IntWalk.i64_in _ (by omega)
  have OB : Hid (okT d (r - 1) b = true) := Lib.hid (by rw [hb0]; exact okT_nil _ _)
  clear hw hm ha hb hW ih hlt ho hmm hf hb0
  go_enter Try.func53, Try.ntmps53
  go_wp2_with fail
  refine (isItem_any _ _).mono ?_
  rintro e w1 ⟨rfl, hw1⟩
  subst hw1
  rw [show (decide (k = 1) || decide (k = 2) || decide (k = 13)) = false from HK.out]
  go_wp2_with fail
  refine (BD.out _).mono ?_
  rintro e w1 ⟨rfl, h1⟩
  have B1 := Lib.hid (below_step B0.out h1)
  have X1 := Lib.hid (whole_below X0.out h1)
  have HW1 := Lib.hid (wr_below HW.out h1)
  have OW1 : Hid (OnlyW G u w w1) := Lib.hid (onlyW_below B1.out)
  have NU1 : Hid (NewU w u u) := Lib.hid (newU_refl _ _)
  have NN1 := UN
  have LO1 : Hid (∀ b, b < G → w1.heap[b]? = w.heap[b]?) := Lib.hid fun b hb => B1.out.block b (by omega)
  have s1 := B1.out.size
  clear h1 X0 HW
  go_wp2_with fail
  refine (add_items _ G _ _ o 0 HW1.out (by omega)).mono ?_
  rintro e w2 ⟨rfl, ow, u2, wr1, nu1⟩
  have X2 := Lib.hid (onlyW_whole X1.out ow (by omega) (NN1.out))
  have OW2 := Lib.hid (onlyW_trans OW1.out NU1.out ow)
  have s2 := ow.size
  have NU2 := Lib.hid (newU_trans NU1.out nu1 OW1.out.size)
  have NN2 := Lib.hid (newU_ne nu1 (whole_lt X1.out) NN1.out)
  have HW2 := Lib.hid wr1
  have LO2 := Lib.hid (fun (b : Nat) (hb : b < G) => (onlyW_low HW1.out ow b hb).trans (LO1.out b hb))
  clear ow wr1 nu1 X1 NN1 HW1 LO1
  have x2 := whole_cell X2.out 2
  simp at x2
  have CA := Lib.hid (IH.out (r - 1) (.slice A a.length c) a w2 G (Q ++ [⟨o, 0⟩]) u2 (by omega) (ndb_keep d HA.out LO2.out) HW2.out (by unfold Bd; simp; omega))
  go_wp2_with fail
  refine CA.out.mono ?_
  rintro e w3 ⟨bA, rfl, ow, tA, fA⟩
  cases bA with
  | false =>
    have FA := fA rfl
    have OW3 := Lib.hid (onlyW_trans OW2.out NU2.out ow)
    have FN : Hid (¬ (okT d (r - 1) a = true ∧ okT d (r - 1) b = true ∧ Q.length + (itN (itT d) (.mk k v a b)).length ≤ 60)) := Lib.hid (by
      rintro ⟨p1, p2, p3⟩
      refine FA ⟨p1, .inr ?_⟩
      rw [EI.out] at p3
      simp at p3 ⊢
      omega)
    clear tA fA FA ow CA
    go_wp2
    go_ret
    exact ⟨false, rfl, OW3.out, by simp, fun _ => FN.out⟩
  | true =>
  obtain ⟨⟨ka, la⟩, u3, wr1, nu1⟩ := tA rfl
  have LA : (itT d a).length + Q.length ≤ 80 - 2 * r ∨ (itT d a).length + Q.length ≤ 60 := by
    rcases la with rfl | q
    · rw [itT_nil]; left; simp; omega
    · right; simp at q; omega
  have KA := Lib.hid ka
  have X3 := Lib.hid (onlyW_whole X2.out ow (by omega) (NN2.out))
  have OW3 := Lib.hid (onlyW_trans OW2.out NU2.out ow)
  have s3 := ow.size
  have NU3 := Lib.hid (newU_trans NU2.out nu1 OW2.out.size)
  have NN3 := Lib.hid (newU_ne nu1 (whole_lt X2.out) NN2.out)
  have HW3 := Lib.hid wr1
  have LO3 := Lib.hid (fun (b : Nat) (hb : b < G) => (onlyW_low HW2.out ow b hb).trans (LO2.out b hb))
  clear ow wr1 nu1 X2 NN2 HW2 LO2
  clear tA fA la ka CA x2
  go_wp2_with fail
  refine (add_items _ G _ _ f 0 HW3.out (by simp; omega)).mono ?_
  rintro e w4 ⟨rfl, ow, u4, wr1, nu1⟩
  have X4 := Lib.hid (onlyW_whole X3.out ow (by omega) (NN3.out))
  have OW4 := Lib.hid (onlyW_trans OW3.out NU3.out ow)
  have s4 := ow.size
  have NU4 := Lib.hid (newU_trans NU3.out nu1 OW3.out.size)
  have NN4 := Lib.hid (newU_ne nu1 (whole_lt X3.out) NN3.out)
  have HW4 := Lib.hid wr1
  have LO4 := Lib.hid (fun (b : Nat) (hb : b < G) => (onlyW_low HW3.out ow b hb).trans (LO3.out b hb))
  clear ow wr1 nu1 X3 NN3 HW3 LO3
  go_wp2
  go_ret
  refine ⟨true, rfl, OW4.out, fun _ => ⟨⟨KA.out, OB.out⟩, u4, ?_, NU4.out⟩, by simp⟩
  have q := HW4.out
  rw [EI.out]
  simpa [List.append_assoc] using q

set_option maxRecDepth 100000 in
set_option maxHeartbeats 4000000 in
theorem addNode_two (d : Nat) (ih : AddN d) (k v : Int) (A B : Option Addr) (c c2 : Nat) (a b : List Nd) (r : Nat) (w : World) (G : Nat) (Q : List It) (u : Option Nat) (hr1 : 1 ≤ r) (hr9 : r ≤ 9) (hw : wrdV k = false) (hm : midV k v ≠ 0) (ha : NdB d G w (.slice A a.length c) a) (hb : NdB d G w (.slice B b.length c2) b) (hW : WrAt w G Q u) (hQ : Q.length ≤ Bd r) :
    Calls Try.prog 53 #[.pointer (some ⟨G, 0, none⟩), .agg #[.int .i64 k, .int .i64 v, .slice A a.length c, .slice B b.length c2], .int .i64 ((10 - r : Nat) : Int)] w (AddOf (okT d (r - 1) a = true ∧ okT d (r - 1) b = true) (okT d (r - 1) a = true ∧ okT d (r - 1) b = true ∧ Q.length + (itN (itT d) (.mk k v a b)).length ≤ 60) w G u (Q ++ itN (itT d) (.mk k v a b))) := by
  unfold Bd at hQ
  have hlt := wr_lt hW
  have zG := hlt.1
  have HL := Lib.hid hlt.2
  have B0 : Hid (Below w.heap.size w (w.alloc (.cells #[.int .i64 k, .int .i64 v, .slice A a.length c, .slice B b.length c2] 64))) := Lib.hid (below_alloc (Below.refl _ _) _)
  have X0 := Lib.hid (whole_new w 64 #[.int .i64 k, .int .i64 v, .slice A a.length c, .slice B b.length c2])
  have UN : Hid (u ≠ some w.heap.size) := Lib.hid (fun e => by have := HL.out _ e; omega)
  have HA := Lib.hid ha
  have HB := Lib.hid hb
  have HW0 := Lib.hid hW
  have HW := Lib.hid (wr_below hW B0.out)
  have IH := Lib.hid ih
  have HK := Lib.hid hw
  obtain ⟨o, ho⟩ : ∃ o, opnV k = o := ⟨_, rfl⟩
  obtain ⟨m, hmm⟩ : ∃ m, midV k v = m := ⟨_, rfl⟩
  obtain ⟨f, hf⟩ : ∃ f, endV k = f := ⟨_, rfl⟩
  have EI : Hid (itN (itT d) (.mk k v a b) = [⟨o, 0⟩] ++ itT d a ++ ([⟨m, 0⟩] ++ itT d b) ++ [⟨f, 0⟩]) := Lib.hid (by
    unfold itN
    rw [if_neg (by show ¬ wrdV k = true; rw [hw]; simp)]
    show [⟨opnV k, 0⟩] ++ itT d a ++ (if midV k v ≠ 0 then [⟨midV k v, 0⟩] ++ itT d b else []) ++ [⟨endV k, 0⟩] = _
    rw [if_pos hm, ho, hmm, hf])
  have BD : Hid (∀ W, Calls Try.prog 68 #[.agg #[.int .i64 k, .int .i64 v, .slice A a.length c, .slice B b.length c2]] W fun e w' => e = .returned (.tuple #[.int .i64 o, .int .i64 m, .int .i64 f]) ∧ Below W.heap.size W w') := Lib.hid fun W => by
    have q := bounds_any k v A B a.length c b.length c2 W
    unfold BndOf at q
    rwa [ho, hmm, hf] at q
  have tm : (m != 0) = true := by rw [← hmm]; simpa using hm
  have wl : IntKind.i64.wrap (((10 - r : Nat) : Int) + 1) = ((10 - (r - 1) : Nat) : Int) := by rw [show ((10 - r : Nat) : Int) + 1 = ((10 - (r - 1) : Nat) : Int) by omega]; exact IntWalk.i64_in _ (by omega)
  clear hw hm ha hb hW ih hlt ho hmm hf
  go_enter Try.func53, Try.ntmps53
  go_wp2_with fail
  refine (isItem_any _ _).mono ?_
  rintro e w1 ⟨rfl, hw1⟩
  subst hw1
  rw [show (decide (k = 1) || decide (k = 2) || decide (k = 13)) = false from HK.out]
  go_wp2_with fail
  refine (BD.out _).mono ?_
  rintro e w1 ⟨rfl, h1⟩
  have B1 := Lib.hid (below_step B0.out h1)
  have X1 := Lib.hid (whole_below X0.out h1)
  have HW1 := Lib.hid (wr_below HW.out h1)
  have OW1 : Hid (OnlyW G u w w1) := Lib.hid (onlyW_below B1.out)
  have NU1 : Hid (NewU w u u) := Lib.hid (newU_refl _ _)
  have NN1 := UN
  have LO1 : Hid (∀ b, b < G → w1.heap[b]? = w.heap[b]?) := Lib.hid fun b hb => B1.out.block b (by omega)
  have s1 := B1.out.size
  clear h1 X0 HW
  go_wp2_with fail
  refine (add_items _ G _ _ o 0 HW1.out (by omega)).mono ?_
  rintro e w2 ⟨rfl, ow, u2, wr1, nu1⟩
  have X2 := Lib.hid (onlyW_whole X1.out ow (by omega) (NN1.out))
  have OW2 := Lib.hid (onlyW_trans OW1.out NU1.out ow)
  have s2 := ow.size
  have NU2 := Lib.hid (newU_trans NU1.out nu1 OW1.out.size)
  have NN2 := Lib.hid (newU_ne nu1 (whole_lt X1.out) NN1.out)
  have HW2 := Lib.hid wr1
  have LO2 := Lib.hid (fun (b : Nat) (hb : b < G) => (onlyW_low HW1.out ow b hb).trans (LO1.out b hb))
  clear ow wr1 nu1 X1 NN1 HW1 LO1
  have x2 := whole_cell X2.out 2
  simp at x2
  have CA := Lib.hid (IH.out (r - 1) (.slice A a.length c) a w2 G (Q ++ [⟨o, 0⟩]) u2 (by omega) (ndb_keep d HA.out LO2.out) HW2.out (by unfold Bd; simp; omega))
  go_wp2_with fail
  refine CA.out.mono ?_
  rintro e w3 ⟨bA, rfl, ow, tA, fA⟩
  cases bA with
  | false =>
    have FA := fA rfl
    have OW3 := Lib.hid (onlyW_trans OW2.out NU2.out ow)
    have FN : Hid (¬ (okT d (r - 1) a = true ∧ okT d (r - 1) b = true ∧ Q.length + (itN (itT d) (.mk k v a b)).length ≤ 60)) := Lib.hid (by
      rintro ⟨p1, p2, p3⟩
      refine FA ⟨p1, .inr ?_⟩
      rw [EI.out] at p3
      simp at p3 ⊢
      omega)
    clear tA fA FA ow CA
    go_wp2
    go_ret
    exact ⟨false, rfl, OW3.out, by simp, fun _ => FN.out⟩
  | true =>
  obtain ⟨⟨ka, la⟩, u3, wr1, nu1⟩ := tA rfl
  have LA : (itT d a).length + Q.length ≤ 80 - 2 * r ∨ (itT d a).length + Q.length ≤ 60 := by
    rcases la with rfl | q
    · rw [itT_nil]; left; simp; omega
    · right; simp at q; omega
  have KA := Lib.hid ka
  have X3 := Lib.hid (onlyW_whole X2.out ow (by omega) (NN2.out))
  have OW3 := Lib.hid (onlyW_trans OW2.out NU2.out ow)
  have s3 := ow.size
  have NU3 := Lib.hid (newU_trans NU2.out nu1 OW2.out.size)
  have NN3 := Lib.hid (newU_ne nu1 (whole_lt X2.out) NN2.out)
  have HW3 := Lib.hid wr1
  have LO3 := Lib.hid (fun (b : Nat) (hb : b < G) => (onlyW_low HW2.out ow b hb).trans (LO2.out b hb))
  clear ow wr1 nu1 X2 NN2 HW2 LO2
  clear tA fA la ka CA x2
  go_wp2_with fail
  refine (add_items _ G _ _ m 0 HW3.out (by simp; omega)).mono ?_
  rintro e w4 ⟨rfl, ow, u4, wr1, nu1⟩
  have X4 := Lib.hid (onlyW_whole X3.out ow (by omega) (NN3.out))
  have OW4 := Lib.hid (onlyW_trans OW3.out NU3.out ow)
  have s4 := ow.size
  have NU4 := Lib.hid (newU_trans NU3.out nu1 OW3.out.size)
  have NN4 := Lib.hid (newU_ne nu1 (whole_lt X3.out) NN3.out)
  have HW4 := Lib.hid wr1
  have LO4 := Lib.hid (fun (b : Nat) (hb : b < G) => (onlyW_low HW3.out ow b hb).trans (LO3.out b hb))
  clear ow wr1 nu1 X3 NN3 HW3 LO3
  have x3 := whole_cell X4.out 3
  simp at x3
  have CB := Lib.hid (IH.out (r - 1) (.slice B b.length c2) b w4 G (Q ++ [⟨o, 0⟩] ++ itT d a ++ [⟨m, 0⟩]) u4 (by omega) (ndb_keep d HB.out LO4.out) HW4.out (by unfold Bd; simp; omega))
  go_wp2_with fail
  refine CB.out.mono ?_
  rintro e w5 ⟨bB, rfl, ow, tB, fB⟩
  cases bB with
  | false =>
    have FB := fB rfl
    have OW5 := Lib.hid (onlyW_trans OW4.out NU4.out ow)
    have FN : Hid (¬ (okT d (r - 1) a = true ∧ okT d (r - 1) b = true ∧ Q.length + (itN (itT d) (.mk k v a b)).length ≤ 60)) := Lib.hid (by
      rintro ⟨p1, p2, p3⟩
      refine FB ⟨p2, .inr ?_⟩
      rw [EI.out] at p3
      simp at p3 ⊢
      omega)
    clear tB fB FB ow CB
    go_wp2
    go_ret
    exact ⟨false, rfl, OW5.out, by simp, fun _ => FN.out⟩
  | true =>
  obtain ⟨⟨kb, lb⟩, u5, wr1, nu1⟩ := tB rfl
  have LB : (itT d b).length + (itT d a).length + Q.length ≤ 200 := by
    rcases lb with rfl | q
    · rw [itT_nil]; simp; omega
    · simp at q; omega
  have OB := Lib.hid kb
  have X5 := Lib.hid (onlyW_whole X4.out ow (by omega) (NN4.out))
  have OW5 := Lib.hid (onlyW_trans OW4.out NU4.out ow)
  have s5 := ow.size
  have NU5 := Lib.hid (newU_trans NU4.out nu1 OW4.out.size)
  have NN5 := Lib.hid (newU_ne nu1 (whole_lt X4.out) NN4.out)
  have HW5 := Lib.hid wr1
  have LO5 := Lib.hid (fun (b : Nat) (hb : b < G) => (onlyW_low HW4.out ow b hb).trans (LO4.out b hb))
  clear ow wr1 nu1 X4 NN4 HW4 LO4
  clear tB fB lb kb CB x3
  go_wp2_with fail
  refine (add_items _ G _ _ f 0 HW5.out (by simp; omega)).mono ?_
  rintro e w6 ⟨rfl, ow, u6, wr1, nu1⟩
  have X6 := Lib.hid (onlyW_whole X5.out ow (by omega) (NN5.out))
  have OW6 := Lib.hid (onlyW_trans OW5.out NU5.out ow)
  have s6 := ow.size
  have NU6 := Lib.hid (newU_trans NU5.out nu1 OW5.out.size)
  have NN6 := Lib.hid (newU_ne nu1 (whole_lt X5.out) NN5.out)
  have HW6 := Lib.hid wr1
  have LO6 := Lib.hid (fun (b : Nat) (hb : b < G) => (onlyW_low HW5.out ow b hb).trans (LO5.out b hb))
  clear ow wr1 nu1 X5 NN5 HW5 LO5
  go_wp2
  go_ret
  refine ⟨true, rfl, OW6.out, fun _ => ⟨⟨KA.out, OB.out⟩, u6, ?_, NU6.out⟩, by simp⟩
  have q := HW6.out
  rw [EI.out]
  simpa [List.append_assoc] using q

theorem addNode_any (d : Nat) (ih : AddN d) (k v : Int) (A B : Option Addr) (c c2 : Nat) (a b : List Nd) (r : Nat) (w : World) (G : Nat) (Q : List It) (u : Option Nat) (hr1 : 1 ≤ r) (hr9 : r ≤ 9) (hn : nodV k v a.length b.length = true) (ha : NdB d G w (.slice A a.length c) a) (hb : NdB d G w (.slice B b.length c2) b) (hW : WrAt w G Q u) (hQ : Q.length ≤ Bd r) :
    Calls Try.prog 53 #[.pointer (some ⟨G, 0, none⟩), .agg #[.int .i64 k, .int .i64 v, .slice A a.length c, .slice B b.length c2], .int .i64 ((10 - r : Nat) : Int)] w (AddOf (okT d (r - 1) a = true ∧ okT d (r - 1) b = true) (okT d (r - 1) a = true ∧ okT d (r - 1) b = true ∧ Q.length + (itN (itT d) (.mk k v a b)).length ≤ 60) w G u (Q ++ itN (itT d) (.mk k v a b))) := by
  by_cases hw : wrdV k = true
  · exact addNode_word d ih k v A B c c2 a b r w G Q u hr1 hr9 hw hn ha hb hW hQ
  have hw : wrdV k = false := by simpa using hw
  by_cases hm : midV k v = 0
  · exact addNode_one d ih k v A B c c2 a b r w G Q u hr1 hr9 hw hm (List.eq_nil_of_length_eq_zero (nodB_mid (x := .mk k v a b) hn hw hm)) ha hb hW hQ
  · exact addNode_two d ih k v A B c c2 a b r w G Q u hr1 hr9 hw hm ha hb hW hQ

end Go.Proofs.Ytafhmajnkicifaa
