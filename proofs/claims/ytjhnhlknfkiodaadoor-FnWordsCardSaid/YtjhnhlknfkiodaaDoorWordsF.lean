/- The exact law on the words of a line, walked: at a text that is not too long. -/
import Derived.Test.YtjhnhlknfkiodaaDoorWordsE
import Derived.Test.YtjhnhlknfkiodaaDoorStrsB
namespace Go.Proofs.YtjhnhlknfkiodaaDoor
open Go.RowKit
set_option linter.unusedVariables false
set_option linter.unusedSimpArgs false

theorem scan_few : ∀ (Q : List (List UInt8)) (o : Bool), (scanL o Q).1.length ≤ Q.length := by
  intro Q
  induction Q with
  | nil => intro o; cases o <;> simp [scanL]
  | cons q r ih =>
    intro o
    cases o
    · unfold scanL
      split
      · simp
      · split
        · have := ih true; simp; omega
        · have := ih false; simp; omega
    · unfold scanL
      have := ih (q.getLast? != some 41); simp; omega

theorem lw_few (l : List UInt8) : (lwL l).length ≤ 400 := by
  unfold lwL
  split
  · simp
  · split
    · have h1 := scan_few (wordsL l) false
      have h2 := words_few l
      omega
    · simp

/-- What a law leaves: true; of what was there nothing has turned. -/
def Fin (w : World) (e : Ending) (w' : World) : Prop := e = .returned (.bool true) ∧ Below w.heap.size w w'

theorem below_marked {w0 w w' : World} {base : Nat} {e : TypeId} {v : Value} {n : Nat} {xs : List Value} (hb : Below w0.heap.size w0 w) (ho : w.ownsRow base e 1 v n xs) (hbase : w0.heap.size ≤ base) (hg : w.grownBy w' v.ownBlock) : Below w0.heap.size w0 w' :=
  hb.grown hg hb.size (fun k hk => Nat.le_trans hbase (ho.lt k hk).1)

/-- A row that was there before another was made is not that one. -/
theorem own_apart {w w' wm : World} {base base2 : Nat} {e e2 : TypeId} {v v2 : Value} {n n2 : Nat} {xs xs2 : List Value} (h : w.ownsRow base e 1 v n xs) (hm : wm.ownsRow base e 1 v n xs) (hb : wm.heap.size ≤ base2) (h2 : w.ownsRow base2 e2 1 v2 n2 xs2) (hg : w.grownBy w' v2.ownBlock) : w'.ownsRow base e 1 v n xs := by
  refine h.kept hg ?_
  cases hv : v.ownBlock with
  | none => exact .inl rfl
  | some g =>
    refine .inr fun e => ?_
    have h3 := (hm.lt g hv).2
    have h4 := (h2.lt g e.symm).1
    omega

theorem mark_one (v : Value) (base : Nat) (Q : List (List UInt8)) (w : World) (h : w.ownsRow base 9 1 v Q.length (Q.map strV)) (hQ : Q.length ≤ 1048576) :
    Calls Tryd.prog 15 #[v, .int .i64 1] w (MarkedOf w base v Q.length 1) := markStrs_any v base 1 Q w h (by omega) (by omega)

theorem held_one (v : Value) (base n : Nat) (w : World) (h : w.ownsRow base 9 1 v n ((marksL 1 n).map strV)) (hn : n ≤ 1048576) :
    Calls Tryd.prog 16 #[v, .int .i64 1] w (HeldOf w (1 + (n : Int))) := heldStrs_any v base n 1 w h (by omega) (by omega)

set_option maxRecDepth 100000 in
set_option maxHeartbeats 4000000 in
theorem lineLaw_core (s : ByteArray) (a0 a1 : Addr) (w : World) (hs : s.size ≤ 1048576) (hst : Sents w a0 a1) :
    Calls Tryd.prog 4 #[.string s] w (Fin w) := by
  have HS := Lib.hid hst
  have SP := Lib.hid fun W => sLineWords_any s W hs
  have IM := Lib.hid fun W (h : Sents W a0 a1) => lineWords_any s a0 a1 W hs h
  have few := lw_few s.data.toList
  clear hst
  go_enter Tryd.func4, Tryd.ntmps4
  unfold LineOf at SP IM
  generalize lwL s.data.toList = L at *
  generalize lwC s.data.toList = c at *
  have EQ : Hid ((L == L) = true) := Lib.hid (by simp)
  go_wp2_with fail
  refine (SP.out _).mono ?_
  rintro e w1 ⟨v0, rfl, ho0, hb1⟩
  have B1 := Lib.hid hb1
  have M0 := Lib.hid ho0
  clear hb1
  go_wp2_with fail
  refine (IM.out _ (sents_below HS.out B1.out)).mono ?_
  rintro e w2 ⟨v1, rfl, ho1, hb2⟩
  have B2 := Lib.hid (B1.out.trans (hb2.mono B1.out.size))
  have O0 := Lib.hid (own_over_below ho0 hb2)
  have O1 := Lib.hid ho1
  obtain ⟨A0, c0, rfl, hs0⟩ := strs_of_own O0.out
  obtain ⟨A1, c1, rfl, hs1⟩ := strs_of_own O1.out
  have S0 := Lib.hid hs0
  have S1 := Lib.hid hs1
  clear ho0 ho1 hb2 hs0 hs1
  go_wp2_with fail
  refine (eqStrs_any _ _ _ _ _ _ _ S1.out S0.out).mono ?_
  rintro e w3 ⟨n3, rfl, rfl⟩
  rw [EQ.out]
  have B3 := Lib.hid (below_draws B2.out n3)
  have P0 : Hid ((w2.drewN n3).ownsRow w.heap.size 9 1 (.slice A0 L.length c0) L.length (L.map strV)) := O0
  have P1 : Hid ((w2.drewN n3).ownsRow w1.heap.size 9 1 (.slice A1 L.length c1) L.length (L.map strV)) := O1
  go_wp2_with fail
  refine (mark_one _ _ _ _ P1.out (by omega)).mono ?_
  rintro e w4 ⟨rfl, hm4, hg4⟩
  have Q0 := Lib.hid (own_apart P0.out M0.out (Nat.le_refl _) P1.out hg4)
  have B4 := Lib.hid (below_marked B3.out P1.out B1.out.size hg4)
  have Q1 := Lib.hid hm4
  clear hm4 hg4
  go_wp2_with fail
  refine (held_one _ _ _ _ Q1.out (by omega)).mono ?_
  rintro e w5 ⟨rfl, hb5⟩
  have R0 := Lib.hid (own_over_below Q0.out hb5)
  have R1 := Lib.hid (own_over_below Q1.out hb5)
  have B5 := Lib.hid (B4.out.trans (hb5.mono B4.out.size))
  clear hb5
  go_wp2_with fail
  refine (IM.out _ (sents_below HS.out B5.out)).mono ?_
  rintro e w6 ⟨v2, rfl, ho2, hb6⟩
  have T0 := Lib.hid (own_over_below R0.out hb6)
  have T1 := Lib.hid (own_over_below R1.out hb6)
  have B6 := Lib.hid (B5.out.trans (hb6.mono B5.out.size))
  obtain ⟨A2, c2, rfl, hs2⟩ := strs_of_own ho2
  obtain ⟨A0', c0', hv0, hs0⟩ := strs_of_own T0.out
  simp only [Value.slice.injEq, true_and] at hv0
  obtain ⟨rfl, rfl⟩ := hv0
  have S2 := Lib.hid hs2
  have S0' := Lib.hid hs0
  clear ho2 hb6 hs2 hs0
  go_wp2_with fail
  refine (eqStrs_any _ _ _ _ _ _ _ S2.out S0'.out).mono ?_
  rintro e w7 ⟨n7, rfl, rfl⟩
  rw [EQ.out]
  have B7 := Lib.hid (below_draws B6.out n7)
  have U1 : Hid ((w6.drewN n7).ownsRow w1.heap.size 9 1 (.slice A1 L.length c1) L.length ((marksL 1 L.length).map strV)) := T1
  go_wp2_with fail
  refine (held_one _ _ _ _ U1.out (by omega)).mono ?_
  rintro e w8 ⟨rfl, hb8⟩
  have B8 := Lib.hid (B7.out.trans (hb8.mono B7.out.size))
  clear hb8
  go_wp2
  go_ret
  exact ⟨rfl, B8.out⟩

set_option maxRecDepth 100000 in
theorem lineLaw_long (s : ByteArray) (w : World) (hs : 1048576 < s.size) (hx : s.size ≤ 9223372036854775807) :
    Calls Tryd.prog 4 #[.string s] w (Fin w) := by
  go_enter Tryd.func4, Tryd.ntmps4
  go_wp2
  go_ret
  exact ⟨rfl, Below.refl _ _⟩

end Go.Proofs.YtjhnhlknfkiodaaDoor
