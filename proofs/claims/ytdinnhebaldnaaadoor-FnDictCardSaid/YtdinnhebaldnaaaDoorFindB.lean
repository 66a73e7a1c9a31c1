/- Finding a word: spec's search from the end, impl's map of the last ones. -/
import Derived.Test.YtdinnhebaldnaaaDoorFindA
import Derived.WalkArith
namespace Go.Proofs.YtdinnhebaldnaaaDoor
open Go.RowKit
set_option linter.unusedVariables false
set_option linter.unusedSimpArgs false

/-- Is the word found under this name? -/
def hitB (nm : ByteArray) (x : Wd) : Bool := x.k != 3 && upL x.n.data.toList == upL nm.data.toList

/-- The number of the last of the first k words that is found under this name; 0 of none. -/
def lastTo (Q : List Wd) (nm : ByteArray) : Nat → Nat
  | 0 => 0
  | k + 1 => if hitB nm (Q.getD k noWd) = true then k + 1 else lastTo Q nm k

theorem lastTo_le (Q : List Wd) (nm : ByteArray) (k : Nat) : lastTo Q nm k ≤ k := by
  induction k with
  | zero => exact Nat.le_refl _
  | succ k ih => unfold lastTo; split <;> omega

theorem lastTo_hit {Q : List Wd} {nm : ByteArray} {k : Nat} (hk : k < Q.length) (h : hitB nm Q[k] = true) : lastTo Q nm (k + 1) = k + 1 := by
  unfold lastTo
  rw [List.getD_eq_getElem?_getD, List.getElem?_eq_getElem hk]
  exact if_pos h

theorem lastTo_miss {Q : List Wd} {nm : ByteArray} {k : Nat} (hk : k < Q.length) (h : hitB nm Q[k] = false) : lastTo Q nm (k + 1) = lastTo Q nm k := by
  rw [lastTo, List.getD_eq_getElem?_getD, List.getElem?_eq_getElem hk]
  exact if_neg (by simp [h])

/-- The names are short. -/
def Short (Q : List Wd) : Prop := ∀ k (h : k < Q.length), Q[k].n.size ≤ 65536

set_option maxRecDepth 100000 in
set_option maxHeartbeats 4000000 in
theorem sFind_any (v : Value) (Q : List Wd) (nm : ByteArray) (w : World) (hv : Wds w v Q) (hs : Short Q) (hn : nm.size ≤ 65536) :
    Calls Tryd.prog 49 #[v, .string nm] w fun e w' => e = .returned (.int .i64 (lastTo Q nm Q.length)) ∧ Below w.heap.size w w' := by
  have HV := Lib.hid hv
  have HS := Lib.hid hs
  obtain ⟨A, ca, rfl, hcap, hl, _⟩ := wds_form hv
  unfold maxLen at hl
  clear hs hv
  go_enter Tryd.func49, Tryd.ntmps49
  go_wp2
  go_loopw [5] (fun i wr => ∃ k : Nat, k ≤ Q.length ∧ i = .int .i64 ((k : Int) - 1) ∧ Hid (lastTo Q nm Q.length = lastTo Q nm k) ∧ Below w.heap.size w wr) (fun i _ => (intOf i + 1).toNat)
  case atStart => exact ⟨Q.length, Nat.le_refl _, rfl, Lib.hid rfl, Below.refl _ _⟩
  case round =>
    obtain ⟨k, hk, rfl, hlast, hb⟩ := hrel
    have HB := Lib.hid hb
    clear hb
    match k, hk, hlast with
    | 0, hk, hlast =>
      have E : Hid (lastTo Q nm Q.length = 0) := hlast
      rw [show (((0 : Nat) : Int) - 1) = -1 from rfl]
      have t9 : decide ((0 : Int) ≤ -1) = false := by decide
      go_wp2
      go_ret
      exact ⟨ret_int (by rw [E.out]; rfl), HB.out⟩
    | k + 1, hk, hlast =>
      rw [show (((k + 1 : Nat) : Int) - 1) = (k : Int) by omega]
      have hlt : k < Q.length := by omega
      obtain ⟨ga, rfl⟩ := wds_block HV.out (by omega)
      have hxs := HS.out k hlt
      obtain ⟨c0, c1, c2⟩ := wds_word (wds_below HV.out HB.out) k hlt
      have NX : Hid (hitB nm Q[k] = false → lastTo Q nm Q.length = lastTo Q nm k) := Lib.hid (fun h => by rw [hlast.out, lastTo_miss hlt h])
      have NN : Hid (hitB nm Q[k] = true → lastTo Q nm Q.length = k + 1) := Lib.hid (fun h => by rw [hlast.out, lastTo_hit hlt h])
      clear hlast
      generalize Q[k] = x at *
      simp only [] at c0 c1 c2
      by_cases h3 : x.k = 3
      · have t3 : (x.k != 3) = false := by simp [h3]
        have E := Lib.hid (NX.out (by unfold hitB; simp [t3]))
        clear h3
        go_wp2
        go_roundw
        case rel => exact ⟨k, by omega, rfl, E, HB.out⟩
        case measure => simp [intOf]; try omega
      · have t3 : (x.k != 3) = true := by simp [h3]
        clear h3
        go_wp2_with fail
        refine (sSameIn_any _ _ _ hxs hn).mono ?_
        rintro e w2 ⟨rfl, hb⟩
        have B2 := Lib.hid (below_step HB.out hb)
        clear hb c0 c1 c2
        cases hh : (upL x.n.data.toList == upL nm.data.toList)
        · have E := Lib.hid (NX.out (by unfold hitB; simp [hh]))
          clear hh
          go_wp2
          go_roundw
          case rel => exact ⟨k, by omega, rfl, E, B2.out⟩
          case measure => simp [intOf]; try omega
        · have E := Lib.hid (NN.out (by unfold hitB; simp [hh, t3]))
          clear hh
          go_wp2
          go_ret
          exact ⟨ret_int (by rw [E.out]; rfl), B2.out⟩

/-- What FindWord answers. -/
def findF (Q : List Wd) (nm : ByteArray) : Int × Int :=
  if 4096 < Q.length ∨ 65536 < nm.size then (0, 2) else if dictB Q = false then (0, 1)
  else if wordL nm.data.toList = true ∧ lastTo Q nm Q.length ≠ 0 then (((lastTo Q nm Q.length : Nat) : Int), (0 : Int)) else (0, 10)

theorem dict_short {Q : List Wd} (h : dictB Q = true) : Short Q := fun k hk => by have := dict_names h k hk; omega

theorem nums_eq {p : Int × Int} {a b : Int} (h : p = (a, b)) : Ending.returned (.tuple #[.int .i64 a, .int .i64 b]) = .returned (.tuple #[.int .i64 p.1, .int .i64 p.2]) := by subst h; rfl

/-- What a number and a code leave. -/
def NumsOf (w : World) (p : Int × Int) (e : Ending) (w' : World) : Prop := e = .returned (.tuple #[.int .i64 p.1, .int .i64 p.2]) ∧ Below w.heap.size w w'

set_option maxRecDepth 100000 in
set_option maxHeartbeats 4000000 in
theorem sFindWord_any (v : Value) (Q : List Wd) (nm : ByteArray) (w : World) (hv : Wds w v Q) (hn : nm.size ≤ maxLen) :
    Calls Tryd.prog 29 #[v, .string nm] w (NumsOf w (findF Q nm)) := by
  have HV := Lib.hid hv
  have HN := Lib.hid hn
  obtain ⟨A, ca, rfl, hcap, hl, _⟩ := wds_form hv
  unfold maxLen at hl hn
  clear hv
  by_cases h1 : 4096 < Q.length
  · have E : Hid (findF Q nm = (0, 2)) := Lib.hid (if_pos (.inl h1))
    have t0 : decide ((4096 : Int) < (Q.length : Int)) = true := by simp; omega
    go_enter Tryd.func29, Tryd.ntmps29
    go_wp2
    go_ret2
    exact ⟨nums_eq E.out, Below.refl _ _⟩
  · have t0 : decide ((4096 : Int) < (Q.length : Int)) = false := by simp; omega
    by_cases h2 : 65536 < nm.size
    · have E : Hid (findF Q nm = (0, 2)) := Lib.hid (if_pos (.inr h2))
      have t1 : decide ((65536 : Int) < (nm.size : Int)) = true := by simp; omega
      go_enter Tryd.func29, Tryd.ntmps29
      go_wp2
      go_ret2
      exact ⟨nums_eq E.out, Below.refl _ _⟩
    · have t1 : decide ((65536 : Int) < (nm.size : Int)) = false := by simp; omega
      have E0 : Hid (findF Q nm = if dictB Q = false then (0, 1) else if wordL nm.data.toList = true ∧ lastTo Q nm Q.length ≠ 0 then (((lastTo Q nm Q.length : Nat) : Int), (0 : Int)) else (0, 10)) := Lib.hid (if_neg (by omega))
      cases hd : dictB Q
      · have E : Hid (findF Q nm = (0, 1)) := Lib.hid (by rw [E0.out, if_pos hd])
        go_enter Tryd.func29, Tryd.ntmps29
        go_wp2_with fail
        refine (sDict_any _ _ _ HV.out).mono ?_
        rintro e w1 ⟨rfl, hb⟩
        rw [hd]
        go_wp2
        go_ret2
        exact ⟨nums_eq E.out, hb⟩
      · have HS := Lib.hid (dict_short hd)
        have E1 : Hid (findF Q nm = if wordL nm.data.toList = true ∧ lastTo Q nm Q.length ≠ 0 then (((lastTo Q nm Q.length : Nat) : Int), (0 : Int)) else (0, 10)) := Lib.hid (by rw [E0.out, if_neg (by rw [hd]; simp)])
        cases hw : wordL nm.data.toList
        · have E : Hid (findF Q nm = (0, 10)) := Lib.hid (by rw [E1.out, if_neg (by rw [hw]; simp)])
          go_enter Tryd.func29, Tryd.ntmps29
          go_wp2_with fail
          refine (sDict_any _ _ _ HV.out).mono ?_
          rintro e w1 ⟨rfl, hb⟩
          rw [hd]
          go_wp2_with fail
          refine (sWordIn_any _ _ HN.out).mono ?_
          rintro e w' ⟨rfl, rfl⟩
          rw [hw]
          go_wp2
          go_ret2
          exact ⟨nums_eq E.out, hb⟩
        · by_cases h0 : lastTo Q nm Q.length = 0
          · have E : Hid (findF Q nm = (0, 10)) := Lib.hid (by rw [E1.out, if_neg (by rw [h0]; simp)])
            have H0 := Lib.hid h0
            clear h0
            go_enter Tryd.func29, Tryd.ntmps29
            go_wp2_with fail
            refine (sDict_any _ _ _ HV.out).mono ?_
            rintro e w1 ⟨rfl, hb⟩
            rw [hd]
            go_wp2_with fail
            refine (sWordIn_any _ _ HN.out).mono ?_
            rintro e w' ⟨rfl, rfl⟩
            rw [hw]
            go_wp2_with fail
            refine (sFind_any _ _ _ _ (wds_below HV.out hb) HS.out (by omega)).mono ?_
            rintro e w2 ⟨rfl, hb2⟩
            rw [H0.out]
            go_wp2
            go_ret2
            exact ⟨nums_eq E.out, below_step hb hb2⟩
          · have E : Hid (findF Q nm = (((lastTo Q nm Q.length : Nat) : Int), (0 : Int))) := Lib.hid (by rw [E1.out, if_pos ⟨hw, h0⟩])
            generalize hz : lastTo Q nm Q.length = z at *
            have HZ := Lib.hid hz
            clear hz
            have t2 : ((z : Int) == 0) = false := by rw [beq_eq_false_iff_ne]; omega
            go_enter Tryd.func29, Tryd.ntmps29
            go_wp2_with fail
            refine (sDict_any _ _ _ HV.out).mono ?_
            rintro e w1 ⟨rfl, hb⟩
            rw [hd]
            go_wp2_with fail
            refine (sWordIn_any _ _ HN.out).mono ?_
            rintro e w' ⟨rfl, rfl⟩
            rw [hw]
            go_wp2_with fail
            refine (sFind_any _ _ _ _ (wds_below HV.out hb) HS.out (by omega)).mono ?_
            rintro e w2 ⟨rfl, hb2⟩
            rw [HZ.out]
            go_wp2
            go_ret2
            exact ⟨nums_eq E.out, below_step hb hb2⟩

end Go.Proofs.YtdinnhebaldnaaaDoor
