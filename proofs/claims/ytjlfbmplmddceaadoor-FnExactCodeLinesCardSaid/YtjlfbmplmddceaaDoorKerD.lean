/- spec's dictionary: DictOK, KernelSame, KernelWords, FindWord, TokenOK. -/
import Derived.Test.YtjlfbmplmddceaaDoorKerC
namespace Go.Proofs.YtjlfbmplmddceaaDoor
open Go.RowKit
set_option linter.unusedVariables false
set_option linter.unusedSimpArgs false

/-- Is the list a dictionary? -/
def dictB (Q : List Wd) : Bool := decide (Q.length ≤ 103) && kernB Q && (Q.drop 83).all userB

/-- The words behind the kernel, up to the first k words of the list, are a script's. -/
def UserTo (Q : List Wd) (k : Nat) : Prop := ((Q.take k).drop 83).all userB = true

theorem userTo_start (Q : List Wd) : UserTo Q 83 := by
  unfold UserTo
  rw [List.drop_of_length_le (by rw [List.length_take]; omega)]
  rfl

theorem userTo_next {Q : List Wd} {k : Nat} (h : UserTo Q k) (hk : k < Q.length) (h83 : 83 ≤ k) (e : userB Q[k] = true) : UserTo Q (k + 1) := by
  unfold UserTo at *
  rw [List.take_succ_eq_append_getElem hk, List.drop_append_of_le_length (by rw [List.length_take]; omega), List.all_append, h]
  simp [e]

theorem dict_end {Q : List Wd} (h : UserTo Q Q.length) (hl : Q.length ≤ 103) (hk : kernB Q = true) : dictB Q = true := by
  unfold UserTo at h
  rw [List.take_length] at h
  unfold dictB
  rw [hk, h, decide_eq_true hl]
  rfl

theorem dict_not {Q : List Wd} {k : Nat} (hk : k < Q.length) (h83 : 83 ≤ k) (e : userB Q[k] = false) : dictB Q = false := by
  unfold dictB
  have : (Q.drop 83).all userB = false := by
    rw [List.all_eq_false]
    refine ⟨Q[k], ?_, by simp [e]⟩
    rw [List.mem_iff_getElem]
    refine ⟨k - 83, by rw [List.length_drop]; omega, ?_⟩
    rw [List.getElem_drop]
    congr 1
    omega
  rw [this, Bool.and_false]

theorem dict_long {Q : List Wd} (h : 103 < Q.length) : dictB Q = false := by
  unfold dictB
  rw [decide_eq_false (by omega)]
  rfl

theorem dict_kern {Q : List Wd} (h : kernB Q = false) : dictB Q = false := by
  unfold dictB
  rw [h, Bool.and_false]
  rfl

theorem dict_is {Q : List Wd} (h : dictB Q = true) : Q.length ≤ 103 ∧ kernB Q = true ∧ ∀ k (hk : k < Q.length), 83 ≤ k → userB Q[k] = true := by
  refine ⟨?_, ?_, fun k hk h83 => ?_⟩
  · rcases Nat.lt_or_ge 103 Q.length with hl | hl
    · rw [dict_long hl] at h; cases h
    · exact hl
  · cases hk : kernB Q
    · rw [dict_kern hk] at h; cases h
    · rfl
  · cases hu : userB Q[k]
    · rw [dict_not hk h83 hu] at h; cases h
    · rfl

theorem wordL_size {s : ByteArray} (h : wordL s.data.toList = true) : 1 ≤ s.size ∧ s.size ≤ 12 := Classical.byContradiction fun hn => by rw [wordL_len hn] at h; cases h

theorem user_word {x : Wd} (h : userB x = true) : wordL x.n.data.toList = true := by
  unfold userB at h
  rw [Bool.and_eq_true] at h
  exact h.1

theorem dict_names {Q : List Wd} (h : dictB Q = true) : ∀ k (hk : k < Q.length), Q[k].n.size ≤ 12 := by
  obtain ⟨_, h2, h3⟩ := dict_is h
  intro k hk
  rcases Nat.lt_or_ge k 83 with h83 | h83
  · rw [kernB_at h2 hk h83]
    have := kname_small k
    show (kname k).size ≤ 12
    omega
  · exact (wordL_size (user_word (h3 k hk h83))).2

/-- A word in a list, where it is owned or came in. -/
theorem wds_word {w : World} {g cap : Nat} {Q : List Wd} (h : Wds w (.slice (some ⟨g, 0, none⟩) Q.length cap) Q) (k : Nat) (hk : k < Q.length) : WdAt w ⟨g, k * 3, none⟩ Q[k] := by
  obtain ⟨_, _, A, c, e, _, hc⟩ := h
  obtain ⟨g', ha, hd⟩ := hc (by omega)
  subst ha
  simp only [Value.slice.injEq, Option.some.injEq, Addr.mk.injEq, and_true, true_and] at e
  obtain ⟨rfl, _⟩ := e
  exact hd k hk

theorem wds_block {w : World} {A : Option Addr} {cap : Nat} {Q : List Wd} (h : Wds w (.slice A Q.length cap) Q) (hp : 0 < Q.length) : ∃ g, A = some ⟨g, 0, none⟩ := by
  obtain ⟨_, _, A', c, e, _, hc⟩ := h
  obtain ⟨g', ha, hd⟩ := hc hp
  simp only [Value.slice.injEq, true_and] at e
  exact ⟨g', by rw [e.1, ha]⟩

theorem wds_form {w : World} {v : Value} {Q : List Wd} (h : Wds w v Q) : ∃ A cap, v = .slice A Q.length cap ∧ Q.length ≤ cap ∧ Q.length ≤ maxLen ∧ Names Q := by
  obtain ⟨h1, h2, A, c, e, h3, _⟩ := h
  exact ⟨A, c, e, h3, h1, h2⟩

set_option maxRecDepth 100000 in
set_option maxHeartbeats 4000000 in
theorem sDict_any (v : Value) (Q : List Wd) (w : World) (hv : Wds w v Q) :
    Calls Tryd.prog 31 #[v] w fun e w' => e = .returned (.bool (dictB Q)) ∧ Below w.heap.size w w' := by
  have HV := Lib.hid hv
  obtain ⟨A, ca, rfl, hcap, hl, hn⟩ := wds_form hv
  have HN := Lib.hid hn
  unfold maxLen at hl
  clear hn hv
  by_cases h103 : 103 < Q.length
  · have E := Lib.hid (dict_long h103)
    have t0 : decide ((103 : Int) < (Q.length : Int)) = true := by simp; omega
    go_enter Tryd.func31, Tryd.ntmps31
    go_wp2
    go_ret
    exact ⟨ret_bool E.out.symm, Below.refl _ _⟩
  · have t0 : decide ((103 : Int) < (Q.length : Int)) = false := by simp; omega
    cases hk : kernB Q
    · have E := Lib.hid (dict_kern hk)
      go_enter Tryd.func31, Tryd.ntmps31
      go_wp2_with fail
      refine (sKSame_any _ _ _ HV.out).mono ?_
      rintro e w1 ⟨rfl, hb⟩
      rw [hk]
      go_wp2
      go_ret
      exact ⟨ret_bool E.out.symm, hb⟩
    · have h83 := kernB_len hk
      have HK := Lib.hid hk
      go_enter Tryd.func31, Tryd.ntmps31
      go_wp2_with fail
      refine (sKSame_any _ _ _ HV.out).mono ?_
      rintro e w1 ⟨rfl, hb⟩
      rw [hk]
      have B1 := Lib.hid hb
      clear hb hk
      go_wp2
      go_loopw [3] (fun i wr => ∃ k : Nat, 83 ≤ k ∧ k ≤ Q.length ∧ i = .int .i64 k ∧ UserTo Q k ∧ Below w.heap.size w wr) (fun i _ => Q.length - (intOf i).toNat)
      case atStart => exact ⟨83, Nat.le_refl _, h83, rfl, userTo_start Q, B1.out⟩
      case round =>
        obtain ⟨k, hk83, hk, rfl, hu, hb⟩ := hrel
        have HU := Lib.hid hu
        have HB := Lib.hid hb
        clear hu hb
        by_cases hlt : k < Q.length
        · obtain ⟨ga, rfl⟩ := wds_block HV.out (by omega)
          have hxs : Q[k].n.size ≤ maxLen := HN.out _ (List.getElem_mem hlt)
          have HX := Lib.hid hxs
          obtain ⟨c0, c1, c2⟩ := wds_word (wds_below HV.out HB.out) k hlt
          have NX := Lib.hid (userTo_next HU.out hlt hk83)
          have NN := Lib.hid (dict_not hlt hk83)
          clear hxs
          generalize Q[k] = x at *
          simp only [] at c0 c1 c2
          go_wp2_with fail
          refine (sUser_any x _ HX.out).mono ?_
          rintro e w2 ⟨rfl, hb⟩
          have B2 := Lib.hid (below_stepW HB.out hb)
          clear hb c0 c1 c2
          cases hu : userB x
          · have E := Lib.hid (NN.out hu)
            clear hu
            go_wp2
            go_ret
            exact ⟨ret_bool E.out.symm, B2.out⟩
          · have E := Lib.hid (NX.out hu)
            clear hu
            go_wp2
            go_roundw
            case rel => exact ⟨k + 1, by omega, by omega, by go_num, E.out, B2.out⟩
            case measure => simp [intOf]; omega
        · obtain rfl : k = Q.length := by omega
          have E := Lib.hid (dict_end HU.out (by omega) HK.out)
          clear hlt
          go_wp2
          go_ret
          exact ⟨ret_bool E.out.symm, HB.out⟩

theorem dict_huge {Q : List Wd} (h : 4096 < Q.length) : dictB Q = false := dict_long (by omega)

/-- KernelSame: a list that is too long is none. -/
def ksameB (Q : List Wd) : Bool := decide (Q.length ≤ 4096) && kernB Q

/-- Is the number, at this list, that of a word that a script may run? -/
def tokB (Q : List Wd) (n : Int) : Bool := decide (1 ≤ n ∧ n ≤ Q.length) && ((Q.getD (n - 1).toNat noWd).k != 3 && (Q.getD (n - 1).toNat noWd).k != 5)

theorem tok_out {Q : List Wd} {n : Int} (h : ¬ (1 ≤ n ∧ n ≤ Q.length)) : tokB Q n = false := by unfold tokB; rw [decide_eq_false h]; rfl

theorem tok_in {Q : List Wd} {k : Nat} (h : k < Q.length) : tokB Q ((k : Int) + 1) = (Q[k].k != 3 && Q[k].k != 5) := by
  unfold tokB
  rw [decide_eq_true (by omega), show ((k : Int) + 1 - 1).toNat = k by omega, List.getD_eq_getElem?_getD, List.getElem?_eq_getElem h]
  rfl

end Go.Proofs.YtjlfbmplmddceaaDoor
