/- A word that is found has a word's name: so impl and spec find the same. -/
import Derived.Test.YtdinnhebaldnaaaDoorFindC
namespace Go.Proofs.YtdinnhebaldnaaaDoor
open Go.RowKit
set_option linter.unusedVariables false
set_option linter.unusedSimpArgs false

theorem seen_up (c : UInt8) : seenB (upB c) = seenB c := by
  by_cases h : 97 ≤ c.toNat ∧ c.toNat ≤ 122
  · have := upB_yes h.1 h.2
    unfold seenB inB
    rw [this]
    have e1 : decide ((33 : Int) ≤ ((c.toNat - 32 : Nat) : Int) ∧ ((c.toNat - 32 : Nat) : Int) ≤ 126) = true := decide_eq_true (by omega)
    have e2 : decide ((33 : Int) ≤ (c.toNat : Int) ∧ (c.toNat : Int) ≤ 126) = true := decide_eq_true (by omega)
    rw [e1, e2]
  · rw [upB_no h]

theorem word_up (l : List UInt8) : wordL (upL l) = wordL l := by
  have e : (upL l).all seenB = l.all seenB := by
    unfold upL
    induction l with
    | nil => rfl
    | cons c r ih => simp only [List.map_cons, List.all_cons, seen_up]; rw [ih]
  unfold wordL
  rw [e]
  unfold upL
  rw [List.length_map]

theorem kname_word {j : Nat} (h : j < 83) : wordL (kname j).data.toList = true := by
  have hall : ∀ j < 83, wordL (knames.getD j []) = true := by decide +kernel
  have := hall j h
  unfold kname
  simpa using this

theorem dict_word {Q : List Wd} (h : dictB Q = true) : ∀ k (hk : k < Q.length), wordL Q[k].n.data.toList = true := by
  obtain ⟨_, h2, h3⟩ := dict_is h
  intro k hk
  rcases Nat.lt_or_ge k 83 with h83 | h83
  · rw [kernB_at h2 hk h83]
    exact kname_word h83
  · exact user_word (h3 k hk h83)

theorem hit_word {nm : ByteArray} {x : Wd} (h : hitB nm x = true) (hx : wordL x.n.data.toList = true) : wordL nm.data.toList = true := by
  unfold hitB at h
  rw [Bool.and_eq_true, beq_iff_eq] at h
  rw [← word_up, ← h.2, word_up]
  exact hx

theorem last_word {Q : List Wd} (h : dictB Q = true) {nm : ByteArray} (hn : wordL nm.data.toList = false) : ∀ k, k ≤ Q.length → lastTo Q nm k = 0 := by
  intro k
  induction k with
  | zero => intro _; rfl
  | succ k ih =>
    intro hk
    have hlt : k < Q.length := by omega
    cases hh : hitB nm Q[k]
    · rw [lastTo_miss hlt hh]; exact ih (by omega)
    · have := hit_word hh (dict_word h k hlt)
      rw [hn] at this; cases this

theorem iFind_any (v : Value) (Q : List Wd) (nm : ByteArray) (w : World) (hv : Wds w v Q) (hn : nm.size ≤ maxLen) (ht : Tabs w) :
    Calls Tryd.prog 19 #[v, .string nm] w (NumsOf w (findF Q nm)) :=
  iFindWord_any v Q nm w hv hn ht fun hd hw => last_word hd hw _ (Nat.le_refl _)

end Go.Proofs.YtdinnhebaldnaaaDoor
