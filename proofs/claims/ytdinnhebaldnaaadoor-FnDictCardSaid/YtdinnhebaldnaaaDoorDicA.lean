/- What an added word comes to. -/
import Derived.Test.YtdinnhebaldnaaaDoorDrE
import Derived.Test.YtdinnhebaldnaaaDoorFindD
namespace Go.Proofs.YtdinnhebaldnaaaDoor
open Go.RowKit
set_option linter.unusedVariables false
set_option linter.unusedSimpArgs false

theorem kern_all {us : List Wd} (hl : us.length ≤ 20) (hu : ∀ x ∈ us, userB x = true) : dictB (kernW ++ us) = true := by
  have hk := kernW_len
  unfold dictB
  have e1 : decide ((kernW ++ us).length ≤ 103) = true := decide_eq_true (by rw [List.length_append, hk]; omega)
  have e2 : kernB (kernW ++ us) = true := by
    unfold kernB
    rw [List.take_append_of_le_length (by rw [hk]; exact Nat.le_refl _), List.take_of_length_le (by rw [hk]; exact Nat.le_refl _)]
    simp
  have e3 : ((kernW ++ us).drop 83).all userB = true := by
    have : (kernW ++ us).drop 83 = us := by rw [← hk, List.drop_left]
    rw [this, List.all_eq_true]
    exact hu
  rw [e1, e2, e3]
  rfl

theorem drawn_len {Q : List Wd} (h : DrawnQ Q) : 83 ≤ Q.length ∧ Q.length ≤ 88 := by
  obtain ⟨us, rfl, hl, _⟩ := h
  rw [List.length_append, kernW_len]
  omega

theorem drawn_dict {Q : List Wd} (h : DrawnQ Q) : dictB Q = true := by
  obtain ⟨us, rfl, hl, hu⟩ := h
  exact kern_all (by omega) fun x hx => (hu x hx).1

theorem drawn_more {Q : List Wd} (h : DrawnQ Q) {x : Wd} (hx : Drawn1 x) : ∃ us, Q ++ [x] = kernW ++ us ∧ us.length ≤ 6 ∧ ∀ y ∈ us, Drawn1 y := by
  obtain ⟨us, rfl, hl, hu⟩ := h
  refine ⟨us ++ [x], by rw [List.append_assoc], by rw [List.length_append]; simp; omega, fun y hy => ?_⟩
  rcases List.mem_append.1 hy with hy | hy
  · exact hu y hy
  · rw [List.mem_singleton.1 hy]; exact hx

theorem more_dict {Q : List Wd} (h : DrawnQ Q) {x : Wd} (hx : Drawn1 x) : dictB (Q ++ [x]) = true := by
  obtain ⟨us, e, hl, hu⟩ := drawn_more h hx
  rw [e]
  exact kern_all (by omega) fun x hx => (hu x hx).1

theorem drawn_add {Q : List Wd} (h : DrawnQ Q) {x : Wd} (hx : Drawn1 x) : addF Q x = (Q ++ [x], (Q.length : Int) + 1, 0) := by
  have hl := drawn_len h
  unfold addF
  rw [if_neg (by omega), if_neg (by rw [drawn_dict h, hx.1]; simp), if_neg (by omega)]

theorem up_up (s : ByteArray) : upS (upS s) = upS s := by
  have e : ∀ c, upB (upB c) = upB c := by
    intro c
    by_cases h : 97 ≤ c.toNat ∧ c.toNat ≤ 122
    · have := upB_yes h.1 h.2
      exact upB_no (by omega)
    · rw [upB_no h, upB_no h]
  unfold upS upL
  congr 2
  simp [e]

theorem up_list (s : ByteArray) : (upS s).data.toList = upL s.data.toList := by unfold upS; simp

theorem hit_self {x : Wd} (hx : Drawn1 x) : hitB x.n x = true := by
  have hk : (x.k == 3) = false := by
    have h := hx.1
    unfold userB valB at h
    rw [Bool.and_eq_true] at h
    by_cases e : x.k = 3
    · rw [e] at h; simp at h
    · simp [e]
  exact hit_key.2 ⟨rfl, hk⟩

theorem hit_up {nm : ByteArray} {x : Wd} (h : hitB nm x = true) : hitB (upS nm) x = true := by
  rw [hit_key] at *
  exact ⟨by rw [up_up]; exact h.1, h.2⟩

theorem find_last {Q : List Wd} (h : DrawnQ Q) {x : Wd} (hx : Drawn1 x) {nm : ByteArray} (hs : nm.size ≤ 12) (hw : wordL nm.data.toList = true) (hh : hitB nm x = true) : findF (Q ++ [x]) nm = ((Q.length : Int) + 1, 0) := by
  have hl := drawn_len h
  have hlen : (Q ++ [x]).length = Q.length + 1 := by simp
  have hlast : lastTo (Q ++ [x]) nm (Q.length + 1) = Q.length + 1 := lastTo_hit (by rw [hlen]; omega) (by rw [List.getElem_append_right (Nat.le_refl _)]; simpa using hh)
  unfold findF
  rw [if_neg (by rw [hlen]; omega), if_neg (by rw [more_dict h hx]; simp), hlen, hlast, if_pos ⟨hw, by omega⟩]
  rfl

theorem find_name {Q : List Wd} (h : DrawnQ Q) {x : Wd} (hx : Drawn1 x) : findF (Q ++ [x]) x.n = ((Q.length : Int) + 1, 0) :=
  find_last h hx (by have := drawn_size hx; omega) (user_word hx.1) (hit_self hx)

theorem find_upper {Q : List Wd} (h : DrawnQ Q) {x : Wd} (hx : Drawn1 x) : findF (Q ++ [x]) (upS x.n) = ((Q.length : Int) + 1, 0) :=
  find_last h hx (by rw [upS_size]; have := drawn_size hx; omega) (by rw [up_list, word_up]; exact user_word hx.1) (hit_up (hit_self hx))

/-- '(LIT)'. -/
def litN : ByteArray := ⟨#[40, 76, 73, 84, 41]⟩

theorem lit_kern {j : Nat} (h : j < 83) : hitB litN (kernAt j) = false := by
  have hall : ∀ j < 83, (((kernAt j).k != 3) && upL (knames.getD j []) == [40, 76, 73, 84, 41]) = false := by decide +kernel
  have e := hall j h
  unfold hitB
  have h1 : (kernAt j).n.data.toList = knames.getD j [] := by unfold kernAt kname; simp
  have h2 : upL litN.data.toList = [40, 76, 73, 84, 41] := by decide +kernel
  rw [h1, h2]
  exact e

theorem lit_drawn {x : Wd} (hx : Drawn1 x) : hitB litN x = false := by
  obtain ⟨_, p, hp, hn⟩ := hx
  have hall : ∀ q ∈ unames, (upL q == [40, 76, 73, 84, 41]) = false := by decide +kernel
  have h1 : x.n.data.toList = p := by rw [hn]
  have h2 : upL litN.data.toList = [40, 76, 73, 84, 41] := by decide +kernel
  unfold hitB
  rw [h1, h2, hall p hp, Bool.and_false]

theorem lit_none {us : List Wd} (hu : ∀ x ∈ us, Drawn1 x) : ∀ k, k ≤ (kernW ++ us).length → lastTo (kernW ++ us) litN k = 0 := by
  intro k
  induction k with
  | zero => intro _; rfl
  | succ k ih =>
    intro hk
    have hlt : k < (kernW ++ us).length := by omega
    rw [lastTo_miss hlt ?_]
    · exact ih (by omega)
    · by_cases h : k < kernW.length
      · rw [List.getElem_append_left h, kernW_at]
        exact lit_kern (by rw [kernW_len] at h; exact h)
      · rw [List.getElem_append_right (by omega)]
        exact lit_drawn (hu _ (List.getElem_mem _))

theorem find_lit {Q : List Wd} (h : DrawnQ Q) {x : Wd} (hx : Drawn1 x) : findF (Q ++ [x]) litN = (0, 10) := by
  have hd := more_dict h hx
  have hl := drawn_len h
  have hs : ¬ 65536 < litN.size := by decide
  have hlen : (Q ++ [x]).length = Q.length + 1 := by simp
  unfold findF
  rw [if_neg (by rw [hlen]; omega), if_neg (by rw [hd]; simp)]
  obtain ⟨us, e, _, hu⟩ := drawn_more h hx
  rw [e, lit_none hu _ (Nat.le_refl _)]
  exact if_neg (by simp)

theorem more_same {Q : List Wd} (h : DrawnQ Q) {x : Wd} (hx : Drawn1 x) : ksameB (Q ++ [x]) = true := by
  have hl := drawn_len h
  unfold ksameB
  rw [(dict_is (more_dict h hx)).2.1, decide_eq_true (by simp; omega)]
  rfl

theorem drawn_same {Q : List Wd} (h : DrawnQ Q) : ksameB Q = true := by
  have hl := drawn_len h
  unfold ksameB
  rw [(dict_is (drawn_dict h)).2.1, decide_eq_true (by omega)]
  rfl

end Go.Proofs.YtdinnhebaldnaaaDoor
