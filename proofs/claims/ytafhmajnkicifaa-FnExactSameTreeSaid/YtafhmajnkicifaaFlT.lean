/- SameTree: the program. -/
import Derived.Test.YtafhmajnkicifaaFlE
import Derived.Test.YtafhmajnkicifaaFlO
import Derived.Test.YtafhmajnkicifaaFlS
namespace Go.Proofs.Ytafhmajnkicifaa
open Go.RowKit
set_option linter.unusedVariables false
set_option linter.unusedSimpArgs false

/-- Two trees have items, and the same. -/
def SameP (d : Nat) (L M : List Nd) : Prop := (itemsC d L).2 = 0 ∧ (itemsC d M).2 = 0 ∧ (itemsC d L).1 = (itemsC d M).1

theorem itemsC_ok {d : Nat} {L : List Nd} : (itemsC d L).2 = 0 ↔ ¬ 4096 < L.length ∧ ¬ 60 < L.length ∧ fitT d 9 L = true := by
  unfold itemsC
  by_cases h1 : 4096 < L.length
  · rw [if_pos h1]; simp [h1]
  · rw [if_neg h1]
    by_cases h2 : 60 < L.length
    · rw [if_pos h2]; simp [h1, h2]
    · rw [if_neg h2]
      by_cases h3 : fitT d 9 L = true
      · rw [if_pos h3]; simp [h1, h2, h3]
      · rw [if_neg h3]; simp [h1, h2, h3]

theorem itemsC_it {d : Nat} {L : List Nd} (h : (itemsC d L).2 = 0) : (itemsC d L).1 = itT d L := by
  obtain ⟨h1, h2, h3⟩ := itemsC_ok.1 h
  unfold itemsC
  rw [if_neg h1, if_neg h2, if_pos h3]

theorem sameP_iff {d : Nat} {L M : List Nd} (d1 : DepB d L) (d2 : DepB d M) : SameP d L M ↔ (¬ 4096 < L.length ∧ ¬ 60 < L.length ∧ fitT d 9 L = true) ∧ (¬ 4096 < M.length ∧ ¬ 60 < M.length ∧ fitT d 9 M = true) ∧ L = M := by
  unfold SameP
  rw [itemsC_ok, itemsC_ok]
  refine and_congr_right fun h1 => and_congr_right fun h2 => ?_
  rw [itemsC_it (itemsC_ok.2 h1), itemsC_it (itemsC_ok.2 h2)]
  have k1 := h1.2.2
  have k2 := h2.2.2
  unfold fitT at k1 k2
  simp at k1 k2
  exact ⟨fun e => itT_inj k1.1 k2.1 d1 d2 e, fun e => by rw [e]⟩

set_option maxRecDepth 100000 in
set_option maxHeartbeats 2000000 in
theorem iSameTree_any (d : Nat) (u v : Value) (L M : List Nd) (w : World) (hu : Nds d w u L) (hv : Nds d w v M) :
    Calls Try.prog 12 #[u, v] w (SamT (SameP d L M) w) := by
  have HU := Lib.hid hu
  have HV := Lib.hid hv
  have C1 := Lib.hid (iItems_any d u L w hu)
  have C2 : Hid (∀ W, Nds d W v M → Calls Try.prog 10 #[v] W (ItemsO d M W)) := Lib.hid fun W h => iItems_any d v M W h
  have SP : Hid (SameP d L M ↔ (itemsC d L).2 = 0 ∧ (itemsC d M).2 = 0 ∧ (itemsC d L).1 = (itemsC d M).1) := Lib.hid Iff.rfl
  unfold ItemsO at C1 C2
  generalize itemsC d L = pl at *
  generalize itemsC d M = pm at *
  obtain ⟨r, r1⟩ := pl
  obtain ⟨s, s1⟩ := pm
  simp only at *
  obtain ⟨A, n, c, rfl⟩ : ∃ A n c, u = .slice A n c := by obtain ⟨_, A, c, e⟩ := nds_form hu; exact ⟨A, _, c, e⟩
  obtain ⟨B, m, c2, rfl⟩ : ∃ A n c, v = .slice A n c := by obtain ⟨_, A, c, e⟩ := nds_form hv; exact ⟨A, _, c, e⟩
  clear hu hv
  go_enter Try.func12, Try.ntmps12
  go_wp2_with fail
  refine C1.out.mono ?_
  rintro e w1 ⟨v1, rfl, h1, b1⟩
  have R1 := Lib.hid h1
  have B1 := Lib.hid b1
  clear h1 b1
  go_wp2_with fail
  refine (C2.out _ (nds_below HV.out B1.out)).mono ?_
  rintro e w2 ⟨v2, rfl, h2, b2⟩
  have R2 := Lib.hid h2
  have R12 := Lib.hid (irow_below R1.out b2)
  have B2 := Lib.hid (below_step B1.out b2)
  clear h2 b2 R1
  by_cases hr : r1 = 0
  · have tr : (r1 == 0) = true := by simp [hr]
    by_cases hs : s1 = 0
    · have ts : (s1 == 0) = true := by simp [hs]
      have HR := Lib.hid hr
      have HS := Lib.hid hs
      clear hr hs
      go_wp2_with fail
      refine (slEqualI_any _ _ r s _ (irow_its R12.out) (irow_its R2.out)).mono ?_
      rintro e w3 ⟨t, rfl, ht, b3⟩
      have HT := Lib.hid ht
      have B3 := Lib.hid (below_step B2.out b3)
      clear ht b3
      go_wp2
      go_ret
      refine ⟨t, by first | rfl | simp, ?_, B3.out⟩
      rw [SP.out, HT.out]
      exact ⟨fun q => ⟨HR.out, HS.out, q⟩, fun q => q.2.2⟩
    · have ts : (s1 == 0) = false := by simp [hs]
      have NO : Hid (¬ SameP d L M) := Lib.hid (fun h => hs (SP.out.1 h).2.1)
      clear hr hs
      go_wp2
      go_ret
      exact samT_no NO.out B2.out
  · have tr : (r1 == 0) = false := by simp [hr]
    have NO : Hid (¬ SameP d L M) := Lib.hid (fun h => hr (SP.out.1 h).1)
    clear hr
    go_wp2
    go_ret
    exact samT_no NO.out B2.out

end Go.Proofs.Ytafhmajnkicifaa
