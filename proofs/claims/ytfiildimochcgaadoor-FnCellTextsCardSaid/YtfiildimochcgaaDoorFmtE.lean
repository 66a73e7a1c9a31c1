/- What impl.CellText gives. -/
import Derived.Test.YtfiildimochcgaaDoorFmtD
import Derived.Test.YtfiildimochcgaaDoorReadA
namespace Go.Proofs.YtfiildimochcgaaDoor
open Go.RowKit
set_option linter.unusedVariables false
set_option linter.unusedSimpArgs false

set_option maxRecDepth 100000 in
set_option maxHeartbeats 1000000 in
theorem cellText_any (n base : Int) (w : World) (ht : Tabs w) :
    Calls Tryd.prog 9 #[.int .i64 n, .int .i64 base] w fun e w' => e = .returned (.tuple #[.string ⟨(ctL upD n base).toArray⟩, .int .i64 (ctC n base)]) ∧ Below w.heap.size w w' := by
  have HT := Lib.hid ht
  clear ht
  cases hn : cellB n
  · have E := Lib.hid (ct_no (D := upD) (base := base) (.inl hn))
    go_enter Tryd.func9, Tryd.ntmps9
    go_wp2_with (first | (go_at_call 18; refine (cellOK_any _ _).mono ?_; rintro e w' ⟨rfl, rfl⟩) | (go_at_call 19; refine (baseOK_any _ _).mono ?_; rintro e w' ⟨rfl, rfl⟩))
    go_ret2
    exact ⟨ret_si (by rw [E.out.2]) E.out.1.symm, Below.refl _ _⟩
  · cases hb : inB base 2 16
    · have E := Lib.hid (ct_no (D := upD) (n := n) (.inr hb))
      go_enter Tryd.func9, Tryd.ntmps9
      go_wp2_with (first | (go_at_call 18; refine (cellOK_any _ _).mono ?_; rintro e w' ⟨rfl, rfl⟩) | (go_at_call 19; refine (baseOK_any _ _).mono ?_; rintro e w' ⟨rfl, rfl⟩))
      go_ret2
      exact ⟨ret_si (by rw [E.out.2]) E.out.1.symm, Below.refl _ _⟩
    · have b12 : 2 ≤ base ∧ base ≤ 16 := by unfold inB at hb; simpa using hb
      obtain ⟨b, rfl⟩ := Int.eq_ofNat_of_zero_le (by omega : 0 ≤ base)
      have b1 : 2 ≤ b := by omega
      have b2 : b ≤ 16 := by omega
      have nn := cellB_true.1 hn
      have E := Lib.hid (ct_yes (D := upD) hn hb)
      have U := Lib.hid (upper_text b1 b2 n)
      have LN := Lib.hid (text_len b1 nn.1 nn.2 (D := lowD))
      have AS := Lib.hid (text_ascii b1 b2 n)
      have T := Lib.hid (fmt_any n b w b1 b2 nn.1 nn.2 HT.out)
      obtain ⟨n1, n2⟩ := nn
      clear b12
      go_enter Tryd.func9, Tryd.ntmps9
      go_wp2_with (first | (go_at_call 18; refine (cellOK_any _ _).mono ?_; rintro e w' ⟨rfl, rfl⟩) | (go_at_call 19; refine (baseOK_any _ _).mono ?_; rintro e w' ⟨rfl, rfl⟩))
      refine T.out.mono ?_
      rintro e w1 ⟨rfl, hb1⟩
      have B1 := Lib.hid hb1
      clear hb1
      generalize textL lowD b n = l at *
      go_wp2_with fail
      refine (Tryd.strings_ToUpper_ascii ⟨l.toArray⟩ _ (by have := LN.out; show l.toArray.size ≤ _; simp; omega) (fun j c hj => AS.out c (by
        have h2 : l[j]? = some c := by simpa using hj
        exact List.mem_of_getElem? h2))).mono ?_
      rintro e w2 ⟨rfl, hb2⟩
      have B2 := Lib.hid hb2
      clear hb2
      go_wp2
      go_ret2
      exact ⟨ret_si (by rw [E.out.2, Int.toNat_natCast, ← U.out]) E.out.1.symm, B1.out.trans (B2.out.mono B1.out.size)⟩

end Go.Proofs.YtfiildimochcgaaDoor
