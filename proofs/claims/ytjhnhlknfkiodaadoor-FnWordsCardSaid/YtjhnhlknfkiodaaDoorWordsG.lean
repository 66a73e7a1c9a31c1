/- The law on the words of a line, walked: at two codes that are not too long. -/
import Derived.Test.YtjhnhlknfkiodaaDoorWordsF
import Derived.Test.YtjhnhlknfkiodaaDoorUpC
import Derived.Test.YtjhnhlknfkiodaaDoorLineD
namespace Go.Proofs.YtjhnhlknfkiodaaDoor
open Go.RowKit
set_option linter.unusedVariables false
set_option linter.unusedSimpArgs false

theorem lineGo_len (len : Nat) (zs : List Int) : ∀ (i : Nat) (s : DSt) (t : List UInt8), (lineGo len zs i s t).length ≤ t.length + 6 * i := by
  intro i
  induction i with
  | zero => intro s t; unfold lineGo; omega
  | succ i ih =>
    intro s t
    unfold lineGo
    have h1 := ih (dSmall len zs 4 (dSmall len zs 16 s).2).2 (t ++ (tokL.getD (dSmall len zs 16 s).1 [] ++ gapL.getD (dSmall len zs 4 (dSmall len zs 16 s).2).1 []))
    have h2 := tok_len (dSmall len zs 16 s).1
    have h3 := gap_len (dSmall len zs 4 (dSmall len zs 16 s).2).1
    simp only [List.length_append] at h1
    omega

theorem draw_len (len : Nat) (zs : List Int) : (drawL len zs).length ≤ 1000 := by
  unfold drawL
  split
  · have := dSmall_lt len zs (dSmall len zs 30 (0, (len : Int) % 1000)).2 (by omega : 0 < 2)
    rw [List.length_replicate]; omega
  · have h1 := lineGo_len len zs (dSmall len zs (lineRoom len) (dSmall len zs 30 (0, (len : Int) % 1000)).2).1 (dSmall len zs (lineRoom len) (dSmall len zs 30 (0, (len : Int) % 1000)).2).2 []
    have h2 : lineRoom len ≤ 15 := by unfold lineRoom; omega
    have h3 := dSmall_lt len zs (dSmall len zs 30 (0, (len : Int) % 1000)).2 (by unfold lineRoom; omega : 0 < lineRoom len)
    simp only [List.length_nil] at h1
    omega

theorem head_text (l : List UInt8) (k : Nat) : (⟨l.toArray⟩ : ByteArray).extract 0 k = ⟨(l.take k).toArray⟩ := by
  rw [Lib.extract_eq]; simp

set_option maxRecDepth 100000 in
set_option maxHeartbeats 1000000 in
theorem lineDrawn_any (a : Option Addr) (len cap : Nat) (zs : List Int) (w : World) (h : BRow w a len cap zs) (hl : len ≤ 1048576) :
    Calls Tryd.prog 5 #[.slice a len cap] w (LineTx w ((drawL len zs).take 400)) := by
  have R := Lib.hid h
  have D := Lib.hid fun W (hW : BRow W a len cap zs) => drawLine_any a len cap zs W hW hl
  have dl := draw_len len zs
  clear h
  generalize drawL len zs = l at *
  have hls := str_size l
  have X := Lib.hid (head_text l)
  by_cases h4 : l.length ≤ 400
  · have E : Hid (l.take l.length = l.take 400) := Lib.hid (by rw [List.take_of_length_le (Nat.le_refl _), List.take_of_length_le h4])
    go_enter Tryd.func5, Tryd.ntmps5
    go_wp2_with fail
    refine (D.out _ R.out).mono ?_
    rintro e w1 ⟨rfl, hb1⟩
    have B1 := Lib.hid hb1
    clear hb1
    go_wp2_with fail
    refine (D.out _ (brow_below R.out B1.out)).mono ?_
    rintro e w2 ⟨rfl, hb2⟩
    have B2 := Lib.hid (B1.out.trans (hb2.mono B1.out.size))
    clear hb2
    go_wp2
    go_ret
    exact ⟨congrArg (fun s => Ending.returned (.string s)) (by rw [X.out, E.out]), B2.out⟩
  · go_enter Tryd.func5, Tryd.ntmps5
    go_wp2_with fail
    refine (D.out _ R.out).mono ?_
    rintro e w1 ⟨rfl, hb1⟩
    have B1 := Lib.hid hb1
    clear hb1
    go_wp2_with fail
    refine (D.out _ (brow_below R.out B1.out)).mono ?_
    rintro e w2 ⟨rfl, hb2⟩
    have B2 := Lib.hid (B1.out.trans (hb2.mono B1.out.size))
    clear hb2
    go_wp2
    go_ret
    exact ⟨congrArg (fun s => Ending.returned (.string s)) (by rw [X.out]), B2.out⟩

set_option maxRecDepth 100000 in
set_option maxHeartbeats 1000000 in
theorem plainWord_any (a : Option Addr) (len cap : Nat) (zs : List Int) (w : World) (h : BRow w a len cap zs) (hl : len ≤ 1048576) :
    Calls Tryd.prog 9 #[.slice a len cap] w (PlainOf w) := by
  have N := Lib.hid (srcS_new h)
  have P := Lib.hid fun W (hS : SrcS W w.heap.size a len cap zs (0, (len : Int) % 1000)) => plainS_any w.heap.size a len cap zs (0, (len : Int) % 1000) W hS (by show 0 < 1000000000; omega)
  have hlt := dSmall_lt len zs (0, (len : Int) % 1000) (by omega : 0 < 42)
  clear h
  generalize dSmall len zs 42 (0, (len : Int) % 1000) = c at *
  have hm : plainL.getD c.1 [] ∈ plainL := by
    have h42 : c.1 < plainL.length := by rw [show plainL.length = 42 from rfl]; exact hlt
    rw [List.getD_eq_getElem?_getD, List.getElem?_eq_getElem h42]
    exact List.getElem_mem _
  have HM := Lib.hid hm
  clear hm
  generalize plainL.getD c.1 [] = p at *
  go_enter Tryd.func9, Tryd.ntmps9
  go_wp2_with fail
  refine (source_any _ _ _ _ (by omega)).mono ?_
  rintro e w' ⟨rfl, rfl⟩
  go_wp2_with fail
  refine (P.out _ N.out).mono ?_
  rintro e w1 ⟨rfl, hs1, hg1⟩
  have B := Lib.hid (below_src _ hg1)
  clear hs1 hg1
  go_wp2
  go_ret
  exact ⟨p, HM.out, rfl, B.out⟩

/-- A plain word between remarks. -/
def qL (p : List UInt8) : List UInt8 := [40, 32, 97, 32, 114, 101, 109, 97, 114, 107, 32, 41, 32] ++ p ++ [32, 92, 32] ++ p ++ [32] ++ p

theorem plain_facts : ∀ p ∈ plainL, lwC (qL p) = 0 ∧ lwL (qL p) = [p] ∧ wordL p = true ∧ sameL p (upO p) = true ∧ sameL p (p ++ [120]) = false ∧ p.length ≤ 10 := by decide +kernel

theorem cat_five (p : List UInt8) : ((((((⟨#[40, 32, 97, 32, 114, 101, 109, 97, 114, 107, 32, 41, 32]⟩ : ByteArray) ++ ⟨p.toArray⟩) ++ ⟨#[32, 92, 32]⟩) ++ ⟨p.toArray⟩) ++ ⟨#[32]⟩) ++ ⟨p.toArray⟩) = ⟨(qL p).toArray⟩ := by
  apply ByteArray.ext; apply Array.ext'; simp [qL]

theorem cat_x (p : List UInt8) : ((⟨p.toArray⟩ : ByteArray) ++ ⟨#[120]⟩) = ⟨(p ++ [120]).toArray⟩ := by
  apply ByteArray.ext; apply Array.ext'; simp

/-- What LineWords leaves at a plain word between remarks. -/
def OneOf (w : World) (p : List UInt8) (e : Ending) (w' : World) : Prop := ∃ g cap, e = .returned (.tuple #[.slice (some ⟨g, 0, none⟩) 1 cap, .int .i64 0]) ∧ w'.cell? ⟨g, 0, none⟩ = some (.string ⟨p.toArray⟩) ∧ Below w.heap.size w w'

theorem lineWords_one (p : List UInt8) (a0 a1 : Addr) (w : World) (hp : p ∈ plainL) (hst : Sents w a0 a1) :
    Calls Tryd.prog 6 #[.string ⟨(qL p).toArray⟩] w (OneOf w p) := by
  obtain ⟨h1, h2, _, _, _, h6⟩ := plain_facts p hp
  refine (lineWords_any ⟨(qL p).toArray⟩ a0 a1 w (by rw [str_size]; unfold qL; simp; omega) hst).mono ?_
  rintro e w' ⟨v, rfl, ho, hb⟩
  rw [show (⟨(qL p).toArray⟩ : ByteArray).data.toList = qL p from rfl, h2] at ho
  rw [show (⟨(qL p).toArray⟩ : ByteArray).data.toList = qL p from rfl, h1]
  obtain ⟨A, cap, rfl, hs⟩ := strs_of_own ho
  obtain ⟨g, rfl, hc⟩ := strs_at hs (k := 0) (by simp)
  exact ⟨g, cap, rfl, hc, hb⟩

theorem sameWord_at (p q : List UInt8) (t : Bool) (w : World) (hp : p.length ≤ 1000) (hq : q.length ≤ 1000) (h : sameL p q = t) :
    Calls Tryd.prog 13 #[.string ⟨p.toArray⟩, .string ⟨q.toArray⟩] w fun e w' => e = .returned (.bool t) ∧ Below w.heap.size w w' := by
  have h2 := sameWord_any ⟨p.toArray⟩ ⟨q.toArray⟩ w (by rw [str_size]; unfold maxLen; omega) (by rw [str_size]; unfold maxLen; omega)
  rw [show (⟨p.toArray⟩ : ByteArray).data.toList = p from rfl, show (⟨q.toArray⟩ : ByteArray).data.toList = q from rfl, h] at h2
  exact h2

theorem wordOK_at (p : List UInt8) (t : Bool) (w : World) (hp : p.length ≤ 1000) (h : wordL p = t) :
    Calls Tryd.prog 12 #[.string ⟨p.toArray⟩] w fun e w' => e = .returned (.bool t) ∧ w = w' := by
  have h2 := wordOK_any ⟨p.toArray⟩ w (by rw [str_size]; unfold maxLen; omega)
  rw [show (⟨p.toArray⟩ : ByteArray).data.toList = p from rfl, h] at h2
  exact h2

theorem upO_len (p : List UInt8) : (upO p).length ≤ p.length := by unfold upO upL; split <;> simp

set_option maxRecDepth 100000 in
set_option maxHeartbeats 4000000 in
theorem words_core (b0 : Option Addr) (len0 : Nat) (cap0 : Nat) (z0 : List Int) (b1 : Option Addr) (len1 : Nat) (cap1 : Nat) (z1 : List Int) (a0 a1 : Addr) (w : World) (g0 : BRow w b0 len0 cap0 z0) (g1 : BRow w b1 len1 cap1 z1) (l0 : len0 ≤ 1048576) (l1 : len1 ≤ 1048576) (hst : Sents w a0 a1) :
    Calls Tryd.prog 3 #[.slice b0 len0 cap0, .slice b1 len1 cap1] w (Fin w) := by
  have HS := Lib.hid hst
  have G0 := Lib.hid g0
  have G1 := Lib.hid g1
  clear hst g0 g1
  have LD := Lib.hid (lineDrawn_any b0 len0 cap0 z0 w G0.out l0)
  have tl : ((drawL len0 z0).take 400).length ≤ 400 := List.length_take_le _ _
  generalize (drawL len0 z0).take 400 = T at *
  have hts := str_size T
  have IM := Lib.hid fun W (h : Sents W a0 a1) => lineWords_any ⟨T.toArray⟩ a0 a1 W (by rw [str_size]; omega) h
  have SP := Lib.hid fun W => sLineWords_any ⟨T.toArray⟩ W (by rw [str_size]; omega)
  unfold LineOf at IM SP
  generalize lwL (⟨T.toArray⟩ : ByteArray).data.toList = L at *
  generalize lwC (⟨T.toArray⟩ : ByteArray).data.toList = c at *
  have EQ : Hid ((L == L) = true) := Lib.hid (by simp)
  go_enter Tryd.func3, Tryd.ntmps3
  go_wp2_with fail
  refine LD.out.mono ?_
  rintro e w1 ⟨rfl, hb1⟩
  have B1 := Lib.hid hb1
  clear hb1
  go_wp2_with fail
  refine (IM.out _ (sents_below HS.out B1.out)).mono ?_
  rintro e w2 ⟨v1, rfl, ho1, hb2⟩
  have B2 := Lib.hid (B1.out.trans (hb2.mono B1.out.size))
  have O1 := Lib.hid ho1
  clear ho1 hb2
  go_wp2_with fail
  refine (SP.out _).mono ?_
  rintro e w3 ⟨v0, rfl, ho0, hb3⟩
  have B3 := Lib.hid (B2.out.trans (hb3.mono B2.out.size))
  obtain ⟨A1, c1, rfl, hs1⟩ := strs_of_own (own_over_below O1.out hb3)
  obtain ⟨A0, c0, rfl, hs0⟩ := strs_of_own ho0
  have S0 := Lib.hid hs0
  have S1 := Lib.hid hs1
  clear ho0 hb3 hs0 hs1
  go_wp2_with fail
  refine (sameTexts_any _ _ _ _ _ _ _ S1.out S0.out).mono ?_
  rintro e w4 ⟨n4, rfl, rfl⟩
  rw [EQ.out]
  have B4 := Lib.hid (below_draws B3.out n4)
  go_wp2_with fail
  refine (plainWord_any _ _ _ _ _ (brow_below G1.out B4.out) l1).mono ?_
  rintro e w5 ⟨p, hp, rfl, hb5⟩
  have B5 := Lib.hid (B4.out.trans (hb5.mono B4.out.size))
  have HP := Lib.hid hp
  obtain ⟨_, _, f3, f4, f5, f6⟩ := plain_facts p hp
  have F3 := Lib.hid f3
  have F4 := Lib.hid f4
  have F5 := Lib.hid f5
  have CF := cat_five p
  have CX := cat_x p
  have hps := str_size p
  have ul := upO_len p
  have UE : Hid (((⟨(upO p).toArray⟩ : ByteArray).toList == (⟨(upO p).toArray⟩ : ByteArray).toList) = true) := Lib.hid (by simp)
  have PE : Hid (((⟨p.toArray⟩ : ByteArray).toList == (⟨p.toArray⟩ : ByteArray).toList) = true) := Lib.hid (by simp)
  clear hb5 hp f3 f4 f5
  have CF2 := Lib.hid CF
  have CX2 := Lib.hid CX
  clear CF CX
  go_wp2_with fail
  rw [CF2.out]
  refine (lineWords_one p a0 a1 _ HP.out (sents_below HS.out B5.out)).mono ?_
  rintro e w6 ⟨g, cap, rfl, hc6, hb6⟩
  have B6 := Lib.hid (B5.out.trans (hb6.mono B5.out.size))
  have HC6 := Lib.hid hc6
  clear hb6 hc6
  go_wp2_with fail
  refine (upperOf_any ⟨p.toArray⟩ _ (by rw [str_size]; unfold maxLen; omega)).mono ?_
  rintro e w7 ⟨rfl, hb7⟩
  rw [show (⟨p.toArray⟩ : ByteArray).data.toList = p from rfl]
  have B7 := Lib.hid (B6.out.trans (hb7.mono B6.out.size))
  have hc7 : w7.cell? ⟨g, 0, none⟩ = some (.string ⟨p.toArray⟩) := by rw [hb7.cell (lt_of_cell HC6.out)]; exact HC6.out
  clear hb7
  have ue := UE.out
  have pe := PE.out
  go_wp2_with fail
  refine (sUpperOf_any ⟨p.toArray⟩ _ (by rw [str_size]; unfold maxLen; omega)).mono ?_
  rintro e w8 ⟨rfl, hb8⟩
  rw [show (⟨p.toArray⟩ : ByteArray).data.toList = p from rfl]
  have B8 := Lib.hid (B7.out.trans (hb8.mono B7.out.size))
  clear hb8
  go_wp2_with fail
  refine (wordOK_at p true _ (by omega) F3.out).mono ?_
  rintro e w' ⟨rfl, rfl⟩
  go_wp2_with fail
  refine (sameWord_at p (upO p) true _ (by omega) (by omega) F4.out).mono ?_
  rintro e w9 ⟨rfl, hb9⟩
  have B9 := Lib.hid (B8.out.trans (hb9.mono B8.out.size))
  clear hb9
  go_wp2_with fail
  rw [CX2.out]
  refine (sameWord_at p (p ++ [120]) false _ (by omega) (by simp; omega) F5.out).mono ?_
  rintro e w10 ⟨rfl, hb10⟩
  have B10 := Lib.hid (B9.out.trans (hb10.mono B9.out.size))
  clear hb10
  go_wp2
  go_ret
  exact ⟨rfl, B10.out⟩

set_option maxRecDepth 100000 in
theorem words_long (b0 : Option Addr) (len0 : Nat) (cap0 : Nat) (b1 : Option Addr) (len1 : Nat) (cap1 : Nat) (w : World) (h : 1048576 < len0 ∨ 1048576 < len1) :
    Calls Tryd.prog 3 #[.slice b0 len0 cap0, .slice b1 len1 cap1] w (Fin w) := by
  by_cases h0 : 1048576 < len0
  · clear h
    go_enter Tryd.func3, Tryd.ntmps3
    go_wp2
    go_ret
    exact ⟨rfl, Below.refl _ _⟩
  · have h1 : 1048576 < len1 := by omega
    clear h
    go_enter Tryd.func3, Tryd.ntmps3
    go_wp2
    go_ret
    exact ⟨rfl, Below.refl _ _⟩

end Go.Proofs.YtjhnhlknfkiodaaDoor
