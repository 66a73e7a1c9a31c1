/- What impl.scanLine, impl.lineCode, impl.LineWords give. -/
import Derived.Test.YtjhnhlknfkiodaaDoorWordsD
namespace Go.Proofs.YtjhnhlknfkiodaaDoor
open Go.RowKit
set_option linter.unusedVariables false
set_option linter.unusedSimpArgs false

/-- The code of a line that is not too long for a text. -/
def lsC (l : List UInt8) : Int := if 400 < l.length then 8 else if (scanL false (wordsL l)).2 = true then 0 else 3

/-- The error that stands for a code. -/
def ErrIs (c : Int) (a0 a1 : Addr) (er : Value) : Prop := (c = 8 ∧ er = mkE a0) ∨ (c = 0 ∧ er = .nilIface) ∨ (c = 3 ∧ ∃ n : Nat, er = mkW n a1)

/-- What scanning a line leaves. -/
def ScannedOf (w : World) (l : List UInt8) (a0 a1 : Addr) (e : Ending) (w' : World) : Prop := ∃ v er, e = .returned (.tuple #[v, er]) ∧ Below w.heap.size w w' ∧ w'.ownsRow w.heap.size 9 1 v (lwL l).length ((lwL l).map strV) ∧ ErrIs (lsC l) a0 a1 er

theorem ls_size {l : List UInt8} (h : 400 < l.length) : lsC l = 8 ∧ lwL l = [] := by unfold lsC lwL; rw [if_pos h, if_pos h]; exact ⟨rfl, rfl⟩

theorem ls_ok {l : List UInt8} (h : ¬ 400 < l.length) (hx : (scanL false (wordsL l)).2 = true) : lsC l = 0 ∧ lwL l = (scanL false (wordsL l)).1 := by unfold lsC lwL; rw [if_neg h, if_neg h, if_pos hx, if_pos hx]; exact ⟨rfl, rfl⟩

theorem ls_form {l : List UInt8} (h : ¬ 400 < l.length) (hx : (scanL false (wordsL l)).2 = false) : lsC l = 3 ∧ lwL l = [] := by unfold lsC lwL; rw [if_neg h, if_neg h, if_neg (by rw [hx]; decide), if_neg (by rw [hx]; decide)]; exact ⟨rfl, rfl⟩

theorem lw_of_ls {l : List UInt8} (h : ¬ 65536 < l.length) : lwC l = lsC l := by unfold lwC lsC; rw [if_neg h]

set_option maxRecDepth 100000 in
set_option maxHeartbeats 1000000 in
theorem scanLine_any (s : ByteArray) (a0 a1 : Addr) (w : World) (hs : s.size ≤ 1048576) (hst : Sents w a0 a1) :
    Calls Tryd.prog 18 #[.string s] w (ScannedOf w s.data.toList a0 a1) := by
  have hll := hll2 s
  by_cases h1 : 400 < s.size
  · have E := Lib.hid (ls_size (l := s.data.toList) (by omega))
    have hg0 := hst.1
    unfold mkE at hg0
    clear hll hst
    go_enter Tryd.func18, Tryd.ntmps18
    go_wp2
    go_quiet (fail)
    go_wp2
    go_ret2
    exact ⟨_, _, rfl, below_draws (Below.refl _ _) _, by rw [E.out.2]; exact World.ownsRow_nil _ _ _ _, .inl ⟨E.out.1, rfl⟩⟩
  · have L1 : ¬ 400 < s.data.toList.length := by omega
    have HS := Lib.hid hst
    have few := words_few s.data.toList
    have le := words_le s.data.toList
    rw [hll] at few le
    have NE : Hid (∀ q ∈ wordsL s.data.toList, q ≠ [] ∧ q.length ≤ 1048576) := Lib.hid fun q hq => ⟨words_ne s.data.toList q hq, by have := le q hq; omega⟩
    have SW := Lib.hid (splitWords_any s w hs)
    clear hll hst le
    obtain ⟨X, hX⟩ : ∃ X, X = scanL false (wordsL s.data.toList) := ⟨_, rfl⟩
    have OK : Hid (X.2 = true → lsC s.data.toList = 0 ∧ lwL s.data.toList = X.1) := Lib.hid fun h => by rw [hX] at h ⊢; exact ls_ok L1 h
    have NO : Hid (X.2 = false → lsC s.data.toList = 3 ∧ lwL s.data.toList = []) := Lib.hid fun h => by rw [hX] at h; exact ls_form L1 h
    have HX := Lib.hid hX
    clear hX L1
    generalize wordsL s.data.toList = Q at *
    go_enter Tryd.func18, Tryd.ntmps18
    go_wp2_with fail
    refine SW.out.mono ?_
    rintro e w1 ⟨v, rfl, ho, hb⟩
    have B1 := Lib.hid hb
    obtain ⟨A, cap, hv, _⟩ := strs_form ho
    subst hv
    have O1 := Lib.hid (own_base ho (Nat.zero_le _))
    clear ho hb
    go_wp2_with fail
    refine (drop_any A cap Q a0 a1 _ O1.out (by omega) NE.out (sents_below HS.out B1.out)).mono ?_
    rintro e w2 ⟨v2, er, rfl, hb2, hcase⟩
    have B2 := Lib.hid (B1.out.trans (hb2.mono B1.out.size))
    have C := Lib.hid hcase
    clear hb2 hcase
    go_wp2
    go_ret2
    refine ⟨_, _, rfl, B2.out, ?_, ?_⟩
    · rcases C.out with ⟨h2, _, ho⟩ | ⟨h2, rfl, _⟩
      · rw [← HX.out] at h2 ho
        rw [(OK.out h2).2]
        exact own_base ho B1.out.size
      · rw [← HX.out] at h2
        rw [(NO.out h2).2]
        exact World.ownsRow_nil _ _ _ _
    · rcases C.out with ⟨h2, he, _⟩ | ⟨h2, _, he⟩
      · rw [← HX.out] at h2
        exact .inr (.inl ⟨(OK.out h2).1, he⟩)
      · rw [← HX.out] at h2
        exact .inr (.inr ⟨(NO.out h2).1, he⟩)

/-- What the code of an error leaves. -/
def CodeIs (w : World) (c : Int) (e : Ending) (w' : World) : Prop := e = .returned (.int .i64 c) ∧ Below w.heap.size w w'

set_option maxRecDepth 100000 in
set_option maxHeartbeats 1000000 in
theorem lineCode_any (c : Int) (er : Value) (a0 a1 : Addr) (w : World) (he : ErrIs c a0 a1 er) (hst : Sents w a0 a1) :
    Calls Tryd.prog 19 #[er] w (CodeIs w c) := by
  have HS := Lib.hid hst
  have hg0 := hst.1
  have hg1 := hst.2.1
  unfold mkE at hg0 hg1
  clear hst
  rcases he with ⟨rfl, rfl⟩ | ⟨rfl, rfl⟩ | ⟨rfl, n, rfl⟩
  · unfold mkE
    go_enter Tryd.func19, Tryd.ntmps19
    go_wp2_with fail
    refine (is_same a0 _).mono ?_
    rintro e w' ⟨rfl, rfl⟩
    go_wp2
    go_ret
    exact ⟨rfl, Below.refl _ _⟩
  · go_enter Tryd.func19, Tryd.ntmps19
    go_wp2_with fail
    refine (is_nil a0 _).mono ?_
    rintro e w' ⟨rfl, rfl⟩
    go_wp2_with fail
    refine (is_nil a1 _).mono ?_
    rintro e w' ⟨rfl, rfl⟩
    go_wp2
    go_ret
    exact ⟨rfl, Below.refl _ _⟩
  · obtain ⟨c0, c1, t0, t1, hc0, hc1⟩ := HS.out.2.2.2
    have C0 := Lib.hid hc0
    have C1 := Lib.hid hc1
    clear hc0 hc1
    unfold mkW
    go_enter Tryd.func19, Tryd.ntmps19
    go_wp2_with fail
    refine (is_wrap_other n a1 a0 c1 c0 t1 t0 _ (fun e => HS.out.2.2.1 e.symm) C1.out C0.out).mono ?_
    rintro e w1 ⟨rfl, hb⟩
    have B := Lib.hid hb
    have hg2 := (sents_below HS.out B.out).2.1
    unfold mkE at hg2
    clear hb hg1 hg0
    go_wp2_with fail
    refine (is_wrap_same n a1 _).mono ?_
    rintro e w2 ⟨rfl, hb2⟩
    have B2 := Lib.hid (B.out.trans (hb2.mono B.out.size))
    clear hb2
    go_wp2
    go_ret
    exact ⟨rfl, B2.out⟩

set_option maxRecDepth 100000 in
set_option maxHeartbeats 1000000 in
theorem lineWords_any (s : ByteArray) (a0 a1 : Addr) (w : World) (hs : s.size ≤ 1048576) (hst : Sents w a0 a1) :
    Calls Tryd.prog 6 #[.string s] w (LineOf w s.data.toList) := by
  have hll := hll2 s
  have HS := Lib.hid hst
  clear hst
  by_cases h1 : 65536 < s.size
  · have E := Lib.hid (lw_long (l := s.data.toList) (by omega))
    clear hll
    go_enter Tryd.func6, Tryd.ntmps6
    go_wp2
    go_ret2
    exact ⟨_, ret_vi rfl E.out.1.symm, by rw [E.out.2]; exact World.ownsRow_nil _ _ _ _, Below.refl _ _⟩
  · have E := Lib.hid (lw_of_ls (l := s.data.toList) (by omega))
    clear hll
    go_enter Tryd.func6, Tryd.ntmps6
    go_wp2_with fail
    refine (scanLine_any s a0 a1 _ hs HS.out).mono ?_
    rintro e w1 ⟨v, er, rfl, hb, ho, he⟩
    have B := Lib.hid hb
    have O := Lib.hid ho
    have HE := Lib.hid he
    clear hb ho he
    go_wp2_with fail
    refine (lineCode_any _ er a0 a1 _ HE.out (sents_below HS.out B.out)).mono ?_
    rintro e w2 ⟨rfl, hb2⟩
    have O2 := Lib.hid (own_over_below O.out hb2)
    have B2 := Lib.hid (B.out.trans (hb2.mono B.out.size))
    clear hb2
    go_wp2
    go_ret2
    exact ⟨_, ret_vi rfl E.out.symm, O2.out, B2.out⟩

end Go.Proofs.YtjhnhlknfkiodaaDoor
