/- What spec.LineWords gives. -/
import Derived.Test.YtjhnhlknfkiodaaDoorWordsA
namespace Go.Proofs.YtjhnhlknfkiodaaDoor
open Go.RowKit
set_option linter.unusedVariables false
set_option linter.unusedSimpArgs false

/-- What a function leaves that hands back texts of its own and a code. -/
def LineOf (w : World) (l : List UInt8) (e : Ending) (w' : World) : Prop := ∃ v, e = .returned (.tuple #[v, .int .i64 (lwC l)]) ∧ w'.ownsRow w.heap.size 9 1 v (lwL l).length ((lwL l).map strV) ∧ Below w.heap.size w w'

theorem lw_long {l : List UInt8} (h : 65536 < l.length) : lwC l = 2 ∧ lwL l = [] := by
  unfold lwC lwL
  rw [if_pos h, if_pos (by omega)]; exact ⟨rfl, rfl⟩

theorem lw_size {l : List UInt8} (h : ¬ 65536 < l.length) (h' : 400 < l.length) : lwC l = 8 ∧ lwL l = [] := by
  unfold lwC lwL
  rw [if_neg h, if_pos h', if_pos h']; exact ⟨rfl, rfl⟩

theorem lw_form {l : List UInt8} (h' : ¬ 400 < l.length) (h : (scanL false (wordsL l)).2 = false) : lwC l = 3 ∧ lwL l = [] := by
  unfold lwC lwL
  rw [if_neg (by omega), if_neg h', if_neg h', if_neg (by rw [h]; decide), if_neg (by rw [h]; decide)]; exact ⟨rfl, rfl⟩

theorem lw_ok {l : List UInt8} (h' : ¬ 400 < l.length) (h : (scanL false (wordsL l)).2 = true) : lwC l = 0 ∧ lwL l = (scanL false (wordsL l)).1 := by
  unfold lwC lwL
  rw [if_neg (by omega), if_neg h', if_neg h', if_pos h, if_pos h]; exact ⟨rfl, rfl⟩

theorem ret_vi {a b : Value} {c d : Int} (h : a = b) (h' : c = d) : Ending.returned (.tuple #[a, .int .i64 c]) = .returned (.tuple #[b, .int .i64 d]) := by rw [h, h']

set_option maxRecDepth 100000 in
set_option maxHeartbeats 1000000 in
theorem sLineWords_any (s : ByteArray) (w : World) (hs : s.size ≤ 1048576) :
    Calls Tryd.prog 7 #[.string s] w (LineOf w s.data.toList) := by
  have hll := hll2 s
  by_cases h1 : 65536 < s.size
  · have E := Lib.hid (lw_long (l := s.data.toList) (by omega))
    clear hll
    go_enter Tryd.func7, Tryd.ntmps7
    go_wp2
    go_ret2
    exact ⟨_, ret_vi rfl E.out.1.symm, by rw [E.out.2]; exact (owns_new (Nat.le_refl _)).1, (Below.refl _ _).alloc (Nat.le_refl _) _⟩
  · by_cases h2 : 400 < s.size
    · have E := Lib.hid (lw_size (l := s.data.toList) (by omega) (by omega))
      clear hll
      go_enter Tryd.func7, Tryd.ntmps7
      go_wp2
      go_ret2
      exact ⟨_, ret_vi rfl E.out.1.symm, by rw [E.out.2]; exact (owns_new (Nat.le_refl _)).1, (Below.refl _ _).alloc (Nat.le_refl _) _⟩
    · have L2 : ¬ 400 < s.data.toList.length := by omega
      have SC := Lib.hid (sScan_any s w hs)
      clear hll
      cases hx : (scanL false (wordsL s.data.toList)).2
      · have E := Lib.hid (lw_form L2 hx)
        have X := Lib.hid hx
        clear hx L2
        go_enter Tryd.func7, Tryd.ntmps7
        go_wp2_with fail
        refine SC.out.mono ?_
        rintro e w1 ⟨v, rfl, ho, hb⟩
        rw [X.out]
        have B := Lib.hid hb
        clear ho hb
        go_wp2
        go_ret2
        exact ⟨_, ret_vi rfl E.out.1.symm, by rw [E.out.2]; exact (owns_new B.out.size).1, B.out.alloc B.out.size _⟩
      · have E := Lib.hid (lw_ok L2 hx)
        have X := Lib.hid hx
        clear hx L2
        go_enter Tryd.func7, Tryd.ntmps7
        go_wp2_with fail
        refine SC.out.mono ?_
        rintro e w1 ⟨v, rfl, ho, hb⟩
        rw [X.out]
        have B := Lib.hid hb
        have O := Lib.hid ho
        clear ho hb
        go_wp2
        go_ret2
        exact ⟨_, ret_vi rfl E.out.1.symm, by rw [E.out.2]; exact O.out.1, B.out⟩

end Go.Proofs.YtjhnhlknfkiodaaDoor
