/- What impl.splitWords gives: the words of a text, by a range over its characters. -/
import Derived.Test.YtjhnhlknfkiodaaDoorWordsA
import Derived.Test.YtjhnhlknfkiodaaDoorDecM
import Derived.Lib.OthersKept
namespace Go.Proofs.YtjhnhlknfkiodaaDoor
open Go.RowKit
set_option linter.unusedVariables false
set_option linter.unusedSimpArgs false

/-- What a function leaves that hands back texts of its own, perhaps nil. -/
def RowOf (w : World) (Q : List (List UInt8)) (e : Ending) (w' : World) : Prop := ∃ v, e = .returned v ∧ w'.ownsRow w.heap.size 9 1 v Q.length (Q.map strV) ∧ Below w.heap.size w w'

/-- One step of a text's iterator. -/
theorem next_step (w : World) (b : Nat) (s : ByteArray) (k : Nat) (hb : w.heap[b]? = some (.stringIter s k)) (hk : k < s.size) :
    ∃ w2 : World, (∀ ty, (Instr.next (.pointer (some ⟨b, 0, none⟩)) true ty).run Tryd.prog w = .ok (.tuple #[.bool true, .int .i64 k, .int .i32 (Utf8.decode s k).1]) w2) ∧ w2.heap[b]? = some (.stringIter s (k + (Utf8.decode s k).2)) ∧ w.grownBy w2 (some b) ∧ w2.heap.size = w.heap.size :=
  ⟨_, fun ty => Lib.run_next_any_at w b s k ty hb hk, Lib.iterAt_heap w b s k _ hb, ⟨rfl, rfl, rfl, by rw [Lib.iterAt_size]; exact Nat.le_refl _, fun j hj hne => Lib.iterAt_other w b j s _ (fun e => hne (by rw [e]))⟩, Lib.iterAt_size _ _ _ _⟩

theorem own_not_iter {w : World} {base : Nat} {e : TypeId} {v : Value} {n : Nat} {xs : List Value} {b : Nat} {s : ByteArray} {k : Nat} (h : w.ownsRow base e 1 v n xs) (hb : w.heap[b]? = some (.stringIter s k)) : v.ownBlock ≠ some b := by
  rcases h.2 with ⟨rfl, _⟩ | ⟨g, cap, cur, rfl, _, hg, _⟩
  · simp [Value.ownBlock]
  · intro he
    have : g = b := by simpa [Value.ownBlock] using he
    subst this
    rw [hg] at hb; cases hb

theorem own_over_iter {w w2 : World} {base : Nat} {e : TypeId} {v : Value} {n : Nat} {xs : List Value} {b : Nat} {s : ByteArray} {k : Nat} (h : w.ownsRow base e 1 v n xs) (hb : w.heap[b]? = some (.stringIter s k)) (hg : w.grownBy w2 (some b)) : w2.ownsRow base e 1 v n xs :=
  h.kept hg (.inr (own_not_iter h hb))

theorem below_over {w w2 w0 : World} {b : Nat} (h : Below w0.heap.size w0 w) (hb : w0.heap.size ≤ b) (hg : w.grownBy w2 (some b)) : Below w0.heap.size w0 w2 :=
  h.grown hg h.size (fun k hk => by cases hk; exact hb)

/-- An append to a row of the call's own leaves the iterator where it stands. -/
theorem iter_over {w wx : World} {o : Obj} {base : Nat} {e : TypeId} {v : Value} {n : Nat} {xs : List Value} {b : Nat} {s : ByteArray} {k : Nat} (h : w.ownsRow base e 1 v n xs) (hb : w.heap[b]? = some (.stringIter s k)) (hg : (w.alloc o).grownBy wx v.ownBlock) : wx.heap[b]? = some (.stringIter s k) := by
  have hlt : b < w.heap.size := (Array.getElem?_eq_some_iff.1 hb).1
  rw [hg.block b (by simp; omega) (fun e => own_not_iter h hb e.symm), Below.heap_alloc w o b hlt]
  exact hb

theorem iter_pos {w : World} {b : Nat} {s : ByteArray} {k : Nat} (hb : w.heap[b]? = some (.stringIter s k)) : w.iterPos b = k := by unfold World.iterPos; rw [hb]

theorem range_iter (w : World) (s : ByteArray) : (w.alloc (.stringIter s 0)).heap[w.heap.size]? = some (.stringIter s 0) := heap_alloc_new w _

set_option maxRecDepth 100000 in
set_option maxHeartbeats 2000000 in
theorem splitWords_any (s : ByteArray) (w : World) (hs : s.size ≤ 1048576) :
    Calls Tryd.prog 31 #[.string s] w (RowOf w (wordsL s.data.toList)) := by
  obtain ⟨i0, hi, hz0, hz1, hz2⟩ := info_parts own_info9
  have HLL := Lib.hid (hll2 s)
  have RI := Lib.hid (range_iter w s)
  go_enter Tryd.func31, Tryd.ntmps31
  go_wp2_with fail
  go_loopw [3, 4] (fun v g wr => ∃ (k f : Nat) (W : List (List UInt8)), g = .int .i64 f ∧ WordsAt s.data.toList W f k ∧ W.length ≤ k ∧ wr.ownsRow w.heap.size 9 1 v W.length (W.map strV) ∧ Below w.heap.size w wr ∧ wr.heap[w.heap.size]? = some (.stringIter s k)) (fun _ _ wr => s.size - wr.iterPos w.heap.size)
  case atStart => exact ⟨0, 0, [], rfl, wordsAt_zero _, Nat.zero_le _, World.ownsRow_nil _ _ _ _, (Below.refl _ _).alloc (Nat.le_refl _) _, RI.out⟩
  case round =>
    obtain ⟨k, f, W, rfl, hat, hWk, hown, hbel, hit⟩ := hrel
    have HO := Lib.hid hown
    have HB := Lib.hid hbel
    have HI := Lib.hid hit
    have HA := Lib.hid hat
    have hfk : f ≤ k := hat.1
    have hks : k ≤ s.size := by have := hat.2.1; rw [HLL.out] at this; exact this
    clear hown hbel hit hat
    by_cases hlt : k < s.size
    · obtain ⟨w2, hnx, hit2, hg2, hsz⟩ := next_step wr w.heap.size s k HI.out hlt
      have D := decode_is s k hlt
      have MS : Hid (w2.iterPos w.heap.size = k + (Utf8.decode s k).2 ∧ wr.iterPos w.heap.size = k) := Lib.hid ⟨iter_pos hit2, iter_pos HI.out⟩
      have O2 := Lib.hid (own_over_iter HO.out HI.out hg2)
      have B2 := Lib.hid (below_over HB.out (Nat.le_refl _) hg2)
      have I2 := Lib.hid hit2
      have SZ := B2.out.size
      clear hit2 hg2 hsz
      have DL := decode_le s k
      obtain ⟨d1, d2, d3, d4⟩ := D
      obtain ⟨c, hc⟩ : ∃ c, c = (Utf8.decode s k).1 := ⟨_, rfl⟩
      obtain ⟨n, hn⟩ : ∃ n, n = (Utf8.decode s k).2 := ⟨_, rfl⟩
      rw [← hc] at hnx d3 d4 DL
      rw [← hn] at d1 d2 d3 d4 I2 MS
      clear hc hn
      by_cases h32 : c = 32
      · obtain ⟨e1, e2⟩ := d3 h32
        subst e2
        subst h32
        clear d3 d4
        by_cases hf : f < k
        · have A2 := Lib.hid (wordsAt_word HA.out hf (by rw [HLL.out]; exact hlt) e1)
          have XM := Lib.hid (extract_mid s f k)
          clear e1
          have hown := O2.out
          go_wp2_with (at_builtin; refine wpList_append_own _ rfl _ _ 24 rfl w.heap.size 9 i0 (.string ⟨#[]⟩) 1 16 Tryd.underlying24 hi hz0 hz1 hz2 rfl (by decide) _ _ _ rfl (hown.alloc _) ⟨w2.heap.size, 0, none⟩ 1 1 [.string (s.extract f k)] rfl rfl ?c1 ?c2 ?c3 ?c4 ?c5 ?_)
          case c1 => intro j u hu; match j, hu with | 0, hu => (simp at hu; subst hu; simp [Addr.add]) | j + 1, hu => simp at hu
          case c2 => intro u hu; simp at hu; subst hu; rfl
          case c3 => unfold maxLen; omega
          case c4 => omega
          case c5 => simp; omega
          intro v' wx hown' hgrow hnil
          have HX := Lib.hid (owns_below B2.out O2.out hgrow)
          have IX := Lib.hid (iter_over O2.out I2.out hgrow)
          have PX := Lib.hid (iter_pos IX.out)
          have HOX := Lib.hid hown'
          clear hown' hgrow hown hnil
          go_wp2
          go_roundw
          case rel => exact ⟨k + 1, k + 1, W ++ [mid s.data.toList f k], by go_num, A2.out, by simp; omega, by
            have h1 := HOX.out
            rw [XM.out] at h1
            rw [List.length_append, List.map_append]; exact h1, HX.out, IX.out⟩
          case measure => rw [PX.out, MS.out.2]; omega
        · obtain rfl : f = k := by omega
          have A2 := Lib.hid (wordsAt_gap HA.out (by rw [HLL.out]; exact hlt) e1)
          clear e1
          go_wp2
          go_roundw
          case rel => exact ⟨f + 1, f + 1, W, by go_num, A2.out, by omega, O2.out, B2.out, I2.out⟩
          case measure => rw [MS.out.1, MS.out.2]; omega
      · have c1 : ((c : Int) != 32) = true := by rw [bne_iff_ne]; omega
        have A2 := Lib.hid (wordsAt_more HA.out n (fun j hj a b => d4 h32 j (by rw [← HLL.out]; exact hj) a b) (by rw [HLL.out]; exact d2))
        clear d3 d4 h32
        go_wp2
        go_roundw
        case rel => exact ⟨k + n, f, W, rfl, A2.out, by omega, O2.out, B2.out, I2.out⟩
        case measure => rw [MS.out.1, MS.out.2]; omega
    · obtain rfl : k = s.size := by omega
      have hend := fun ty => Lib.run_next_end_at (P := Tryd.prog) wr w.heap.size s s.size ty HI.out (Nat.lt_irrefl _)
      by_cases hf : f < s.size
      · have A2 := Lib.hid (wordsAt_last (f := f) (W := W) (l := s.data.toList) (by rw [HLL.out]; exact HA.out) (by rw [HLL.out]; exact hf))
        have XM := Lib.hid (extract_mid s f s.size)
        have hown := HO.out
        have SZ := HB.out.size
        go_wp2_with (at_builtin; refine wpList_append_own _ rfl _ _ 24 rfl w.heap.size 9 i0 (.string ⟨#[]⟩) 1 16 Tryd.underlying24 hi hz0 hz1 hz2 rfl (by decide) _ _ _ rfl (hown.alloc _) ⟨wr.heap.size, 0, none⟩ 1 1 [.string (s.extract f s.size)] rfl rfl ?d1 ?d2 ?d3 ?d4 ?d5 ?_)
        case d1 => intro j u hu; match j, hu with | 0, hu => (simp at hu; subst hu; simp [Addr.add]) | j + 1, hu => simp at hu
        case d2 => intro u hu; simp at hu; subst hu; rfl
        case d3 => unfold maxLen; omega
        case d4 => omega
        case d5 => simp; omega
        intro v' wx hown' hgrow hnil
        have HX := Lib.hid (owns_below HB.out HO.out hgrow)
        have HOX := Lib.hid hown'
        clear hown' hgrow hown hnil hend
        go_wp2
        go_ret
        exact ⟨_, rfl, by
          have h1 := HOX.out
          rw [XM.out] at h1
          rw [A2.out, HLL.out, List.length_append, List.map_append]; exact h1, HX.out⟩
      · obtain rfl : f = s.size := by omega
        have A2 := Lib.hid (wordsAt_end (l := s.data.toList) (W := W) (by rw [HLL.out]; exact HA.out))
        go_wp2
        go_ret
        exact ⟨_, rfl, by rw [A2.out]; exact HO.out, HB.out⟩

end Go.Proofs.YtjhnhlknfkiodaaDoor
