/- What spec's functions on the words of a line give: l00Words, l02Words, LineWords. -/
import Derived.Test.YtjhnhlknfkiodaaDoorOwnA
import Derived.Test.YtjhnhlknfkiodaaDoorWordsM
import Derived.Lib.Strings
namespace Go.Proofs.YtjhnhlknfkiodaaDoor
open Go.RowKit
set_option linter.unusedVariables false
set_option linter.unusedSimpArgs false

/-- A text as a value. -/
def strV (q : List UInt8) : Value := .string ⟨q.toArray⟩

theorem extract_mid (s : ByteArray) (f k : Nat) : (Value.string (s.extract f k)) = strV (mid s.data.toList f k) := by
  unfold strV mid; rw [Lib.extract_eq]

theorem sp_at {s : ByteArray} {k : Nat} (h : k < s.size) : s.data.toList[k]'(by simpa using h) = s[k] := rfl

/-- What a function leaves that hands back texts of its own. -/
def TextsOf (w : World) (Q : List (List UInt8)) (e : Ending) (w' : World) : Prop := ∃ v, e = .returned v ∧ Owns w' w.heap.size 9 v Q.length (Q.map strV) ∧ Below w.heap.size w w'

set_option maxRecDepth 100000 in
set_option maxHeartbeats 2000000 in
theorem sWords_any (s : ByteArray) (w : World) (hs : s.size ≤ 1048576) :
    Calls Tryd.prog 33 #[.string s] w (TextsOf w (wordsL s.data.toList)) := by
  obtain ⟨i0, hi, hz0, hz1, hz2⟩ := info_parts own_info9
  have hll : s.data.toList.length = s.size := by simp
  have HLL := Lib.hid hll
  clear hll
  go_enter Tryd.func33, Tryd.ntmps33
  go_wp2_with fail
  go_loopw [5, 4, 3] (fun i g v wr => ∃ (k f : Nat) (W : List (List UInt8)), i = .int .i64 k ∧ g = .int .i64 f ∧ ((k ≤ s.size ∧ WordsAt s.data.toList W f k) ∨ (k = s.size + 1 ∧ wordsL s.data.toList = W)) ∧ W.length ≤ k ∧ Owns wr w.heap.size 9 v W.length (W.map strV) ∧ Below w.heap.size w wr) (fun i _ _ _ => s.size + 1 - (intOf i).toNat)
  case atStart => exact ⟨0, 0, [], rfl, rfl, .inl ⟨Nat.zero_le _, wordsAt_zero _⟩, Nat.zero_le _, owns_new (Nat.le_refl _), (Below.refl _ _).alloc (Nat.le_refl _) _⟩
  case round =>
    obtain ⟨k, f, W, rfl, rfl, hat, hWk, ho, hbel⟩ := hrel
    have HO := Lib.hid ho
    have HB := Lib.hid hbel
    obtain ⟨hown, hnn⟩ := ho
    have HN := Lib.hid hnn
    clear hbel hnn
    rcases hat with ⟨hk, hat⟩ | ⟨rfl, hW⟩
    · have hfk : f ≤ k := hat.1
      have HA := Lib.hid hat
      clear hat
      by_cases hlt : k < s.size
      · have z0 : ((k : Int) == (s.size : Int)) = false := by simp; omega
        by_cases hc : s[k] = 32
        · have c1 : ((s[k].toNat : Int) == 32) = true := by rw [hc]; rfl
          by_cases hf : f < k
          · have A2 := Lib.hid (wordsAt_word HA.out hf (by rw [HLL.out]; exact hlt) hc)
            have XM := Lib.hid (extract_mid s f k)
            clear hc
            go_wp2_with (at_builtin; refine wpList_append_own _ rfl _ _ 24 rfl w.heap.size 9 i0 (.string ⟨#[]⟩) 1 16 Tryd.underlying24 hi hz0 hz1 hz2 rfl (by decide) _ _ _ rfl (hown.alloc _) ⟨wr.heap.size, 0, none⟩ 1 1 [.string (s.extract f k)] rfl rfl ?c1 ?c2 ?c3 ?c4 ?c5 ?_)
            case c1 => intro j u hu; match j, hu with | 0, hu => (simp at hu; subst hu; simp [Addr.add]) | j + 1, hu => simp at hu
            case c2 => intro u hu; simp at hu; subst hu; rfl
            case c3 => unfold maxLen; omega
            case c4 => omega
            case c5 => have := HB.out.size; simp; omega
            intro v' wx hown' hgrow hnil
            have HX := Lib.hid (owns_below HB.out HO.out.1 hgrow)
            have HOX := Lib.hid hown'
            have HNX := Lib.hid hnil
            clear hown' hgrow hown hnil
            go_wp2
            go_roundw
            case rel => exact ⟨k + 1, k + 1, W ++ [mid s.data.toList f k], by go_num, by go_num, .inl ⟨by omega, A2.out⟩, by simp; omega, by
              have h1 := HOX.out
              rw [XM.out] at h1
              have h2 := HNX.out
              exact ⟨by rw [List.length_append, List.map_append]; exact h1, by simpa using h2⟩, HX.out⟩
            case measure => simp [intOf]; omega
          · obtain rfl : f = k := by omega
            have A2 := Lib.hid (wordsAt_gap HA.out (by rw [HLL.out]; exact hlt) hc)
            clear hc hown
            go_wp2
            go_roundw
            case rel => exact ⟨f + 1, f + 1, W, by go_num, by go_num, .inl ⟨by omega, A2.out⟩, by omega, HO.out, HB.out⟩
            case measure => simp [intOf]; omega
        · have c1 : ((s[k].toNat : Int) == 32) = false := by
            simp
            intro e
            apply hc
            exact UInt8.toNat_inj.1 (by simp; omega)
          have A2 := Lib.hid (wordsAt_other HA.out (by rw [HLL.out]; exact hlt) hc)
          clear hc hown
          go_wp2
          go_roundw
          case rel => exact ⟨k + 1, f, W, by go_num, rfl, .inl ⟨by omega, A2.out⟩, by omega, HO.out, HB.out⟩
          case measure => simp [intOf]; omega
      · obtain rfl : k = s.size := by omega
        by_cases hf : f < s.size
        · have A2 := Lib.hid (wordsAt_last (f := f) (W := W) (l := s.data.toList) (by rw [HLL.out]; exact HA.out) (by rw [HLL.out]; exact hf))
          have XM := Lib.hid (extract_mid s f s.size)
          go_wp2_with (at_builtin; refine wpList_append_own _ rfl _ _ 24 rfl w.heap.size 9 i0 (.string ⟨#[]⟩) 1 16 Tryd.underlying24 hi hz0 hz1 hz2 rfl (by decide) _ _ _ rfl (hown.alloc _) ⟨wr.heap.size, 0, none⟩ 1 1 [.string (s.extract f s.size)] rfl rfl ?d1 ?d2 ?d3 ?d4 ?d5 ?_)
          case d1 => intro j u hu; match j, hu with | 0, hu => (simp at hu; subst hu; simp [Addr.add]) | j + 1, hu => simp at hu
          case d2 => intro u hu; simp at hu; subst hu; rfl
          case d3 => unfold maxLen; omega
          case d4 => omega
          case d5 => have := HB.out.size; simp; omega
          intro v' wx hown' hgrow hnil
          have HX := Lib.hid (owns_below HB.out HO.out.1 hgrow)
          have HOX := Lib.hid hown'
          have HNX := Lib.hid hnil
          clear hown' hgrow hown hnil
          go_wp2
          go_roundw
          case rel => exact ⟨s.size + 1, s.size + 1, W ++ [mid s.data.toList f s.size], by go_num, by go_num, .inr ⟨rfl, by rw [A2.out, HLL.out]⟩, by simp; omega, by
            have h1 := HOX.out
            rw [XM.out] at h1
            have h2 := HNX.out
            exact ⟨by rw [List.length_append, List.map_append]; exact h1, by simpa using h2⟩, HX.out⟩
          case measure => simp [intOf]
        · obtain rfl : f = s.size := by omega
          have A2 := Lib.hid (wordsAt_end (l := s.data.toList) (W := W) (by rw [HLL.out]; exact HA.out))
          clear hown
          go_wp2
          go_roundw
          case rel => exact ⟨s.size + 1, s.size + 1, W, by go_num, by go_num, .inr ⟨rfl, A2.out⟩, by omega, HO.out, HB.out⟩
          case measure => simp [intOf]
    · have HW := Lib.hid hW
      clear hW hown
      go_wp2
      go_ret
      exact ⟨_, rfl, by rw [HW.out]; exact HO.out, HB.out⟩

theorem last_byte {q : List UInt8} (h : q ≠ []) : ∃ (c : UInt8) (hk : q.length - 1 < (⟨q.toArray⟩ : ByteArray).size), (⟨q.toArray⟩ : ByteArray)[q.length - 1]'hk = c ∧ q.getLast? = some c := by
  have hp : 0 < q.length := List.length_pos_iff.2 h
  refine ⟨q[q.length - 1], by show q.length - 1 < q.toArray.size; simp; omega, rfl, ?_⟩
  rw [List.getLast?_eq_getElem?]
  exact List.getElem?_eq_getElem _

theorem str_size (q : List UInt8) : (⟨q.toArray⟩ : ByteArray).size = q.length := by show q.toArray.size = _; simp

theorem str_eq (q p : List UInt8) : ((⟨q.toArray⟩ : ByteArray).toList == p) = (q == p) := by rw [Lib.toList_data]

theorem hll2 (s : ByteArray) : s.data.toList.length = s.size := by simp

/-- What l02Words leaves. -/
def ScanOf (w : World) (X : List (List UInt8) × Bool) (e : Ending) (w' : World) : Prop := ∃ v, e = .returned (.tuple #[v, .bool X.2]) ∧ Owns w' w.heap.size 9 v X.1.length (X.1.map strV) ∧ Below w.heap.size w w'

theorem owns_base {w : World} {base base' : Nat} {e : TypeId} {v : Value} {n : Nat} {xs : List Value} (h : Owns w base e v n xs) (hb : base' ≤ base) : Owns w base' e v n xs := by
  obtain ⟨⟨h1, h2⟩, h3⟩ := h
  refine ⟨⟨h1, ?_⟩, h3⟩
  rcases h2 with h2 | ⟨g, cap, cur, a1, a2, a3⟩
  · exact .inl h2
  · exact .inr ⟨g, cap, cur, a1, by omega, a3⟩

set_option maxRecDepth 100000 in
set_option maxHeartbeats 2000000 in
theorem sScan_any (s : ByteArray) (w : World) (hs : s.size ≤ 1048576) :
    Calls Tryd.prog 20 #[.string s] w (ScanOf w (scanL false (wordsL s.data.toList))) := by
  obtain ⟨i0, hi, hz0, hz1, hz2⟩ := info_parts own_info9
  have few := words_few s.data.toList
  have hll : s.data.toList.length = s.size := by simp
  rw [hll] at few
  clear hll
  have NE := Lib.hid (words_ne s.data.toList)
  have le := words_le s.data.toList
  rw [hll2 s] at le
  have LE := Lib.hid le
  clear le
  have CT := Lib.hid (sWords_any s w hs)
  generalize wordsL s.data.toList = Q at *
  go_enter Tryd.func20, Tryd.ntmps20
  go_wp2_with fail
  refine CT.out.mono ?_
  rintro e w1 ⟨v1, rfl, hq, hb1⟩
  have HQ := Lib.hid hq
  have HB1 := Lib.hid hb1
  obtain ⟨g, cap, hv, _, _, hcap, hmax⟩ := owns_form hq
  subst hv
  unfold maxLen at hmax
  clear hq hb1
  go_wp2_with fail
  go_loopw [7, 6, 5] (fun i ov v wr => ∃ (k : Nat) (o : Bool) (W : List (List UInt8)), i = .int .i64 k ∧ ov = .bool o ∧ ScanAt Q W o k ∧ Owns wr w1.heap.size 9 v W.length (W.map strV) ∧ Below w1.heap.size w1 wr) (fun i _ _ _ => Q.length - (intOf i).toNat)
  case atStart => exact ⟨0, false, [], rfl, rfl, scanAt_zero Q, owns_new (Nat.le_refl _), (Below.refl _ _).alloc (Nat.le_refl _) _⟩
  case round =>
    obtain ⟨k, o, W, rfl, rfl, hat, ho, hbel⟩ := hrel
    have HO := Lib.hid ho
    have HB := Lib.hid hbel
    have hk : k ≤ Q.length := hat.1
    have hW : W.length ≤ k := hat.2.1
    have HA := Lib.hid hat
    obtain ⟨hown, hnn⟩ := ho
    have HN := Lib.hid hnn
    clear hbel hnn hat
    by_cases hlt : k < Q.length
    · obtain ⟨q, hqk⟩ : ∃ q, Q[k] = q := ⟨_, rfl⟩
      have hcell : wr.cell? ⟨g, k, none⟩ = some (.string ⟨q.toArray⟩) := by
        have h1 := (owns_kept HQ.out HB.out).1.cellAt k (by omega)
        rw [h1, ← hqk]; simp [strV, hlt]
      have hqne : q ≠ [] := by rw [← hqk]; exact NE.out _ (List.getElem_mem _)
      have hqk2 := Lib.hid hqk
      clear hqk
      cases o
      · by_cases h92 : q = [92]
        · have E := Lib.hid (scanAt_stop HA.out hlt (by rw [hqk2.out]; exact h92))
          have t1 : (q == [92]) = true := by rw [h92]; rfl
          clear h92 hqne hown
          go_wp2
          go_ret2
          exact ⟨_, by rw [E.out]; rfl, by rw [E.out]; exact owns_base HO.out HB1.out.size, HB1.out.trans (HB.out.mono HB1.out.size)⟩
        · have t1 : (q == [92]) = false := by simpa using h92
          by_cases h40 : q = [40]
          · have E := Lib.hid (scanAt_round HA.out hlt (by rw [hqk2.out]; exact h40))
            have t2 : (q == [40]) = true := by rw [h40]; rfl
            clear h92 h40 hqne hown
            go_wp2
            go_roundw
            case rel => exact ⟨k + 1, true, W, by go_num, rfl, E.out, HO.out, HB.out⟩
            case measure => simp [intOf]; omega
          · have t2 : (q == [40]) = false := by simpa using h40
            have E := Lib.hid (scanAt_keep HA.out hlt (by rw [hqk2.out]; exact h92) (by rw [hqk2.out]; exact h40))
            clear h92 h40 hqne
            go_wp2_with (at_builtin; refine wpList_append_own _ rfl _ _ 24 rfl w1.heap.size 9 i0 (.string ⟨#[]⟩) 1 16 Tryd.underlying24 hi hz0 hz1 hz2 rfl (by decide) _ _ _ rfl (hown.alloc _) ⟨wr.heap.size, 0, none⟩ 1 1 [.string ⟨q.toArray⟩] rfl rfl ?c1 ?c2 ?c3 ?c4 ?c5 ?_)
            case c1 => intro j u hu; match j, hu with | 0, hu => (simp at hu; subst hu; simp [Addr.add]) | j + 1, hu => simp at hu
            case c2 => intro u hu; simp at hu; subst hu; rfl
            case c3 => unfold maxLen; omega
            case c4 => omega
            case c5 => have := HB.out.size; simp; omega
            intro v' wx hown' hgrow hnil
            have HX := Lib.hid (owns_below HB.out HO.out.1 hgrow)
            have HOX := Lib.hid hown'
            have HNX := Lib.hid hnil
            clear hown' hgrow hown hnil
            go_wp2
            go_roundw
            case rel => exact ⟨k + 1, false, W ++ [Q[k]], by go_num, rfl, E.out, by
              have h1 := HOX.out
              have h2 := HNX.out
              rw [hqk2.out]
              exact ⟨by rw [List.length_append, List.map_append]; exact h1, by simpa using h2⟩, HX.out⟩
            case measure => simp [intOf]; omega
      · obtain ⟨c, hkc, hc, hlast⟩ := last_byte hqne
        have hpos : 0 < q.length := List.length_pos_iff.2 hqne
        have hqs := str_size q
        have E := Lib.hid (scanAt_open HA.out hlt)
        have hqle : q.length ≤ s.size := by rw [← hqk2.out]; exact LE.out _ (List.getElem_mem _)
        have L := Lib.hid (last_test hlast)
        clear hqne hown hlast
        go_wp2
        go_roundw
        case rel => exact ⟨k + 1, _, W, by go_num, rfl, by rw [L.out, ← hqk2.out]; exact E.out, HO.out, HB.out⟩
        case measure => simp [intOf]; omega
    · obtain rfl : k = Q.length := by omega
      have E := Lib.hid (scanAt_end HA.out)
      clear hown
      go_wp2
      go_ret2
      exact ⟨_, by rw [E.out]; rfl, by rw [E.out]; exact owns_base HO.out HB1.out.size, HB1.out.trans (HB.out.mono HB1.out.size)⟩

end Go.Proofs.YtjhnhlknfkiodaaDoor
