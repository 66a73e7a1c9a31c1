/- What impl.dropComments, impl.scanLine, impl.lineCode, impl.LineWords give. -/
import Derived.Test.YtjhnhlknfkiodaaDoorWordsB
import Derived.Test.YtjhnhlknfkiodaaDoorWordsC
import Derived.Test.YtjhnhlknfkiodaaDoorIsA
import Derived.Deep.QuietTactic
import Derived.BigQuiet
namespace Go.Proofs.YtjhnhlknfkiodaaDoor
open Go.RowKit
set_option linter.unusedVariables false
set_option linter.unusedSimpArgs false

/-- The two marks of the line scanner: two errors of errors.New's make. -/
def Sents (w : World) (a0 a1 : Addr) : Prop := w.cell? ⟨0, 0, none⟩ = some (mkE a0) ∧ w.cell? ⟨1, 0, none⟩ = some (mkE a1) ∧ a0 ≠ a1 ∧ ∃ (c0 c1 : Array Value) (t0 t1 : TypeId), w.heap[a0.block]? = some (.cells c0 t0 (0, 0)) ∧ w.heap[a1.block]? = some (.cells c1 t1 (0, 0))

theorem sents_below {w w' : World} {a0 a1 : Addr} (h : Sents w a0 a1) (hb : Below w.heap.size w w') : Sents w' a0 a1 := by
  obtain ⟨h0, h1, hne, c0, c1, t0, t1, b0, b1⟩ := h
  refine ⟨?_, ?_, hne, c0, c1, t0, t1, ?_, ?_⟩
  · rw [hb.cell (World.block_lt_of_cell? w _ h0)]; exact h0
  · rw [hb.cell (World.block_lt_of_cell? w _ h1)]; exact h1
  · rw [hb.block _ (Array.getElem?_eq_some_iff.1 b0).1]; exact b0
  · rw [hb.block _ (Array.getElem?_eq_some_iff.1 b1).1]; exact b1

theorem sents_draws {w : World} {a0 a1 : Addr} {n : Nat} (h : Sents w a0 a1) : Sents (w.drewN n) a0 a1 := h

theorem last_ext {q : List UInt8} {c : UInt8} (h : q.getLast? = some c) : ((⟨q.toArray⟩ : ByteArray).extract (q.length - 1) q.length).toList = [c] := by
  rw [Lib.toList_data, Lib.extract_eq]
  have e : (⟨q.toArray⟩ : ByteArray).data.toList = q := rfl
  obtain ⟨p, rfl⟩ := List.getLast?_eq_some_iff.1 h
  simp

set_option maxRecDepth 100000 in
set_option maxHeartbeats 1000000 in
theorem suffixIn_any (q : List UInt8) (w : World) (hq : q ≠ []) (hs : q.length ≤ 1048576) :
    Calls Tryd.prog 38 #[.string ⟨q.toArray⟩, .string ⟨#[41]⟩] w fun e w' => e = .returned (.bool (q.getLast? == some 41)) ∧ w = w' := by
  obtain ⟨c, hc⟩ : ∃ c, q.getLast? = some c := by
    cases h : q.getLast? with
    | none => exact absurd (List.getLast?_eq_none_iff.1 h) hq
    | some c => exact ⟨c, rfl⟩
  have hpos : 0 < q.length := List.length_pos_iff.2 hq
  have X := last_ext hc
  have hz := str_size q
  have E : Hid (([c] == [41]) = (q.getLast? == some 41)) := Lib.hid (by rw [hc]; simp)
  clear hc hq
  generalize (⟨q.toArray⟩ : ByteArray) = s at *
  obtain ⟨m, hm⟩ : ∃ m, m = q.length := ⟨_, rfl⟩
  rw [← hm] at hpos hz X hs
  obtain rfl := hz
  clear hm
  go_enter Tryd.func38, Tryd.ntmps38
  go_wp2
  go_ret
  exact ⟨ret_bool (by rw [← E.out]; simp), rfl⟩

set_option maxHeartbeats 1000000 in
theorem suffix_any (q : List UInt8) (w : World) (hq : q ≠ []) (hs : q.length ≤ 1048576) :
    Calls Tryd.prog 35 #[.string ⟨q.toArray⟩, .string ⟨#[41]⟩] w fun e w' => e = .returned (.bool (q.getLast? == some 41)) ∧ w = w' := by
  have C := suffixIn_any q w hq hs
  generalize (q.getLast? == some 41) = t at *
  have HC := Lib.hid C
  clear hq C
  go_enter Tryd.func35, Tryd.ntmps35
  go_wp2_with fail
  refine HC.out.mono ?_
  rintro e w' ⟨rfl, rfl⟩
  go_wp2
  go_ret
  exact ⟨rfl, rfl⟩

/-- What taking the remarks out leaves: the words that are left and no error, or none and a wrapped mark. -/
def DropOf (w : World) (X : List (List UInt8) × Bool) (a1 : Addr) (e : Ending) (w' : World) : Prop := ∃ v er, e = .returned (.tuple #[v, er]) ∧ Below w.heap.size w w' ∧ ((X.2 = true ∧ er = .nilIface ∧ w'.ownsRow w.heap.size 9 1 v X.1.length (X.1.map strV)) ∨ (X.2 = false ∧ v = .slice none 0 0 ∧ ∃ n : Nat, er = mkW n a1))

/-- The place of an open remark; -1 where none is open. -/
def OpenedIs (o : Bool) (ov : Value) : Prop := if o then ∃ m : Nat, ov = .int .i64 m else ov = .int .i64 (-1)

set_option maxRecDepth 100000 in
set_option maxHeartbeats 4000000 in
theorem drop_any (A : Option Addr) (cap : Nat) (Q : List (List UInt8)) (a0 a1 : Addr) (w : World) (h : w.ownsRow 0 9 1 (.slice A Q.length cap) Q.length (Q.map strV)) (hn : Q.length ≤ 1048576) (hne : ∀ q ∈ Q, q ≠ [] ∧ q.length ≤ 1048576) (hst : Sents w a0 a1) :
    Calls Tryd.prog 30 #[.slice A Q.length cap] w (DropOf w (scanL false Q) a1) := by
  obtain ⟨i0, hi, hz0, hz1, hz2⟩ := info_parts own_info9
  have H := Lib.hid h
  have HS := Lib.hid hst
  have NE := Lib.hid hne
  clear h hst hne
  go_enter Tryd.func30, Tryd.ntmps30
  go_wp2_with fail
  go_loopw [4, 5, 10] (fun v sv i wr => ∃ (k : Nat) (o : Bool) (W : List (List UInt8)) (ov : Value), i = .int .i64 k ∧ sv = ov ∧ OpenedIs o ov ∧ ScanAt Q W o k ∧ wr.ownsRow w.heap.size 9 1 v W.length (W.map strV) ∧ Below w.heap.size w wr) (fun _ _ i _ => Q.length - (intOf i).toNat)
  case atStart => exact ⟨0, false, [], _, rfl, rfl, rfl, scanAt_zero Q, World.ownsRow_nil _ _ _ _, Below.refl _ _⟩
  case round =>
    obtain ⟨k, o, W, ov, rfl, hsv, hov, hat, hown, hbel⟩ := hrel
    have HO := Lib.hid hown
    have HB := Lib.hid hbel
    have hk : k ≤ Q.length := hat.1
    have hW : W.length ≤ k := hat.2.1
    have HA := Lib.hid hat
    clear hbel hat
    by_cases hlt : k < Q.length
    · obtain ⟨q, hqk⟩ : ∃ q, Q[k] = q := ⟨_, rfl⟩
      obtain ⟨g, rfl⟩ : ∃ g, A = some ⟨g, 0, none⟩ := by
        rcases H.out.2 with ⟨_, h0⟩ | ⟨g, cap', cur, hv, _⟩
        · omega
        · simp only [Value.slice.injEq, true_and] at hv; exact ⟨g, hv.1⟩
      have hcell : wr.cell? ⟨g, k, none⟩ = some (.string ⟨q.toArray⟩) := by
        have h1 := (own_over_below H.out HB.out).cellAt k (by omega)
        rw [h1, ← hqk]; simp [strV, hlt]
      have hqne : q ≠ [] := by rw [← hqk]; exact (NE.out _ (List.getElem_mem _)).1
      have hqlen : q.length ≤ 1048576 := by rw [← hqk]; exact (NE.out _ (List.getElem_mem _)).2
      have hqk2 := Lib.hid hqk
      clear hqk
      cases o
      · obtain rfl : ov = .int .i64 (-1) := hov
        subst hsv
        by_cases h92 : q = [92]
        · have E := Lib.hid (scanAt_stop HA.out hlt (by rw [hqk2.out]; exact h92))
          have t1 : (q == [92]) = true := by rw [h92]; rfl
          have t2 : (q == [40]) = false := by rw [h92]; rfl
          clear h92 hqne hown
          go_wp2
          go_ret2
          exact ⟨_, _, rfl, HB.out, .inl ⟨by rw [E.out], rfl, by rw [E.out]; exact HO.out⟩⟩
        · have t1 : (q == [92]) = false := by simpa using h92
          by_cases h40 : q = [40]
          · have E := Lib.hid (scanAt_round HA.out hlt (by rw [hqk2.out]; exact h40))
            have t2 : (q == [40]) = true := by rw [h40]; rfl
            clear h92 h40 hqne hown
            go_wp2
            go_roundw
            case rel => exact ⟨k + 1, true, W, _, by go_num, rfl, ⟨k, rfl⟩, E.out, HO.out, HB.out⟩
            case measure => simp [intOf]; omega
          · have t2 : (q == [40]) = false := by simpa using h40
            have E := Lib.hid (scanAt_keep HA.out hlt (by rw [hqk2.out]; exact h92) (by rw [hqk2.out]; exact h40))
            have SZ := HB.out.size
            clear h92 h40 hqne
            go_wp2_with (at_builtin; refine wpList_append_own _ rfl _ _ 24 rfl w.heap.size 9 i0 (.string ⟨#[]⟩) 1 16 Tryd.underlying24 hi hz0 hz1 hz2 rfl (by decide) _ _ _ rfl (hown.alloc _) ⟨wr.heap.size, 0, none⟩ 1 1 [.string ⟨q.toArray⟩] rfl rfl ?c1 ?c2 ?c3 ?c4 ?c5 ?_)
            case c1 => intro j u hu; match j, hu with | 0, hu => (simp at hu; subst hu; simp [Addr.add]) | j + 1, hu => simp at hu
            case c2 => intro u hu; simp at hu; subst hu; rfl
            case c3 => unfold maxLen; omega
            case c4 => omega
            case c5 => simp; omega
            intro v' wx hown' hgrow hnil
            have HX := Lib.hid (owns_below HB.out HO.out hgrow)
            have HOX := Lib.hid hown'
            clear hown' hgrow hown hnil
            go_wp2
            go_roundw
            case rel => exact ⟨k + 1, false, W ++ [Q[k]], _, by go_num, rfl, rfl, E.out, by
              have h1 := HOX.out
              rw [hqk2.out]
              rw [List.length_append, List.map_append]; exact h1, HX.out⟩
            case measure => simp [intOf]; omega
      · obtain ⟨m, rfl⟩ : ∃ m : Nat, ov = .int .i64 m := hov
        subst hsv
        have E := Lib.hid (scanAt_open HA.out hlt)
        have o1 : ((m : Int) != -1) = true := by rw [bne_iff_ne]; omega
        have SX := Lib.hid (suffix_any q wr hqne hqlen)
        cases hl : (q.getLast? == some 41)
        · have L : Hid ((Q[k].getLast? != some 41) = true) := Lib.hid (by rw [hqk2.out, bne, hl]; rfl)
          rw [hl] at SX
          clear hqne hown hl
          go_wp2_with fail
          refine SX.out.mono ?_
          rintro e w' ⟨rfl, rfl⟩
          go_wp2
          go_roundw
          case rel => exact ⟨k + 1, true, W, _, by go_num, rfl, ⟨m, rfl⟩, by rw [← L.out]; exact E.out, HO.out, HB.out⟩
          case measure => simp [intOf]; omega
        · have L : Hid ((Q[k].getLast? != some 41) = false) := Lib.hid (by rw [hqk2.out, bne, hl]; rfl)
          rw [hl] at SX
          clear hqne hown hl
          go_wp2_with fail
          refine SX.out.mono ?_
          rintro e w' ⟨rfl, rfl⟩
          go_wp2
          go_roundw
          case rel => exact ⟨k + 1, false, W, _, by go_num, rfl, rfl, by rw [← L.out]; exact E.out, HO.out, HB.out⟩
          case measure => simp [intOf]; omega
    · obtain rfl : k = Q.length := by omega
      have E := Lib.hid (scanAt_end HA.out)
      cases o
      · obtain rfl : ov = .int .i64 (-1) := hov
        subst hsv
        clear hown
        go_wp2
        go_ret2
        exact ⟨_, _, rfl, HB.out, .inl ⟨by rw [E.out]; rfl, rfl, by rw [E.out]; exact HO.out⟩⟩
      · obtain ⟨m, rfl⟩ : ∃ m : Nat, ov = .int .i64 m := hov
        subst hsv
        have o1 : ((m : Int) != -1) = true := by rw [bne_iff_ne]; omega
        have hg1 := (sents_below HS.out HB.out).2.1
        unfold mkE at hg1
        clear hown
        go_wp2
        go_quiet (fail)
        go_wp2
        go_ret2
        exact ⟨_, _, rfl, below_draws HB.out _, .inr ⟨by rw [E.out]; rfl, rfl, m, rfl⟩⟩

end Go.Proofs.YtjhnhlknfkiodaaDoor
