/- The law on the cells' texts, walked: at two codes that are not too long. -/
import Derived.Test.YtfiildimochcgaaDoorTextR
import Derived.Test.YtfiildimochcgaaDoorFmtE
import Derived.Test.YtfiildimochcgaaDoorReadB
import Derived.Test.YtfiildimochcgaaDoorSrcB
import Derived.Test.YtfiildimochcgaaDoorAtA
import Derived.Laws.AppendOwn
import Derived.Laws.OwnMore
import Derived.OwnWalk
namespace Go.Proofs.YtfiildimochcgaaDoor
open Go.RowKit
set_option linter.unusedVariables false
set_option linter.unusedSimpArgs false

theorem tabs_below {w w' : World} (h : Tabs w) (hb : Below w.heap.size w w') : Tabs w' :=
  ⟨tz_below h.1 hb, var?_below hb (show Tryd.prog.globalNamed "internal/strconv.uint64pow10" = some 2 by kernel_rfl) (by
    have h2 := h.2
    unfold Lib.TabIs at h2
    have := World.var?_cell (show Tryd.prog.globalNamed "internal/strconv.uint64pow10" = some 2 by kernel_rfl) h2 0
    exact lt_cell (x := ⟨2, 0, none⟩) (this.trans (by rfl))) h.2⟩

theorem cellText_ok (n : Int) (b : Nat) (w : World) (ht : Tabs w) (hb : 2 ≤ b) (hb' : b ≤ 16) (h1 : -2147483648 ≤ n) (h2 : n ≤ 2147483647) :
    Calls Tryd.prog 9 #[.int .i64 n, .int .i64 b] w fun e w' => e = .returned (.tuple #[.string ⟨(textL upD b n).toArray⟩, .int .i64 0]) ∧ Below w.heap.size w w' := by
  have h := ct_yes (D := upD) (n := n) (base := (b : Int)) (cellB_true.2 ⟨h1, h2⟩) (by unfold inB; simp; omega)
  refine (cellText_any n b w ht).mono ?_
  rintro e w' ⟨rfl, hb⟩
  exact ⟨by rw [h.1, h.2]; simp, hb⟩

theorem sCellText_ok (n : Int) (b : Nat) (w : World) (hb : 2 ≤ b) (hb' : b ≤ 16) (h1 : -2147483648 ≤ n) (h2 : n ≤ 2147483647) :
    Calls Tryd.prog 10 #[.int .i64 n, .int .i64 b] w fun e w' => e = .returned (.tuple #[.string ⟨(textL upD b n).toArray⟩, .int .i64 0]) ∧ Below w.heap.size w w' := by
  have h := ct_yes (D := upD) (n := n) (base := (b : Int)) (cellB_true.2 ⟨h1, h2⟩) (by unfold inB; simp; omega)
  refine (sCellText_any n b w).mono ?_
  rintro e w' ⟨rfl, hb⟩
  exact ⟨by rw [h.1, h.2]; simp, hb⟩

theorem cellText_no (n : Int) (w : World) (ht : Tabs w) :
    Calls Tryd.prog 9 #[.int .i64 n, .int .i64 17] w fun e w' => e = .returned (.tuple #[.string ⟨#[]⟩, .int .i64 4]) ∧ Below w.heap.size w w' := by
  have h := ct_no (D := upD) (n := n) (base := 17) (.inr (by decide))
  refine (cellText_any n 17 w ht).mono ?_
  rintro e w' ⟨rfl, hb⟩
  exact ⟨by rw [h.1, h.2], hb⟩

theorem read_gives (l : List UInt8) (v c : Int) (b : Nat) (w : World) (hl : l.length ≤ 34) (hv : rcV b l = v ∧ rcC b l = c) :
    Calls Tryd.prog 11 #[.string ⟨l.toArray⟩, .int .i64 b] w fun e w' => e = .returned (.tuple #[.int .i64 v, .int .i64 c]) ∧ w = w' := by
  refine (read_any ⟨l.toArray⟩ b w (by show l.toArray.size ≤ _; unfold maxLen; simp; omega)).mono ?_
  rintro e w' ⟨rfl, rfl⟩
  exact ⟨ret_ii hv.1 hv.2, rfl⟩

theorem at_lit (a : Option Addr) (len cap : Nat) (zs : List Int) (w : World) (h : BRow w a len cap zs) (hlx : len ≤ 1048576) :
    Calls Tryd.prog 8 #[.slice a len cap, .int .i64 0, .int .i64 15] w (AtPost w 15) :=
  at_any a len cap zs 0 15 w h hlx (by omega) (by omega) (by omega)

theorem info5 : (Tryd.prog.info? 5).map (fun i => (i.zero, i.size, i.bytes)) = some (some (.int .u8 0), 1, 1) := by kernel_rfl

theorem below_append {w wr wx : World} {o : Obj} {v : Value} {k : Nat} {xs : List Value} {e : TypeId} (hb : Below w.heap.size w wr) (ho : wr.ownsRow w.heap.size e 1 v k xs) (hg : (wr.alloc o).grownBy wx v.ownBlock) : Below w.heap.size w wx :=
  (hb.alloc hb.size o).grown hg (by have := hb.size; simp; omega) (fun r hr => (ho.lt r hr).1)

theorem own_form {w : World} {base : Nat} {e : TypeId} {v : Value} {n : Nat} {xs : List Value} (h : w.ownsRow base e 1 v n xs) (hn : 0 < n) : ∃ g cap, v = .slice (some ⟨g, 0, none⟩) n cap := by
  obtain ⟨_, h | ⟨g, cap, cur, hv, _⟩⟩ := h
  · omega
  · exact ⟨g, cap, hv⟩

theorem own_conv {w : World} {base g cap : Nat} {l : List UInt8} (h : w.ownsRow base 5 1 (.slice (some ⟨g, 0, none⟩) l.length cap) l.length ((l.take l.length).map fun c => .int .u8 ((smallB c).toNat : Int))) :
    (convert 22 9 (.slice (some ⟨g, 0, none⟩) l.length cap)).run Tryd.prog w = .ok (.string ⟨(l.map smallB).toArray⟩) w := by
  have h2 := run_convert_bytes_back (P := Tryd.prog) w 22 9 5 ⟨g, 0, none⟩ cap (l.map smallB) Tryd.underlying22 Tryd.underlying5 Tryd.underlying9 (fun j hj => by
    have hj' : j < l.length := by simpa using hj
    have h3 := h.cellAt j (by omega)
    rw [Addr.add_lit, Nat.zero_add, h3]
    simp [hj'])
  rw [List.length_map] at h2
  exact h2

/-- What a law leaves: true; of what was there nothing has turned. -/
def Fin (w : World) (e : Ending) (w' : World) : Prop := e = .returned (.bool true) ∧ Below w.heap.size w w'

theorem below_draws {B : Nat} {w w' : World} (h : Below B w w') (n : Nat) : Below B w (w'.drewN n) := ⟨h.os, h.tape, h.output, h.size, h.block⟩

set_option maxRecDepth 100000 in
set_option maxHeartbeats 4000000 in
theorem texts_core (a0 : Option Addr) (len0 : Nat) (cap0 : Nat) (z0 : List Int) (a1 : Option Addr) (len1 : Nat) (cap1 : Nat) (z1 : List Int) (w : World) (g0 : BRow w a0 len0 cap0 z0) (g1 : BRow w a1 len1 cap1 z1) (l0 : len0 ≤ 1048576) (l1 : len1 ≤ 1048576) (ht : Tabs w) :
    Calls Tryd.prog 3 #[.slice a0 len0 cap0, .slice a1 len1 cap1] w (Fin w) := by
  have G0 := Lib.hid g0
  have G1 := Lib.hid g1
  have HT := Lib.hid ht
  clear g0 g1 ht
  go_enter Tryd.func3, Tryd.ntmps3
  go_wp2_with fail
  refine (cellDrawn_any _ _ _ _ _ G0.out (by omega)).mono ?_
  rintro e w1 ⟨n, hn, rfl, hb⟩
  have B1 := Lib.hid hb
  obtain ⟨n1, n2⟩ := hn
  clear hb
  go_wp2_with fail
  refine (at_lit _ _ _ _ _ (brow_below G1.out B1.out) (by omega)).mono ?_
  rintro e w2 ⟨v, k, hv, rfl, rfl⟩
  obtain ⟨v1, v2⟩ := hv
  obtain ⟨m, rfl⟩ := Int.eq_ofNat_of_zero_le v1
  have B2 := Lib.hid (below_draws B1.out k)
  obtain ⟨b, hb⟩ : ∃ b : Nat, 2 + (m : Int) = b := ⟨m + 2, by omega⟩
  have b1 : 2 ≤ b := by omega
  have b2 : b ≤ 16 := by omega
  go_wp2_with fail
  clear hb v1 v2
  refine (cellText_ok n b _ (tabs_below HT.out B2.out) b1 b2 n1 n2).mono ?_
  rintro e w3 ⟨rfl, hb⟩
  have B3 := Lib.hid (B2.out.trans (hb.mono B2.out.size))
  clear hb
  have R1 := Lib.hid (text_back (D := upD) up_dig b1 b2 n1 n2)
  have R2 := Lib.hid (text_back (D := lowD) low_dig b1 b2 n1 n2)
  have LN := text_len33 b1 n1 n2 (D := upD)
  have NE := Lib.hid (text_ne b1 n (D := upD))
  have SM := Lib.hid (small_text b1 b2 n)
  have L9 := Lib.hid (text_le90 b1 b2 n)
  have SC := fun W => sCellText_ok n b W b1 b2 n1 n2
  generalize textL upD b n = l at *
  have SC := Lib.hid SC
  go_wp2_with fail
  refine (SC.out _).mono ?_
  rintro e w4 ⟨rfl, hb⟩
  have B4 := Lib.hid (B3.out.trans (hb.mono B3.out.size))
  clear hb
  go_wp2_with fail
  refine (read_gives l n 0 b _ (by omega) R1.out).mono ?_
  rintro e w5 ⟨rfl, rfl⟩
  go_wp2_with fail
  obtain ⟨i0, hi, hz0, hz1, hz2⟩ := info_parts info5
  go_loopw [14, 13] (fun i v wr => ∃ k : Nat, k ≤ l.length ∧ i = .int .i64 k ∧ wr.ownsRow w.heap.size 5 1 v k ((l.take k).map fun c => .int .u8 ((smallB c).toNat : Int)) ∧ Below w.heap.size w wr) (fun i _ _ => l.length - (intOf i).toNat)
  case atStart => exact ⟨0, Nat.zero_le _, rfl, World.ownsRow_made w4 #[] 0 B4.out.size (by unfold maxLen; omega) rfl, B4.out.alloc B4.out.size _⟩
  case round =>
    obtain ⟨k, hk, rfl, hown, hbel⟩ := hrel
    have HO := Lib.hid hown
    have HB := Lib.hid hbel
    by_cases hlt : k < l.length
    · have hk2 : k < (⟨l.toArray⟩ : ByteArray).size := by show k < l.toArray.size; simpa using hlt
      obtain ⟨c, hcl⟩ : ∃ c : UInt8, l[k] = c := ⟨_, rfl⟩
      have hc : (⟨l.toArray⟩ : ByteArray)[k]'hk2 = c := by rw [← hcl]; rfl
      have h90 : c.toNat ≤ 90 := by rw [← hcl]; exact L9.out _ (List.getElem_mem _)
      have TK : l.take (k + 1) = l.take k ++ [c] := by rw [List.take_succ_eq_append_getElem hlt, hcl]
      by_cases hbig : 65 ≤ c.toNat
      · have NXT : Hid (((l.take (k + 1)).map fun c => Value.int .u8 ((smallB c).toNat : Int)) = ((l.take k).map fun c => Value.int .u8 ((smallB c).toNat : Int)) ++ [.int .u8 ((c.toNat : Int) + 32)]) := Lib.hid (by
          rw [TK, List.map_append]
          have e : (smallB c).toNat = c.toNat + 32 := by unfold smallB; rw [if_pos hbig, UInt8.toNat_add]; have : (32 : UInt8).toNat = 32 := rfl; omega
          simp [e])
        clear hbel TK hcl
        go_wp2_with (at_builtin; refine wpList_append_own _ rfl _ _ 22 rfl w.heap.size 5 i0 (.int .u8 0) 1 1 Tryd.underlying22 hi hz0 hz1 hz2 rfl (by decide) _ _ _ rfl (hown.alloc _) ⟨wr.heap.size, 0, none⟩ 1 1 [.int .u8 ((c.toNat : Int) + 32)] rfl rfl ?c1 ?c2 ?c3 ?c4 ?c5 ?_)
        case c1 => intro j u hu; match j, hu with | 0, hu => (simp at hu; subst hu; simp [Addr.add]) | j + 1, hu => simp at hu
        case c2 => intro u hu; simp at hu; subst hu; rfl
        case c3 => unfold maxLen; omega
        case c4 => omega
        case c5 => have := HB.out.size; simp; omega
        intro v' wx hown' hgrow _
        have HX := Lib.hid (below_append HB.out HO.out hgrow)
        have HOX := Lib.hid hown'
        clear hown' hgrow hown
        go_wp2
        go_roundw
        case rel => exact ⟨k + 1, by omega, by go_num, by rw [NXT.out, List.map_take]; exact HOX.out, HX.out⟩
        case measure => simp [intOf]; omega
      · have NXT : Hid (((l.take (k + 1)).map fun c => Value.int .u8 ((smallB c).toNat : Int)) = ((l.take k).map fun c => Value.int .u8 ((smallB c).toNat : Int)) ++ [.int .u8 (c.toNat : Int)]) := Lib.hid (by
          rw [TK, List.map_append]
          have e : smallB c = c := by unfold smallB; rw [if_neg hbig]
          simp [e])
        clear hbel TK hcl
        go_wp2_with (at_builtin; refine wpList_append_own _ rfl _ _ 22 rfl w.heap.size 5 i0 (.int .u8 0) 1 1 Tryd.underlying22 hi hz0 hz1 hz2 rfl (by decide) _ _ _ rfl (hown.alloc _) ⟨wr.heap.size, 0, none⟩ 1 1 [.int .u8 (c.toNat : Int)] rfl rfl ?c1 ?c2 ?c3 ?c4 ?c5 ?_)
        case c1 => intro j u hu; match j, hu with | 0, hu => (simp at hu; subst hu; simp [Addr.add]) | j + 1, hu => simp at hu
        case c2 => intro u hu; simp at hu; subst hu; rfl
        case c3 => unfold maxLen; omega
        case c4 => omega
        case c5 => have := HB.out.size; simp; omega
        intro v' wx hown' hgrow _
        have HX := Lib.hid (below_append HB.out HO.out hgrow)
        have HOX := Lib.hid hown'
        clear hown' hgrow hown
        go_wp2
        go_roundw
        case rel => exact ⟨k + 1, by omega, by go_num, by rw [NXT.out, List.map_take]; exact HOX.out, HX.out⟩
        case measure => simp [intOf]; omega
    · obtain rfl : k = l.length := by omega
      have hpos : 0 < l.length := by
        have := NE.out
        cases l with
        | nil => exact absurd rfl this
        | cons c r => simp
      obtain ⟨g, cap, hv⟩ := own_form HO.out hpos
      subst hv
      have hcv := own_conv HO.out
      have RG := Lib.hid (text_bad b1 b2 NE.out LN)
      have R3 : Hid (rcV b (l.map smallB) = n ∧ rcC b (l.map smallB) = 0) := Lib.hid (by rw [SM.out]; exact R2.out)
      have LS : (l.map smallB).length ≤ 34 := by simp; omega
      clear hown hbel hlt
      generalize l.map smallB = q at *
      go_wp2_with fail
      refine (read_gives q n 0 b _ LS R3.out).mono ?_
      rintro e wy ⟨rfl, rfl⟩
      go_wp2_with fail
      rw [app_one]
      refine (read_gives (l ++ [71]) 0 3 b _ (by simp; omega) RG.out).mono ?_
      rintro e wy ⟨rfl, rfl⟩
      go_wp2_with fail
      refine (cellText_no n _ (tabs_below HT.out HB.out)).mono ?_
      rintro e wz ⟨rfl, hbz⟩
      have BZ := Lib.hid (HB.out.trans (hbz.mono HB.out.size))
      clear hbz
      go_wp2
      go_ret
      exact ⟨rfl, BZ.out⟩

set_option maxRecDepth 100000 in
theorem texts_long (a0 : Option Addr) (len0 : Nat) (cap0 : Nat) (a1 : Option Addr) (len1 : Nat) (cap1 : Nat) (w : World) (h : 1048576 < len0 ∨ 1048576 < len1) :
    Calls Tryd.prog 3 #[.slice a0 len0 cap0, .slice a1 len1 cap1] w (Fin w) := by
  by_cases h0 : 1048576 < len0
  · clear h
    go_enter Tryd.func3, Tryd.ntmps3
    go_wp2
    go_ret
    exact ⟨rfl, Below.refl _ _⟩
  · have h1 : 1048576 < len1 := by omega
    clear h
    go_enter Tryd.func3, Tryd.ntmps3
    go_wp2
    go_ret
    exact ⟨rfl, Below.refl _ _⟩

end Go.Proofs.YtfiildimochcgaaDoor
