/- CodeLines: impl's line, and impl's loop. -/
import Derived.Test.YtjlfbmplmddceaaDoorDgB
import Derived.Test.YtjlfbmplmddceaaDoorImpB
import Derived.Deep.RegionHeld3
import Derived.Lib.LaidTab
import Derived.Lib.AppendIntMem
import Derived.ChangeVars
namespace Go.Proofs.YtjlfbmplmddceaaDoor
open Go.RowKit
set_option linter.unusedVariables false
set_option linter.unusedSimpArgs false

/-- The tables that this needs: the dictionary's and the powers of ten. -/
def TabsI (w : World) : Prop := Tabs w ∧ Lib.TabIs Tryd.prog w "internal/strconv.uint64pow10" .u64 Lib.pow10Tab

theorem tabIs_below {w w' : World} (h : Lib.TabIs Tryd.prog w "internal/strconv.uint64pow10" .u64 Lib.pow10Tab) (hb : Below w.heap.size w w') : Lib.TabIs Tryd.prog w' "internal/strconv.uint64pow10" .u64 Lib.pow10Tab := by
  refine var?_below hb (show Tryd.prog.globalNamed "internal/strconv.uint64pow10" = some 2 by kernel_rfl) ?_ h
  unfold Lib.TabIs at h
  have hc := World.var?_cell (show Tryd.prog.globalNamed "internal/strconv.uint64pow10" = some 2 by kernel_rfl) h 0
  have h2 : w.cell? ⟨2, 0, none⟩ = some (.int .u64 1) := hc.trans (by rfl)
  exact World.block_lt_of_cell? w _ h2

theorem tabsI_below {w w' : World} (h : TabsI w) (hb : Below w.heap.size w w') : TabsI w' := ⟨tabs_below h.1 hb, tabIs_below h.2 hb⟩

theorem itoa_any (n : Int) (w : World) (h0 : -9223372036854775808 ≤ n) (h1 : n ≤ 9223372036854775807) (ht : TabsI w) :
    Calls Tryd.prog 80 #[.int .i64 n] w fun e w' => e = .returned (.string ⟨(Lib.itoa n).toArray⟩) ∧ Below w.heap.size w w' := by
  refine (Tryd.strconv_Itoa n h0 h1 w ht.2).mono ?_
  rintro e w' ⟨rfl, k, os, rfl⟩
  exact ⟨rfl, Lib.below_grow _ _ (Nat.le_refl _) _ _⟩

/-- What one line comes to: its text, how many cells it takes, the code. -/
def lineR (Q : List Wd) (c : List Int) (i : Nat) : ByteArray × Int × Int :=
  if ¬ (1 ≤ c.getD i 0 ∧ c.getD i 0 ≤ Q.length) then (⟨#[]⟩, 0, 13)
  else if opB (c.getD i 0) = false then (lnB i (Q.getD (c.getD i 0 - 1).toNat noWd), 1, 0)
  else if c.length ≤ i + 1 then (⟨#[]⟩, 0, 8)
  else (lnB i (Q.getD (c.getD i 0 - 1).toNat noWd) ++ lnO (c.getD (i + 1) 0), 2, 0)

theorem lineR_bad {Q : List Wd} {c : List Int} {i : Nat} (h : ¬ (1 ≤ c.getD i 0 ∧ c.getD i 0 ≤ Q.length)) : lineR Q c i = (⟨#[]⟩, 0, 13) := by unfold lineR; rw [if_pos h]
theorem lineR_one {Q : List Wd} {c : List Int} {i k : Nat} (h : c.getD i 0 = (k : Int) + 1) (hk : k < Q.length) (ho : opB ((k : Int) + 1) = false) : lineR Q c i = (lnB i Q[k], 1, 0) := by
  unfold lineR
  rw [h, if_neg (by omega), if_pos ho, show ((k : Int) + 1 - 1).toNat = k by omega, List.getD_eq_getElem?_getD, List.getElem?_eq_getElem hk]
  rfl
theorem lineR_end {Q : List Wd} {c : List Int} {i k : Nat} (h : c.getD i 0 = (k : Int) + 1) (hk : k < Q.length) (ho : opB ((k : Int) + 1) = true) (hl : c.length ≤ i + 1) : lineR Q c i = (⟨#[]⟩, 0, 8) := by
  unfold lineR
  rw [h, if_neg (by omega), if_neg (by rw [ho]; simp), if_pos hl]
theorem lineR_two {Q : List Wd} {c : List Int} {i k : Nat} (h : c.getD i 0 = (k : Int) + 1) (hk : k < Q.length) (ho : opB ((k : Int) + 1) = true) (hl : ¬ c.length ≤ i + 1) : lineR Q c i = (lnB i Q[k] ++ lnO (c.getD (i + 1) 0), 2, 0) := by
  unfold lineR
  rw [h, if_neg (by omega), if_neg (by rw [ho]; simp), if_neg hl, show ((k : Int) + 1 - 1).toNat = k by omega, List.getD_eq_getElem?_getD, List.getElem?_eq_getElem hk]
  rfl

theorem getD_at {c : List Int} {i : Nat} (h : i < c.length) : c.getD i 0 = c[i] := by rw [List.getD_eq_getElem?_getD, List.getElem?_eq_getElem h]; rfl

/-- What a line leaves. -/
def LineRes (w : World) (r : ByteArray × Int × Int) (e : Ending) (w' : World) : Prop := e = .returned (.tuple #[.string r.1, .int .i64 r.2.1, .int .i64 r.2.2]) ∧ Below w.heap.size w w'

set_option maxRecDepth 100000 in
set_option maxHeartbeats 4000000 in
theorem codeLine_any (v u : Value) (Q : List Wd) (c : List Int) (i : Nat) (w : World) (hv : Wds w v Q) (hu : Ints w u c) (hd : dictB Q = true) (hi : i < c.length) (hz : ∀ z ∈ c, -9223372036854775808 ≤ z ∧ z ≤ 9223372036854775807) (ht : TabsI w) :
    Calls Tryd.prog 38 #[v, u, .int .i64 i] w (LineRes w (lineR Q c i)) := by
  have HT := Lib.hid ht
  have HV := Lib.hid hv
  have HU := Lib.hid hu
  have HZ := Lib.hid hz
  have DN := Lib.hid (dict_names hd)
  obtain ⟨A, ca, rfl, hcap, hl, hn⟩ := wds_form hv
  obtain ⟨lc, B, cb, rfl, hc⟩ := hu
  obtain ⟨ad, rfl, hc2⟩ := hc (by omega)
  have ci := hc2 i hi
  have HC := Lib.hid hc2
  have gi := getD_at hi
  have zi := hz _ (List.getElem_mem hi)
  unfold maxLen at hl lc
  clear hn hcap hz ht hv hc hc2
  by_cases hr : 1 ≤ c[i] ∧ c[i] ≤ Q.length
  rotate_left
  · have E := Lib.hid (lineR_bad (Q := Q) (c := c) (i := i) (by rw [gi]; exact hr))
    rw [E.out]
    generalize c[i] = n at *
    by_cases h1 : n < 1
    · go_enter Tryd.func38, Tryd.ntmps38
      go_wp2
      go_ret3
      exact ⟨rfl, Below.refl _ _⟩
    · have h2 : (Q.length : Int) < n := by omega
      go_enter Tryd.func38, Tryd.ntmps38
      go_wp2
      go_ret3
      exact ⟨rfl, Below.refl _ _⟩
  · obtain ⟨k, hk⟩ : ∃ k : Nat, c[i] = (k : Int) + 1 := ⟨(c[i] - 1).toNat, by omega⟩
    have kq : k < Q.length := by omega
    have gk : c.getD i 0 = (k : Int) + 1 := by rw [gi, hk]
    rw [hk] at ci
    clear gi zi hr hk
    obtain ⟨g, rfl⟩ : ∃ g, A = some ⟨g, 0, none⟩ := wds_block HV.out (by omega)
    obtain ⟨a0, a1, a2⟩ := wds_word HV.out k kq
    have sx := DN.out k kq
    have IT : Hid (∀ W, TabsI W → W.cell? ⟨g, k * 3, none⟩ = some (.string Q[k].n) → Calls Tryd.prog 80 #[.int .i64 (i : Int)] W fun e w' => e = .returned (.string ⟨(Lib.itoa i).toArray⟩) ∧ w'.cell? ⟨g, k * 3, none⟩ = some (.string Q[k].n) ∧ Below W.heap.size W w') := Lib.hid fun W hW hq =>
      (itoa_any i W (by omega) (by omega) hW).mono fun e w' ⟨h1, h2⟩ => ⟨h1, (h2.cell (World.block_lt_of_cell? _ _ hq)).trans hq, h2⟩
    have il := itoa_len i (by omega) (by omega)
    have is_ := str_size (Lib.itoa i)
    have LB : Hid (((⟨(Lib.itoa i).toArray⟩ : ByteArray) ++ ⟨#[32]⟩ ++ Q[k].n) = lnB i Q[k]) := Lib.hid rfl
    have ss : ((⟨(Lib.itoa i).toArray⟩ : ByteArray) ++ ⟨#[32]⟩).size = (Lib.itoa i).length + 1 := by rw [ByteArray.size_append, is_]; rfl
    have ls := lnB_size i Q[k] (by omega) (by omega) sx
    have n1 : IntKind.i64.wrap ((k : Int) + 1) = (k : Int) + 1 := IntWalk.i64_in _ (by omega)
    have n2 : ((k : Int) + 1) - 1 = k := by omega
    have n3 : ¬ ((k : Int) + 1 < 1) := by omega
    have n4 : ¬ ((Q.length : Int) < (k : Int) + 1) := by omega
    have n5 : IntKind.i64.wrap ((k : Int) + 1 - 1) = k := by rw [n2]; exact IntWalk.i64_in _ (by omega)
    have n6 : IntKind.i64.wrap (k : Int) = k := IntWalk.i64_in _ (by omega)
    have b0 : (0 : Int) ≤ k := by omega
    have b1 : (k : Int) < Q.length := by omega
    have sz1 : ¬ (9223372036854775807 < (Lib.itoa i).length + 1) := by omega
    have sz2 : ¬ (9223372036854775807 < (Lib.itoa i).length + 1 + Q[k].n.size) := by omega
    have R1 := Lib.hid (fun h => lineR_one gk kq h)
    have R2 := Lib.hid (fun h h' => lineR_end gk kq h h')
    have R3 := Lib.hid (fun h h' => lineR_two gk kq h h')
    have K0 := Lib.hid a0
    generalize Q[k] = x at *
    go_enter Tryd.func38, Tryd.ntmps38
    go_wp2
    go_region_held3 (fun w' => w'.cell? ⟨g, k * 3, none⟩ = some (.string x.n)) (first | exact a0 | exact hc1)
      (first | (go_at_call 80; refine (IT.out _ (tabsI_below HT.out (Below.refl _ _).drew) a0).mono ?_; rintro e w1 ⟨rfl, hc1, hb⟩; have B1 := Lib.hid (below_stepW (Below.refl w.heap.size w).drew hb); clear hb))
    rw [LB.out]
    generalize lnB i x = ln at *
    clear a0 a1 a2 hc1 IT LB ss is_ il sz1 sz2 K0 sx
    have ci1 := (B1.out.cell (World.block_lt_of_cell? _ _ ci)).trans ci
    clear ci
    cases ho : opB ((k : Int) + 1)
    · have E := Lib.hid (R1.out ho)
      go_wp2_with (go_at_call 81; refine (hasOperand_any _ _).mono ?_; rintro e w' ⟨rfl, rfl⟩)
      go_ret3
      exact ⟨by rw [E.out]; rfl, B1.out⟩
    · by_cases hl2 : c.length ≤ i + 1
      · have E := Lib.hid (R2.out ho hl2)
        have m1 : (c.length : Int) ≤ (i : Int) + 1 := by omega
        go_wp2_with (go_at_call 81; refine (hasOperand_any _ _).mono ?_; rintro e w' ⟨rfl, rfl⟩)
        go_ret3
        exact ⟨by rw [E.out]; rfl, B1.out⟩
      · have E := Lib.hid (R3.out ho hl2)
        have m1 : ¬ ((c.length : Int) ≤ (i : Int) + 1) := by omega
        have ai := HC.out (i + 1) (by omega)
        have ai1 := (B1.out.cell (World.block_lt_of_cell? _ _ ai)).trans ai
        rw [Addr.add_succ'] at ai1
        have gi := getD_at (c := c) (i := i + 1) (by omega)
        have zz := HZ.out _ (List.getElem_mem (show i + 1 < c.length by omega))
        rw [gi] at E
        generalize c[i + 1] = n at *
        clear ai gi HC HZ
        have j1 : IntKind.i64.wrap ((i : Int) + 1) = (i : Int) + 1 := IntWalk.i64_in _ (by omega)
        have j2 : (i : Int) + 1 < c.length := by omega
        have j3 : (0 : Int) ≤ (i : Int) + 1 := by omega
        have il := itoa_len n zz.1 zz.2
        have is_ := str_size (Lib.itoa n)
        have sz3 : ¬ (9223372036854775807 < ln.size + 1) := by omega
        have sz4 : ¬ (9223372036854775807 < ln.size + 1 + (Lib.itoa n).length) := by omega
        have CT : Hid ((ln ++ (⟨#[32]⟩ : ByteArray) ++ ⟨(Lib.itoa n).toArray⟩) = ln ++ lnO n) := Lib.hid (by unfold lnO; rw [ByteArray.append_assoc])
        go_wp2_with (first | (go_at_call 81; refine (hasOperand_any _ _).mono ?_; rintro e w' ⟨rfl, rfl⟩) | fail)
        refine (itoa_any n _ zz.1 zz.2 (tabsI_below HT.out B1.out)).mono ?_
        rintro e w2 ⟨rfl, hb⟩
        have B2 := Lib.hid (below_stepW B1.out hb)
        clear hb
        go_wp2
        go_ret3
        exact ⟨by rw [E.out, ← CT.out]; rfl, B2.out⟩

end Go.Proofs.YtjlfbmplmddceaaDoor
