/- CodeLines: what it comes to; impl's loop. -/
import Derived.Test.YtjlfbmplmddceaaDoorDgC
import Derived.Test.YtjlfbmplmddceaaDoorWordsM
namespace Go.Proofs.YtjlfbmplmddceaaDoor
open Go.RowKit
set_option linter.unusedVariables false
set_option linter.unusedSimpArgs false

/-- The lines from an address on. -/
def goL (Q : List Wd) (c : List Int) : Nat → Nat → List (List UInt8) → List (List UInt8) × Int
  | 0, _, _ => ([], 8)
  | f + 1, i, acc =>
    if i < c.length then
      if (lineR Q c i).2.2 ≠ 0 then ([], (lineR Q c i).2.2)
      else if c.getD i 0 = 53 then (acc ++ [bl (lineR Q c i).1], 0)
      else goL Q c f (i + (lineR Q c i).2.1.toNat) (acc ++ [bl (lineR Q c i).1])
    else ([], 8)

/-- What CodeLines comes to. -/
def linesR (Q : List Wd) (c : List Int) (a : Int) : List (List UInt8) × Int :=
  if 4096 < Q.length ∨ 4096 < c.length then ([], 2)
  else if dictB Q = false then ([], 1)
  else if inB a 0 c.length = false then ([], 4)
  else goL Q c (c.length + 1) a.toNat []

theorem goL_end {Q : List Wd} {c : List Int} {f i : Nat} {acc : List (List UInt8)} (h : c.length ≤ i) (hf : c.length + 1 ≤ f + i) : goL Q c f i acc = ([], 8) := by
  match f with
  | 0 => rfl
  | f + 1 => unfold goL; rw [if_neg (by omega)]

theorem goL_bad {Q : List Wd} {c : List Int} {f i : Nat} {acc : List (List UInt8)} (h : i < c.length) (hf : c.length + 1 ≤ f + i) (hp : (lineR Q c i).2.2 ≠ 0) : goL Q c f i acc = ([], (lineR Q c i).2.2) := by
  match f with
  | 0 => omega
  | f + 1 => unfold goL; rw [if_pos h, if_pos hp]

theorem goL_exit {Q : List Wd} {c : List Int} {f i : Nat} {acc : List (List UInt8)} (h : i < c.length) (hf : c.length + 1 ≤ f + i) (hp : (lineR Q c i).2.2 = 0) (he : c.getD i 0 = 53) : goL Q c f i acc = (acc ++ [bl (lineR Q c i).1], 0) := by
  match f with
  | 0 => omega
  | f + 1 => unfold goL; rw [if_pos h, if_neg (by rw [hp]; simp), if_pos he]

theorem goL_next {Q : List Wd} {c : List Int} {f i : Nat} {acc : List (List UInt8)} (h : i < c.length) (hf : c.length + 1 ≤ f + i) (hp : (lineR Q c i).2.2 = 0) (he : ¬ c.getD i 0 = 53) :
    ∃ f', f = f' + 1 ∧ goL Q c f i acc = goL Q c f' (i + (lineR Q c i).2.1.toNat) (acc ++ [bl (lineR Q c i).1]) := by
  match f with
  | 0 => omega
  | f + 1 => exact ⟨f, rfl, by conv => lhs; unfold goL
                               rw [if_pos h, if_neg (by rw [hp]; simp), if_neg he]⟩

/-- A line that stands takes one cell or two, within the code. -/
theorem lineR_fine {Q : List Wd} {c : List Int} {i : Nat} (h : i < c.length) (hp : (lineR Q c i).2.2 = 0) : (lineR Q c i).2.1 = 1 ∨ ((lineR Q c i).2.1 = 2 ∧ i + 1 < c.length) := by
  unfold lineR at *
  split at hp
  · simp at hp
  · rw [if_neg (by assumption)]
    split at hp
    · rw [if_pos (by assumption)]; exact .inl rfl
    · rw [if_neg (by assumption)]
      split at hp
      · simp at hp
      · rw [if_neg (by assumption)]
        exact .inr ⟨rfl, by omega⟩

theorem lineR_codes (Q : List Wd) (c : List Int) (i : Nat) : (lineR Q c i).2.2 = 0 ∨ (lineR Q c i).2.2 = 13 ∨ (lineR Q c i).2.2 = 8 := by
  unfold lineR
  split
  · exact .inr (.inl rfl)
  · split
    · exact .inl rfl
    · split
      · exact .inr (.inr rfl)
      · exact .inl rfl

/-- What CodeLines leaves. -/
def LinesOf (w : World) (r : List (List UInt8) × Int) (e : Ending) (w' : World) : Prop := ∃ v, e = .returned (.tuple #[v, .int .i64 r.2]) ∧ w'.ownsRow w.heap.size 9 1 v r.1.length (r.1.map strV) ∧ Below w.heap.size w w'

theorem lines_nil (w : World) {w' : World} (n : Int) (hb : Below w.heap.size w w') : LinesOf w ([], n) (.returned (.tuple #[.slice none 0 0, .int .i64 n])) w' := ⟨_, rfl, World.ownsRow_nil _ _ _ 1, hb⟩

set_option maxRecDepth 100000 in
set_option maxHeartbeats 4000000 in
theorem iCodeLines_any (v u : Value) (Q : List Wd) (c : List Int) (a : Int) (w : World) (hv : Wds w v Q) (hu : Ints w u c) (hz : ∀ z ∈ c, -9223372036854775808 ≤ z ∧ z ≤ 9223372036854775807) (ht : TabsI w) :
    Calls Tryd.prog 11 #[v, u, .int .i64 a] w (LinesOf w (linesR Q c a)) := by
  have HT := Lib.hid ht
  have HV := Lib.hid hv
  have HU := Lib.hid hu
  have HZ := Lib.hid hz
  obtain ⟨A, ca, rfl, hcap, hl, hn⟩ := wds_form hv
  obtain ⟨lc, B, cb, rfl, -⟩ := hu
  unfold maxLen at hl lc
  clear hv hz ht hn hcap
  by_cases q1 : 4096 < Q.length
  · have E : Hid (linesR Q c a = ([], 2)) := Lib.hid (by unfold linesR; rw [if_pos (.inl q1)])
    go_enter Tryd.func11, Tryd.ntmps11
    go_wp2
    go_ret2
    rw [E.out]
    exact lines_nil w 2 (Below.refl _ _)
  by_cases q2 : 4096 < c.length
  · have E : Hid (linesR Q c a = ([], 2)) := Lib.hid (by unfold linesR; rw [if_pos (.inr q2)])
    go_enter Tryd.func11, Tryd.ntmps11
    go_wp2
    go_ret2
    rw [E.out]
    exact lines_nil w 2 (Below.refl _ _)
  have LE : Hid (linesR Q c a = if dictB Q = false then ([], 1) else if inB a 0 c.length = false then ([], 4) else goL Q c (c.length + 1) a.toNat []) := Lib.hid (by unfold linesR; rw [if_neg (by omega)])
  go_enter Tryd.func11, Tryd.ntmps11
  go_wp2_with fail
  refine (iDict_any _ Q _ HV.out HT.out.1).mono ?_
  rintro e w1 ⟨rfl, hb⟩
  have B1 := Lib.hid hb
  clear hb
  cases hd : dictB Q
  · have E : Hid (linesR Q c a = ([], 1)) := Lib.hid (by rw [LE.out, hd]; rfl)
    go_wp2
    go_ret2
    rw [E.out]
    exact lines_nil w 1 B1.out
  have LE2 : Hid (linesR Q c a = if inB a 0 c.length = false then ([], 4) else goL Q c (c.length + 1) a.toNat []) := Lib.hid (by rw [LE.out, hd]; rfl)
  by_cases h1 : a < 0
  · have E : Hid (linesR Q c a = ([], 4)) := Lib.hid (by rw [LE2.out, show inB a 0 c.length = false from decide_eq_false (by omega)]; rfl)
    go_wp2
    go_ret2
    rw [E.out]
    exact lines_nil w 4 B1.out
  by_cases h2 : (c.length : Int) < a
  · have E : Hid (linesR Q c a = ([], 4)) := Lib.hid (by rw [LE2.out, show inB a 0 c.length = false from decide_eq_false (by omega)]; rfl)
    go_wp2
    go_ret2
    rw [E.out]
    exact lines_nil w 4 B1.out
  obtain ⟨a0, rfl⟩ : ∃ n : Nat, a = (n : Int) := ⟨a.toNat, by omega⟩
  have LE3 : Hid (linesR Q c (a0 : Int) = goL Q c (c.length + 1) a0 []) := Lib.hid (by rw [LE2.out, show inB (a0 : Int) 0 c.length = true from decide_eq_true ⟨by omega, by omega⟩]; rfl)
  have h3 : a0 ≤ c.length := by omega
  generalize linesR Q c (a0 : Int) = R at *
  clear LE LE2 h1 h2 q1
  have HD := Lib.hid hd
  obtain ⟨i0, hi, hz0, hz1, hz2⟩ := info_parts own_info9
  go_wp2
  go_loopw [2, 8] (fun i ls wr => ∃ (f k : Nat) (acc : List (List UInt8)), i = .int .i64 k ∧ k ≤ c.length ∧ acc.length ≤ k ∧ c.length + 1 ≤ f + k ∧ R = goL Q c f k acc ∧ wr.ownsRow w.heap.size 9 1 ls acc.length (acc.map strV) ∧ Below w.heap.size w wr) (fun i _ _ => c.length + 1 - (intOf i).toNat)
  case atStart => exact ⟨c.length + 1, a0, [], rfl, h3, Nat.zero_le _, by omega, LE3.out, World.ownsRow_nil _ _ _ 1, B1.out⟩
  case round =>
    obtain ⟨f, k, acc, rfl, hk, hak, hf, hR, ho, hb⟩ := hrel
    have HB := Lib.hid hb
    have HO := Lib.hid ho
    have HR := Lib.hid hR
    clear hb ho hR
    by_cases hlt : k < c.length
    · have FB := Lib.hid (fun h => goL_bad (Q := Q) (acc := acc) hlt hf h)
      have FE := Lib.hid (fun h e => goL_exit (Q := Q) (acc := acc) hlt hf h e)
      have FN := Lib.hid (fun h e => goL_next (Q := Q) (acc := acc) hlt hf h e)
      have FF := Lib.hid (fun h => lineR_fine (Q := Q) (c := c) hlt h)
      have hcod := lineR_codes Q c k
      have gk := getD_at hlt
      go_wp2_with fail
      refine (codeLine_any _ _ Q c k _ (wds_below HV.out HB.out) (ints_below HU.out HB.out) HD.out hlt HZ.out (tabsI_below HT.out HB.out)).mono ?_
      rintro e w2 ⟨rfl, hb⟩
      have B2 := Lib.hid (below_stepW HB.out hb)
      have O2 := Lib.hid (own_over_below HO.out hb)
      have z2 := B2.out.size
      clear hb
      obtain ⟨_, A', ca', e', hc⟩ := HU.out
      simp only [Value.slice.injEq, true_and] at e'
      obtain ⟨rfl, rfl⟩ := e'
      obtain ⟨ad, rfl, hc2⟩ := hc (by omega)
      have ck0 := hc2 k hlt
      clear hc hc2
      rw [gk] at FE FN
      generalize c[k] = n at *
      generalize lineR Q c k = r at *
      obtain ⟨t, s, p⟩ := r
      simp only at *
      by_cases hp : p = 0
      rotate_left
      · have E := Lib.hid (HR.out.trans (FB.out hp))
        have p0 : (p != 0) = true := by rw [bne_iff_ne]; exact hp
        go_wp2
        go_ret2
        rw [E.out]
        exact lines_nil w p B2.out
      · subst hp
        have hs := FF.out (by first | rfl | trivial)
        have TS := Lib.hid (bl_str t)
        go_wp2_with (at_builtin; refine wpList_append_own _ rfl _ _ 25 rfl w.heap.size 9 i0 (.string ⟨#[]⟩) 1 16 Tryd.underlying25 hi hz0 hz1 hz2 rfl (by decide) _ _ _ rfl (O2.out.alloc _) ⟨w2.heap.size, 0, none⟩ 1 1 [.string t] rfl rfl ?c1 ?c2 ?c3 ?c4 ?c5 ?_)
        case c2 => first | rfl | (intro u hu; simp at hu; subst hu; rfl)
        case c3 => first | omega | (unfold maxLen; omega)
        case c4 => omega
        case c5 => first | omega | (simp; omega)
        intro v' wx hown' hgrow hnil
        have BX := Lib.hid (owns_below B2.out O2.out hgrow)
        have OX : Hid (wx.ownsRow w.heap.size 9 1 v' (acc ++ [bl t]).length ((acc ++ [bl t]).map strV)) := Lib.hid (by rw [List.length_append, List.map_append, List.map_cons, TS.out]; exact hown')
        clear hown' hgrow hnil
        have cx := (BX.out.cell (World.block_lt_of_cell? _ _ ck0)).trans ck0
        by_cases he : n = 53
        · have E := Lib.hid (HR.out.trans (FE.out (by first | rfl | trivial) he))
          have e1 : (n == 53) = true := by rw [beq_iff_eq]; exact he
          go_wp2
          go_ret2
          rw [E.out]
          exact ⟨_, rfl, OX.out, BX.out⟩
        · obtain ⟨f', rfl, hE⟩ := FN.out (by first | rfl | trivial) he
          have E := Lib.hid (HR.out.trans hE)
          have e1 : (n == 53) = false := by rw [beq_eq_false_iff_ne]; exact he
          clear hE he
          rcases hs with rfl | ⟨rfl, hs2⟩
          · go_wp2
            go_roundw
            case rel => exact ⟨_, _, _, _, ⟨f', k + 1, rfl, by omega, acc ++ [bl t], by simp; omega, by omega, E.out, OX.out, BX.out⟩, by go_num, rfl, rfl, rfl⟩
            case measure => simp [intOf]; omega
          · go_wp2
            go_roundw
            case rel => exact ⟨_, _, _, _, ⟨f', k + 2, rfl, by omega, acc ++ [bl t], by simp; omega, by omega, E.out, OX.out, BX.out⟩, by go_num, rfl, rfl, rfl⟩
            case measure => simp [intOf]; omega
    · obtain rfl : k = c.length := by omega
      have E := Lib.hid (HR.out.trans (goL_end (Nat.le_refl _) hf))
      go_wp2
      go_ret2
      rw [E.out]
      exact lines_nil w 8 HB.out

end Go.Proofs.YtjlfbmplmddceaaDoor
