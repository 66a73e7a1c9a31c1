/- PkF: several of my texts, laid together: PrmA, PrmB, MetA, EffA, AppA. -/
import Derived.Test.YthnbaeamekolmaaGreatDoorPkC
import Derived.Test.YthnbaeamekolmaaGreatDoorPkD
import Derived.Lib.SliceRun
import Derived.RegionTactic
import Derived.BigRegion
import Derived.Shelf.Abstract
import Derived.Deep.RegionHeld3
namespace Go.Proofs.YthnbaeamekolmaaGreatDoor
open Go.RowKit
set_option linter.unusedVariables false
set_option linter.unusedSimpArgs false

/-- The cell so many below the top; 0 where there is none. -/
def tp (d : Dt) (i : Nat) : Int := d.s.reverse.getD i 0
/-- How many cells of the stack a primitive takes. -/
def takesL : List Nat := [1, 1, 2, 2, 3, 2, 2, 1, 2, 2, 0, 1, 0, 0, 2, 2, 2, 2, 2, 2, 2, 2, 2, 2, 1, 1, 1, 1, 1, 2, 2, 2, 2, 2, 2, 2, 1, 1, 1, 2, 2, 0, 1, 1, 1, 1, 0, 0, 0, 0, 0, 0]
def takesP (p : Nat) : Nat := takesL.getD (p - 1) 0
/-- How many cells it wants on the other stack. -/
def needsP (p : Nat) : Nat := if p = 13 ∨ p = 14 ∨ p = 51 then 1 else if p = 52 then 2 else 0
/-- How many of them it drops. -/
def dropsP (p : Nat) : Nat := if p = 13 then 1 else if p = 52 then 2 else 0
/-- The cells that it takes, the top last. -/
def tkOf (d : Dt) (k : Nat) : List Int := if k = 1 then [tp d 0] else if k = 2 then [tp d 1, tp d 0] else if k = 3 then [tp d 2, tp d 1, tp d 0] else []
/-- A flag. -/
def flagI (b : Bool) : Int := if b then -1 else 0
/-- Something said. -/
def sayE (d : Dt) (t : ByteArray) : Dt × List Int × Int := if 300 < d.o.size + t.size then (d, [], -17) else ({ d with o := d.o ++ t }, [], 0)
/-- A byte as a text. -/
def byteT (c : Int) : ByteArray := ⟨#[UInt8.ofNat (c % 256).toNat]⟩
/-- A cell as a text, and a blank. -/
def cellT (d : Dt) (c : Int) : ByteArray := ⟨(textL upD d.n.toNat c ++ [32]).toArray⟩
/-- An operation on two cells. -/
def opE (d : Dt) (op b c : Int) : Dt × List Int × Int := if twoR op c = true then (d, [twoW op b c], 0) else (d, [], -10)
/-- Fetch, store, add. -/
def fetchE (d : Dt) (c : Int) : Dt × List Int × Int := match dPlace d c with | none => (d, [0], -9) | some k => (d, [d.c.getD k 0], 0)
def storeE (d : Dt) (b c : Int) : Dt × List Int × Int := match dPlace d c with | none => (d, [], -9) | some k => ({ d with c := d.c.set k b }, [], 0)
def addE (d : Dt) (b c : Int) : Dt × List Int × Int := match dPlace d c with | none => (d, [], -9) | some k => ({ d with c := d.c.set k (wrap32 (d.c.getD k 0 + b)) }, [], 0)
/-- The end of the cells moved. -/
def allotE (d : Dt) (c : Int) : Dt × List Int × Int := if goodMove d c then ({ d with c := zeroN d.c d.h.toNat (c.tdiv 4).toNat, h := d.h + c.tdiv 4 }, [], 0) else (d, [], -8)
def commaE (d : Dt) (c : Int) : Dt × List Int × Int := if goodMove d 4 then ({ d with c := (zeroN d.c d.h.toNat 1).set d.h.toNat c, h := d.h + 1 }, [], 0) else (d, [], -8)
/-- A cell moved to the other stack. -/
def backE (d : Dt) (c : Int) : Dt × List Int × Int := if d.b.length < 32 then ({ d with b := d.b ++ [c] }, [], 0) else (d, [], -5)

/-- What a primitive leaves of the data, which cells it lays on the stack, and its throw. -/
def eff (d : Dt) (p : Nat) : Dt × List Int × Int :=
  let a := tp d 2; let b := tp d 1; let c := tp d 0
  if p = 1 then (d, [c, c], 0) else if p = 2 then (d, [], 0) else if p = 3 then (d, [c, b], 0) else if p = 4 then (d, [b, c, b], 0)
  else if p = 5 then (d, [b, c, a], 0) else if p = 6 then (d, [c], 0) else if p = 7 then (d, [c, b, c], 0)
  else if p = 8 then (d, (if c = 0 then [0] else [c, c]), 0) else if p = 9 then (d, [b, c, b, c], 0) else if p = 10 then (d, [], 0)
  else if p = 11 then (d, [(d.s.length : Int)], 0)
  else if p = 12 then backE d c
  else if p = 13 ∨ p = 14 ∨ p = 51 then (d, [d.b.getLastD 0], 0)
  else if p ≤ 24 then opE d ((p : Int) - 14) b c
  else if p = 25 then (d, [wrap32 (-c)], 0) else if p = 26 then (d, [wrap32 (max c (-c))], 0) else if p = 27 then (d, [-c - 1], 0)
  else if p = 28 then (d, [wrap32 (c + 1)], 0) else if p = 29 then (d, [wrap32 (c - 1)], 0)
  else if p = 30 then (d, [min b c], 0) else if p = 31 then (d, [max b c], 0)
  else if p = 32 then (d, [flagI (b == c)], 0) else if p = 33 then (d, [flagI (b != c)], 0) else if p = 34 then (d, [flagI (decide (b < c))], 0)
  else if p = 35 then (d, [flagI (decide (c < b))], 0) else if p = 36 then (d, [flagI (decide (b % 4294967296 < c % 4294967296))], 0)
  else if p = 37 then (d, [flagI (c == 0)], 0) else if p = 38 then (d, [flagI (decide (c < 0))], 0)
  else if p = 39 then fetchE d c else if p = 40 then storeE d b c else if p = 41 then addE d b c
  else if p = 42 then (d, [4096 + 4 * d.h], 0)
  else if p = 43 then allotE d c else if p = 44 then commaE d c
  else if p = 45 then sayE d (byteT c) else if p = 46 then sayE d (cellT d c) else if p = 47 then sayE d ⟨#[10]⟩ else if p = 48 then sayE d ⟨#[32]⟩
  else if p = 49 then ({ d with n := 10 }, [], 0) else if p = 50 then ({ d with n := 16 }, [], 0)
  else (d, [], 0)

/-- What an effect comes to once its cells are laid down. -/
def finE (d : Dt) (k drops : Nat) (r : Dt × List Int × Int) : Dt × Int :=
  if r.2.2 ≠ 0 then (d, r.2.2) else if 32 < d.s.length - k + r.2.1.length then (d, -3)
  else ({ r.1 with s := d.s.take (d.s.length - k) ++ r.2.1, b := r.1.b.take (r.1.b.length - drops) }, 0)

/-- What a primitive comes to: the data, the throw. -/
def dPrim (d : Dt) (p : Nat) (f : Int) : Dt × Int :=
  if d.s.length < takesP p then (d, -4) else if (d.b.length : Int) - f < needsP p then (d, -6) else finE d (takesP p) (dropsP p) (eff d p)

/-- Cells laid over k on top. -/
def dPut (d : Dt) (k : Nat) (L : List Int) : Dt × Int := if 32 < d.s.length - k + L.length then (d, -3) else ({ d with s := d.s.take (d.s.length - k) ++ L }, 0)

theorem fin_put (d : Dt) (k : Nat) (L : List Int) : finE d k 0 (d, L, 0) = dPut d k L := by
  unfold finE dPut
  simp only [ne_eq, not_true_eq_false, if_false, Nat.sub_zero, List.take_length]

theorem fin_throw (d x : Dt) (k j : Nat) (L : List Int) (t : Int) (h : t ≠ 0) : finE d k j (x, L, t) = (d, t) := by
  unfold finE; simp only [ne_eq, h, not_false_eq_true, if_true]

theorem tp_at {d : Dt} {i : Nat} (h : i < d.s.length) : tp d i = d.s[d.s.length - 1 - i] := by
  unfold tp
  rw [List.getD_eq_getElem?_getD, List.getElem?_reverse h]
  simp [show d.s.length - 1 - i < d.s.length by omega]

theorem tp_out {d : Dt} {i : Nat} (h : d.s.length ≤ i) : tp d i = 0 := by
  unfold tp
  rw [List.getD_eq_getElem?_getD, List.getElem?_eq_none (by simp; omega)]; rfl

theorem tk_len (d : Dt) {k : Nat} (h : k ≤ 3) : (tkOf d k).length = k := by
  have : k = 0 ∨ k = 1 ∨ k = 2 ∨ k = 3 := by omega
  rcases this with rfl | rfl | rfl | rfl <;> rfl

theorem tk_at {d : Dt} {k : Nat} (h3 : k ≤ 3) (h : k ≤ d.s.length) : d.s.drop (d.s.length - k) = tkOf d k := by
  apply List.ext_getElem
  · rw [tk_len d h3, List.length_drop]; omega
  · intro i h1 h2
    rw [tk_len d h3] at h2
    rw [List.getElem_drop]
    have hk : k = 0 ∨ k = 1 ∨ k = 2 ∨ k = 3 := by omega
    rcases hk with rfl | rfl | rfl | rfl
    · omega
    · obtain rfl : i = 0 := by omega
      show _ = tp d 0
      rw [tp_at (by omega)]; congr 1
    · have hi : i = 0 ∨ i = 1 := by omega
      rcases hi with rfl | rfl
      · show _ = tp d 1
        rw [tp_at (by omega)]; congr 1
      · show _ = tp d 0
        rw [tp_at (by omega)]; congr 1; omega
    · have hi : i = 0 ∨ i = 1 ∨ i = 2 := by omega
      rcases hi with rfl | rfl | rfl
      · show _ = tp d 2
        rw [tp_at (by omega)]; congr 1
      · show _ = tp d 1
        rw [tp_at (by omega)]; congr 1; omega
      · show _ = tp d 0
        rw [tp_at (by omega)]; congr 1; omega

theorem takes3 (p : Nat) : takesP p ≤ 3 := by
  unfold takesP
  rcases Nat.lt_or_ge (p - 1) 52 with h | h
  · have : ∀ i : Fin 52, takesL.getD i.1 0 ≤ 3 := by decide
    exact this ⟨p - 1, h⟩
  · rw [List.getD_eq_getElem?_getD, List.getElem?_eq_none (by exact h)]; simp

theorem prim_under {d : Dt} {p : Nat} {f : Int} (h : d.s.length < takesP p) : dPrim d p f = (d, -4) := by unfold dPrim; rw [if_pos h]

theorem prim_back {d : Dt} {p : Nat} {f : Int} (h : ¬ d.s.length < takesP p) (h2 : (d.b.length : Int) - f < needsP p) : dPrim d p f = (d, -6) := by unfold dPrim; rw [if_neg h, if_pos h2]

theorem prim_run {d : Dt} {p : Nat} {f : Int} (h : takesP p ≤ d.s.length) (h2 : (needsP p : Int) ≤ d.b.length - f) : dPrim d p f = finE d (takesP p) (dropsP p) (eff d p) := by
  unfold dPrim; rw [if_neg (by omega), if_neg (by omega)]

theorem tp_cell {d : Dt} (h : DtFine d) (i : Nat) : -2147483648 ≤ tp d i ∧ tp d i ≤ 2147483647 := by
  rcases Nat.lt_or_ge i d.s.length with hi | hi
  · rw [tp_at hi]
    exact cellB_true.1 (cellsB_at (fine_sc h) (List.getElem_mem _))
  · rw [tp_out hi]; omega

end Go.Proofs.YthnbaeamekolmaaGreatDoor

namespace Go.Proofs.YthnbaeamekolmaaGreatDoor
open Go.RowKit
set_option linter.unusedVariables false
set_option linter.unusedSimpArgs false

theorem fifty {p : Nat} (h1 : 1 ≤ p) (h2 : p ≤ 52) : p = 1 ∨ p = 2 ∨ p = 3 ∨ p = 4 ∨ p = 5 ∨ p = 6 ∨ p = 7 ∨ p = 8 ∨ p = 9 ∨ p = 10 ∨ p = 11 ∨ p = 12 ∨ p = 13 ∨ p = 14 ∨ p = 15 ∨ p = 16 ∨ p = 17 ∨ p = 18 ∨ p = 19 ∨ p = 20 ∨ p = 21 ∨ p = 22 ∨ p = 23 ∨ p = 24 ∨ p = 25 ∨ p = 26 ∨ p = 27 ∨ p = 28 ∨ p = 29 ∨ p = 30 ∨ p = 31 ∨ p = 32 ∨ p = 33 ∨ p = 34 ∨ p = 35 ∨ p = 36 ∨ p = 37 ∨ p = 38 ∨ p = 39 ∨ p = 40 ∨ p = 41 ∨ p = 42 ∨ p = 43 ∨ p = 44 ∨ p = 45 ∨ p = 46 ∨ p = 47 ∨ p = 48 ∨ p = 49 ∨ p = 50 ∨ p = 51 ∨ p = 52 := by omega

/-- What every effect keeps to. -/
structure EffOk (d : Dt) (p : Nat) (r : Dt × List Int × Int) : Prop where
  throw : r.2.2 ≠ 0 → r.1 = d
  more : takesP p < r.2.1.length → r.1 = d
  stack : r.1.s = d.s
  short : r.2.1.length ≤ 4
  back : d.b.length ≤ r.1.b.length ∧ (d.b.length ≤ 32 → r.1.b.length ≤ 32)

theorem ok_same (d : Dt) (p : Nat) (L : List Int) (t : Int) (h : L.length ≤ 4) : EffOk d p (d, L, t) := ⟨fun _ => rfl, fun _ => rfl, rfl, h, Nat.le_refl _, fun h => h⟩

theorem ok_say (d : Dt) (p : Nat) (s : ByteArray) : EffOk d p (sayE d s) := by
  unfold sayE; split
  · exact ok_same d p _ _ (by simp)
  · exact ⟨fun h => absurd rfl h, fun h => absurd h (by simp), rfl, by simp, Nat.le_refl _, fun h => h⟩

theorem ok_op (d : Dt) (p : Nat) (op b c : Int) : EffOk d p (opE d op b c) := by
  unfold opE
  by_cases h2 : twoR op c = true
  · rw [if_pos h2]; exact ok_same d _ _ _ (by simp)
  · rw [if_neg h2]; exact ok_same d _ _ _ (by simp)

theorem eff_ok (d : Dt) (p : Nat) (h1 : 1 ≤ p) (h2 : p ≤ 52) : EffOk d p (eff d p) := by
  rcases fifty h1 h2 with rfl | rfl | rfl | rfl | rfl | rfl | rfl | rfl | rfl | rfl | rfl | rfl | rfl | rfl | rfl | rfl | rfl | rfl | rfl | rfl | rfl | rfl | rfl | rfl | rfl | rfl | rfl | rfl | rfl | rfl | rfl | rfl | rfl | rfl | rfl | rfl | rfl | rfl | rfl | rfl | rfl | rfl | rfl | rfl | rfl | rfl | rfl | rfl | rfl | rfl | rfl | rfl
  case inr.inr.inr.inr.inr.inr.inr.inl => 
    show EffOk d 8 (d, (if tp d 0 = 0 then [0] else [tp d 0, tp d 0]), 0)
    refine ok_same d 8 _ _ ?_
    split <;> simp
  all_goals first
    | exact ok_same d _ _ _ (by simp)
    | exact ok_say d _ _
    | exact ok_op d _ _ _ _
    | (show EffOk d _ (backE d _); unfold backE; split
       · exact ⟨fun h => absurd rfl h, fun h => absurd h (by simp), rfl, by simp, by simp, fun _ => by simp; omega⟩
       · exact ok_same d _ _ _ (by simp))
    | (show EffOk d _ (fetchE d _); unfold fetchE; split <;> exact ok_same d _ _ _ (by simp))
    | (show EffOk d _ (storeE d _ _); unfold storeE; split
       · exact ok_same d _ _ _ (by simp)
       · exact ⟨fun h => absurd rfl h, fun h => absurd h (by simp), rfl, by simp, Nat.le_refl _, fun h => h⟩)
    | (show EffOk d _ (addE d _ _); unfold addE; split
       · exact ok_same d _ _ _ (by simp)
       · exact ⟨fun h => absurd rfl h, fun h => absurd h (by simp), rfl, by simp, Nat.le_refl _, fun h => h⟩)
    | (show EffOk d _ (allotE d _); unfold allotE; split
       · exact ⟨fun h => absurd rfl h, fun h => absurd h (by simp), rfl, by simp, Nat.le_refl _, fun h => h⟩
       · exact ok_same d _ _ _ (by simp))
    | (show EffOk d _ (commaE d _); unfold commaE; split
       · exact ⟨fun h => absurd rfl h, fun h => absurd h (by simp), rfl, by simp, Nat.le_refl _, fun h => h⟩
       · exact ok_same d _ _ _ (by simp))
    | (show EffOk d _ ({ d with n := 10 }, [], 0); exact ⟨fun h => absurd rfl h, fun h => absurd h (by simp), rfl, by simp, Nat.le_refl _, fun h => h⟩)
    | (show EffOk d _ ({ d with n := 16 }, [], 0); exact ⟨fun h => absurd rfl h, fun h => absurd h (by simp), rfl, by simp, Nat.le_refl _, fun h => h⟩)

theorem drops_needs (p : Nat) : dropsP p ≤ needsP p := by unfold dropsP needsP; split <;> (try split) <;> (try split) <;> omega

/-- What an effect leaves is valid. -/
structure EffFine (r : Dt × List Int × Int) : Prop where
  data : DtFine r.1
  cells : ∀ n ∈ r.2.1, cellB n = true

theorem cellsB_of {l : List Int} (h : ∀ n ∈ l, cellB n = true) : cellsB l = true := List.all_eq_true.2 h

theorem fine_list {d : Dt} (h : DtFine d) (L : List Int) (t : Int) (hL : ∀ n ∈ L, cellB n = true) : EffFine (d, L, t) := ⟨h, hL⟩

theorem one_cell {n : Int} (h : cellB n = true) : ∀ m ∈ [n], cellB m = true := fun m hm => by simp at hm; subst hm; exact h

theorem flag_cell (b : Bool) : cellB (flagI b) = true := by cases b <;> rfl

theorem wrap_cell' (n : Int) : cellB (wrap32 n) = true := cellB_true.2 (wrap32_cell n)

theorem fine_say {d : Dt} (h : DtFine d) (s : ByteArray) : EffFine (sayE d s) := by
  unfold sayE; split
  · exact fine_list h _ _ (by simp)
  · refine ⟨⟨h.1, h.2.1, h.2.2.1, h.2.2.2.1, h.2.2.2.2.1, h.2.2.2.2.2.1, h.2.2.2.2.2.2.1, h.2.2.2.2.2.2.2.1, h.2.2.2.2.2.2.2.2.1, ?_⟩, by simp⟩
    show (d.o ++ s).size ≤ 300
    rw [ByteArray.size_append]; omega

theorem fine_cells' {d : Dt} (h : DtFine d) {c : List Int} {hh : Int} (hl : c.length = 32) (hc : cellsB c = true) (h0 : 0 ≤ hh) (h1 : hh ≤ 32) : DtFine { d with c := c, h := hh } :=
  ⟨h.1, h.2.1, hl, h.2.2.2.1, h.2.2.2.2.1, hc, h0, h1, h.2.2.2.2.2.2.2.2.1, h.2.2.2.2.2.2.2.2.2⟩

theorem cells_set {c : List Int} (h : cellsB c = true) (k : Nat) {n : Int} (hn : cellB n = true) : cellsB (c.set k n) = true :=
  cellsB_of fun m hm => by
    rcases List.mem_or_eq_of_mem_set hm with h2 | h2
    · exact cellsB_at h h2
    · rw [h2]; exact hn

theorem cells_zero {c : List Int} (h : cellsB c = true) (a k : Nat) : cellsB (zeroN c a k) = true :=
  cellsB_of fun m hm => by
    unfold zeroN at hm
    simp only [List.mem_append, List.mem_replicate] at hm
    rcases hm with h2 | ⟨_, rfl⟩ | h2
    · exact cellsB_at h (List.mem_of_mem_take h2)
    · rfl
    · exact cellsB_at h (List.mem_of_mem_drop h2)

theorem getD_cell {c : List Int} (h : cellsB c = true) (k : Nat) : cellB (c.getD k 0) = true := by
  rcases Nat.lt_or_ge k c.length with hk | hk
  · have e : c.getD k 0 = c[k] := by simp [hk]
    rw [e]; exact cellsB_at h (List.getElem_mem hk)
  · have e : c.getD k 0 = 0 := by simp [hk]
    rw [e]; rfl

theorem last_cell {c : List Int} (h : cellsB c = true) : cellB (c.getLastD 0) = true := by
  rw [List.getLastD_eq_getLast?]
  cases e : c.getLast? with
  | none => rfl
  | some x => exact cellsB_at h (List.mem_of_getLast? e)

theorem fine_allot {d : Dt} (h : DtFine d) (n : Int) : EffFine (allotE d n) := by
  unfold allotE; split
  · rename_i hg
    obtain ⟨g1, g2, g3⟩ := hg
    have q0 := fine_h0 h; have q1 := fine_h1 h; have q2 := fine_cl h
    exact ⟨fine_cells' h (by rw [zeroN_len (by omega)]; exact q2) (cells_zero (fine_cc h) _ _) g2 g3, by simp⟩
  · exact fine_list h _ _ (by simp)

theorem fine_comma {d : Dt} (h : DtFine d) {x : Int} (hx : cellB x = true) : EffFine (commaE d x) := by
  unfold commaE; split
  · rename_i hg
    obtain ⟨g1, g2, g3⟩ := hg
    have q0 := fine_h0 h; have q2 := fine_cl h
    have e : (4 : Int).tdiv 4 = 1 := rfl
    rw [e] at g2 g3
    exact ⟨fine_cells' h (by rw [List.length_set, zeroN_len (by omega)]; exact q2) (cells_set (cells_zero (fine_cc h) _ _) _ hx) (by omega) g3, by simp⟩
  · exact fine_list h _ _ (by simp)

theorem fine_back {d : Dt} (h : DtFine d) {x : Int} (hx : cellB x = true) : EffFine (backE d x) := by
  unfold backE; split
  · refine ⟨⟨h.1, by simp; omega, h.2.2.1, h.2.2.2.1, cellsB_of fun m hm => ?_, h.2.2.2.2.2.1, h.2.2.2.2.2.2.1, h.2.2.2.2.2.2.2.1, h.2.2.2.2.2.2.2.2.1, h.2.2.2.2.2.2.2.2.2⟩, by simp⟩
    simp only [List.mem_append, List.mem_singleton] at hm
    rcases hm with h2 | rfl
    · exact cellsB_at (fine_bc h) h2
    · exact hx
  · exact fine_list h _ _ (by simp)

theorem fine_setc {d : Dt} (h : DtFine d) (k : Nat) {n : Int} (hn : cellB n = true) : DtFine { d with c := d.c.set k n } :=
  fine_cells' (hh := d.h) h (by rw [List.length_set]; exact fine_cl h) (cells_set (fine_cc h) k hn) (fine_h0 h) (fine_h1 h)

theorem fine_base {d : Dt} (h : DtFine d) (n : Int) (hn : baseB n = true) : EffFine ({ d with n := n }, [], 0) :=
  ⟨⟨h.1, h.2.1, h.2.2.1, h.2.2.2.1, h.2.2.2.2.1, h.2.2.2.2.2.1, h.2.2.2.2.2.2.1, h.2.2.2.2.2.2.2.1, hn, h.2.2.2.2.2.2.2.2.2⟩, by simp⟩

theorem eff_opc (d : Dt) (p : Nat) (h1 : 15 ≤ p) (h2 : p ≤ 24) : eff d p = opE d ((p : Int) - 14) (tp d 1) (tp d 0) := by
  have h : p = 15 ∨ p = 16 ∨ p = 17 ∨ p = 18 ∨ p = 19 ∨ p = 20 ∨ p = 21 ∨ p = 22 ∨ p = 23 ∨ p = 24 := by omega
  rcases h with rfl | rfl | rfl | rfl | rfl | rfl | rfl | rfl | rfl | rfl <;> rfl

theorem fine_op {d : Dt} (h : DtFine d) (op : Int) {b c : Int} (hb : -2147483648 ≤ b ∧ b ≤ 2147483647) (hc : -2147483648 ≤ c ∧ c ≤ 2147483647) : EffFine (opE d op b c) := by
  unfold opE
  by_cases h2 : twoR op c = true
  · rw [if_pos h2]; exact fine_list h _ _ (one_cell (cellB_true.2 (twoW_cell _ _ _ hb hc)))
  · rw [if_neg h2]; exact fine_list h _ _ (by simp)

theorem eff_fine {d : Dt} (h : DtFine d) (p : Nat) (h1 : 1 ≤ p) (h2 : p ≤ 52) : EffFine (eff d p) := by
  have a := cellB_true.2 (tp_cell h 2)
  have b := cellB_true.2 (tp_cell h 1)
  have c := cellB_true.2 (tp_cell h 0)
  have b' := tp_cell h 1
  have c' := tp_cell h 0
  have l1 := fine_sl h
  have l2 := fine_h0 h
  have l3 := fine_h1 h
  rcases fifty h1 h2 with rfl | rfl | rfl | rfl | rfl | rfl | rfl | rfl | rfl | rfl | rfl | rfl | rfl | rfl | rfl | rfl | rfl | rfl | rfl | rfl | rfl | rfl | rfl | rfl | rfl | rfl | rfl | rfl | rfl | rfl | rfl | rfl | rfl | rfl | rfl | rfl | rfl | rfl | rfl | rfl | rfl | rfl | rfl | rfl | rfl | rfl | rfl | rfl | rfl | rfl | rfl | rfl
  all_goals first
    | (refine fine_list h _ _ (one_cell ?_); first | exact flag_cell _ | exact wrap_cell' _ | exact last_cell (fine_bc h) | exact c | (apply cellB_true.2; omega))
    | (refine fine_list h _ _ (show ∀ n ∈ (if tp d 0 = 0 then [0] else [tp d 0, tp d 0]), cellB n = true from ?_)
       split
       · exact one_cell rfl
       · intro n hn; simp only [List.mem_cons, List.not_mem_nil, or_false] at hn; rcases hn with rfl | rfl <;> exact c)
    | (refine fine_list h _ _ (fun n hn => ?_); simp only [List.mem_cons, List.not_mem_nil, or_false] at hn; first | (rcases hn with rfl | rfl | rfl | rfl <;> assumption) | (rcases hn with rfl | rfl | rfl <;> assumption) | (rcases hn with rfl | rfl <;> assumption) | exact hn.elim)
    | exact fine_say h _
    | exact fine_list h _ _ (fun n hn => absurd hn (List.not_mem_nil))
    | (rw [eff_opc d _ (by decide) (by decide)]; exact fine_op h _ b' c')
    | exact fine_back h c
    | (show EffFine (fetchE d _); unfold fetchE; split
       · exact fine_list h _ _ (one_cell rfl)
       · exact fine_list h _ _ (one_cell (getD_cell (fine_cc h) _)))
    | (show EffFine (storeE d _ _); unfold storeE; split
       · exact fine_list h _ _ (by simp)
       · exact ⟨fine_setc h _ b, by simp⟩)
    | (show EffFine (addE d _ _); unfold addE; split
       · exact fine_list h _ _ (by simp)
       · exact ⟨fine_setc h _ (wrap_cell' _), by simp⟩)
    | exact fine_allot h _
    | exact fine_comma h c
    | exact fine_base h 10 rfl
    | exact fine_base h 16 rfl

theorem prim_fine {d : Dt} (h : DtFine d) (p : Nat) (f : Int) (h1 : 1 ≤ p) (h2 : p ≤ 52) : DtFine (dPrim d p f).1 := by
  have F := eff_fine h p h1 h2
  have K := eff_ok d p h1 h2
  unfold dPrim
  split
  · exact h
  split
  · exact h
  unfold finE
  split
  · exact h
  split
  · exact h
  · rename_i h3 h4
    have G := F.data
    refine ⟨?_, ?_, G.2.2.1, cellsB_of fun m hm => ?_, cellsB_of fun m hm => cellsB_at (fine_bc G) (List.mem_of_mem_take hm), G.2.2.2.2.2.1, G.2.2.2.2.2.2.1, G.2.2.2.2.2.2.2.1, G.2.2.2.2.2.2.2.2.1, G.2.2.2.2.2.2.2.2.2⟩
    · show (d.s.take (d.s.length - takesP p) ++ (eff d p).2.1).length ≤ 32
      rw [List.length_append, List.length_take]; omega
    · show ((eff d p).1.b.take _).length ≤ 32
      rw [List.length_take]; have := fine_bl G; omega
    · have hm' : m ∈ d.s.take (d.s.length - takesP p) ++ (eff d p).2.1 := hm
      rcases List.mem_append.1 hm' with h5 | h5
      · exact cellsB_at (fine_sc h) (List.mem_of_mem_take h5)
      · exact F.cells m h5

end Go.Proofs.YthnbaeamekolmaaGreatDoor

namespace Go.Proofs.YthnbaeamekolmaaGreatDoor
open Go.RowKit
set_option linter.unusedVariables false
set_option linter.unusedSimpArgs false

/-- Block g holds this data; its rows lie in blocks of their own from lo on. -/
def BoxIs (w : World) (lo g : Nat) (d : Dt) : Prop :=
  lo ≤ g ∧ ∃ x y z, Whole w g 40 #[x, y, z, .int .i64 d.h, .int .i64 d.n, .string d.o] ∧ DatOf w lo w.heap.size (.agg #[x, y, z, .int .i64 d.h, .int .i64 d.n, .string d.o]) d

/-- Blocks that are neither the data's own nor its second or third row's stay. -/
def Keep (w : World) (g : Nat) (w' : World) : Prop :=
  ∀ x y z a b e, w.heap[g]? = some (.cells #[x, y, z, a, b, e] 40 (0, 0)) → ∀ k, k < w.heap.size → k ≠ g → y.ownBlock ≠ some k → z.ownBlock ≠ some k → w'.heap[k]? = w.heap[k]?

theorem keep_below {w w' : World} {g : Nat} (h : Below w.heap.size w w') : Keep w g w' := fun _ _ _ _ _ _ _ k hk _ _ _ => h.block k hk

theorem keep_refl (w : World) (g : Nat) : Keep w g w := fun _ _ _ _ _ _ _ _ _ _ _ _ => rfl

/-- A cell of the data's own block is written. -/
theorem keep_own {w w' : World} {g : Nat} (h : Keep w g w') (i : Nat) (u : Value) : Keep w g (w'.setCell ⟨g, i, none⟩ u) := fun x y z a b e hw k hk hg h2 h3 =>
  (Below.heap_setCell w' _ u k hg).trans (h x y z a b e hw k hk hg h2 h3)

/-- A cell of its third row is written. -/
theorem keep_third {w w' : World} {g g3 : Nat} {x y z a b e : Value} (hw : Whole w g 40 #[x, y, z, a, b, e]) (hz : z.ownBlock = some g3) (h : Keep w g w') (i : Nat) (u : Value) : Keep w g (w'.setCell ⟨g3, i, none⟩ u) := by
  intro x' y' z' a' b' e' hw' k hk hg h2 h3
  have eq := Option.some.inj (hw'.symm.trans hw)
  simp only [Obj.cells.injEq, Array.mk.injEq, List.cons.injEq, and_true, true_and] at eq
  obtain ⟨rfl, rfl, rfl, rfl, rfl, rfl⟩ := eq
  refine (Below.heap_setCell w' _ u k (fun hk3 => h3 ?_)).trans (h _ _ _ _ _ _ hw' k hk hg h2 h3)
  rw [hz]; exact congrArg some (show g3 = k from hk3.symm)

/-- What a method with one result leaves. -/
def MethOf (w : World) (lo g : Nat) (d : Dt) (v : Value) (e : Ending) (w' : World) : Prop := e = .returned v ∧ BoxIs w' lo g d ∧ Below lo w w' ∧ Keep w g w'

theorem row_not_whole {w : World} {lo g : Nat} {v : Value} {zs : List Int} {cs : Array Value} (h : Row w lo v zs) (hw : Whole w g 40 cs) : v.ownBlock ≠ some g := by
  rcases h.2 with ⟨rfl, _⟩ | ⟨g', cap, cur, rfl, _, hh, _⟩
  · simp [Value.ownBlock]
  · intro he
    have e : g' = g := by simpa [Value.ownBlock] using he
    subst e
    unfold Whole at hw
    rw [hh] at hw
    have hne : (3 : TypeId) ≠ 40 := by decide
    injection hw with hw
    injection hw with _ ht
    exact hne ht

theorem box_parts {w : World} {lo g : Nat} {d : Dt} (h : BoxIs w lo g d) : lo ≤ g ∧ ∃ A1 k1 A2 k2 A3 k3, Whole w g 40 #[.slice A1 d.s.length k1, .slice A2 d.b.length k2, .slice A3 d.c.length k3, .int .i64 d.h, .int .i64 d.n, .string d.o] ∧
    Row w lo (.slice A1 d.s.length k1) d.s ∧ Row w lo (.slice A2 d.b.length k2) d.b ∧ Row w lo (.slice A3 d.c.length k3) d.c ∧ d.o.size ≤ maxLen ∧
    Parted (.slice A1 d.s.length k1) (.slice A2 d.b.length k2) ∧ Parted (.slice A1 d.s.length k1) (.slice A3 d.c.length k3) ∧ Parted (.slice A2 d.b.length k2) (.slice A3 d.c.length k3) := by
  obtain ⟨hg, x, y, z, hw, x', y', z', hv, h1, h2, h3, h4, p1, p2, p3, _⟩ := h
  simp only [Value.agg.injEq, Array.mk.injEq, List.cons.injEq, and_true, true_and] at hv
  obtain ⟨rfl, rfl, rfl⟩ := hv
  obtain ⟨_, A1, k1, rfl, _⟩ := row_ints h1
  obtain ⟨_, A2, k2, rfl, _⟩ := row_ints h2
  obtain ⟨_, A3, k3, rfl, _⟩ := row_ints h3
  exact ⟨hg, A1, k1, A2, k2, A3, k3, hw, h1, h2, h3, h4, p1, p2, p3⟩

theorem box_of {w : World} {lo g : Nat} {x y z : Value} {d : Dt} (hg : lo ≤ g) (hw : Whole w g 40 #[x, y, z, .int .i64 d.h, .int .i64 d.n, .string d.o]) (h1 : Row w lo x d.s) (h2 : Row w lo y d.b) (h3 : Row w lo z d.c) (h4 : d.o.size ≤ maxLen)
    (p1 : Parted x y) (p2 : Parted x z) (p3 : Parted y z) : BoxIs w lo g d := ⟨hg, x, y, z, hw, datOf_rows h1 h2 h3 h4 p1 p2 p3⟩

theorem row_take {w : World} {base : Nat} {A : Option Addr} {n c k : Nat} {zs : List Int} (h : Row w base (.slice A n c) zs) (hk : k ≤ zs.length) (hp : 0 < zs.length) : Row w base (.slice A k c) (zs.take k) := by
  obtain ⟨g, cap, hv, hb, hlt, hlc, hcm⟩ := row_form h hp
  simp only [Value.slice.injEq] at hv
  obtain ⟨rfl, rfl, rfl⟩ := hv
  rcases h.2 with ⟨hv, _⟩ | ⟨g', cap', cur, hv, hb', hg, h1, h2, h3, h4⟩
  · cases hv
  · simp only [Value.slice.injEq, Option.some.injEq, Addr.mk.injEq, true_and, and_true] at hv
    obtain ⟨rfl, rfl⟩ := hv
    have hl : (zs.take k).length = k := by rw [List.length_take]; omega
    refine ⟨by rw [hl]; simp; omega, .inr ⟨g, c, cur, by rw [hl], hb, hg, by rw [hl]; omega, hcm, h3, ?_⟩⟩
    rw [hl, List.map_take, ← h4, List.take_take]
    congr 1
    omega

set_option maxRecDepth 100000 in
set_option maxHeartbeats 2000000 in
theorem say_full (lo g : Nat) (d : Dt) (s : ByteArray) (w : World) (hb : BoxIs w lo g d) (hd : d.o.size ≤ 300) (hs : s.size ≤ 65536) (hf : 300 < d.o.size + s.size) :
    Calls Tryz.prog 189 #[.pointer (some ⟨g, 0, none⟩), .string s] w (MethOf w lo g d (.int .i64 (-17))) := by
  obtain ⟨hg, A1, k1, A2, k2, A3, k3, hw, _⟩ := box_parts hb
  have c5 := (six_cells hw).2.2.2.2.2
  have HB := Lib.hid hb
  clear hb hw
  go_enter Tryz.func189, Tryz.ntmps189
  go_wp2
  go_ret
  exact ⟨rfl, HB.out, Below.refl _ _, keep_refl _ _⟩

set_option maxRecDepth 100000 in
set_option maxHeartbeats 2000000 in
theorem say_more (lo g : Nat) (d : Dt) (s : ByteArray) (w : World) (hb : BoxIs w lo g d) (hd : d.o.size ≤ 300) (hs : s.size ≤ 65536) (hf : d.o.size + s.size ≤ 300) :
    Calls Tryz.prog 189 #[.pointer (some ⟨g, 0, none⟩), .string s] w (MethOf w lo g { d with o := d.o ++ s } (.int .i64 0)) := by
  obtain ⟨hg, A1, k1, A2, k2, A3, k3, hw, r1, r2, r3, h4, p1, p2, p3⟩ := box_parts hb
  have c5 := (six_cells hw).2.2.2.2.2
  have f5 := whole_free hw 5
  have ST : Hid (BoxIs (w.setCell ⟨g, 5, none⟩ (.string (d.o ++ s))) lo g { d with o := d.o ++ s }) := Lib.hid (box_of hg (whole_set hw 5 _) (row_apart r1 (row_not_whole r1 hw)) (row_apart r2 (row_not_whole r2 hw)) (row_apart r3 (row_not_whole r3 hw)) (by simp [ByteArray.size_append]; unfold maxLen; omega) p1 p2 p3)
  clear hb hw
  go_enter Tryz.func189, Tryz.ntmps189
  go_wp2
  go_ret
  exact ⟨rfl, ST.out, (Below.refl _ _).setCell hg _, keep_own (keep_refl _ _) _ _⟩

set_option maxRecDepth 100000 in
set_option maxHeartbeats 1000000 in
theorem cellAt_none (g : Nat) (t : TypeId) (x y z : Value) (d : Dt) (n : Int) (w : World) (hw : Whole w g t #[x, y, z, .int .i64 d.h, .int .i64 d.n, .string d.o]) (h0 : 0 ≤ d.h) (h1 : d.h ≤ 32) (hr1 : n ≤ 9223372036854775807) (hk : dPlace d n = none) :
    Calls Tryz.prog 187 #[.pointer (some ⟨g, 0, none⟩), .int .i64 n] w fun e w' => e = .returned (.pointer none) ∧ w = w' := by
  have c3 := (six_cells hw).2.2.2.1
  have h := place_none hk
  clear hw hk
  by_cases q1 : n < 4096
  · clear h
    go_enter Tryz.func187, Tryz.ntmps187
    go_wp2
    go_ret
    exact ⟨rfl, rfl⟩
  · by_cases q2 : (n - 4096) % 4 = 0
    · have t2 : ((n - 4096) % 4 != 0) = false := by rw [q2]; rfl
      have q3 : d.h ≤ (n - 4096) / 4 := by omega
      clear h q2
      go_enter Tryz.func187, Tryz.ntmps187
      go_wp2
      go_ret
      exact ⟨rfl, rfl⟩
    · have t2 : ((n - 4096) % 4 != 0) = true := by rw [bne_iff_ne]; exact q2
      clear h q2
      go_enter Tryz.func187, Tryz.ntmps187
      go_wp2
      go_ret
      exact ⟨rfl, rfl⟩

set_option maxRecDepth 100000 in
set_option maxHeartbeats 1000000 in
theorem cellAt_some (g : Nat) (t : TypeId) (x y : Value) (ad : Addr) (k3 : Nat) (d : Dt) (n : Int) (k : Nat) (w : World) (hw : Whole w g t #[x, y, .slice (some ad) d.c.length k3, .int .i64 d.h, .int .i64 d.n, .string d.o]) (h0 : 0 ≤ d.h) (h1 : d.h ≤ 32) (hc : d.c.length = 32) (hk : dPlace d n = some k) :
    Calls Tryz.prog 187 #[.pointer (some ⟨g, 0, none⟩), .int .i64 n] w fun e w' => e = .returned (.pointer (some (ad.add k))) ∧ w = w' := by
  have c3 := (six_cells hw).2.2.2.1
  have c2 := (six_cells hw).2.2.1
  obtain ⟨p1, p2, p3, p4⟩ := place_some hk
  have t2 : ((n - 4096) % 4 != 0) = false := by have e : (n - 4096) % 4 = 0 := by omega
                                                rw [e]; rfl
  have q3 : (n - 4096) / 4 < d.h := by omega
  have K := Lib.hid p4
  have q4 : (n - 4096) / 4 < d.c.length := by omega
  have kk : ((n - 4096) / 4).toNat = k := by omega
  have KK := Lib.hid kk
  have hcl : d.c.length ≤ 32 := by omega
  have q5 : 0 ≤ (n - 4096) / 4 := by omega
  clear hw hk p3 p4 hc kk
  go_enter Tryz.func187, Tryz.ntmps187
  go_wp2
  go_ret
  exact ⟨by first | (simp only [KK.out]; done) | (simp only [KK.out]; rfl) | rw [KK.out], rfl⟩

set_option maxRecDepth 100000 in
set_option maxHeartbeats 1000000 in
theorem fetch_none (g : Nat) (t : TypeId) (x y z : Value) (d : Dt) (n : Int) (w : World) (hw : Whole w g t #[x, y, z, .int .i64 d.h, .int .i64 d.n, .string d.o]) (h0 : 0 ≤ d.h) (h1 : d.h ≤ 32) (hr1 : n ≤ 9223372036854775807) (hk : dPlace d n = none) :
    Calls Tryz.prog 185 #[.pointer (some ⟨g, 0, none⟩), .int .i64 n] w fun e w' => e = .returned (.tuple #[.int .i64 0, .int .i64 (-9)]) ∧ w = w' := by
  have HK := Lib.hid hk
  clear hk
  go_enter Tryz.func185, Tryz.ntmps185
  go_wp2_with (go_at_call 187; refine (cellAt_none g t x y z d n _ hw h0 h1 hr1 HK.out).mono ?_; rintro e w' ⟨rfl, rfl⟩)
  go_ret2
  exact ⟨rfl, rfl⟩

set_option maxRecDepth 100000 in
set_option maxHeartbeats 1000000 in
theorem fetch_some (g : Nat) (t : TypeId) (x y : Value) (ad : Addr) (k3 : Nat) (d : Dt) (n : Int) (k : Nat) (v : Int) (w : World) (hw : Whole w g t #[x, y, .slice (some ad) d.c.length k3, .int .i64 d.h, .int .i64 d.n, .string d.o]) (h0 : 0 ≤ d.h) (h1 : d.h ≤ 32) (hc : d.c.length = 32) (hk : dPlace d n = some k)
    (hv : w.cell? (ad.add k) = some (.int .i64 v)) :
    Calls Tryz.prog 185 #[.pointer (some ⟨g, 0, none⟩), .int .i64 n] w fun e w' => e = .returned (.tuple #[.int .i64 v, .int .i64 0]) ∧ w = w' := by
  have HK := Lib.hid hk
  have HC := Lib.hid hc
  clear hk hc
  go_enter Tryz.func185, Tryz.ntmps185
  go_wp2_with (go_at_call 187; refine (cellAt_some g t x y ad k3 d n k _ hw h0 h1 HC.out HK.out).mono ?_; rintro e w' ⟨rfl, rfl⟩)
  go_ret2
  exact ⟨rfl, rfl⟩

set_option maxRecDepth 100000 in
set_option maxHeartbeats 1000000 in
theorem store_none (lo g : Nat) (d : Dt) (x n : Int) (w : World) (hb : BoxIs w lo g d) (hd : DtFine d) (hr1 : x ≤ 9223372036854775807) (hk : dPlace d x = none) :
    Calls Tryz.prog 186 #[.pointer (some ⟨g, 0, none⟩), .int .i64 x, .int .i64 n] w (MethOf w lo g d (.int .i64 (-9))) := by
  obtain ⟨hg, A1, k1, A2, k2, A3, k3, hw, _⟩ := box_parts hb
  have HK := Lib.hid hk
  have HB := Lib.hid hb
  clear hk hb
  go_enter Tryz.func186, Tryz.ntmps186
  go_wp2_with (go_at_call 187; refine (cellAt_none g _ _ _ _ d x _ hw (fine_h0 hd) (fine_h1 hd) hr1 HK.out).mono ?_; rintro e w' ⟨rfl, rfl⟩)
  go_ret
  exact ⟨rfl, HB.out, Below.refl _ _, keep_refl _ _⟩

set_option maxRecDepth 100000 in
set_option maxHeartbeats 1000000 in
theorem store_some (lo g : Nat) (d : Dt) (x n : Int) (k : Nat) (w : World) (hb : BoxIs w lo g d) (hd : DtFine d) (hk : dPlace d x = some k) :
    Calls Tryz.prog 186 #[.pointer (some ⟨g, 0, none⟩), .int .i64 x, .int .i64 n] w (MethOf w lo g { d with c := d.c.set k n } (.int .i64 0)) := by
  obtain ⟨hg, A1, k1, A2, k2, A3, k3, hw, r1, r2, r3, h4, p1, p2, p3⟩ := box_parts hb
  have HK := Lib.hid hk
  have hk2 := (place_lt hk hd).2
  obtain ⟨g3, k3', hA, hg1, hg1', hlc, hcm⟩ := row_form r3 (by omega)
  simp only [Value.slice.injEq, true_and] at hA
  obtain ⟨rfl, rfl⟩ := hA
  have ko := row_cell r3 k hk2
  have kf := row_free r3 k
  have n3 := row_not_whole r3 hw
  have n3' : g ≠ g3 := fun e => n3 (by rw [e]; rfl)
  have q1 : (Value.slice A1 d.s.length k1).ownBlock ≠ some g3 := fun e => p2 g3 e rfl
  have q2 : (Value.slice A2 d.b.length k2).ownBlock ≠ some g3 := fun e => p3 g3 e rfl
  have ST : Hid (BoxIs (w.setCell ⟨g3, k, none⟩ (.int .i64 n)) lo g { d with c := d.c.set k n }) := Lib.hid (by
    have hl : (d.c.set k n).length = d.c.length := List.length_set ..
    have := (row_set r3 k n).1
    refine box_of (z := .slice (some ⟨g3, 0, none⟩) d.c.length k3) hg (whole_far hw (by exact n3') _) (row_apart r1 q1) (row_apart r2 q2) this h4 p1 p2 p3)
  clear hk hb n3 n3' q1 q2 p1 p2 p3
  generalize d.c[k] = old at *
  have KP := Lib.hid (keep_third hw (g3 := g3) rfl (keep_refl w g) k (.int .i64 n))
  have ea : (⟨g3, 0, none⟩ : Addr).add k = ⟨g3, k, none⟩ := by rw [Addr.add_lit, Nat.zero_add]
  have EA := Lib.hid ea
  clear ea
  go_enter Tryz.func186, Tryz.ntmps186
  go_wp2_with (go_at_call 187; refine (cellAt_some g _ _ _ ⟨g3, 0, none⟩ k3 d x k _ hw (fine_h0 hd) (fine_h1 hd) (fine_cl hd) HK.out).mono ?_; rintro e w' ⟨rfl, rfl⟩; rw [EA.out])
  go_ret
  exact ⟨rfl, ST.out, (Below.refl _ _).setCell (show lo ≤ g3 by omega) _, KP.out⟩

set_option maxRecDepth 100000 in
set_option maxHeartbeats 2000000 in
theorem allot_no (lo g : Nat) (d : Dt) (n : Int) (w : World) (hb : BoxIs w lo g d) (hd : DtFine d) (hn : cellB n = true) (hg : ¬ goodMove d n) :
    Calls Tryz.prog 188 #[.pointer (some ⟨g, 0, none⟩), .int .i64 n] w (MethOf w lo g d (.int .i64 (-8))) := by
  obtain ⟨_, A1, k1, A2, k2, A3, k3, hw, _⟩ := box_parts hb
  have c3 := (six_cells hw).2.2.2.1
  have HB := Lib.hid hb
  have q0 := fine_h0 hd
  have q1 := fine_h1 hd
  obtain ⟨n0, n1⟩ := cellB_true.1 hn
  have b0 : -536870912 ≤ n.tdiv 4 ∧ n.tdiv 4 ≤ 536870912 := by
    have h2 := tdm n 4
    have h3 := (tmod_bd n 4 (by decide)).2 (by decide)
    omega
  obtain ⟨b0, b1⟩ := b0
  by_cases h : n.tmod 4 = 0
  · have t1 : (n.tmod 4 != 0) = false := by rw [h]; rfl
    by_cases h2 : d.h + n.tdiv 4 < 0
    · clear hb hw hd hn hg h
      go_enter Tryz.func188, Tryz.ntmps188
      go_wp2
      go_ret
      exact ⟨rfl, HB.out, Below.refl _ _, keep_refl _ _⟩
    · have h3 : 32 < d.h + n.tdiv 4 := by
        rcases Int.lt_or_le 32 (d.h + n.tdiv 4) with h3 | h3
        · exact h3
        · exact absurd ⟨h, by omega, h3⟩ hg
      clear hb hw hd hn hg h
      go_enter Tryz.func188, Tryz.ntmps188
      go_wp2
      go_ret
      exact ⟨rfl, HB.out, Below.refl _ _, keep_refl _ _⟩
  · have t1 : (n.tmod 4 != 0) = true := by rw [bne_iff_ne]; exact h
    clear hb hw hd hn hg h
    go_enter Tryz.func188, Tryz.ntmps188
    go_wp2
    go_ret
    exact ⟨rfl, HB.out, Below.refl _ _, keep_refl _ _⟩

theorem zeroN_neg {c : List Int} {a : Nat} {q : Int} (h : q ≤ 0) : zeroN c a q.toNat = c := by
  rw [show q.toNat = 0 by omega, zeroN_none]

set_option maxRecDepth 100000 in
set_option maxHeartbeats 2000000 in
theorem allot_down (lo g : Nat) (d : Dt) (n : Int) (w : World) (hb : BoxIs w lo g d) (hd : DtFine d) (hn : cellB n = true) (hg : goodMove d n) (hq : n.tdiv 4 ≤ 0) :
    Calls Tryz.prog 188 #[.pointer (some ⟨g, 0, none⟩), .int .i64 n] w (MethOf w lo g { d with c := zeroN d.c d.h.toNat (n.tdiv 4).toNat, h := d.h + n.tdiv 4 } (.int .i64 0)) := by
  rw [zeroN_neg hq]
  obtain ⟨hlo, A1, k1, A2, k2, A3, k3, hw, r1, r2, r3, h4, p1, p2, p3⟩ := box_parts hb
  have c3 := (six_cells hw).2.2.2.1
  have f3 := whole_free hw 3
  have q0 := fine_h0 hd
  have q1 := fine_h1 hd
  obtain ⟨n0, n1⟩ := cellB_true.1 hn
  obtain ⟨h1, h2, h3⟩ := hg
  have t1 : (n.tmod 4 != 0) = false := by rw [h1]; rfl
  have b0 : -32 ≤ n.tdiv 4 := by omega
  have ST : Hid (BoxIs (w.setCell ⟨g, 3, none⟩ (.int .i64 (d.h + n.tdiv 4))) lo g { d with h := d.h + n.tdiv 4 }) := Lib.hid
    (box_of (d := { d with h := d.h + n.tdiv 4 }) hlo (whole_set hw 3 _) (row_apart r1 (row_not_whole r1 hw)) (row_apart r2 (row_not_whole r2 hw)) (row_apart r3 (row_not_whole r3 hw)) h4 p1 p2 p3)
  clear hb hw hd hn h1
  go_enter Tryz.func188, Tryz.ntmps188
  go_wp2
  go_ret
  exact ⟨rfl, ST.out, (Below.refl _ _).setCell hlo _, keep_own (keep_refl _ _) _ _⟩

theorem setCells_heap (b : Nat) : ∀ (vs : List Value) (o : Nat) (w : World) (k : Nat), k ≠ b → (w.setCells b o vs).heap[k]? = w.heap[k]?
  | [], _, _, _, _ => rfl
  | v :: r, o, w, k, h => by
    rw [World.setCells, setCells_heap b r (o + 1) _ k h]; exact Below.heap_setCell _ _ _ _ h

theorem setCells_below (b : Nat) : ∀ (vs : List Value) (o : Nat) (a w : World) (B : Nat), B ≤ b → Below B a w → Below B a (w.setCells b o vs)
  | [], _, _, _, _, _, h => h
  | v :: r, o, a, w, B, hB, h => by rw [World.setCells]; exact setCells_below b r (o + 1) a _ B hB (h.setCell hB _)

theorem zeroN_set {c : List Int} {a m : Nat} (h : a + (m + 1) ≤ c.length) : zeroN (c.set a 0) (a + 1) m = zeroN c a (m + 1) := by
  unfold zeroN
  apply List.ext_getElem?
  intro i
  rw [List.getElem?_append, List.getElem?_append, List.getElem?_append, List.getElem?_append]
  simp only [List.length_take, List.length_set, List.length_replicate, List.getElem?_take, List.getElem?_set, List.getElem?_replicate, List.getElem?_drop]
  repeat' split
  all_goals first
    | rfl
    | omega
    | (congr 1; omega)
    | skip

theorem setCells_row {base g cap : Nat} : ∀ (m a : Nat) (zs : List Int) (w : World), Row w base (.slice (some ⟨g, 0, none⟩) zs.length cap) zs → a + m ≤ zs.length →
    Row (w.setCells g a (List.replicate m (.int .i64 0))) base (.slice (some ⟨g, 0, none⟩) zs.length cap) (zeroN zs a m)
  | 0, a, zs, w, h, _ => by rw [zeroN_none]; exact h
  | m + 1, a, zs, w, h, hl => by
    have h1 := (row_set h a 0).1
    have hn : (zs.set a 0).length = zs.length := List.length_set ..
    have h2 := setCells_row m (a + 1) (zs.set a 0) (w.setCell ⟨g, a, none⟩ (.int .i64 0)) (by rw [hn]; exact h1) (by rw [hn]; omega)
    rw [zeroN_set hl, hn] at h2
    rw [List.replicate_succ, World.setCells]
    exact h2

theorem zero_int (w : World) : (zeroValue 3).run Tryz.prog w = .ok (.int .i64 0) w := by kernel_rfl

set_option maxRecDepth 100000 in
set_option maxHeartbeats 2000000 in
theorem allot_up (lo g : Nat) (d : Dt) (n : Int) (w : World) (hb : BoxIs w lo g d) (hd : DtFine d) (hn : cellB n = true) (hg : goodMove d n) (hq : 0 < n.tdiv 4) :
    Calls Tryz.prog 188 #[.pointer (some ⟨g, 0, none⟩), .int .i64 n] w (MethOf w lo g { d with c := zeroN d.c d.h.toNat (n.tdiv 4).toNat, h := d.h + n.tdiv 4 } (.int .i64 0)) := by
  obtain ⟨hlo, A1, k1, A2, k2, A3, k3, hw, r1, r2, r3, h4, p1, p2, p3⟩ := box_parts hb
  have q0 := fine_h0 hd
  have q1 := fine_h1 hd
  have hc32 := fine_cl hd
  obtain ⟨n0, n1⟩ := cellB_true.1 hn
  obtain ⟨h1, h2, h3⟩ := hg
  have t1 : (n.tmod 4 != 0) = false := by rw [h1]; rfl
  obtain ⟨s, b, c, h, bn, o⟩ := d
  simp only at *
  obtain ⟨a, rfl⟩ : ∃ a : Nat, h = a := ⟨h.toNat, by omega⟩
  obtain ⟨m, hm⟩ : ∃ m : Nat, n.tdiv 4 = m := ⟨(n.tdiv 4).toNat, by omega⟩
  rw [hm] at h2 h3 hq ⊢
  obtain ⟨g3, k3', hA, hg1, hg1', hlc, hcm⟩ := row_form r3 (by omega)
  simp only [Value.slice.injEq, true_and] at hA
  obtain ⟨rfl, rfl⟩ := hA
  have hcells : ∀ j, j < m → (w.cell? ⟨g3, a + j, none⟩).isSome = true := fun j hj => by rw [row_cell r3 (a + j) (by omega)]; rfl
  have hfree : ∀ j, j < m → w.frozen? ⟨g3, a + j, none⟩ = false := fun j hj => row_free r3 (a + j)
  have CL : Hid (∀ ty, (Builtin.clear_ #[23] ty #[.slice (some ⟨g3, a, none⟩) m (k3 - a)]).run Tryz.prog w.drew = .ok (.tuple #[]) (w.drew.setCells g3 a (List.replicate m (.int .i64 0)))) := Lib.hid
    (fun ty => Lib.run_clear_slice w.drew 23 3 ty (.int .i64 0) Tryz.underlying23 zero_int rfl rfl g3 a m (k3 - a) (by omega) hcells hfree)
  have n3 := row_not_whole r3 hw
  have n3' : g ≠ g3 := fun e => n3 (by rw [e]; rfl)
  have u1 : (Value.slice A1 s.length k1).ownBlock ≠ some g3 := fun e => p2 g3 e rfl
  have u2 : (Value.slice A2 b.length k2).ownBlock ≠ some g3 := fun e => p3 g3 e rfl
  have Z3 := setCells_row (cap := k3) m a c w.drew r3 (by omega)
  have x1 : Row (w.drew.setCells g3 a (List.replicate m (.int .i64 0))) lo (.slice A1 s.length k1) s := row_keep (w := w.drew) r1 fun k hk => setCells_heap g3 _ _ _ _ (by rintro rfl; exact u1 hk)
  have x2 : Row (w.drew.setCells g3 a (List.replicate m (.int .i64 0))) lo (.slice A2 b.length k2) b := row_keep (w := w.drew) r2 fun k hk => setCells_heap g3 _ _ _ _ (by rintro rfl; exact u2 hk)
  have xw : Whole (w.drew.setCells g3 a (List.replicate m (.int .i64 0))) g 40 _ := whole_keep (w := w.drew) hw (setCells_heap g3 _ _ _ _ n3')
  have KP0 : Keep w g (w.drew.setCells g3 a (List.replicate m (.int .i64 0))) := by
    intro x' y' z' a' b' e' hw' k hk hgk h2 h3
    have eq := Option.some.inj (hw'.symm.trans hw)
    simp only [Obj.cells.injEq, Array.mk.injEq, List.cons.injEq, and_true, true_and] at eq
    obtain ⟨rfl, rfl, rfl, rfl, rfl, rfl⟩ := eq
    exact setCells_heap g3 _ _ w.drew _ (fun hk3 => h3 (by rw [hk3]; rfl))
  have xb : Below lo w (w.drew.setCells g3 a (List.replicate m (.int .i64 0))) := setCells_below g3 _ _ _ _ _ (by omega) (Below.refl _ _).drew
  have cl := CL.out
  generalize w.drew.setCells g3 a (List.replicate m (.int .i64 0)) = w1 at *
  have zl := zeroN_len (c := c) (a := a) (k := m) (by omega)
  have ST : Hid (BoxIs (w1.setCell ⟨g, 3, none⟩ (.int .i64 ((a : Int) + m))) lo g ⟨s, b, zeroN c a m, (a : Int) + m, bn, o⟩) := Lib.hid
    (box_of (d := ⟨s, b, zeroN c a m, (a : Int) + m, bn, o⟩) hlo (whole_set xw 3 _) (row_apart x1 (row_not_whole x1 xw)) (row_apart x2 (row_not_whole x2 xw)) (row_apart Z3 (row_not_whole Z3 xw)) h4 p1 p2 p3)
  have KP := Lib.hid (keep_own KP0 3 (.int .i64 ((a : Int) + m)))
  clear KP0
  have c2 := (six_cells hw).2.2.1
  have c3 := (six_cells hw).2.2.2.1
  have d3 := (six_cells xw).2.2.2.1
  have e3 := whole_free xw 3
  have TA : Hid ((a : Int).toNat = a ∧ (m : Int).toNat = m) := Lib.hid ⟨by omega, by omega⟩
  have ka : a ≤ k3 := by omega
  have kb : a + m ≤ k3 := by omega
  have kc : (k3 == a) = false := by rw [beq_eq_false_iff_ne]; omega
  have kd : ¬ (k3 = a) := by omega
  have hcl : c.length ≤ 32 := by omega
  unfold maxLen at hcm
  rw [TA.out.1, TA.out.2]
  clear hb hw hd hn h1 CL hcells hfree n3 n3' u1 u2 Z3 x1 x2 xw p1 p2 p3 zl TA hc32
  go_enter Tryz.func188, Tryz.ntmps188
  go_wp2
  go_region
  all_goals
    go_wp2
    go_ret
    exact ⟨rfl, ST.out, xb.setCell hlo _, KP.out⟩

theorem box_new {w : World} {lo hi : Nat} {x y z : Value} {d : Dt} (h : DatOf w lo hi (.agg #[x, y, z, .int .i64 d.h, .int .i64 d.n, .string d.o]) d) (hl : lo ≤ w.heap.size) :
    BoxIs (w.alloc (.cells #[x, y, z, .int .i64 d.h, .int .i64 d.n, .string d.o] 40)) lo w.heap.size d := by
  obtain ⟨x', y', z', hv, h1, h2, h3, h4, p1, p2, p3, _⟩ := h
  simp only [Value.agg.injEq, Array.mk.injEq, List.cons.injEq, and_true, true_and] at hv
  obtain ⟨rfl, rfl, rfl⟩ := hv
  exact box_of hl (whole_new w _ _) (row_alloc h1 _) (row_alloc h2 _) (row_alloc h3 _) h4 p1 p2 p3

theorem box_data {w : World} {lo g : Nat} {d : Dt} (h : BoxIs w lo g d) : ∃ A1 k1 A2 k2 A3 k3, Whole w g 40 #[.slice A1 d.s.length k1, .slice A2 d.b.length k2, .slice A3 d.c.length k3, .int .i64 d.h, .int .i64 d.n, .string d.o] ∧
    DatOf w lo w.heap.size (.agg #[.slice A1 d.s.length k1, .slice A2 d.b.length k2, .slice A3 d.c.length k3, .int .i64 d.h, .int .i64 d.n, .string d.o]) d := by
  obtain ⟨hg, A1, k1, A2, k2, A3, k3, hw, r1, r2, r3, h4, p1, p2, p3⟩ := box_parts h
  exact ⟨A1, k1, A2, k2, A3, k3, hw, datOf_rows r1 r2 r3 h4 p1 p2 p3⟩

end Go.Proofs.YthnbaeamekolmaaGreatDoor

namespace Go.Proofs.YthnbaeamekolmaaGreatDoor
open Go.RowKit
set_option linter.unusedVariables false
set_option linter.unusedSimpArgs false

/-- What the call of an effect leaves: the cells, the throw, the data behind the pointer. -/
def EffR (w : World) (lo g : Nat) (r : Dt × List Int × Int) (e : Ending) (w' : World) : Prop :=
  ∃ lv, e = .returned (.tuple #[lv, .int .i64 r.2.2]) ∧ BoxIs w' lo g r.1 ∧ Ints w' lv r.2.1 ∧ Below lo w w' ∧ Keep w g w'

/-- The function value is a function that is entered. -/
def Entered (f : FuncId) : Prop := ∀ (args : Array Value) (w : World), (callFunc f args).run Tryz.prog w = .ok (.enter f args) w

/-- The cells that are taken lie neither in the data's own block nor in its second or third row. -/
def Away (w : World) (g : Nat) (tv : Value) : Prop := ∀ ad n c, tv = .slice (some ad) n c → ad.block ≠ g ∧ ∀ x y z a b e, Whole w g 40 #[x, y, z, a, b, e] → y.ownBlock ≠ some ad.block ∧ z.ownBlock ≠ some ad.block

/-- The function value is the effect of primitive p, in every world that has grown from w0. -/
def EffOf (Tb : World → Prop) (w0 : World) (fv : Value) (p : Nat) : Prop :=
  ∃ (f : FuncId) (cap : List Value), fv = .func (.func f) #[] cap.toArray ∧ Entered f ∧
    ∀ (w : World) (lo g : Nat) (d : Dt) (tv : Value), Below w0.heap.size w0 w → BoxIs w lo g d → DtFine d → takesP p ≤ d.s.length → needsP p ≤ d.b.length → Ints w tv (tkOf d (takesP p)) → Tb w → Away w g tv →
      Calls Tryz.prog f (.pointer (some ⟨g, 0, none⟩) :: tv :: cap).toArray w (EffR w lo g (eff d p))

theorem effOf_below {Tb : World → Prop} {w0 w1 : World} {fv : Value} {p : Nat} (h : EffOf Tb w0 fv p) (hb : Below w0.heap.size w0 w1) : EffOf Tb w1 fv p := by
  obtain ⟨f, cap, hv, he, hc⟩ := h
  exact ⟨f, cap, hv, he, fun w lo g d tv hw => hc w lo g d tv (below_step hb hw)⟩

theorem box_lt {w : World} {lo g : Nat} {d : Dt} (h : BoxIs w lo g d) : lo ≤ g ∧ g < w.heap.size := by
  obtain ⟨h1, x, y, z, hw, _⟩ := h
  exact ⟨h1, whole_lt hw⟩

theorem box_below {w w' : World} {lo g : Nat} {d : Dt} (h : BoxIs w lo g d) (hb : Below w.heap.size w w') : BoxIs w' lo g d := by
  obtain ⟨h1, x, y, z, hw, hd⟩ := h
  exact ⟨h1, x, y, z, whole_below hw hb, datOf_top (datOf_below hd hb) hb.size⟩

theorem below_lo {w w' : World} {lo g : Nat} {d : Dt} (h : BoxIs w lo g d) (hb : Below w.heap.size w w') : Below lo w w' := hb.mono (by have := box_lt h; omega)

/-- An effect that only reads, and lays cells down. -/
theorem effR_quiet {w w' : World} {lo g : Nat} {d : Dt} {lv : Value} {L : List Int} {t : Int} (hb : BoxIs w lo g d) (hi : Ints w' lv L) (h : Below w.heap.size w w') : EffR w lo g (d, L, t) (.returned (.tuple #[lv, .int .i64 t])) w' :=
  ⟨lv, rfl, box_below hb h, hi, below_lo hb h, keep_below h⟩

theorem keep_after {w w1 w' : World} {lo g : Nat} {d : Dt} (hbox : BoxIs w lo g d) (hb : Below w.heap.size w w1) (h : Keep w1 g w') : Keep w g w' := fun x y z a b e hw k hk hg h2 h3 =>
  (h x y z a b e ((hb.block g (box_lt hbox).2).trans hw) k (Nat.lt_of_lt_of_le hk hb.size) hg h2 h3).trans (hb.block k hk)

theorem keep_second {w w1 w2 : World} {g : Nat} {x y z a b e : Value} (hw : Whole w g 40 #[x, y, z, a, b, e]) (hb : Below w.heap.size w w1) (hg : w1.grownBy w2 y.ownBlock) : Keep w g w2 := by
  intro x' y' z' a' b' e' hw' k hk hgk h2 h3
  have eq := Option.some.inj (hw'.symm.trans hw)
  simp only [Obj.cells.injEq, Array.mk.injEq, List.cons.injEq, and_true, true_and] at eq
  obtain ⟨rfl, rfl, rfl, rfl, rfl, rfl⟩ := eq
  exact (hg.block k (Nat.lt_of_lt_of_le hk hb.size) (fun e => h2 e.symm)).trans (hb.block k hk)

/-- The first k of the cells, and zeros. -/
def mixP (L : List Int) (k : Nat) : List Int := L.take k ++ List.replicate (L.length - k) 0

theorem mixP_zero (L : List Int) : mixP L 0 = List.replicate L.length 0 := by unfold mixP; simp

theorem mixP_end (L : List Int) : mixP L L.length = L := by unfold mixP; simp

theorem mixP_len {L : List Int} {k : Nat} (h : k ≤ L.length) : (mixP L k).length = L.length := by unfold mixP; simp; omega

theorem mixP_next {L : List Int} {k : Nat} (h : k < L.length) : (mixP L k).set k L[k] = mixP L (k + 1) := by
  unfold mixP
  rw [List.set_append_right _ _ (by simp; omega), List.length_take, Nat.min_eq_left (by omega), Nat.sub_self, List.take_succ_eq_append_getElem h, List.append_assoc,
    show L.length - k = (L.length - (k + 1)) + 1 by omega, List.replicate_succ, List.set_cons_zero]
  rfl

/-- The cells at these places. -/
def atP (tk Ps : List Int) : List Int := Ps.map fun x => tk.getD x.toNat 0

set_option maxRecDepth 100000 in
set_option maxHeartbeats 1000000 in
theorem pickF_any (ptr tv sv : Value) (g : Nat) (tk Ps : List Int) (w : World) (hw : Whole w g 23 #[sv]) (hs : Ints w sv Ps) (ht : Ints w tv tk) (hr : ∀ k (h : k < Ps.length), 0 ≤ Ps[k] ∧ Ps[k] < tk.length) (hm : Ps.length ≤ 8) (hm2 : tk.length ≤ 8) :
    Calls Tryz.prog 176 #[ptr, tv, .pointer (some ⟨g, 0, none⟩)] w fun e w' => ∃ lv, e = .returned (.tuple #[lv, .int .i64 0]) ∧ Ints w' lv (atP tk Ps) ∧ Below w.heap.size w w' := by
  obtain ⟨i0, hi0, hz0, hz1, hz2⟩ := info_parts own_info3
  have I0 := Lib.hid hi0
  have Z0 := Lib.hid hz0
  have Z1 := Lib.hid hz1
  have B8 : Hid (i0.bytes * Ps.length ≤ 281474976710656) := Lib.hid (by rw [hz2]; omega)
  obtain ⟨_, A, ca, rfl, hca⟩ := hs
  obtain ⟨_, B, cb, rfl, hcb⟩ := ht
  have HA := Lib.hid hca
  have HB := Lib.hid hcb
  have HR := Lib.hid hr
  have hl : (atP tk Ps).length = Ps.length := by unfold atP; simp
  have HL := Lib.hid hl
  have HW := Lib.hid hw
  have c0 := whole_cell hw 0
  have hg := whole_lt hw
  simp at c0
  clear hi0 hz0 hz1 hz2 hca hcb hr hl hw
  go_enter Tryz.func176, Tryz.ntmps176
  go_wp2_with (first
    | (at_make; refine wpList_make_full _ rfl _ _ 23 rfl w.heap.size 3 i0 _ 1 Tryz.underlying23 I0.out Z0.out Z1.out .i64 .i64 _ _ Ps.length rfl rfl rfl rfl B8.out (by unfold maxLen; omega) (Nat.le_refl _) ?_
       intro w1 ho1 hg1
       have B1 : Below w.heap.size w w1 := (Below.refl _ _).grown hg1 (Nat.le_refl _) (by simp)
       have R1 := Lib.hid (zeros_row ho1)
       have W1 := Lib.hid (whole_below HW.out B1)
       have c1 := whole_cell W1.out 0
       clear ho1 hg1))
  clear c1
  go_loopw [15] (fun i wr => ∃ k : Nat, k ≤ Ps.length ∧ i = .int .i64 k ∧ Row wr w.heap.size (.slice (some ⟨w.heap.size, 0, none⟩) Ps.length Ps.length) (mixP (atP tk Ps) k) ∧ Below w.heap.size w wr) (fun i _ => Ps.length - (intOf i).toNat)
  case atStart => exact ⟨0, Nat.zero_le _, rfl, by rw [mixP_zero, HL.out]; exact R1.out, B1⟩
  case round =>
    obtain ⟨k, hk, rfl, hrow, hb⟩ := hrel
    have HB2 := Lib.hid hb
    have HRW := Lib.hid hrow
    clear hb hrow R1 W1
    by_cases hlt : k < Ps.length
    · obtain ⟨aA, rfl, hcA⟩ := HA.out (by omega)
      obtain ⟨q0, q1⟩ := HR.out k hlt
      obtain ⟨aB, rfl, hcB⟩ := HB.out (by omega)
      have ka := hcA k hlt
      have ka2 : wr.cell? (aA.add k) = some (.int .i64 Ps[k]) := by rw [HB2.out.cell (World.block_lt_of_cell? w _ ka)]; exact ka
      obtain ⟨j, hj⟩ : ∃ j : Nat, Ps[k] = (j : Int) := ⟨Ps[k].toNat, by omega⟩
      have hjt : j < tk.length := by omega
      have kb := hcB j hjt
      have kb2 : wr.cell? (aB.add j) = some (.int .i64 tk[j]) := by rw [HB2.out.cell (World.block_lt_of_cell? w _ kb)]; exact kb
      have hat : (atP tk Ps)[k]'(by rw [HL.out]; exact hlt) = tk[j] := by unfold atP; simp [hj, hjt]
      have pl := mixP_len (L := atP tk Ps) (k := k) (by rw [HL.out]; omega)
      have HR' := HRW.out
      rw [show Ps.length = (mixP (atP tk Ps) k).length by rw [pl, HL.out]] at HR'
      have ko := row_cell HR' k (by rw [pl, HL.out]; exact hlt)
      have kf := row_free HR' k
      have ST := row_set HR' k tk[j]
      rw [show (mixP (atP tk Ps) k).set k tk[j] = mixP (atP tk Ps) (k + 1) by rw [← hat]; exact mixP_next (by rw [HL.out]; exact hlt), pl, HL.out] at ST
      have SR := Lib.hid ST.1
      have SB := Lib.hid (HB2.out.setCell (p := ⟨w.heap.size, k, none⟩) (Nat.le_refl _) (.int .i64 tk[j]))
      rw [hj] at ka2
      clear ST hcA hcB ka kb hat q0 q1 hj
      generalize (mixP (atP tk Ps) k)[k]'_ = old at *
      clear HR' pl
      generalize tk[j] = y at *
      go_wp2
      go_roundw
      case rel => exact ⟨k + 1, by omega, by go_num, SR.out, SB.out⟩
      case measure => simp [intOf]; omega
    · obtain rfl : k = Ps.length := by omega
      have HE : Hid (Ints wr (.slice (some ⟨w.heap.size, 0, none⟩) Ps.length Ps.length) (atP tk Ps)) := Lib.hid (by
        have h := HRW.out
        rw [← HL.out, mixP_end] at h
        have h2 := row_ints h
        rw [HL.out] at h2
        exact h2)
      go_wp2
      go_ret2
      exact ⟨_, rfl, HE.out, HB2.out⟩

end Go.Proofs.YthnbaeamekolmaaGreatDoor

namespace Go.Proofs.YthnbaeamekolmaaGreatDoor
open Go.RowKit
set_option linter.unusedVariables false
set_option linter.unusedSimpArgs false

/-- What apply leaves. -/
def AppR (w : World) (lo g : Nat) (r : Dt × Int) (e : Ending) (w' : World) : Prop := e = .returned (.int .i64 r.2) ∧ BoxIs w' lo g r.1 ∧ Below lo w w'

/-- The world with a primitive in a block. -/
def PW (w : World) (t n k : Nat) (f : FuncId) (cap : Array Value) : World := w.alloc (.cells #[.int .i64 t, .int .i64 n, .int .i64 k, .func (.func f) #[] cap] 108)

theorem pw_below (w : World) (t n k : Nat) (f : FuncId) (cap : Array Value) (m : Nat) : Below w.heap.size w ((PW w t n k f cap).drewN m) := below_drewN (below_alloc (Below.refl _ _) _) m

set_option maxRecDepth 100000 in
set_option maxHeartbeats 2000000 in
theorem apply_under (w : World) (lo g : Nat) (d : Dt) (t n k : Nat) (fv : FuncId) (cap : Array Value) (f : Int) (hb : BoxIs w lo g d) (hd : DtFine d) (ht : t ≤ 3) (hu : d.s.length < t) :
    Calls Tryz.prog 61 #[.pointer (some ⟨g, 0, none⟩), .agg #[.int .i64 t, .int .i64 n, .int .i64 k, .func (.func fv) #[] cap], .int .i64 f] w (AppR w lo g (d, -4)) := by
  obtain ⟨hg, A1, k1, A2, k2, A3, k3, hw, _⟩ := box_parts hb
  have c0 := (six_cells hw).1
  have HB : Hid (∀ m, BoxIs ((PW w t n k fv cap).drewN m) lo g d) := Lib.hid fun m => box_below hb (pw_below w t n k fv cap m)
  have HL : Hid (Below lo w (PW w t n k fv cap)) := Lib.hid (below_lo hb (pw_below w t n k fv cap 0))
  have hlt := whole_lt hw
  have s1 : IntKind.i64.wrap ((d.s.length : Int) - t) = (d.s.length : Int) - t := IntWalk.i64_in _ (by omega)
  have s2 : (d.s.length : Int) - t < 0 := by omega
  clear hb hw
  go_enter Tryz.func61, Tryz.ntmps61
  go_wp2
  go_quiet (fail)
  go_wp2
  go_ret
  exact ⟨rfl, HB.out 0, below_drewN HL.out _⟩

set_option maxRecDepth 100000 in
set_option maxHeartbeats 2000000 in
theorem apply_back (w : World) (lo g : Nat) (d : Dt) (t n k : Nat) (fv : FuncId) (cap : Array Value) (f : Int) (hb : BoxIs w lo g d) (hd : DtFine d) (ht : t ≤ 3) (hu : t ≤ d.s.length) (hn : n ≤ 2) (hf0 : 0 ≤ f) (hf1 : f ≤ d.b.length) (hu2 : (d.b.length : Int) - f < n) :
    Calls Tryz.prog 61 #[.pointer (some ⟨g, 0, none⟩), .agg #[.int .i64 t, .int .i64 n, .int .i64 k, .func (.func fv) #[] cap], .int .i64 f] w (AppR w lo g (d, -6)) := by
  obtain ⟨hg, A1, k1, A2, k2, A3, k3, hw, _⟩ := box_parts hb
  have c0 := (six_cells hw).1
  have c1 := (six_cells hw).2.1
  have HB : Hid (∀ m, BoxIs ((PW w t n k fv cap).drewN m) lo g d) := Lib.hid fun m => box_below hb (pw_below w t n k fv cap m)
  have HL : Hid (Below lo w (PW w t n k fv cap)) := Lib.hid (below_lo hb (pw_below w t n k fv cap 0))
  have hlt := whole_lt hw
  have l1 := fine_sl hd
  have l2 := fine_bl hd
  have s1 : IntKind.i64.wrap ((d.s.length : Int) - t) = (d.s.length : Int) - t := IntWalk.i64_in _ (by omega)
  have s2 : ¬ ((d.s.length : Int) - t < 0) := by omega
  have s3 : IntKind.i64.wrap ((d.b.length : Int) - f) = (d.b.length : Int) - f := IntWalk.i64_in _ (by omega)
  clear hb hw
  go_enter Tryz.func61, Tryz.ntmps61
  go_wp2
  go_quiet (fail)
  go_wp2
  go_quiet (fail)
  go_wp2
  go_ret
  exact ⟨rfl, HB.out 0, below_drewN (below_drewN HL.out _) _⟩

/-- What the effect of a primitive leaves, once it is laid down: the cells that are taken lie apart. -/
theorem take_away {w : World} {lo g t m g1 : Nat} {d : Dt} {A2 A3 : Option Addr} {k1 k2 k3 : Nat} (hw : Whole w g 40 #[.slice (some ⟨g1, 0, none⟩) d.s.length k1, .slice A2 d.b.length k2, .slice A3 d.c.length k3, .int .i64 d.h, .int .i64 d.n, .string d.o])
    (r1 : Row w lo (.slice (some ⟨g1, 0, none⟩) d.s.length k1) d.s) (p1 : Parted (.slice (some ⟨g1, 0, none⟩) d.s.length k1) (.slice A2 d.b.length k2)) (p2 : Parted (.slice (some ⟨g1, 0, none⟩) d.s.length k1) (.slice A3 d.c.length k3)) (hm : d.s.length = m + t) (ht : t ≤ 3) :
    (∀ W, Below w.heap.size w W → Ints W (.slice (some ⟨g1, m, none⟩) t (k1 - m)) (tkOf d t)) ∧ (∀ W, Below w.heap.size w W → Away W g (.slice (some ⟨g1, m, none⟩) t (k1 - m))) := by
  have hl := row_len r1
  have tl := tk_len d ht
  constructor
  · intro W hW
    refine ints_below (w := w) ?_ hW
    refine ⟨by rw [tl]; unfold maxLen; omega, _, _, by rw [tl], fun hp => ?_⟩
    refine ⟨_, rfl, fun k hk => ?_⟩
    rw [tl] at hk
    have h := row_cell r1 (m + k) (by omega)
    have e : (⟨g1, m, none⟩ : Addr).add k = ⟨g1, m + k, none⟩ := by rw [Addr.add_lit]
    rw [e, h]
    congr 2
    have e2 := tk_at (d := d) ht (by omega : t ≤ d.s.length)
    have e4 : d.s.length - t = m := by omega
    rw [e4] at e2
    have e3 : (d.s.drop m)[k]'(by rw [List.length_drop]; omega) = (tkOf d t)[k]'(by rw [tl]; exact hk) := by simp only [e2]
    rw [← e3, List.getElem_drop]
  · intro W hW ad n c he
    simp only [Value.slice.injEq, Option.some.injEq] at he
    obtain ⟨rfl, _, _⟩ := he
    have ho : (Value.slice (some ⟨g1, 0, none⟩) d.s.length k1).ownBlock = some g1 := rfl
    refine ⟨fun e => row_not_whole r1 hw (by rw [ho]; exact congrArg some e), fun x y z a b e hw' => ?_⟩
    have eq := Option.some.inj (hw'.symm.trans ((hW.block g (whole_lt hw)).trans hw))
    simp only [Obj.cells.injEq, Array.mk.injEq, List.cons.injEq, and_true, true_and] at eq
    obtain ⟨rfl, rfl, rfl, rfl, rfl, rfl⟩ := eq
    exact ⟨fun e => p1 _ ho e, fun e => p2 _ ho e⟩

theorem away_head {w W : World} {lo g g1 : Nat} {d : Dt} {A2 A3 : Option Addr} {k1 k2 k3 : Nat} (hw : Whole w g 40 #[.slice (some ⟨g1, 0, none⟩) d.s.length k1, .slice A2 d.b.length k2, .slice A3 d.c.length k3, .int .i64 d.h, .int .i64 d.n, .string d.o])
    (r1 : Row w lo (.slice (some ⟨g1, 0, none⟩) d.s.length k1) d.s) (p1 : Parted (.slice (some ⟨g1, 0, none⟩) d.s.length k1) (.slice A2 d.b.length k2)) (p2 : Parted (.slice (some ⟨g1, 0, none⟩) d.s.length k1) (.slice A3 d.c.length k3)) (hW : Below w.heap.size w W) : Away W g (.slice (some ⟨g1, 0, none⟩) 0 0) := by
  intro ad n c he
  simp only [Value.slice.injEq, Option.some.injEq] at he
  obtain ⟨rfl, _, _⟩ := he
  have ho : (Value.slice (some ⟨g1, 0, none⟩) d.s.length k1).ownBlock = some g1 := rfl
  refine ⟨fun e => row_not_whole r1 hw (by rw [ho]; exact congrArg some e), fun x y z a b e hw' => ?_⟩
  have eq := Option.some.inj (hw'.symm.trans ((hW.block g (whole_lt hw)).trans hw))
  simp only [Obj.cells.injEq, Array.mk.injEq, List.cons.injEq, and_true, true_and] at eq
  obtain ⟨rfl, rfl, rfl, rfl, rfl, rfl⟩ := eq
  exact ⟨fun e => p1 _ ho e, fun e => p2 _ ho e⟩

theorem away_nil (w : World) (g n c : Nat) : Away w g (.slice none n c) := fun ad _ _ h => by cases h

/-- The shape of an owned row. -/
theorem row_shape {w : World} {lo n k : Nat} {A : Option Addr} {zs : List Int} (h : Row w lo (.slice A n k) zs) : (A = none ∧ n = 0 ∧ k = 0) ∨ ∃ g1, A = some ⟨g1, 0, none⟩ := by
  rcases h.2 with ⟨hv, h0⟩ | ⟨g, cap, cur, hv, _⟩
  · simp only [Value.slice.injEq] at hv; exact .inl hv
  · simp only [Value.slice.injEq] at hv; exact .inr ⟨g, hv.1⟩

end Go.Proofs.YthnbaeamekolmaaGreatDoor
