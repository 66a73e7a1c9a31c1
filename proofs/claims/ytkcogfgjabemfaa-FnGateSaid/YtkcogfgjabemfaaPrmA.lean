/- What the 52 primitives come to, as functions on a script's data. -/
import Derived.Test.YtkcogfgjabemfaaDatU
import Derived.Test.YtkcogfgjabemfaaTextA
import Derived.Test.YtkcogfgjabemfaaCellsB
namespace Go.Proofs.Ytkcogfgjabemfaa
open Go.RowKit
set_option linter.unusedVariables false
set_option linter.unusedSimpArgs false

/-- The cell so many below the top; 0 where there is none. -/
def tp (d : Dt) (i : Nat) : Int := d.s.reverse.getD i 0
/-- How many cells of the stack a primitive takes. -/
def takesL : List Nat := [1, 1, 2, 2, 3, 2, 2, 1, 2, 2, 0, 1, 0, 0, 2, 2, 2, 2, 2, 2, 2, 2, 2, 2, 1, 1, 1, 1, 1, 2, 2, 2, 2, 2, 2, 2, 1, 1, 1, 2, 2, 0, 1, 1, 1, 1, 0, 0, 0, 0, 0, 0]
def takesP (p : Nat) : Nat := takesL.getD (p - 1) 0
/-- How many cells it wants on the other stack. -/
def needsP (p : Nat) : Nat := if p = 13 ∨ p = 14 ∨ p = 51 then 1 else if p = 52 then 2 else 0
/-- How many of them it drops. -/
def dropsP (p : Nat) : Nat := if p = 13 then 1 else if p = 52 then 2 else 0
/-- The cells that it takes, the top last. -/
def tkOf (d : Dt) (k : Nat) : List Int := if k = 1 then [tp d 0] else if k = 2 then [tp d 1, tp d 0] else if k = 3 then [tp d 2, tp d 1, tp d 0] else []
/-- A flag. -/
def flagI (b : Bool) : Int := if b then -1 else 0
/-- Something said. -/
def sayE (d : Dt) (t : ByteArray) : Dt × List Int × Int := if 300 < d.o.size + t.size then (d, [], -17) else ({ d with o := d.o ++ t }, [], 0)
/-- A byte as a text. -/
def byteT (c : Int) : ByteArray := ⟨#[UInt8.ofNat (c % 256).toNat]⟩
/-- A cell as a text, and a blank. -/
def cellT (d : Dt) (c : Int) : ByteArray := ⟨(textL upD d.n.toNat c ++ [32]).toArray⟩
/-- An operation on two cells. -/
def opE (d : Dt) (op b c : Int) : Dt × List Int × Int := if twoR op c = true then (d, [twoW op b c], 0) else (d, [], -10)
/-- Fetch, store, add. -/
def fetchE (d : Dt) (c : Int) : Dt × List Int × Int := match dPlace d c with | none => (d, [0], -9) | some k => (d, [d.c.getD k 0], 0)
def storeE (d : Dt) (b c : Int) : Dt × List Int × Int := match dPlace d c with | none => (d, [], -9) | some k => ({ d with c := d.c.set k b }, [], 0)
def addE (d : Dt) (b c : Int) : Dt × List Int × Int := match dPlace d c with | none => (d, [], -9) | some k => ({ d with c := d.c.set k (wrap32 (d.c.getD k 0 + b)) }, [], 0)
/-- The end of the cells moved. -/
def allotE (d : Dt) (c : Int) : Dt × List Int × Int := if goodMove d c then ({ d with c := zeroN d.c d.h.toNat (c.tdiv 4).toNat, h := d.h + c.tdiv 4 }, [], 0) else (d, [], -8)
def commaE (d : Dt) (c : Int) : Dt × List Int × Int := if goodMove d 4 then ({ d with c := (zeroN d.c d.h.toNat 1).set d.h.toNat c, h := d.h + 1 }, [], 0) else (d, [], -8)
/-- A cell moved to the other stack. -/
def backE (d : Dt) (c : Int) : Dt × List Int × Int := if d.b.length < 32 then ({ d with b := d.b ++ [c] }, [], 0) else (d, [], -5)

/-- What a primitive leaves of the data, which cells it lays on the stack, and its throw. -/
def eff (d : Dt) (p : Nat) : Dt × List Int × Int :=
  let a := tp d 2; let b := tp d 1; let c := tp d 0
  if p = 1 then (d, [c, c], 0) else if p = 2 then (d, [], 0) else if p = 3 then (d, [c, b], 0) else if p = 4 then (d, [b, c, b], 0)
  else if p = 5 then (d, [b, c, a], 0) else if p = 6 then (d, [c], 0) else if p = 7 then (d, [c, b, c], 0)
  else if p = 8 then (d, (if c = 0 then [0] else [c, c]), 0) else if p = 9 then (d, [b, c, b, c], 0) else if p = 10 then (d, [], 0)
  else if p = 11 then (d, [(d.s.length : Int)], 0)
  else if p = 12 then backE d c
  else if p = 13 ∨ p = 14 ∨ p = 51 then (d, [d.b.getLastD 0], 0)
  else if p ≤ 24 then opE d ((p : Int) - 14) b c
  else if p = 25 then (d, [wrap32 (-c)], 0) else if p = 26 then (d, [wrap32 (max c (-c))], 0) else if p = 27 then (d, [-c - 1], 0)
  else if p = 28 then (d, [wrap32 (c + 1)], 0) else if p = 29 then (d, [wrap32 (c - 1)], 0)
  else if p = 30 then (d, [min b c], 0) else if p = 31 then (d, [max b c], 0)
  else if p = 32 then (d, [flagI (b == c)], 0) else if p = 33 then (d, [flagI (b != c)], 0) else if p = 34 then (d, [flagI (decide (b < c))], 0)
  else if p = 35 then (d, [flagI (decide (c < b))], 0) else if p = 36 then (d, [flagI (decide (b % 4294967296 < c % 4294967296))], 0)
  else if p = 37 then (d, [flagI (c == 0)], 0) else if p = 38 then (d, [flagI (decide (c < 0))], 0)
  else if p = 39 then fetchE d c else if p = 40 then storeE d b c else if p = 41 then addE d b c
  else if p = 42 then (d, [4096 + 4 * d.h], 0)
  else if p = 43 then allotE d c else if p = 44 then commaE d c
  else if p = 45 then sayE d (byteT c) else if p = 46 then sayE d (cellT d c) else if p = 47 then sayE d ⟨#[10]⟩ else if p = 48 then sayE d ⟨#[32]⟩
  else if p = 49 then ({ d with n := 10 }, [], 0) else if p = 50 then ({ d with n := 16 }, [], 0)
  else (d, [], 0)

/-- What an effect comes to once its cells are laid down. -/
def finE (d : Dt) (k drops : Nat) (r : Dt × List Int × Int) : Dt × Int :=
  if r.2.2 ≠ 0 then (d, r.2.2) else if 32 < d.s.length - k + r.2.1.length then (d, -3)
  else ({ r.1 with s := d.s.take (d.s.length - k) ++ r.2.1, b := r.1.b.take (r.1.b.length - drops) }, 0)

/-- What a primitive comes to: the data, the throw. -/
def dPrim (d : Dt) (p : Nat) (f : Int) : Dt × Int :=
  if d.s.length < takesP p then (d, -4) else if (d.b.length : Int) - f < needsP p then (d, -6) else finE d (takesP p) (dropsP p) (eff d p)

/-- Cells laid over k on top. -/
def dPut (d : Dt) (k : Nat) (L : List Int) : Dt × Int := if 32 < d.s.length - k + L.length then (d, -3) else ({ d with s := d.s.take (d.s.length - k) ++ L }, 0)

theorem fin_put (d : Dt) (k : Nat) (L : List Int) : finE d k 0 (d, L, 0) = dPut d k L := by
  unfold finE dPut
  simp only [ne_eq, not_true_eq_false, if_false, Nat.sub_zero, List.take_length]

theorem fin_throw (d x : Dt) (k j : Nat) (L : List Int) (t : Int) (h : t ≠ 0) : finE d k j (x, L, t) = (d, t) := by
  unfold finE; simp only [ne_eq, h, not_false_eq_true, if_true]

theorem tp_at {d : Dt} {i : Nat} (h : i < d.s.length) : tp d i = d.s[d.s.length - 1 - i] := by
  unfold tp
  rw [List.getD_eq_getElem?_getD, List.getElem?_reverse h]
  simp [show d.s.length - 1 - i < d.s.length by omega]

theorem tp_out {d : Dt} {i : Nat} (h : d.s.length ≤ i) : tp d i = 0 := by
  unfold tp
  rw [List.getD_eq_getElem?_getD, List.getElem?_eq_none (by simp; omega)]; rfl

theorem tk_len (d : Dt) {k : Nat} (h : k ≤ 3) : (tkOf d k).length = k := by
  have : k = 0 ∨ k = 1 ∨ k = 2 ∨ k = 3 := by omega
  rcases this with rfl | rfl | rfl | rfl <;> rfl

theorem tk_at {d : Dt} {k : Nat} (h3 : k ≤ 3) (h : k ≤ d.s.length) : d.s.drop (d.s.length - k) = tkOf d k := by
  apply List.ext_getElem
  · rw [tk_len d h3, List.length_drop]; omega
  · intro i h1 h2
    rw [tk_len d h3] at h2
    rw [List.getElem_drop]
    have hk : k = 0 ∨ k = 1 ∨ k = 2 ∨ k = 3 := by omega
    rcases hk with rfl | rfl | rfl | rfl
    · omega
    · obtain rfl : i = 0 := by omega
      show _ = tp d 0
      rw [tp_at (by omega)]; congr 1
    · have hi : i = 0 ∨ i = 1 := by omega
      rcases hi with rfl | rfl
      · show _ = tp d 1
        rw [tp_at (by omega)]; congr 1
      · show _ = tp d 0
        rw [tp_at (by omega)]; congr 1; omega
    · have hi : i = 0 ∨ i = 1 ∨ i = 2 := by omega
      rcases hi with rfl | rfl | rfl
      · show _ = tp d 2
        rw [tp_at (by omega)]; congr 1
      · show _ = tp d 1
        rw [tp_at (by omega)]; congr 1; omega
      · show _ = tp d 0
        rw [tp_at (by omega)]; congr 1; omega

theorem takes3 (p : Nat) : takesP p ≤ 3 := by
  unfold takesP
  rcases Nat.lt_or_ge (p - 1) 52 with h | h
  · have : ∀ i : Fin 52, takesL.getD i.1 0 ≤ 3 := by decide
    exact this ⟨p - 1, h⟩
  · rw [List.getD_eq_getElem?_getD, List.getElem?_eq_none (by exact h)]; simp

theorem prim_under {d : Dt} {p : Nat} {f : Int} (h : d.s.length < takesP p) : dPrim d p f = (d, -4) := by unfold dPrim; rw [if_pos h]

theorem prim_back {d : Dt} {p : Nat} {f : Int} (h : ¬ d.s.length < takesP p) (h2 : (d.b.length : Int) - f < needsP p) : dPrim d p f = (d, -6) := by unfold dPrim; rw [if_neg h, if_pos h2]

theorem prim_run {d : Dt} {p : Nat} {f : Int} (h : takesP p ≤ d.s.length) (h2 : (needsP p : Int) ≤ d.b.length - f) : dPrim d p f = finE d (takesP p) (dropsP p) (eff d p) := by
  unfold dPrim; rw [if_neg (by omega), if_neg (by omega)]

theorem tp_cell {d : Dt} (h : DtFine d) (i : Nat) : -2147483648 ≤ tp d i ∧ tp d i ≤ 2147483647 := by
  rcases Nat.lt_or_ge i d.s.length with hi | hi
  · rw [tp_at hi]
    exact cellB_true.1 (cellsB_at (fine_sc h) (List.getElem_mem _))
  · rw [tp_out hi]; omega

end Go.Proofs.Ytkcogfgjabemfaa
