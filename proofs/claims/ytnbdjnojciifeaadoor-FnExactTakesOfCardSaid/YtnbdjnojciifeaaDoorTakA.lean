/- TakesOf: both sides. -/
import Derived.Test.YtnbdjnojciifeaaDoorTblT
namespace Go.Proofs.YtnbdjnojciifeaaDoor
open Go.RowKit
set_option linter.unusedVariables false
set_option linter.unusedSimpArgs false

theorem of_inB {n a b : Int} (h : inB n a b = true) : a ≤ n ∧ n ≤ b := by unfold inB at h; simpa using h
theorem inB_of {n a b : Int} (h1 : a ≤ n) (h2 : n ≤ b) : inB n a b = true := by unfold inB; simp [h1, h2]
theorem of_inB_false {n a b : Int} (h : inB n a b = false) : n < a ∨ b < n := by unfold inB at h; simp at h; omega

/-- Three numbers. -/
def NumsOf (w : World) (ns : List Int) (e : Ending) (w' : World) : Prop := e = .returned (.tuple (ns.map (Value.int .i64)).toArray) ∧ Below w.heap.size w w'

/-- Nothing is asked of an effect. -/
def AnyE : World → Value → Nat → Prop := fun _ _ _ => True

set_option maxHeartbeats 1000000 in
theorem mk_pick (p : Nat) (w : World) (A : Option Addr) (n c : Nat) :
    Calls Tryd.prog 11 #[.slice A n c] w (MadeE AnyE p w) := by
  go_enter Tryd.func11, Tryd.ntmps11
  go_wp2
  go_ret
  exact ⟨_, _, rfl, trivial, below_alloc (Below.refl _ _) _⟩

set_option maxHeartbeats 1000000 in
theorem mk_operate (p : Nat) (w : World) (n : Int) :
    Calls Tryd.prog 16 #[.int .i64 n] w (MadeE AnyE p w) := by
  go_enter Tryd.func16, Tryd.ntmps16
  go_wp2
  go_ret
  exact ⟨_, _, rfl, trivial, below_alloc (Below.refl _ _) _⟩

set_option maxHeartbeats 1000000 in
theorem mk_onOne (p : Nat) (w : World) (f : FuncId) (cap : Array Value) :
    Calls Tryd.prog 17 #[.func (.func f) #[] cap] w (MadeE AnyE p w) := by
  go_enter Tryd.func17, Tryd.ntmps17
  go_wp2
  go_ret
  exact ⟨_, _, rfl, trivial, below_alloc (Below.refl _ _) _⟩

set_option maxHeartbeats 1000000 in
theorem mk_onTwo (p : Nat) (w : World) (f : FuncId) (cap : Array Value) :
    Calls Tryd.prog 23 #[.func (.func f) #[] cap] w (MadeE AnyE p w) := by
  go_enter Tryd.func23, Tryd.ntmps23
  go_wp2
  go_ret
  exact ⟨_, _, rfl, trivial, below_alloc (Below.refl _ _) _⟩

set_option maxHeartbeats 1000000 in
theorem mk_sayText (p : Nat) (w : World) (s : ByteArray) :
    Calls Tryd.prog 37 #[.string s] w (MadeE AnyE p w) := by
  go_enter Tryd.func37, Tryd.ntmps37
  go_wp2
  go_ret
  exact ⟨_, _, rfl, trivial, below_alloc (Below.refl _ _) _⟩

set_option maxHeartbeats 1000000 in
theorem mk_setBase (p : Nat) (w : World) (n : Int) :
    Calls Tryd.prog 38 #[.int .i64 n] w (MadeE AnyE p w) := by
  go_enter Tryd.func38, Tryd.ntmps38
  go_wp2
  go_ret
  exact ⟨_, _, rfl, trivial, below_alloc (Below.refl _ _) _⟩

set_option maxHeartbeats 1000000 in
theorem mk_compare (p : Nat) (w : World) (t : Int) :
    Calls Tryd.prog 26 #[.int .i64 t] w (MadeE AnyE p w) := by
  go_enter Tryd.func26, Tryd.ntmps26
  go_wp2_with (go_at_call 23; refine (mk_onTwo p _ _ _).mono ?_; rintro e w' ⟨f, cap, rfl, _, hb⟩)
  go_ret
  exact ⟨_, _, rfl, trivial, below_step (below_alloc (Below.refl _ _) _) hb⟩

set_option maxHeartbeats 1000000 in
theorem mk_compareZero (p : Nat) (w : World) (t : Int) :
    Calls Tryd.prog 28 #[.int .i64 t] w (MadeE AnyE p w) := by
  go_enter Tryd.func28, Tryd.ntmps28
  go_wp2_with (go_at_call 17; refine (mk_onOne p _ _ _).mono ?_; rintro e w' ⟨f, cap, rfl, _, hb⟩)
  go_ret
  exact ⟨_, _, rfl, trivial, below_step (below_alloc (Below.refl _ _) _) hb⟩

theorem any_makers : Makers AnyE where
  mono := fun _ _ _ _ _ _ => trivial
  pick := fun p L _ w sv hs => by obtain ⟨_, A, c, rfl, _⟩ := hs; exact mk_pick p w A _ c
  op := fun p n _ _ _ w => mk_operate p w n
  one := fun p f _ w => mk_onOne p w f #[]
  two := fun p f _ w => mk_onTwo p w f #[]
  cmp := fun p t _ w => mk_compare p w t
  cz := fun p t _ w => mk_compareZero p w t
  text := fun p s _ w => mk_sayText p w s
  base := fun p n _ w => mk_setBase p w n
  fn := fun _ _ _ _ => trivial

theorem table_any (w : World) : Calls Tryd.prog 8 #[] w fun e w' => ∃ v, e = .returned v ∧ TabOf AnyE w' v ∧ Below w.heap.size w w' :=
  primTable_any _ any_makers w

set_option maxHeartbeats 400000 in
theorem isPrim_any (A : Option Addr) (c : Nat) (p : Int) (w : World) :
    Calls Tryd.prog 9 #[.slice A 52 c, .int .i64 p] w fun e w' => e = .returned (.bool (inB p 1 52)) ∧ w = w' := by
  by_cases h : 1 ≤ p
  · by_cases h' : p ≤ 52
    · have e : inB p 1 52 = true := inB_of h h'
      rw [e]
      go_enter Tryd.func9, Tryd.ntmps9
      go_wp2
      go_ret
      exact ⟨rfl, rfl⟩
    · have e : inB p 1 52 = false := by unfold inB; simp [h']
      rw [e]
      go_enter Tryd.func9, Tryd.ntmps9
      go_wp2
      go_ret
      exact ⟨rfl, rfl⟩
  · have e : inB p 1 52 = false := by unfold inB; simp [h]
    rw [e]
    go_enter Tryd.func9, Tryd.ntmps9
    go_wp2
    go_ret
    exact ⟨rfl, rfl⟩

set_option maxRecDepth 100000 in
set_option maxHeartbeats 2000000 in
theorem iTakes_bad (p : Int) (w : World) (hp : inB p 1 52 = false) :
    Calls Tryd.prog 5 #[.int .i64 p] w (NumsOf w [0, 9]) := by
  go_enter Tryd.func5, Tryd.ntmps5
  go_wp2_with fail
  refine (table_any _).mono ?_
  rintro e w1 ⟨v, rfl, ⟨g, rfl, HP⟩, hb⟩
  clear HP
  go_wp2_with (go_at_call 9; refine (isPrim_any _ _ _ _).mono ?_; rintro e w' ⟨rfl, rfl⟩)
  exact bodyPost_ret (v := .tuple #[.int .i64 0, .int .i64 9]) (by simp [results, Tryd.results5, go_sem]) rfl ⟨rfl, hb⟩

set_option maxRecDepth 100000 in
set_option maxHeartbeats 2000000 in
theorem iTakes_ok (p : Int) (w : World) (hp : inB p 1 52 = true) :
    Calls Tryd.prog 5 #[.int .i64 p] w (NumsOf w [(takesP p.toNat : Int), 0]) := by
  go_enter Tryd.func5, Tryd.ntmps5
  go_wp2_with fail
  refine (table_any _).mono ?_
  rintro e w1 ⟨v, rfl, ⟨g, rfl, HP⟩, hb⟩
  obtain ⟨p1, p2⟩ := of_inB hp
  obtain ⟨fv, ⟨a0, a1, a2, a3⟩, _⟩ := HP p.toNat (by omega) (by omega)
  obtain ⟨i, hi⟩ : ∃ i, p.toNat - 1 = i := ⟨_, rfl⟩
  rw [hi] at a0
  have n1 : IntKind.i64.wrap (p - 1) = (i : Int) := by rw [IntWalk.i64_in _ (by omega)]; omega
  have n2 : (i : Int) < 52 := by omega
  clear HP a1 a2 a3
  generalize takesP p.toNat = t at *
  go_wp2_with (go_at_call 9; refine (isPrim_any _ _ _ _).mono ?_; rintro e w' ⟨rfl, rfl⟩)
  exact bodyPost_ret (v := .tuple #[.int .i64 t, .int .i64 0]) (by simp [results, Tryd.results5, go_sem]) rfl ⟨rfl, hb⟩

/-- TakesOf: the number, the code. -/
def dTakes (p : Int) : Int × Int := if inB p 1 52 = true then ((takesP p.toNat : Int), 0) else (0, 9)

theorem iTakes_any (p : Int) (w : World) :
    Calls Tryd.prog 5 #[.int .i64 p] w (NumsOf w [(dTakes p).1, (dTakes p).2]) := by
  unfold dTakes
  cases hp : inB p 1 52
  · exact iTakes_bad p w hp
  · exact iTakes_ok p w hp

theorem sPrim_any (p : Int) (w : World) :
    Calls Tryd.prog 6 #[.int .i64 p] w fun e w' => e = .returned (.bool (inB p 1 52)) ∧ w = w' := by
  go_enter Tryd.func6, Tryd.ntmps6
  go_wp2_with (go_at_call 10; refine (sIn_any _ _ _ _).mono ?_; rintro e w' ⟨rfl, rfl⟩)
  go_ret
  exact ⟨rfl, rfl⟩

theorem takes_cell (w : World) (i : Nat) (h : i < 52) : (w.alloc (.cells #[.int .i64 1, .int .i64 1, .int .i64 2, .int .i64 2, .int .i64 3, .int .i64 2, .int .i64 2, .int .i64 1, .int .i64 2, .int .i64 2, .int .i64 0, .int .i64 1, .int .i64 0, .int .i64 0, .int .i64 2, .int .i64 2, .int .i64 2, .int .i64 2, .int .i64 2, .int .i64 2, .int .i64 2, .int .i64 2, .int .i64 2, .int .i64 2, .int .i64 1, .int .i64 1, .int .i64 1, .int .i64 1, .int .i64 1, .int .i64 2, .int .i64 2, .int .i64 2, .int .i64 2, .int .i64 2, .int .i64 2, .int .i64 2, .int .i64 1, .int .i64 1, .int .i64 1, .int .i64 2, .int .i64 2, .int .i64 0, .int .i64 1, .int .i64 1, .int .i64 1, .int .i64 1, .int .i64 0, .int .i64 0, .int .i64 0, .int .i64 0, .int .i64 0, .int .i64 0] 3)).cell? ⟨w.heap.size, i, none⟩ = some (.int .i64 (takesL.getD i 0 : Nat)) := by
  have e : (#[.int .i64 1, .int .i64 1, .int .i64 2, .int .i64 2, .int .i64 3, .int .i64 2, .int .i64 2, .int .i64 1, .int .i64 2, .int .i64 2, .int .i64 0, .int .i64 1, .int .i64 0, .int .i64 0, .int .i64 2, .int .i64 2, .int .i64 2, .int .i64 2, .int .i64 2, .int .i64 2, .int .i64 2, .int .i64 2, .int .i64 2, .int .i64 2, .int .i64 1, .int .i64 1, .int .i64 1, .int .i64 1, .int .i64 1, .int .i64 2, .int .i64 2, .int .i64 2, .int .i64 2, .int .i64 2, .int .i64 2, .int .i64 2, .int .i64 1, .int .i64 1, .int .i64 1, .int .i64 2, .int .i64 2, .int .i64 0, .int .i64 1, .int .i64 1, .int .i64 1, .int .i64 1, .int .i64 0, .int .i64 0, .int .i64 0, .int .i64 0, .int .i64 0, .int .i64 0] : Array Value) = (takesL.map fun n : Nat => Value.int .i64 n).toArray := rfl
  have hl : i < takesL.length := h
  have c := whole_cell (whole_new w 3 #[.int .i64 1, .int .i64 1, .int .i64 2, .int .i64 2, .int .i64 3, .int .i64 2, .int .i64 2, .int .i64 1, .int .i64 2, .int .i64 2, .int .i64 0, .int .i64 1, .int .i64 0, .int .i64 0, .int .i64 2, .int .i64 2, .int .i64 2, .int .i64 2, .int .i64 2, .int .i64 2, .int .i64 2, .int .i64 2, .int .i64 2, .int .i64 2, .int .i64 1, .int .i64 1, .int .i64 1, .int .i64 1, .int .i64 1, .int .i64 2, .int .i64 2, .int .i64 2, .int .i64 2, .int .i64 2, .int .i64 2, .int .i64 2, .int .i64 1, .int .i64 1, .int .i64 1, .int .i64 2, .int .i64 2, .int .i64 0, .int .i64 1, .int .i64 1, .int .i64 1, .int .i64 1, .int .i64 0, .int .i64 0, .int .i64 0, .int .i64 0, .int .i64 0, .int .i64 0]) i
  rw [c, e]
  simp only [List.getElem?_toArray, List.getElem?_map, List.getD_eq_getElem?_getD, List.getElem?_eq_getElem hl, Option.map_some, Option.getD_some]

set_option maxRecDepth 100000 in
set_option maxHeartbeats 2000000 in
theorem sTakes_any (p : Nat) (w : World) (h1 : 1 ≤ p) (h2 : p ≤ 52) :
    Calls Tryd.prog 7 #[.int .i64 p] w fun e w' => e = .returned (.int .i64 (takesP p)) ∧ Below w.heap.size w w' := by
  obtain ⟨i, hi⟩ : ∃ i, i = p - 1 := ⟨_, rfl⟩
  have n1 : IntKind.i64.wrap ((p : Int) - 1) = (i : Int) := by rw [IntWalk.i64_in _ (by omega)]; omega
  have n2 : (i : Int) < 52 := by omega
  have hc := takes_cell w i (by omega)
  have hp : takesP p = takesL.getD i 0 := by unfold takesP; rw [hi]
  rw [hp]
  generalize takesL.getD i 0 = t at *
  clear hp hi h1 h2
  go_enter Tryd.func7, Tryd.ntmps7
  go_wp2
  go_ret
  exact ⟨rfl, below_alloc (Below.refl _ _) _⟩

set_option maxRecDepth 100000 in
set_option maxHeartbeats 2000000 in
theorem sTk_any (p : Int) (w : World) :
    Calls Tryd.prog 4 #[.int .i64 p] w (NumsOf w [(dTakes p).1, (dTakes p).2]) := by
  unfold dTakes
  cases hp : inB p 1 52
  · go_enter Tryd.func4, Tryd.ntmps4
    go_wp2_with (go_at_call 6; refine (sPrim_any _ _).mono ?_; rintro e w' ⟨rfl, rfl⟩)
    exact bodyPost_ret (v := .tuple #[.int .i64 0, .int .i64 9]) (by simp [results, Tryd.results4, go_sem]) rfl ⟨rfl, Below.refl _ _⟩
  · obtain ⟨p1, p2⟩ := of_inB hp
    have TK : Hid (∀ W, Calls Tryd.prog 7 #[.int .i64 p] W fun e w' => e = .returned (.int .i64 (takesP p.toNat)) ∧ Below W.heap.size W w') := Lib.hid fun W => by
      have h := sTakes_any p.toNat W (by omega) (by omega)
      rw [show ((p.toNat : Nat) : Int) = p by omega] at h
      exact h
    generalize takesP p.toNat = t at *
    go_enter Tryd.func4, Tryd.ntmps4
    go_wp2_with (first | (go_at_call 6; refine (sPrim_any _ _).mono ?_; rintro e w' ⟨rfl, rfl⟩) | (go_at_call 7; refine (TK.out _).mono ?_; rintro e w1 ⟨rfl, hb⟩))
    exact bodyPost_ret (v := .tuple #[.int .i64 t, .int .i64 0]) (by simp [results, Tryd.results4, go_sem]) rfl ⟨rfl, hb⟩

end Go.Proofs.YtnbdjnojciifeaaDoor
