/- The program's writer of items: what a node must be, what stands around its parts. -/
import Derived.Test.YtafhmajnkicifaaFlA
import Derived.BigQuiet
namespace Go.Proofs.Ytafhmajnkicifaa
open Go.RowKit
set_option linter.unusedVariables false
set_option linter.unusedSimpArgs false

def wrdV (k : Int) : Bool := decide (k = 1) || decide (k = 2) || decide (k = 13)

/-- A node's form by its numbers. -/
def nodV (k v : Int) (n m : Nat) : Bool :=
  if wrdV k = true then itB ⟨k, v⟩ && decide (n = 0) && decide (m = 0)
  else if k = 3 then decide (v = 1) || (decide (v = 0) && decide (m = 0))
  else if k = 8 then decide (v = 0)
  else if k = 7 ∨ k = 11 ∨ k = 12 then decide (v = 0) && decide (m = 0)
  else false

theorem nodB_nums (x : Nd) : nodB x = nodV x.k x.v x.a.length x.b.length := rfl

set_option maxRecDepth 100000 in
set_option maxHeartbeats 2000000 in
theorem nodeOK_w1 (k v : Int) (A B : Option Addr) (n c m c2 : Nat) (w : World) (hw : wrdV k = true) (hb : itB ⟨k, v⟩ = false) :
    Calls Try.prog 52 #[.agg #[.int .i64 k, .int .i64 v, .slice A n c, .slice B m c2]] w fun e w' => e = .returned (.bool (nodV k v n m)) ∧ Below w.heap.size w w' := by
  have E : Hid (nodV k v n m = false) := Lib.hid (by unfold nodV; simp [hw, hb])
  have HW := Lib.hid hw
  have HB := Lib.hid hb
  clear hw hb
  have X0 := Lib.hid (whole_new w 64 #[.int .i64 k, .int .i64 v, .slice A n c, .slice B m c2])
  go_enter Try.func52, Try.ntmps52
  go_wp2_with fail
  refine (isItem_any _ _).mono ?_
  rintro e w1 ⟨rfl, hw1⟩
  subst hw1
  rw [show (decide (k = 1) || decide (k = 2) || decide (k = 13)) = true from HW.out]
  go_wp2_with fail
  refine (iItemOK_any ⟨k, v⟩ _).mono ?_
  rintro e w2 ⟨rfl, h2⟩
  rw [HB.out]
  have B2 := Lib.hid (below_step (below_alloc (Below.refl _ _) _) h2)
  have X2 := whole_below X0.out h2
  have x2 := whole_cell X2 2
  have x3 := whole_cell X2 3
  simp at x2 x3
  clear h2 X2
  go_wp2
  go_ret
  exact ⟨ret_bool (by first | exact E.out.symm | (rw [E.out]; rfl)), B2.out⟩

set_option maxRecDepth 100000 in
set_option maxHeartbeats 2000000 in
theorem nodeOK_w2 (k v : Int) (A B : Option Addr) (n c m c2 : Nat) (w : World) (hw : wrdV k = true) (hb : itB ⟨k, v⟩ = true) (hn : n ≠ 0) :
    Calls Try.prog 52 #[.agg #[.int .i64 k, .int .i64 v, .slice A n c, .slice B m c2]] w fun e w' => e = .returned (.bool (nodV k v n m)) ∧ Below w.heap.size w w' := by
  have E : Hid (nodV k v n m = false) := Lib.hid (by unfold nodV; simp [hw, hb, hn])
  have HW := Lib.hid hw
  have HB := Lib.hid hb
  have tn : ((n : Int) == 0) = false := by simp [hn]
  clear hw hb hn
  have X0 := Lib.hid (whole_new w 64 #[.int .i64 k, .int .i64 v, .slice A n c, .slice B m c2])
  go_enter Try.func52, Try.ntmps52
  go_wp2_with fail
  refine (isItem_any _ _).mono ?_
  rintro e w1 ⟨rfl, hw1⟩
  subst hw1
  rw [show (decide (k = 1) || decide (k = 2) || decide (k = 13)) = true from HW.out]
  go_wp2_with fail
  refine (iItemOK_any ⟨k, v⟩ _).mono ?_
  rintro e w2 ⟨rfl, h2⟩
  rw [HB.out]
  have B2 := Lib.hid (below_step (below_alloc (Below.refl _ _) _) h2)
  have X2 := whole_below X0.out h2
  have x2 := whole_cell X2 2
  have x3 := whole_cell X2 3
  simp at x2 x3
  clear h2 X2
  go_wp2
  go_ret
  exact ⟨ret_bool (by first | exact E.out.symm | (rw [E.out]; rfl)), B2.out⟩

set_option maxRecDepth 100000 in
set_option maxHeartbeats 2000000 in
theorem nodeOK_w3 (k v : Int) (A B : Option Addr) (n c m c2 : Nat) (w : World) (hw : wrdV k = true) (hb : itB ⟨k, v⟩ = true) (hn : n = 0) (hm : m ≠ 0) :
    Calls Try.prog 52 #[.agg #[.int .i64 k, .int .i64 v, .slice A n c, .slice B m c2]] w fun e w' => e = .returned (.bool (nodV k v n m)) ∧ Below w.heap.size w w' := by
  have E : Hid (nodV k v n m = false) := Lib.hid (by unfold nodV; simp [hw, hb, hn, hm])
  have HW := Lib.hid hw
  have HB := Lib.hid hb
  have tn : ((n : Int) == 0) = true := by simp [hn]
  have tm : ((m : Int) == 0) = false := by simp [hm]
  clear hw hb hn hm
  have X0 := Lib.hid (whole_new w 64 #[.int .i64 k, .int .i64 v, .slice A n c, .slice B m c2])
  go_enter Try.func52, Try.ntmps52
  go_wp2_with fail
  refine (isItem_any _ _).mono ?_
  rintro e w1 ⟨rfl, hw1⟩
  subst hw1
  rw [show (decide (k = 1) || decide (k = 2) || decide (k = 13)) = true from HW.out]
  go_wp2_with fail
  refine (iItemOK_any ⟨k, v⟩ _).mono ?_
  rintro e w2 ⟨rfl, h2⟩
  rw [HB.out]
  have B2 := Lib.hid (below_step (below_alloc (Below.refl _ _) _) h2)
  have X2 := whole_below X0.out h2
  have x2 := whole_cell X2 2
  have x3 := whole_cell X2 3
  simp at x2 x3
  clear h2 X2
  go_wp2
  go_ret
  exact ⟨ret_bool (by first | exact E.out.symm | (rw [E.out]; rfl)), B2.out⟩

set_option maxRecDepth 100000 in
set_option maxHeartbeats 2000000 in
theorem nodeOK_w4 (k v : Int) (A B : Option Addr) (n c m c2 : Nat) (w : World) (hw : wrdV k = true) (hb : itB ⟨k, v⟩ = true) (hn : n = 0) (hm : m = 0) :
    Calls Try.prog 52 #[.agg #[.int .i64 k, .int .i64 v, .slice A n c, .slice B m c2]] w fun e w' => e = .returned (.bool (nodV k v n m)) ∧ Below w.heap.size w w' := by
  have E : Hid (nodV k v n m = true) := Lib.hid (by unfold nodV; simp [hw, hb, hn, hm])
  have HW := Lib.hid hw
  have HB := Lib.hid hb
  have tn : ((n : Int) == 0) = true := by simp [hn]
  have tm : ((m : Int) == 0) = true := by simp [hm]
  clear hw hb hn hm
  have X0 := Lib.hid (whole_new w 64 #[.int .i64 k, .int .i64 v, .slice A n c, .slice B m c2])
  go_enter Try.func52, Try.ntmps52
  go_wp2_with fail
  refine (isItem_any _ _).mono ?_
  rintro e w1 ⟨rfl, hw1⟩
  subst hw1
  rw [show (decide (k = 1) || decide (k = 2) || decide (k = 13)) = true from HW.out]
  go_wp2_with fail
  refine (iItemOK_any ⟨k, v⟩ _).mono ?_
  rintro e w2 ⟨rfl, h2⟩
  rw [HB.out]
  have B2 := Lib.hid (below_step (below_alloc (Below.refl _ _) _) h2)
  have X2 := whole_below X0.out h2
  have x2 := whole_cell X2 2
  have x3 := whole_cell X2 3
  simp at x2 x3
  clear h2 X2
  go_wp2
  go_ret
  exact ⟨ret_bool (by first | exact E.out.symm | (rw [E.out]; rfl)), B2.out⟩

set_option maxRecDepth 100000 in
set_option maxHeartbeats 2000000 in
theorem nodeOK_s3a (k v : Int) (A B : Option Addr) (n c m c2 : Nat) (w : World) (hw : wrdV k = false) (hk : k = 3) (hv : v = 1) :
    Calls Try.prog 52 #[.agg #[.int .i64 k, .int .i64 v, .slice A n c, .slice B m c2]] w fun e w' => e = .returned (.bool (nodV k v n m)) ∧ Below w.heap.size w w' := by
  have E : Hid (nodV k v n m = true) := Lib.hid (by unfold nodV; rw [if_neg (by rw [hw]; simp), if_pos hk]; simp [hv])
  have HW := Lib.hid hw
  have q3 : (k == 3) = true := by rw [hk]; rfl
  have tv : (v == 1) = true := by simp [hv]
  clear hw hk hv
  go_enter Try.func52, Try.ntmps52
  go_wp2_with fail
  refine (isItem_any _ _).mono ?_
  rintro e w1 ⟨rfl, hw1⟩
  subst hw1
  rw [show (decide (k = 1) || decide (k = 2) || decide (k = 13)) = false from HW.out]
  go_wp2
  go_ret
  exact ⟨ret_bool (by first | exact E.out.symm | (rw [E.out]; rfl)), (below_alloc (Below.refl _ _) _)⟩

set_option maxRecDepth 100000 in
set_option maxHeartbeats 2000000 in
theorem nodeOK_s3b (k v : Int) (A B : Option Addr) (n c m c2 : Nat) (w : World) (hw : wrdV k = false) (hk : k = 3) (hv : v = 0) (hm : m = 0) :
    Calls Try.prog 52 #[.agg #[.int .i64 k, .int .i64 v, .slice A n c, .slice B m c2]] w fun e w' => e = .returned (.bool (nodV k v n m)) ∧ Below w.heap.size w w' := by
  have E : Hid (nodV k v n m = true) := Lib.hid (by unfold nodV; rw [if_neg (by rw [hw]; simp), if_pos hk]; simp [hv, hm])
  have HW := Lib.hid hw
  have q3 : (k == 3) = true := by rw [hk]; rfl
  have tv : (v == 1) = false := by simp [hv]
  have tv0 : (v == 0) = true := by simp [hv]
  have tm : ((m : Int) == 0) = true := by simp [hm]
  clear hw hk hv hm
  go_enter Try.func52, Try.ntmps52
  go_wp2_with fail
  refine (isItem_any _ _).mono ?_
  rintro e w1 ⟨rfl, hw1⟩
  subst hw1
  rw [show (decide (k = 1) || decide (k = 2) || decide (k = 13)) = false from HW.out]
  go_wp2
  go_ret
  exact ⟨ret_bool (by first | exact E.out.symm | (rw [E.out]; rfl)), (below_alloc (Below.refl _ _) _)⟩

set_option maxRecDepth 100000 in
set_option maxHeartbeats 2000000 in
theorem nodeOK_s3c (k v : Int) (A B : Option Addr) (n c m c2 : Nat) (w : World) (hw : wrdV k = false) (hk : k = 3) (hv : v = 0) (hm : m ≠ 0) :
    Calls Try.prog 52 #[.agg #[.int .i64 k, .int .i64 v, .slice A n c, .slice B m c2]] w fun e w' => e = .returned (.bool (nodV k v n m)) ∧ Below w.heap.size w w' := by
  have E : Hid (nodV k v n m = false) := Lib.hid (by unfold nodV; rw [if_neg (by rw [hw]; simp), if_pos hk]; simp [hv, hm])
  have HW := Lib.hid hw
  have q3 : (k == 3) = true := by rw [hk]; rfl
  have tv : (v == 1) = false := by simp [hv]
  have tv0 : (v == 0) = true := by simp [hv]
  have tm : ((m : Int) == 0) = false := by simp [hm]
  clear hw hk hv hm
  go_enter Try.func52, Try.ntmps52
  go_wp2_with fail
  refine (isItem_any _ _).mono ?_
  rintro e w1 ⟨rfl, hw1⟩
  subst hw1
  rw [show (decide (k = 1) || decide (k = 2) || decide (k = 13)) = false from HW.out]
  go_wp2
  go_ret
  exact ⟨ret_bool (by first | exact E.out.symm | (rw [E.out]; rfl)), (below_alloc (Below.refl _ _) _)⟩

set_option maxRecDepth 100000 in
set_option maxHeartbeats 2000000 in
theorem nodeOK_s3d (k v : Int) (A B : Option Addr) (n c m c2 : Nat) (w : World) (hw : wrdV k = false) (hk : k = 3) (hv : v ≠ 0) (hv1 : v ≠ 1) :
    Calls Try.prog 52 #[.agg #[.int .i64 k, .int .i64 v, .slice A n c, .slice B m c2]] w fun e w' => e = .returned (.bool (nodV k v n m)) ∧ Below w.heap.size w w' := by
  have E : Hid (nodV k v n m = false) := Lib.hid (by unfold nodV; rw [if_neg (by rw [hw]; simp), if_pos hk]; simp [hv, hv1])
  have HW := Lib.hid hw
  have q3 : (k == 3) = true := by rw [hk]; rfl
  have tv : (v == 1) = false := by simp [hv1]
  have tv0 : (v == 0) = false := by simp [hv]
  clear hw hk hv hv1
  go_enter Try.func52, Try.ntmps52
  go_wp2_with fail
  refine (isItem_any _ _).mono ?_
  rintro e w1 ⟨rfl, hw1⟩
  subst hw1
  rw [show (decide (k = 1) || decide (k = 2) || decide (k = 13)) = false from HW.out]
  go_wp2
  go_ret
  exact ⟨ret_bool (by first | exact E.out.symm | (rw [E.out]; rfl)), (below_alloc (Below.refl _ _) _)⟩

set_option maxRecDepth 100000 in
set_option maxHeartbeats 2000000 in
theorem nodeOK_s8a (k v : Int) (A B : Option Addr) (n c m c2 : Nat) (w : World) (hw : wrdV k = false) (hk : k = 8) (hv : v = 0) :
    Calls Try.prog 52 #[.agg #[.int .i64 k, .int .i64 v, .slice A n c, .slice B m c2]] w fun e w' => e = .returned (.bool (nodV k v n m)) ∧ Below w.heap.size w w' := by
  have E : Hid (nodV k v n m = true) := Lib.hid (by unfold nodV; rw [if_neg (by rw [hw]; simp), if_neg (by omega), if_pos hk]; simp [hv])
  have HW := Lib.hid hw
  have q3 : (k == 3) = false := by rw [hk]; rfl
  have q8 : (k == 8) = true := by rw [hk]; rfl
  have tv : (v == 0) = true := by simp [hv]
  clear hw hk hv
  go_enter Try.func52, Try.ntmps52
  go_wp2_with fail
  refine (isItem_any _ _).mono ?_
  rintro e w1 ⟨rfl, hw1⟩
  subst hw1
  rw [show (decide (k = 1) || decide (k = 2) || decide (k = 13)) = false from HW.out]
  go_wp2
  go_ret
  exact ⟨ret_bool (by first | exact E.out.symm | (rw [E.out]; rfl)), (below_alloc (Below.refl _ _) _)⟩

set_option maxRecDepth 100000 in
set_option maxHeartbeats 2000000 in
theorem nodeOK_s8b (k v : Int) (A B : Option Addr) (n c m c2 : Nat) (w : World) (hw : wrdV k = false) (hk : k = 8) (hv : v ≠ 0) :
    Calls Try.prog 52 #[.agg #[.int .i64 k, .int .i64 v, .slice A n c, .slice B m c2]] w fun e w' => e = .returned (.bool (nodV k v n m)) ∧ Below w.heap.size w w' := by
  have E : Hid (nodV k v n m = false) := Lib.hid (by unfold nodV; rw [if_neg (by rw [hw]; simp), if_neg (by omega), if_pos hk]; simp [hv])
  have HW := Lib.hid hw
  have q3 : (k == 3) = false := by rw [hk]; rfl
  have q8 : (k == 8) = true := by rw [hk]; rfl
  have tv : (v == 0) = false := by simp [hv]
  clear hw hk hv
  go_enter Try.func52, Try.ntmps52
  go_wp2_with fail
  refine (isItem_any _ _).mono ?_
  rintro e w1 ⟨rfl, hw1⟩
  subst hw1
  rw [show (decide (k = 1) || decide (k = 2) || decide (k = 13)) = false from HW.out]
  go_wp2
  go_ret
  exact ⟨ret_bool (by first | exact E.out.symm | (rw [E.out]; rfl)), (below_alloc (Below.refl _ _) _)⟩

set_option maxRecDepth 100000 in
set_option maxHeartbeats 2000000 in
theorem nodeOK_s7a (k v : Int) (A B : Option Addr) (n c m c2 : Nat) (w : World) (hw : wrdV k = false) (hk : k = 7) (hv : v ≠ 0) :
    Calls Try.prog 52 #[.agg #[.int .i64 k, .int .i64 v, .slice A n c, .slice B m c2]] w fun e w' => e = .returned (.bool (nodV k v n m)) ∧ Below w.heap.size w w' := by
  have E : Hid (nodV k v n m = false) := Lib.hid (by unfold nodV; rw [if_neg (by rw [hw]; simp), if_neg (by omega), if_neg (by omega), if_pos (by omega)]; simp [hv])
  have HW := Lib.hid hw
  have q3 : (k == 3) = false := by rw [hk]; rfl
  have q8 : (k == 8) = false := by rw [hk]; rfl
  have q7 : (k == 7) = true := by rw [hk]; rfl
  have tv : (v == 0) = false := by simp [hv]
  clear hw hk hv
  go_enter Try.func52, Try.ntmps52
  go_wp2_with fail
  refine (isItem_any _ _).mono ?_
  rintro e w1 ⟨rfl, hw1⟩
  subst hw1
  rw [show (decide (k = 1) || decide (k = 2) || decide (k = 13)) = false from HW.out]
  go_wp2
  go_ret
  exact ⟨ret_bool (by first | exact E.out.symm | (rw [E.out]; rfl)), (below_alloc (Below.refl _ _) _)⟩

set_option maxRecDepth 100000 in
set_option maxHeartbeats 2000000 in
theorem nodeOK_s7b (k v : Int) (A B : Option Addr) (n c m c2 : Nat) (w : World) (hw : wrdV k = false) (hk : k = 7) (hv : v = 0) (hm : m ≠ 0) :
    Calls Try.prog 52 #[.agg #[.int .i64 k, .int .i64 v, .slice A n c, .slice B m c2]] w fun e w' => e = .returned (.bool (nodV k v n m)) ∧ Below w.heap.size w w' := by
  have E : Hid (nodV k v n m = false) := Lib.hid (by unfold nodV; rw [if_neg (by rw [hw]; simp), if_neg (by omega), if_neg (by omega), if_pos (by omega)]; simp [hv, hm])
  have HW := Lib.hid hw
  have q3 : (k == 3) = false := by rw [hk]; rfl
  have q8 : (k == 8) = false := by rw [hk]; rfl
  have q7 : (k == 7) = true := by rw [hk]; rfl
  have tv : (v == 0) = true := by simp [hv]
  have tm : ((m : Int) == 0) = false := by simp [hm]
  clear hw hk hv hm
  go_enter Try.func52, Try.ntmps52
  go_wp2_with fail
  refine (isItem_any _ _).mono ?_
  rintro e w1 ⟨rfl, hw1⟩
  subst hw1
  rw [show (decide (k = 1) || decide (k = 2) || decide (k = 13)) = false from HW.out]
  go_wp2
  go_ret
  exact ⟨ret_bool (by first | exact E.out.symm | (rw [E.out]; rfl)), (below_alloc (Below.refl _ _) _)⟩

set_option maxRecDepth 100000 in
set_option maxHeartbeats 2000000 in
theorem nodeOK_s7c (k v : Int) (A B : Option Addr) (n c m c2 : Nat) (w : World) (hw : wrdV k = false) (hk : k = 7) (hv : v = 0) (hm : m = 0) :
    Calls Try.prog 52 #[.agg #[.int .i64 k, .int .i64 v, .slice A n c, .slice B m c2]] w fun e w' => e = .returned (.bool (nodV k v n m)) ∧ Below w.heap.size w w' := by
  have E : Hid (nodV k v n m = true) := Lib.hid (by unfold nodV; rw [if_neg (by rw [hw]; simp), if_neg (by omega), if_neg (by omega), if_pos (by omega)]; simp [hv, hm])
  have HW := Lib.hid hw
  have q3 : (k == 3) = false := by rw [hk]; rfl
  have q8 : (k == 8) = false := by rw [hk]; rfl
  have q7 : (k == 7) = true := by rw [hk]; rfl
  have tv : (v == 0) = true := by simp [hv]
  have tm : ((m : Int) == 0) = true := by simp [hm]
  clear hw hk hv hm
  go_enter Try.func52, Try.ntmps52
  go_wp2_with fail
  refine (isItem_any _ _).mono ?_
  rintro e w1 ⟨rfl, hw1⟩
  subst hw1
  rw [show (decide (k = 1) || decide (k = 2) || decide (k = 13)) = false from HW.out]
  go_wp2
  go_ret
  exact ⟨ret_bool (by first | exact E.out.symm | (rw [E.out]; rfl)), (below_alloc (Below.refl _ _) _)⟩

set_option maxRecDepth 100000 in
set_option maxHeartbeats 2000000 in
theorem nodeOK_s11a (k v : Int) (A B : Option Addr) (n c m c2 : Nat) (w : World) (hw : wrdV k = false) (hk : k = 11) (hv : v ≠ 0) :
    Calls Try.prog 52 #[.agg #[.int .i64 k, .int .i64 v, .slice A n c, .slice B m c2]] w fun e w' => e = .returned (.bool (nodV k v n m)) ∧ Below w.heap.size w w' := by
  have E : Hid (nodV k v n m = false) := Lib.hid (by unfold nodV; rw [if_neg (by rw [hw]; simp), if_neg (by omega), if_neg (by omega), if_pos (by omega)]; simp [hv])
  have HW := Lib.hid hw
  have q3 : (k == 3) = false := by rw [hk]; rfl
  have q8 : (k == 8) = false := by rw [hk]; rfl
  have q7 : (k == 7) = false := by rw [hk]; rfl
  have q11 : (k == 11) = true := by rw [hk]; rfl
  have tv : (v == 0) = false := by simp [hv]
  clear hw hk hv
  go_enter Try.func52, Try.ntmps52
  go_wp2_with fail
  refine (isItem_any _ _).mono ?_
  rintro e w1 ⟨rfl, hw1⟩
  subst hw1
  rw [show (decide (k = 1) || decide (k = 2) || decide (k = 13)) = false from HW.out]
  go_wp2
  go_ret
  exact ⟨ret_bool (by first | exact E.out.symm | (rw [E.out]; rfl)), (below_alloc (Below.refl _ _) _)⟩

set_option maxRecDepth 100000 in
set_option maxHeartbeats 2000000 in
theorem nodeOK_s11b (k v : Int) (A B : Option Addr) (n c m c2 : Nat) (w : World) (hw : wrdV k = false) (hk : k = 11) (hv : v = 0) (hm : m ≠ 0) :
    Calls Try.prog 52 #[.agg #[.int .i64 k, .int .i64 v, .slice A n c, .slice B m c2]] w fun e w' => e = .returned (.bool (nodV k v n m)) ∧ Below w.heap.size w w' := by
  have E : Hid (nodV k v n m = false) := Lib.hid (by unfold nodV; rw [if_neg (by rw [hw]; simp), if_neg (by omega), if_neg (by omega), if_pos (by omega)]; simp [hv, hm])
  have HW := Lib.hid hw
  have q3 : (k == 3) = false := by rw [hk]; rfl
  have q8 : (k == 8) = false := by rw [hk]; rfl
  have q7 : (k == 7) = false := by rw [hk]; rfl
  have q11 : (k == 11) = true := by rw [hk]; rfl
  have tv : (v == 0) = true := by simp [hv]
  have tm : ((m : Int) == 0) = false := by simp [hm]
  clear hw hk hv hm
  go_enter Try.func52, Try.ntmps52
  go_wp2_with fail
  refine (isItem_any _ _).mono ?_
  rintro e w1 ⟨rfl, hw1⟩
  subst hw1
  rw [show (decide (k = 1) || decide (k = 2) || decide (k = 13)) = false from HW.out]
  go_wp2
  go_ret
  exact ⟨ret_bool (by first | exact E.out.symm | (rw [E.out]; rfl)), (below_alloc (Below.refl _ _) _)⟩

set_option maxRecDepth 100000 in
set_option maxHeartbeats 2000000 in
theorem nodeOK_s11c (k v : Int) (A B : Option Addr) (n c m c2 : Nat) (w : World) (hw : wrdV k = false) (hk : k = 11) (hv : v = 0) (hm : m = 0) :
    Calls Try.prog 52 #[.agg #[.int .i64 k, .int .i64 v, .slice A n c, .slice B m c2]] w fun e w' => e = .returned (.bool (nodV k v n m)) ∧ Below w.heap.size w w' := by
  have E : Hid (nodV k v n m = true) := Lib.hid (by unfold nodV; rw [if_neg (by rw [hw]; simp), if_neg (by omega), if_neg (by omega), if_pos (by omega)]; simp [hv, hm])
  have HW := Lib.hid hw
  have q3 : (k == 3) = false := by rw [hk]; rfl
  have q8 : (k == 8) = false := by rw [hk]; rfl
  have q7 : (k == 7) = false := by rw [hk]; rfl
  have q11 : (k == 11) = true := by rw [hk]; rfl
  have tv : (v == 0) = true := by simp [hv]
  have tm : ((m : Int) == 0) = true := by simp [hm]
  clear hw hk hv hm
  go_enter Try.func52, Try.ntmps52
  go_wp2_with fail
  refine (isItem_any _ _).mono ?_
  rintro e w1 ⟨rfl, hw1⟩
  subst hw1
  rw [show (decide (k = 1) || decide (k = 2) || decide (k = 13)) = false from HW.out]
  go_wp2
  go_ret
  exact ⟨ret_bool (by first | exact E.out.symm | (rw [E.out]; rfl)), (below_alloc (Below.refl _ _) _)⟩

set_option maxRecDepth 100000 in
set_option maxHeartbeats 2000000 in
theorem nodeOK_s12a (k v : Int) (A B : Option Addr) (n c m c2 : Nat) (w : World) (hw : wrdV k = false) (hk : k = 12) (hv : v ≠ 0) :
    Calls Try.prog 52 #[.agg #[.int .i64 k, .int .i64 v, .slice A n c, .slice B m c2]] w fun e w' => e = .returned (.bool (nodV k v n m)) ∧ Below w.heap.size w w' := by
  have E : Hid (nodV k v n m = false) := Lib.hid (by unfold nodV; rw [if_neg (by rw [hw]; simp), if_neg (by omega), if_neg (by omega), if_pos (by omega)]; simp [hv])
  have HW := Lib.hid hw
  have q3 : (k == 3) = false := by rw [hk]; rfl
  have q8 : (k == 8) = false := by rw [hk]; rfl
  have q7 : (k == 7) = false := by rw [hk]; rfl
  have q11 : (k == 11) = false := by rw [hk]; rfl
  have q12 : (k == 12) = true := by rw [hk]; rfl
  have tv : (v == 0) = false := by simp [hv]
  clear hw hk hv
  go_enter Try.func52, Try.ntmps52
  go_wp2_with fail
  refine (isItem_any _ _).mono ?_
  rintro e w1 ⟨rfl, hw1⟩
  subst hw1
  rw [show (decide (k = 1) || decide (k = 2) || decide (k = 13)) = false from HW.out]
  go_wp2
  go_ret
  exact ⟨ret_bool (by first | exact E.out.symm | (rw [E.out]; rfl)), (below_alloc (Below.refl _ _) _)⟩

set_option maxRecDepth 100000 in
set_option maxHeartbeats 2000000 in
theorem nodeOK_s12b (k v : Int) (A B : Option Addr) (n c m c2 : Nat) (w : World) (hw : wrdV k = false) (hk : k = 12) (hv : v = 0) (hm : m ≠ 0) :
    Calls Try.prog 52 #[.agg #[.int .i64 k, .int .i64 v, .slice A n c, .slice B m c2]] w fun e w' => e = .returned (.bool (nodV k v n m)) ∧ Below w.heap.size w w' := by
  have E : Hid (nodV k v n m = false) := Lib.hid (by unfold nodV; rw [if_neg (by rw [hw]; simp), if_neg (by omega), if_neg (by omega), if_pos (by omega)]; simp [hv, hm])
  have HW := Lib.hid hw
  have q3 : (k == 3) = false := by rw [hk]; rfl
  have q8 : (k == 8) = false := by rw [hk]; rfl
  have q7 : (k == 7) = false := by rw [hk]; rfl
  have q11 : (k == 11) = false := by rw [hk]; rfl
  have q12 : (k == 12) = true := by rw [hk]; rfl
  have tv : (v == 0) = true := by simp [hv]
  have tm : ((m : Int) == 0) = false := by simp [hm]
  clear hw hk hv hm
  go_enter Try.func52, Try.ntmps52
  go_wp2_with fail
  refine (isItem_any _ _).mono ?_
  rintro e w1 ⟨rfl, hw1⟩
  subst hw1
  rw [show (decide (k = 1) || decide (k = 2) || decide (k = 13)) = false from HW.out]
  go_wp2
  go_ret
  exact ⟨ret_bool (by first | exact E.out.symm | (rw [E.out]; rfl)), (below_alloc (Below.refl _ _) _)⟩

set_option maxRecDepth 100000 in
set_option maxHeartbeats 2000000 in
theorem nodeOK_s12c (k v : Int) (A B : Option Addr) (n c m c2 : Nat) (w : World) (hw : wrdV k = false) (hk : k = 12) (hv : v = 0) (hm : m = 0) :
    Calls Try.prog 52 #[.agg #[.int .i64 k, .int .i64 v, .slice A n c, .slice B m c2]] w fun e w' => e = .returned (.bool (nodV k v n m)) ∧ Below w.heap.size w w' := by
  have E : Hid (nodV k v n m = true) := Lib.hid (by unfold nodV; rw [if_neg (by rw [hw]; simp), if_neg (by omega), if_neg (by omega), if_pos (by omega)]; simp [hv, hm])
  have HW := Lib.hid hw
  have q3 : (k == 3) = false := by rw [hk]; rfl
  have q8 : (k == 8) = false := by rw [hk]; rfl
  have q7 : (k == 7) = false := by rw [hk]; rfl
  have q11 : (k == 11) = false := by rw [hk]; rfl
  have q12 : (k == 12) = true := by rw [hk]; rfl
  have tv : (v == 0) = true := by simp [hv]
  have tm : ((m : Int) == 0) = true := by simp [hm]
  clear hw hk hv hm
  go_enter Try.func52, Try.ntmps52
  go_wp2_with fail
  refine (isItem_any _ _).mono ?_
  rintro e w1 ⟨rfl, hw1⟩
  subst hw1
  rw [show (decide (k = 1) || decide (k = 2) || decide (k = 13)) = false from HW.out]
  go_wp2
  go_ret
  exact ⟨ret_bool (by first | exact E.out.symm | (rw [E.out]; rfl)), (below_alloc (Below.refl _ _) _)⟩

set_option maxRecDepth 100000 in
set_option maxHeartbeats 2000000 in
theorem nodeOK_sx (k v : Int) (A B : Option Addr) (n c m c2 : Nat) (w : World) (hw : wrdV k = false) (h3 : k ≠ 3) (h8 : k ≠ 8) (h7 : k ≠ 7) (h11 : k ≠ 11) (h12 : k ≠ 12) :
    Calls Try.prog 52 #[.agg #[.int .i64 k, .int .i64 v, .slice A n c, .slice B m c2]] w fun e w' => e = .returned (.bool (nodV k v n m)) ∧ Below w.heap.size w w' := by
  have E : Hid (nodV k v n m = false) := Lib.hid (by unfold nodV; rw [if_neg (by rw [hw]; simp), if_neg h3, if_neg h8, if_neg (by omega)])
  have HW := Lib.hid hw
  have q3 : (k == 3) = false := by simp [h3]
  have q8 : (k == 8) = false := by simp [h8]
  have q7 : (k == 7) = false := by simp [h7]
  have q11 : (k == 11) = false := by simp [h11]
  have q12 : (k == 12) = false := by simp [h12]
  clear hw h3 h8 h7 h11 h12
  go_enter Try.func52, Try.ntmps52
  go_wp2_with fail
  refine (isItem_any _ _).mono ?_
  rintro e w1 ⟨rfl, hw1⟩
  subst hw1
  rw [show (decide (k = 1) || decide (k = 2) || decide (k = 13)) = false from HW.out]
  go_wp2
  go_ret
  exact ⟨ret_bool (by first | exact E.out.symm | (rw [E.out]; rfl)), (below_alloc (Below.refl _ _) _)⟩

theorem nodeOK_any (k v : Int) (A B : Option Addr) (n c m c2 : Nat) (w : World) :
    Calls Try.prog 52 #[.agg #[.int .i64 k, .int .i64 v, .slice A n c, .slice B m c2]] w fun e w' => e = .returned (.bool (nodV k v n m)) ∧ Below w.heap.size w w' := by
  by_cases hw : wrdV k = true
  · by_cases hb : itB ⟨k, v⟩ = true
    · by_cases hn : n = 0
      · by_cases hm : m = 0
        · exact nodeOK_w4 k v A B n c m c2 w hw hb hn hm
        · exact nodeOK_w3 k v A B n c m c2 w hw hb hn hm
      · exact nodeOK_w2 k v A B n c m c2 w hw hb hn
    · exact nodeOK_w1 k v A B n c m c2 w hw (by simpa using hb)
  have hw : wrdV k = false := by simpa using hw
  by_cases h3 : k = 3
  · by_cases hv : v = 1
    · exact nodeOK_s3a k v A B n c m c2 w hw h3 hv
    · by_cases h0 : v = 0
      · by_cases hm : m = 0
        · exact nodeOK_s3b k v A B n c m c2 w hw h3 h0 hm
        · exact nodeOK_s3c k v A B n c m c2 w hw h3 h0 hm
      · exact nodeOK_s3d k v A B n c m c2 w hw h3 h0 hv
  by_cases h8 : k = 8
  · by_cases hv : v = 0
    · exact nodeOK_s8a k v A B n c m c2 w hw h8 hv
    · exact nodeOK_s8b k v A B n c m c2 w hw h8 hv
  by_cases h7 : k = 7
  · by_cases hv : v = 0
    · by_cases hm : m = 0
      · exact nodeOK_s7c k v A B n c m c2 w hw h7 hv hm
      · exact nodeOK_s7b k v A B n c m c2 w hw h7 hv hm
    · exact nodeOK_s7a k v A B n c m c2 w hw h7 hv
  by_cases h11 : k = 11
  · by_cases hv : v = 0
    · by_cases hm : m = 0
      · exact nodeOK_s11c k v A B n c m c2 w hw h11 hv hm
      · exact nodeOK_s11b k v A B n c m c2 w hw h11 hv hm
    · exact nodeOK_s11a k v A B n c m c2 w hw h11 hv
  by_cases h12 : k = 12
  · by_cases hv : v = 0
    · by_cases hm : m = 0
      · exact nodeOK_s12c k v A B n c m c2 w hw h12 hv hm
      · exact nodeOK_s12b k v A B n c m c2 w hw h12 hv hm
    · exact nodeOK_s12a k v A B n c m c2 w hw h12 hv
  exact nodeOK_sx k v A B n c m c2 w hw h3 h8 h7 h11 h12

def opnV (k : Int) : Int := if k = 3 then 3 else if k = 7 ∨ k = 8 then 6 else 10

def midV (k v : Int) : Int := if k = 3 then (if v = 0 then 0 else 4) else if k = 7 then 0 else if k = 8 then 8 else 0

def endV (k : Int) : Int := if k = 3 then 5 else if k = 7 then 7 else if k = 8 then 9 else k

/-- What boundsOf leaves. -/
def BndOf (k v : Int) (w : World) (e : Ending) (w' : World) : Prop := e = .returned (.tuple #[.int .i64 (opnV k), .int .i64 (midV k v), .int .i64 (endV k)]) ∧ Below w.heap.size w w'

set_option maxRecDepth 100000 in
set_option maxHeartbeats 2000000 in
theorem bounds_3a (k v : Int) (A B : Option Addr) (n c m c2 : Nat) (w : World) (hk : k = 3) (hv : v = 0) :
    Calls Try.prog 68 #[.agg #[.int .i64 k, .int .i64 v, .slice A n c, .slice B m c2]] w (BndOf k v w) := by
  have E1 : Hid (opnV k = 3) := Lib.hid (by unfold opnV; simp [hk, hv])
  have E2 : Hid (midV k v = 0) := Lib.hid (by unfold midV; simp [hk, hv])
  have E3 : Hid (endV k = 5) := Lib.hid (by unfold endV; simp [hk, hv])
  have q : (k == 3) = true := by simp [hk]
  have tv : (v == 0) = true := by simp [hv]
  clear hk hv
  go_enter Try.func68, Try.ntmps68
  go_wp2
  refine bodyPost_ret (v := .tuple #[.int .i64 (3), .int .i64 (0), .int .i64 (5)]) (by simp [results, Try.results68, go_sem, *]) rfl ?_
  exact ⟨by rw [E1.out, E2.out, E3.out], (below_alloc (Below.refl _ _) _)⟩

set_option maxRecDepth 100000 in
set_option maxHeartbeats 2000000 in
theorem bounds_3b (k v : Int) (A B : Option Addr) (n c m c2 : Nat) (w : World) (hk : k = 3) (hv : v ≠ 0) :
    Calls Try.prog 68 #[.agg #[.int .i64 k, .int .i64 v, .slice A n c, .slice B m c2]] w (BndOf k v w) := by
  have E1 : Hid (opnV k = 3) := Lib.hid (by unfold opnV; simp [hk, hv])
  have E2 : Hid (midV k v = 4) := Lib.hid (by unfold midV; simp [hk, hv])
  have E3 : Hid (endV k = 5) := Lib.hid (by unfold endV; simp [hk, hv])
  have q : (k == 3) = true := by simp [hk]
  have tv : (v == 0) = false := by simp [hv]
  clear hk hv
  go_enter Try.func68, Try.ntmps68
  go_wp2
  refine bodyPost_ret (v := .tuple #[.int .i64 (3), .int .i64 (4), .int .i64 (5)]) (by simp [results, Try.results68, go_sem, *]) rfl ?_
  exact ⟨by rw [E1.out, E2.out, E3.out], (below_alloc (Below.refl _ _) _)⟩

set_option maxRecDepth 100000 in
set_option maxHeartbeats 2000000 in
theorem bounds_7 (k v : Int) (A B : Option Addr) (n c m c2 : Nat) (w : World) (hk : k = 7) :
    Calls Try.prog 68 #[.agg #[.int .i64 k, .int .i64 v, .slice A n c, .slice B m c2]] w (BndOf k v w) := by
  have E1 : Hid (opnV k = 6) := Lib.hid (by unfold opnV; simp [hk])
  have E2 : Hid (midV k v = 0) := Lib.hid (by unfold midV; simp [hk])
  have E3 : Hid (endV k = 7) := Lib.hid (by unfold endV; simp [hk])
  have q3 : (k == 3) = false := by simp [hk]
  have q : (k == 7) = true := by simp [hk]
  clear hk
  go_enter Try.func68, Try.ntmps68
  go_wp2
  refine bodyPost_ret (v := .tuple #[.int .i64 (6), .int .i64 (0), .int .i64 (7)]) (by simp [results, Try.results68, go_sem, *]) rfl ?_
  exact ⟨by rw [E1.out, E2.out, E3.out], (below_alloc (Below.refl _ _) _)⟩

set_option maxRecDepth 100000 in
set_option maxHeartbeats 2000000 in
theorem bounds_8 (k v : Int) (A B : Option Addr) (n c m c2 : Nat) (w : World) (hk : k = 8) :
    Calls Try.prog 68 #[.agg #[.int .i64 k, .int .i64 v, .slice A n c, .slice B m c2]] w (BndOf k v w) := by
  have E1 : Hid (opnV k = 6) := Lib.hid (by unfold opnV; simp [hk])
  have E2 : Hid (midV k v = 8) := Lib.hid (by unfold midV; simp [hk])
  have E3 : Hid (endV k = 9) := Lib.hid (by unfold endV; simp [hk])
  have q3 : (k == 3) = false := by simp [hk]
  have q7 : (k == 7) = false := by simp [hk]
  have q : (k == 8) = true := by simp [hk]
  clear hk
  go_enter Try.func68, Try.ntmps68
  go_wp2
  refine bodyPost_ret (v := .tuple #[.int .i64 (6), .int .i64 (8), .int .i64 (9)]) (by simp [results, Try.results68, go_sem, *]) rfl ?_
  exact ⟨by rw [E1.out, E2.out, E3.out], (below_alloc (Below.refl _ _) _)⟩

set_option maxRecDepth 100000 in
set_option maxHeartbeats 2000000 in
theorem bounds_x (k v : Int) (A B : Option Addr) (n c m c2 : Nat) (w : World) (h3 : k ≠ 3) (h7 : k ≠ 7) (h8 : k ≠ 8) :
    Calls Try.prog 68 #[.agg #[.int .i64 k, .int .i64 v, .slice A n c, .slice B m c2]] w (BndOf k v w) := by
  have E1 : Hid (opnV k = 10) := Lib.hid (by unfold opnV; simp [h3, h7, h8])
  have E2 : Hid (midV k v = 0) := Lib.hid (by unfold midV; simp [h3, h7, h8])
  have E3 : Hid (endV k = k) := Lib.hid (by unfold endV; simp [h3, h7, h8])
  have q3 : (k == 3) = false := by simp [h3]
  have q7 : (k == 7) = false := by simp [h7]
  have q8 : (k == 8) = false := by simp [h8]
  clear h3 h7 h8
  go_enter Try.func68, Try.ntmps68
  go_wp2_with fail
  go_quiet (fail)
  go_wp2
  refine bodyPost_ret (v := .tuple #[.int .i64 (10), .int .i64 (0), .int .i64 (k)]) (by simp [results, Try.results68, go_sem, *]) rfl ?_
  exact ⟨by rw [E1.out, E2.out, E3.out], below_draws (below_alloc (Below.refl _ _) _) _⟩

theorem bounds_any (k v : Int) (A B : Option Addr) (n c m c2 : Nat) (w : World) :
    Calls Try.prog 68 #[.agg #[.int .i64 k, .int .i64 v, .slice A n c, .slice B m c2]] w (BndOf k v w) := by
  by_cases h3 : k = 3
  · by_cases hv : v = 0
    · exact bounds_3a k v A B n c m c2 w h3 hv
    · exact bounds_3b k v A B n c m c2 w h3 hv
  by_cases h7 : k = 7
  · exact bounds_7 k v A B n c m c2 w h7
  by_cases h8 : k = 8
  · exact bounds_8 k v A B n c m c2 w h8
  exact bounds_x k v A B n c m c2 w h3 h7 h8

end Go.Proofs.Ytafhmajnkicifaa
