/- Is a host valid: the given side. -/
import Derived.Test.YtkcogfgjabemfaaHoB
import Derived.Test.YtkcogfgjabemfaaDatD
namespace Go.Proofs.Ytkcogfgjabemfaa
open Go.RowKit
set_option linter.unusedVariables false
set_option linter.unusedSimpArgs false

/-- A valid deed. -/
def ddB (x : Dd) : Bool := inB x.p 0 3 && cellB x.a && cellB x.b && cellB x.r

def ddsB (Q : List Dd) : Bool := Q.all ddB

theorem ddsB_at {l : List Dd} (h : ddsB l = true) {n : Dd} (hn : n ∈ l) : ddB n = true := List.all_eq_true.1 h n hn

/-- The first k are valid. -/
def DdsTo (l : List Dd) (k : Nat) : Prop := ∀ n ∈ l.take k, ddB n = true

theorem ddsTo_zero (l : List Dd) : DdsTo l 0 := by intro n hn; simp at hn

theorem ddsTo_next {l : List Dd} {k : Nat} (h : DdsTo l k) (hk : k < l.length) (e : ddB l[k] = true) : DdsTo l (k + 1) := by
  intro n hn
  rw [List.take_succ_eq_append_getElem hk] at hn
  rcases List.mem_append.1 hn with hn | hn
  · exact h n hn
  · rw [List.mem_singleton.1 hn]; exact e

theorem ddsTo_end {l : List Dd} (h : DdsTo l l.length) : ddsB l = true := by
  unfold DdsTo at h; rw [List.take_length] at h; exact List.all_eq_true.2 h

theorem dds_not {l : List Dd} {k : Nat} (hk : k < l.length) (e : ddB l[k] = false) : ddsB l = false := by
  cases h : ddsB l
  · rfl
  · rw [ddsB_at h (List.getElem_mem hk)] at e; cases e

/-- What a valid host is. -/
def HtFine (h : Ht) : Prop := h.g.length = 4 ∧ h.s.length = 8 ∧ h.n.length ≤ 20 ∧ h.d.length ≤ 40 ∧ cellsB h.s = true ∧ cellsB h.n = true ∧ inB h.c 0 2147483647 = true ∧ ddsB h.d = true

instance (h : Ht) : Decidable (HtFine h) := by unfold HtFine; infer_instance

def hOK (h : Ht) : Bool := decide (HtFine h)

theorem hOK_true {h : Ht} (q : HtFine h) : hOK h = true := by unfold hOK; exact decide_eq_true q
theorem hOK_false {h : Ht} (q : ¬ HtFine h) : hOK h = false := by unfold hOK; exact decide_eq_false q
theorem hOK_fine {h : Ht} (q : hOK h = true) : HtFine h := by unfold hOK at q; exact of_decide_eq_true q

theorem fineH_g {h : Ht} (q : HtFine h) : h.g.length = 4 := q.1
theorem fineH_s {h : Ht} (q : HtFine h) : h.s.length = 8 := q.2.1
theorem fineH_n {h : Ht} (q : HtFine h) : h.n.length ≤ 20 := q.2.2.1
theorem fineH_d {h : Ht} (q : HtFine h) : h.d.length ≤ 40 := q.2.2.2.1
theorem fineH_sc {h : Ht} (q : HtFine h) : cellsB h.s = true := q.2.2.2.2.1
theorem fineH_nc {h : Ht} (q : HtFine h) : cellsB h.n = true := q.2.2.2.2.2.1
theorem fineH_c {h : Ht} (q : HtFine h) : inB h.c 0 2147483647 = true := q.2.2.2.2.2.2.1
theorem fineH_dd {h : Ht} (q : HtFine h) : ddsB h.d = true := q.2.2.2.2.2.2.2

theorem fineH_small {h : Ht} (q : HtFine h) : SmallH h := by
  have h1 := fineH_g q
  have h2 := fineH_s q
  have h3 := fineH_n q
  have h4 := fineH_d q
  exact ⟨by omega, by omega, by omega, by omega⟩

set_option maxRecDepth 100000 in
set_option maxHeartbeats 1000000 in
theorem sDeed_any (x : Dd) (w : World) :
    Calls Try.prog 107 #[.agg #[.int .i64 x.p, .int .i64 x.a, .int .i64 x.b, .int .i64 x.r]] w fun e w' => e = .returned (.bool (ddB x)) ∧ Below w.heap.size w w' := by
  have BB : Hid (∀ (o : Obj), Below w.heap.size w (w.alloc o)) := Lib.hid fun o => below_alloc (Below.refl _ _) _
  have DB : Hid (ddB x = (inB x.p 0 3 && cellB x.a && cellB x.b && cellB x.r)) := Lib.hid rfl
  cases t0 : inB x.p 0 3
  · go_enter Try.func107, Try.ntmps107
    go_wp2_with (first | (go_at_call 58; refine (sIn_any _ _ _ _).mono ?_; rintro e w' ⟨rfl, rfl⟩) | (go_at_call 138; refine (sCell_any _ _).mono ?_; rintro e w' ⟨rfl, rfl⟩))
    go_ret
    exact ⟨ret_bool (by rw [DB.out]; simp [t0]), BB.out _⟩
  · have z0 : True := trivial
    cases t1 : cellB x.a
    · go_enter Try.func107, Try.ntmps107
      go_wp2_with (first | (go_at_call 58; refine (sIn_any _ _ _ _).mono ?_; rintro e w' ⟨rfl, rfl⟩) | (go_at_call 138; refine (sCell_any _ _).mono ?_; rintro e w' ⟨rfl, rfl⟩))
      go_ret
      exact ⟨ret_bool (by rw [DB.out]; simp [t0, t1]), BB.out _⟩
    · have z1 : True := trivial
      cases t2 : cellB x.b
      · go_enter Try.func107, Try.ntmps107
        go_wp2_with (first | (go_at_call 58; refine (sIn_any _ _ _ _).mono ?_; rintro e w' ⟨rfl, rfl⟩) | (go_at_call 138; refine (sCell_any _ _).mono ?_; rintro e w' ⟨rfl, rfl⟩))
        go_ret
        exact ⟨ret_bool (by rw [DB.out]; simp [t0, t1, t2]), BB.out _⟩
      · have z2 : True := trivial
        cases t3 : cellB x.r
        · go_enter Try.func107, Try.ntmps107
          go_wp2_with (first | (go_at_call 58; refine (sIn_any _ _ _ _).mono ?_; rintro e w' ⟨rfl, rfl⟩) | (go_at_call 138; refine (sCell_any _ _).mono ?_; rintro e w' ⟨rfl, rfl⟩))
          go_ret
          exact ⟨ret_bool (by rw [DB.out]; simp [t0, t1, t2, t3]), BB.out _⟩
        · go_enter Try.func107, Try.ntmps107
          go_wp2_with (first | (go_at_call 58; refine (sIn_any _ _ _ _).mono ?_; rintro e w' ⟨rfl, rfl⟩) | (go_at_call 138; refine (sCell_any _ _).mono ?_; rintro e w' ⟨rfl, rfl⟩))
          go_ret
          exact ⟨ret_bool (by rw [DB.out]; simp [t0, t1, t2, t3]), BB.out _⟩

set_option maxRecDepth 100000 in
set_option maxHeartbeats 1000000 in
theorem sHOK_any_0 (v : Value) (h : Ht) (w : World) (hv : HostIn w v h) (h0 : ¬ h.g.length = 4) :
    Calls Try.prog 56 #[v] w fun e w' => e = .returned (.bool (false)) ∧ Below w.heap.size w w' := by
  obtain ⟨x, y, z, q, rfl, hx, hy, hz, hq⟩ := hv
  have BB : Hid (∀ (o : Obj), Below w.heap.size w (w.alloc o)) := Lib.hid fun o => below_alloc (Below.refl _ _) _
  have HY : Hid (∀ o : Obj, Ints (w.alloc o) y h.s) := Lib.hid fun o => ints_below hy (BB.out _)
  have HZ : Hid (∀ o : Obj, Ints (w.alloc o) z h.n) := Lib.hid fun o => ints_below hz (BB.out _)
  have HQ : Hid (∀ o : Obj, Dds (w.alloc o) q h.d) := Lib.hid fun o => dds_below hq (BB.out _)
  obtain ⟨l1, A1, k1, rfl, _⟩ := hx
  obtain ⟨l2, A2, k2, rfl, _⟩ := hy
  obtain ⟨l3, A3, k3, rfl, _⟩ := hz
  obtain ⟨l4, A4, k4, rfl, _⟩ := hq
  unfold maxLen at l1 l2 l3 l4
  have t0 : ((h.g.length : Int) != 4) = true := by rw [bne_iff_ne]; omega
  have u0 : ((h.g.length : Int) == 4) = false := by rw [beq_eq_false_iff_ne]; omega
  clear h0
  go_enter Try.func56, Try.ntmps56
  go_wp2_with (first | (go_at_call 106; (first | (with_reducible refine (sCells_any _ h.s _ (HY.out _)).mono ?_) | (with_reducible refine (sCells_any _ h.n _ (HZ.out _)).mono ?_)); rintro e w' ⟨rfl, rfl⟩) | (go_at_call 58; refine (sIn_any _ _ _ _).mono ?_; rintro e w' ⟨rfl, rfl⟩))
  go_ret
  exact ⟨rfl, BB.out _⟩

set_option maxRecDepth 100000 in
set_option maxHeartbeats 1000000 in
theorem sHOK_any_1 (v : Value) (h : Ht) (w : World) (hv : HostIn w v h) (h0 : h.g.length = 4) (h1 : ¬ h.s.length = 8) :
    Calls Try.prog 56 #[v] w fun e w' => e = .returned (.bool (false)) ∧ Below w.heap.size w w' := by
  obtain ⟨x, y, z, q, rfl, hx, hy, hz, hq⟩ := hv
  have BB : Hid (∀ (o : Obj), Below w.heap.size w (w.alloc o)) := Lib.hid fun o => below_alloc (Below.refl _ _) _
  have HY : Hid (∀ o : Obj, Ints (w.alloc o) y h.s) := Lib.hid fun o => ints_below hy (BB.out _)
  have HZ : Hid (∀ o : Obj, Ints (w.alloc o) z h.n) := Lib.hid fun o => ints_below hz (BB.out _)
  have HQ : Hid (∀ o : Obj, Dds (w.alloc o) q h.d) := Lib.hid fun o => dds_below hq (BB.out _)
  obtain ⟨l1, A1, k1, rfl, _⟩ := hx
  obtain ⟨l2, A2, k2, rfl, _⟩ := hy
  obtain ⟨l3, A3, k3, rfl, _⟩ := hz
  obtain ⟨l4, A4, k4, rfl, _⟩ := hq
  unfold maxLen at l1 l2 l3 l4
  have t0 : ((h.g.length : Int) != 4) = false := by rw [bne_eq_false_iff_eq]; omega
  have u0 : ((h.g.length : Int) == 4) = true := by rw [beq_iff_eq]; omega
  clear h0
  have t1 : ((h.s.length : Int) != 8) = true := by rw [bne_iff_ne]; omega
  have u1 : ((h.s.length : Int) == 8) = false := by rw [beq_eq_false_iff_ne]; omega
  clear h1
  go_enter Try.func56, Try.ntmps56
  go_wp2_with (first | (go_at_call 106; (first | (with_reducible refine (sCells_any _ h.s _ (HY.out _)).mono ?_) | (with_reducible refine (sCells_any _ h.n _ (HZ.out _)).mono ?_)); rintro e w' ⟨rfl, rfl⟩) | (go_at_call 58; refine (sIn_any _ _ _ _).mono ?_; rintro e w' ⟨rfl, rfl⟩))
  go_ret
  exact ⟨rfl, BB.out _⟩

set_option maxRecDepth 100000 in
set_option maxHeartbeats 1000000 in
theorem sHOK_any_2 (v : Value) (h : Ht) (w : World) (hv : HostIn w v h) (h0 : h.g.length = 4) (h1 : h.s.length = 8) (h2 : ¬ h.n.length ≤ 20) :
    Calls Try.prog 56 #[v] w fun e w' => e = .returned (.bool (false)) ∧ Below w.heap.size w w' := by
  obtain ⟨x, y, z, q, rfl, hx, hy, hz, hq⟩ := hv
  have BB : Hid (∀ (o : Obj), Below w.heap.size w (w.alloc o)) := Lib.hid fun o => below_alloc (Below.refl _ _) _
  have HY : Hid (∀ o : Obj, Ints (w.alloc o) y h.s) := Lib.hid fun o => ints_below hy (BB.out _)
  have HZ : Hid (∀ o : Obj, Ints (w.alloc o) z h.n) := Lib.hid fun o => ints_below hz (BB.out _)
  have HQ : Hid (∀ o : Obj, Dds (w.alloc o) q h.d) := Lib.hid fun o => dds_below hq (BB.out _)
  obtain ⟨l1, A1, k1, rfl, _⟩ := hx
  obtain ⟨l2, A2, k2, rfl, _⟩ := hy
  obtain ⟨l3, A3, k3, rfl, _⟩ := hz
  obtain ⟨l4, A4, k4, rfl, _⟩ := hq
  unfold maxLen at l1 l2 l3 l4
  have t0 : ((h.g.length : Int) != 4) = false := by rw [bne_eq_false_iff_eq]; omega
  have u0 : ((h.g.length : Int) == 4) = true := by rw [beq_iff_eq]; omega
  clear h0
  have t1 : ((h.s.length : Int) != 8) = false := by rw [bne_eq_false_iff_eq]; omega
  have u1 : ((h.s.length : Int) == 8) = true := by rw [beq_iff_eq]; omega
  clear h1
  go_enter Try.func56, Try.ntmps56
  go_wp2_with (first | (go_at_call 106; (first | (with_reducible refine (sCells_any _ h.s _ (HY.out _)).mono ?_) | (with_reducible refine (sCells_any _ h.n _ (HZ.out _)).mono ?_)); rintro e w' ⟨rfl, rfl⟩) | (go_at_call 58; refine (sIn_any _ _ _ _).mono ?_; rintro e w' ⟨rfl, rfl⟩))
  go_ret
  exact ⟨rfl, BB.out _⟩

set_option maxRecDepth 100000 in
set_option maxHeartbeats 1000000 in
theorem sHOK_any_3 (v : Value) (h : Ht) (w : World) (hv : HostIn w v h) (h0 : h.g.length = 4) (h1 : h.s.length = 8) (h2 : h.n.length ≤ 20) (h3 : ¬ h.d.length ≤ 40) :
    Calls Try.prog 56 #[v] w fun e w' => e = .returned (.bool (false)) ∧ Below w.heap.size w w' := by
  obtain ⟨x, y, z, q, rfl, hx, hy, hz, hq⟩ := hv
  have BB : Hid (∀ (o : Obj), Below w.heap.size w (w.alloc o)) := Lib.hid fun o => below_alloc (Below.refl _ _) _
  have HY : Hid (∀ o : Obj, Ints (w.alloc o) y h.s) := Lib.hid fun o => ints_below hy (BB.out _)
  have HZ : Hid (∀ o : Obj, Ints (w.alloc o) z h.n) := Lib.hid fun o => ints_below hz (BB.out _)
  have HQ : Hid (∀ o : Obj, Dds (w.alloc o) q h.d) := Lib.hid fun o => dds_below hq (BB.out _)
  obtain ⟨l1, A1, k1, rfl, _⟩ := hx
  obtain ⟨l2, A2, k2, rfl, _⟩ := hy
  obtain ⟨l3, A3, k3, rfl, _⟩ := hz
  obtain ⟨l4, A4, k4, rfl, _⟩ := hq
  unfold maxLen at l1 l2 l3 l4
  have t0 : ((h.g.length : Int) != 4) = false := by rw [bne_eq_false_iff_eq]; omega
  have u0 : ((h.g.length : Int) == 4) = true := by rw [beq_iff_eq]; omega
  clear h0
  have t1 : ((h.s.length : Int) != 8) = false := by rw [bne_eq_false_iff_eq]; omega
  have u1 : ((h.s.length : Int) == 8) = true := by rw [beq_iff_eq]; omega
  clear h1
  go_enter Try.func56, Try.ntmps56
  go_wp2_with (first | (go_at_call 106; (first | (with_reducible refine (sCells_any _ h.s _ (HY.out _)).mono ?_) | (with_reducible refine (sCells_any _ h.n _ (HZ.out _)).mono ?_)); rintro e w' ⟨rfl, rfl⟩) | (go_at_call 58; refine (sIn_any _ _ _ _).mono ?_; rintro e w' ⟨rfl, rfl⟩))
  go_ret
  exact ⟨rfl, BB.out _⟩

set_option maxRecDepth 100000 in
set_option maxHeartbeats 1000000 in
theorem sHOK_any_4 (v : Value) (h : Ht) (w : World) (hv : HostIn w v h) (h0 : h.g.length = 4) (h1 : h.s.length = 8) (h2 : h.n.length ≤ 20) (h3 : h.d.length ≤ 40) (h4 : cellsB h.s = false) :
    Calls Try.prog 56 #[v] w fun e w' => e = .returned (.bool (false)) ∧ Below w.heap.size w w' := by
  obtain ⟨x, y, z, q, rfl, hx, hy, hz, hq⟩ := hv
  have BB : Hid (∀ (o : Obj), Below w.heap.size w (w.alloc o)) := Lib.hid fun o => below_alloc (Below.refl _ _) _
  have HY : Hid (∀ o : Obj, Ints (w.alloc o) y h.s) := Lib.hid fun o => ints_below hy (BB.out _)
  have HZ : Hid (∀ o : Obj, Ints (w.alloc o) z h.n) := Lib.hid fun o => ints_below hz (BB.out _)
  have HQ : Hid (∀ o : Obj, Dds (w.alloc o) q h.d) := Lib.hid fun o => dds_below hq (BB.out _)
  obtain ⟨l1, A1, k1, rfl, _⟩ := hx
  obtain ⟨l2, A2, k2, rfl, _⟩ := hy
  obtain ⟨l3, A3, k3, rfl, _⟩ := hz
  obtain ⟨l4, A4, k4, rfl, _⟩ := hq
  unfold maxLen at l1 l2 l3 l4
  have t0 : ((h.g.length : Int) != 4) = false := by rw [bne_eq_false_iff_eq]; omega
  have u0 : ((h.g.length : Int) == 4) = true := by rw [beq_iff_eq]; omega
  clear h0
  have t1 : ((h.s.length : Int) != 8) = false := by rw [bne_eq_false_iff_eq]; omega
  have u1 : ((h.s.length : Int) == 8) = true := by rw [beq_iff_eq]; omega
  clear h1
  go_enter Try.func56, Try.ntmps56
  go_wp2_with (first | (go_at_call 106; (first | (with_reducible refine (sCells_any _ h.s _ (HY.out _)).mono ?_) | (with_reducible refine (sCells_any _ h.n _ (HZ.out _)).mono ?_)); rintro e w' ⟨rfl, rfl⟩) | (go_at_call 58; refine (sIn_any _ _ _ _).mono ?_; rintro e w' ⟨rfl, rfl⟩))
  go_ret
  exact ⟨rfl, BB.out _⟩

set_option maxRecDepth 100000 in
set_option maxHeartbeats 1000000 in
theorem sHOK_any_5 (v : Value) (h : Ht) (w : World) (hv : HostIn w v h) (h0 : h.g.length = 4) (h1 : h.s.length = 8) (h2 : h.n.length ≤ 20) (h3 : h.d.length ≤ 40) (h4 : cellsB h.s = true) (h5 : cellsB h.n = false) :
    Calls Try.prog 56 #[v] w fun e w' => e = .returned (.bool (false)) ∧ Below w.heap.size w w' := by
  obtain ⟨x, y, z, q, rfl, hx, hy, hz, hq⟩ := hv
  have BB : Hid (∀ (o : Obj), Below w.heap.size w (w.alloc o)) := Lib.hid fun o => below_alloc (Below.refl _ _) _
  have HY : Hid (∀ o : Obj, Ints (w.alloc o) y h.s) := Lib.hid fun o => ints_below hy (BB.out _)
  have HZ : Hid (∀ o : Obj, Ints (w.alloc o) z h.n) := Lib.hid fun o => ints_below hz (BB.out _)
  have HQ : Hid (∀ o : Obj, Dds (w.alloc o) q h.d) := Lib.hid fun o => dds_below hq (BB.out _)
  obtain ⟨l1, A1, k1, rfl, _⟩ := hx
  obtain ⟨l2, A2, k2, rfl, _⟩ := hy
  obtain ⟨l3, A3, k3, rfl, _⟩ := hz
  obtain ⟨l4, A4, k4, rfl, _⟩ := hq
  unfold maxLen at l1 l2 l3 l4
  have t0 : ((h.g.length : Int) != 4) = false := by rw [bne_eq_false_iff_eq]; omega
  have u0 : ((h.g.length : Int) == 4) = true := by rw [beq_iff_eq]; omega
  clear h0
  have t1 : ((h.s.length : Int) != 8) = false := by rw [bne_eq_false_iff_eq]; omega
  have u1 : ((h.s.length : Int) == 8) = true := by rw [beq_iff_eq]; omega
  clear h1
  go_enter Try.func56, Try.ntmps56
  go_wp2_with (first | (go_at_call 106; (first | (with_reducible refine (sCells_any _ h.s _ (HY.out _)).mono ?_) | (with_reducible refine (sCells_any _ h.n _ (HZ.out _)).mono ?_)); rintro e w' ⟨rfl, rfl⟩) | (go_at_call 58; refine (sIn_any _ _ _ _).mono ?_; rintro e w' ⟨rfl, rfl⟩))
  go_ret
  exact ⟨rfl, BB.out _⟩

set_option maxRecDepth 100000 in
set_option maxHeartbeats 1000000 in
theorem sHOK_any_6 (v : Value) (h : Ht) (w : World) (hv : HostIn w v h) (h0 : h.g.length = 4) (h1 : h.s.length = 8) (h2 : h.n.length ≤ 20) (h3 : h.d.length ≤ 40) (h4 : cellsB h.s = true) (h5 : cellsB h.n = true) (h6 : inB h.c 0 2147483647 = false) :
    Calls Try.prog 56 #[v] w fun e w' => e = .returned (.bool (false)) ∧ Below w.heap.size w w' := by
  obtain ⟨x, y, z, q, rfl, hx, hy, hz, hq⟩ := hv
  have BB : Hid (∀ (o : Obj), Below w.heap.size w (w.alloc o)) := Lib.hid fun o => below_alloc (Below.refl _ _) _
  have HY : Hid (∀ o : Obj, Ints (w.alloc o) y h.s) := Lib.hid fun o => ints_below hy (BB.out _)
  have HZ : Hid (∀ o : Obj, Ints (w.alloc o) z h.n) := Lib.hid fun o => ints_below hz (BB.out _)
  have HQ : Hid (∀ o : Obj, Dds (w.alloc o) q h.d) := Lib.hid fun o => dds_below hq (BB.out _)
  obtain ⟨l1, A1, k1, rfl, _⟩ := hx
  obtain ⟨l2, A2, k2, rfl, _⟩ := hy
  obtain ⟨l3, A3, k3, rfl, _⟩ := hz
  obtain ⟨l4, A4, k4, rfl, _⟩ := hq
  unfold maxLen at l1 l2 l3 l4
  have t0 : ((h.g.length : Int) != 4) = false := by rw [bne_eq_false_iff_eq]; omega
  have u0 : ((h.g.length : Int) == 4) = true := by rw [beq_iff_eq]; omega
  clear h0
  have t1 : ((h.s.length : Int) != 8) = false := by rw [bne_eq_false_iff_eq]; omega
  have u1 : ((h.s.length : Int) == 8) = true := by rw [beq_iff_eq]; omega
  clear h1
  go_enter Try.func56, Try.ntmps56
  go_wp2_with (first | (go_at_call 106; (first | (with_reducible refine (sCells_any _ h.s _ (HY.out _)).mono ?_) | (with_reducible refine (sCells_any _ h.n _ (HZ.out _)).mono ?_)); rintro e w' ⟨rfl, rfl⟩) | (go_at_call 58; refine (sIn_any _ _ _ _).mono ?_; rintro e w' ⟨rfl, rfl⟩))
  go_ret
  exact ⟨rfl, BB.out _⟩

set_option maxRecDepth 100000 in
set_option maxHeartbeats 1000000 in
theorem sHOK_any_7 (v : Value) (h : Ht) (w : World) (hv : HostIn w v h) (h0 : h.g.length = 4) (h1 : h.s.length = 8) (h2 : h.n.length ≤ 20) (h3 : h.d.length ≤ 40) (h4 : cellsB h.s = true) (h5 : cellsB h.n = true) (h6 : inB h.c 0 2147483647 = true) :
    Calls Try.prog 56 #[v] w fun e w' => e = .returned (.bool (ddsB h.d)) ∧ Below w.heap.size w w' := by
  obtain ⟨x, y, z, q, rfl, hx, hy, hz, hq⟩ := hv
  have BB : Hid (∀ (o : Obj), Below w.heap.size w (w.alloc o)) := Lib.hid fun o => below_alloc (Below.refl _ _) _
  have HY : Hid (∀ o : Obj, Ints (w.alloc o) y h.s) := Lib.hid fun o => ints_below hy (BB.out _)
  have HZ : Hid (∀ o : Obj, Ints (w.alloc o) z h.n) := Lib.hid fun o => ints_below hz (BB.out _)
  have HQ : Hid (∀ o : Obj, Dds (w.alloc o) q h.d) := Lib.hid fun o => dds_below hq (BB.out _)
  obtain ⟨l1, A1, k1, rfl, _⟩ := hx
  obtain ⟨l2, A2, k2, rfl, _⟩ := hy
  obtain ⟨l3, A3, k3, rfl, _⟩ := hz
  obtain ⟨l4, A4, k4, rfl, _⟩ := hq
  unfold maxLen at l1 l2 l3 l4
  have t0 : ((h.g.length : Int) != 4) = false := by rw [bne_eq_false_iff_eq]; omega
  have u0 : ((h.g.length : Int) == 4) = true := by rw [beq_iff_eq]; omega
  clear h0
  have t1 : ((h.s.length : Int) != 8) = false := by rw [bne_eq_false_iff_eq]; omega
  have u1 : ((h.s.length : Int) == 8) = true := by rw [beq_iff_eq]; omega
  clear h1
  go_enter Try.func56, Try.ntmps56
  have WB := Lib.hid (whole_new w 27 #[.slice A1 h.g.length k1, .slice A2 h.s.length k2, .slice A3 h.n.length k3, .int .i64 h.c, .slice A4 h.d.length k4])
  go_wp2_with (first | (go_at_call 106; (first | (with_reducible refine (sCells_any _ h.s _ (HY.out _)).mono ?_) | (with_reducible refine (sCells_any _ h.n _ (HZ.out _)).mono ?_)); rintro e w' ⟨rfl, rfl⟩) | (go_at_call 58; refine (sIn_any _ _ _ _).mono ?_; rintro e w' ⟨rfl, rfl⟩))
  go_loopw [3] (fun i wr => ∃ k : Nat, k ≤ h.d.length ∧ i = .int .i64 k ∧ DdsTo h.d k ∧ Below w.heap.size w wr ∧ Dds wr (.slice A4 h.d.length k4) h.d ∧ Whole wr w.heap.size 27 #[.slice A1 h.g.length k1, .slice A2 h.s.length k2, .slice A3 h.n.length k3, .int .i64 h.c, .slice A4 h.d.length k4]) (fun i _ => h.d.length - (intOf i).toNat)
  case atStart => exact ⟨0, Nat.zero_le _, rfl, ddsTo_zero _, BB.out _, HQ.out _, WB.out⟩
  case round =>
    obtain ⟨k, hk, rfl, hat, hb, hq, hw⟩ := hrel
    have AT := Lib.hid hat
    have B := Lib.hid hb
    have W := Lib.hid hw
    have Q := Lib.hid hq
    have c4 := whole_cell hw 4
    simp at c4
    clear hat hb hw
    by_cases hlt : k < h.d.length
    · obtain ⟨_, A', cap', e', hc⟩ := hq
      simp only [Value.slice.injEq, true_and] at e'
      obtain ⟨rfl, rfl⟩ := e'
      obtain ⟨ad, rfl, hd⟩ := hc (by omega)
      obtain ⟨d0, d1, d2, d3⟩ := hd k hlt
      clear hc hd
      cases e : ddB h.d[k]
      · have NO := Lib.hid (dds_not hlt e)
        go_wp2_with (go_at_call 107; refine (sDeed_any _ _).mono ?_; rintro e w2 ⟨rfl, hb2⟩; have B2 := Lib.hid (below_step B.out hb2); clear hb2)
        go_ret
        exact ⟨ret_bool NO.out.symm, B2.out⟩
      · have NX := Lib.hid (ddsTo_next AT.out hlt e)
        go_wp2_with (go_at_call 107; refine (sDeed_any _ _).mono ?_; rintro e w2 ⟨rfl, hb2⟩; have B2 := Lib.hid (below_step B.out hb2); have Q2 := Lib.hid (dds_below Q.out hb2); have W2 := Lib.hid (whole_below W.out hb2); clear hb2)
        go_roundw
        case rel => exact ⟨k + 1, by omega, by go_num, NX.out, B2.out, Q2.out, W2.out⟩
        case measure => simp [intOf]; omega
    · obtain rfl : k = h.d.length := by omega
      have E := Lib.hid (ddsTo_end AT.out)
      clear hq
      go_wp2
      go_ret
      exact ⟨ret_bool E.out.symm, B.out⟩

theorem sHOK_any (v : Value) (h : Ht) (w : World) (hv : HostIn w v h) :
    Calls Try.prog 56 #[v] w fun e w' => e = .returned (.bool (hOK h)) ∧ Below w.heap.size w w' := by
  by_cases h0 : h.g.length = 4
  rotate_left
  · rw [hOK_false (fun q => absurd (fineH_g q) (by simp [h0]))]; exact sHOK_any_0 v h w hv h0
  by_cases h1 : h.s.length = 8
  rotate_left
  · rw [hOK_false (fun q => absurd (fineH_s q) (by simp [h1]))]; exact sHOK_any_1 v h w hv h0 h1
  by_cases h2 : h.n.length ≤ 20
  rotate_left
  · rw [hOK_false (fun q => absurd (fineH_n q) (by simp [h2]))]; exact sHOK_any_2 v h w hv h0 h1 h2
  by_cases h3 : h.d.length ≤ 40
  rotate_left
  · rw [hOK_false (fun q => absurd (fineH_d q) (by simp [h3]))]; exact sHOK_any_3 v h w hv h0 h1 h2 h3
  cases h4 : cellsB h.s
  · rw [hOK_false (fun q => absurd (fineH_sc q) (by simp [h4]))]; exact sHOK_any_4 v h w hv h0 h1 h2 h3 h4
  cases h5 : cellsB h.n
  · rw [hOK_false (fun q => absurd (fineH_nc q) (by simp [h5]))]; exact sHOK_any_5 v h w hv h0 h1 h2 h3 h4 h5
  cases h6 : inB h.c 0 2147483647
  · rw [hOK_false (fun q => absurd (fineH_c q) (by simp [h6]))]; exact sHOK_any_6 v h w hv h0 h1 h2 h3 h4 h5 h6
  have e : hOK h = ddsB h.d := by
    cases h7 : ddsB h.d
    · exact hOK_false fun q => absurd (fineH_dd q) (by simp [h7])
    · exact hOK_true ⟨h0, h1, h2, h3, h4, h5, h6, h7⟩
  rw [e]
  exact sHOK_any_7 v h w hv h0 h1 h2 h3 h4 h5 h6

end Go.Proofs.Ytkcogfgjabemfaa
