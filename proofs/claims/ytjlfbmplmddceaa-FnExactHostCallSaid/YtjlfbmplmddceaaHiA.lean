/- Is a host valid, a host copied: impl's side. -/
import Derived.Test.YtjlfbmplmddceaaHsC
import Derived.Test.YtjlfbmplmddceaaCpA
namespace Go.Proofs.Ytjlfbmplmddceaa
open Go.RowKit
set_option linter.unusedVariables false
set_option linter.unusedSimpArgs false

set_option maxHeartbeats 400000 in
theorem isCap_any (a : Int) (w : World) :
    Calls Try.prog 51 #[.int .i64 a] w fun e w' => e = .returned (.bool (inB a 0 3)) ∧ w = w' := by
  by_cases h : 0 ≤ a
  · by_cases h' : a < 4
    · have E : Hid (inB a 0 3 = true) := Lib.hid (inB_of h (by omega))
      go_enter Try.func51, Try.ntmps51
      go_wp2
      go_ret
      exact ⟨ret_bool (by rw [E.out]), rfl⟩
    · have E : Hid (inB a 0 3 = false) := Lib.hid (by cases q : inB a 0 3; rfl; have := of_inB q; omega)
      go_enter Try.func51, Try.ntmps51
      go_wp2
      go_ret
      exact ⟨ret_bool (by rw [E.out]), rfl⟩
  · have E : Hid (inB a 0 3 = false) := Lib.hid (by cases q : inB a 0 3; rfl; have := of_inB q; omega)
    have h2 : a < 0 := by omega
    clear h
    go_enter Try.func51, Try.ntmps51
    go_wp2
    go_ret
    exact ⟨ret_bool (by rw [E.out]), rfl⟩

/-- A store that is valid. -/
def stoB (S : List Int) : Bool := decide (S.length = 8) && cellsB S

set_option maxHeartbeats 400000 in
theorem storeOK_any (v : Value) (S : List Int) (w : World) (hv : Ints w v S) :
    Calls Try.prog 92 #[v] w fun e w' => e = .returned (.bool (stoB S)) ∧ w = w' := by
  have HV := Lib.hid hv
  obtain ⟨l1, A1, k1, rfl, _⟩ := hv
  by_cases h : S.length = 8
  · have E : Hid (stoB S = cellsB S) := Lib.hid (by unfold stoB; rw [h]; rfl)
    have u0 : ((S.length : Int) == 8) = true := by rw [beq_iff_eq]; omega
    clear h
    go_enter Try.func92, Try.ntmps92
    go_wp2_with (go_at_call 93; refine (allCells_any _ S _ HV.out).mono ?_; rintro e w' ⟨rfl, rfl⟩)
    go_ret
    exact ⟨ret_bool E.out.symm, rfl⟩
  · have E : Hid (stoB S = false) := Lib.hid (by unfold stoB; simp [h])
    have u0 : ((S.length : Int) == 8) = false := by rw [beq_eq_false_iff_ne]; omega
    clear h
    go_enter Try.func92, Try.ntmps92
    go_wp2
    go_ret
    exact ⟨ret_bool E.out.symm, rfl⟩

theorem ddB_of (x : Dd) : ddB x = (inB x.p 0 3 && cellB x.a && cellB x.b && cellB x.r) := rfl

theorem below_alloc' {a b : World} (h : Below a.heap.size a b) (o : Obj) : Below a.heap.size a (b.alloc o) := below_alloc h o

set_option maxRecDepth 100000 in
set_option maxHeartbeats 2000000 in
theorem allDeeds_any (v : Value) (Q : List Dd) (w : World) (hv : Dds w v Q) :
    Calls Try.prog 94 #[v] w fun e w' => e = .returned (.bool (ddsB Q)) ∧ Below w.heap.size w w' := by
  have HV := Lib.hid hv
  obtain ⟨l4, A4, k4, rfl, _⟩ := hv
  unfold maxLen at l4
  go_enter Try.func94, Try.ntmps94
  go_wp2
  go_loopw [4, 7] (fun _ i wr => ∃ k : Nat, k ≤ Q.length ∧ i = .int .i64 k ∧ DdsTo Q k ∧ Below w.heap.size w wr) (fun _ i _ => Q.length - (intOf i).toNat)
  case atStart => exact ⟨0, Nat.zero_le _, rfl, ddsTo_zero _, Below.refl _ _⟩
  case round =>
    obtain ⟨k, hk, rfl, hat, hb⟩ := hrel
    have AT := Lib.hid hat
    have B := Lib.hid hb
    clear hat hb
    by_cases hlt : k < Q.length
    · obtain ⟨_, A', cap', e', hc⟩ := dds_below HV.out B.out
      simp only [Value.slice.injEq, true_and] at e'
      obtain ⟨rfl, rfl⟩ := e'
      obtain ⟨ad, rfl, hd⟩ := hc (by omega)
      obtain ⟨d0, d1, d2, d3⟩ := hd k hlt
      clear hc hd
      have NO := Lib.hid (fun e => dds_not hlt (e := e))
      have NX := Lib.hid (fun e => ddsTo_next AT.out hlt e)
      generalize Q[k] = y at *
      obtain ⟨p, a, b, r⟩ := y
      simp only at *
      have DB := Lib.hid (ddB_of ⟨p, a, b, r⟩)
      simp only at DB
      cases t0 : inB p 0 3
      · have N := Lib.hid (NO.out (by rw [DB.out]; simp [*]))
        go_wp2_with (first | (go_at_call 51; refine (isCap_any _ _).mono ?_; rintro e w' ⟨rfl, rfl⟩) | (go_at_call 71; refine (cellOK_any _ _).mono ?_; rintro e w' ⟨rfl, rfl⟩))
        go_ret
        exact ⟨ret_bool N.out.symm, below_alloc' B.out _⟩
      · cases t1 : cellB a
        · have N := Lib.hid (NO.out (by rw [DB.out]; simp [*]))
          go_wp2_with (first | (go_at_call 51; refine (isCap_any _ _).mono ?_; rintro e w' ⟨rfl, rfl⟩) | (go_at_call 71; refine (cellOK_any _ _).mono ?_; rintro e w' ⟨rfl, rfl⟩))
          go_ret
          exact ⟨ret_bool N.out.symm, below_alloc' B.out _⟩
        · cases t2 : cellB b
          · have N := Lib.hid (NO.out (by rw [DB.out]; simp [*]))
            go_wp2_with (first | (go_at_call 51; refine (isCap_any _ _).mono ?_; rintro e w' ⟨rfl, rfl⟩) | (go_at_call 71; refine (cellOK_any _ _).mono ?_; rintro e w' ⟨rfl, rfl⟩))
            go_ret
            exact ⟨ret_bool N.out.symm, below_alloc' B.out _⟩
          · cases t3 : cellB r
            · have N := Lib.hid (NO.out (by rw [DB.out]; simp [*]))
              go_wp2_with (first | (go_at_call 51; refine (isCap_any _ _).mono ?_; rintro e w' ⟨rfl, rfl⟩) | (go_at_call 71; refine (cellOK_any _ _).mono ?_; rintro e w' ⟨rfl, rfl⟩))
              go_ret
              exact ⟨ret_bool N.out.symm, below_alloc' B.out _⟩
            · have N := Lib.hid (NX.out (by rw [DB.out]; simp [*]))
              go_wp2_with (first | (go_at_call 51; refine (isCap_any _ _).mono ?_; rintro e w' ⟨rfl, rfl⟩) | (go_at_call 71; refine (cellOK_any _ _).mono ?_; rintro e w' ⟨rfl, rfl⟩))
              go_roundw
              case rel => exact ⟨k + 1, by omega, by go_num, N.out, below_alloc' B.out _⟩
              case measure => simp [intOf]; omega
    · obtain rfl : k = Q.length := by omega
      have E := Lib.hid (ddsTo_end AT.out)
      go_wp2
      go_ret
      exact ⟨ret_bool E.out.symm, B.out⟩

set_option maxRecDepth 100000 in
set_option maxHeartbeats 1000000 in
theorem iHOK_0 (v : Value) (h : Ht) (w : World) (hv : HostIn w v h) (h0 : ¬ h.g.length = 4) :
    Calls Try.prog 49 #[v] w fun e w' => e = .returned (.bool (false)) ∧ Below w.heap.size w w' := by
  obtain ⟨x, y, z, q, rfl, hx, hy, hz, hq⟩ := hv
  have BB : Hid (∀ (o : Obj), Below w.heap.size w (w.alloc o)) := Lib.hid fun o => below_alloc (Below.refl _ _) _
  have HY : Hid (∀ o : Obj, Ints (w.alloc o) y h.s) := Lib.hid fun o => ints_below hy (BB.out _)
  have HZ : Hid (∀ o : Obj, Ints (w.alloc o) z h.n) := Lib.hid fun o => ints_below hz (BB.out _)
  have HQ : Hid (∀ o : Obj, Dds (w.alloc o) q h.d) := Lib.hid fun o => dds_below hq (BB.out _)
  obtain ⟨l1, A1, k1, rfl, _⟩ := hx
  obtain ⟨l2, A2, k2, rfl, _⟩ := hy
  obtain ⟨l3, A3, k3, rfl, _⟩ := hz
  obtain ⟨l4, A4, k4, rfl, _⟩ := hq
  unfold maxLen at l1 l2 l3 l4
  have u0 : ((h.g.length : Int) == 4) = false := by rw [beq_eq_false_iff_ne]; omega
  clear h0
  go_enter Try.func49, Try.ntmps49
  go_wp2_with (first | (go_at_call 92; refine (storeOK_any _ h.s _ (HY.out _)).mono ?_; rintro e w' ⟨rfl, rfl⟩) | (go_at_call 93; refine (allCells_any _ h.n _ (HZ.out _)).mono ?_; rintro e w' ⟨rfl, rfl⟩) | (go_at_call 94; refine (allDeeds_any _ h.d _ (HQ.out _)).mono ?_; rintro e w1 ⟨rfl, hb⟩; have B1 := Lib.hid (below_step (BB.out _) hb); clear hb))
  go_ret
  exact ⟨rfl, BB.out _⟩

set_option maxRecDepth 100000 in
set_option maxHeartbeats 1000000 in
theorem iHOK_1 (v : Value) (h : Ht) (w : World) (hv : HostIn w v h) (h0 : h.g.length = 4) (h1 : stoB h.s = false) :
    Calls Try.prog 49 #[v] w fun e w' => e = .returned (.bool (false)) ∧ Below w.heap.size w w' := by
  obtain ⟨x, y, z, q, rfl, hx, hy, hz, hq⟩ := hv
  have BB : Hid (∀ (o : Obj), Below w.heap.size w (w.alloc o)) := Lib.hid fun o => below_alloc (Below.refl _ _) _
  have HY : Hid (∀ o : Obj, Ints (w.alloc o) y h.s) := Lib.hid fun o => ints_below hy (BB.out _)
  have HZ : Hid (∀ o : Obj, Ints (w.alloc o) z h.n) := Lib.hid fun o => ints_below hz (BB.out _)
  have HQ : Hid (∀ o : Obj, Dds (w.alloc o) q h.d) := Lib.hid fun o => dds_below hq (BB.out _)
  obtain ⟨l1, A1, k1, rfl, _⟩ := hx
  obtain ⟨l2, A2, k2, rfl, _⟩ := hy
  obtain ⟨l3, A3, k3, rfl, _⟩ := hz
  obtain ⟨l4, A4, k4, rfl, _⟩ := hq
  unfold maxLen at l1 l2 l3 l4
  have u0 : ((h.g.length : Int) == 4) = true := by rw [beq_iff_eq]; omega
  clear h0
  go_enter Try.func49, Try.ntmps49
  go_wp2_with (first | (go_at_call 92; refine (storeOK_any _ h.s _ (HY.out _)).mono ?_; rintro e w' ⟨rfl, rfl⟩) | (go_at_call 93; refine (allCells_any _ h.n _ (HZ.out _)).mono ?_; rintro e w' ⟨rfl, rfl⟩) | (go_at_call 94; refine (allDeeds_any _ h.d _ (HQ.out _)).mono ?_; rintro e w1 ⟨rfl, hb⟩; have B1 := Lib.hid (below_step (BB.out _) hb); clear hb))
  go_ret
  exact ⟨rfl, BB.out _⟩

set_option maxRecDepth 100000 in
set_option maxHeartbeats 1000000 in
theorem iHOK_2 (v : Value) (h : Ht) (w : World) (hv : HostIn w v h) (h0 : h.g.length = 4) (h1 : stoB h.s = true) (h2 : ¬ h.n.length ≤ 20) :
    Calls Try.prog 49 #[v] w fun e w' => e = .returned (.bool (false)) ∧ Below w.heap.size w w' := by
  obtain ⟨x, y, z, q, rfl, hx, hy, hz, hq⟩ := hv
  have BB : Hid (∀ (o : Obj), Below w.heap.size w (w.alloc o)) := Lib.hid fun o => below_alloc (Below.refl _ _) _
  have HY : Hid (∀ o : Obj, Ints (w.alloc o) y h.s) := Lib.hid fun o => ints_below hy (BB.out _)
  have HZ : Hid (∀ o : Obj, Ints (w.alloc o) z h.n) := Lib.hid fun o => ints_below hz (BB.out _)
  have HQ : Hid (∀ o : Obj, Dds (w.alloc o) q h.d) := Lib.hid fun o => dds_below hq (BB.out _)
  obtain ⟨l1, A1, k1, rfl, _⟩ := hx
  obtain ⟨l2, A2, k2, rfl, _⟩ := hy
  obtain ⟨l3, A3, k3, rfl, _⟩ := hz
  obtain ⟨l4, A4, k4, rfl, _⟩ := hq
  unfold maxLen at l1 l2 l3 l4
  have u0 : ((h.g.length : Int) == 4) = true := by rw [beq_iff_eq]; omega
  clear h0
  have q2 : 20 < h.n.length := by omega
  clear h2
  go_enter Try.func49, Try.ntmps49
  go_wp2_with (first | (go_at_call 92; refine (storeOK_any _ h.s _ (HY.out _)).mono ?_; rintro e w' ⟨rfl, rfl⟩) | (go_at_call 93; refine (allCells_any _ h.n _ (HZ.out _)).mono ?_; rintro e w' ⟨rfl, rfl⟩) | (go_at_call 94; refine (allDeeds_any _ h.d _ (HQ.out _)).mono ?_; rintro e w1 ⟨rfl, hb⟩; have B1 := Lib.hid (below_step (BB.out _) hb); clear hb))
  go_ret
  exact ⟨rfl, BB.out _⟩

set_option maxRecDepth 100000 in
set_option maxHeartbeats 1000000 in
theorem iHOK_3 (v : Value) (h : Ht) (w : World) (hv : HostIn w v h) (h0 : h.g.length = 4) (h1 : stoB h.s = true) (h2 : h.n.length ≤ 20) (h3 : cellsB h.n = false) :
    Calls Try.prog 49 #[v] w fun e w' => e = .returned (.bool (false)) ∧ Below w.heap.size w w' := by
  obtain ⟨x, y, z, q, rfl, hx, hy, hz, hq⟩ := hv
  have BB : Hid (∀ (o : Obj), Below w.heap.size w (w.alloc o)) := Lib.hid fun o => below_alloc (Below.refl _ _) _
  have HY : Hid (∀ o : Obj, Ints (w.alloc o) y h.s) := Lib.hid fun o => ints_below hy (BB.out _)
  have HZ : Hid (∀ o : Obj, Ints (w.alloc o) z h.n) := Lib.hid fun o => ints_below hz (BB.out _)
  have HQ : Hid (∀ o : Obj, Dds (w.alloc o) q h.d) := Lib.hid fun o => dds_below hq (BB.out _)
  obtain ⟨l1, A1, k1, rfl, _⟩ := hx
  obtain ⟨l2, A2, k2, rfl, _⟩ := hy
  obtain ⟨l3, A3, k3, rfl, _⟩ := hz
  obtain ⟨l4, A4, k4, rfl, _⟩ := hq
  unfold maxLen at l1 l2 l3 l4
  have u0 : ((h.g.length : Int) == 4) = true := by rw [beq_iff_eq]; omega
  clear h0
  go_enter Try.func49, Try.ntmps49
  go_wp2_with (first | (go_at_call 92; refine (storeOK_any _ h.s _ (HY.out _)).mono ?_; rintro e w' ⟨rfl, rfl⟩) | (go_at_call 93; refine (allCells_any _ h.n _ (HZ.out _)).mono ?_; rintro e w' ⟨rfl, rfl⟩) | (go_at_call 94; refine (allDeeds_any _ h.d _ (HQ.out _)).mono ?_; rintro e w1 ⟨rfl, hb⟩; have B1 := Lib.hid (below_step (BB.out _) hb); clear hb))
  go_ret
  exact ⟨rfl, BB.out _⟩

set_option maxRecDepth 100000 in
set_option maxHeartbeats 1000000 in
theorem iHOK_4 (v : Value) (h : Ht) (w : World) (hv : HostIn w v h) (h0 : h.g.length = 4) (h1 : stoB h.s = true) (h2 : h.n.length ≤ 20) (h3 : cellsB h.n = true) (h4 : ¬ 0 ≤ h.c) :
    Calls Try.prog 49 #[v] w fun e w' => e = .returned (.bool (false)) ∧ Below w.heap.size w w' := by
  obtain ⟨x, y, z, q, rfl, hx, hy, hz, hq⟩ := hv
  have BB : Hid (∀ (o : Obj), Below w.heap.size w (w.alloc o)) := Lib.hid fun o => below_alloc (Below.refl _ _) _
  have HY : Hid (∀ o : Obj, Ints (w.alloc o) y h.s) := Lib.hid fun o => ints_below hy (BB.out _)
  have HZ : Hid (∀ o : Obj, Ints (w.alloc o) z h.n) := Lib.hid fun o => ints_below hz (BB.out _)
  have HQ : Hid (∀ o : Obj, Dds (w.alloc o) q h.d) := Lib.hid fun o => dds_below hq (BB.out _)
  obtain ⟨l1, A1, k1, rfl, _⟩ := hx
  obtain ⟨l2, A2, k2, rfl, _⟩ := hy
  obtain ⟨l3, A3, k3, rfl, _⟩ := hz
  obtain ⟨l4, A4, k4, rfl, _⟩ := hq
  unfold maxLen at l1 l2 l3 l4
  have u0 : ((h.g.length : Int) == 4) = true := by rw [beq_iff_eq]; omega
  clear h0
  have q4 : h.c < 0 := by omega
  clear h4
  go_enter Try.func49, Try.ntmps49
  go_wp2_with (first | (go_at_call 92; refine (storeOK_any _ h.s _ (HY.out _)).mono ?_; rintro e w' ⟨rfl, rfl⟩) | (go_at_call 93; refine (allCells_any _ h.n _ (HZ.out _)).mono ?_; rintro e w' ⟨rfl, rfl⟩) | (go_at_call 94; refine (allDeeds_any _ h.d _ (HQ.out _)).mono ?_; rintro e w1 ⟨rfl, hb⟩; have B1 := Lib.hid (below_step (BB.out _) hb); clear hb))
  go_ret
  exact ⟨rfl, BB.out _⟩

set_option maxRecDepth 100000 in
set_option maxHeartbeats 1000000 in
theorem iHOK_5 (v : Value) (h : Ht) (w : World) (hv : HostIn w v h) (h0 : h.g.length = 4) (h1 : stoB h.s = true) (h2 : h.n.length ≤ 20) (h3 : cellsB h.n = true) (h4 : 0 ≤ h.c) (h5 : ¬ h.c ≤ 2147483647) :
    Calls Try.prog 49 #[v] w fun e w' => e = .returned (.bool (false)) ∧ Below w.heap.size w w' := by
  obtain ⟨x, y, z, q, rfl, hx, hy, hz, hq⟩ := hv
  have BB : Hid (∀ (o : Obj), Below w.heap.size w (w.alloc o)) := Lib.hid fun o => below_alloc (Below.refl _ _) _
  have HY : Hid (∀ o : Obj, Ints (w.alloc o) y h.s) := Lib.hid fun o => ints_below hy (BB.out _)
  have HZ : Hid (∀ o : Obj, Ints (w.alloc o) z h.n) := Lib.hid fun o => ints_below hz (BB.out _)
  have HQ : Hid (∀ o : Obj, Dds (w.alloc o) q h.d) := Lib.hid fun o => dds_below hq (BB.out _)
  obtain ⟨l1, A1, k1, rfl, _⟩ := hx
  obtain ⟨l2, A2, k2, rfl, _⟩ := hy
  obtain ⟨l3, A3, k3, rfl, _⟩ := hz
  obtain ⟨l4, A4, k4, rfl, _⟩ := hq
  unfold maxLen at l1 l2 l3 l4
  have u0 : ((h.g.length : Int) == 4) = true := by rw [beq_iff_eq]; omega
  clear h0
  have q5 : (2147483647 : Int) < h.c := by omega
  clear h5
  go_enter Try.func49, Try.ntmps49
  go_wp2_with (first | (go_at_call 92; refine (storeOK_any _ h.s _ (HY.out _)).mono ?_; rintro e w' ⟨rfl, rfl⟩) | (go_at_call 93; refine (allCells_any _ h.n _ (HZ.out _)).mono ?_; rintro e w' ⟨rfl, rfl⟩) | (go_at_call 94; refine (allDeeds_any _ h.d _ (HQ.out _)).mono ?_; rintro e w1 ⟨rfl, hb⟩; have B1 := Lib.hid (below_step (BB.out _) hb); clear hb))
  go_ret
  exact ⟨rfl, BB.out _⟩

set_option maxRecDepth 100000 in
set_option maxHeartbeats 1000000 in
theorem iHOK_6 (v : Value) (h : Ht) (w : World) (hv : HostIn w v h) (h0 : h.g.length = 4) (h1 : stoB h.s = true) (h2 : h.n.length ≤ 20) (h3 : cellsB h.n = true) (h4 : 0 ≤ h.c) (h5 : h.c ≤ 2147483647) (h6 : ¬ h.d.length ≤ 40) :
    Calls Try.prog 49 #[v] w fun e w' => e = .returned (.bool (false)) ∧ Below w.heap.size w w' := by
  obtain ⟨x, y, z, q, rfl, hx, hy, hz, hq⟩ := hv
  have BB : Hid (∀ (o : Obj), Below w.heap.size w (w.alloc o)) := Lib.hid fun o => below_alloc (Below.refl _ _) _
  have HY : Hid (∀ o : Obj, Ints (w.alloc o) y h.s) := Lib.hid fun o => ints_below hy (BB.out _)
  have HZ : Hid (∀ o : Obj, Ints (w.alloc o) z h.n) := Lib.hid fun o => ints_below hz (BB.out _)
  have HQ : Hid (∀ o : Obj, Dds (w.alloc o) q h.d) := Lib.hid fun o => dds_below hq (BB.out _)
  obtain ⟨l1, A1, k1, rfl, _⟩ := hx
  obtain ⟨l2, A2, k2, rfl, _⟩ := hy
  obtain ⟨l3, A3, k3, rfl, _⟩ := hz
  obtain ⟨l4, A4, k4, rfl, _⟩ := hq
  unfold maxLen at l1 l2 l3 l4
  have u0 : ((h.g.length : Int) == 4) = true := by rw [beq_iff_eq]; omega
  clear h0
  have q6 : 40 < h.d.length := by omega
  clear h6
  go_enter Try.func49, Try.ntmps49
  go_wp2_with (first | (go_at_call 92; refine (storeOK_any _ h.s _ (HY.out _)).mono ?_; rintro e w' ⟨rfl, rfl⟩) | (go_at_call 93; refine (allCells_any _ h.n _ (HZ.out _)).mono ?_; rintro e w' ⟨rfl, rfl⟩) | (go_at_call 94; refine (allDeeds_any _ h.d _ (HQ.out _)).mono ?_; rintro e w1 ⟨rfl, hb⟩; have B1 := Lib.hid (below_step (BB.out _) hb); clear hb))
  go_ret
  exact ⟨rfl, BB.out _⟩

set_option maxRecDepth 100000 in
set_option maxHeartbeats 1000000 in
theorem iHOK_7 (v : Value) (h : Ht) (w : World) (hv : HostIn w v h) (h0 : h.g.length = 4) (h1 : stoB h.s = true) (h2 : h.n.length ≤ 20) (h3 : cellsB h.n = true) (h4 : 0 ≤ h.c) (h5 : h.c ≤ 2147483647) (h6 : h.d.length ≤ 40) :
    Calls Try.prog 49 #[v] w fun e w' => e = .returned (.bool (ddsB h.d)) ∧ Below w.heap.size w w' := by
  obtain ⟨x, y, z, q, rfl, hx, hy, hz, hq⟩ := hv
  have BB : Hid (∀ (o : Obj), Below w.heap.size w (w.alloc o)) := Lib.hid fun o => below_alloc (Below.refl _ _) _
  have HY : Hid (∀ o : Obj, Ints (w.alloc o) y h.s) := Lib.hid fun o => ints_below hy (BB.out _)
  have HZ : Hid (∀ o : Obj, Ints (w.alloc o) z h.n) := Lib.hid fun o => ints_below hz (BB.out _)
  have HQ : Hid (∀ o : Obj, Dds (w.alloc o) q h.d) := Lib.hid fun o => dds_below hq (BB.out _)
  obtain ⟨l1, A1, k1, rfl, _⟩ := hx
  obtain ⟨l2, A2, k2, rfl, _⟩ := hy
  obtain ⟨l3, A3, k3, rfl, _⟩ := hz
  obtain ⟨l4, A4, k4, rfl, _⟩ := hq
  unfold maxLen at l1 l2 l3 l4
  have u0 : ((h.g.length : Int) == 4) = true := by rw [beq_iff_eq]; omega
  clear h0
  go_enter Try.func49, Try.ntmps49
  go_wp2_with (first | (go_at_call 92; refine (storeOK_any _ h.s _ (HY.out _)).mono ?_; rintro e w' ⟨rfl, rfl⟩) | (go_at_call 93; refine (allCells_any _ h.n _ (HZ.out _)).mono ?_; rintro e w' ⟨rfl, rfl⟩) | (go_at_call 94; refine (allDeeds_any _ h.d _ (HQ.out _)).mono ?_; rintro e w1 ⟨rfl, hb⟩; have B1 := Lib.hid (below_step (BB.out _) hb); clear hb))
  go_ret
  exact ⟨rfl, B1.out⟩

theorem stoB_fine {S : List Int} : stoB S = true ↔ S.length = 8 ∧ cellsB S = true := by unfold stoB; simp

theorem iHOK_any (v : Value) (h : Ht) (w : World) (hv : HostIn w v h) :
    Calls Try.prog 49 #[v] w fun e w' => e = .returned (.bool (hOK h)) ∧ Below w.heap.size w w' := by
  by_cases h0 : h.g.length = 4
  rotate_left
  · rw [hOK_false (fun q => absurd (fineH_g q) (by simp [h0]))]; exact iHOK_0 v h w hv h0
  cases h1 : stoB h.s
  · rw [hOK_false (fun q => by have := stoB_fine.2 ⟨fineH_s q, fineH_sc q⟩; rw [h1] at this; cases this)]; exact iHOK_1 v h w hv h0 h1
  by_cases h2 : h.n.length ≤ 20
  rotate_left
  · rw [hOK_false (fun q => absurd (fineH_n q) (by simp [h2]))]; exact iHOK_2 v h w hv h0 h1 h2
  cases h3 : cellsB h.n
  · rw [hOK_false (fun q => absurd (fineH_nc q) (by simp [h3]))]; exact iHOK_3 v h w hv h0 h1 h2 h3
  by_cases h4 : 0 ≤ h.c
  rotate_left
  · rw [hOK_false (fun q => h4 (of_inB (fineH_c q)).1)]; exact iHOK_4 v h w hv h0 h1 h2 h3 h4
  by_cases h5 : h.c ≤ 2147483647
  rotate_left
  · rw [hOK_false (fun q => h5 (of_inB (fineH_c q)).2)]; exact iHOK_5 v h w hv h0 h1 h2 h3 h4 h5
  by_cases h6 : h.d.length ≤ 40
  rotate_left
  · rw [hOK_false (fun q => absurd (fineH_d q) (by simp [h6]))]; exact iHOK_6 v h w hv h0 h1 h2 h3 h4 h5 h6
  have e : hOK h = ddsB h.d := by
    cases h7 : ddsB h.d
    · exact hOK_false fun q => absurd (fineH_dd q) (by simp [h7])
    · exact hOK_true ⟨h0, (stoB_fine.1 h1).1, h2, h6, (stoB_fine.1 h1).2, h3, inB_of h4 h5, h7⟩
  rw [e]
  exact iHOK_7 v h w hv h0 h1 h2 h3 h4 h5 h6

set_option maxRecDepth 100000 in
set_option maxHeartbeats 2000000 in
theorem ownHost_any (v : Value) (h : Ht) (w : World) (hv : HostIn w v h) (hs : SmallH h) :
    Calls Try.prog 52 #[v] w (HCopyOf w h) := by
  obtain ⟨x, y, z, q, rfl, hx, hy, hz, hq⟩ := hv
  have Hx := Lib.hid hx
  have Hy := Lib.hid hy
  have Hz := Lib.hid hz
  have Hq := Lib.hid hq
  have Hs := Lib.hid hs
  obtain ⟨_, A1, k1, rfl, _⟩ := hx
  obtain ⟨_, A2, k2, rfl, _⟩ := hy
  obtain ⟨_, A3, k3, rfl, _⟩ := hz
  obtain ⟨_, A4, k4, rfl, _⟩ := hq
  clear hs
  go_enter Try.func52, Try.ntmps52
  go_wp2_with fail
  refine (copyBools_any _ h.g _ (bols_below Hx.out (below_alloc (below_alloc (Below.refl _ _) _) _)) (by have := Hs.out.1; omega)).mono ?_
  rintro e w1 ⟨q, rfl, hr, -, hb⟩
  obtain ⟨_, C1, m1, rfl, _⟩ := borow_bols hr
  have B1 : Below w.heap.size w w1 := (below_alloc (below_alloc (Below.refl _ _) _) _).trans (hb.mono (below_alloc (below_alloc (Below.refl _ _) _) _).size)
  have V1 := whole_b hb (whole_alloc (whole_new w _ _) _)
  have T1 := whole_b hb (whole_new1 w _ _ _)
  have R1_1 : BoRow w1 (w.heap.size + 1 + 1) (.slice C1 h.g.length m1) h.g := by simpa using hr
  have zv1 := whole_lt V1
  have zt1 := whole_lt T1
  obtain ⟨c0, c1, c2, c3, c4⟩ := five_cells V1
  have f1 := whole_free V1 0
  clear hr hb
  go_wp2_with fail
  clear c0 c1 c2 c3 c4 f1
  refine (copyCells_any _ h.s _ (ints_below Hy.out (B1.setCell (p := ⟨w.heap.size, 0, none⟩) (Nat.le_refl _) (.slice C1 h.g.length m1))) (by have := Hs.out.2.1; omega)).mono ?_
  rintro e w2 ⟨q, rfl, hr, -, hb⟩
  obtain ⟨_, C2, m2, rfl, _⟩ := row_ints hr
  have B2 : Below w.heap.size w w2 := (B1.setCell (p := ⟨w.heap.size, 0, none⟩) (Nat.le_refl _) (.slice C1 h.g.length m1)).trans (hb.mono (B1.setCell (p := ⟨w.heap.size, 0, none⟩) (Nat.le_refl _) (.slice C1 h.g.length m1)).size)
  have V2 := whole_b hb (whole_set V1 0 (.slice C1 h.g.length m1))
  have T2 := whole_b hb (whole_far T1 (p := ⟨w.heap.size, 0, none⟩) (by simp) (.slice C1 h.g.length m1))
  have R1_2 : BoRow w2 (w.heap.size + 1 + 1) _ h.g := borow_below (borow_store (g := w.heap.size) (i := 0) (u := .slice C1 h.g.length m1) R1_1 (by omega)) hb
  have P12 := parted_lt (fun g hg => (borow_lt (borow_store (g := w.heap.size) (i := 0) (u := .slice C1 h.g.length m1) R1_1 (by omega)) g hg).2) (fun g hg => (row_lt hr g hg).1)
  have R2_2 : Row w2 (w.heap.size + 1 + 1) (.slice C2 h.s.length m2) h.s := row_base hr (by have := B1.size; have := whole_lt T1; simp; omega)
  have zv2 := whole_lt V2
  have zt2 := whole_lt T2
  obtain ⟨c0, c1, c2, c3, c4⟩ := five_cells V2
  have f2 := whole_free V2 1
  clear hr hb
  go_wp2_with fail
  clear c0 c1 c2 c3 c4 f2
  refine (copyCells_any _ h.n _ (ints_below Hz.out (B2.setCell (p := ⟨w.heap.size, 1, none⟩) (Nat.le_refl _) (.slice C2 h.s.length m2))) (by have := Hs.out.2.2.1; omega)).mono ?_
  rintro e w3 ⟨q, rfl, hr, -, hb⟩
  obtain ⟨_, C3, m3, rfl, _⟩ := row_ints hr
  have B3 : Below w.heap.size w w3 := (B2.setCell (p := ⟨w.heap.size, 1, none⟩) (Nat.le_refl _) (.slice C2 h.s.length m2)).trans (hb.mono (B2.setCell (p := ⟨w.heap.size, 1, none⟩) (Nat.le_refl _) (.slice C2 h.s.length m2)).size)
  have V3 := whole_b hb (whole_set V2 1 (.slice C2 h.s.length m2))
  have T3 := whole_b hb (whole_far T2 (p := ⟨w.heap.size, 1, none⟩) (by simp) (.slice C2 h.s.length m2))
  have R1_3 : BoRow w3 (w.heap.size + 1 + 1) _ h.g := borow_below (borow_store (g := w.heap.size) (i := 1) (u := .slice C2 h.s.length m2) R1_2 (by omega)) hb
  have P13 := parted_lt (fun g hg => (borow_lt (borow_store (g := w.heap.size) (i := 1) (u := .slice C2 h.s.length m2) R1_2 (by omega)) g hg).2) (fun g hg => (row_lt hr g hg).1)
  have R2_3 : Row w3 (w.heap.size + 1 + 1) _ h.s := row_below (row_store (g := w.heap.size) (i := 1) (u := .slice C2 h.s.length m2) R2_2 (by omega)) hb
  have P23 := parted_lt (fun g hg => (row_lt (row_store (g := w.heap.size) (i := 1) (u := .slice C2 h.s.length m2) R2_2 (by omega)) g hg).2) (fun g hg => (row_lt hr g hg).1)
  have R3_3 : Row w3 (w.heap.size + 1 + 1) (.slice C3 h.n.length m3) h.n := row_base hr (by have := B2.size; have := whole_lt T2; simp; omega)
  have zv3 := whole_lt V3
  have zt3 := whole_lt T3
  obtain ⟨c0, c1, c2, c3, c4⟩ := five_cells V3
  have f3 := whole_free V3 2
  clear hr hb
  go_wp2_with fail
  clear c0 c1 c2 c3 c4 f3
  refine (copyDeeds_any _ h.d _ (dds_below Hq.out (B3.setCell (p := ⟨w.heap.size, 2, none⟩) (Nat.le_refl _) (.slice C3 h.n.length m3))) (by have := Hs.out.2.2.2; omega)).mono ?_
  rintro e w4 ⟨q, rfl, hr, -, hb⟩
  obtain ⟨_, C4, m4, rfl, _⟩ := drow_dds hr
  have B4 : Below w.heap.size w w4 := (B3.setCell (p := ⟨w.heap.size, 2, none⟩) (Nat.le_refl _) (.slice C3 h.n.length m3)).trans (hb.mono (B3.setCell (p := ⟨w.heap.size, 2, none⟩) (Nat.le_refl _) (.slice C3 h.n.length m3)).size)
  have V4 := whole_b hb (whole_set V3 2 (.slice C3 h.n.length m3))
  have T4 := whole_b hb (whole_far T3 (p := ⟨w.heap.size, 2, none⟩) (by simp) (.slice C3 h.n.length m3))
  have R1_4 : BoRow w4 (w.heap.size + 1 + 1) _ h.g := borow_below (borow_store (g := w.heap.size) (i := 2) (u := .slice C3 h.n.length m3) R1_3 (by omega)) hb
  have P14 := parted_lt (fun g hg => (borow_lt (borow_store (g := w.heap.size) (i := 2) (u := .slice C3 h.n.length m3) R1_3 (by omega)) g hg).2) (fun g hg => (drow_lt hr g hg).1)
  have R2_4 : Row w4 (w.heap.size + 1 + 1) _ h.s := row_below (row_store (g := w.heap.size) (i := 2) (u := .slice C3 h.n.length m3) R2_3 (by omega)) hb
  have P24 := parted_lt (fun g hg => (row_lt (row_store (g := w.heap.size) (i := 2) (u := .slice C3 h.n.length m3) R2_3 (by omega)) g hg).2) (fun g hg => (drow_lt hr g hg).1)
  have R3_4 : Row w4 (w.heap.size + 1 + 1) _ h.n := row_below (row_store (g := w.heap.size) (i := 2) (u := .slice C3 h.n.length m3) R3_3 (by omega)) hb
  have P34 := parted_lt (fun g hg => (row_lt (row_store (g := w.heap.size) (i := 2) (u := .slice C3 h.n.length m3) R3_3 (by omega)) g hg).2) (fun g hg => (drow_lt hr g hg).1)
  have R4_4 : DRow w4 (w.heap.size + 1 + 1) (.slice C4 h.d.length m4) h.d := drow_base hr (by have := B3.size; have := whole_lt T3; simp; omega)
  have zv4 := whole_lt V4
  have zt4 := whole_lt T4
  obtain ⟨c0, c1, c2, c3, c4⟩ := five_cells V4
  have f4 := whole_free V4 4
  obtain ⟨r0, r1, r2, r3, r4⟩ := five_cells T4
  have fr := whole_free T4
  clear hr hb
  go_wp2
  refine bodyPost_ret (v := .agg #[.slice C1 h.g.length m1, .slice C2 h.s.length m2, .slice C3 h.n.length m3, .int .i64 h.c, .slice C4 h.d.length m4]) (by simp [results, Try.results52, go_sem, *]) rfl ⟨_, rfl, hostOf_top (hostOf_base (hostOf_rows (lo := w.heap.size + 1 + 1)
    (by repeat (first | with_reducible exact R1_4 | ((with_reducible refine borow_store ?_ ?hh); case hh => omega)))
    (by repeat (first | with_reducible exact R2_4 | ((with_reducible refine row_store ?_ ?hh); case hh => omega)))
    (by repeat (first | with_reducible exact R3_4 | ((with_reducible refine row_store ?_ ?hh); case hh => omega)))
    (by repeat (first | with_reducible exact R4_4 | ((with_reducible refine drow_store ?_ ?hh); case hh => omega)))
    P12 P13 P14 P23 P24 P34) (by omega)) (Nat.le_refl _), ?_⟩
  repeat (first | with_reducible exact B4 | with_reducible refine Below.setCell ?_ (by simp; try omega) _)

end Go.Proofs.Ytjlfbmplmddceaa
