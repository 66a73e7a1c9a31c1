/- GrantCap, the given side. -/
import Derived.Test.YthhaimolcgkpaaaHsD
namespace Go.Proofs.Ythhaimolcgkpaaa
open Go.RowKit
set_option linter.unusedVariables false
set_option linter.unusedSimpArgs false

/-- What granting comes to. -/
def hGrant (h : Ht) (c : Int) (yes : Bool) : Ht × Int := if hOK h then if inB c 0 3 then ({ h with g := h.g.set c.toNat yes }, 0) else (noHt, 9) else (noHt, 1)

/-- A host handed back in memory of its own, and a code. -/
def HResOf (w : World) (r : Ht × Int) (e : Ending) (w' : World) : Prop := ∃ u, e = .returned (.tuple #[u, .int .i64 r.2]) ∧ HostOf w' w.heap.size w'.heap.size u r.1 ∧ Below w.heap.size w w'

theorem hres_none {w w' : World} {c : Int} (hb : Below w.heap.size w w') : HResOf w (noHt, c) (.returned (.tuple #[.agg #[.slice none 0 0, .slice none 0 0, .slice none 0 0, .int .i64 0, .slice none 0 0], .int .i64 c])) w' :=
  ⟨_, rfl, hostOf_none _ _ _, hb⟩

set_option maxRecDepth 100000 in
set_option maxHeartbeats 2000000 in
theorem sGrantCap_any (v : Value) (h : Ht) (c : Int) (yes : Bool) (w : World) (hv : HostIn w v h) :
    Calls Try.prog 29 #[v, .int .i64 c, .bool yes] w (HResOf w (hGrant h c yes)) := by
  have HH := Lib.hid hv
  obtain ⟨A1, k1, A2, k2, A3, k3, A4, k4, rfl⟩ := hostIn_form hv
  clear hv
  cases t0 : hOK h
  · have R : Hid (hGrant h c yes = (noHt, 1)) := Lib.hid (by unfold hGrant; rw [t0]; rfl)
    go_enter Try.func29, Try.ntmps29
    go_wp2_with fail
    refine (sHOK_any _ h _ (hostIn_below HH.out (below_alloc (below_alloc (Below.refl _ _) _) _))).mono ?_
    rintro e w1 ⟨rfl, hb⟩
    have B1 : Below w.heap.size w w1 := below_step (below_alloc (below_alloc (Below.refl _ _) _) _) hb
    have T1 := whole_b hb (whole_new1 w _ _ _)
    obtain ⟨r0, r1, r2, r3, r4⟩ := five_cells T1
    have fr := whole_free T1
    have z1 := whole_lt T1
    clear hb
    rw [t0]
    go_wp2
    refine bodyPost_ret (v := .tuple #[.agg #[.slice none 0 0, .slice none 0 0, .slice none 0 0, .int .i64 0, .slice none 0 0], .int .i64 1]) (by simp [results, Try.results29, go_sem, *]) rfl ?_
    rw [R.out]
    refine hres_none ?_
    repeat (first | with_reducible exact B1 | with_reducible refine Below.setCell ?_ (by simp; try omega) _)
  · have hf := hOK_fine t0
    cases t1 : inB c 0 3
    · have R : Hid (hGrant h c yes = (noHt, 9)) := Lib.hid (by unfold hGrant; rw [t0, t1]; rfl)
      go_enter Try.func29, Try.ntmps29
      go_wp2_with fail
      refine (sHOK_any _ h _ (hostIn_below HH.out (below_alloc (below_alloc (Below.refl _ _) _) _))).mono ?_
      rintro e w1 ⟨rfl, hb⟩
      have B1 : Below w.heap.size w w1 := below_step (below_alloc (below_alloc (Below.refl _ _) _) _) hb
      have T1 := whole_b hb (whole_new1 w _ _ _)
      obtain ⟨r0, r1, r2, r3, r4⟩ := five_cells T1
      have fr := whole_free T1
      have z1 := whole_lt T1
      clear hb hf
      rw [t0]
      go_wp2_with (go_at_call 57; refine (sIn_any _ _ _ _).mono ?_; rintro e w' ⟨rfl, rfl⟩)
      refine bodyPost_ret (v := .tuple #[.agg #[.slice none 0 0, .slice none 0 0, .slice none 0 0, .int .i64 0, .slice none 0 0], .int .i64 9]) (by simp [results, Try.results29, go_sem, *]) rfl ?_
      rw [R.out]
      refine hres_none ?_
      repeat (first | with_reducible exact B1 | with_reducible refine Below.setCell ?_ (by simp; try omega) _)
    · obtain ⟨q0, q1⟩ := of_inB t1
      obtain ⟨k, rfl⟩ : ∃ k : Nat, c = k := ⟨c.toNat, by omega⟩
      have R : Hid (hGrant h k yes = ({ h with g := h.g.set k yes }, 0)) := Lib.hid (by unfold hGrant; rw [t0, t1]; rfl)
      have hk : Hid (k < h.g.length) := Lib.hid (by have := fineH_g hf; omega)
      have HS := Lib.hid (fineH_small hf)
      clear q0 q1 hf
      go_enter Try.func29, Try.ntmps29
      go_wp2_with fail
      refine (sHOK_any _ h _ (hostIn_below HH.out (below_alloc (below_alloc (Below.refl _ _) _) _))).mono ?_
      rintro e w1 ⟨rfl, hb⟩
      have B1 : Below w.heap.size w w1 := below_step (below_alloc (below_alloc (Below.refl _ _) _) _) hb
      have V1 := whole_b hb (whole_alloc (whole_new w _ _) _)
      have T1 := whole_b hb (whole_new1 w _ _ _)
      obtain ⟨c0, c1, c2, c3, c4⟩ := five_cells V1
      clear hb
      rw [t0]
      go_wp2_with (first
        | (go_at_call 57; refine (sIn_any _ _ _ _).mono ?_; rintro e w' ⟨rfl, rfl⟩)
        | (go_at_call 77; refine (sHGrant_any _ h k yes _ (hostIn_below HH.out B1) HS.out hk.out).mono ?_; rintro e w2 ⟨u, rfl, hu, hb⟩
           clear c0 c1 c2 c3 c4
           have B2 : Below w.heap.size w w2 := below_step B1 hb
           have T2 := whole_b hb T1
           have HU2 := Lib.hid hu
           obtain ⟨M1, m1, M2, m2, M3, m3, M4, m4, rfl⟩ := hostIn_form (hostOf_in hu)
           obtain ⟨r0, r1, r2, r3, r4⟩ := five_cells T2
           have fr := whole_free T2
           have z1 := whole_lt T1
           have z2 := whole_lt T2
           clear hb hu))
      refine bodyPost_ret (v := .tuple #[.agg #[.slice M1 (h.g.set k yes).length m1, .slice M2 h.s.length m2, .slice M3 h.n.length m3, .int .i64 h.c, .slice M4 h.d.length m4], .int .i64 0]) (by simp [results, Try.results29, go_sem, *]) rfl ?_
      rw [R.out]
      refine ⟨_, rfl, hostOf_top (hi := w2.heap.size) (hostOf_base (lo := w1.heap.size) ?_ (by omega)) (by simp), ?_⟩
      · show HostOf _ _ _ _ { h with g := h.g.set k yes }
        repeat (first | with_reducible exact HU2.out | ((with_reducible refine hostOf_store ?_ ?hh); case hh => omega))
      · repeat (first | with_reducible exact B2 | with_reducible refine Below.setCell ?_ (by simp; try omega) _)

end Go.Proofs.Ythhaimolcgkpaaa
