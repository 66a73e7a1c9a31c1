/- Trees and items compared. -/
import Derived.Test.YtafhmajnkicifaaTrA
import Derived.Test.YtafhmajnkicifaaOwnA
import Derived.BigQuiet
namespace Go.Proofs.Ytafhmajnkicifaa
open Go.RowKit
set_option linter.unusedVariables false
set_option linter.unusedSimpArgs false

/-- What a comparison leaves. -/
def SamT (P : Prop) (w : World) (e : Ending) (w' : World) : Prop := ∃ t : Bool, e = .returned (.bool t) ∧ (t = true ↔ P) ∧ Below w.heap.size w w'

theorem samT_no {P : Prop} {w w' : World} (h : ¬ P) (hb : Below w.heap.size w w') : SamT P w (.returned (.bool false)) w' := ⟨false, rfl, by simp [h], hb⟩

theorem samT_yes {P : Prop} {w w' : World} (h : P) (hb : Below w.heap.size w w') : SamT P w (.returned (.bool true)) w' := ⟨true, rfl, by simp [h], hb⟩

set_option maxRecDepth 100000 in
set_option maxHeartbeats 2000000 in
theorem slEqualI_any (u v : Value) (P Q : List It) (w : World) (hu : Its w u P) (hv : Its w v Q) :
    Calls Try.prog 35 #[u, v] w (SamT (P = Q) w) := by
  obtain ⟨pm, A, ca, rfl, ha⟩ := hu
  obtain ⟨qm, B, cb, rfl, hb⟩ := hv
  unfold maxLen at pm qm
  by_cases hl : P.length = Q.length
  · have z0 : ((P.length : Int) != (Q.length : Int)) = false := by simp [hl]
    have LE := Lib.hid hl
    have hlq : P.length ≤ Q.length := by omega
    have HA := Lib.hid ha
    have HB := Lib.hid hb
    clear hl ha hb
    go_enter Try.func35, Try.ntmps35
    go_wp2
    clear z0
    go_loopw [5, 13] (fun _ i wr => ∃ k n : Nat, k ≤ P.length ∧ i = .int .i64 k ∧ P.take k = Q.take k ∧ wr = w.drewN n) (fun _ i _ => P.length - (intOf i).toNat)
    case atStart => exact ⟨0, 0, Nat.zero_le _, rfl, by simp, rfl⟩
    case round =>
      obtain ⟨k, n, hk, rfl, hat, rfl⟩ := hrel
      have AT := Lib.hid hat
      clear hat
      by_cases hlt : k < P.length
      · have hlt2 : k < Q.length := by omega
        obtain ⟨ga, rfl, hca2⟩ := HA.out (by omega)
        obtain ⟨gb, rfl, hcb2⟩ := HB.out (by omega)
        have ka := hca2 k hlt
        have kb := hcb2 k hlt2
        clear hca2 hcb2
        by_cases e : P[k] = Q[k]
        · have NX : Hid (P.take (k + 1) = Q.take (k + 1)) := Lib.hid (by rw [List.take_succ_eq_append_getElem hlt, List.take_succ_eq_append_getElem hlt2, AT.out, e])
          rw [← e] at kb
          clear e
          generalize P[k] = x at *
          obtain ⟨a0, a1⟩ := ka
          obtain ⟨b0, b1⟩ := kb
          have t0 : (x.k == x.k) = true := by simp
          have t1 : (x.v == x.v) = true := by simp
          go_wp2
          go_quiet (fail)
          go_wp2
          go_roundw
          case rel => exact ⟨k + 1, _, by omega, by go_num, NX.out, by first | rfl | (rw [World.drewN_drewN])⟩
          case measure => simp [intOf]; omega
        · have NO : Hid (¬ P = Q) := Lib.hid (fun h => e (by subst h; rfl))
          have hne : P[k].k ≠ Q[k].k ∨ (P[k].k = Q[k].k ∧ P[k].v ≠ Q[k].v) := by
            by_cases q : P[k].k = Q[k].k
            · refine .inr ⟨q, fun q2 => e ?_⟩
              cases hx : P[k]; cases hy : Q[k]
              rw [hx, hy] at q q2
              simp at q q2
              rw [q, q2]
            · exact .inl q
          clear e
          generalize P[k] = x at *
          generalize Q[k] = y at *
          obtain ⟨a0, a1⟩ := ka
          obtain ⟨b0, b1⟩ := kb
          rcases hne with q0 | ⟨q0, q1⟩
          · have t0 : (x.k == y.k) = false := by rw [beq_eq_false_iff_ne]; exact q0
            clear q0
            go_wp2
            go_quiet (fail)
            go_wp2
            go_ret
            exact samT_no NO.out (below_draws (below_draws (Below.refl _ _) _) _)
          · have t0 : (x.k == y.k) = true := by rw [beq_iff_eq]; exact q0
            have t1 : (x.v == y.v) = false := by rw [beq_eq_false_iff_ne]; exact q1
            clear q0 q1
            go_wp2
            go_quiet (fail)
            go_wp2
            go_ret
            exact samT_no NO.out (below_draws (below_draws (Below.refl _ _) _) _)
      · obtain rfl : k = P.length := by omega
        have YES : Hid (P = Q) := Lib.hid (by have h := AT.out; rwa [List.take_length, LE.out, List.take_length] at h)
        clear hlt
        go_wp2
        go_ret
        exact samT_yes YES.out (below_draws (Below.refl _ _) _)
  · have z0 : ((P.length : Int) != (Q.length : Int)) = true := by simp; omega
    have NO : Hid (¬ P = Q) := Lib.hid (fun h => hl (by rw [h]))
    clear hl ha hb
    go_enter Try.func35, Try.ntmps35
    go_wp2
    go_ret
    exact samT_no NO.out (Below.refl _ _)

/-- Trees are compared. -/
def SameN (d : Nat) : Prop := ∀ (u v : Value) (L M : List Nd) (w : World), Nds d w u L → Nds d w v M → Calls Try.prog 42 #[u, v] w (SamT (L = M) w)

set_option maxRecDepth 100000 in
set_option maxHeartbeats 2000000 in
theorem same_zero : SameN 0 := by
  intro u v L M w hu hv
  obtain ⟨rfl, A, ca, rfl⟩ := hu
  obtain ⟨rfl, B, cb, rfl⟩ := hv
  go_enter Try.func42, Try.ntmps42
  go_wp2
  go_loopw [5] (fun i wr => i = .int .i64 0 ∧ wr = w) (fun i _ => 0)
  case atStart => exact ⟨rfl, rfl⟩
  case round =>
    obtain ⟨rfl, rfl⟩ := hrel
    go_wp2
    go_ret
    exact samT_yes (by first | trivial | rfl) (Below.refl _ _)

set_option maxRecDepth 100000 in
set_option maxHeartbeats 4000000 in
theorem same1_any (d : Nat) (ih : SameN d) (x y : Nd) (A B C D : Option Addr) (n1 n2 n3 n4 c1 c2 c3 c4 : Nat) (w : World) (h1 : Nds d w (.slice A n1 c1) x.a) (h2 : Nds d w (.slice B n2 c2) x.b) (h3 : Nds d w (.slice C n3 c3) y.a) (h4 : Nds d w (.slice D n4 c4) y.b) :
    Calls Try.prog 57 #[.agg #[.int .i64 x.k, .int .i64 x.v, .slice A n1 c1, .slice B n2 c2], .agg #[.int .i64 y.k, .int .i64 y.v, .slice C n3 c3, .slice D n4 c4]] w (SamT (x = y) w) := by
  have ET : Hid (x = y ↔ x.k = y.k ∧ x.v = y.v ∧ x.a = y.a ∧ x.b = y.b) := Lib.hid (by cases x; cases y; simp [Nd.k, Nd.v, Nd.a, Nd.b])
  have B0 : Hid (Below w.heap.size w ((w.alloc (.cells #[.int .i64 x.k, .int .i64 x.v, .slice A n1 c1, .slice B n2 c2] 64)).alloc (.cells #[.int .i64 y.k, .int .i64 y.v, .slice C n3 c3, .slice D n4 c4] 64))) := Lib.hid (below_alloc (below_alloc (Below.refl _ _) _) _)
  have H1 := Lib.hid h1
  have H2 := Lib.hid h2
  have H3 := Lib.hid h3
  have H4 := Lib.hid h4
  have IH := Lib.hid ih
  have X0 := Lib.hid (whole_alloc (whole_new w 64 #[.int .i64 x.k, .int .i64 x.v, .slice A n1 c1, .slice B n2 c2]) (.cells #[.int .i64 y.k, .int .i64 y.v, .slice C n3 c3, .slice D n4 c4] 64))
  have Y0 : Hid (Whole ((w.alloc (.cells #[.int .i64 x.k, .int .i64 x.v, .slice A n1 c1, .slice B n2 c2] 64)).alloc (.cells #[.int .i64 y.k, .int .i64 y.v, .slice C n3 c3, .slice D n4 c4] 64)) (w.heap.size + 1) 64 #[.int .i64 y.k, .int .i64 y.v, .slice C n3 c3, .slice D n4 c4]) := Lib.hid (by
    have q := whole_new (w.alloc (.cells #[.int .i64 x.k, .int .i64 x.v, .slice A n1 c1, .slice B n2 c2] 64)) 64 #[.int .i64 y.k, .int .i64 y.v, .slice C n3 c3, .slice D n4 c4]
    rwa [show (w.alloc (.cells #[.int .i64 x.k, .int .i64 x.v, .slice A n1 c1, .slice B n2 c2] 64)).heap.size = w.heap.size + 1 by simp] at q)
  clear h1 h2 h3 h4 ih
  by_cases ek : x.k = y.k
  · have t0 : (x.k == y.k) = true := by simp [ek]
    by_cases ev : x.v = y.v
    · have t1 : (x.v == y.v) = true := by simp [ev]
      have EK := Lib.hid ek
      have EV := Lib.hid ev
      clear ek ev
      go_enter Try.func57, Try.ntmps57
      go_wp2_with fail
      refine (IH.out _ _ x.a y.a _ (nds_below H1.out B0.out) (nds_below H3.out B0.out)).mono ?_
      rintro e w1 ⟨t, rfl, ht, hb⟩
      have B1 := Lib.hid (below_step B0.out hb)
      have X1 := whole_below X0.out hb
      have Y1 := whole_below Y0.out hb
      have x3 := whole_cell X1 3
      have y3 := whole_cell Y1 3
      simp at x3 y3
      clear hb X1 Y1
      cases t with
      | false =>
        have NO : Hid (¬ x = y) := Lib.hid (fun h => by have q := ht.2 (ET.out.1 h).2.2.1; cases q)
        clear ht
        go_wp2
        go_ret
        exact samT_no NO.out B1.out
      | true =>
        have EA := Lib.hid (ht.1 rfl)
        clear ht
        go_wp2_with fail
        refine (IH.out _ _ x.b y.b _ (nds_below H2.out B1.out) (nds_below H4.out B1.out)).mono ?_
        rintro e w2 ⟨t, rfl, ht, hb⟩
        have B2 := Lib.hid (below_step B1.out hb)
        have HT := Lib.hid ht
        clear hb ht x3 y3
        go_wp2
        go_ret
        refine ⟨t, by first | rfl | simp, ?_, B2.out⟩
        rw [ET.out, HT.out]
        exact ⟨fun q => ⟨EK.out, EV.out, EA.out, q⟩, fun q => q.2.2.2⟩
    · have t1 : (x.v == y.v) = false := by simp [ev]
      have NO : Hid (¬ x = y) := Lib.hid (fun h => ev (by rw [h]))
      clear ek ev
      go_enter Try.func57, Try.ntmps57
      go_wp2
      go_ret
      exact samT_no NO.out B0.out
  · have t0 : (x.k == y.k) = false := by simp [ek]
    have NO : Hid (¬ x = y) := Lib.hid (fun h => ek (by rw [h]))
    clear ek
    go_enter Try.func57, Try.ntmps57
    go_wp2
    go_ret
    exact samT_no NO.out B0.out

set_option maxRecDepth 100000 in
set_option maxHeartbeats 4000000 in
theorem same_step (d : Nat) (ih : SameN d) : SameN (d + 1) := by
  intro u v L M w hu hv
  have HU := Lib.hid hu
  have HV := Lib.hid hv
  obtain ⟨hl, A, ca, rfl, _⟩ := hu
  obtain ⟨hm, B, cb, rfl, _⟩ := hv
  unfold maxLen at hl hm
  have IH := Lib.hid ih
  clear ih
  by_cases hlen : L.length = M.length
  · have z0 : ((L.length : Int) != (M.length : Int)) = false := by simp [hlen]
    have LE := Lib.hid hlen
    have hle : L.length ≤ M.length := by omega
    clear hlen
    go_enter Try.func42, Try.ntmps42
    go_wp2
    clear z0
    go_loopw [5] (fun i wr => ∃ k : Nat, k ≤ L.length ∧ i = .int .i64 k ∧ L.take k = M.take k ∧ Below w.heap.size w wr) (fun i _ => L.length - (intOf i).toNat)
    case atStart => exact ⟨0, Nat.zero_le _, rfl, by simp, Below.refl _ _⟩
    case round =>
      obtain ⟨k, hk, rfl, hat, hb⟩ := hrel
      have HB := Lib.hid hb
      have AT := Lib.hid hat
      clear hb hat
      by_cases hlt : k < L.length
      · have hlt2 : k < M.length := by omega
        obtain ⟨_, A', ca', e', hc⟩ := nds_below HU.out HB.out
        simp only [Value.slice.injEq, true_and] at e'
        obtain ⟨rfl, rfl⟩ := e'
        obtain ⟨ga, hA, ha⟩ := hc (by omega)
        subst hA
        obtain ⟨_, B', cb', e', hc'⟩ := nds_below HV.out HB.out
        simp only [Value.slice.injEq, true_and] at e'
        obtain ⟨rfl, rfl⟩ := e'
        obtain ⟨gb, hA, hb⟩ := hc' (by omega)
        subst hA
        obtain ⟨a0, a1, A1, n1, e1, B1, m1, f1, a2, a3, ra, rb⟩ := ha k hlt
        obtain ⟨b0, b1, A2, n2, e2, B2, m2, f2, b2, b3, sa, sb⟩ := hb k hlt2
        have NX : Hid (L[k] = M[k] → L.take (k + 1) = M.take (k + 1)) := Lib.hid (fun e => by rw [List.take_succ_eq_append_getElem hlt, List.take_succ_eq_append_getElem hlt2, AT.out, e])
        have NO : Hid (¬ L[k] = M[k] → ¬ L = M) := Lib.hid (fun e h => e (by subst h; rfl))
        clear ha hb hc hc'
        generalize L[k] = x at *
        generalize M[k] = y at *
        have KA := Lib.hid (And.intro (And.intro a0 (And.intro a1 (And.intro a2 a3))) (And.intro b0 (And.intro b1 (And.intro b2 b3))))
        have RR := Lib.hid (And.intro ra (And.intro rb (And.intro sa sb)))
        have ik0 : (0 : Int) ≤ (k : Int) := by omega
        have ik1 : (k : Int) < (L.length : Int) := by omega
        have ik2 : (k : Int) < (M.length : Int) := by omega
        clear ra rb sa sb
        go_wp2
        go_region_held3 (fun w' => (w'.cell? (ga.add (k * 4)) = some (.int .i64 x.k) ∧ w'.cell? ⟨(ga.add (k * 4)).block, (ga.add (k * 4)).off + 1, none⟩ = some (.int .i64 x.v) ∧ w'.cell? ⟨(ga.add (k * 4)).block, (ga.add (k * 4)).off + 2, none⟩ = some (.slice A1 n1 e1) ∧ w'.cell? ⟨(ga.add (k * 4)).block, (ga.add (k * 4)).off + 3, none⟩ = some (.slice B1 m1 f1)) ∧ (w'.cell? (gb.add (k * 4)) = some (.int .i64 y.k) ∧ w'.cell? ⟨(gb.add (k * 4)).block, (gb.add (k * 4)).off + 1, none⟩ = some (.int .i64 y.v) ∧ w'.cell? ⟨(gb.add (k * 4)).block, (gb.add (k * 4)).off + 2, none⟩ = some (.slice A2 n2 e2) ∧ w'.cell? ⟨(gb.add (k * 4)).block, (gb.add (k * 4)).off + 3, none⟩ = some (.slice B2 m2 f2))) (first | exact K1 | exact KA.out)
          (first | (go_at_call 57; refine (same1_any d IH.out x y _ _ _ _ _ _ _ _ _ _ _ _ _ (nds_below RR.out.1 (Below.refl _ _).drew) (nds_below RR.out.2.1 (Below.refl _ _).drew) (nds_below RR.out.2.2.1 (Below.refl _ _).drew) (nds_below RR.out.2.2.2 (Below.refl _ _).drew)).mono ?_; rintro e w1 ⟨t, rfl, ht, hb1⟩; have HT := Lib.hid ht; have K1 := And.intro (And.intro (cell_keptI hb1 _ _ KA.out.1.1) (And.intro (cell_keptI hb1 _ _ KA.out.1.2.1) (And.intro (cell_keptI hb1 _ _ KA.out.1.2.2.1) (cell_keptI hb1 _ _ KA.out.1.2.2.2)))) (And.intro (cell_keptI hb1 _ _ KA.out.2.1) (And.intro (cell_keptI hb1 _ _ KA.out.2.2.1) (And.intro (cell_keptI hb1 _ _ KA.out.2.2.2.1) (cell_keptI hb1 _ _ KA.out.2.2.2.2))))))
        have HB2 := Lib.hid (HB.out.drew.trans (hb1.mono HB.out.drew.size))
        clear hb1 K1 a0 a1 a2 a3 b0 b1 b2 b3 ht
        cases t with
        | true =>
          have NX2 := Lib.hid (NX.out (HT.out.1 rfl))
          clear HT
          go_wp2
          go_roundw
          case rel => exact ⟨k + 1, by omega, by go_num, NX2.out, HB2.out⟩
          case measure => simp [intOf]; omega
        | false =>
          have N2 := Lib.hid (NO.out (fun e => by have q := HT.out.2 e; cases q))
          clear HT
          go_wp2
          go_ret
          exact samT_no N2.out HB2.out
      · obtain rfl : k = L.length := by omega
        have YES : Hid (L = M) := Lib.hid (by have h := AT.out; rwa [List.take_length, LE.out, List.take_length] at h)
        clear hlt
        go_wp2
        go_ret
        exact samT_yes YES.out HB.out
  · have z0 : ((L.length : Int) != (M.length : Int)) = true := by simp; omega
    have NO : Hid (¬ L = M) := Lib.hid (fun h => hlen (by rw [h]))
    clear hlen
    go_enter Try.func42, Try.ntmps42
    go_wp2
    go_ret
    exact samT_no NO.out (Below.refl _ _)

theorem l09Same_any (d : Nat) : SameN d := by
  induction d with
  | zero => exact same_zero
  | succ d ih => exact same_step d ih

end Go.Proofs.Ytafhmajnkicifaa
