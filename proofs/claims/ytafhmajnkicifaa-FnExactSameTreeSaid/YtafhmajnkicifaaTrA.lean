/- Trees in memory, read; two alike compared. -/
import Derived.Test.YtafhmajnkicifaaTrM
import Derived.Test.YtafhmajnkicifaaItB
import Derived.Deep.RegionHeld3
namespace Go.Proofs.Ytafhmajnkicifaa
open Go.RowKit
set_option linter.unusedVariables false
set_option linter.unusedSimpArgs false

def Nd.k : Nd → Int | .mk k _ _ _ => k

def Nd.v : Nd → Int | .mk _ v _ _ => v

def Nd.a : Nd → List Nd | .mk _ _ a _ => a

def Nd.b : Nd → List Nd | .mk _ _ _ b => b

/-- The four cells of a node, from an address on; its parts read as R says. -/
def NdAt (R : Value → List Nd → Prop) (w : World) (a : Addr) (x : Nd) : Prop :=
  w.cell? a = some (.int .i64 x.k) ∧ w.cell? ⟨a.block, a.off + 1, none⟩ = some (.int .i64 x.v) ∧ ∃ A n c B m e, w.cell? ⟨a.block, a.off + 2, none⟩ = some (.slice A n c) ∧ w.cell? ⟨a.block, a.off + 3, none⟩ = some (.slice B m e) ∧ R (.slice A n c) x.a ∧ R (.slice B m e) x.b

/-- A slice of nodes that reads so, at most d levels deep. -/
def Nds : Nat → World → Value → List Nd → Prop
  | 0, _, v, L => L = [] ∧ ∃ A c, v = .slice A 0 c
  | d + 1, w, v, L => L.length ≤ maxLen ∧ ∃ A c, v = .slice A L.length c ∧ (0 < L.length → ∃ ad, A = some ad ∧ ∀ k (h : k < L.length), NdAt (Nds d w) w (ad.add (k * 4)) L[k])

theorem nds_keep (d : Nat) : ∀ {w w' : World} {v : Value} {L : List Nd}, Nds d w v L → (∀ (x : Addr) (u : Value), w.cell? x = some u → w'.cell? x = some u) → Nds d w' v L := by
  induction d with
  | zero => intro w w' v L h _; exact h
  | succ d ih =>
    intro w w' v L h hk
    obtain ⟨h1, A, c, hv, hc⟩ := h
    refine ⟨h1, A, c, hv, fun hp => ?_⟩
    obtain ⟨ad, ha, hc⟩ := hc hp
    refine ⟨ad, ha, fun k hk' => ?_⟩
    obtain ⟨c0, c1, A1, n1, e1, B1, m1, f1, c2, c3, r2, r3⟩ := hc k hk'
    exact ⟨hk _ _ c0, hk _ _ c1, A1, n1, e1, B1, m1, f1, hk _ _ c2, hk _ _ c3, ih r2 hk, ih r3 hk⟩

theorem nds_below {d : Nat} {w w' : World} {v : Value} {L : List Nd} (h : Nds d w v L) (hb : Below w.heap.size w w') : Nds d w' v L := nds_keep d h (cell_keptI hb)

theorem nds_nil (d : Nat) (w : World) (A : Option Addr) (c : Nat) : Nds d w (.slice A 0 c) [] := by
  cases d with
  | zero => exact ⟨rfl, A, c, rfl⟩
  | succ d => exact ⟨Nat.zero_le _, A, c, rfl, fun h => absurd h (by simp)⟩

theorem nds_form {d : Nat} {w : World} {v : Value} {L : List Nd} (h : Nds d w v L) : L.length ≤ maxLen ∧ ∃ A c, v = .slice A L.length c := by
  cases d with
  | zero => obtain ⟨rfl, A, c, rfl⟩ := h; exact ⟨Nat.zero_le _, A, c, rfl⟩
  | succ d => obtain ⟨h1, A, c, hv, _⟩ := h; exact ⟨h1, A, c, hv⟩

/-- Two slices that read as the same tree compare alike. -/
def EqN (d : Nat) : Prop := ∀ (u v : Value) (L : List Nd) (w : World), Nds d w u L → Nds d w v L → Calls Try.prog 16 #[u, v] w fun e w' => e = .returned (.bool true) ∧ Below w.heap.size w w'

set_option maxRecDepth 100000 in
set_option maxHeartbeats 2000000 in
theorem eqNode_same (d : Nat) (ih : EqN d) (k v : Int) (A B C D : Option Addr) (n1 n2 n3 n4 c1 c2 c3 c4 : Nat) (a b : List Nd) (w : World) (h1 : Nds d w (.slice A n1 c1) a) (h2 : Nds d w (.slice B n2 c2) b) (h3 : Nds d w (.slice C n3 c3) a) (h4 : Nds d w (.slice D n4 c4) b) :
    Calls Try.prog 37 #[.agg #[.int .i64 k, .int .i64 v, .slice A n1 c1, .slice B n2 c2], .agg #[.int .i64 k, .int .i64 v, .slice C n3 c3, .slice D n4 c4]] w fun e w' => e = .returned (.bool true) ∧ Below w.heap.size w w' := by
  have B0 : ∀ x y : Obj, Below w.heap.size w ((w.alloc x).alloc y) := fun x y => below_alloc (below_alloc (Below.refl _ _) _) _
  have H1 := Lib.hid h1
  have H2 := Lib.hid h2
  have H3 := Lib.hid h3
  have H4 := Lib.hid h4
  have tk : (k != k) = false := by simp
  have tv : (v != v) = false := by simp
  clear h1 h2 h3 h4
  have X0 := whole_alloc (whole_new w 64 #[.int .i64 k, .int .i64 v, .slice A n1 c1, .slice B n2 c2]) (.cells #[.int .i64 k, .int .i64 v, .slice C n3 c3, .slice D n4 c4] 64)
  have Y0 := whole_new (w.alloc (.cells #[.int .i64 k, .int .i64 v, .slice A n1 c1, .slice B n2 c2] 64)) 64 #[.int .i64 k, .int .i64 v, .slice C n3 c3, .slice D n4 c4]
  rw [show (w.alloc (.cells #[.int .i64 k, .int .i64 v, .slice A n1 c1, .slice B n2 c2] 64)).heap.size = w.heap.size + 1 from Array.size_push ..] at Y0
  have HX := Lib.hid X0
  have HY := Lib.hid Y0
  clear X0 Y0
  go_enter Try.func37, Try.ntmps37
  go_wp2_with fail
  refine (ih _ _ a _ (nds_below H1.out (B0 _ _)) (nds_below H3.out (B0 _ _))).mono ?_
  rintro e w1 ⟨rfl, hb⟩
  have B1 := Lib.hid (below_step (B0 _ _) hb)
  have X1 := whole_below HX.out hb
  have Y1 := whole_below HY.out hb
  have x3 := whole_cell X1 3
  have y3 := whole_cell Y1 3
  simp at x3 y3
  clear hb X1 Y1 HX HY B0
  go_wp2_with fail
  refine (ih _ _ b _ (nds_below H2.out B1.out) (nds_below H4.out B1.out)).mono ?_
  rintro e w2 ⟨rfl, hb⟩
  have B2 := Lib.hid (below_step B1.out hb)
  clear hb
  go_wp2
  go_ret
  exact ⟨rfl, B2.out⟩

set_option maxRecDepth 100000 in
set_option maxHeartbeats 4000000 in
theorem eqN_step (d : Nat) (ih : EqN d) : EqN (d + 1) := by
  intro u v L w hu hv
  have HU := Lib.hid hu
  have HV := Lib.hid hv
  obtain ⟨hl, A, ca, rfl, _⟩ := hu
  obtain ⟨_, B, cb, rfl, _⟩ := hv
  unfold maxLen at hl
  have IH := Lib.hid ih
  clear ih
  have z0 : ((L.length : Int) != (L.length : Int)) = false := by simp
  go_enter Try.func16, Try.ntmps16
  go_wp2
  clear z0
  go_loopw [5] (fun i wr => ∃ k : Nat, k ≤ L.length ∧ i = .int .i64 k ∧ Below w.heap.size w wr) (fun i _ => L.length - (intOf i).toNat)
  case atStart => exact ⟨0, Nat.zero_le _, rfl, Below.refl _ _⟩
  case round =>
    obtain ⟨k, hk, rfl, hb⟩ := hrel
    have HB := Lib.hid hb
    clear hb
    by_cases hlt : k < L.length
    · obtain ⟨_, A', ca', e', hc⟩ := nds_below HU.out HB.out
      simp only [Value.slice.injEq, true_and] at e'
      obtain ⟨rfl, rfl⟩ := e'
      obtain ⟨ga, hA, ha⟩ := hc (by omega)
      subst hA
      obtain ⟨_, B', cb', e', hc'⟩ := nds_below HV.out HB.out
      simp only [Value.slice.injEq, true_and] at e'
      obtain ⟨rfl, rfl⟩ := e'
      obtain ⟨gb, hA, hb⟩ := hc' (by omega)
      subst hA
      obtain ⟨a0, a1, A1, n1, e1, B1, m1, f1, a2, a3, ra, rb⟩ := ha k hlt
      obtain ⟨b0, b1, A2, n2, e2, B2, m2, f2, b2, b3, sa, sb⟩ := hb k hlt
      clear ha hb hc hc'
      generalize L[k] = x at *
      have KA := Lib.hid (And.intro (And.intro a0 (And.intro a1 (And.intro a2 a3))) (And.intro b0 (And.intro b1 (And.intro b2 b3))))
      have RR := Lib.hid (And.intro ra (And.intro rb (And.intro sa sb)))
      clear ra rb sa sb
      go_wp2
      go_region_held3 (fun w' => (w'.cell? (ga.add (k * 4)) = some (.int .i64 x.k) ∧ w'.cell? ⟨(ga.add (k * 4)).block, (ga.add (k * 4)).off + 1, none⟩ = some (.int .i64 x.v) ∧ w'.cell? ⟨(ga.add (k * 4)).block, (ga.add (k * 4)).off + 2, none⟩ = some (.slice A1 n1 e1) ∧ w'.cell? ⟨(ga.add (k * 4)).block, (ga.add (k * 4)).off + 3, none⟩ = some (.slice B1 m1 f1)) ∧ (w'.cell? (gb.add (k * 4)) = some (.int .i64 x.k) ∧ w'.cell? ⟨(gb.add (k * 4)).block, (gb.add (k * 4)).off + 1, none⟩ = some (.int .i64 x.v) ∧ w'.cell? ⟨(gb.add (k * 4)).block, (gb.add (k * 4)).off + 2, none⟩ = some (.slice A2 n2 e2) ∧ w'.cell? ⟨(gb.add (k * 4)).block, (gb.add (k * 4)).off + 3, none⟩ = some (.slice B2 m2 f2))) (first | exact K1 | exact KA.out)
        (first | (go_at_call 37; refine (eqNode_same d IH.out _ _ _ _ _ _ _ _ _ _ _ _ _ _ x.a x.b _ (nds_below RR.out.1 (Below.refl _ _).drew) (nds_below RR.out.2.1 (Below.refl _ _).drew) (nds_below RR.out.2.2.1 (Below.refl _ _).drew) (nds_below RR.out.2.2.2 (Below.refl _ _).drew)).mono ?_; rintro e w1 ⟨rfl, hb1⟩; have K1 := And.intro (And.intro (cell_keptI hb1 _ _ KA.out.1.1) (And.intro (cell_keptI hb1 _ _ KA.out.1.2.1) (And.intro (cell_keptI hb1 _ _ KA.out.1.2.2.1) (cell_keptI hb1 _ _ KA.out.1.2.2.2)))) (And.intro (cell_keptI hb1 _ _ KA.out.2.1) (And.intro (cell_keptI hb1 _ _ KA.out.2.2.1) (And.intro (cell_keptI hb1 _ _ KA.out.2.2.2.1) (cell_keptI hb1 _ _ KA.out.2.2.2.2))))))
      have HB2 := Lib.hid (HB.out.drew.trans (hb1.mono HB.out.drew.size))
      clear hb1 K1 a0 a1 a2 a3 b0 b1 b2 b3
      go_wp2
      go_roundw
      case rel => exact ⟨k + 1, by omega, by go_num, HB2.out⟩
      case measure => simp [intOf]; omega
    · obtain rfl : k = L.length := by omega
      clear hlt
      go_wp2
      go_ret
      exact ⟨rfl, HB.out⟩

set_option maxRecDepth 100000 in
set_option maxHeartbeats 400000 in
theorem eqN_zero : EqN 0 := by
  intro u v L w hu hv
  obtain ⟨rfl, A, ca, rfl⟩ := hu
  obtain ⟨_, B, cb, rfl⟩ := hv
  go_enter Try.func16, Try.ntmps16
  go_wp2
  go_loopw [5] (fun i wr => i = .int .i64 0 ∧ wr = w) (fun i _ => 0)
  case atStart => exact ⟨rfl, rfl⟩
  case round =>
    obtain ⟨rfl, rfl⟩ := hrel
    go_wp2
    go_ret
    exact ⟨rfl, Below.refl _ _⟩

theorem eqNodeS_same (d : Nat) : EqN d := by
  induction d with
  | zero => exact eqN_zero
  | succ d ih => exact eqN_step d ih

end Go.Proofs.Ytafhmajnkicifaa
