/- A row of the call's own that may have lost its first cell; a host whose answers are such a row; marks laid in it. -/
import Derived.Test.YtjlfbmplmddceaaOnl
import Derived.Test.YtjlfbmplmddceaaHsK
namespace Go.Proofs.Ytjlfbmplmddceaa
open Go.RowKit
set_option linter.unusedVariables false
set_option linter.unusedSimpArgs false

/-- A row of the call's own, or what is left of one behind its first cell. -/
def TRow (w : World) (base : Nat) (v : Value) (zs : List Int) : Prop :=
  Row w base v zs ∨ (∃ g cap a, v = .slice (some ⟨g, 1, none⟩) zs.length cap ∧ Row w base (.slice (some ⟨g, 0, none⟩) (a :: zs).length (cap + 1)) (a :: zs)) ∨ (zs = [] ∧ ∃ g, v = .slice (some ⟨g, 0, none⟩) 0 0 ∧ base ≤ g ∧ g < w.heap.size)

theorem trow_row {w : World} {base : Nat} {v : Value} {zs : List Int} (h : Row w base v zs) : TRow w base v zs := .inl h

theorem trow_lt {w : World} {base : Nat} {v : Value} {zs : List Int} (h : TRow w base v zs) : ∀ g, v.ownBlock = some g → base ≤ g ∧ g < w.heap.size := by
  rcases h with h | ⟨g, cap, a, rfl, h⟩ | ⟨rfl, g, rfl, h1, h2⟩
  · exact row_lt h
  · intro k hk
    exact row_lt h k (by simpa [Value.ownBlock] using hk)
  · intro k hk
    have : g = k := by simpa [Value.ownBlock] using hk
    subst this
    exact ⟨h1, h2⟩

theorem trow_keep {w w' : World} {base : Nat} {v : Value} {zs : List Int} (h : TRow w base v zs) (hs : w.heap.size ≤ w'.heap.size) (hk : ∀ g, v.ownBlock = some g → w'.heap[g]? = w.heap[g]?) : TRow w' base v zs := by
  rcases h with h | ⟨g, cap, a, rfl, h⟩ | ⟨rfl, g, rfl, h1, h2⟩
  · exact .inl (row_keep h hk)
  · exact .inr (.inl ⟨g, cap, a, rfl, row_keep h fun k hq => hk k (by simpa [Value.ownBlock] using hq)⟩)
  · exact .inr (.inr ⟨rfl, g, rfl, h1, by omega⟩)

theorem trow_base {w : World} {base base' : Nat} {v : Value} {zs : List Int} (h : TRow w base v zs) (hb : base' ≤ base) : TRow w base' v zs := by
  rcases h with h | ⟨g, cap, a, rfl, h⟩ | ⟨rfl, g, rfl, h1, h2⟩
  · exact .inl (row_base h hb)
  · exact .inr (.inl ⟨g, cap, a, rfl, row_base h hb⟩)
  · exact .inr (.inr ⟨rfl, g, rfl, by omega, h2⟩)

theorem ints_tail1 {w : World} {g cap : Nat} {a : Int} {zs : List Int} (h : Ints w (.slice (some ⟨g, 0, none⟩) (a :: zs).length (cap + 1)) (a :: zs)) : Ints w (.slice (some ⟨g, 1, none⟩) zs.length cap) zs :=
  ints_tail (ad := ⟨g, 0, none⟩) (p := cap) rfl h

theorem trow_ints {w : World} {base : Nat} {v : Value} {zs : List Int} (h : TRow w base v zs) : Ints w v zs := by
  rcases h with h | ⟨g, cap, a, rfl, h⟩ | ⟨rfl, g, rfl, h1, h2⟩
  · exact row_ints h
  · exact ints_tail1 (row_ints h)
  · exact ⟨Nat.zero_le _, _, _, rfl, fun h => absurd h (by simp)⟩

/-- What laying marks leaves. -/
def MarkTOf (w : World) (base : Nat) (v : Value) (n K : Nat) (e : Ending) (w' : World) : Prop := e = .returned (.int .i64 ((K : Int) + n)) ∧ TRow w' base v (marksI K n) ∧ w.grownBy w' v.ownBlock

set_option maxRecDepth 100000 in
set_option maxHeartbeats 1000000 in
theorem markTail_any (g cap base K : Nat) (a : Int) (Q : List Int) (w : World) (h : Row w base (.slice (some ⟨g, 0, none⟩) (a :: Q).length (cap + 1)) (a :: Q)) (hQ : Q.length ≤ 1099511627776) (hK : K ≤ 1099511627776) :
    Calls Try.prog 59 #[.slice (some ⟨g, 1, none⟩) Q.length cap, .int .i64 K] w (MarkTOf w base (.slice (some ⟨g, 1, none⟩) Q.length cap) Q.length K) := by
  have H := Lib.hid h
  clear h
  go_enter Try.func59, Try.ntmps59
  go_wp2
  go_loopw [5, 1] (fun i m wr => ∃ k : Nat, k ≤ Q.length ∧ i = .int .i64 k ∧ m = .int .i64 ((K : Int) + k) ∧ Row wr base (.slice (some ⟨g, 0, none⟩) (Q.length + 1) (cap + 1)) (a :: markToI K k Q) ∧ w.grownBy wr (some g)) (fun i _ _ => Q.length - (intOf i).toNat)
  case atStart => exact ⟨0, Nat.zero_le _, rfl, by simp, by rw [markToI_zero]; exact H.out, World.grownBy.refl w _⟩
  case round =>
    obtain ⟨k, hk, rfl, rfl, hr, hg⟩ := hrel
    have HG := Lib.hid hg
    have HR := Lib.hid hr
    clear hg hr
    by_cases hlt : k < Q.length
    · have pl := markToI_len (K := K) (Nat.le_of_lt hlt)
      have HR' : Row wr base (.slice (some ⟨g, 0, none⟩) (a :: markToI K k Q).length (cap + 1)) (a :: markToI K k Q) := by rw [List.length_cons, pl]; exact HR.out
      obtain ⟨old, ko⟩ : ∃ old : Int, wr.cell? ⟨g, k + 1, none⟩ = some (.int .i64 old) := ⟨_, row_cell HR' (k + 1) (by rw [List.length_cons]; omega)⟩
      have kf := row_free HR' (k + 1)
      have ST := row_set HR' (k + 1) ((K + k : Nat) : Int)
      rw [List.set_cons_succ, markToI_next hlt, List.length_cons, pl, show (((K + k : Nat) : Int)) = (K : Int) + k by omega] at ST
      have ek : 1 + k = k + 1 := by omega
      have SR : Hid (Row (wr.setCell ⟨g, 1 + k, none⟩ (.int .i64 ((K : Int) + k))) base (.slice (some ⟨g, 0, none⟩) (Q.length + 1) (cap + 1)) (a :: markToI K (k + 1) Q)) := Lib.hid (by rw [ek]; exact ST.1)
      have SG : Hid (w.grownBy (wr.setCell ⟨g, 1 + k, none⟩ (.int .i64 ((K : Int) + k))) (some g)) := Lib.hid (by rw [ek]; exact gb_comp HG.out ST.2)
      rw [← ek] at ko kf
      clear ST HR' ek
      go_wp2
      go_roundw
      case rel => exact ⟨k + 1, by omega, by go_num, by go_num, SR.out, SG.out⟩
      case measure => simp [intOf]; omega
    · obtain rfl : k = Q.length := by omega
      rw [markToI_end] at HR
      go_wp2
      go_ret
      have ml := marksI_len K Q.length
      exact ⟨rfl, .inr (.inl ⟨g, cap, a, by rw [ml], by rw [List.length_cons, ml]; exact HR.out⟩), HG.out⟩

set_option maxRecDepth 100000 in
set_option maxHeartbeats 1000000 in
theorem markT_any (v : Value) (base K : Nat) (Q : List Int) (w : World) (h : TRow w base v Q) (hQ : Q.length ≤ 1099511627776) (hK : K ≤ 1099511627776) :
    Calls Try.prog 59 #[v, .int .i64 K] w (MarkTOf w base v Q.length K) := by
  rcases h with h | ⟨g, cap, a, rfl, h⟩ | ⟨rfl, g, rfl, h1, h2⟩
  · exact (markInts_any v base K Q w h hQ hK).mono fun e w' ⟨h1, h2, h3⟩ => ⟨h1, .inl h2, h3⟩
  · exact markTail_any g cap base K a Q w h hQ hK
  · go_enter Try.func59, Try.ntmps59
    go_wp2
    go_loopw [5, 1] (fun i m wr => i = .int .i64 0 ∧ m = .int .i64 K ∧ wr = w) (fun _ _ _ => 0)
    case atStart => exact ⟨rfl, rfl, rfl⟩
    case round =>
      obtain ⟨rfl, rfl, rfl⟩ := hrel
      go_wp2
      go_ret
      exact ⟨by simp, .inr (.inr ⟨rfl, g, rfl, h1, h2⟩), World.grownBy.refl _ _⟩

/-- The value is this host, its rows in blocks of their own from lo on; of the answers' row the first cell may be gone. -/
def HostT (w : World) (lo : Nat) (v : Value) (h : Ht) : Prop :=
  ∃ x y z q, v = .agg #[x, y, z, .int .i64 h.c, q] ∧ BoRow w lo x h.g ∧ Row w lo y h.s ∧ TRow w lo z h.n ∧ DRow w lo q h.d ∧ Parted x y ∧ Parted x z ∧ Parted x q ∧ Parted y z ∧ Parted y q ∧ Parted z q

theorem hostT_of {w : World} {lo hi : Nat} {v : Value} {h : Ht} (H : HostOf w lo hi v h) : HostT w lo v h := by
  obtain ⟨x, y, z, q, e, h1, h2, h3, h4, p1, p2, p3, p4, p5, p6, _⟩ := H
  exact ⟨x, y, z, q, e, h1, h2, .inl h3, h4, p1, p2, p3, p4, p5, p6⟩

theorem hostT_in {w : World} {lo : Nat} {v : Value} {h : Ht} (H : HostT w lo v h) : HostIn w v h := by
  obtain ⟨x, y, z, q, e, h1, h2, h3, h4, _⟩ := H
  exact ⟨x, y, z, q, e, borow_bols h1, row_ints h2, trow_ints h3, drow_dds h4⟩

theorem hostT_keep {w w' : World} {lo : Nat} {v : Value} {h : Ht} (H : HostT w lo v h) (hs : w.heap.size ≤ w'.heap.size) (hk : ∀ g, Mine v g → w'.heap[g]? = w.heap[g]?) : HostT w' lo v h := by
  obtain ⟨x, y, z, q, rfl, h1, h2, h3, h4, p⟩ := H
  have hm : ∀ u ∈ [x, y, z, .int .i64 h.c, q], ∀ g, u.ownBlock = some g → w'.heap[g]? = w.heap[g]? := fun u hu g e => hk g (mine_agg.2 ⟨u, hu, e⟩)
  exact ⟨x, y, z, q, rfl, borow_keep h1 (hm x (by simp)), row_keep h2 (hm y (by simp)), trow_keep h3 hs (hm z (by simp)), drow_keep h4 (hm q (by simp)), p⟩

theorem hostT_mine {w : World} {lo : Nat} {v : Value} {h : Ht} (H : HostT w lo v h) {g : Nat} (hg : Mine v g) : lo ≤ g ∧ g < w.heap.size := by
  obtain ⟨x, y, z, q, rfl, h1, h2, h3, h4, _⟩ := H
  obtain ⟨u, hu, e⟩ := mine_agg.1 hg
  simp only [List.mem_cons, List.not_mem_nil, or_false] at hu
  rcases hu with rfl | rfl | rfl | rfl | rfl
  · exact borow_lt h1 g e
  · exact row_lt h2 g e
  · exact trow_lt h3 g e
  · simp [Value.ownBlock] at e
  · exact drow_lt h4 g e

theorem hostT_below {w w' : World} {lo : Nat} {v : Value} {h : Ht} (H : HostT w lo v h) (hb : Below w.heap.size w w') : HostT w' lo v h := hostT_keep H hb.size fun g hg => hb.block g (hostT_mine H hg).2

theorem hostT_only {S : Nat → Prop} {w w' : World} {lo : Nat} {v : Value} {h : Ht} (H : HostT w lo v h) (hb : Only S w w') (hs : ∀ g, Mine v g → ¬ S g) : HostT w' lo v h := hostT_keep H hb.size fun g hg => hb.block g (hostT_mine H hg).2 (hs g hg)

theorem hostT_base {w : World} {lo lo' : Nat} {v : Value} {h : Ht} (H : HostT w lo v h) (hl : lo' ≤ lo) : HostT w lo' v h := by
  obtain ⟨x, y, z, q, e, h1, h2, h3, h4, p⟩ := H
  exact ⟨x, y, z, q, e, borow_base h1 hl, row_base h2 hl, trow_base h3 hl, drow_base h4 hl, p⟩

theorem hostT_store {w : World} {lo g i : Nat} {v u : Value} {h : Ht} (H : HostT w lo v h) (hg : ∀ k, Mine v k → k ≠ g) : HostT (w.setCell ⟨g, i, none⟩ u) lo v h :=
  hostT_keep H (by simp [World.setCell]) fun k hk => Below.heap_setCell w _ u k (hg k hk)

theorem trow_mark {w w' : World} {lo : Nat} {v u : Value} {zs : List Int} (h : TRow w lo v zs) (hg : w.grownBy w' u.ownBlock) (hp : Parted v u) : TRow w' lo v zs :=
  trow_keep h hg.size fun g hv => hg.block g (trow_lt h g hv).2 (fun e => hp g hv e.symm)

theorem trow_alloc {w : World} {base : Nat} {v : Value} {zs : List Int} (h : TRow w base v zs) (o : Obj) : TRow (w.alloc o) base v zs := trow_keep h (by simp) fun g hg => Below.heap_alloc w o g (trow_lt h g hg).2

set_option maxRecDepth 100000 in
set_option maxHeartbeats 4000000 in
theorem markHostT_any (v : Value) (h : Ht) (lo K : Nat) (w : World) (hv : HostT w lo v h) (hs : SmallH h) (hK : K ≤ 8388608) :
    Calls Try.prog 14 #[v, .int .i64 K] w fun e w' => e = .returned (.int .i64 ((K + numH h : Nat) : Int)) ∧ HostT w' lo v (markH K h) ∧ Only (Mine v) w w' := by
  obtain ⟨x, y, z, q, rfl, hx, hy, hz, hq, p1, p2, p3, p4, p5, p6⟩ := hv
  obtain ⟨s1, s2, s3, s4⟩ := hs
  have GX : Hid (∀ g, x.ownBlock = some g → lo ≤ g ∧ g < w.heap.size) := Lib.hid (borow_lt hx)
  have GY : Hid (∀ g, y.ownBlock = some g → lo ≤ g ∧ g < w.heap.size) := Lib.hid (row_lt hy)
  have GZ : Hid (∀ g, z.ownBlock = some g → lo ≤ g ∧ g < w.heap.size) := Lib.hid (trow_lt hz)
  have GQ : Hid (∀ g, q.ownBlock = some g → lo ≤ g ∧ g < w.heap.size) := Lib.hid (drow_lt hq)
  have P1 := Lib.hid p1
  have P2 := Lib.hid p2
  have P3 := Lib.hid p3
  have P4 := Lib.hid p4
  have P5 := Lib.hid p5
  have P6 := Lib.hid p6
  have MX := Lib.hid (fun g (e : x.ownBlock = some g) => (mine_agg (l := [x, y, z, .int .i64 h.c, q])).2 ⟨x, by simp, e⟩)
  have MY := Lib.hid (fun g (e : y.ownBlock = some g) => (mine_agg (l := [x, y, z, .int .i64 h.c, q])).2 ⟨y, by simp, e⟩)
  have MZ := Lib.hid (fun g (e : z.ownBlock = some g) => (mine_agg (l := [x, y, z, .int .i64 h.c, q])).2 ⟨z, by simp, e⟩)
  have MQ := Lib.hid (fun g (e : q.ownBlock = some g) => (mine_agg (l := [x, y, z, .int .i64 h.c, q])).2 ⟨q, by simp, e⟩)
  generalize hS : Mine (.agg [x, y, z, .int .i64 h.c, q].toArray) = S at MX MY MZ MQ
  have HS := Lib.hid hS
  have W0 : Hid (∀ o : Obj, Only S w (w.alloc o)) := Lib.hid fun o => below_only (below_alloc (Below.refl _ _) o)
  clear hS
  obtain ⟨_, A1, k1, rfl, _⟩ := borow_bols hx
  obtain ⟨_, A2, k2, rfl, _⟩ := row_ints hy
  obtain ⟨_, A3, k3, rfl, _⟩ := trow_ints hz
  obtain ⟨_, A4, k4, rfl, _⟩ := drow_dds hq
  have HX := Lib.hid hx
  have HY := Lib.hid hy
  have HZ := Lib.hid hz
  have HQ := Lib.hid hq
  clear hx hy hz hq p1 p2 p3 p4 p5 p6
  go_enter Try.func14, Try.ntmps14
  go_wp2_with fail
  have WB0 := Lib.hid (whole_new w 33 #[.slice A1 h.g.length k1, .slice A2 h.s.length k2, .slice A3 h.n.length k3, .int .i64 h.c, .slice A4 h.d.length k4])
  refine (markBools_any _ lo (K) h.g _ (borow_alloc HX.out _) (by omega) (by omega)).mono ?_
  rintro e w1 ⟨rfl, hr1, hg1⟩
  have hne : some w.heap.size ≠ (Value.slice A1 h.g.length k1).ownBlock := fun e => by have := GX.out _ e.symm; omega
  have WB1 := Lib.hid (whole_keep WB0.out (hg1.block _ (by simp) hne))
  have N1 := Lib.hid (only_trans (W0.out _) (only_grown hg1 MX.out))
  have X1 := Lib.hid hr1
  have Y1 := Lib.hid (row_mark (row_alloc HY.out _) hg1 (parted_sym P1.out))
  have Z1 := Lib.hid (trow_mark (trow_alloc HZ.out _) hg1 (parted_sym P2.out))
  have Q1 := Lib.hid (drow_mark (drow_alloc HQ.out _) hg1 (parted_sym P3.out))
  have b1 := whole_cell WB1.out 1
  simp at b1
  clear hr1 hg1 hne
  go_wp2_with fail
  rw [show ((K : Int) + h.g.length) = ((K + h.g.length : Nat) : Int) by omega]
  refine (markInts_any _ lo (K + h.g.length) h.s _ Y1.out (by omega) (by omega)).mono ?_
  rintro e w2 ⟨rfl, hr2, hg2⟩
  have hne : some w.heap.size ≠ (Value.slice A2 h.s.length k2).ownBlock := fun e => by have := GY.out _ e.symm; omega
  have WB2 := Lib.hid (whole_keep WB1.out (hg2.block _ (whole_lt WB1.out) hne))
  have N2 := Lib.hid (only_trans N1.out (only_grown hg2 MY.out))
  have Y2 := Lib.hid hr2
  have X2 := Lib.hid (borow_keep X1.out fun g hv => hg2.block g (borow_lt X1.out g hv).2 (fun e => P1.out g hv e.symm))
  have Z2 := Lib.hid (trow_mark Z1.out hg2 (parted_sym P4.out))
  have Q2 := Lib.hid (drow_mark Q1.out hg2 (parted_sym P5.out))
  have b2 := whole_cell WB2.out 2
  simp at b2
  clear hr2 hg2 hne b1
  go_wp2_with fail
  rw [show ((K : Int) + h.g.length + h.s.length) = ((K + h.g.length + h.s.length : Nat) : Int) by omega]
  refine (markT_any _ lo (K + h.g.length + h.s.length) h.n _ Z2.out (by omega) (by omega)).mono ?_
  rintro e w3 ⟨rfl, hr3, hg3⟩
  have hne : some w.heap.size ≠ (Value.slice A3 h.n.length k3).ownBlock := fun e => by have := GZ.out _ e.symm; omega
  have WB3 := Lib.hid (whole_keep WB2.out (hg3.block _ (whole_lt WB2.out) hne))
  have N3 := Lib.hid (only_trans N2.out (only_grown hg3 MZ.out))
  have Z3 := Lib.hid hr3
  have X3 := Lib.hid (borow_keep X2.out fun g hv => hg3.block g (borow_lt X2.out g hv).2 (fun e => P2.out g hv e.symm))
  have Y3 := Lib.hid (row_keep Y2.out fun g hv => hg3.block g (row_lt Y2.out g hv).2 (fun e => P4.out g hv e.symm))
  have Q3 := Lib.hid (drow_mark Q2.out hg3 (parted_sym P6.out))
  have b3 := whole_cell WB3.out 4
  simp at b3
  clear hr3 hg3 hne b2
  go_wp2_with fail
  rw [show ((K : Int) + h.g.length + h.s.length + h.n.length) = ((K + h.g.length + h.s.length + h.n.length : Nat) : Int) by omega]
  refine (markDeeds_any _ lo (K + h.g.length + h.s.length + h.n.length) h.d _ Q3.out (by omega) (by omega)).mono ?_
  rintro e w4 ⟨rfl, hr4, hg4⟩
  have hne : some w.heap.size ≠ (Value.slice A4 h.d.length k4).ownBlock := fun e => by have := GQ.out _ e.symm; omega
  have WB4 := Lib.hid (whole_keep WB3.out (hg4.block _ (whole_lt WB3.out) hne))
  have N4 := Lib.hid (only_trans N3.out (only_grown hg4 MQ.out))
  have Q4 := Lib.hid hr4
  have X4 := Lib.hid (borow_keep X3.out fun g hv => hg4.block g (borow_lt X3.out g hv).2 (fun e => P3.out g hv e.symm))
  have Y4 := Lib.hid (row_keep Y3.out fun g hv => hg4.block g (row_lt Y3.out g hv).2 (fun e => P5.out g hv e.symm))
  have Z4 := Lib.hid (trow_keep Z3.out hg4.size fun g hv => hg4.block g (trow_lt Z3.out g hv).2 (fun e => P6.out g hv e.symm))
  clear hr4 hg4 hne b3
  go_wp2
  go_ret
  exact ⟨ret_int (by unfold numH; omega), ⟨_, _, _, _, by simp [markH, marksB_len, marksI_len, marksD_len], X4.out, Y4.out, Z4.out, Q4.out, P1.out, P2.out, P3.out, P4.out, P5.out, P6.out⟩, N4.out⟩

end Go.Proofs.Ytjlfbmplmddceaa
