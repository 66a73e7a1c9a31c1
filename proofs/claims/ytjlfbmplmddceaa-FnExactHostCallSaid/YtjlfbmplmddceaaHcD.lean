/- impl's serve: the service is called; a throw; the cell left. -/
import Derived.Test.YtjlfbmplmddceaaHcC
import Derived.Shelf.Abstract
namespace Go.Proofs.Ytjlfbmplmddceaa
open Go.RowKit
set_option linter.unusedVariables false
set_option linter.unusedSimpArgs false

/-- The function value is a function that is entered. -/
def EnteredF (f : FuncId) : Prop := ∀ (args : Array Value) (w : World), (callFunc f args).run Try.prog w = .ok (.enter f args) w

/-- A value that shows these cells. -/
def TkAt (W : World) (tv : Value) (xs : List Int) : Prop := xs = [] ∨ ∃ gt mt kc, tv = .slice (some ⟨gt, mt, none⟩) xs.length kc ∧ gt < W.heap.size ∧ ∀ k (hk : k < xs.length), W.cell? ⟨gt, mt + k, none⟩ = some (.int .i64 xs[k])

theorem pair_up {w w' : World} {lo G E N : Nat} {vh vd : Value} {h : Ht} {d : Dt} (p : Pair w lo G E vh vd h d) (hN : ∀ k, (k = G ∨ Mine vh k) ∨ (k = E ∨ Mine vd k) → k < N) (hb : Below N w w') (hs : w.heap.size ≤ w'.heap.size) : Pair w' lo G E vh vd h d := by
  obtain ⟨⟨⟨x1, y1, z1, q1, e1, hw1⟩, ht, hm⟩, ⟨x, y, z, e, hw⟩, p3, p4, p5, p6, p7⟩ := p
  refine ⟨⟨⟨x1, y1, z1, q1, e1, whole_keep hw1 (hb.block G (hN G (.inl (.inl rfl))))⟩, hostT_keep ht hs (fun k hk => hb.block k (hN k (.inl (.inr hk)))), hm⟩, ⟨x, y, z, e, whole_keep hw (hb.block E (hN E (.inr (.inl rfl))))⟩, ?_, p4, p5, p6, p7⟩
  refine datOf_top (datOf_only (S := fun k => ¬ k < N) p3 ⟨hb.os, hb.tape, hb.output, hs, fun k _ q => hb.block k (Classical.not_not.1 q)⟩ (fun g hg q => q (hN g (.inr (.inr hg))))) hs

/-- All blocks of a pair lie below the world's end. -/
theorem pair_end {w : World} {lo G E : Nat} {vh vd : Value} {h : Ht} {d : Dt} (p : Pair w lo G E vh vd h d) : ∀ k, (k = G ∨ Mine vh k) ∨ (k = E ∨ Mine vd k) → k < w.heap.size := by
  obtain ⟨⟨⟨x1, y1, z1, q1, e1, hw1⟩, ht, hm⟩, ⟨x, y, z, e, hw⟩, p3, p4, p5, p6, p7⟩ := p
  rintro k ((rfl | hk) | (rfl | hk))
  · exact whole_lt hw1
  · exact (hostT_mine ht hk).2
  · exact whole_lt hw
  · exact (datOf_mine p3 hk).2

/-- The pair behind a service. -/
theorem pair_svc {w W w2 : World} {lo G E : Nat} {vh vd : Value} {h h' : Ht} {d : Dt} {x : Dd} {th : Int} {e : Ending} (p : Pair w lo G E vh vd h d) (hb : Below w.heap.size w W) (hs : SvcOf W lo G vh (h', x, th) e w2) : ∃ v', Pair w2 lo G E v' vd h' d ∧ (∀ k, (k = G ∨ Mine v' k) ∨ (k = E ∨ Mine vd k) → k < w.heap.size) ∧ Below lo w w2 ∧ ∀ k T cs, w.heap.size ≤ k → Whole W k T cs → Whole w2 k T cs := by
  obtain ⟨_, ⟨v', hx, hm⟩, ho⟩ := hs
  have pW := pair_below p hb
  have hend := pair_end p
  refine ⟨v', pair_only pW ho hx hm, fun k hk => hend k ?_, (hb.mono (lo_le p)).trans (only_below ho (Nat.le_trans (lo_le p) hb.size) (pair_lo pW)), fun k T cs h1 h2 => whole_keep h2 (ho.block k (whole_lt h2) (fun q => by have := hend k (.inl q); omega))⟩
  rcases hk with (hk | hk) | hk
  · exact .inl (.inl hk)
  · exact .inl (.inr (hm k hk))
  · exact .inr hk

theorem whole_drewQ {w : World} {g : Nat} {t : TypeId} {cs : Array Value} (h : Whole w g t cs) : Whole w.drew g t cs := h

theorem deed_cells {w : World} {g : Nat} {T : TypeId} {a b c d : Value} (h : Whole w g T #[a, b, c, d]) : w.cell? ⟨g, 0, none⟩ = some a ∧ w.cell? ⟨g, 1, none⟩ = some b ∧ w.cell? ⟨g, 2, none⟩ = some c ∧ w.cell? ⟨g, 3, none⟩ = some d := ⟨whole_cell h 0, whole_cell h 1, whole_cell h 2, whole_cell h 3⟩

theorem cell_old {w : World} {p : Addr} {u : Value} (h : w.cell? p = some u) (o : Obj) : (w.alloc o).cell? p = some u := by
  rw [(below_alloc (Below.refl w.heap.size w) o).cell (World.block_lt_of_cell? w _ h)]; exact h

theorem cell_drewQ {w : World} {p : Addr} {u : Value} (h : w.cell? p = some u) : w.drew.cell? p = some u := h

theorem cell_drewNQ {w : World} {p : Addr} {u : Value} (h : w.cell? p = some u) (n : Nat) : (w.drewN n).cell? p = some u := h

theorem cell_set {w : World} {g i k j : Nat} {u : Value} (h : w.cell? ⟨g, i, none⟩ = some u) (hk : g ≠ k) (v : Value) : (w.setCell ⟨k, j, none⟩ v).cell? ⟨g, i, none⟩ = some u := by
  rw [World.cell?_setCell_other _ _ _ _ (by intro e; injection e; omega)]; exact h

theorem below_new {lo : Nat} {a b : World} (h : Below lo a b) (hl : lo ≤ a.heap.size) (o : Obj) : Below lo a (b.alloc o) := h.trans ((below_alloc (Below.refl b.heap.size b) o).mono (Nat.le_trans hl h.size))

theorem below_put {lo k i : Nat} {a b : World} (h : Below lo a b) (hk : lo ≤ k) (u : Value) : Below lo a (b.setCell ⟨k, i, none⟩ u) := h.setCell hk u

theorem data_first {w : World} {lo G E : Nat} {vh x y z a b c : Value} {h : Ht} {d : Dt} (p : Pair w lo G E vh (.agg #[x, y, z, a, b, c]) h d) : w.cell? ⟨E, 0, none⟩ = some x := by
  obtain ⟨x', y', z', e, hw⟩ := p.box
  simp only [Value.agg.injEq, Array.mk.injEq, List.cons.injEq, and_true] at e
  obtain ⟨rfl, rfl, rfl, rfl, rfl, rfl⟩ := e
  exact whole_cell hw 0

theorem serve_end {w w2 w3 : World} {lo G E : Nat} {vh vd v' : Value} {h h' : Ht} {d d0 : Dt} (x : Dd) (t : Int) (p : Pair w lo G E vh vd h d0) (pp : Pair w2 lo G E v' vd h' d) (pe : ∀ k, (k = G ∨ Mine v' k) ∨ (k = E ∨ Mine vd k) → k < w.heap.size) (pb : Below lo w w2) (hb : Below w.heap.size w2 w3) :
    ServeOf w lo G E (h', d, x, t) (.returned (.tuple #[.agg #[.int .i64 x.p, .int .i64 x.a, .int .i64 x.b, .int .i64 x.r], .int .i64 t])) w3 := ⟨rfl, ⟨v', vd, pair_up pp pe hb hb.size⟩, pb.trans (hb.mono (lo_le p))⟩

theorem ints_left {W : World} {g l : Nat} {n : Int} (h : Whole W g 3 #[.int .i64 n]) (hl : l ≤ 1) : Ints W (.slice (some ⟨g, 0, none⟩) l 1) ([n].take l) := by
  rcases (by omega : l = 0 ∨ l = 1) with rfl | rfl
  · exact ⟨Nat.zero_le _, _, _, rfl, fun h => absurd h (Nat.lt_irrefl 0)⟩
  · refine ⟨by simp [maxLen], _, _, rfl, fun _ => ⟨_, rfl, fun k hk => ?_⟩⟩
    have hk0 : k = 0 := by simpa using hk
    subst hk0
    exact whole_cell h 0

theorem whole_new4 (w : World) (p0 p1 p2 p3 : Addr) (u0 u1 u2 u3 : Value) (t : TypeId) (cs : Array Value) : Whole (((((w.setCell p0 u0).setCell p1 u1).setCell p2 u2).setCell p3 u3).alloc (.cells cs t)) w.heap.size t cs := by
  have h := whole_new ((((w.setCell p0 u0).setCell p1 u1).setCell p2 u2).setCell p3 u3) t cs
  simpa [World.setCell] using h

theorem pair_box {w : World} {lo G E : Nat} {vh x y z a b c : Value} {h : Ht} {d : Dt} (p : Pair w lo G E vh (.agg #[x, y, z, a, b, c]) h d) : Whole w E 34 #[x, y, z, a, b, c] := by
  obtain ⟨x', y', z', e, hw⟩ := p.box
  simp only [Value.agg.injEq, Array.mk.injEq, List.cons.injEq, and_true] at e
  obtain ⟨rfl, rfl, rfl, rfl, rfl, rfl⟩ := e
  exact hw

theorem pair_row {w : World} {lo G E n c k : Nat} {A : Option Addr} {vh y z a b e : Value} {h : Ht} {d : Dt} (p : Pair w lo G E vh (.agg #[.slice A n c, y, z, a, b, e]) h d) (hk : k ≤ d.s.length) : Row w lo (.slice A k c) (d.s.take k) ∧ Row w lo (.slice A n c) d.s := by
  obtain ⟨x', y', z', e', h1, _⟩ := p.data
  simp only [Value.agg.injEq, Array.mk.injEq, List.cons.injEq, and_true] at e'
  obtain ⟨rfl, rfl, rfl, rfl, rfl, rfl⟩ := e'
  exact ⟨row_upto h1 hk, h1⟩

theorem pair_put {w : World} {lo G E r i : Nat} {vh vd : Value} {h : Ht} {d : Dt} (p : Pair w lo G E vh vd h d) (hr : ∀ k, (k = G ∨ Mine vh k) ∨ (k = E ∨ Mine vd k) → k ≠ r) (u : Value) : Pair (w.setCell ⟨r, i, none⟩ u) lo G E vh vd h d := by
  obtain ⟨⟨⟨x1, y1, z1, q1, e1, hw1⟩, ht, hm⟩, ⟨x, y, z, e, hw⟩, p3, p4, p5, p6, p7⟩ := p
  refine ⟨⟨⟨x1, y1, z1, q1, e1, whole_store hw1 (hr G (.inl (.inl rfl)))⟩, hostT_store ht (fun k hk => hr k (.inl (.inr hk))), hm⟩, ⟨x, y, z, e, whole_store hw (hr E (.inr (.inl rfl)))⟩, ?_, p4, p5, p6, p7⟩
  exact datOf_top (datOf_only (S := fun k => k = r) p3 (only_set (S := fun k => k = r) (only_refl _ w) (.inl rfl) u) (fun g hg e => hr g (.inr (.inr hg)) e)) (by simp [World.setCell])

theorem pair_first {w : World} {E : Nat} {x y z a b c : Value} (h : Whole w E 34 #[x, y, z, a, b, c]) : w.cell? ⟨E, 0, none⟩ = some x := whole_cell h 0

/-- The pair's blocks behind a turned stack are still not this one. -/
theorem pair_not {w : World} {lo G E r : Nat} {v' x x' y z : Value} {h : Ht} {d : Dt} {a b : Int} {s : ByteArray} (p : Pair w lo G E v' (.agg #[x, y, z, .int .i64 a, .int .i64 b, .string s]) h d) (hat : x'.ownBlock = x.ownBlock ∨ x'.ownBlock = some w.heap.size)
    (he : ∀ k, (k = G ∨ Mine v' k) ∨ (k = E ∨ Mine (.agg #[x, y, z, .int .i64 a, .int .i64 b, .string s]) k) → k ≠ r) (hr : w.heap.size ≠ r) : ∀ k, (k = G ∨ Mine v' k) ∨ (k = E ∨ Mine (.agg #[x', y, z, .int .i64 a, .int .i64 b, .string s]) k) → k ≠ r := by
  rintro k (hk | hk | hk)
  · exact he k (.inl hk)
  · exact he k (.inr (.inl hk))
  · rcases mine_dat (x := x) hk with e | e
    · rcases hat with q | q
      · exact he k (.inr (.inr (mine_first k (by rw [← q]; exact e))))
      · rw [q] at e; injection e with e; omega
    · exact he k (.inr (.inr e))

theorem below_own {a w w' : World} {lo g n c : Nat} (hg : w.grownBy w' (Value.slice (some ⟨g, 0, none⟩) n c).ownBlock) (hl : lo ≤ g) (hs : lo ≤ w.heap.size) (hb : Below lo a w) : Below lo a w' :=
  hb.grown hg hs (fun k hk => by simp [Value.ownBlock] at hk; omega)

theorem row_some {w : World} {lo n k : Nat} {A : Option Addr} {zs : List Int} (h : Row w lo (.slice A n k) zs) (hA : A ≠ none) : ∃ g1, A = some ⟨g1, 0, none⟩ := by
  rcases h.2 with ⟨hv, h0⟩ | ⟨g, cap, cur, hv, _⟩
  · simp only [Value.slice.injEq] at hv; exact absurd hv.1 hA
  · simp only [Value.slice.injEq] at hv; exact ⟨g, hv.1⟩

theorem below_ownN {a w w' : World} {lo n c : Nat} (hg : w.grownBy w' (Value.slice none n c).ownBlock) (hs : lo ≤ w.heap.size) (hb : Below lo a w) : Below lo a w' :=
  hb.grown hg hs (fun k hk => by simp [Value.ownBlock] at hk)

theorem size_two (w : World) (a b : Obj) : ((w.alloc a).alloc b).heap.size = w.heap.size + 2 := by
  show ((w.heap.push _).push _).size = _
  rw [Array.size_push, Array.size_push]

theorem whole_second (w : World) (a : Obj) (t : TypeId) (cs : Array Value) : Whole ((w.alloc a).alloc (.cells cs t)) (w.heap.size + 1) t cs := by
  have h := whole_new (w.alloc a) t cs
  have z : (w.alloc a).heap.size = w.heap.size + 1 := Array.size_push ..
  rw [z] at h
  exact h

theorem tkAt_row {w W : World} {lo m g1 k1 t : Nat} {zs : List Int} (r : Row w lo (.slice (some ⟨g1, 0, none⟩) zs.length k1) zs) (hm : zs.length = m + t) (hb : Below w.heap.size w W) : TkAt W (.slice (some ⟨g1, m, none⟩) t (k1 - m)) (zs.drop m) := by
  have hl : (zs.drop m).length = t := by rw [List.length_drop]; omega
  by_cases h0 : t = 0
  · exact .inl (List.eq_nil_of_length_eq_zero (by omega))
  · refine .inr ⟨g1, m, k1 - m, by rw [hl], Nat.lt_of_lt_of_le (row_lt r g1 rfl).2 hb.size, fun k hk => ?_⟩
    rw [List.getElem_drop]
    rw [hb.cell (World.block_lt_of_cell? w _ (row_cell r (m + k) (by omega)))]; exact row_cell r (m + k) (by omega)

set_option maxRecDepth 100000 in
set_option maxHeartbeats 1000000 in
theorem serve_throw (w : World) (lo G E : Nat) (vh vd : Value) (h h' : Ht) (d : Dt) (x : Dd) (th : Int) (t l m : Nat) (fv : FuncId) (p : Pair w lo G E vh vd h d) (hf : HtFine h) (df : DtFine d) (ht : t ≤ 2) (hl : l ≤ 1) (hm : d.s.length = m + t) (hu : m + l ≤ 32)
    (he : EnteredF fv) (C : Hid (∀ W tv, Below w.heap.size w W → TkAt W tv (d.s.drop m) → Calls Try.prog fv #[.pointer (some ⟨G, 0, none⟩), tv] W (SvcOf W lo G vh (h', x, th)))) (hth : th ≠ 0) (hk : ∀ A n k y z a b c, vd = .agg #[.slice A n k, y, z, a, b, c] → A ≠ none ∧ k ≠ m) :
    Calls Try.prog 100 #[.agg #[.int .i64 t, .int .i64 l, .func (.func fv) #[] #[]], .pointer (some ⟨G, 0, none⟩), .pointer (some ⟨E, 0, none⟩)] w (ServeOf w lo G E (h', d, noDd, th)) := by
  have PP := Lib.hid p
  obtain ⟨A1, k1, A2, k2, A3, k3, rfl, hw, hrow⟩ := pair_form p
  obtain ⟨d0, d1, d2, d3, d4, d5⟩ := six_cells hw
  have ze := whole_lt hw
  have sl := fine_sl df
  have s1 : IntKind.i64.wrap ((d.s.length : Int) - t) = (m : Int) := by rw [show (d.s.length : Int) - t = m by omega]; exact IntWalk.i64_in _ (by omega)
  have s2 : ¬ ((m : Int) < 0) := by omega
  have s3 : IntKind.i64.wrap ((m : Int) + l) = (m : Int) + l := IntWalk.i64_in _ (by omega)
  have s4 : ¬ ((32 : Int) < (m : Int) + l) := by omega
  have s6 : (m : Int) ≤ d.s.length := by omega
  have hk1 := (row_cap hrow).1
  have hk1m := (row_cap hrow).2
  have s7 : m ≤ k1 := by omega
  have s0 : d.s.length - m = t := by omega
  unfold maxLen at hk1m
  unfold EnteredF at he
  have HROW := Lib.hid hrow
  have HM := Lib.hid hm
  have t1 : (th != 0) = true := by rw [bne_iff_ne]; exact hth
  obtain ⟨hA, kd⟩ := hk _ _ _ _ _ _ _ _ rfl
  obtain ⟨g1, rfl⟩ := row_some hrow hA
  obtain ⟨hg1, hg2⟩ := row_lt hrow g1 rfl
  have TK := Lib.hid (fun W (hb : Below w.heap.size w W) => tkAt_row hrow hm hb)
  clear hA
  obtain ⟨W0, hW0⟩ : ∃ W0, W0 = (w.alloc (.cells #[.int .i64 t, .int .i64 l, .func (.func fv) #[] #[]] 118)).alloc (.cells #[.int .i64 0, .int .i64 0, .int .i64 0, .int .i64 0] 48) := ⟨_, rfl⟩
  have WS0 : W0.heap.size = w.heap.size + 2 := by rw [hW0]; exact size_two w _ _
  have BX0 : Whole W0 w.heap.size 118 #[.int .i64 t, .int .i64 l, .func (.func fv) #[] #[]] := by rw [hW0]; exact whole_alloc (whole_new _ _ _) _
  have RX0 : Whole W0 (w.heap.size + 1) 48 #[.int .i64 0, .int .i64 0, .int .i64 0, .int .i64 0] := by rw [hW0]; exact whole_second w _ _ _
  have WB0 : Below w.heap.size w W0 := by rw [hW0]; exact below_alloc (below_alloc (Below.refl _ _) _) _
  have EX0 := Lib.hid (whole_below hw WB0)
  have BXH := Lib.hid BX0
  have RXH := Lib.hid RX0
  have WBH := Lib.hid WB0
  have WSH := Lib.hid WS0
  have HW0 := Lib.hid hW0
  clear hk hw p hf df hrow hm hW0 BX0 RX0 WB0 WS0
  go_enter Try.func100, Try.ntmps100
  go_wp2
  go_quiet (fail)
  go_wp2_with fail
  rw [← HW0.out]
  obtain ⟨W1, hW1⟩ : ∃ W1, W1 = W0.drewN nq := ⟨_, rfl⟩
  rw [← hW1]
  have BX : Whole W1 w.heap.size 118 #[.int .i64 t, .int .i64 l, .func (.func fv) #[] #[]] := by rw [hW1]; exact whole_drewN BXH.out _
  have RX : Hid (Whole W1 (w.heap.size + 1) 48 #[.int .i64 0, .int .i64 0, .int .i64 0, .int .i64 0]) := Lib.hid (by rw [hW1]; exact whole_drewN RXH.out _)
  have WB : Hid (Below w.heap.size w W1) := Lib.hid (by rw [hW1]; exact below_drewN WBH.out _)
  have WS : w.heap.size + 1 < W1.heap.size := by rw [hW1]; show _ < W0.heap.size; rw [WSH.out]; omega
  have EX : Whole W1 E 34 #[.slice (some ⟨g1, 0, none⟩) d.s.length k1, .slice A2 d.b.length k2, .slice A3 d.c.length k3, .int .i64 d.h, .int .i64 d.n, .string d.o] := by rw [hW1]; exact whole_drewN EX0.out _
  have BH := Lib.hid BX
  have zE := whole_lt EX
  have zB := whole_lt BX
  have WL := Lib.hid (Nat.le_of_lt (Nat.lt_of_succ_lt WS))
  have x2 := whole_cell BX 2
  simp at x2
  have e0 := (six_cells EX).1
  clear HW0 d0 d1 d2 d3 d4 d5 EX0 BXH RXH WBH WSH hW1 BX EX
  go_region_held3 (fun w' => w'.cell? ⟨w.heap.size, 2, none⟩ = some (.func (.func fv) #[] #[]) ∧ w'.cell? ⟨E, 0, none⟩ = some (.slice (some ⟨g1, 0, none⟩) d.s.length k1))
    (refine ⟨?_, ?_⟩ <;> repeat (first | with_reducible assumption | with_reducible refine cell_old ?_ _ | with_reducible refine cell_drewQ ?_ | with_reducible refine cell_drewNQ ?_ _ | with_reducible refine cell_set ?_ (by omega) _))
    (first
    | (go_at_fn fv
       refine (C.out _ _ ?hB ?hT).mono ?_
       (case hB => repeat (first | with_reducible exact WB.out | with_reducible refine below_alloc ?_ _ | with_reducible refine below_drewN ?_ _ | with_reducible refine Below.drew ?_))
       (case hT => exact TK.out _ (by repeat (first | with_reducible exact WB.out | with_reducible refine below_alloc ?_ _ | with_reducible refine below_drewN ?_ _ | with_reducible refine Below.drew ?_)))
       rintro e w2 hsv
       obtain ⟨v', pp, pe, pb, pk⟩ := pair_svc PP.out (by repeat (first | with_reducible exact WB.out | with_reducible refine below_alloc ?_ _ | with_reducible refine below_drewN ?_ _ | with_reducible refine Below.drew ?_)) hsv
       obtain ⟨he2, _⟩ := hsv
       dsimp only at he2
       subst he2
       have RX2 := pk (w.heap.size + 1) 48 #[.int .i64 0, .int .i64 0, .int .i64 0, .int .i64 0] (by omega) (by repeat (first | with_reducible exact RX.out | with_reducible exact BH.out | with_reducible exact whole_new _ _ _ | with_reducible refine whole_alloc ?_ _ | with_reducible refine whole_drewN ?_ _ | with_reducible refine whole_drewQ ?_))
       have BX2 := pk w.heap.size 118 #[.int .i64 t, .int .i64 l, .func (.func fv) #[] #[]] (by omega) (by repeat (first | with_reducible exact RX.out | with_reducible exact BH.out | with_reducible exact whole_new _ _ _ | with_reducible refine whole_alloc ?_ _ | with_reducible refine whole_drewN ?_ _ | with_reducible refine whole_drewQ ?_))
       have x5 : w2.cell? ⟨w.heap.size, 2, none⟩ = some (.func (.func fv) #[] #[]) := whole_cell BX2 2
       have e5 := data_first pp
       obtain ⟨r0, r1, r2, r3⟩ := deed_cells RX2
       have f1 := whole_free RX2
       have l1 := whole_lt RX2
       (first
         | (have XD := pk W1.heap.size 48 #[.int .i64 0, .int .i64 0, .int .i64 0, .int .i64 0] WL.out (whole_drewQ (whole_new W1 _ _))
            obtain ⟨y0, y1, y2, y3⟩ := deed_cells XD
            have f2 := whole_free XD
            have l2 := whole_lt XD
            skip)
         | skip)))
  all_goals
    go_wp2
    refine bodyPost_ret (v := .tuple #[.agg #[.int .i64 0, .int .i64 0, .int .i64 0, .int .i64 0], .int .i64 th]) (by simp [results, Try.results100, go_sem, *]) rfl ?_
    exact serve_end noDd th PP.out pp pe pb (by repeat (first | with_reducible exact Below.refl _ _ | with_reducible refine below_put ?_ (by omega) _ | with_reducible refine below_new ?_ (by omega) _ | with_reducible refine below_drewN ?_ _ | with_reducible refine Below.drew ?_))

set_option maxRecDepth 100000 in
set_option maxHeartbeats 1000000 in
theorem serve_fine (w : World) (lo G E : Nat) (vh vd : Value) (h h' : Ht) (d : Dt) (x : Dd) (t l m : Nat) (fv : FuncId) (p : Pair w lo G E vh vd h d) (hf : HtFine h) (df : DtFine d) (ht : t ≤ 2) (hl : l ≤ 1) (hm : d.s.length = m + t) (hu : m + l ≤ 32)
    (he : EnteredF fv) (C : Hid (∀ W tv, Below w.heap.size w W → TkAt W tv (d.s.drop m) → Calls Try.prog fv #[.pointer (some ⟨G, 0, none⟩), tv] W (SvcOf W lo G vh (h', x, 0)))) (hk : ∀ A n k y z a b c, vd = .agg #[.slice A n k, y, z, a, b, c] → A ≠ none ∧ k ≠ m) :
    Calls Try.prog 100 #[.agg #[.int .i64 t, .int .i64 l, .func (.func fv) #[] #[]], .pointer (some ⟨G, 0, none⟩), .pointer (some ⟨E, 0, none⟩)] w (ServeOf w lo G E (h', { d with s := d.s.take m ++ [x.r].take l }, x, 0)) := by
  have PP := Lib.hid p
  obtain ⟨A1, k1, A2, k2, A3, k3, rfl, hw, hrow⟩ := pair_form p
  obtain ⟨d0, d1, d2, d3, d4, d5⟩ := six_cells hw
  have ze := whole_lt hw
  have sl := fine_sl df
  have s1 : IntKind.i64.wrap ((d.s.length : Int) - t) = (m : Int) := by rw [show (d.s.length : Int) - t = m by omega]; exact IntWalk.i64_in _ (by omega)
  have s2 : ¬ ((m : Int) < 0) := by omega
  have s3 : IntKind.i64.wrap ((m : Int) + l) = (m : Int) + l := IntWalk.i64_in _ (by omega)
  have s4 : ¬ ((32 : Int) < (m : Int) + l) := by omega
  have s6 : (m : Int) ≤ d.s.length := by omega
  have hk1 := (row_cap hrow).1
  have hk1m := (row_cap hrow).2
  have s7 : m ≤ k1 := by omega
  have s0 : d.s.length - m = t := by omega
  unfold maxLen at hk1m
  unfold EnteredF at he
  have HROW := Lib.hid hrow
  have HM := Lib.hid hm
  obtain ⟨hA, kd⟩ := hk _ _ _ _ _ _ _ _ rfl
  obtain ⟨g1, rfl⟩ := row_some hrow hA
  obtain ⟨hg1, hg2⟩ := row_lt hrow g1 rfl
  have TK := Lib.hid (fun W (hb : Below w.heap.size w W) => tkAt_row hrow hm hb)
  clear hA
  obtain ⟨W0, hW0⟩ : ∃ W0, W0 = (w.alloc (.cells #[.int .i64 t, .int .i64 l, .func (.func fv) #[] #[]] 118)).alloc (.cells #[.int .i64 0, .int .i64 0, .int .i64 0, .int .i64 0] 48) := ⟨_, rfl⟩
  have WS0 : W0.heap.size = w.heap.size + 2 := by rw [hW0]; exact size_two w _ _
  have BX0 : Whole W0 w.heap.size 118 #[.int .i64 t, .int .i64 l, .func (.func fv) #[] #[]] := by rw [hW0]; exact whole_alloc (whole_new _ _ _) _
  have RX0 : Whole W0 (w.heap.size + 1) 48 #[.int .i64 0, .int .i64 0, .int .i64 0, .int .i64 0] := by rw [hW0]; exact whole_second w _ _ _
  have WB0 : Below w.heap.size w W0 := by rw [hW0]; exact below_alloc (below_alloc (Below.refl _ _) _) _
  have EX0 := Lib.hid (whole_below hw WB0)
  have BXH := Lib.hid BX0
  have RXH := Lib.hid RX0
  have WBH := Lib.hid WB0
  have WSH := Lib.hid WS0
  have HW0 := Lib.hid hW0
  clear hk hw p hf df hrow hm hW0 BX0 RX0 WB0 WS0
  go_enter Try.func100, Try.ntmps100
  go_wp2
  go_quiet (fail)
  go_wp2_with fail
  rw [← HW0.out]
  obtain ⟨W1, hW1⟩ : ∃ W1, W1 = W0.drewN nq := ⟨_, rfl⟩
  rw [← hW1]
  have BX : Whole W1 w.heap.size 118 #[.int .i64 t, .int .i64 l, .func (.func fv) #[] #[]] := by rw [hW1]; exact whole_drewN BXH.out _
  have RX : Hid (Whole W1 (w.heap.size + 1) 48 #[.int .i64 0, .int .i64 0, .int .i64 0, .int .i64 0]) := Lib.hid (by rw [hW1]; exact whole_drewN RXH.out _)
  have WB : Hid (Below w.heap.size w W1) := Lib.hid (by rw [hW1]; exact below_drewN WBH.out _)
  have WS : w.heap.size + 1 < W1.heap.size := by rw [hW1]; show _ < W0.heap.size; rw [WSH.out]; omega
  have EX : Whole W1 E 34 #[.slice (some ⟨g1, 0, none⟩) d.s.length k1, .slice A2 d.b.length k2, .slice A3 d.c.length k3, .int .i64 d.h, .int .i64 d.n, .string d.o] := by rw [hW1]; exact whole_drewN EX0.out _
  have BH := Lib.hid BX
  have zE := whole_lt EX
  have zB := whole_lt BX
  have WL := Lib.hid (Nat.le_of_lt (Nat.lt_of_succ_lt WS))
  have x2 := whole_cell BX 2
  simp at x2
  have e0 := (six_cells EX).1
  clear HW0 d0 d1 d2 d3 d4 d5 EX0 BXH RXH WBH WSH hW1 BX EX
  go_region_held3 (fun w' => w'.cell? ⟨w.heap.size, 2, none⟩ = some (.func (.func fv) #[] #[]) ∧ w'.cell? ⟨E, 0, none⟩ = some (.slice (some ⟨g1, 0, none⟩) d.s.length k1))
    (refine ⟨?_, ?_⟩ <;> repeat (first | with_reducible assumption | with_reducible refine cell_old ?_ _ | with_reducible refine cell_drewQ ?_ | with_reducible refine cell_drewNQ ?_ _ | with_reducible refine cell_set ?_ (by omega) _))
    (first
    | (go_at_fn fv
       refine (C.out _ _ ?hB ?hT).mono ?_
       (case hB => repeat (first | with_reducible exact WB.out | with_reducible refine below_alloc ?_ _ | with_reducible refine below_drewN ?_ _ | with_reducible refine Below.drew ?_))
       (case hT => exact TK.out _ (by repeat (first | with_reducible exact WB.out | with_reducible refine below_alloc ?_ _ | with_reducible refine below_drewN ?_ _ | with_reducible refine Below.drew ?_)))
       rintro e w2 hsv
       obtain ⟨v', pp, pe, pb, pk⟩ := pair_svc PP.out (by repeat (first | with_reducible exact WB.out | with_reducible refine below_alloc ?_ _ | with_reducible refine below_drewN ?_ _ | with_reducible refine Below.drew ?_)) hsv
       obtain ⟨he2, _⟩ := hsv
       dsimp only at he2
       subst he2
       have RX2 := pk (w.heap.size + 1) 48 #[.int .i64 0, .int .i64 0, .int .i64 0, .int .i64 0] (by omega) (by repeat (first | with_reducible exact RX.out | with_reducible exact BH.out | with_reducible exact whole_new _ _ _ | with_reducible refine whole_alloc ?_ _ | with_reducible refine whole_drewN ?_ _ | with_reducible refine whole_drewQ ?_))
       have BX2 := pk w.heap.size 118 #[.int .i64 t, .int .i64 l, .func (.func fv) #[] #[]] (by omega) (by repeat (first | with_reducible exact RX.out | with_reducible exact BH.out | with_reducible exact whole_new _ _ _ | with_reducible refine whole_alloc ?_ _ | with_reducible refine whole_drewN ?_ _ | with_reducible refine whole_drewQ ?_))
       have x5 : w2.cell? ⟨w.heap.size, 2, none⟩ = some (.func (.func fv) #[] #[]) := whole_cell BX2 2
       have e5 := data_first pp
       obtain ⟨r0, r1, r2, r3⟩ := deed_cells RX2
       have f1 := whole_free RX2
       have l1 := whole_lt RX2
       (first
         | (have XD := pk W1.heap.size 48 #[.int .i64 0, .int .i64 0, .int .i64 0, .int .i64 0] WL.out (whole_drewQ (whole_new W1 _ _))
            obtain ⟨y0, y1, y2, y3⟩ := deed_cells XD
            have f2 := whole_free XD
            have l2 := whole_lt XD
            skip)
         | skip)))
  · go_wp2_with fail
    generalize hW3 : World.alloc _ _ = W3
    have B3 : Below w.heap.size w2 W3 := by rw [← hW3]; repeat (first | with_reducible exact Below.refl _ _ | with_reducible refine below_put ?_ (by omega) _ | with_reducible refine below_new ?_ (by omega) _ | with_reducible refine below_drewN ?_ _ | with_reducible refine Below.drew ?_)
    have PP3 := pair_up pp pe B3 B3.size
    have BX3 : Whole W3 w.heap.size 118 #[.int .i64 t, .int .i64 l, .func (.func fv) #[] #[]] := by rw [← hW3]; repeat (first | with_reducible exact BX2 | with_reducible refine whole_alloc ?_ _ | with_reducible refine whole_store ?_ (by omega))
    have RX3 : Whole W3 (w.heap.size + 1) 48 #[.int .i64 0, .int .i64 0, .int .i64 0, .int .i64 0] := by rw [← hW3]; repeat (first | with_reducible exact RX2 | with_reducible refine whole_alloc ?_ _ | with_reducible refine whole_store ?_ (by omega))
    have DX3 : Whole W3 w2.heap.size 48 #[.int .i64 x.p, .int .i64 x.a, .int .i64 x.b, .int .i64 x.r] := by rw [← hW3]; exact whole_alloc (whole_new w2 _ _) _
    have LX3 : Ints W3 (.slice (some ⟨w2.heap.size + 1, 0, none⟩) l 1) ([x.r].take l) := ints_left (by rw [← hW3]; exact whole_second w2 _ _ _) hl
    clear hW3
    obtain ⟨ST3, n3⟩ := pair_row PP3 (k := m) (by omega)
    have LT3 : Hid ((d.s.take m).length = m) := Lib.hid (by rw [List.length_take]; omega)
    have LL3 : Hid (([x.r].take l).length ≤ 1) := Lib.hid (by rw [List.length_take]; exact Nat.min_le_right _ _)
    have LN4 : Hid ((d.s.take m ++ [x.r].take l).length = m + l) := Lib.hid (by rw [List.length_append, LT3.out, List.length_take, List.length_singleton, Nat.min_eq_left hl])
    have q0 := data_first PP3
    have q1 : W3.cell? ⟨w.heap.size, 1, none⟩ = some (.int .i64 l) := whole_cell BX3 1
    have q2 : (l : Int) ≤ 1 := by omega
    have EB3 := pair_box PP3
    have zE3 := whole_lt EB3
    have zR3 := whole_lt RX3
    have zD3 := whole_lt DX3
    have SV := Lib.hid (And.intro PP3 (And.intro EB3 (And.intro RX3 (And.intro DX3 (And.intro LX3 (And.intro ST3 B3))))))
    have SE := Lib.hid pe
    have lw := lo_le PP.out
    have lE := PP.out.loE
    clear pp pe PP3 EB3 RX3 DX3 BX3 LX3 ST3 B3 RX2 BX2 x5 e5 r0 r1 r2 r3 f1
    go_region_law (first
      | (refine step_append_ints6 rfl (.tmp 55) (.tmp 59) rfl rfl lo (.slice (some ⟨g1, 0, none⟩) m k1) (d.s.take m) rfl (by exact SV.out.2.2.2.2.2.1) _ ([x.r].take l) rfl (by exact SV.out.2.2.2.2.1) (by have := LT3.out; have := LL3.out; omega) (by have := lo_le SV.out.1; exact this) ?_
         intro v4 w4 hr4 hg4 hat4
         obtain ⟨_, C4, j4, rfl, _⟩ := row_ints hr4
         rw [LN4.out] at hr4 hat4 ⊢
         obtain ⟨PP3, EB3, RX3, DX3, LX3, ST3, B3⟩ := SV.out
         have PP4 := Lib.hid (pair_stack (pair_below PP3 (by repeat (first | with_reducible exact Below.refl _ _ | with_reducible refine below_drewN ?_ _ | with_reducible refine Below.drew ?_))) hg4 hr4 hat4)
         have n1 := PP3.own g1 (mine_first g1 rfl)
         have EB4 := whole_keep EB3 (hg4.block E (by exact zE3) (fun e => by simp [Value.ownBlock] at e; omega))
         have RX4 := whole_keep RX3 (hg4.block (w.heap.size + 1) (by exact zR3) (fun e => by simp [Value.ownBlock] at e; omega))
         have DX4 := whole_keep DX3 (hg4.block (w2.heap.size) (by exact zD3) (fun e => by simp [Value.ownBlock] at e; omega))
         have e4 := pair_first EB4
         obtain ⟨y0, y1, y2, y3⟩ := deed_cells DX4
         obtain ⟨r0, r1, r2, r3⟩ := deed_cells RX4
         have fE := whole_free EB4
         have fR := whole_free RX4
         have lE4 := whole_lt EB4
         have lR4 := whole_lt RX4
         have lD4 := whole_lt DX4
         have NE4 := Lib.hid (pair_not (r := w.heap.size + 1) (v' := v') PP3 (x' := .slice C4 (m + l) j4) hat4 (fun k hk => by have := SE.out k hk; omega) (by omega))
         have BW3 := pb.trans (B3.mono lw)
         have lw3 := lo_le PP3
         have BL4 := Lib.hid (below_own hg4 hg1 (show lo ≤ W3.drew.heap.size from lw3) BW3.drew)
         clear hg4 hr4 hat4 BW3 PP3 EB3 RX3 DX3 LX3 ST3 B3 EB4 RX4 DX4))
    all_goals
      go_wp2
      refine bodyPost_ret (v := .tuple #[.agg #[.int .i64 x.p, .int .i64 x.a, .int .i64 x.b, .int .i64 x.r], .int .i64 0]) (by simp [results, Try.results100, go_sem, *]) rfl ?_
      exact ⟨rfl, ⟨v', _, by repeat (first | with_reducible exact PP4.out | with_reducible refine pair_put ?_ NE4.out _)⟩, by repeat (first | with_reducible exact BL4.out | with_reducible refine below_put ?_ (by omega) _ | with_reducible refine below_drewN ?_ _ | with_reducible refine Below.drew ?_)⟩
  · go_wp2_with fail
    generalize hW3 : World.alloc _ _ = W3
    have B3 : Below w.heap.size w2 W3 := by rw [← hW3]; repeat (first | with_reducible exact Below.refl _ _ | with_reducible refine below_put ?_ (by omega) _ | with_reducible refine below_new ?_ (by omega) _ | with_reducible refine below_drewN ?_ _ | with_reducible refine Below.drew ?_)
    have PP3 := pair_up pp pe B3 B3.size
    have BX3 : Whole W3 w.heap.size 118 #[.int .i64 t, .int .i64 l, .func (.func fv) #[] #[]] := by rw [← hW3]; repeat (first | with_reducible exact BX2 | with_reducible refine whole_alloc ?_ _ | with_reducible refine whole_store ?_ (by omega))
    have RX3 : Whole W3 (w.heap.size + 1) 48 #[.int .i64 0, .int .i64 0, .int .i64 0, .int .i64 0] := by rw [← hW3]; repeat (first | with_reducible exact RX2 | with_reducible refine whole_alloc ?_ _ | with_reducible refine whole_store ?_ (by omega))
    have DX3 : Whole W3 W1.heap.size 48 #[.int .i64 x.p, .int .i64 x.a, .int .i64 x.b, .int .i64 x.r] := by rw [← hW3]; exact whole_alloc (whole_set (whole_set (whole_set (whole_set XD 0 _) 1 _) 2 _) 3 _) _
    have LX3 : Ints W3 (.slice (some ⟨w2.heap.size, 0, none⟩) l 1) ([x.r].take l) := ints_left (by rw [← hW3]; exact whole_new4 w2 _ _ _ _ _ _ _ _ _ _) hl
    clear hW3
    obtain ⟨ST3, n3⟩ := pair_row PP3 (k := m) (by omega)
    have LT3 : Hid ((d.s.take m).length = m) := Lib.hid (by rw [List.length_take]; omega)
    have LL3 : Hid (([x.r].take l).length ≤ 1) := Lib.hid (by rw [List.length_take]; exact Nat.min_le_right _ _)
    have LN4 : Hid ((d.s.take m ++ [x.r].take l).length = m + l) := Lib.hid (by rw [List.length_append, LT3.out, List.length_take, List.length_singleton, Nat.min_eq_left hl])
    have q0 := data_first PP3
    have q1 : W3.cell? ⟨w.heap.size, 1, none⟩ = some (.int .i64 l) := whole_cell BX3 1
    have q2 : (l : Int) ≤ 1 := by omega
    have EB3 := pair_box PP3
    have zE3 := whole_lt EB3
    have zR3 := whole_lt RX3
    have zD3 := whole_lt DX3
    have SV := Lib.hid (And.intro PP3 (And.intro EB3 (And.intro RX3 (And.intro DX3 (And.intro LX3 (And.intro ST3 B3))))))
    have SE := Lib.hid pe
    have lw := lo_le PP.out
    have lE := PP.out.loE
    clear pp pe PP3 EB3 RX3 DX3 BX3 LX3 ST3 B3 RX2 BX2 x5 e5 r0 r1 r2 r3 f1
    go_region_law (first
      | (refine step_append_ints6 rfl (.tmp 55) (.tmp 59) rfl rfl lo (.slice (some ⟨g1, 0, none⟩) m k1) (d.s.take m) rfl (by exact SV.out.2.2.2.2.2.1) _ ([x.r].take l) rfl (by exact SV.out.2.2.2.2.1) (by have := LT3.out; have := LL3.out; omega) (by have := lo_le SV.out.1; exact this) ?_
         intro v4 w4 hr4 hg4 hat4
         obtain ⟨_, C4, j4, rfl, _⟩ := row_ints hr4
         rw [LN4.out] at hr4 hat4 ⊢
         obtain ⟨PP3, EB3, RX3, DX3, LX3, ST3, B3⟩ := SV.out
         have PP4 := Lib.hid (pair_stack (pair_below PP3 (by repeat (first | with_reducible exact Below.refl _ _ | with_reducible refine below_drewN ?_ _ | with_reducible refine Below.drew ?_))) hg4 hr4 hat4)
         have n1 := PP3.own g1 (mine_first g1 rfl)
         have EB4 := whole_keep EB3 (hg4.block E (by exact zE3) (fun e => by simp [Value.ownBlock] at e; omega))
         have RX4 := whole_keep RX3 (hg4.block (w.heap.size + 1) (by exact zR3) (fun e => by simp [Value.ownBlock] at e; omega))
         have DX4 := whole_keep DX3 (hg4.block (W1.heap.size) (by exact zD3) (fun e => by simp [Value.ownBlock] at e; omega))
         have e4 := pair_first EB4
         obtain ⟨y0, y1, y2, y3⟩ := deed_cells DX4
         obtain ⟨r0, r1, r2, r3⟩ := deed_cells RX4
         have fE := whole_free EB4
         have fR := whole_free RX4
         have lE4 := whole_lt EB4
         have lR4 := whole_lt RX4
         have lD4 := whole_lt DX4
         have NE4 := Lib.hid (pair_not (r := w.heap.size + 1) (v' := v') PP3 (x' := .slice C4 (m + l) j4) hat4 (fun k hk => by have := SE.out k hk; omega) (by omega))
         have BW3 := pb.trans (B3.mono lw)
         have lw3 := lo_le PP3
         have BL4 := Lib.hid (below_own hg4 hg1 (show lo ≤ W3.drew.heap.size from lw3) BW3.drew)
         clear hg4 hr4 hat4 BW3 PP3 EB3 RX3 DX3 LX3 ST3 B3 EB4 RX4 DX4))
    all_goals
      go_wp2
      refine bodyPost_ret (v := .tuple #[.agg #[.int .i64 x.p, .int .i64 x.a, .int .i64 x.b, .int .i64 x.r], .int .i64 0]) (by simp [results, Try.results100, go_sem, *]) rfl ?_
      exact ⟨rfl, ⟨v', _, by repeat (first | with_reducible exact PP4.out | with_reducible refine pair_put ?_ NE4.out _)⟩, by repeat (first | with_reducible exact BL4.out | with_reducible refine below_put ?_ (by omega) _ | with_reducible refine below_drewN ?_ _ | with_reducible refine Below.drew ?_)⟩

set_option maxRecDepth 100000 in
set_option maxHeartbeats 1000000 in
theorem serve_full (w : World) (lo G E : Nat) (vh vd : Value) (h h' : Ht) (d : Dt) (x : Dd) (t l m : Nat) (fv : FuncId) (p : Pair w lo G E vh vd h d) (hf : HtFine h) (df : DtFine d) (ht : t ≤ 2) (hl : l ≤ 1) (hm : d.s.length = m + t) (hu : m + l ≤ 32)
    (he : EnteredF fv) (C : Hid (∀ W tv, Below w.heap.size w W → TkAt W tv (d.s.drop m) → Calls Try.prog fv #[.pointer (some ⟨G, 0, none⟩), tv] W (SvcOf W lo G vh (h', x, 0)))) (t0 : t = 0) (hk : ∀ A n k y z a b c, vd = .agg #[.slice A n k, y, z, a, b, c] → A ≠ none ∧ m = k) :
    Calls Try.prog 100 #[.agg #[.int .i64 t, .int .i64 l, .func (.func fv) #[] #[]], .pointer (some ⟨G, 0, none⟩), .pointer (some ⟨E, 0, none⟩)] w (ServeOf w lo G E (h', { d with s := d.s.take m ++ [x.r].take l }, x, 0)) := by
  have PP := Lib.hid p
  obtain ⟨A1, k1, A2, k2, A3, k3, rfl, hw, hrow⟩ := pair_form p
  obtain ⟨d0, d1, d2, d3, d4, d5⟩ := six_cells hw
  have ze := whole_lt hw
  have sl := fine_sl df
  have s1 : IntKind.i64.wrap ((d.s.length : Int) - t) = (m : Int) := by rw [show (d.s.length : Int) - t = m by omega]; exact IntWalk.i64_in _ (by omega)
  have s2 : ¬ ((m : Int) < 0) := by omega
  have s3 : IntKind.i64.wrap ((m : Int) + l) = (m : Int) + l := IntWalk.i64_in _ (by omega)
  have s4 : ¬ ((32 : Int) < (m : Int) + l) := by omega
  have s6 : (m : Int) ≤ d.s.length := by omega
  have hk1 := (row_cap hrow).1
  have hk1m := (row_cap hrow).2
  have s7 : m ≤ k1 := by omega
  have s0 : d.s.length - m = t := by omega
  unfold maxLen at hk1m
  unfold EnteredF at he
  have HROW := Lib.hid hrow
  have HM := Lib.hid hm
  obtain ⟨hA, kd⟩ := hk _ _ _ _ _ _ _ _ rfl
  subst kd
  obtain ⟨g1, rfl⟩ := row_some hrow hA
  obtain ⟨hg1, hg2⟩ := row_lt hrow g1 rfl
  have TK := Lib.hid (fun W (hb : Below w.heap.size w W) (tv : Value) => (show TkAt W tv (d.s.drop m) from .inl (List.eq_nil_of_length_eq_zero (by rw [List.length_drop]; omega))))
  have T0 := Lib.hid t0
  clear t0
  clear hA
  obtain ⟨W0, hW0⟩ : ∃ W0, W0 = (w.alloc (.cells #[.int .i64 t, .int .i64 l, .func (.func fv) #[] #[]] 118)).alloc (.cells #[.int .i64 0, .int .i64 0, .int .i64 0, .int .i64 0] 48) := ⟨_, rfl⟩
  have WS0 : W0.heap.size = w.heap.size + 2 := by rw [hW0]; exact size_two w _ _
  have BX0 : Whole W0 w.heap.size 118 #[.int .i64 t, .int .i64 l, .func (.func fv) #[] #[]] := by rw [hW0]; exact whole_alloc (whole_new _ _ _) _
  have RX0 : Whole W0 (w.heap.size + 1) 48 #[.int .i64 0, .int .i64 0, .int .i64 0, .int .i64 0] := by rw [hW0]; exact whole_second w _ _ _
  have WB0 : Below w.heap.size w W0 := by rw [hW0]; exact below_alloc (below_alloc (Below.refl _ _) _) _
  have EX0 := Lib.hid (whole_below hw WB0)
  have BXH := Lib.hid BX0
  have RXH := Lib.hid RX0
  have WBH := Lib.hid WB0
  have WSH := Lib.hid WS0
  have HW0 := Lib.hid hW0
  clear hk hw p hf df hrow hm hW0 BX0 RX0 WB0 WS0
  go_enter Try.func100, Try.ntmps100
  go_wp2
  go_quiet (fail)
  go_wp2_with fail
  rw [← HW0.out]
  obtain ⟨W1, hW1⟩ : ∃ W1, W1 = W0.drewN nq := ⟨_, rfl⟩
  rw [← hW1]
  have BX : Whole W1 w.heap.size 118 #[.int .i64 t, .int .i64 l, .func (.func fv) #[] #[]] := by rw [hW1]; exact whole_drewN BXH.out _
  have RX : Hid (Whole W1 (w.heap.size + 1) 48 #[.int .i64 0, .int .i64 0, .int .i64 0, .int .i64 0]) := Lib.hid (by rw [hW1]; exact whole_drewN RXH.out _)
  have WB : Hid (Below w.heap.size w W1) := Lib.hid (by rw [hW1]; exact below_drewN WBH.out _)
  have WS : w.heap.size + 1 < W1.heap.size := by rw [hW1]; show _ < W0.heap.size; rw [WSH.out]; omega
  have EX : Whole W1 E 34 #[.slice (some ⟨g1, 0, none⟩) d.s.length m, .slice A2 d.b.length k2, .slice A3 d.c.length k3, .int .i64 d.h, .int .i64 d.n, .string d.o] := by rw [hW1]; exact whole_drewN EX0.out _
  have BH := Lib.hid BX
  have zE := whole_lt EX
  have zB := whole_lt BX
  have WL := Lib.hid (Nat.le_of_lt (Nat.lt_of_succ_lt WS))
  have x2 := whole_cell BX 2
  simp at x2
  have e0 := (six_cells EX).1
  clear HW0 d0 d1 d2 d3 d4 d5 EX0 BXH RXH WBH WSH hW1 BX EX
  go_region_held3 (fun w' => w'.cell? ⟨w.heap.size, 2, none⟩ = some (.func (.func fv) #[] #[]) ∧ w'.cell? ⟨E, 0, none⟩ = some (.slice (some ⟨g1, 0, none⟩) d.s.length m))
    (refine ⟨?_, ?_⟩ <;> repeat (first | with_reducible assumption | with_reducible refine cell_old ?_ _ | with_reducible refine cell_drewQ ?_ | with_reducible refine cell_drewNQ ?_ _ | with_reducible refine cell_set ?_ (by omega) _))
    (first
    | (go_at_fn fv
       refine (C.out _ _ ?hB ?hT).mono ?_
       (case hB => repeat (first | with_reducible exact WB.out | with_reducible refine below_alloc ?_ _ | with_reducible refine below_drewN ?_ _ | with_reducible refine Below.drew ?_))
       (case hT => exact TK.out _ (by repeat (first | with_reducible exact WB.out | with_reducible refine below_alloc ?_ _ | with_reducible refine below_drewN ?_ _ | with_reducible refine Below.drew ?_)) _)
       rintro e w2 hsv
       obtain ⟨v', pp, pe, pb, pk⟩ := pair_svc PP.out (by repeat (first | with_reducible exact WB.out | with_reducible refine below_alloc ?_ _ | with_reducible refine below_drewN ?_ _ | with_reducible refine Below.drew ?_)) hsv
       obtain ⟨he2, _⟩ := hsv
       dsimp only at he2
       subst he2
       have RX2 := pk (w.heap.size + 1) 48 #[.int .i64 0, .int .i64 0, .int .i64 0, .int .i64 0] (by omega) (by repeat (first | with_reducible exact RX.out | with_reducible exact BH.out | with_reducible exact whole_new _ _ _ | with_reducible refine whole_alloc ?_ _ | with_reducible refine whole_drewN ?_ _ | with_reducible refine whole_drewQ ?_))
       have BX2 := pk w.heap.size 118 #[.int .i64 t, .int .i64 l, .func (.func fv) #[] #[]] (by omega) (by repeat (first | with_reducible exact RX.out | with_reducible exact BH.out | with_reducible exact whole_new _ _ _ | with_reducible refine whole_alloc ?_ _ | with_reducible refine whole_drewN ?_ _ | with_reducible refine whole_drewQ ?_))
       have x5 : w2.cell? ⟨w.heap.size, 2, none⟩ = some (.func (.func fv) #[] #[]) := whole_cell BX2 2
       have e5 := data_first pp
       obtain ⟨r0, r1, r2, r3⟩ := deed_cells RX2
       have f1 := whole_free RX2
       have l1 := whole_lt RX2
       (first
         | (have XD := pk W1.heap.size 48 #[.int .i64 0, .int .i64 0, .int .i64 0, .int .i64 0] WL.out (whole_drewQ (whole_new W1 _ _))
            obtain ⟨y0, y1, y2, y3⟩ := deed_cells XD
            have f2 := whole_free XD
            have l2 := whole_lt XD
            skip)
         | skip)))
  · go_wp2_with fail
    generalize hW3 : World.alloc _ _ = W3
    have B3 : Below w.heap.size w2 W3 := by rw [← hW3]; repeat (first | with_reducible exact Below.refl _ _ | with_reducible refine below_put ?_ (by omega) _ | with_reducible refine below_new ?_ (by omega) _ | with_reducible refine below_drewN ?_ _ | with_reducible refine Below.drew ?_)
    have PP3 := pair_up pp pe B3 B3.size
    have BX3 : Whole W3 w.heap.size 118 #[.int .i64 t, .int .i64 l, .func (.func fv) #[] #[]] := by rw [← hW3]; repeat (first | with_reducible exact BX2 | with_reducible refine whole_alloc ?_ _ | with_reducible refine whole_store ?_ (by omega))
    have RX3 : Whole W3 (w.heap.size + 1) 48 #[.int .i64 0, .int .i64 0, .int .i64 0, .int .i64 0] := by rw [← hW3]; repeat (first | with_reducible exact RX2 | with_reducible refine whole_alloc ?_ _ | with_reducible refine whole_store ?_ (by omega))
    have DX3 : Whole W3 w2.heap.size 48 #[.int .i64 x.p, .int .i64 x.a, .int .i64 x.b, .int .i64 x.r] := by rw [← hW3]; exact whole_alloc (whole_new w2 _ _) _
    have LX3 : Ints W3 (.slice (some ⟨w2.heap.size + 1, 0, none⟩) l 1) ([x.r].take l) := ints_left (by rw [← hW3]; exact whole_second w2 _ _ _) hl
    clear hW3
    obtain ⟨ST3, n3⟩ := pair_row PP3 (k := m) (by omega)
    have LT3 : Hid ((d.s.take m).length = m) := Lib.hid (by rw [List.length_take]; omega)
    have LL3 : Hid (([x.r].take l).length ≤ 1) := Lib.hid (by rw [List.length_take]; exact Nat.min_le_right _ _)
    have LN4 : Hid ((d.s.take m ++ [x.r].take l).length = m + l) := Lib.hid (by rw [List.length_append, LT3.out, List.length_take, List.length_singleton, Nat.min_eq_left hl])
    have q0 := data_first PP3
    have q1 : W3.cell? ⟨w.heap.size, 1, none⟩ = some (.int .i64 l) := whole_cell BX3 1
    have q2 : (l : Int) ≤ 1 := by omega
    have EB3 := pair_box PP3
    have zE3 := whole_lt EB3
    have zR3 := whole_lt RX3
    have zD3 := whole_lt DX3
    have SV := Lib.hid (And.intro PP3 (And.intro EB3 (And.intro RX3 (And.intro DX3 (And.intro LX3 (And.intro ST3 B3))))))
    have SE := Lib.hid pe
    have lw := lo_le PP.out
    have lE := PP.out.loE
    clear pp pe PP3 EB3 RX3 DX3 BX3 LX3 ST3 B3 RX2 BX2 x5 e5 r0 r1 r2 r3 f1
    go_region_law (first
      | (refine step_append_ints6 rfl (.tmp 55) (.tmp 59) rfl rfl lo (.slice (some ⟨g1, 0, none⟩) m m) (d.s.take m) rfl (by exact SV.out.2.2.2.2.2.1) _ ([x.r].take l) rfl (by exact SV.out.2.2.2.2.1) (by have := LT3.out; have := LL3.out; omega) (by have := lo_le SV.out.1; exact this) ?_
         intro v4 w4 hr4 hg4 hat4
         obtain ⟨_, C4, j4, rfl, _⟩ := row_ints hr4
         rw [LN4.out] at hr4 hat4 ⊢
         obtain ⟨PP3, EB3, RX3, DX3, LX3, ST3, B3⟩ := SV.out
         have PP4 := Lib.hid (pair_stack (pair_below PP3 (by repeat (first | with_reducible exact Below.refl _ _ | with_reducible refine below_drewN ?_ _ | with_reducible refine Below.drew ?_))) hg4 hr4 hat4)
         have n1 := PP3.own g1 (mine_first g1 rfl)
         have EB4 := whole_keep EB3 (hg4.block E (by exact zE3) (fun e => by simp [Value.ownBlock] at e; omega))
         have RX4 := whole_keep RX3 (hg4.block (w.heap.size + 1) (by exact zR3) (fun e => by simp [Value.ownBlock] at e; omega))
         have DX4 := whole_keep DX3 (hg4.block (w2.heap.size) (by exact zD3) (fun e => by simp [Value.ownBlock] at e; omega))
         have e4 := pair_first EB4
         obtain ⟨y0, y1, y2, y3⟩ := deed_cells DX4
         obtain ⟨r0, r1, r2, r3⟩ := deed_cells RX4
         have fE := whole_free EB4
         have fR := whole_free RX4
         have lE4 := whole_lt EB4
         have lR4 := whole_lt RX4
         have lD4 := whole_lt DX4
         have NE4 := Lib.hid (pair_not (r := w.heap.size + 1) (v' := v') PP3 (x' := .slice C4 (m + l) j4) hat4 (fun k hk => by have := SE.out k hk; omega) (by omega))
         have BW3 := pb.trans (B3.mono lw)
         have lw3 := lo_le PP3
         have BL4 := Lib.hid (below_own hg4 hg1 (show lo ≤ W3.drew.heap.size from lw3) BW3.drew)
         clear hg4 hr4 hat4 BW3 PP3 EB3 RX3 DX3 LX3 ST3 B3 EB4 RX4 DX4))
    all_goals
      go_wp2
      refine bodyPost_ret (v := .tuple #[.agg #[.int .i64 x.p, .int .i64 x.a, .int .i64 x.b, .int .i64 x.r], .int .i64 0]) (by simp [results, Try.results100, go_sem, *]) rfl ?_
      exact ⟨rfl, ⟨v', _, by repeat (first | with_reducible exact PP4.out | with_reducible refine pair_put ?_ NE4.out _)⟩, by repeat (first | with_reducible exact BL4.out | with_reducible refine below_put ?_ (by omega) _ | with_reducible refine below_drewN ?_ _ | with_reducible refine Below.drew ?_)⟩
  · go_wp2_with fail
    generalize hW3 : World.alloc _ _ = W3
    have B3 : Below w.heap.size w2 W3 := by rw [← hW3]; repeat (first | with_reducible exact Below.refl _ _ | with_reducible refine below_put ?_ (by omega) _ | with_reducible refine below_new ?_ (by omega) _ | with_reducible refine below_drewN ?_ _ | with_reducible refine Below.drew ?_)
    have PP3 := pair_up pp pe B3 B3.size
    have BX3 : Whole W3 w.heap.size 118 #[.int .i64 t, .int .i64 l, .func (.func fv) #[] #[]] := by rw [← hW3]; repeat (first | with_reducible exact BX2 | with_reducible refine whole_alloc ?_ _ | with_reducible refine whole_store ?_ (by omega))
    have RX3 : Whole W3 (w.heap.size + 1) 48 #[.int .i64 0, .int .i64 0, .int .i64 0, .int .i64 0] := by rw [← hW3]; repeat (first | with_reducible exact RX2 | with_reducible refine whole_alloc ?_ _ | with_reducible refine whole_store ?_ (by omega))
    have DX3 : Whole W3 W1.heap.size 48 #[.int .i64 x.p, .int .i64 x.a, .int .i64 x.b, .int .i64 x.r] := by rw [← hW3]; exact whole_alloc (whole_set (whole_set (whole_set (whole_set XD 0 _) 1 _) 2 _) 3 _) _
    have LX3 : Ints W3 (.slice (some ⟨w2.heap.size, 0, none⟩) l 1) ([x.r].take l) := ints_left (by rw [← hW3]; exact whole_new4 w2 _ _ _ _ _ _ _ _ _ _) hl
    clear hW3
    obtain ⟨ST3, n3⟩ := pair_row PP3 (k := m) (by omega)
    have LT3 : Hid ((d.s.take m).length = m) := Lib.hid (by rw [List.length_take]; omega)
    have LL3 : Hid (([x.r].take l).length ≤ 1) := Lib.hid (by rw [List.length_take]; exact Nat.min_le_right _ _)
    have LN4 : Hid ((d.s.take m ++ [x.r].take l).length = m + l) := Lib.hid (by rw [List.length_append, LT3.out, List.length_take, List.length_singleton, Nat.min_eq_left hl])
    have q0 := data_first PP3
    have q1 : W3.cell? ⟨w.heap.size, 1, none⟩ = some (.int .i64 l) := whole_cell BX3 1
    have q2 : (l : Int) ≤ 1 := by omega
    have EB3 := pair_box PP3
    have zE3 := whole_lt EB3
    have zR3 := whole_lt RX3
    have zD3 := whole_lt DX3
    have SV := Lib.hid (And.intro PP3 (And.intro EB3 (And.intro RX3 (And.intro DX3 (And.intro LX3 (And.intro ST3 B3))))))
    have SE := Lib.hid pe
    have lw := lo_le PP.out
    have lE := PP.out.loE
    clear pp pe PP3 EB3 RX3 DX3 BX3 LX3 ST3 B3 RX2 BX2 x5 e5 r0 r1 r2 r3 f1
    go_region_law (first
      | (refine step_append_ints6 rfl (.tmp 55) (.tmp 59) rfl rfl lo (.slice (some ⟨g1, 0, none⟩) m m) (d.s.take m) rfl (by exact SV.out.2.2.2.2.2.1) _ ([x.r].take l) rfl (by exact SV.out.2.2.2.2.1) (by have := LT3.out; have := LL3.out; omega) (by have := lo_le SV.out.1; exact this) ?_
         intro v4 w4 hr4 hg4 hat4
         obtain ⟨_, C4, j4, rfl, _⟩ := row_ints hr4
         rw [LN4.out] at hr4 hat4 ⊢
         obtain ⟨PP3, EB3, RX3, DX3, LX3, ST3, B3⟩ := SV.out
         have PP4 := Lib.hid (pair_stack (pair_below PP3 (by repeat (first | with_reducible exact Below.refl _ _ | with_reducible refine below_drewN ?_ _ | with_reducible refine Below.drew ?_))) hg4 hr4 hat4)
         have n1 := PP3.own g1 (mine_first g1 rfl)
         have EB4 := whole_keep EB3 (hg4.block E (by exact zE3) (fun e => by simp [Value.ownBlock] at e; omega))
         have RX4 := whole_keep RX3 (hg4.block (w.heap.size + 1) (by exact zR3) (fun e => by simp [Value.ownBlock] at e; omega))
         have DX4 := whole_keep DX3 (hg4.block (W1.heap.size) (by exact zD3) (fun e => by simp [Value.ownBlock] at e; omega))
         have e4 := pair_first EB4
         obtain ⟨y0, y1, y2, y3⟩ := deed_cells DX4
         obtain ⟨r0, r1, r2, r3⟩ := deed_cells RX4
         have fE := whole_free EB4
         have fR := whole_free RX4
         have lE4 := whole_lt EB4
         have lR4 := whole_lt RX4
         have lD4 := whole_lt DX4
         have NE4 := Lib.hid (pair_not (r := w.heap.size + 1) (v' := v') PP3 (x' := .slice C4 (m + l) j4) hat4 (fun k hk => by have := SE.out k hk; omega) (by omega))
         have BW3 := pb.trans (B3.mono lw)
         have lw3 := lo_le PP3
         have BL4 := Lib.hid (below_own hg4 hg1 (show lo ≤ W3.drew.heap.size from lw3) BW3.drew)
         clear hg4 hr4 hat4 BW3 PP3 EB3 RX3 DX3 LX3 ST3 B3 EB4 RX4 DX4))
    all_goals
      go_wp2
      refine bodyPost_ret (v := .tuple #[.agg #[.int .i64 x.p, .int .i64 x.a, .int .i64 x.b, .int .i64 x.r], .int .i64 0]) (by simp [results, Try.results100, go_sem, *]) rfl ?_
      exact ⟨rfl, ⟨v', _, by repeat (first | with_reducible exact PP4.out | with_reducible refine pair_put ?_ NE4.out _)⟩, by repeat (first | with_reducible exact BL4.out | with_reducible refine below_put ?_ (by omega) _ | with_reducible refine below_drewN ?_ _ | with_reducible refine Below.drew ?_)⟩

set_option maxRecDepth 100000 in
set_option maxHeartbeats 1000000 in
theorem serve_nil (w : World) (lo G E : Nat) (vh vd : Value) (h h' : Ht) (d : Dt) (x : Dd) (t l m : Nat) (fv : FuncId) (p : Pair w lo G E vh vd h d) (hf : HtFine h) (df : DtFine d) (ht : t ≤ 2) (hl : l ≤ 1) (hm : d.s.length = m + t) (hu : m + l ≤ 32)
    (he : EnteredF fv) (C : Hid (∀ W tv, Below w.heap.size w W → TkAt W tv (d.s.drop m) → Calls Try.prog fv #[.pointer (some ⟨G, 0, none⟩), tv] W (SvcOf W lo G vh (h', x, 0)))) (t0 : t = 0) (hk : ∀ A n k y z a b c, vd = .agg #[.slice A n k, y, z, a, b, c] → A = none ∧ m = k) :
    Calls Try.prog 100 #[.agg #[.int .i64 t, .int .i64 l, .func (.func fv) #[] #[]], .pointer (some ⟨G, 0, none⟩), .pointer (some ⟨E, 0, none⟩)] w (ServeOf w lo G E (h', { d with s := d.s.take m ++ [x.r].take l }, x, 0)) := by
  have PP := Lib.hid p
  obtain ⟨A1, k1, A2, k2, A3, k3, rfl, hw, hrow⟩ := pair_form p
  obtain ⟨d0, d1, d2, d3, d4, d5⟩ := six_cells hw
  have ze := whole_lt hw
  have sl := fine_sl df
  have s1 : IntKind.i64.wrap ((d.s.length : Int) - t) = (m : Int) := by rw [show (d.s.length : Int) - t = m by omega]; exact IntWalk.i64_in _ (by omega)
  have s2 : ¬ ((m : Int) < 0) := by omega
  have s3 : IntKind.i64.wrap ((m : Int) + l) = (m : Int) + l := IntWalk.i64_in _ (by omega)
  have s4 : ¬ ((32 : Int) < (m : Int) + l) := by omega
  have s6 : (m : Int) ≤ d.s.length := by omega
  have hk1 := (row_cap hrow).1
  have hk1m := (row_cap hrow).2
  have s7 : m ≤ k1 := by omega
  have s0 : d.s.length - m = t := by omega
  unfold maxLen at hk1m
  unfold EnteredF at he
  have HROW := Lib.hid hrow
  have HM := Lib.hid hm
  obtain ⟨hA, kd⟩ := hk _ _ _ _ _ _ _ _ rfl
  subst kd
  subst hA
  have TK := Lib.hid (fun W (hb : Below w.heap.size w W) (tv : Value) => (show TkAt W tv (d.s.drop m) from .inl (List.eq_nil_of_length_eq_zero (by rw [List.length_drop]; omega))))
  have T0 := Lib.hid t0
  clear t0
  obtain ⟨W0, hW0⟩ : ∃ W0, W0 = (w.alloc (.cells #[.int .i64 t, .int .i64 l, .func (.func fv) #[] #[]] 118)).alloc (.cells #[.int .i64 0, .int .i64 0, .int .i64 0, .int .i64 0] 48) := ⟨_, rfl⟩
  have WS0 : W0.heap.size = w.heap.size + 2 := by rw [hW0]; exact size_two w _ _
  have BX0 : Whole W0 w.heap.size 118 #[.int .i64 t, .int .i64 l, .func (.func fv) #[] #[]] := by rw [hW0]; exact whole_alloc (whole_new _ _ _) _
  have RX0 : Whole W0 (w.heap.size + 1) 48 #[.int .i64 0, .int .i64 0, .int .i64 0, .int .i64 0] := by rw [hW0]; exact whole_second w _ _ _
  have WB0 : Below w.heap.size w W0 := by rw [hW0]; exact below_alloc (below_alloc (Below.refl _ _) _) _
  have EX0 := Lib.hid (whole_below hw WB0)
  have BXH := Lib.hid BX0
  have RXH := Lib.hid RX0
  have WBH := Lib.hid WB0
  have WSH := Lib.hid WS0
  have HW0 := Lib.hid hW0
  clear hk hw p hf df hrow hm hW0 BX0 RX0 WB0 WS0
  go_enter Try.func100, Try.ntmps100
  go_wp2
  go_quiet (fail)
  go_wp2_with fail
  rw [← HW0.out]
  obtain ⟨W1, hW1⟩ : ∃ W1, W1 = W0.drewN nq := ⟨_, rfl⟩
  rw [← hW1]
  have BX : Whole W1 w.heap.size 118 #[.int .i64 t, .int .i64 l, .func (.func fv) #[] #[]] := by rw [hW1]; exact whole_drewN BXH.out _
  have RX : Hid (Whole W1 (w.heap.size + 1) 48 #[.int .i64 0, .int .i64 0, .int .i64 0, .int .i64 0]) := Lib.hid (by rw [hW1]; exact whole_drewN RXH.out _)
  have WB : Hid (Below w.heap.size w W1) := Lib.hid (by rw [hW1]; exact below_drewN WBH.out _)
  have WS : w.heap.size + 1 < W1.heap.size := by rw [hW1]; show _ < W0.heap.size; rw [WSH.out]; omega
  have EX : Whole W1 E 34 #[.slice none d.s.length m, .slice A2 d.b.length k2, .slice A3 d.c.length k3, .int .i64 d.h, .int .i64 d.n, .string d.o] := by rw [hW1]; exact whole_drewN EX0.out _
  have BH := Lib.hid BX
  have zE := whole_lt EX
  have zB := whole_lt BX
  have WL := Lib.hid (Nat.le_of_lt (Nat.lt_of_succ_lt WS))
  have x2 := whole_cell BX 2
  simp at x2
  have e0 := (six_cells EX).1
  clear HW0 d0 d1 d2 d3 d4 d5 EX0 BXH RXH WBH WSH hW1 BX EX
  go_region_held3 (fun w' => w'.cell? ⟨w.heap.size, 2, none⟩ = some (.func (.func fv) #[] #[]) ∧ w'.cell? ⟨E, 0, none⟩ = some (.slice none d.s.length m))
    (refine ⟨?_, ?_⟩ <;> repeat (first | with_reducible assumption | with_reducible refine cell_old ?_ _ | with_reducible refine cell_drewQ ?_ | with_reducible refine cell_drewNQ ?_ _ | with_reducible refine cell_set ?_ (by omega) _))
    (first
    | (go_at_fn fv
       refine (C.out _ _ ?hB ?hT).mono ?_
       (case hB => repeat (first | with_reducible exact WB.out | with_reducible refine below_alloc ?_ _ | with_reducible refine below_drewN ?_ _ | with_reducible refine Below.drew ?_))
       (case hT => exact TK.out _ (by repeat (first | with_reducible exact WB.out | with_reducible refine below_alloc ?_ _ | with_reducible refine below_drewN ?_ _ | with_reducible refine Below.drew ?_)) _)
       rintro e w2 hsv
       obtain ⟨v', pp, pe, pb, pk⟩ := pair_svc PP.out (by repeat (first | with_reducible exact WB.out | with_reducible refine below_alloc ?_ _ | with_reducible refine below_drewN ?_ _ | with_reducible refine Below.drew ?_)) hsv
       obtain ⟨he2, _⟩ := hsv
       dsimp only at he2
       subst he2
       have RX2 := pk (w.heap.size + 1) 48 #[.int .i64 0, .int .i64 0, .int .i64 0, .int .i64 0] (by omega) (by repeat (first | with_reducible exact RX.out | with_reducible exact BH.out | with_reducible exact whole_new _ _ _ | with_reducible refine whole_alloc ?_ _ | with_reducible refine whole_drewN ?_ _ | with_reducible refine whole_drewQ ?_))
       have BX2 := pk w.heap.size 118 #[.int .i64 t, .int .i64 l, .func (.func fv) #[] #[]] (by omega) (by repeat (first | with_reducible exact RX.out | with_reducible exact BH.out | with_reducible exact whole_new _ _ _ | with_reducible refine whole_alloc ?_ _ | with_reducible refine whole_drewN ?_ _ | with_reducible refine whole_drewQ ?_))
       have x5 : w2.cell? ⟨w.heap.size, 2, none⟩ = some (.func (.func fv) #[] #[]) := whole_cell BX2 2
       have e5 := data_first pp
       obtain ⟨r0, r1, r2, r3⟩ := deed_cells RX2
       have f1 := whole_free RX2
       have l1 := whole_lt RX2
       (first
         | (have XD := pk W1.heap.size 48 #[.int .i64 0, .int .i64 0, .int .i64 0, .int .i64 0] WL.out (whole_drewQ (whole_new W1 _ _))
            obtain ⟨y0, y1, y2, y3⟩ := deed_cells XD
            have f2 := whole_free XD
            have l2 := whole_lt XD
            skip)
         | skip)))
  · go_wp2_with fail
    generalize hW3 : World.alloc _ _ = W3
    have B3 : Below w.heap.size w2 W3 := by rw [← hW3]; repeat (first | with_reducible exact Below.refl _ _ | with_reducible refine below_put ?_ (by omega) _ | with_reducible refine below_new ?_ (by omega) _ | with_reducible refine below_drewN ?_ _ | with_reducible refine Below.drew ?_)
    have PP3 := pair_up pp pe B3 B3.size
    have BX3 : Whole W3 w.heap.size 118 #[.int .i64 t, .int .i64 l, .func (.func fv) #[] #[]] := by rw [← hW3]; repeat (first | with_reducible exact BX2 | with_reducible refine whole_alloc ?_ _ | with_reducible refine whole_store ?_ (by omega))
    have RX3 : Whole W3 (w.heap.size + 1) 48 #[.int .i64 0, .int .i64 0, .int .i64 0, .int .i64 0] := by rw [← hW3]; repeat (first | with_reducible exact RX2 | with_reducible refine whole_alloc ?_ _ | with_reducible refine whole_store ?_ (by omega))
    have DX3 : Whole W3 w2.heap.size 48 #[.int .i64 x.p, .int .i64 x.a, .int .i64 x.b, .int .i64 x.r] := by rw [← hW3]; exact whole_alloc (whole_new w2 _ _) _
    have LX3 : Ints W3 (.slice (some ⟨w2.heap.size + 1, 0, none⟩) l 1) ([x.r].take l) := ints_left (by rw [← hW3]; exact whole_second w2 _ _ _) hl
    clear hW3
    obtain ⟨ST3, n3⟩ := pair_row PP3 (k := m) (by omega)
    have LT3 : Hid ((d.s.take m).length = m) := Lib.hid (by rw [List.length_take]; omega)
    have LL3 : Hid (([x.r].take l).length ≤ 1) := Lib.hid (by rw [List.length_take]; exact Nat.min_le_right _ _)
    have LN4 : Hid ((d.s.take m ++ [x.r].take l).length = m + l) := Lib.hid (by rw [List.length_append, LT3.out, List.length_take, List.length_singleton, Nat.min_eq_left hl])
    have q0 := data_first PP3
    have q1 : W3.cell? ⟨w.heap.size, 1, none⟩ = some (.int .i64 l) := whole_cell BX3 1
    have q2 : (l : Int) ≤ 1 := by omega
    have EB3 := pair_box PP3
    have zE3 := whole_lt EB3
    have zR3 := whole_lt RX3
    have zD3 := whole_lt DX3
    have SV := Lib.hid (And.intro PP3 (And.intro EB3 (And.intro RX3 (And.intro DX3 (And.intro LX3 (And.intro ST3 B3))))))
    have SE := Lib.hid pe
    have lw := lo_le PP.out
    have lE := PP.out.loE
    clear pp pe PP3 EB3 RX3 DX3 BX3 LX3 ST3 B3 RX2 BX2 x5 e5 r0 r1 r2 r3 f1
    go_region_law (first
      | (refine step_append_ints6 rfl (.tmp 55) (.tmp 59) rfl rfl lo (.slice none m m) (d.s.take m) rfl (by exact SV.out.2.2.2.2.2.1) _ ([x.r].take l) rfl (by exact SV.out.2.2.2.2.1) (by have := LT3.out; have := LL3.out; omega) (by have := lo_le SV.out.1; exact this) ?_
         intro v4 w4 hr4 hg4 hat4
         obtain ⟨_, C4, j4, rfl, _⟩ := row_ints hr4
         rw [LN4.out] at hr4 hat4 ⊢
         obtain ⟨PP3, EB3, RX3, DX3, LX3, ST3, B3⟩ := SV.out
         have PP4 := Lib.hid (pair_stack (pair_below PP3 (by repeat (first | with_reducible exact Below.refl _ _ | with_reducible refine below_drewN ?_ _ | with_reducible refine Below.drew ?_))) hg4 hr4 hat4)
         have EB4 := whole_keep EB3 (hg4.block E (by exact zE3) (fun e => by simp [Value.ownBlock] at e))
         have RX4 := whole_keep RX3 (hg4.block (w.heap.size + 1) (by exact zR3) (fun e => by simp [Value.ownBlock] at e))
         have DX4 := whole_keep DX3 (hg4.block (w2.heap.size) (by exact zD3) (fun e => by simp [Value.ownBlock] at e))
         have e4 := pair_first EB4
         obtain ⟨y0, y1, y2, y3⟩ := deed_cells DX4
         obtain ⟨r0, r1, r2, r3⟩ := deed_cells RX4
         have fE := whole_free EB4
         have fR := whole_free RX4
         have lE4 := whole_lt EB4
         have lR4 := whole_lt RX4
         have lD4 := whole_lt DX4
         have NE4 := Lib.hid (pair_not (r := w.heap.size + 1) (v' := v') PP3 (x' := .slice C4 (m + l) j4) hat4 (fun k hk => by have := SE.out k hk; omega) (by omega))
         have BW3 := pb.trans (B3.mono lw)
         have lw3 := lo_le PP3
         have BL4 := Lib.hid (below_ownN hg4 (show lo ≤ W3.drew.heap.size from lw3) BW3.drew)
         clear hg4 hr4 hat4 BW3 PP3 EB3 RX3 DX3 LX3 ST3 B3 EB4 RX4 DX4))
    all_goals
      go_wp2
      refine bodyPost_ret (v := .tuple #[.agg #[.int .i64 x.p, .int .i64 x.a, .int .i64 x.b, .int .i64 x.r], .int .i64 0]) (by simp [results, Try.results100, go_sem, *]) rfl ?_
      exact ⟨rfl, ⟨v', _, by repeat (first | with_reducible exact PP4.out | with_reducible refine pair_put ?_ NE4.out _)⟩, by repeat (first | with_reducible exact BL4.out | with_reducible refine below_put ?_ (by omega) _ | with_reducible refine below_drewN ?_ _ | with_reducible refine Below.drew ?_)⟩
  · go_wp2_with fail
    generalize hW3 : World.alloc _ _ = W3
    have B3 : Below w.heap.size w2 W3 := by rw [← hW3]; repeat (first | with_reducible exact Below.refl _ _ | with_reducible refine below_put ?_ (by omega) _ | with_reducible refine below_new ?_ (by omega) _ | with_reducible refine below_drewN ?_ _ | with_reducible refine Below.drew ?_)
    have PP3 := pair_up pp pe B3 B3.size
    have BX3 : Whole W3 w.heap.size 118 #[.int .i64 t, .int .i64 l, .func (.func fv) #[] #[]] := by rw [← hW3]; repeat (first | with_reducible exact BX2 | with_reducible refine whole_alloc ?_ _ | with_reducible refine whole_store ?_ (by omega))
    have RX3 : Whole W3 (w.heap.size + 1) 48 #[.int .i64 0, .int .i64 0, .int .i64 0, .int .i64 0] := by rw [← hW3]; repeat (first | with_reducible exact RX2 | with_reducible refine whole_alloc ?_ _ | with_reducible refine whole_store ?_ (by omega))
    have DX3 : Whole W3 W1.heap.size 48 #[.int .i64 x.p, .int .i64 x.a, .int .i64 x.b, .int .i64 x.r] := by rw [← hW3]; exact whole_alloc (whole_set (whole_set (whole_set (whole_set XD 0 _) 1 _) 2 _) 3 _) _
    have LX3 : Ints W3 (.slice (some ⟨w2.heap.size, 0, none⟩) l 1) ([x.r].take l) := ints_left (by rw [← hW3]; exact whole_new4 w2 _ _ _ _ _ _ _ _ _ _) hl
    clear hW3
    obtain ⟨ST3, n3⟩ := pair_row PP3 (k := m) (by omega)
    have LT3 : Hid ((d.s.take m).length = m) := Lib.hid (by rw [List.length_take]; omega)
    have LL3 : Hid (([x.r].take l).length ≤ 1) := Lib.hid (by rw [List.length_take]; exact Nat.min_le_right _ _)
    have LN4 : Hid ((d.s.take m ++ [x.r].take l).length = m + l) := Lib.hid (by rw [List.length_append, LT3.out, List.length_take, List.length_singleton, Nat.min_eq_left hl])
    have q0 := data_first PP3
    have q1 : W3.cell? ⟨w.heap.size, 1, none⟩ = some (.int .i64 l) := whole_cell BX3 1
    have q2 : (l : Int) ≤ 1 := by omega
    have EB3 := pair_box PP3
    have zE3 := whole_lt EB3
    have zR3 := whole_lt RX3
    have zD3 := whole_lt DX3
    have SV := Lib.hid (And.intro PP3 (And.intro EB3 (And.intro RX3 (And.intro DX3 (And.intro LX3 (And.intro ST3 B3))))))
    have SE := Lib.hid pe
    have lw := lo_le PP.out
    have lE := PP.out.loE
    clear pp pe PP3 EB3 RX3 DX3 BX3 LX3 ST3 B3 RX2 BX2 x5 e5 r0 r1 r2 r3 f1
    go_region_law (first
      | (refine step_append_ints6 rfl (.tmp 55) (.tmp 59) rfl rfl lo (.slice none m m) (d.s.take m) rfl (by exact SV.out.2.2.2.2.2.1) _ ([x.r].take l) rfl (by exact SV.out.2.2.2.2.1) (by have := LT3.out; have := LL3.out; omega) (by have := lo_le SV.out.1; exact this) ?_
         intro v4 w4 hr4 hg4 hat4
         obtain ⟨_, C4, j4, rfl, _⟩ := row_ints hr4
         rw [LN4.out] at hr4 hat4 ⊢
         obtain ⟨PP3, EB3, RX3, DX3, LX3, ST3, B3⟩ := SV.out
         have PP4 := Lib.hid (pair_stack (pair_below PP3 (by repeat (first | with_reducible exact Below.refl _ _ | with_reducible refine below_drewN ?_ _ | with_reducible refine Below.drew ?_))) hg4 hr4 hat4)
         have EB4 := whole_keep EB3 (hg4.block E (by exact zE3) (fun e => by simp [Value.ownBlock] at e))
         have RX4 := whole_keep RX3 (hg4.block (w.heap.size + 1) (by exact zR3) (fun e => by simp [Value.ownBlock] at e))
         have DX4 := whole_keep DX3 (hg4.block (W1.heap.size) (by exact zD3) (fun e => by simp [Value.ownBlock] at e))
         have e4 := pair_first EB4
         obtain ⟨y0, y1, y2, y3⟩ := deed_cells DX4
         obtain ⟨r0, r1, r2, r3⟩ := deed_cells RX4
         have fE := whole_free EB4
         have fR := whole_free RX4
         have lE4 := whole_lt EB4
         have lR4 := whole_lt RX4
         have lD4 := whole_lt DX4
         have NE4 := Lib.hid (pair_not (r := w.heap.size + 1) (v' := v') PP3 (x' := .slice C4 (m + l) j4) hat4 (fun k hk => by have := SE.out k hk; omega) (by omega))
         have BW3 := pb.trans (B3.mono lw)
         have lw3 := lo_le PP3
         have BL4 := Lib.hid (below_ownN hg4 (show lo ≤ W3.drew.heap.size from lw3) BW3.drew)
         clear hg4 hr4 hat4 BW3 PP3 EB3 RX3 DX3 LX3 ST3 B3 EB4 RX4 DX4))
    all_goals
      go_wp2
      refine bodyPost_ret (v := .tuple #[.agg #[.int .i64 x.p, .int .i64 x.a, .int .i64 x.b, .int .i64 x.r], .int .i64 0]) (by simp [results, Try.results100, go_sem, *]) rfl ?_
      exact ⟨rfl, ⟨v', _, by repeat (first | with_reducible exact PP4.out | with_reducible refine pair_put ?_ NE4.out _)⟩, by repeat (first | with_reducible exact BL4.out | with_reducible refine below_put ?_ (by omega) _ | with_reducible refine below_drewN ?_ _ | with_reducible refine Below.drew ?_)⟩

end Go.Proofs.Ytjlfbmplmddceaa
