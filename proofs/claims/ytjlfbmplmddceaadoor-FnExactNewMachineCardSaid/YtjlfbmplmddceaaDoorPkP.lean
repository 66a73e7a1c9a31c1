/- PkP: several of my texts, laid together: McF, DatM, HsG, HiB, HsH, McG. -/
import Derived.Test.YtjlfbmplmddceaaDoorPkM
import Derived.Test.YtjlfbmplmddceaaDoorPkN
import Derived.Test.YtjlfbmplmddceaaDoorDatP
import Derived.Test.YtjlfbmplmddceaaDoorPkL
import Derived.RegionTactic
import Derived.ChangeAlike
import Derived.BigRegion
import Derived.Deep.OwnRows
namespace Go.Proofs.YtjlfbmplmddceaaDoor
open Go.RowKit
set_option linter.unusedVariables false
set_option linter.unusedSimpArgs false

theorem wrow_os {S : Nat → Prop} {w w' : World} {lo : Nat} {v : Value} {Q : List Wd} (hn : Only S w w') (h : WRow w lo v Q) (hs : ∀ g, Blk v g → ¬ S g) : WRow w' lo v Q := by
  obtain ⟨⟨h1, h2⟩, hq⟩ := h
  refine ⟨⟨h1, ?_⟩, hq⟩
  rcases h2 with h2 | ⟨g, cap, cur, hv, hb, hg, r⟩
  · exact .inl h2
  · exact .inr ⟨g, cap, cur, hv, hb, by rw [hn.block g (Array.getElem?_eq_some_iff.1 hg).1 (hs g (.inl (by rw [hv]; rfl)))]; exact hg, r⟩

theorem row_os {S : Nat → Prop} {w w' : World} {lo : Nat} {v : Value} {Q : List Int} (hn : Only S w w') (h : Row w lo v Q) (hs : ∀ g, Blk v g → ¬ S g) : Row w' lo v Q := row_keep h fun g e => hn.block g (row_lt h g e).2 (hs g (.inl e))
theorem crow_os {S : Nat → Prop} {w w' : World} {lo : Nat} {v : Value} {Q : List Cl} (hn : Only S w w') (h : CRow w lo v Q) (hs : ∀ g, Blk v g → ¬ S g) : CRow w' lo v Q := crow_keep h fun g e => hn.block g (crow_lt h g e).2 (hs g (.inl e))
theorem hostT_os {S : Nat → Prop} {w w' : World} {lo : Nat} {v : Value} {h : Ht} (hn : Only S w w') (H : HostT w lo v h) (hs : ∀ g, Blk v g → ¬ S g) : HostT w' lo v h := hostT_only H hn fun g e => hs g (.inr e)
theorem datOf_os {S : Nat → Prop} {w w' : World} {lo hi : Nat} {v : Value} {d : Dt} (hn : Only S w w') (H : DatOf w lo hi v d) (hs : ∀ g, Blk v g → ¬ S g) : DatOf w' lo hi v d := datOf_only H hn fun g e => hs g (.inr e)

theorem blk_wrow {w : World} {lo g : Nat} {v : Value} {Q : List Wd} (h : WRow w lo v Q) (hg : Blk v g) : lo ≤ g ∧ g < w.heap.size := by
  obtain ⟨_, _, A, c, rfl, _⟩ := wrow_wds h
  exact wrow_lt h g (blk_slice hg)
theorem blk_row {w : World} {lo g : Nat} {v : Value} {Q : List Int} (h : Row w lo v Q) (hg : Blk v g) : lo ≤ g ∧ g < w.heap.size := by
  obtain ⟨_, A, c, rfl, _⟩ := row_ints h
  exact row_lt h g (blk_slice hg)
theorem blk_crow {w : World} {lo g : Nat} {v : Value} {Q : List Cl} (h : CRow w lo v Q) (hg : Blk v g) : lo ≤ g ∧ g < w.heap.size := by
  obtain ⟨_, A, c, rfl, _⟩ := crow_dds h
  exact crow_lt h g (blk_slice hg)
theorem blk_host {w : World} {lo g : Nat} {v : Value} {h : Ht} (H : HostT w lo v h) (hg : Blk v g) : lo ≤ g ∧ g < w.heap.size := by
  obtain ⟨A1, k1, A2, k2, A3, k3, A4, k4, rfl⟩ := hostIn_form (hostT_in H)
  exact hostT_mine H (blk_agg hg)
theorem blk_data {w : World} {lo hi g : Nat} {v : Value} {d : Dt} (H : DatOf w lo hi v d) (hg : Blk v g) : lo ≤ g ∧ g < hi := by
  obtain ⟨A1, k1, A2, k2, A3, k3, rfl⟩ := datIn_form (datOf_in H)
  exact datOf_mine H (blk_agg hg)

/-- A block of a machine's is one of its parts'. -/
theorem mine_parts {G : Nat} {x k a b c g s n q z i1 i2 i3 i4 i5 i6 : Value} (h : Mine (.agg #[x, k, a, b, c, i1, i2, i3, g, s, n, i4, q, z, i5, i6]) G) (e1 : i1.ownBlock = none) (e2 : i2.ownBlock = none) (e3 : i3.ownBlock = none) (e4 : i4.ownBlock = none) (e5 : i5.ownBlock = none) (e6 : i6.ownBlock = none) :
    Blk x G ∨ Blk k G ∨ Blk (.agg #[a, b, c, i1, i2, i3]) G ∨ Blk (.agg #[g, s, n, i4, q]) G ∨ Blk z G := by
  obtain ⟨u, hu, e⟩ := mine_agg.1 h
  simp only [List.mem_cons, List.not_mem_nil, or_false] at hu
  rcases hu with rfl | rfl | rfl | rfl | rfl | rfl | rfl | rfl | rfl | rfl | rfl | rfl | rfl | rfl | rfl | rfl
  · exact .inl (.inl e)
  · exact .inr (.inl (.inl e))
  · exact .inr (.inr (.inl (.inr (mine_agg.2 ⟨_, by simp, e⟩))))
  · exact .inr (.inr (.inl (.inr (mine_agg.2 ⟨_, by simp, e⟩))))
  · exact .inr (.inr (.inl (.inr (mine_agg.2 ⟨_, by simp, e⟩))))
  · rw [e1] at e; cases e
  · rw [e2] at e; cases e
  · rw [e3] at e; cases e
  · exact .inr (.inr (.inr (.inl (.inr (mine_agg.2 ⟨_, by simp, e⟩)))))
  · exact .inr (.inr (.inr (.inl (.inr (mine_agg.2 ⟨_, by simp, e⟩)))))
  · exact .inr (.inr (.inr (.inl (.inr (mine_agg.2 ⟨_, by simp, e⟩)))))
  · rw [e4] at e; cases e
  · exact .inr (.inr (.inr (.inl (.inr (mine_agg.2 ⟨_, by simp, e⟩)))))
  · exact .inr (.inr (.inr (.inr (.inl e))))
  · rw [e5] at e; cases e
  · rw [e6] at e; cases e

/-- A part's block is the machine's. -/
theorem parts_mine {G : Nat} {x k a b c g s n q z i1 i2 i3 i4 i5 i6 : Value} (h : Blk x G ∨ Blk k G ∨ Blk (.agg #[a, b, c, i1, i2, i3]) G ∨ Blk (.agg #[g, s, n, i4, q]) G ∨ Blk z G) (hx : ∀ cs, x ≠ .agg cs) (hk : ∀ cs, k ≠ .agg cs) (hz : ∀ cs, z ≠ .agg cs) :
    Mine (.agg #[x, k, a, b, c, i1, i2, i3, g, s, n, i4, q, z, i5, i6]) G := by
  rcases h with (h | ⟨cs, e, _⟩) | (h | ⟨cs, e, _⟩) | h | h | (h | ⟨cs, e, _⟩)
  · exact mine_agg.2 ⟨x, by simp, h⟩
  · exact absurd e (hx cs)
  · exact mine_agg.2 ⟨k, by simp, h⟩
  · exact absurd e (hk cs)
  · obtain ⟨u, hu, e⟩ := mine_agg.1 (blk_agg h)
    simp only [List.mem_cons, List.not_mem_nil, or_false] at hu
    exact mine_agg.2 ⟨u, by simp only [List.mem_cons, List.not_mem_nil, or_false]; rcases hu with h | h | h | h | h | h <;> simp [h], e⟩
  · obtain ⟨u, hu, e⟩ := mine_agg.1 (blk_agg h)
    simp only [List.mem_cons, List.not_mem_nil, or_false] at hu
    exact mine_agg.2 ⟨u, by simp only [List.mem_cons, List.not_mem_nil, or_false]; rcases hu with h | h | h | h | h <;> simp [h], e⟩
  · exact mine_agg.2 ⟨z, by simp, h⟩
  · exact absurd e (hz cs)

theorem mchT_mine {w : World} {lo G : Nat} {v : Value} {m : Mc} (h : MchT w lo v m) (hg : Mine v G) : lo ≤ G ∧ G < w.heap.size := by
  obtain ⟨x, k, a, b, c, g, s, n, q, z, rfl, h1, h2, h3, h4, h5, _⟩ := h
  rcases mine_parts hg rfl rfl rfl rfl rfl rfl with e | e | e | e | e
  · exact blk_wrow h1 e
  · exact blk_row h2 e
  · exact blk_data h3 e
  · exact blk_host h4 e
  · exact blk_crow h5 e

theorem mchT_only {S : Nat → Prop} {w w' : World} {lo : Nat} {v : Value} {m : Mc} (h : MchT w lo v m) (hn : Only S w w') (hs : ∀ g, Mine v g → ¬ S g) : MchT w' lo v m := by
  obtain ⟨x, k, a, b, c, g, s, n, q, z, rfl, h1, h2, h3, h4, h5, hp⟩ := h
  have hx : ∀ cs, x ≠ .agg cs := by obtain ⟨_, _, A, c, rfl, _⟩ := wrow_wds h1; intro cs e; cases e
  have hk : ∀ cs, k ≠ .agg cs := by obtain ⟨_, A, c, rfl, _⟩ := row_ints h2; intro cs e; cases e
  have hz : ∀ cs, z ≠ .agg cs := by obtain ⟨_, A, c, rfl, _⟩ := crow_dds h5; intro cs e; cases e
  exact ⟨x, k, a, b, c, g, s, n, q, z, rfl, wrow_os hn h1 fun G e => hs G (parts_mine (.inl e) hx hk hz), row_os hn h2 fun G e => hs G (parts_mine (.inr (.inl e)) hx hk hz),
    datOf_top (datOf_os hn h3 fun G e => hs G (parts_mine (.inr (.inr (.inl e))) hx hk hz)) hn.size, hostT_os hn h4 fun G e => hs G (parts_mine (.inr (.inr (.inr (.inl e)))) hx hk hz), crow_os hn h5 fun G e => hs G (parts_mine (.inr (.inr (.inr (.inr e)))) hx hk hz), hp⟩

theorem mchT_below {w w' : World} {lo : Nat} {v : Value} {m : Mc} (h : MchT w lo v m) (hb : Below w.heap.size w w') : MchT w' lo v m := mchT_only (S := fun _ => False) h (below_only hb) fun _ _ e => e

theorem mchT_b {w w' : World} {lo : Nat} {v : Value} {m : Mc} (hb : Below w.heap.size w w') (h : MchT w lo v m) : MchT w' lo v m := mchT_below h hb

/-- How many numbers a machine's rows have. -/
def numM (m : Mc) : Nat := 3 * m.w.length + m.k.length + numD m.d + numH m.h + 4 * m.c.length

/-- The machine with marks from 1 on in its rows. -/
def markM (m : Mc) : Mc := ⟨marksW 1 m.w.length, marksI (1 + 3 * m.w.length) m.k.length, markD (1 + 3 * m.w.length + m.k.length) m.d, markH (1 + 3 * m.w.length + m.k.length + numD m.d) m.h, marksC (1 + 3 * m.w.length + m.k.length + numD m.d + numH m.h) m.c.length, m.i, m.f⟩

theorem numD_small {d : Dt} (h : SmallD d) : numD d ≤ 3145728 := by unfold numD; obtain ⟨h1, h2, h3, h4⟩ := h; omega
theorem numH_small {h : Ht} (hs : SmallH h) : numH h ≤ 7340032 := by unfold numH; obtain ⟨h1, h2, h3, h4⟩ := hs; omega

theorem sep_sym {u v : Value} (h : Sep u v) : Sep v u := fun g hg hv => h g hv hg

set_option maxRecDepth 100000 in
set_option maxHeartbeats 4000000 in
theorem markMachine_any (v : Value) (m : Mc) (lo : Nat) (w : World) (hv : MchT w lo v m) (hs : SmallM m) :
    Calls Tryd.prog 22 #[v, .int .i64 1] w fun e w' => e = .returned (.int .i64 ((1 + numM m : Nat) : Int)) ∧ MchT w' lo v (markM m) ∧ Only (Mine v) w w' := by
  have HS := Lib.hid hs
  have HV := Lib.hid hv
  obtain ⟨A1, k1, A2, k2, A3, k3, A4, k4, A5, k5, A6, k6, A7, k7, A8, k8, A9, k9, A0, k0, rfl⟩ := mchIn_form (mchT_in hv)
  have MM : Hid (∀ G, Mine (.agg #[.slice A1 m.w.length k1, .slice A2 m.k.length k2, .slice A3 m.d.s.length k3, .slice A4 m.d.b.length k4, .slice A5 m.d.c.length k5, .int .i64 m.d.h, .int .i64 m.d.n, .string m.d.o, .slice A6 m.h.g.length k6, .slice A7 m.h.s.length k7, .slice A8 m.h.n.length k8, .int .i64 m.h.c, .slice A9 m.h.d.length k9, .slice A0 m.c.length k0, .int .i64 m.i, .int .i64 m.f]) G → G < w.heap.size) := Lib.hid fun G e => (mchT_mine HV.out e).2
  obtain ⟨x, k, a, b, c, g, s, n, q, z, e, hx, hk, hd, hh, hz, q0, q1, q2, q3, q4, q5, q6, q7, q8, q9⟩ := hv
  simp only [Value.agg.injEq, Array.mk.injEq, List.cons.injEq, and_true, true_and] at e
  obtain ⟨rfl, rfl, rfl, rfl, rfl, rfl, rfl, rfl, rfl, rfl⟩ := e
  have p0 := Lib.hid q0
  have p1 := Lib.hid q1
  have p2 := Lib.hid q2
  have p3 := Lib.hid q3
  have p4 := Lib.hid q4
  have p5 := Lib.hid q5
  have p6 := Lib.hid q6
  have p7 := Lib.hid q7
  have p8 := Lib.hid q8
  have p9 := Lib.hid q9
  have PM : Hid (∀ G, Blk (.slice A1 m.w.length k1) G ∨ Blk (.slice A2 m.k.length k2) G ∨ Blk (.agg #[.slice A3 m.d.s.length k3, .slice A4 m.d.b.length k4, .slice A5 m.d.c.length k5, .int .i64 m.d.h, .int .i64 m.d.n, .string m.d.o]) G ∨ Blk (.agg #[.slice A6 m.h.g.length k6, .slice A7 m.h.s.length k7, .slice A8 m.h.n.length k8, .int .i64 m.h.c, .slice A9 m.h.d.length k9]) G ∨ Blk (.slice A0 m.c.length k0) G → Mine (.agg #[.slice A1 m.w.length k1, .slice A2 m.k.length k2, .slice A3 m.d.s.length k3, .slice A4 m.d.b.length k4, .slice A5 m.d.c.length k5, .int .i64 m.d.h, .int .i64 m.d.n, .string m.d.o, .slice A6 m.h.g.length k6, .slice A7 m.h.s.length k7, .slice A8 m.h.n.length k8, .int .i64 m.h.c, .slice A9 m.h.d.length k9, .slice A0 m.c.length k0, .int .i64 m.i, .int .i64 m.f]) G) := Lib.hid fun G e => parts_mine e (fun cs e => by cases e) (fun cs e => by cases e) (fun cs e => by cases e)
  have b0 : Below w.heap.size w (w.alloc (.cells #[.slice A1 m.w.length k1, .slice A2 m.k.length k2, .slice A3 m.d.s.length k3, .slice A4 m.d.b.length k4, .slice A5 m.d.c.length k5, .int .i64 m.d.h, .int .i64 m.d.n, .string m.d.o, .slice A6 m.h.g.length k6, .slice A7 m.h.s.length k7, .slice A8 m.h.n.length k8, .int .i64 m.h.c, .slice A9 m.h.d.length k9, .slice A0 m.c.length k0, .int .i64 m.i, .int .i64 m.f] 46)) := below_alloc (Below.refl _ _) _
  have W0 := Lib.hid (whole_new w 46 #[.slice A1 m.w.length k1, .slice A2 m.k.length k2, .slice A3 m.d.s.length k3, .slice A4 m.d.b.length k4, .slice A5 m.d.c.length k5, .int .i64 m.d.h, .int .i64 m.d.n, .string m.d.o, .slice A6 m.h.g.length k6, .slice A7 m.h.s.length k7, .slice A8 m.h.n.length k8, .int .i64 m.h.c, .slice A9 m.h.d.length k9, .slice A0 m.c.length k0, .int .i64 m.i, .int .i64 m.f])
  have N0 : Hid (Only (Mine (.agg #[.slice A1 m.w.length k1, .slice A2 m.k.length k2, .slice A3 m.d.s.length k3, .slice A4 m.d.b.length k4, .slice A5 m.d.c.length k5, .int .i64 m.d.h, .int .i64 m.d.n, .string m.d.o, .slice A6 m.h.g.length k6, .slice A7 m.h.s.length k7, .slice A8 m.h.n.length k8, .int .i64 m.h.c, .slice A9 m.h.d.length k9, .slice A0 m.c.length k0, .int .i64 m.i, .int .i64 m.f])) w (w.alloc (.cells #[.slice A1 m.w.length k1, .slice A2 m.k.length k2, .slice A3 m.d.s.length k3, .slice A4 m.d.b.length k4, .slice A5 m.d.c.length k5, .int .i64 m.d.h, .int .i64 m.d.n, .string m.d.o, .slice A6 m.h.g.length k6, .slice A7 m.h.s.length k7, .slice A8 m.h.n.length k8, .int .i64 m.h.c, .slice A9 m.h.d.length k9, .slice A0 m.c.length k0, .int .i64 m.i, .int .i64 m.f] 46))) := Lib.hid (below_only b0)
  have X0 := Lib.hid (wrow_below hx b0)
  have K0 := Lib.hid (row_below hk b0)
  have D0 := Lib.hid (datOf_below hd b0)
  have H0 := Lib.hid (hostT_below hh b0)
  have Z0 := Lib.hid (crow_below hz b0)
  clear hx hk hd hh hz q0 q1 q2 q3 q4 q5 q6 q7 q8 q9
  have hnD := numD_small HS.out.2.2.1
  have hnH := numH_small HS.out.2.2.2.1
  have hw0 := HS.out.1.1
  have hk0 := HS.out.2.1
  have hc0 := HS.out.2.2.2.2
  go_enter Tryd.func22, Tryd.ntmps22
  go_wp2_with fail
  refine (markWordS_any _ lo m.w _ X0.out (by omega)).mono ?_
  rintro e w1 ⟨rfl, hr, hg⟩
  have n1 : Only (Blk (.slice A1 m.w.length k1)) _ _ := only_grown hg (fun g e => .inl e)
  have X1 := Lib.hid hr
  have N1 := Lib.hid (only_trans N0.out (only_mono n1 (fun G e => PM.out G (.inl e))))
  have W1 := Lib.hid (whole_onl W0.out n1 (fun q => by have := MM.out _ (PM.out _ (.inl q)); omega))
  have W1z : w.heap.size < w1.heap.size := whole_lt W1.out
  have K1 := Lib.hid (row_os n1 K0.out (sep_sym p0.out))
  have D1 := Lib.hid (datOf_os n1 D0.out (sep_sym p1.out))
  have H1 := Lib.hid (hostT_os n1 H0.out (sep_sym p2.out))
  have Z1 := Lib.hid (crow_os n1 Z0.out (sep_sym p3.out))
  clear hr hg n1 N0 W0 X0 K0 D0 H0 Z0
  have c1 := whole_cell W1.out 1
  simp at c1
  go_wp2_with fail
  clear c1
  rw [show ((1 : Int) + 3 * (m.w.length : Int)) = (((1 + 3 * m.w.length) : Nat) : Int) by omega]
  refine (markInts_any _ lo (1 + 3 * m.w.length) m.k _ K1.out (by omega) (by omega)).mono ?_
  rintro e w2 ⟨rfl, hr, hg⟩
  have n2 : Only (Blk (.slice A2 m.k.length k2)) _ _ := only_grown hg (fun g e => .inl e)
  have K2 := Lib.hid hr
  have N2 := Lib.hid (only_trans N1.out (only_mono n2 (fun G e => PM.out G (.inr (.inl e)))))
  have W2 := Lib.hid (whole_onl W1.out n2 (fun q => by have := MM.out _ (PM.out _ (.inr (.inl q))); omega))
  have W2z : w.heap.size < w2.heap.size := whole_lt W2.out
  have X2 := Lib.hid (wrow_os n2 X1.out p0.out)
  have D2 := Lib.hid (datOf_os n2 D1.out (sep_sym p4.out))
  have H2 := Lib.hid (hostT_os n2 H1.out (sep_sym p5.out))
  have Z2 := Lib.hid (crow_os n2 Z1.out (sep_sym p6.out))
  clear hr hg n2 N1 W1 X1 K1 D1 H1 Z1
  have c2 := whole_cell W2.out 2
  have c3 := whole_cell W2.out 3
  have c4 := whole_cell W2.out 4
  have c5 := whole_cell W2.out 5
  have c6 := whole_cell W2.out 6
  have c7 := whole_cell W2.out 7
  simp at c2 c3 c4 c5 c6 c7
  go_wp2_with fail
  clear c2 c3 c4 c5 c6 c7
  try rw [show ((1 : Int) + 3 * (m.w.length : Int) + (m.k.length : Int)) = (((1 + 3 * m.w.length + m.k.length) : Nat) : Int) by omega]
  refine (markData_only _ m.d lo w.heap.size (1 + 3 * m.w.length + m.k.length) _ D2.out HS.out.2.2.1 (by omega) (by have := W2z; omega)).mono ?_
  rintro e w3 ⟨rfl, hr, hg⟩
  have n3 : Only (Blk (.agg #[.slice A3 m.d.s.length k3, .slice A4 m.d.b.length k4, .slice A5 m.d.c.length k5, .int .i64 m.d.h, .int .i64 m.d.n, .string m.d.o])) _ _ := only_mono hg (fun g e => .inr e)
  have D3 := Lib.hid hr
  have N3 := Lib.hid (only_trans N2.out (only_mono n3 (fun G e => PM.out G (.inr (.inr (.inl e))))))
  have W3 := Lib.hid (whole_onl W2.out n3 (fun q => by have := MM.out _ (PM.out _ (.inr (.inr (.inl q)))); omega))
  have W3z : w.heap.size < w3.heap.size := whole_lt W3.out
  have X3 := Lib.hid (wrow_os n3 X2.out p1.out)
  have K3 := Lib.hid (row_os n3 K2.out p4.out)
  have H3 := Lib.hid (hostT_os n3 H2.out (sep_sym p7.out))
  have Z3 := Lib.hid (crow_os n3 Z2.out (sep_sym p8.out))
  clear hr hg n3 N2 W2 X2 K2 D2 H2 Z2
  have c8 := whole_cell W3.out 8
  have c9 := whole_cell W3.out 9
  have c10 := whole_cell W3.out 10
  have c11 := whole_cell W3.out 11
  have c12 := whole_cell W3.out 12
  simp at c8 c9 c10 c11 c12
  go_wp2_with fail
  clear c8 c9 c10 c11 c12
  try rw [show ((1 : Int) + 3 * (m.w.length : Int) + (m.k.length : Int) + (numD m.d : Int)) = (((1 + 3 * m.w.length + m.k.length + numD m.d) : Nat) : Int) by omega]
  refine (markHostT_any _ m.h lo (1 + 3 * m.w.length + m.k.length + numD m.d) _ H3.out HS.out.2.2.2.1 (by omega)).mono ?_
  rintro e w4 ⟨rfl, hr, hg⟩
  have n4 : Only (Blk (.agg #[.slice A6 m.h.g.length k6, .slice A7 m.h.s.length k7, .slice A8 m.h.n.length k8, .int .i64 m.h.c, .slice A9 m.h.d.length k9])) _ _ := only_mono hg (fun g e => .inr e)
  have H4 := Lib.hid hr
  have N4 := Lib.hid (only_trans N3.out (only_mono n4 (fun G e => PM.out G (.inr (.inr (.inr (.inl e)))))))
  have W4 := Lib.hid (whole_onl W3.out n4 (fun q => by have := MM.out _ (PM.out _ (.inr (.inr (.inr (.inl q))))); omega))
  have W4z : w.heap.size < w4.heap.size := whole_lt W4.out
  have X4 := Lib.hid (wrow_os n4 X3.out p2.out)
  have K4 := Lib.hid (row_os n4 K3.out p5.out)
  have D4 := Lib.hid (datOf_os n4 D3.out p7.out)
  have Z4 := Lib.hid (crow_os n4 Z3.out (sep_sym p9.out))
  clear hr hg n4 N3 W3 X3 K3 D3 H3 Z3
  have c13 := whole_cell W4.out 13
  simp at c13
  go_wp2_with fail
  clear c13
  try rw [show ((1 : Int) + 3 * (m.w.length : Int) + (m.k.length : Int) + (numD m.d : Int) + (numH m.h : Int)) = (((1 + 3 * m.w.length + m.k.length + numD m.d + numH m.h) : Nat) : Int) by omega]
  refine (markCalls_any _ lo (1 + 3 * m.w.length + m.k.length + numD m.d + numH m.h) m.c _ Z4.out (by omega) (by omega)).mono ?_
  rintro e w5 ⟨rfl, hr, hg⟩
  have n5 : Only (Blk (.slice A0 m.c.length k0)) _ _ := only_grown hg (fun g e => .inl e)
  have Z5 := Lib.hid hr
  have N5 := Lib.hid (only_trans N4.out (only_mono n5 (fun G e => PM.out G (.inr (.inr (.inr (.inr e)))))))
  have W5 := Lib.hid (whole_onl W4.out n5 (fun q => by have := MM.out _ (PM.out _ (.inr (.inr (.inr (.inr q))))); omega))
  have W5z : w.heap.size < w5.heap.size := whole_lt W5.out
  have X5 := Lib.hid (wrow_os n5 X4.out p3.out)
  have K5 := Lib.hid (row_os n5 K4.out p6.out)
  have D5 := Lib.hid (datOf_os n5 D4.out p8.out)
  have H5 := Lib.hid (hostT_os n5 H4.out p9.out)
  clear hr hg n5 N4 W4 X4 K4 D4 H4 Z4
  go_wp2
  go_ret
  refine ⟨ret_int (by unfold numM; omega), ⟨(.slice A1 m.w.length k1), (.slice A2 m.k.length k2), (.slice A3 m.d.s.length k3), (.slice A4 m.d.b.length k4), (.slice A5 m.d.c.length k5), (.slice A6 m.h.g.length k6), (.slice A7 m.h.s.length k7), (.slice A8 m.h.n.length k8), (.slice A9 m.h.d.length k9), (.slice A0 m.c.length k0), ?_, X5.out, K5.out, datOf_top D5.out (by omega), H5.out, Z5.out, p0.out, p1.out, p2.out, p3.out, p4.out, p5.out, p6.out, p7.out, p8.out, p9.out⟩, N5.out⟩
  rfl

set_option maxRecDepth 100000 in
set_option maxHeartbeats 4000000 in
theorem heldMachine_any (v : Value) (m : Mc) (w : World) (hv : MchIn w v (markM m)) (hs : SmallM m) :
    Calls Tryd.prog 23 #[v, .int .i64 1] w fun e w' => e = .returned (.int .i64 ((1 + numM m : Nat) : Int)) ∧ Below w.heap.size w w' := by
  have HS := Lib.hid hs
  obtain ⟨x, k, a, b, c, g, s, n, q, z, rfl, hx, hk, hd, hh, hz⟩ := hv
  have HX := Lib.hid hx
  have HK := Lib.hid hk
  have HD := Lib.hid hd
  have HH := Lib.hid hh
  have HZ := Lib.hid hz
  clear hx hk hd hh hz
  have b0 : Below w.heap.size w (w.alloc (.cells #[x, k, a, b, c, .int .i64 (markM m).d.h, .int .i64 (markM m).d.n, .string (markM m).d.o, g, s, n, .int .i64 (markM m).h.c, q, z, .int .i64 (markM m).i, .int .i64 (markM m).f] 46)) := below_alloc (Below.refl _ _) _
  have W0 := Lib.hid (whole_new w 46 #[x, k, a, b, c, .int .i64 (markM m).d.h, .int .i64 (markM m).d.n, .string (markM m).d.o, g, s, n, .int .i64 (markM m).h.c, q, z, .int .i64 (markM m).i, .int .i64 (markM m).f])
  have hnD := numD_small HS.out.2.2.1
  have hnH := numH_small HS.out.2.2.2.1
  have hw0 := HS.out.1.1
  have hk0 := HS.out.2.1
  have hc0 := HS.out.2.2.2.2
  go_enter Tryd.func23, Tryd.ntmps23
  go_wp2_with fail
  refine (heldWordS_any _ m.w.length _ (wds_below HX.out b0) (by omega)).mono ?_
  rintro e w1 ⟨rfl, hb⟩
  have B1 := Lib.hid (below_step b0 hb)
  have W1 := Lib.hid (whole_b hb W0.out)
  have W1z := whole_lt W1.out
  clear hb b0 W0
  have z0 : ¬ ((1 : Int) + 3 * (m.w.length : Int)) < 0 := by omega
  have c1 := whole_cell W1.out 1
  simp at c1
  go_wp2_with fail
  clear z0 c1
  rw [show ((1 : Int) + 3 * (m.w.length : Int)) = (((1 + 3 * m.w.length) : Nat) : Int) by omega]
  refine (heldInts_any _ m.k.length (1 + 3 * m.w.length) _ (ints_below HK.out B1.out) (by omega) (by omega)).mono ?_
  rintro e w2 ⟨rfl, rfl⟩
  have z1 : ¬ ((1 : Int) + 3 * (m.w.length : Int) + (m.k.length : Int)) < 0 := by omega
  have c2 := whole_cell W1.out 2
  have c3 := whole_cell W1.out 3
  have c4 := whole_cell W1.out 4
  have c5 := whole_cell W1.out 5
  have c6 := whole_cell W1.out 6
  have c7 := whole_cell W1.out 7
  simp at c2 c3 c4 c5 c6 c7
  go_wp2_with fail
  clear z1 c2 c3 c4 c5 c6 c7
  rw [show ((1 : Int) + 3 * (m.w.length : Int) + (m.k.length : Int)) = (((1 + 3 * m.w.length + m.k.length) : Nat) : Int) by omega]
  refine (heldData_wide _ m.d (1 + 3 * m.w.length + m.k.length) _ (datIn_below HD.out B1.out) HS.out.2.2.1 (by omega)).mono ?_
  rintro e w3 ⟨rfl, hb⟩
  have B3 := Lib.hid (below_step B1.out hb)
  have W3 := Lib.hid (whole_b hb W1.out)
  have W3z := whole_lt W3.out
  clear hb
  have z2 : ¬ ((1 : Int) + 3 * (m.w.length : Int) + (m.k.length : Int) + (numD m.d : Int)) < 0 := by omega
  have c8 := whole_cell W3.out 8
  have c9 := whole_cell W3.out 9
  have c10 := whole_cell W3.out 10
  have c11 := whole_cell W3.out 11
  have c12 := whole_cell W3.out 12
  simp at c8 c9 c10 c11 c12
  go_wp2_with fail
  clear z2 c8 c9 c10 c11 c12
  rw [show ((1 : Int) + 3 * (m.w.length : Int) + (m.k.length : Int) + (numD m.d : Int)) = (((1 + 3 * m.w.length + m.k.length + numD m.d) : Nat) : Int) by omega]
  refine (heldHost_any _ m.h (1 + 3 * m.w.length + m.k.length + numD m.d) _ (hostIn_below HH.out B3.out) HS.out.2.2.2.1 (by omega)).mono ?_
  rintro e w4 ⟨rfl, hb⟩
  have B4 := Lib.hid (below_step B3.out hb)
  have W4 := Lib.hid (whole_b hb W3.out)
  have W4z := whole_lt W4.out
  clear hb
  have z3 : ¬ ((1 : Int) + 3 * (m.w.length : Int) + (m.k.length : Int) + (numD m.d : Int) + (numH m.h : Int)) < 0 := by omega
  have c13 := whole_cell W4.out 13
  simp at c13
  go_wp2_with fail
  clear z3 c13
  rw [show ((1 : Int) + 3 * (m.w.length : Int) + (m.k.length : Int) + (numD m.d : Int) + (numH m.h : Int)) = (((1 + 3 * m.w.length + m.k.length + numD m.d + numH m.h) : Nat) : Int) by omega]
  refine (heldCalls_any _ m.c.length (1 + 3 * m.w.length + m.k.length + numD m.d + numH m.h) _ (cls_below HZ.out B4.out) (by omega) (by omega)).mono ?_
  rintro e w5 ⟨rfl, rfl⟩
  have z9 : ¬ ((1 : Int) + 3 * (m.w.length : Int) + (m.k.length : Int) + (numD m.d : Int) + (numH m.h : Int) + 4 * (m.c.length : Int)) < 0 := by omega
  go_wp2
  go_ret
  exact ⟨ret_int (by unfold numM; omega), B4.out⟩

end Go.Proofs.YtjlfbmplmddceaaDoor

namespace Go.Proofs.YtjlfbmplmddceaaDoor
open Go.RowKit
set_option linter.unusedVariables false
set_option linter.unusedSimpArgs false

/-- New data. -/
def newDt : Dt := ⟨[], [], List.replicate 32 0, 0, 10, ByteArray.empty⟩

theorem row_empty {w : World} {base g : Nat} (h : Whole w g 3 #[]) (hb : base ≤ g) : Row w base (.slice (some ⟨g, 0, none⟩) 0 0) [] :=
  ⟨by simp, .inr ⟨g, 0, #[], rfl, hb, h, Nat.le_refl _, by unfold maxLen; simp, by simp, by simp⟩⟩

set_option maxRecDepth 100000 in
set_option maxHeartbeats 2000000 in
theorem sNew_any (w : World) : Calls Tryd.prog 82 #[] w (CopyOf w newDt) := by
  obtain ⟨i0, hi0, hz0, hz1, hz2⟩ := info_parts own_info3
  have I0 := Lib.hid hi0
  have Z0 := Lib.hid hz0
  have Z1 := Lib.hid hz1
  have B8 : Hid (i0.bytes * 32 ≤ 281474976710656) := Lib.hid (by rw [hz2]; omega)
  clear hi0 hz0 hz1 hz2
  go_enter Tryd.func82, Tryd.ntmps82
  go_wp2_with (first
    | (at_make; refine wpList_make_full _ rfl _ _ 23 rfl (w.heap.size + 1 + 1 + 1) 3 i0 _ 1 Tryd.underlying23 I0.out Z0.out Z1.out .i64 .i64 _ _ 32 rfl rfl rfl rfl B8.out (by unfold maxLen; omega) (by simp) ?_
       intro w1 ho1 hg1
       have hb : Below _ _ w1 := (Below.refl _ _).grown hg1 (Nat.le_refl _) (by simp)
       have B1 : Below w.heap.size w w1 := below_step (below_alloc (below_alloc (below_alloc (Below.refl _ _) _) _) _) hb
       have R3 : Row w1 (w.heap.size + 1 + 1 + 1) (.slice (some ⟨w.heap.size + 1 + 1 + 1, 0, none⟩) 32 32) (List.replicate 32 0) := by have h := zeros_row ho1; simpa using h
       have T1 := whole_b hb (whole_alloc (whole_alloc (whole_new w _ _) _) _)
       have E1 := whole_b hb (whole_alloc (whole_new1 w _ _ _) _)
       have E2 := whole_b hb (whole_new2 w _ _ _ _)
       obtain ⟨r0, r1, r2, r3, r4, r5⟩ := six_cells T1
       have fr := whole_free T1
       clear ho1 hg1 hb))
  refine bodyPost_ret (v := .agg #[.slice (some ⟨w.heap.size + 1, 0, none⟩) 0 0, .slice (some ⟨w.heap.size + 1 + 1, 0, none⟩) 0 0, .slice (some ⟨w.heap.size + 1 + 1 + 1, 0, none⟩) 32 32, .int .i64 0, .int .i64 10, .string ByteArray.empty]) (by simp [results, Tryd.results82, go_sem, *]; try rfl) rfl ⟨_, rfl, datOf_top (datOf_base (datOf_rows (d := newDt) (lo := w.heap.size + 1) ?_ ?_ ?_ (by decide) ?_ ?_ ?_) (by omega)) (Nat.le_refl _), ?_⟩
  · have h := row_empty (base := w.heap.size + 1) E1 (Nat.le_refl _)
    show Row _ _ _ []
    repeat (first | with_reducible exact h | ((with_reducible refine row_store ?_ ?hh); case hh => omega))
  · have h := row_empty (base := w.heap.size + 1) E2 (by omega)
    show Row _ _ _ []
    repeat (first | with_reducible exact h | ((with_reducible refine row_store ?_ ?hh); case hh => omega))
  · have h := row_base (base' := w.heap.size + 1) R3 (by omega)
    show Row _ _ _ (List.replicate 32 0)
    repeat (first | with_reducible exact h | ((with_reducible refine row_store ?_ ?hh); case hh => omega))
  · intro k hk hk2; simp [Value.ownBlock] at hk hk2; omega
  · intro k hk hk2; simp [Value.ownBlock] at hk hk2; omega
  · intro k hk hk2; simp [Value.ownBlock] at hk hk2; omega
  · repeat (first | with_reducible exact B1 | with_reducible refine Below.setCell ?_ (by simp) _)

set_option maxRecDepth 100000 in
set_option maxHeartbeats 2000000 in
theorem iNewData_any (w : World) : Calls Tryd.prog 43 #[] w (CopyOf w newDt) := by
  obtain ⟨i0, hi0, hz0, hz1, hz2⟩ := info_parts own_info3
  have I0 := Lib.hid hi0
  have Z0 := Lib.hid hz0
  have Z1 := Lib.hid hz1
  have B8 : Hid (i0.bytes * 32 ≤ 281474976710656) := Lib.hid (by rw [hz2]; omega)
  clear hi0 hz0 hz1 hz2
  go_enter Tryd.func43, Tryd.ntmps43
  go_wp2_with (first
    | (at_make; refine wpList_make_full _ rfl _ _ 23 rfl (w.heap.size + 1) 3 i0 _ 1 Tryd.underlying23 I0.out Z0.out Z1.out .i64 .i64 _ _ 32 rfl rfl rfl rfl B8.out (by unfold maxLen; omega) (by simp) ?_
       intro w1 ho1 hg1
       have hb : Below _ _ w1 := (Below.refl _ _).grown hg1 (Nat.le_refl _) (by simp)
       have B1 : Below w.heap.size w w1 := below_step (below_alloc (Below.refl _ _) _) hb
       have R3 : Row w1 (w.heap.size + 1) (.slice (some ⟨w.heap.size + 1, 0, none⟩) 32 32) (List.replicate 32 0) := by have h := zeros_row ho1; simpa using h
       have T1 := whole_b hb (whole_new w _ _)
       obtain ⟨r0, r1, r2, r3, r4, r5⟩ := six_cells T1
       have fr := whole_free T1
       clear ho1 hg1 hb))
  refine bodyPost_ret (v := .agg #[.slice none 0 0, .slice none 0 0, .slice (some ⟨w.heap.size + 1, 0, none⟩) 32 32, .int .i64 0, .int .i64 10, .string ByteArray.empty]) (by simp [results, Tryd.results43, go_sem, *]; try rfl) rfl ⟨_, rfl, datOf_top (datOf_base (datOf_rows (d := newDt) (lo := w.heap.size + 1) (row_nil _ _) (row_nil _ _) ?_ (by decide) (parted_nil _) (parted_nil _) (parted_nil _)) (by omega)) (Nat.le_refl _), ?_⟩
  · have h := row_base (base' := w.heap.size + 1) R3 (by omega)
    show Row _ _ _ (List.replicate 32 0)
    repeat (first | with_reducible exact h | ((with_reducible refine row_store ?_ ?hh); case hh => omega))
  · repeat (first | with_reducible exact B1 | with_reducible refine Below.setCell ?_ (by simp) _)

end Go.Proofs.YtjlfbmplmddceaaDoor

namespace Go.Proofs.YtjlfbmplmddceaaDoor
open Go.RowKit
set_option linter.unusedVariables false
set_option linter.unusedSimpArgs false

/-- A new host. -/
def newHt : Ht := ⟨List.replicate 4 false, List.replicate 8 0, [], 0, []⟩

theorem make_b (W : World) : (Instr.makeSlice 40 (.int .i64 4) (.int .i64 4)).run Tryd.prog W = .ok (.slice (some ⟨W.heap.size, 0, none⟩) 4 4) (W.alloc (.cells #[.bool false, .bool false, .bool false, .bool false] 4)) :=
  by
    have h := run_make_row' 40 4 (.bool false) 1 Tryd.underlying40 own_infoB rfl .i64 .i64 4 (by decide) (by decide) W
    rw [show madeCells #[Value.bool false] 4 = #[.bool false, .bool false, .bool false, .bool false] from Array.toList_inj.1 (by rw [toList_madeCells_one]; rfl)] at h
    exact h

theorem make_i (W : World) : (Instr.makeSlice 23 (.int .i64 8) (.int .i64 8)).run Tryd.prog W = .ok (.slice (some ⟨W.heap.size, 0, none⟩) 8 8) (W.alloc (.cells #[.int .i64 0, .int .i64 0, .int .i64 0, .int .i64 0, .int .i64 0, .int .i64 0, .int .i64 0, .int .i64 0] 3)) :=
  by
    have h := run_make_row' 23 3 (.int .i64 0) 8 Tryd.underlying23 own_info3 rfl .i64 .i64 8 (by decide) (by decide) W
    rw [show madeCells #[Value.int .i64 0] 8 = #[.int .i64 0, .int .i64 0, .int .i64 0, .int .i64 0, .int .i64 0, .int .i64 0, .int .i64 0, .int .i64 0] from Array.toList_inj.1 (by rw [toList_madeCells_one]; rfl)] at h
    exact h

theorem whole_newAt {w : World} {g : Nat} {t : TypeId} {cs : Array Value} (hg : g = w.heap.size) : Whole (w.alloc (.cells cs t)) g t cs := by
  subst hg
  exact whole_new w t cs

theorem whole_drew {w : World} {g : Nat} {t : TypeId} {cs : Array Value} (h : Whole w g t cs) : Whole w.drew g t cs := h

theorem hnew_fin {w W : World} {g s n d : Nat} (h1 : Whole W g 4 #[.bool false, .bool false, .bool false, .bool false])
    (h2 : Whole W s 3 #[.int .i64 0, .int .i64 0, .int .i64 0, .int .i64 0, .int .i64 0, .int .i64 0, .int .i64 0, .int .i64 0]) (h3 : Whole W n 3 #[]) (h4 : Whole W d 114 #[])
    (l : w.heap.size ≤ g ∧ w.heap.size ≤ s ∧ w.heap.size ≤ n ∧ w.heap.size ≤ d) (e : g ≠ s ∧ g ≠ n ∧ g ≠ d ∧ s ≠ n ∧ s ≠ d ∧ n ≠ d) (hb : Below w.heap.size w W) :
    HCopyOf w newHt (.returned (.agg #[.slice (some ⟨g, 0, none⟩) 4 4, .slice (some ⟨s, 0, none⟩) 8 8, .slice (some ⟨n, 0, none⟩) 0 0, .int .i64 0, .slice (some ⟨d, 0, none⟩) 0 0])) W := by
  obtain ⟨l1, l2, l3, l4⟩ := l
  obtain ⟨e1, e2, e3, e4, e5, e6⟩ := e
  have pt : ∀ (a b la lb : Nat), a ≠ b → Parted (.slice (some ⟨a, 0, none⟩) la la) (.slice (some ⟨b, 0, none⟩) lb lb) := fun a b la lb h k hk hk2 => by
    simp [Value.ownBlock] at hk hk2
    omega
  refine ⟨_, rfl, hostOf_rows (h := newHt) ?_ ?_ ?_ ?_ (pt _ _ _ _ e1) (pt _ _ _ _ e2) (pt _ _ _ _ e3) (pt _ _ _ _ e4) (pt _ _ _ _ e5) (pt _ _ _ _ e6), hb⟩
  · exact borow_whole (zs := List.replicate 4 false) h1 l1 (by unfold maxLen; simp)
  · exact row_whole (zs := List.replicate 8 0) h2 l2 (by unfold maxLen; simp)
  · exact row_empty h3 l3
  · exact ⟨by simp [newHt, dcells], .inr ⟨d, 0, #[], rfl, l4, h4, Nat.le_refl _, by unfold maxLen; simp, by simp [newHt], by simp [newHt, dcells]⟩⟩

set_option maxRecDepth 100000 in
set_option maxHeartbeats 8000000 in
theorem sHNew_any (w : World) : Calls Tryd.prog 83 #[] w (HCopyOf w newHt) := by
  have mb := make_b
  have mi := make_i
  go_enter Tryd.func83, Tryd.ntmps83
  go_wp2
  go_region
  all_goals
    go_wp2
    apply bodyPost_ret
    · simp [results, Tryd.results83, go_sem, *]
      rfl
    · rfl
    refine hnew_fin ?_ ?_ ?_ ?_ ⟨by omega, by omega, by omega, by omega⟩ ⟨by omega, by omega, by omega, by omega, by omega, by omega⟩ ?_
    · refine whole_drew ?_
      repeat (first | with_reducible exact whole_newAt (by simp) | with_reducible refine whole_alloc ?_ _)
    · refine whole_drew ?_
      repeat (first | with_reducible exact whole_newAt (by simp) | with_reducible refine whole_alloc ?_ _)
    · refine whole_drew ?_
      repeat (first | with_reducible exact whole_newAt (by simp) | with_reducible refine whole_alloc ?_ _)
    · refine whole_drew ?_
      repeat (first | with_reducible exact whole_newAt (by simp) | with_reducible refine whole_alloc ?_ _)
    · repeat (first | with_reducible exact Below.refl _ _ | with_reducible refine below_alloc ?_ _ | with_reducible refine Below.drew ?_)

end Go.Proofs.YtjlfbmplmddceaaDoor

namespace Go.Proofs.YtjlfbmplmddceaaDoor
open Go.RowKit
set_option linter.unusedVariables false
set_option linter.unusedSimpArgs false

theorem hostOf_off {w : World} {lo hi g i : Nat} {v u : Value} {h : Ht} (H : HostOf w lo hi v h) (hn : ∀ k, Mine v k → k ≠ g) : HostOf (w.setCell ⟨g, i, none⟩ u) lo hi v h :=
  hostOf_only (S := fun k => k = g) H ⟨rfl, rfl, rfl, by simp [World.setCell], fun k _ hk => Below.heap_setCell w _ u k hk⟩ hn

theorem hnew_fin2 {w W : World} {g s : Nat} (h1 : Whole W g 4 #[.bool false, .bool false, .bool false, .bool false])
    (h2 : Whole W s 3 #[.int .i64 0, .int .i64 0, .int .i64 0, .int .i64 0, .int .i64 0, .int .i64 0, .int .i64 0, .int .i64 0])
    (l : w.heap.size ≤ g ∧ w.heap.size ≤ s) (e : g ≠ s) (hb : Below w.heap.size w W) :
    HCopyOf w newHt (.returned (.agg #[.slice (some ⟨g, 0, none⟩) 4 4, .slice (some ⟨s, 0, none⟩) 8 8, .slice none 0 0, .int .i64 0, .slice none 0 0])) W := by
  obtain ⟨l1, l2⟩ := l
  have pt : Parted (.slice (some ⟨g, 0, none⟩) 4 4) (.slice (some ⟨s, 0, none⟩) 8 8) := fun k hk hk2 => by
    simp [Value.ownBlock] at hk hk2
    omega
  refine ⟨_, rfl, hostOf_rows (h := newHt) ?_ ?_ (row_nil _ _) (drow_nil _ _) pt (parted_sym (parted_nil _)) (parted_sym (parted_nil _)) (parted_sym (parted_nil _)) (parted_sym (parted_nil _)) (parted_nil _), hb⟩
  · exact borow_whole (zs := List.replicate 4 false) h1 l1 (by unfold maxLen; simp)
  · exact row_whole (zs := List.replicate 8 0) h2 l2 (by unfold maxLen; simp)

set_option maxRecDepth 100000 in
set_option maxHeartbeats 2000000 in
theorem iNewHost_any (w : World) : Calls Tryd.prog 44 #[] w (HCopyOf w newHt) := by
  have mb := make_b
  have mi := make_i
  go_enter Tryd.func44, Tryd.ntmps44
  go_wp2
  go_region
  all_goals
    go_wp2
    apply bodyPost_ret
    · simp [results, Tryd.results44, go_sem, *]
      rfl
    · rfl
    refine hnew_fin2 ?_ ?_ ⟨by omega, by omega⟩ (by omega) ?_
    · refine whole_drew ?_
      repeat (first | with_reducible exact whole_newAt (by simp) | with_reducible refine whole_alloc ?_ _)
    · refine whole_drew ?_
      repeat (first | with_reducible exact whole_newAt (by simp) | with_reducible refine whole_alloc ?_ _)
    · repeat (first | with_reducible exact Below.refl _ _ | with_reducible refine below_alloc ?_ _ | with_reducible refine Below.drew ?_)

theorem hGrant_small {h : Ht} (hs : SmallH h) (c : Int) (yes : Bool) : SmallH (hGrant h c yes).1 := by
  obtain ⟨h1, h2, h3, h4⟩ := hs
  unfold hGrant
  split
  · split
    · exact ⟨by simpa using h1, h2, h3, h4⟩
    · exact small_noHt
  · exact small_noHt

theorem hAnswer_small {h : Ht} (hs : SmallH h) (n : Int) : SmallH (hAnswer h n).1 := by
  obtain ⟨h1, h2, h3, h4⟩ := id hs
  unfold hAnswer
  split
  · rename_i q
    have hn := fineH_n (hOK_fine q)
    split
    · split
      · exact hs
      · exact ⟨h1, h2, by simp; omega, h4⟩
    · exact small_noHt
  · exact small_noHt

theorem small_newHt : SmallH newHt := by unfold SmallH newHt; decide

end Go.Proofs.YtjlfbmplmddceaaDoor

namespace Go.Proofs.YtjlfbmplmddceaaDoor
open Go.RowKit
set_option linter.unusedVariables false
set_option linter.unusedSimpArgs false

/-- One deed over a store: a write at an index lays its cell. -/
def foldD (S : List Int) (x : Dd) : List Int := if x.p = 1 ∧ inB x.a 0 7 = true then S.set x.a.toNat x.b else S

/-- What deeds make of a store, and a code. -/
def hFold (S : List Int) (Q : List Dd) : List Int × Int :=
  if 4096 < S.length ∨ 4096 < Q.length then ([], 2) else if S.length = 8 ∧ cellsB S = true then if ddsB Q then (Q.foldl foldD S, 0) else ([], 1) else ([], 1)

/-- A row handed back in memory of its own, and a code. -/
def RowResOf (w : World) (r : List Int × Int) (e : Ending) (w' : World) : Prop := ∃ u, e = .returned (.tuple #[u, .int .i64 r.2]) ∧ Row w' w.heap.size u r.1 ∧ Below w.heap.size w w'

theorem rowres_none (w : World) (c : Int) {w1 : World} (hb : Below w.heap.size w w1) {g : Nat} (hg : g = w1.heap.size) : RowResOf w ([], c) (.returned (.tuple #[.slice (some ⟨g, 0, none⟩) 0 0, .int .i64 c])) (w1.alloc (.cells #[] 3)) := by
  subst hg
  exact ⟨_, rfl, row_empty (whole_new w1 _ _) hb.size, below_alloc hb _⟩

theorem foldD_len (S : List Int) (x : Dd) : (foldD S x).length = S.length := by unfold foldD; split <;> simp

theorem foldl_len (Q : List Dd) (S : List Int) : (Q.foldl foldD S).length = S.length := by
  induction Q generalizing S with
  | nil => rfl
  | cons q r ih => rw [List.foldl_cons, ih, foldD_len]

theorem fold_next (S : List Int) (Q : List Dd) (k : Nat) (h : k < Q.length) : (Q.take (k + 1)).foldl foldD S = foldD ((Q.take k).foldl foldD S) Q[k] := by
  rw [List.take_succ_eq_append_getElem h, List.foldl_append]
  rfl

end Go.Proofs.YtjlfbmplmddceaaDoor

namespace Go.Proofs.YtjlfbmplmddceaaDoor
open Go.RowKit
set_option linter.unusedVariables false
set_option linter.unusedSimpArgs false

/-- The new machine. -/
def newMc : Mc := ⟨kernW, [], newDt, newHt, [], 0, 0⟩

/-- What makes a machine leaves: the machine, in memory of its own. -/
def MCopyOf (w : World) (m : Mc) (e : Ending) (w' : World) : Prop := ∃ u, e = .returned u ∧ MchT w' w.heap.size u m ∧ Below w.heap.size w w'

theorem wpList_store_mR {ops : Array Oper} {rest : List Oper} {o : Oper} {a : Act} {w : World} {Q : Exit → Act → World → Prop} (hgd : o.guard = none) (x y : Operand) (ho : o.op = .store 46 x y)
    (g : Nat) (cs : Array Value) (hx : a.eval x = .pointer (some ⟨g, 0, none⟩)) (hy : a.eval y = .agg cs) {t : TypeId} {old : Array Value} (hg : Whole w g t old) (ho' : old.size = 16) (hs : Six10 cs)
    (h : wpList Tryd.prog ops Q rest (a.put o.dst undef) (w.setRow g cs)) : wpList Tryd.prog ops Q (o :: rest) a w :=
  wpList_store_row hgd 46 x y ho g cs hx hy t old hg (by rw [hs.1]; exact size_mI) (by rw [hs.1, ho']) hs.2 h

theorem results_mI {fn : Func} {p : Tmp} (h : fn.results = #[.cell p 46]) (tmps : Array Value) (w : World) (g : Nat) (t : TypeId) (cs : Array Value)
    (hp : tmps.getD p undef = .pointer (some ⟨g, 0, none⟩)) (hg : Whole w g t cs) (hs : Six10 cs) : (results fn tmps).run Tryd.prog w = .ok (.agg cs) w :=
  results_cell_row h tmps w g t _ (0, 0) _ hp hg Tryd.underlying46 rfl (by rw [hs.1]; exact size_mI)

theorem only_row {w : World} {g : Nat} {cs : Array Value} : Only (fun k => k = g) w (w.setRow g cs) := ⟨rfl, rfl, rfl, by simp, fun k hk hne => setRow_other w g k cs hne⟩

theorem whole_row {w : World} {g : Nat} {t : TypeId} {old cs : Array Value} (h : Whole w g t old) : Whole (w.setRow g cs) g t cs := setRow_heap w g old cs t _ h

theorem crow_empty {w : World} {base g : Nat} (h : Whole w g 97 #[]) (hb : base ≤ g) : CRow w base (.slice (some ⟨g, 0, none⟩) 0 0) [] := by
  refine ⟨rfl, .inr ⟨g, 0, #[], rfl, hb, h, Nat.le_refl _, by simp [maxLen], rfl, rfl⟩⟩

theorem mchT_base {w : World} {lo lo' : Nat} {v : Value} {m : Mc} (h : MchT w lo v m) (hl : lo' ≤ lo) : MchT w lo' v m := by
  obtain ⟨x, k, a, b, c, g, s, n, q, z, rfl, h1, h2, h3, h4, h5, hp⟩ := h
  exact ⟨x, k, a, b, c, g, s, n, q, z, rfl, wrow_base h1 hl, row_base h2 hl, datOf_base h3 hl, hostT_base h4 hl, crow_base h5 hl, hp⟩

set_option maxRecDepth 100000 in
set_option maxHeartbeats 4000000 in
theorem iNewMachine_any (w : World) (ht : Tabs w) : Calls Tryd.prog 20 #[] w (MCopyOf w newMc) := by
  have HT := Lib.hid ht
  clear ht
  have R0 := Lib.hid (whole_new w 46 #[.slice none 0 0, .slice none 0 0, .slice none 0 0, .slice none 0 0, .slice none 0 0, .int .i64 0, .int .i64 0, .string ⟨#[]⟩, .slice none 0 0, .slice none 0 0, .slice none 0 0, .int .i64 0, .slice none 0 0, .slice none 0 0, .int .i64 0, .int .i64 0])
  have b0 : Below w.heap.size w (w.alloc (.cells #[.slice none 0 0, .slice none 0 0, .slice none 0 0, .slice none 0 0, .slice none 0 0, .int .i64 0, .int .i64 0, .string ⟨#[]⟩, .slice none 0 0, .slice none 0 0, .slice none 0 0, .int .i64 0, .slice none 0 0, .slice none 0 0, .int .i64 0, .int .i64 0] 46)) := below_alloc (Below.refl _ _) _
  go_enter Tryd.func20, Tryd.ntmps20
  go_wp2_with fail
  refine (iKernelWords_any _ (tabs_below HT.out b0)).mono ?_
  rintro e w1 ⟨v1, rfl, hw, -, hb⟩
  have B1 := Lib.hid (below_step b0 hb)
  have R1 := Lib.hid (whole_b hb R0.out)
  have X1 := Lib.hid hw
  obtain ⟨A1, k1, rfl, -, -, -⟩ := wds_form (wrow_wds hw)
  clear hb b0 R0 hw
  go_wp2_with fail
  refine (iNewData_any _).mono ?_
  rintro e w2 ⟨v2, rfl, hd, hb⟩
  have B2 := Lib.hid (below_step B1.out hb)
  have R2 := Lib.hid (whole_b hb R1.out)
  have X2 := Lib.hid (wrow_below X1.out hb)
  have D2 := Lib.hid hd
  obtain ⟨A3, k3, A4, k4, A5, k5, rfl⟩ := datIn_form (datOf_in hd)
  have s12 := B2.out.size
  have y12 := hb.size
  clear hb hd
  go_wp2_with fail
  refine (iNewHost_any _).mono ?_
  rintro e w3 ⟨v3, rfl, hh, hb⟩
  have B3 := Lib.hid (below_step B2.out hb)
  have RW := Lib.hid (whole_b hb R2.out)
  have X3 := Lib.hid (wrow_below X2.out hb)
  have D3 := Lib.hid (datOf_below D2.out hb)
  have H3 := Lib.hid (hostT_of hh)
  obtain ⟨A6, k6, A7, k7, A8, k8, A9, k9, rfl⟩ := hostIn_form (hostOf_in hh)
  have y23 := hb.size
  clear hb hh
  go_wp2_with (first | (refine wpList_store_mR rfl _ _ rfl _ _ rfl rfl RW.out rfl ⟨rfl, by simp [Value.oneCell']⟩ ?_) | fail)
  have z1 : w.heap.size < w1.heap.size := whole_lt R1.out
  have O1 := Lib.hid (only_row (w := w3) (g := w.heap.size) (cs := #[.slice A1 kernW.length k1, .slice none 0 0, .slice A3 newDt.s.length k3, .slice A4 newDt.b.length k4, .slice A5 newDt.c.length k5, .int .i64 newDt.h, .int .i64 newDt.n, .string newDt.o, .slice A6 newHt.g.length k6, .slice A7 newHt.s.length k7, .slice A8 newHt.n.length k8, .int .i64 newHt.c, .slice A9 newHt.d.length k9, .slice none 0 0, .int .i64 0, .int .i64 0]))
  have B1' : Below (w.heap.size + 1) (w.alloc (.cells #[.slice none 0 0, .slice none 0 0, .slice none 0 0, .slice none 0 0, .slice none 0 0, .int .i64 0, .int .i64 0, .string ⟨#[]⟩, .slice none 0 0, .slice none 0 0, .slice none 0 0, .int .i64 0, .slice none 0 0, .slice none 0 0, .int .i64 0, .int .i64 0] 46)) w3 ∨ True := .inr trivial
  refine bodyPost_ret (v := .agg #[.slice A1 kernW.length k1, .slice none 0 0, .slice A3 newDt.s.length k3, .slice A4 newDt.b.length k4, .slice A5 newDt.c.length k5, .int .i64 newDt.h, .int .i64 newDt.n, .string newDt.o, .slice A6 newHt.g.length k6, .slice A7 newHt.s.length k7, .slice A8 newHt.n.length k8, .int .i64 newHt.c, .slice A9 newHt.d.length k9, .slice none 0 0, .int .i64 0, .int .i64 0]) (results_mI rfl _ _ w.heap.size _ _ rfl (whole_row RW.out) ⟨rfl, by simp [Value.oneCell']⟩) rfl ⟨_, rfl, ⟨_, _, _, _, _, _, _, _, _, _, rfl, wrow_base (wrow_on O1.out (by simp) X3.out) (by simp), row_nil _ _, datOf_top (datOf_base (datOf_on O1.out (by omega) D3.out) (by omega)) (by simp; omega), hostT_base (hostT_on O1.out (by omega) H3.out) (by omega), crow_nil _ _, fun g _ e => by have := blk_slice e; simp [Value.ownBlock] at this, sep_lt (n := w1.heap.size) (fun g e => by have := blk_wrow X1.out e; omega) (fun g e => by have := blk_data D2.out e; omega), sep_lt (n := w2.heap.size) (fun g e => by have := blk_wrow X1.out e; omega) (fun g e => by have := blk_host H3.out e; omega), fun g _ e => by have := blk_slice e; simp [Value.ownBlock] at this, fun g e _ => by have := blk_slice e; simp [Value.ownBlock] at this, fun g e _ => by have := blk_slice e; simp [Value.ownBlock] at this, fun g _ e => by have := blk_slice e; simp [Value.ownBlock] at this, sep_lt (n := w2.heap.size) (fun g e => by have := blk_data D2.out e; omega) (fun g e => by have := blk_host H3.out e; omega), fun g _ e => by have := blk_slice e; simp [Value.ownBlock] at this, fun g _ e => by have := blk_slice e; simp [Value.ownBlock] at this⟩, B3.out.trans (only_below O1.out B3.out.size (fun k e => by omega))⟩

set_option maxRecDepth 100000 in
set_option maxHeartbeats 4000000 in
theorem sNewM_any (w : World) : Calls Tryd.prog 41 #[] w (MCopyOf w newMc) := by
  have R0 := Lib.hid (whole_new w 46 #[.slice none 0 0, .slice none 0 0, .slice none 0 0, .slice none 0 0, .slice none 0 0, .int .i64 0, .int .i64 0, .string ⟨#[]⟩, .slice none 0 0, .slice none 0 0, .slice none 0 0, .int .i64 0, .slice none 0 0, .slice none 0 0, .int .i64 0, .int .i64 0])
  have b0 : Below w.heap.size w (w.alloc (.cells #[.slice none 0 0, .slice none 0 0, .slice none 0 0, .slice none 0 0, .slice none 0 0, .int .i64 0, .int .i64 0, .string ⟨#[]⟩, .slice none 0 0, .slice none 0 0, .slice none 0 0, .int .i64 0, .slice none 0 0, .slice none 0 0, .int .i64 0, .int .i64 0] 46)) := below_alloc (Below.refl _ _) _
  go_enter Tryd.func41, Tryd.ntmps41
  go_wp2_with fail
  refine (sKernel_any _).mono ?_
  rintro e w1 ⟨v1, rfl, hw, -, hb⟩
  have B1 := Lib.hid (below_step b0 hb)
  have R1 := Lib.hid (whole_b hb R0.out)
  have X1 := Lib.hid hw
  have z1 : w.heap.size < w1.heap.size := whole_lt R1.out
  obtain ⟨A1, k1, rfl, -, -, -⟩ := wds_form (wrow_wds hw)
  clear hb b0 R0 hw
  go_wp2_with fail
  have bE : Below w1.heap.size w1 (w1.alloc (.cells #[] 3)) := below_alloc (Below.refl _ _) _
  have E0 := whole_new w1 3 #[]
  refine (sNew_any _).mono ?_
  rintro e w2 ⟨v2, rfl, hd, hb⟩
  have b2 := below_step bE hb
  have B2 := Lib.hid (below_step B1.out b2)
  have R2 := Lib.hid (whole_b b2 R1.out)
  have X2 := Lib.hid (wrow_below X1.out b2)
  have E2 := Lib.hid (whole_b hb E0)
  have D2 := Lib.hid (datOf_base hd (show w1.heap.size + 1 ≤ _ by simp))
  obtain ⟨A3, k3, A4, k4, A5, k5, rfl⟩ := datIn_form (datOf_in hd)
  have y12 : w1.heap.size + 1 ≤ w2.heap.size := by have := hb.size; simpa using this
  clear hb hd bE E0 b2
  go_wp2_with fail
  refine (sHNew_any _).mono ?_
  rintro e w3 ⟨v3, rfl, hh, hb⟩
  have B3 := Lib.hid (below_step B2.out hb)
  have R3 := Lib.hid (whole_b hb R2.out)
  have X3 := Lib.hid (wrow_below X2.out hb)
  have E3 := Lib.hid (whole_b hb E2.out)
  have D3 := Lib.hid (datOf_below D2.out hb)
  have H3 := Lib.hid (hostT_of hh)
  obtain ⟨A6, k6, A7, k7, A8, k8, A9, k9, rfl⟩ := hostIn_form (hostOf_in hh)
  have y23 := hb.size
  clear hb hh
  have bC : Below w3.heap.size w3 (w3.alloc (.cells #[] 97)) := below_alloc (Below.refl _ _) _
  have C4 := Lib.hid (whole_new w3 97 #[])
  have B4 := Lib.hid (below_step B3.out bC)
  have RW := Lib.hid (whole_b bC R3.out)
  have X4 := Lib.hid (wrow_below X3.out bC)
  have E4 := Lib.hid (whole_b bC E3.out)
  have D4 := Lib.hid (datOf_below D3.out bC)
  have H4 := Lib.hid (hostT_below H3.out bC)
  clear bC
  go_wp2_with (first | (refine wpList_store_mR rfl _ _ rfl _ _ rfl rfl RW.out rfl ⟨rfl, by simp [Value.oneCell']⟩ ?_) | fail)
  have O1 := Lib.hid (only_row (w := w3.alloc (.cells #[] 97)) (g := w.heap.size) (cs := #[.slice A1 kernW.length k1, .slice (some ⟨w1.heap.size, 0, none⟩) 0 0, .slice A3 newDt.s.length k3, .slice A4 newDt.b.length k4, .slice A5 newDt.c.length k5, .int .i64 newDt.h, .int .i64 newDt.n, .string newDt.o, .slice A6 newHt.g.length k6, .slice A7 newHt.s.length k7, .slice A8 newHt.n.length k8, .int .i64 newHt.c, .slice A9 newHt.d.length k9, .slice (some ⟨w3.heap.size, 0, none⟩) 0 0, .int .i64 0, .int .i64 0]))
  have r2 : Row (w3.alloc (.cells #[] 97)) w1.heap.size (.slice (some ⟨w1.heap.size, 0, none⟩) 0 0) [] := row_empty E4.out (Nat.le_refl _)
  have r5 : CRow (w3.alloc (.cells #[] 97)) w3.heap.size (.slice (some ⟨w3.heap.size, 0, none⟩) 0 0) [] := crow_empty C4.out (Nat.le_refl _)
  refine bodyPost_ret (v := .agg #[.slice A1 kernW.length k1, .slice (some ⟨w1.heap.size, 0, none⟩) 0 0, .slice A3 newDt.s.length k3, .slice A4 newDt.b.length k4, .slice A5 newDt.c.length k5, .int .i64 newDt.h, .int .i64 newDt.n, .string newDt.o, .slice A6 newHt.g.length k6, .slice A7 newHt.s.length k7, .slice A8 newHt.n.length k8, .int .i64 newHt.c, .slice A9 newHt.d.length k9, .slice (some ⟨w3.heap.size, 0, none⟩) 0 0, .int .i64 0, .int .i64 0]) (results_mI rfl _ _ w.heap.size _ _ rfl (whole_row RW.out) ⟨rfl, by simp [Value.oneCell']⟩) rfl ⟨_, rfl, ⟨_, _, _, _, _, _, _, _, _, _, rfl, wrow_base (wrow_on O1.out (by simp) X4.out) (by simp), row_base (row_on O1.out (by omega) r2) (by omega), datOf_top (datOf_base (datOf_on O1.out (by omega) D4.out) (by omega)) (by simp; omega), hostT_base (hostT_on O1.out (by omega) H4.out) (by omega), crow_base (crow_on O1.out (by omega) r5) (by omega), sep_lt (n := w1.heap.size) (fun g e => by have := blk_wrow X1.out e; omega) (fun g e => by have := blk_slice e; simp [Value.ownBlock] at this; omega), sep_lt (n := w1.heap.size) (fun g e => by have := blk_wrow X1.out e; omega) (fun g e => by have := blk_data D2.out e; omega), sep_lt (n := w1.heap.size) (fun g e => by have := blk_wrow X1.out e; omega) (fun g e => by have := blk_host H3.out e; omega), sep_lt (n := w1.heap.size) (fun g e => by have := blk_wrow X1.out e; omega) (fun g e => by have := blk_slice e; simp [Value.ownBlock] at this; omega), sep_lt (n := w1.heap.size + 1) (fun g e => by have := blk_slice e; simp [Value.ownBlock] at this; omega) (fun g e => by have := blk_data D2.out e; omega), sep_lt (n := w1.heap.size + 1) (fun g e => by have := blk_slice e; simp [Value.ownBlock] at this; omega) (fun g e => by have := blk_host H3.out e; omega), sep_lt (n := w1.heap.size + 1) (fun g e => by have := blk_slice e; simp [Value.ownBlock] at this; omega) (fun g e => by have := blk_slice e; simp [Value.ownBlock] at this; omega), sep_lt (n := w2.heap.size) (fun g e => by have := blk_data D2.out e; omega) (fun g e => by have := blk_host H3.out e; omega), sep_lt (n := w2.heap.size) (fun g e => by have := blk_data D2.out e; omega) (fun g e => by have := blk_slice e; simp [Value.ownBlock] at this; omega), sep_lt (n := w3.heap.size) (fun g e => by have := blk_host H3.out e; omega) (fun g e => by have := blk_slice e; simp [Value.ownBlock] at this; omega)⟩, B4.out.trans (only_below O1.out B4.out.size (fun k e => by omega))⟩

theorem alloc_szM (w : World) (o : Obj) : (w.alloc o).heap.size = w.heap.size + 1 := by simp

set_option maxRecDepth 100000 in
set_option maxHeartbeats 1000000 in
theorem sNewMachine_any (w : World) : Calls Tryd.prog 19 #[] w (MCopyOf w newMc) := by
  have R0 := Lib.hid (whole_new w 46 #[.slice none 0 0, .slice none 0 0, .slice none 0 0, .slice none 0 0, .slice none 0 0, .int .i64 0, .int .i64 0, .string ⟨#[]⟩, .slice none 0 0, .slice none 0 0, .slice none 0 0, .int .i64 0, .slice none 0 0, .slice none 0 0, .int .i64 0, .int .i64 0])
  have b0 : Below w.heap.size w (w.alloc (.cells #[.slice none 0 0, .slice none 0 0, .slice none 0 0, .slice none 0 0, .slice none 0 0, .int .i64 0, .int .i64 0, .string ⟨#[]⟩, .slice none 0 0, .slice none 0 0, .slice none 0 0, .int .i64 0, .slice none 0 0, .slice none 0 0, .int .i64 0, .int .i64 0] 46)) := below_alloc (Below.refl _ _) _
  go_enter Tryd.func19, Tryd.ntmps19
  go_wp2_with fail
  refine (sNewM_any _).mono ?_
  rintro e w1 ⟨v1, rfl, hu, hb⟩
  obtain ⟨cu, rfl, hcu⟩ := mchIn_cells (mchT_in hu)
  have B1 := Lib.hid (below_step b0 hb)
  have RW := Lib.hid (whole_b hb R0.out)
  have U1 := Lib.hid hu
  have z1 := hb.size
  clear hb b0 R0 hu
  go_wp2_with (first | (refine wpList_store_mR rfl _ _ rfl _ _ rfl rfl RW.out rfl (by assumption) ?_) | fail)
  have O1 := Lib.hid (only_row (w := w1) (g := w.heap.size) (cs := cu))
  refine bodyPost_ret (v := .agg cu) (results_mI rfl _ _ w.heap.size _ _ rfl (whole_row RW.out) hcu) rfl ⟨_, rfl, mchT_base (mchT_only U1.out O1.out fun g e q => by have := mchT_mine U1.out e; simp at this; omega) (by simp), B1.out.trans (only_below O1.out B1.out.size (fun k e => by omega))⟩

end Go.Proofs.YtjlfbmplmddceaaDoor
