/- PkI: several of my texts, laid together: HcG, HcH, HcI, HcK, HcJ, HcN, HcO. -/
import Derived.Test.YtjlfbmplmddceaaHcF
import Derived.Laws.EntriesVeiled
import Derived.Test.YtjlfbmplmddceaaHsL
import Derived.Test.YtjlfbmplmddceaaHiA
import Derived.Test.YtjlfbmplmddceaaDatD
import Derived.Test.YtjlfbmplmddceaaPkH
import Derived.Test.YtjlfbmplmddceaaHsC
import Derived.Test.YtjlfbmplmddceaaDatO
import Derived.Deep.DeepCutAuto
import Derived.BigRegion
namespace Go.Proofs.Ytjlfbmplmddceaa
open Go.RowKit
set_option linter.unusedVariables false
set_option linter.unusedSimpArgs false

/-- What a call leaves behind the two pointers. -/
def CallOf (w : World) (lo G E : Nat) (r : Ht × Dt × Int) (e : Ending) (w' : World) : Prop := e = .returned (.int .i64 r.2.2) ∧ (∃ vh vd, Pair w' lo G E vh vd r.1 r.2.1) ∧ Below lo w w'

theorem call_quiet {w w' : World} {lo G E : Nat} {vh vd : Value} {h : Ht} {d : Dt} {t : Int} (p : Pair w lo G E vh vd h d) (hb : Below w.heap.size w w') : CallOf w lo G E (h, d, t) (.returned (.int .i64 t)) w' := ⟨rfl, ⟨vh, vd, pair_below p hb⟩, hb.mono (lo_le p)⟩

theorem call_end {w w2 w3 : World} {lo G E : Nat} {vh vd : Value} {h : Ht} {d : Dt} {t : Int} (p : Pair w2 lo G E vh vd h d) (b : Below lo w w2) (hb : Below w2.heap.size w2 w3) : CallOf w lo G E (h, d, t) (.returned (.int .i64 t)) w3 := ⟨rfl, ⟨vh, vd, pair_below p hb⟩, b.trans (hb.mono (lo_le p))⟩

theorem step_append_deeds6 {w : World} {ops : Array Oper} {o : Oper} {a : Act} {K : Act → World → Prop} {Q : Exit → Act → World → Prop} {E : Prop} (hgd : o.guard = none) (s x : Operand)
    (ho : o.op = .call { callee := .builtin .append, args := #[s, x], argTypes := #[31, 31] }) (hty : o.type = 31)
    (base : Nat) (v : Value) (ys : List Dd) (hs : a.eval s = v) (hown : DRow w base v ys) (u : Value) (zs : List Dd) (hx : a.eval x = u) (hz : Dds w u zs) (hl : ys.length + zs.length ≤ 1099511627776) (hbase : base ≤ w.heap.size)
    (h : ∀ v' w', DRow w' base v' (ys ++ zs) → w.grownBy w' v.ownBlock → (v'.ownBlock = v.ownBlock ∨ v'.ownBlock = some w.heap.size) → K (a.put o.dst v') w') :
    if Region.wanted o (yielded ops a.tmps) = true then Oper.wp Try.prog o a w K Q else E := by
  have hw : Region.wanted o (yielded ops a.tmps) = true := by simp [Region.wanted, hgd]
  rw [if_pos hw]
  obtain ⟨v', w', hrun, h2, h3, h4⟩ := run_append_deeds w base v ys hown u zs hz hl hbase
  unfold Oper.wp execOp
  simp only [ho, hty, resolve, invoke, builtin, Sem.run_bind, Sem.run_pure, Result.andThen_ok, List.map_toArray, List.map_cons, List.map_nil, hs, hx, hrun]
  exact h v' w' h2 h3 h4

theorem mine_hostQ {x y z c q q' : Value} {k : Nat} (hk : Mine (.agg #[x, y, z, c, q']) k) : q'.ownBlock = some k ∨ Mine (.agg #[x, y, z, c, q]) k := by
  obtain ⟨u, hu, e⟩ := (mine_agg (l := [x, y, z, c, q'])).1 hk
  simp only [List.mem_cons, List.not_mem_nil, or_false] at hu
  rcases hu with rfl | rfl | rfl | rfl | rfl
  · exact .inr ((mine_agg (l := [u, y, z, c, q])).2 ⟨u, by simp, e⟩)
  · exact .inr ((mine_agg (l := [x, u, z, c, q])).2 ⟨u, by simp, e⟩)
  · exact .inr ((mine_agg (l := [x, y, u, c, q])).2 ⟨u, by simp, e⟩)
  · exact .inr ((mine_agg (l := [x, y, z, u, q])).2 ⟨u, by simp, e⟩)
  · exact .inl e

/-- The deeds turned in a row of their own, and laid down in the host's block. -/
theorem pair_deeds {w w' : World} {lo G E : Nat} {x y z q q' vd : Value} {h : Ht} {d : Dt} {N : List Dd} (p : Pair w lo G E (.agg #[x, y, z, .int .i64 h.c, q]) vd h d) (hg : w.grownBy w' q.ownBlock) (hr : DRow w' lo q' N)
    (hat : q'.ownBlock = q.ownBlock ∨ q'.ownBlock = some w.heap.size) : Pair (w'.setCell ⟨G, 4, none⟩ q') lo G E (.agg #[x, y, z, .int .i64 h.c, q']) vd { h with d := N } d := by
  obtain ⟨⟨⟨x0, y0, z0, q0, eh, hwh⟩, ht, hn⟩, ⟨ex, ey, ez, rfl, hw⟩, p3, p4, p5, p6, p7⟩ := p
  simp only [Value.agg.injEq, Array.mk.injEq, List.cons.injEq, and_true, true_and] at eh
  obtain ⟨rfl, rfl, rfl, rfl⟩ := eh
  have hE := whole_lt hw
  have hG := whole_lt hwh
  have mq : ∀ k, q.ownBlock = some k → Mine (.agg #[x, y, z, .int .i64 h.c, q]) k := fun k e => (mine_agg (l := [x, y, z, .int .i64 h.c, q])).2 ⟨q, by simp, e⟩
  have nd : ∀ k, (k = E ∨ Mine (.agg #[ex, ey, ez, .int .i64 d.h, .int .i64 d.n, .string d.o]) k) → k < w.heap.size ∧ q.ownBlock ≠ some k ∧ k ≠ G := fun k hk =>
    ⟨by rcases hk with rfl | hk; exact hE; exact (datOf_mine p3 hk).2, fun e => p4 k (.inr (mq k e)) hk, fun e => p4 k (.inl e) hk⟩
  have hb : ∀ k, (k = E ∨ Mine (.agg #[ex, ey, ez, .int .i64 d.h, .int .i64 d.n, .string d.o]) k) → (w'.setCell ⟨G, 4, none⟩ q').heap[k]? = w.heap[k]? := fun k hk => by
    obtain ⟨n1, n2, n3⟩ := nd k hk
    rw [Below.heap_setCell w' _ _ k n3]
    exact hg.block k n1 (fun e => n2 e.symm)
  have hs : w.heap.size ≤ (w'.setCell ⟨G, 4, none⟩ q').heap.size := by simpa [World.setCell] using hg.size
  have own' : ∀ k, q'.ownBlock = some k → q.ownBlock = some k ∨ k = w.heap.size := fun k hk => by
    rcases hat with e | e
    · exact .inl (by rw [← e]; exact hk)
    · right; rw [e] at hk; injection hk with hk; exact hk.symm
  have nq : ∀ k, q'.ownBlock = some k → k ≠ G := fun k hk => by
    rcases own' k hk with e | rfl
    · exact hn k (mq k e)
    · omega
  have wG : Whole w' G 33 #[x, y, z, .int .i64 h.c, q] := whole_keep hwh (hg.block G hG (fun e => hn G (mq G e.symm) rfl))
  have hM := fun k (hk : Mine _ k) => (hostT_mine ht hk).2
  obtain ⟨a, b, c, f, e', h1, h2, h3, h4, q1, q2, q3, q4, q5, q6⟩ := ht
  simp only [Value.agg.injEq, Array.mk.injEq, List.cons.injEq, and_true, true_and] at e'
  obtain ⟨rfl, rfl, rfl, rfl⟩ := e'
  have kp : ∀ u : Value, Parted u q → (∀ k, u.ownBlock = some k → Mine (.agg #[x, y, z, .int .i64 h.c, q]) k) → ∀ k, u.ownBlock = some k → (w'.setCell ⟨G, 4, none⟩ q').heap[k]? = w.heap[k]? := fun u pu hu k hk =>
    (Below.heap_setCell w' _ _ k (hn k (hu k hk))).trans (hg.block k (hM k (hu k hk)) (fun e => pu k hk e.symm))
  have mx : ∀ k, x.ownBlock = some k → Mine (.agg #[x, y, z, .int .i64 h.c, q]) k := fun k e => (mine_agg (l := [x, y, z, .int .i64 h.c, q])).2 ⟨x, by simp, e⟩
  have my : ∀ k, y.ownBlock = some k → Mine (.agg #[x, y, z, .int .i64 h.c, q]) k := fun k e => (mine_agg (l := [x, y, z, .int .i64 h.c, q])).2 ⟨y, by simp, e⟩
  have mz : ∀ k, z.ownBlock = some k → Mine (.agg #[x, y, z, .int .i64 h.c, q]) k := fun k e => (mine_agg (l := [x, y, z, .int .i64 h.c, q])).2 ⟨z, by simp, e⟩
  have pt : ∀ u : Value, Parted u q → (∀ k, u.ownBlock = some k → Mine (.agg #[x, y, z, .int .i64 h.c, q]) k) → Parted u q' := fun u pu hu k hk hk2 => by
    rcases own' k hk2 with e | rfl
    · exact pu k hk e
    · have := hM _ (hu _ hk); omega
  refine ⟨⟨⟨x, y, z, q', rfl, whole_set wG 4 q'⟩, ⟨x, y, z, q', rfl, borow_keep h1 (kp x q3 mx), row_keep h2 (kp y q5 my), trow_keep h3 hs (kp z q6 mz), drow_keep hr (fun k hk => Below.heap_setCell w' _ _ k (nq k hk)), q1, q2, pt x q3 mx, q4, pt y q5 my, pt z q6 mz⟩, ?_⟩, ⟨ex, ey, ez, rfl, whole_keep hw (hb E (.inl rfl))⟩, ?_, ?_, p5, p6, p7⟩
  · intro k hk
    rcases mine_hostQ (q := q) hk with e | e
    · exact nq k e
    · exact hn k e
  · obtain ⟨a, b, c, e', r1, r2, r3, r4, s1, s2, s3, hh⟩ := p3
    simp only [Value.agg.injEq, Array.mk.injEq, List.cons.injEq, and_true, true_and] at e'
    obtain ⟨rfl, rfl, rfl⟩ := e'
    exact datOf_rows (row_keep r1 (fun k hk => hb k (.inr ((mine_agg (l := [ex, ey, ez, .int .i64 d.h, .int .i64 d.n, .string d.o])).2 ⟨ex, by simp, hk⟩)))) (row_keep r2 (fun k hk => hb k (.inr ((mine_agg (l := [ex, ey, ez, .int .i64 d.h, .int .i64 d.n, .string d.o])).2 ⟨ey, by simp, hk⟩)))) (row_keep r3 (fun k hk => hb k (.inr ((mine_agg (l := [ex, ey, ez, .int .i64 d.h, .int .i64 d.n, .string d.o])).2 ⟨ez, by simp, hk⟩)))) r4 s1 s2 s3
  · rintro k (rfl | hk) hq
    · exact p4 k (.inl rfl) hq
    · rcases mine_hostQ (q := q) hk with e | e
      · rcases own' k e with e | rfl
        · exact p4 k (.inr (mq k e)) hq
        · have := (nd _ hq).1; omega
      · exact p4 k (.inr e) hq

theorem mine_hostFifth {x y z c q : Value} {k : Nat} (e : q.ownBlock = some k) : Mine (.agg #[x, y, z, c, q]) k := (mine_agg (l := [x, y, z, c, q])).2 ⟨q, by simp, e⟩

theorem host_fifth {w : World} {G : Nat} {t : TypeId} {x y z c q : Value} (h : Whole w G t #[x, y, z, c, q]) : w.cell? ⟨G, 4, none⟩ = some q := whole_cell h 4

theorem pair_drow {w : World} {lo G E : Nat} {x y z q vd : Value} {h : Ht} {d : Dt} (p : Pair w lo G E (.agg #[x, y, z, .int .i64 h.c, q]) vd h d) : DRow w lo q h.d := by
  obtain ⟨a, b, c, f, e', h1, h2, h3, h4, _⟩ := p.host.2.1
  simp only [Value.agg.injEq, Array.mk.injEq, List.cons.injEq, and_true, true_and] at e'
  obtain ⟨rfl, rfl, rfl, rfl⟩ := e'
  exact h4

theorem pair_granted {w : World} {lo G E : Nat} {vh vd : Value} {h : Ht} {d : Dt} (p : Pair w lo G E vh vd h d) (hf : HtFine h) (c : Nat) (hc : c < 4) :
    ∃ g k1 A2 k2 A3 k3 A4 k4, vh = .agg #[.slice (some ⟨g, 0, none⟩) h.g.length k1, .slice A2 h.s.length k2, .slice A3 h.n.length k3, .int .i64 h.c, .slice A4 h.d.length k4] ∧
      Whole w G 33 #[.slice (some ⟨g, 0, none⟩) h.g.length k1, .slice A2 h.s.length k2, .slice A3 h.n.length k3, .int .i64 h.c, .slice A4 h.d.length k4] ∧ w.cell? ⟨g, c, none⟩ = some (.bool (h.g.getD c false)) ∧ g < w.heap.size := by
  obtain ⟨A1, k1, A2, k2, A3, k3, A4, k4, rfl, hw⟩ := hbx_form p.host
  obtain ⟨x, y, z, q, e, h1, _⟩ := p.host.2.1
  simp only [Value.agg.injEq, Array.mk.injEq, List.cons.injEq, and_true, true_and] at e
  obtain ⟨rfl, rfl, rfl, rfl⟩ := e
  have hl := fineH_g hf
  obtain ⟨g, cap, hv, hg1, hg2, _⟩ := borow_form h1 (by omega)
  simp only [Value.slice.injEq, true_and] at hv
  obtain ⟨rfl, rfl⟩ := hv
  refine ⟨g, _, A2, k2, A3, k3, A4, k4, rfl, hw, ?_, hg2⟩
  have hx := borow_cell h1 c (by omega)
  rw [hx, show h.g.getD c false = h.g[c] by simp [List.getD, show c < h.g.length by omega]]

set_option maxRecDepth 100000 in
set_option maxHeartbeats 1000000 in
theorem call_denied (w : World) (lo G E : Nat) (vh vd : Value) (h : Ht) (d : Dt) (c : Nat) (p : Pair w lo G E vh vd h d) (hf : HtFine h) (df : DtFine d) (hc : c < 4) (hg0 : h.g.getD c false = false) :
    Calls Try.prog 54 #[.pointer (some ⟨G, 0, none⟩), .pointer (some ⟨E, 0, none⟩), .int .i64 (c : Int)] w (CallOf w lo G E (h, d, -100)) := by
  have PP := Lib.hid p
  obtain ⟨g, k1, A2, k2, A3, k3, A4, k4, rfl, hw, hx, hg⟩ := pair_granted p hf c hc
  obtain ⟨c0, c1, c2, c3, c4⟩ := five_cells hw
  have zg := whole_lt hw
  have HG := Lib.hid (fineH_g hf)
  have i0 : (0 : Int) ≤ (c : Int) := by omega
  have i1 : (c : Int) < h.g.length := by have := HG.out; omega
  have i2 : c < h.g.length := by omega
  rw [hg0] at hx
  clear hw p hf df
  go_enter Try.func54, Try.ntmps54
  go_wp2
  refine bodyPost_ret (v := .int .i64 (-100)) (by simp [results, Try.results54, go_sem, *]) rfl ?_
  exact call_quiet PP.out (by repeat (first | with_reducible exact Below.refl _ _ | with_reducible refine below_alloc ?_ _ | with_reducible refine below_drewN ?_ _ | with_reducible refine Below.drew ?_))

set_option maxRecDepth 100000 in
set_option maxHeartbeats 1000000 in
theorem call_space (w : World) (lo G E : Nat) (vh vd : Value) (h : Ht) (d : Dt) (c : Nat) (p : Pair w lo G E vh vd h d) (hf : HtFine h) (df : DtFine d) (hc : c < 4) (hg1 : h.g.getD c false = true) (hq : h.d.length = 40) :
    Calls Try.prog 54 #[.pointer (some ⟨G, 0, none⟩), .pointer (some ⟨E, 0, none⟩), .int .i64 (c : Int)] w (CallOf w lo G E (h, d, -8)) := by
  have PP := Lib.hid p
  obtain ⟨g, k1, A2, k2, A3, k3, A4, k4, rfl, hw, hx, hg⟩ := pair_granted p hf c hc
  obtain ⟨c0, c1, c2, c3, c4⟩ := five_cells hw
  have zg := whole_lt hw
  have HG := Lib.hid (fineH_g hf)
  have i0 : (0 : Int) ≤ (c : Int) := by omega
  have i1 : (c : Int) < h.g.length := by have := HG.out; omega
  have i2 : c < h.g.length := by omega
  rw [hg1] at hx
  have hq1 : (40 : Int) ≤ (h.d.length : Int) := by omega
  have hq2 : 40 ≤ h.d.length := by omega
  clear hw p hf df hq
  go_enter Try.func54, Try.ntmps54
  go_wp2
  refine bodyPost_ret (v := .int .i64 (-8)) (by simp [results, Try.results54, go_sem, *]) rfl ?_
  exact call_quiet PP.out (by repeat (first | with_reducible exact Below.refl _ _ | with_reducible refine below_alloc ?_ _ | with_reducible refine below_drewN ?_ _ | with_reducible refine Below.drew ?_))

set_option maxRecDepth 100000 in
set_option maxHeartbeats 1000000 in
theorem capTable_any (w : World) :
    Calls Try.prog 99 #[] w fun e w' => e = .returned (.agg #[.int .i64 1, .int .i64 1, .func (.func 124) #[] #[], .int .i64 2, .int .i64 0, .func (.func 125) #[] #[], .int .i64 1, .int .i64 1, .func (.func 126) #[] #[], .int .i64 0, .int .i64 1, .func (.func 127) #[] #[]]) ∧ Below w.heap.size w w' := by
  go_enter Try.func99, Try.ntmps99
  go_wp2
  refine bodyPost_ret (v := .agg #[.int .i64 1, .int .i64 1, .func (.func 124) #[] #[], .int .i64 2, .int .i64 0, .func (.func 125) #[] #[], .int .i64 1, .int .i64 1, .func (.func 126) #[] #[], .int .i64 0, .int .i64 1, .func (.func 127) #[] #[]]) (by simp [results, Try.results99, go_sem, *]) rfl ?_
  exact ⟨rfl, by repeat (first | with_reducible exact Below.refl _ _ | with_reducible refine below_alloc ?_ _ | with_reducible refine below_drewN ?_ _ | with_reducible refine Below.drew ?_)⟩

set_option maxRecDepth 100000 in
@[go_sem] theorem cap_at0 (w : World) : (Instr.index 119 (.agg #[.int .i64 1, .int .i64 1, .func (.func 124) #[] #[], .int .i64 2, .int .i64 0, .func (.func 125) #[] #[], .int .i64 1, .int .i64 1, .func (.func 126) #[] #[], .int .i64 0, .int .i64 1, .func (.func 127) #[] #[]]) (.int .i64 0)).run Try.prog w = .ok (.agg #[.int .i64 1, .int .i64 1, .func (.func 124) #[] #[]]) w := by first | rfl | kernel_rfl

set_option maxRecDepth 100000 in
@[go_sem] theorem cap_at1 (w : World) : (Instr.index 119 (.agg #[.int .i64 1, .int .i64 1, .func (.func 124) #[] #[], .int .i64 2, .int .i64 0, .func (.func 125) #[] #[], .int .i64 1, .int .i64 1, .func (.func 126) #[] #[], .int .i64 0, .int .i64 1, .func (.func 127) #[] #[]]) (.int .i64 1)).run Try.prog w = .ok (.agg #[.int .i64 2, .int .i64 0, .func (.func 125) #[] #[]]) w := by first | rfl | kernel_rfl

set_option maxRecDepth 100000 in
@[go_sem] theorem cap_at2 (w : World) : (Instr.index 119 (.agg #[.int .i64 1, .int .i64 1, .func (.func 124) #[] #[], .int .i64 2, .int .i64 0, .func (.func 125) #[] #[], .int .i64 1, .int .i64 1, .func (.func 126) #[] #[], .int .i64 0, .int .i64 1, .func (.func 127) #[] #[]]) (.int .i64 2)).run Try.prog w = .ok (.agg #[.int .i64 1, .int .i64 1, .func (.func 126) #[] #[]]) w := by first | rfl | kernel_rfl

set_option maxRecDepth 100000 in
@[go_sem] theorem cap_at3 (w : World) : (Instr.index 119 (.agg #[.int .i64 1, .int .i64 1, .func (.func 124) #[] #[], .int .i64 2, .int .i64 0, .func (.func 125) #[] #[], .int .i64 1, .int .i64 1, .func (.func 126) #[] #[], .int .i64 0, .int .i64 1, .func (.func 127) #[] #[]]) (.int .i64 3)).run Try.prog w = .ok (.agg #[.int .i64 0, .int .i64 1, .func (.func 127) #[] #[]]) w := by first | rfl | kernel_rfl

set_option maxRecDepth 100000 in
set_option maxHeartbeats 1000000 in
theorem call_throw0 (w : World) (lo G E : Nat) (vh vd : Value) (h : Ht) (d : Dt) (p : Pair w lo G E vh vd h d) (hf : HtFine h) (df : DtFine d) (q : Ht) (d' : Dt) (x : Dd) (th : Int) (hg1 : h.g.getD 0 false = true) (hq : ¬ h.d.length = 40) (hr : ∀ x y z q, vh = .agg #[x, y, z, .int .i64 h.c, q] → Row w lo z h.n) (hs : hServe h d 0 = (q, d', x, th)) (hth : th ≠ 0) :
    Calls Try.prog 54 #[.pointer (some ⟨G, 0, none⟩), .pointer (some ⟨E, 0, none⟩), .int .i64 0] w (CallOf w lo G E (q, d', th)) := by
  have t1 : (th != 0) = true := by rw [bne_iff_ne]; exact hth
  have PP := Lib.hid p
  obtain ⟨g, k1, A2, k2, A3, k3, A4, k4, rfl, hw, hx, hg⟩ := pair_granted p hf 0 (by omega)
  obtain ⟨c0, c1, c2, c3, c4⟩ := five_cells hw
  have zg := whole_lt hw
  have HG := Lib.hid (fineH_g hf)
  have SV : Hid (∀ W, Below w.heap.size w W → Calls Try.prog 100 #[.agg #[.int .i64 1, .int .i64 1, .func (.func 124) #[] #[]], .pointer (some ⟨G, 0, none⟩), .pointer (some ⟨E, 0, none⟩)] W (ServeOf W lo G E (q, d', x, th))) := Lib.hid fun W hb => by
    have h9 := serve_any W lo G E _ vd h d 0 (pair_below p hb) hf df (by omega) (fun x y z q e => row_below (hr x y z q e) hb)
    rw [hs] at h9
    exact h9
  rw [hg1] at hx
  have i0 : (0 : Int) < h.g.length := by have := HG.out; omega
  have i2 : 0 < h.g.length := by have := HG.out; omega
  have i3 : h.d.length < 40 := by have := fineH_d hf; omega
  have i4 : (h.d.length : Int) < 40 := by omega
  have lw := lo_le p
  clear hw p hf df hr hs hq HG
  go_enter Try.func54, Try.ntmps54
  go_wp2_with fail
  refine (capTable_any _).mono ?_
  rintro e w1 ⟨rfl, hb1⟩
  have HB1 := Lib.hid hb1
  have hz1 := hb1.size
  clear hb1
  go_wp2_with fail
  refine (SV.out _ (by repeat (first | with_reducible exact HB1.out | with_reducible exact Below.refl _ _ | with_reducible refine below_alloc ?_ _ | with_reducible refine below_drewN ?_ _ | with_reducible refine Below.drew ?_))).mono ?_
  rintro e w2 ⟨he2, ⟨vh', vd', p2⟩, hb2⟩
  dsimp only at he2
  subst he2
  have P2 := Lib.hid p2
  have B2 := Lib.hid ((HB1.out.mono lw).trans hb2)
  clear p2 hb2
  go_wp2_with fail
  refine bodyPost_ret (v := .int .i64 th) (by simp [results, Try.results54, go_sem, *]) rfl ?_
  exact call_end P2.out B2.out (by repeat (first | with_reducible exact Below.refl _ _ | with_reducible refine below_alloc ?_ _ | with_reducible refine below_drewN ?_ _ | with_reducible refine Below.drew ?_))

set_option maxRecDepth 100000 in
set_option maxHeartbeats 1000000 in
theorem call_throw1 (w : World) (lo G E : Nat) (vh vd : Value) (h : Ht) (d : Dt) (p : Pair w lo G E vh vd h d) (hf : HtFine h) (df : DtFine d) (q : Ht) (d' : Dt) (x : Dd) (th : Int) (hg1 : h.g.getD 1 false = true) (hq : ¬ h.d.length = 40) (hr : ∀ x y z q, vh = .agg #[x, y, z, .int .i64 h.c, q] → Row w lo z h.n) (hs : hServe h d 1 = (q, d', x, th)) (hth : th ≠ 0) :
    Calls Try.prog 54 #[.pointer (some ⟨G, 0, none⟩), .pointer (some ⟨E, 0, none⟩), .int .i64 1] w (CallOf w lo G E (q, d', th)) := by
  have t1 : (th != 0) = true := by rw [bne_iff_ne]; exact hth
  have PP := Lib.hid p
  obtain ⟨g, k1, A2, k2, A3, k3, A4, k4, rfl, hw, hx, hg⟩ := pair_granted p hf 1 (by omega)
  obtain ⟨c0, c1, c2, c3, c4⟩ := five_cells hw
  have zg := whole_lt hw
  have HG := Lib.hid (fineH_g hf)
  have SV : Hid (∀ W, Below w.heap.size w W → Calls Try.prog 100 #[.agg #[.int .i64 2, .int .i64 0, .func (.func 125) #[] #[]], .pointer (some ⟨G, 0, none⟩), .pointer (some ⟨E, 0, none⟩)] W (ServeOf W lo G E (q, d', x, th))) := Lib.hid fun W hb => by
    have h9 := serve_any W lo G E _ vd h d 1 (pair_below p hb) hf df (by omega) (fun x y z q e => row_below (hr x y z q e) hb)
    rw [hs] at h9
    exact h9
  rw [hg1] at hx
  have i0 : (1 : Int) < h.g.length := by have := HG.out; omega
  have i2 : 1 < h.g.length := by have := HG.out; omega
  have i3 : h.d.length < 40 := by have := fineH_d hf; omega
  have i4 : (h.d.length : Int) < 40 := by omega
  have lw := lo_le p
  clear hw p hf df hr hs hq HG
  go_enter Try.func54, Try.ntmps54
  go_wp2_with fail
  refine (capTable_any _).mono ?_
  rintro e w1 ⟨rfl, hb1⟩
  have HB1 := Lib.hid hb1
  have hz1 := hb1.size
  clear hb1
  go_wp2_with fail
  refine (SV.out _ (by repeat (first | with_reducible exact HB1.out | with_reducible exact Below.refl _ _ | with_reducible refine below_alloc ?_ _ | with_reducible refine below_drewN ?_ _ | with_reducible refine Below.drew ?_))).mono ?_
  rintro e w2 ⟨he2, ⟨vh', vd', p2⟩, hb2⟩
  dsimp only at he2
  subst he2
  have P2 := Lib.hid p2
  have B2 := Lib.hid ((HB1.out.mono lw).trans hb2)
  clear p2 hb2
  go_wp2_with fail
  refine bodyPost_ret (v := .int .i64 th) (by simp [results, Try.results54, go_sem, *]) rfl ?_
  exact call_end P2.out B2.out (by repeat (first | with_reducible exact Below.refl _ _ | with_reducible refine below_alloc ?_ _ | with_reducible refine below_drewN ?_ _ | with_reducible refine Below.drew ?_))

set_option maxRecDepth 100000 in
set_option maxHeartbeats 1000000 in
theorem call_throw2 (w : World) (lo G E : Nat) (vh vd : Value) (h : Ht) (d : Dt) (p : Pair w lo G E vh vd h d) (hf : HtFine h) (df : DtFine d) (q : Ht) (d' : Dt) (x : Dd) (th : Int) (hg1 : h.g.getD 2 false = true) (hq : ¬ h.d.length = 40) (hr : ∀ x y z q, vh = .agg #[x, y, z, .int .i64 h.c, q] → Row w lo z h.n) (hs : hServe h d 2 = (q, d', x, th)) (hth : th ≠ 0) :
    Calls Try.prog 54 #[.pointer (some ⟨G, 0, none⟩), .pointer (some ⟨E, 0, none⟩), .int .i64 2] w (CallOf w lo G E (q, d', th)) := by
  have t1 : (th != 0) = true := by rw [bne_iff_ne]; exact hth
  have PP := Lib.hid p
  obtain ⟨g, k1, A2, k2, A3, k3, A4, k4, rfl, hw, hx, hg⟩ := pair_granted p hf 2 (by omega)
  obtain ⟨c0, c1, c2, c3, c4⟩ := five_cells hw
  have zg := whole_lt hw
  have HG := Lib.hid (fineH_g hf)
  have SV : Hid (∀ W, Below w.heap.size w W → Calls Try.prog 100 #[.agg #[.int .i64 1, .int .i64 1, .func (.func 126) #[] #[]], .pointer (some ⟨G, 0, none⟩), .pointer (some ⟨E, 0, none⟩)] W (ServeOf W lo G E (q, d', x, th))) := Lib.hid fun W hb => by
    have h9 := serve_any W lo G E _ vd h d 2 (pair_below p hb) hf df (by omega) (fun x y z q e => row_below (hr x y z q e) hb)
    rw [hs] at h9
    exact h9
  rw [hg1] at hx
  have i0 : (2 : Int) < h.g.length := by have := HG.out; omega
  have i2 : 2 < h.g.length := by have := HG.out; omega
  have i3 : h.d.length < 40 := by have := fineH_d hf; omega
  have i4 : (h.d.length : Int) < 40 := by omega
  have lw := lo_le p
  clear hw p hf df hr hs hq HG
  go_enter Try.func54, Try.ntmps54
  go_wp2_with fail
  refine (capTable_any _).mono ?_
  rintro e w1 ⟨rfl, hb1⟩
  have HB1 := Lib.hid hb1
  have hz1 := hb1.size
  clear hb1
  go_wp2_with fail
  refine (SV.out _ (by repeat (first | with_reducible exact HB1.out | with_reducible exact Below.refl _ _ | with_reducible refine below_alloc ?_ _ | with_reducible refine below_drewN ?_ _ | with_reducible refine Below.drew ?_))).mono ?_
  rintro e w2 ⟨he2, ⟨vh', vd', p2⟩, hb2⟩
  dsimp only at he2
  subst he2
  have P2 := Lib.hid p2
  have B2 := Lib.hid ((HB1.out.mono lw).trans hb2)
  clear p2 hb2
  go_wp2_with fail
  refine bodyPost_ret (v := .int .i64 th) (by simp [results, Try.results54, go_sem, *]) rfl ?_
  exact call_end P2.out B2.out (by repeat (first | with_reducible exact Below.refl _ _ | with_reducible refine below_alloc ?_ _ | with_reducible refine below_drewN ?_ _ | with_reducible refine Below.drew ?_))

set_option maxRecDepth 100000 in
set_option maxHeartbeats 1000000 in
theorem call_throw3 (w : World) (lo G E : Nat) (vh vd : Value) (h : Ht) (d : Dt) (p : Pair w lo G E vh vd h d) (hf : HtFine h) (df : DtFine d) (q : Ht) (d' : Dt) (x : Dd) (th : Int) (hg1 : h.g.getD 3 false = true) (hq : ¬ h.d.length = 40) (hr : ∀ x y z q, vh = .agg #[x, y, z, .int .i64 h.c, q] → Row w lo z h.n) (hs : hServe h d 3 = (q, d', x, th)) (hth : th ≠ 0) :
    Calls Try.prog 54 #[.pointer (some ⟨G, 0, none⟩), .pointer (some ⟨E, 0, none⟩), .int .i64 3] w (CallOf w lo G E (q, d', th)) := by
  have t1 : (th != 0) = true := by rw [bne_iff_ne]; exact hth
  have PP := Lib.hid p
  obtain ⟨g, k1, A2, k2, A3, k3, A4, k4, rfl, hw, hx, hg⟩ := pair_granted p hf 3 (by omega)
  obtain ⟨c0, c1, c2, c3, c4⟩ := five_cells hw
  have zg := whole_lt hw
  have HG := Lib.hid (fineH_g hf)
  have SV : Hid (∀ W, Below w.heap.size w W → Calls Try.prog 100 #[.agg #[.int .i64 0, .int .i64 1, .func (.func 127) #[] #[]], .pointer (some ⟨G, 0, none⟩), .pointer (some ⟨E, 0, none⟩)] W (ServeOf W lo G E (q, d', x, th))) := Lib.hid fun W hb => by
    have h9 := serve_any W lo G E _ vd h d 3 (pair_below p hb) hf df (by omega) (fun x y z q e => row_below (hr x y z q e) hb)
    rw [hs] at h9
    exact h9
  rw [hg1] at hx
  have i0 : (3 : Int) < h.g.length := by have := HG.out; omega
  have i2 : 3 < h.g.length := by have := HG.out; omega
  have i3 : h.d.length < 40 := by have := fineH_d hf; omega
  have i4 : (h.d.length : Int) < 40 := by omega
  have lw := lo_le p
  clear hw p hf df hr hs hq HG
  go_enter Try.func54, Try.ntmps54
  go_wp2_with fail
  refine (capTable_any _).mono ?_
  rintro e w1 ⟨rfl, hb1⟩
  have HB1 := Lib.hid hb1
  have hz1 := hb1.size
  clear hb1
  go_wp2_with fail
  refine (SV.out _ (by repeat (first | with_reducible exact HB1.out | with_reducible exact Below.refl _ _ | with_reducible refine below_alloc ?_ _ | with_reducible refine below_drewN ?_ _ | with_reducible refine Below.drew ?_))).mono ?_
  rintro e w2 ⟨he2, ⟨vh', vd', p2⟩, hb2⟩
  dsimp only at he2
  subst he2
  have P2 := Lib.hid p2
  have B2 := Lib.hid ((HB1.out.mono lw).trans hb2)
  clear p2 hb2
  go_wp2_with fail
  refine bodyPost_ret (v := .int .i64 th) (by simp [results, Try.results54, go_sem, *]) rfl ?_
  exact call_end P2.out B2.out (by repeat (first | with_reducible exact Below.refl _ _ | with_reducible refine below_alloc ?_ _ | with_reducible refine below_drewN ?_ _ | with_reducible refine Below.drew ?_))

set_option maxRecDepth 100000 in
set_option maxHeartbeats 1000000 in
theorem call_fine0 (w : World) (lo G E : Nat) (vh vd : Value) (h : Ht) (d : Dt) (p : Pair w lo G E vh vd h d) (hf : HtFine h) (df : DtFine d) (q : Ht) (d' : Dt) (x : Dd) (hg1 : h.g.getD 0 false = true) (hq : ¬ h.d.length = 40) (hr : ∀ x y z q, vh = .agg #[x, y, z, .int .i64 h.c, q] → Row w lo z h.n) (hs : hServe h d 0 = (q, d', x, 0)) (hql : q.d.length ≤ 40) :
    Calls Try.prog 54 #[.pointer (some ⟨G, 0, none⟩), .pointer (some ⟨E, 0, none⟩), .int .i64 0] w (CallOf w lo G E ({ q with d := q.d ++ [⟨0, x.a, x.b, x.r⟩] }, d', 0)) := by
  have PP := Lib.hid p
  obtain ⟨g, k1, A2, k2, A3, k3, A4, k4, rfl, hw, hx, hg⟩ := pair_granted p hf 0 (by omega)
  obtain ⟨c0, c1, c2, c3, c4⟩ := five_cells hw
  have zg := whole_lt hw
  have HG := Lib.hid (fineH_g hf)
  have SV : Hid (∀ W, Below w.heap.size w W → Calls Try.prog 100 #[.agg #[.int .i64 1, .int .i64 1, .func (.func 124) #[] #[]], .pointer (some ⟨G, 0, none⟩), .pointer (some ⟨E, 0, none⟩)] W (ServeOf W lo G E (q, d', x, 0))) := Lib.hid fun W hb => by
    have h9 := serve_any W lo G E _ vd h d 0 (pair_below p hb) hf df (by omega) (fun x y z q e => row_below (hr x y z q e) hb)
    rw [hs] at h9
    exact h9
  rw [hg1] at hx
  have i0 : (0 : Int) < h.g.length := by have := HG.out; omega
  have i2 : 0 < h.g.length := by have := HG.out; omega
  have i3 : h.d.length < 40 := by have := fineH_d hf; omega
  have i4 : (h.d.length : Int) < 40 := by omega
  have lw := lo_le p
  clear hw p hf df hr hs hq HG
  go_enter Try.func54, Try.ntmps54
  go_wp2_with fail
  refine (capTable_any _).mono ?_
  rintro e w1 ⟨rfl, hb1⟩
  have HB1 := Lib.hid hb1
  have hz1 := hb1.size
  clear hb1
  go_wp2_with fail
  refine (SV.out _ (by repeat (first | with_reducible exact HB1.out | with_reducible exact Below.refl _ _ | with_reducible refine below_alloc ?_ _ | with_reducible refine below_drewN ?_ _ | with_reducible refine Below.drew ?_))).mono ?_
  rintro e w2 ⟨he2, ⟨vh', vd', p2⟩, hb2⟩
  dsimp only at he2
  subst he2
  have P2 := Lib.hid p2
  have B2 := Lib.hid ((HB1.out.mono lw).trans hb2)
  clear p2 hb2
  go_wp2_with fail
  generalize hW3 : World.alloc _ _ = W3
  have P3 : Pair W3 lo G E vh' vd' q d' := by rw [← hW3]; exact pair_below P2.out (below_alloc (Below.refl _ _) _)
  have B3 : Below lo w W3 := by rw [← hW3]; exact B2.out.trans ((below_alloc (Below.refl _ _) _).mono (lo_le P2.out))
  have D3 : Whole W3 w2.heap.size 48 #[.int .i64 0, .int .i64 x.a, .int .i64 x.b, .int .i64 x.r] := by rw [← hW3]; exact whole_new w2 _ _
  clear hW3
  obtain ⟨a1, j1, a2, j2, a3, j3, a4, j4, rfl, GB3⟩ := hbx_form P3.host
  have DR3 : DRow W3 lo (.slice a4 q.d.length j4) q.d := pair_drow P3
  obtain ⟨e0, e1, e2, e3, e4⟩ := five_cells GB3
  obtain ⟨y0, y1, y2, y3⟩ := deed_cells D3
  have zG3 := whole_lt GB3
  have zD3 := whole_lt D3
  have nG := fun k (hk : (Value.slice a4 q.d.length j4).ownBlock = some k) => P3.host.2.2 k (mine_hostFifth hk)
  have lw3 := lo_le P3
  have lG3 := P3.loG
  have SV3 := Lib.hid (And.intro P3 (And.intro GB3 (And.intro DR3 (And.intro B3 nG))))
  have LN4 : Hid ((q.d ++ [(⟨0, x.a, x.b, x.r⟩ : Dd)]).length = q.d.length + 1) := Lib.hid (by rw [List.length_append]; rfl)
  clear P3 GB3 DR3 B3 D3 nG
  go_region_law (first
    | (refine step_append_deeds6 (w := (W3.alloc (.cells #[.int .i64 0, .int .i64 x.a, .int .i64 x.b, .int .i64 x.r] 48)).drew) rfl (.tmp 41) (.tmp 43) rfl rfl lo (.slice a4 q.d.length j4) q.d rfl (by exact drow_alloc SV3.out.2.2.1 _) _ [⟨0, x.a, x.b, x.r⟩] rfl (by exact dds_oneAt W3 ⟨0, x.a, x.b, x.r⟩ rfl) (by simp; omega) (by simp; omega) ?_
       intro v4 w4 hr4 hg4 hat4
       obtain ⟨_, C4, i4, rfl, _⟩ := drow_dds hr4
       rw [LN4.out] at hr4 hat4 ⊢
       obtain ⟨P3, GB3, DR3, B3, nG⟩ := SV3.out
       have BA : Below W3.heap.size W3 (W3.alloc (.cells #[.int .i64 0, .int .i64 x.a, .int .i64 x.b, .int .i64 x.r] 48)).drew := (below_alloc (Below.refl _ _) _).drew
       have PP4 := Lib.hid (pair_deeds (pair_below P3 BA) hg4 hr4 hat4)
       have GB4 := whole_keep (whole_below GB3 BA) (hg4.block G (Nat.lt_of_lt_of_le zG3 BA.size) (fun e => nG G e.symm rfl))
       have u4 := host_fifth GB4
       have fG := whole_free GB4
       have l4 := whole_lt GB4
       have BL4 := Lib.hid (((B3.trans (BA.mono lw3)).grown hg4 (Nat.le_trans lw3 BA.size) (fun k hk => (drow_lt DR3 k hk).1)).setCell (p := ⟨G, 4, none⟩) lG3 (.slice C4 (q.d.length + 1) i4))
       clear hg4 hr4 hat4 P3 GB3 DR3 B3 nG BA GB4))
  all_goals
    go_wp2
    refine bodyPost_ret (v := .int .i64 0) (by simp [results, Try.results54, go_sem, *]) rfl ?_
    exact ⟨rfl, ⟨_, _, PP4.out⟩, BL4.out⟩

set_option maxRecDepth 100000 in
set_option maxHeartbeats 1000000 in
theorem call_fine1 (w : World) (lo G E : Nat) (vh vd : Value) (h : Ht) (d : Dt) (p : Pair w lo G E vh vd h d) (hf : HtFine h) (df : DtFine d) (q : Ht) (d' : Dt) (x : Dd) (hg1 : h.g.getD 1 false = true) (hq : ¬ h.d.length = 40) (hr : ∀ x y z q, vh = .agg #[x, y, z, .int .i64 h.c, q] → Row w lo z h.n) (hs : hServe h d 1 = (q, d', x, 0)) (hql : q.d.length ≤ 40) :
    Calls Try.prog 54 #[.pointer (some ⟨G, 0, none⟩), .pointer (some ⟨E, 0, none⟩), .int .i64 1] w (CallOf w lo G E ({ q with d := q.d ++ [⟨1, x.a, x.b, x.r⟩] }, d', 0)) := by
  have PP := Lib.hid p
  obtain ⟨g, k1, A2, k2, A3, k3, A4, k4, rfl, hw, hx, hg⟩ := pair_granted p hf 1 (by omega)
  obtain ⟨c0, c1, c2, c3, c4⟩ := five_cells hw
  have zg := whole_lt hw
  have HG := Lib.hid (fineH_g hf)
  have SV : Hid (∀ W, Below w.heap.size w W → Calls Try.prog 100 #[.agg #[.int .i64 2, .int .i64 0, .func (.func 125) #[] #[]], .pointer (some ⟨G, 0, none⟩), .pointer (some ⟨E, 0, none⟩)] W (ServeOf W lo G E (q, d', x, 0))) := Lib.hid fun W hb => by
    have h9 := serve_any W lo G E _ vd h d 1 (pair_below p hb) hf df (by omega) (fun x y z q e => row_below (hr x y z q e) hb)
    rw [hs] at h9
    exact h9
  rw [hg1] at hx
  have i0 : (1 : Int) < h.g.length := by have := HG.out; omega
  have i2 : 1 < h.g.length := by have := HG.out; omega
  have i3 : h.d.length < 40 := by have := fineH_d hf; omega
  have i4 : (h.d.length : Int) < 40 := by omega
  have lw := lo_le p
  clear hw p hf df hr hs hq HG
  go_enter Try.func54, Try.ntmps54
  go_wp2_with fail
  refine (capTable_any _).mono ?_
  rintro e w1 ⟨rfl, hb1⟩
  have HB1 := Lib.hid hb1
  have hz1 := hb1.size
  clear hb1
  go_wp2_with fail
  refine (SV.out _ (by repeat (first | with_reducible exact HB1.out | with_reducible exact Below.refl _ _ | with_reducible refine below_alloc ?_ _ | with_reducible refine below_drewN ?_ _ | with_reducible refine Below.drew ?_))).mono ?_
  rintro e w2 ⟨he2, ⟨vh', vd', p2⟩, hb2⟩
  dsimp only at he2
  subst he2
  have P2 := Lib.hid p2
  have B2 := Lib.hid ((HB1.out.mono lw).trans hb2)
  clear p2 hb2
  go_wp2_with fail
  generalize hW3 : World.alloc _ _ = W3
  have P3 : Pair W3 lo G E vh' vd' q d' := by rw [← hW3]; exact pair_below P2.out (below_alloc (Below.refl _ _) _)
  have B3 : Below lo w W3 := by rw [← hW3]; exact B2.out.trans ((below_alloc (Below.refl _ _) _).mono (lo_le P2.out))
  have D3 : Whole W3 w2.heap.size 48 #[.int .i64 1, .int .i64 x.a, .int .i64 x.b, .int .i64 x.r] := by rw [← hW3]; exact whole_new w2 _ _
  clear hW3
  obtain ⟨a1, j1, a2, j2, a3, j3, a4, j4, rfl, GB3⟩ := hbx_form P3.host
  have DR3 : DRow W3 lo (.slice a4 q.d.length j4) q.d := pair_drow P3
  obtain ⟨e0, e1, e2, e3, e4⟩ := five_cells GB3
  obtain ⟨y0, y1, y2, y3⟩ := deed_cells D3
  have zG3 := whole_lt GB3
  have zD3 := whole_lt D3
  have nG := fun k (hk : (Value.slice a4 q.d.length j4).ownBlock = some k) => P3.host.2.2 k (mine_hostFifth hk)
  have lw3 := lo_le P3
  have lG3 := P3.loG
  have SV3 := Lib.hid (And.intro P3 (And.intro GB3 (And.intro DR3 (And.intro B3 nG))))
  have LN4 : Hid ((q.d ++ [(⟨1, x.a, x.b, x.r⟩ : Dd)]).length = q.d.length + 1) := Lib.hid (by rw [List.length_append]; rfl)
  clear P3 GB3 DR3 B3 D3 nG
  go_region_law (first
    | (refine step_append_deeds6 (w := (W3.alloc (.cells #[.int .i64 1, .int .i64 x.a, .int .i64 x.b, .int .i64 x.r] 48)).drew) rfl (.tmp 41) (.tmp 43) rfl rfl lo (.slice a4 q.d.length j4) q.d rfl (by exact drow_alloc SV3.out.2.2.1 _) _ [⟨1, x.a, x.b, x.r⟩] rfl (by exact dds_oneAt W3 ⟨1, x.a, x.b, x.r⟩ rfl) (by simp; omega) (by simp; omega) ?_
       intro v4 w4 hr4 hg4 hat4
       obtain ⟨_, C4, i4, rfl, _⟩ := drow_dds hr4
       rw [LN4.out] at hr4 hat4 ⊢
       obtain ⟨P3, GB3, DR3, B3, nG⟩ := SV3.out
       have BA : Below W3.heap.size W3 (W3.alloc (.cells #[.int .i64 1, .int .i64 x.a, .int .i64 x.b, .int .i64 x.r] 48)).drew := (below_alloc (Below.refl _ _) _).drew
       have PP4 := Lib.hid (pair_deeds (pair_below P3 BA) hg4 hr4 hat4)
       have GB4 := whole_keep (whole_below GB3 BA) (hg4.block G (Nat.lt_of_lt_of_le zG3 BA.size) (fun e => nG G e.symm rfl))
       have u4 := host_fifth GB4
       have fG := whole_free GB4
       have l4 := whole_lt GB4
       have BL4 := Lib.hid (((B3.trans (BA.mono lw3)).grown hg4 (Nat.le_trans lw3 BA.size) (fun k hk => (drow_lt DR3 k hk).1)).setCell (p := ⟨G, 4, none⟩) lG3 (.slice C4 (q.d.length + 1) i4))
       clear hg4 hr4 hat4 P3 GB3 DR3 B3 nG BA GB4))
  all_goals
    go_wp2
    refine bodyPost_ret (v := .int .i64 0) (by simp [results, Try.results54, go_sem, *]) rfl ?_
    exact ⟨rfl, ⟨_, _, PP4.out⟩, BL4.out⟩

set_option maxRecDepth 100000 in
set_option maxHeartbeats 1000000 in
theorem call_fine2 (w : World) (lo G E : Nat) (vh vd : Value) (h : Ht) (d : Dt) (p : Pair w lo G E vh vd h d) (hf : HtFine h) (df : DtFine d) (q : Ht) (d' : Dt) (x : Dd) (hg1 : h.g.getD 2 false = true) (hq : ¬ h.d.length = 40) (hr : ∀ x y z q, vh = .agg #[x, y, z, .int .i64 h.c, q] → Row w lo z h.n) (hs : hServe h d 2 = (q, d', x, 0)) (hql : q.d.length ≤ 40) :
    Calls Try.prog 54 #[.pointer (some ⟨G, 0, none⟩), .pointer (some ⟨E, 0, none⟩), .int .i64 2] w (CallOf w lo G E ({ q with d := q.d ++ [⟨2, x.a, x.b, x.r⟩] }, d', 0)) := by
  have PP := Lib.hid p
  obtain ⟨g, k1, A2, k2, A3, k3, A4, k4, rfl, hw, hx, hg⟩ := pair_granted p hf 2 (by omega)
  obtain ⟨c0, c1, c2, c3, c4⟩ := five_cells hw
  have zg := whole_lt hw
  have HG := Lib.hid (fineH_g hf)
  have SV : Hid (∀ W, Below w.heap.size w W → Calls Try.prog 100 #[.agg #[.int .i64 1, .int .i64 1, .func (.func 126) #[] #[]], .pointer (some ⟨G, 0, none⟩), .pointer (some ⟨E, 0, none⟩)] W (ServeOf W lo G E (q, d', x, 0))) := Lib.hid fun W hb => by
    have h9 := serve_any W lo G E _ vd h d 2 (pair_below p hb) hf df (by omega) (fun x y z q e => row_below (hr x y z q e) hb)
    rw [hs] at h9
    exact h9
  rw [hg1] at hx
  have i0 : (2 : Int) < h.g.length := by have := HG.out; omega
  have i2 : 2 < h.g.length := by have := HG.out; omega
  have i3 : h.d.length < 40 := by have := fineH_d hf; omega
  have i4 : (h.d.length : Int) < 40 := by omega
  have lw := lo_le p
  clear hw p hf df hr hs hq HG
  go_enter Try.func54, Try.ntmps54
  go_wp2_with fail
  refine (capTable_any _).mono ?_
  rintro e w1 ⟨rfl, hb1⟩
  have HB1 := Lib.hid hb1
  have hz1 := hb1.size
  clear hb1
  go_wp2_with fail
  refine (SV.out _ (by repeat (first | with_reducible exact HB1.out | with_reducible exact Below.refl _ _ | with_reducible refine below_alloc ?_ _ | with_reducible refine below_drewN ?_ _ | with_reducible refine Below.drew ?_))).mono ?_
  rintro e w2 ⟨he2, ⟨vh', vd', p2⟩, hb2⟩
  dsimp only at he2
  subst he2
  have P2 := Lib.hid p2
  have B2 := Lib.hid ((HB1.out.mono lw).trans hb2)
  clear p2 hb2
  go_wp2_with fail
  generalize hW3 : World.alloc _ _ = W3
  have P3 : Pair W3 lo G E vh' vd' q d' := by rw [← hW3]; exact pair_below P2.out (below_alloc (Below.refl _ _) _)
  have B3 : Below lo w W3 := by rw [← hW3]; exact B2.out.trans ((below_alloc (Below.refl _ _) _).mono (lo_le P2.out))
  have D3 : Whole W3 w2.heap.size 48 #[.int .i64 2, .int .i64 x.a, .int .i64 x.b, .int .i64 x.r] := by rw [← hW3]; exact whole_new w2 _ _
  clear hW3
  obtain ⟨a1, j1, a2, j2, a3, j3, a4, j4, rfl, GB3⟩ := hbx_form P3.host
  have DR3 : DRow W3 lo (.slice a4 q.d.length j4) q.d := pair_drow P3
  obtain ⟨e0, e1, e2, e3, e4⟩ := five_cells GB3
  obtain ⟨y0, y1, y2, y3⟩ := deed_cells D3
  have zG3 := whole_lt GB3
  have zD3 := whole_lt D3
  have nG := fun k (hk : (Value.slice a4 q.d.length j4).ownBlock = some k) => P3.host.2.2 k (mine_hostFifth hk)
  have lw3 := lo_le P3
  have lG3 := P3.loG
  have SV3 := Lib.hid (And.intro P3 (And.intro GB3 (And.intro DR3 (And.intro B3 nG))))
  have LN4 : Hid ((q.d ++ [(⟨2, x.a, x.b, x.r⟩ : Dd)]).length = q.d.length + 1) := Lib.hid (by rw [List.length_append]; rfl)
  clear P3 GB3 DR3 B3 D3 nG
  go_region_law (first
    | (refine step_append_deeds6 (w := (W3.alloc (.cells #[.int .i64 2, .int .i64 x.a, .int .i64 x.b, .int .i64 x.r] 48)).drew) rfl (.tmp 41) (.tmp 43) rfl rfl lo (.slice a4 q.d.length j4) q.d rfl (by exact drow_alloc SV3.out.2.2.1 _) _ [⟨2, x.a, x.b, x.r⟩] rfl (by exact dds_oneAt W3 ⟨2, x.a, x.b, x.r⟩ rfl) (by simp; omega) (by simp; omega) ?_
       intro v4 w4 hr4 hg4 hat4
       obtain ⟨_, C4, i4, rfl, _⟩ := drow_dds hr4
       rw [LN4.out] at hr4 hat4 ⊢
       obtain ⟨P3, GB3, DR3, B3, nG⟩ := SV3.out
       have BA : Below W3.heap.size W3 (W3.alloc (.cells #[.int .i64 2, .int .i64 x.a, .int .i64 x.b, .int .i64 x.r] 48)).drew := (below_alloc (Below.refl _ _) _).drew
       have PP4 := Lib.hid (pair_deeds (pair_below P3 BA) hg4 hr4 hat4)
       have GB4 := whole_keep (whole_below GB3 BA) (hg4.block G (Nat.lt_of_lt_of_le zG3 BA.size) (fun e => nG G e.symm rfl))
       have u4 := host_fifth GB4
       have fG := whole_free GB4
       have l4 := whole_lt GB4
       have BL4 := Lib.hid (((B3.trans (BA.mono lw3)).grown hg4 (Nat.le_trans lw3 BA.size) (fun k hk => (drow_lt DR3 k hk).1)).setCell (p := ⟨G, 4, none⟩) lG3 (.slice C4 (q.d.length + 1) i4))
       clear hg4 hr4 hat4 P3 GB3 DR3 B3 nG BA GB4))
  all_goals
    go_wp2
    refine bodyPost_ret (v := .int .i64 0) (by simp [results, Try.results54, go_sem, *]) rfl ?_
    exact ⟨rfl, ⟨_, _, PP4.out⟩, BL4.out⟩

set_option maxRecDepth 100000 in
set_option maxHeartbeats 1000000 in
theorem call_fine3 (w : World) (lo G E : Nat) (vh vd : Value) (h : Ht) (d : Dt) (p : Pair w lo G E vh vd h d) (hf : HtFine h) (df : DtFine d) (q : Ht) (d' : Dt) (x : Dd) (hg1 : h.g.getD 3 false = true) (hq : ¬ h.d.length = 40) (hr : ∀ x y z q, vh = .agg #[x, y, z, .int .i64 h.c, q] → Row w lo z h.n) (hs : hServe h d 3 = (q, d', x, 0)) (hql : q.d.length ≤ 40) :
    Calls Try.prog 54 #[.pointer (some ⟨G, 0, none⟩), .pointer (some ⟨E, 0, none⟩), .int .i64 3] w (CallOf w lo G E ({ q with d := q.d ++ [⟨3, x.a, x.b, x.r⟩] }, d', 0)) := by
  have PP := Lib.hid p
  obtain ⟨g, k1, A2, k2, A3, k3, A4, k4, rfl, hw, hx, hg⟩ := pair_granted p hf 3 (by omega)
  obtain ⟨c0, c1, c2, c3, c4⟩ := five_cells hw
  have zg := whole_lt hw
  have HG := Lib.hid (fineH_g hf)
  have SV : Hid (∀ W, Below w.heap.size w W → Calls Try.prog 100 #[.agg #[.int .i64 0, .int .i64 1, .func (.func 127) #[] #[]], .pointer (some ⟨G, 0, none⟩), .pointer (some ⟨E, 0, none⟩)] W (ServeOf W lo G E (q, d', x, 0))) := Lib.hid fun W hb => by
    have h9 := serve_any W lo G E _ vd h d 3 (pair_below p hb) hf df (by omega) (fun x y z q e => row_below (hr x y z q e) hb)
    rw [hs] at h9
    exact h9
  rw [hg1] at hx
  have i0 : (3 : Int) < h.g.length := by have := HG.out; omega
  have i2 : 3 < h.g.length := by have := HG.out; omega
  have i3 : h.d.length < 40 := by have := fineH_d hf; omega
  have i4 : (h.d.length : Int) < 40 := by omega
  have lw := lo_le p
  clear hw p hf df hr hs hq HG
  go_enter Try.func54, Try.ntmps54
  go_wp2_with fail
  refine (capTable_any _).mono ?_
  rintro e w1 ⟨rfl, hb1⟩
  have HB1 := Lib.hid hb1
  have hz1 := hb1.size
  clear hb1
  go_wp2_with fail
  refine (SV.out _ (by repeat (first | with_reducible exact HB1.out | with_reducible exact Below.refl _ _ | with_reducible refine below_alloc ?_ _ | with_reducible refine below_drewN ?_ _ | with_reducible refine Below.drew ?_))).mono ?_
  rintro e w2 ⟨he2, ⟨vh', vd', p2⟩, hb2⟩
  dsimp only at he2
  subst he2
  have P2 := Lib.hid p2
  have B2 := Lib.hid ((HB1.out.mono lw).trans hb2)
  clear p2 hb2
  go_wp2_with fail
  generalize hW3 : World.alloc _ _ = W3
  have P3 : Pair W3 lo G E vh' vd' q d' := by rw [← hW3]; exact pair_below P2.out (below_alloc (Below.refl _ _) _)
  have B3 : Below lo w W3 := by rw [← hW3]; exact B2.out.trans ((below_alloc (Below.refl _ _) _).mono (lo_le P2.out))
  have D3 : Whole W3 w2.heap.size 48 #[.int .i64 3, .int .i64 x.a, .int .i64 x.b, .int .i64 x.r] := by rw [← hW3]; exact whole_new w2 _ _
  clear hW3
  obtain ⟨a1, j1, a2, j2, a3, j3, a4, j4, rfl, GB3⟩ := hbx_form P3.host
  have DR3 : DRow W3 lo (.slice a4 q.d.length j4) q.d := pair_drow P3
  obtain ⟨e0, e1, e2, e3, e4⟩ := five_cells GB3
  obtain ⟨y0, y1, y2, y3⟩ := deed_cells D3
  have zG3 := whole_lt GB3
  have zD3 := whole_lt D3
  have nG := fun k (hk : (Value.slice a4 q.d.length j4).ownBlock = some k) => P3.host.2.2 k (mine_hostFifth hk)
  have lw3 := lo_le P3
  have lG3 := P3.loG
  have SV3 := Lib.hid (And.intro P3 (And.intro GB3 (And.intro DR3 (And.intro B3 nG))))
  have LN4 : Hid ((q.d ++ [(⟨3, x.a, x.b, x.r⟩ : Dd)]).length = q.d.length + 1) := Lib.hid (by rw [List.length_append]; rfl)
  clear P3 GB3 DR3 B3 D3 nG
  go_region_law (first
    | (refine step_append_deeds6 (w := (W3.alloc (.cells #[.int .i64 3, .int .i64 x.a, .int .i64 x.b, .int .i64 x.r] 48)).drew) rfl (.tmp 41) (.tmp 43) rfl rfl lo (.slice a4 q.d.length j4) q.d rfl (by exact drow_alloc SV3.out.2.2.1 _) _ [⟨3, x.a, x.b, x.r⟩] rfl (by exact dds_oneAt W3 ⟨3, x.a, x.b, x.r⟩ rfl) (by simp; omega) (by simp; omega) ?_
       intro v4 w4 hr4 hg4 hat4
       obtain ⟨_, C4, i4, rfl, _⟩ := drow_dds hr4
       rw [LN4.out] at hr4 hat4 ⊢
       obtain ⟨P3, GB3, DR3, B3, nG⟩ := SV3.out
       have BA : Below W3.heap.size W3 (W3.alloc (.cells #[.int .i64 3, .int .i64 x.a, .int .i64 x.b, .int .i64 x.r] 48)).drew := (below_alloc (Below.refl _ _) _).drew
       have PP4 := Lib.hid (pair_deeds (pair_below P3 BA) hg4 hr4 hat4)
       have GB4 := whole_keep (whole_below GB3 BA) (hg4.block G (Nat.lt_of_lt_of_le zG3 BA.size) (fun e => nG G e.symm rfl))
       have u4 := host_fifth GB4
       have fG := whole_free GB4
       have l4 := whole_lt GB4
       have BL4 := Lib.hid (((B3.trans (BA.mono lw3)).grown hg4 (Nat.le_trans lw3 BA.size) (fun k hk => (drow_lt DR3 k hk).1)).setCell (p := ⟨G, 4, none⟩) lG3 (.slice C4 (q.d.length + 1) i4))
       clear hg4 hr4 hat4 P3 GB3 DR3 B3 nG BA GB4))
  all_goals
    go_wp2
    refine bodyPost_ret (v := .int .i64 0) (by simp [results, Try.results54, go_sem, *]) rfl ?_
    exact ⟨rfl, ⟨_, _, PP4.out⟩, BL4.out⟩

end Go.Proofs.Ytjlfbmplmddceaa

namespace Go.Proofs.Ytjlfbmplmddceaa
open Go.RowKit
set_option linter.unusedVariables false
set_option linter.unusedSimpArgs false

theorem svc_deeds (h : Ht) (c : Nat) (a b : Int) : (hSvc h c a b).1.d = h.d := by
  unfold hSvc
  by_cases h0 : c = 0
  · rw [if_pos h0]; split <;> rfl
  rw [if_neg h0]
  by_cases h1 : c = 1
  · rw [if_pos h1]; split <;> rfl
  rw [if_neg h1]
  by_cases h2 : c = 2
  · rw [if_pos h2]
  rw [if_neg h2]

theorem serve_deeds (h : Ht) (d : Dt) (c : Nat) : (hServe h d c).1.d = h.d := by
  unfold hServe
  split
  · rfl
  split
  · rfl
  split
  · exact svc_deeds _ _ _ _
  · exact svc_deeds _ _ _ _

/-- What impl's call comes to, by its own steps. -/
def hIm (h : Ht) (d : Dt) (c : Nat) : Ht × Dt × Int :=
  if h.g.getD c false = false then (h, d, -100)
  else if h.d.length = 40 then (h, d, -8)
  else if (hServe h d c).2.2.2 ≠ 0 then ((hServe h d c).1, (hServe h d c).2.1, (hServe h d c).2.2.2)
  else ({ (hServe h d c).1 with d := (hServe h d c).1.d ++ [⟨c, (hServe h d c).2.2.1.a, (hServe h d c).2.2.1.b, (hServe h d c).2.2.1.r⟩] }, (hServe h d c).2.1, 0)

theorem svc_throw (h : Ht) (c : Nat) (a b : Int) (ht : (hSvc h c a b).2.2 ≠ 0) : (hSvc h c a b).1 = h ∧ (hDo h c a b).2.2 = (hSvc h c a b).2.2 := by
  unfold hSvc hDo at *
  by_cases h0 : c = 0
  · simp only [if_pos h0] at *
    by_cases hb : inB b 0 7 = true
    · simp [if_pos hb] at ht
    · simp only [if_neg hb]; exact ⟨trivial, trivial⟩
  simp only [if_neg h0] at *
  by_cases h1 : c = 1
  · simp only [if_pos h1] at *
    by_cases hb : inB b 0 7 = true
    · simp [if_pos hb] at ht
    · simp only [if_neg hb]; exact ⟨trivial, trivial⟩
  simp only [if_neg h1] at *
  by_cases h2 : c = 2
  · simp [if_pos h2] at ht
  simp [if_neg h2] at ht

theorem svc_good (h : Ht) (c : Nat) (a b : Int) (hc : c < 4) (ht : ¬ (hSvc h c a b).2.2 ≠ 0) : (hDo h c a b).2.2 = 0 ∧ (hDo h c a b).1 = { (hSvc h c a b).1 with d := (hSvc h c a b).1.d ++ [⟨c, (hSvc h c a b).2.1.a, (hSvc h c a b).2.1.b, (hSvc h c a b).2.1.r⟩] } ∧ (c ≠ 1 → (hDo h c a b).2.1 = (hSvc h c a b).2.1.r) := by
  rcases (by omega : c = 0 ∨ c = 1 ∨ c = 2 ∨ c = 3) with rfl | rfl | rfl | rfl
  · unfold hSvc hDo at *
    by_cases hb : inB b 0 7 = true
    · simp [hb]
    · simp [hb] at ht
  · unfold hSvc hDo at *
    by_cases hb : inB b 0 7 = true
    · simp [hb]
    · simp [hb] at ht
  · simp [hSvc, hDo]
  · simp [hSvc, hDo]

theorem im_call (h : Ht) (d : Dt) (c : Nat) (df : DtFine d) (hc : c < 4) : hIm h d c = hCall h d c := by
  have sl := fine_sl df
  unfold hIm hCall
  by_cases hg : h.g.getD c false = false
  · rw [if_pos hg, if_pos hg]
  rw [if_neg hg, if_neg hg]
  by_cases hq : h.d.length = 40
  · rw [if_pos hq, if_pos hq]
  rw [if_neg hq, if_neg hq]
  by_cases hu : d.s.length < capTakes c
  · have e : hServe h d c = (h, d, noDd, -4) := by unfold hServe; rw [if_pos hu]
    rw [e, if_pos hu, if_pos (show (-4 : Int) ≠ 0 by decide)]
  rw [if_neg hu]
  have hov : (32 < d.s.length - capTakes c + capLeaves c) ↔ (c = 3 ∧ d.s.length = 32) := by
    rcases (by omega : c = 0 ∨ c = 1 ∨ c = 2 ∨ c = 3) with rfl | rfl | rfl | rfl <;> simp [capTakes, capLeaves] at * <;> omega
  by_cases ho : c = 3 ∧ d.s.length = 32
  · have e : hServe h d c = (h, d, noDd, -3) := by unfold hServe; rw [if_neg hu, if_pos (hov.2 ho)]
    rw [e, if_pos ho, if_pos (show (-3 : Int) ≠ 0 by decide)]
  rw [if_neg ho]
  have ho' : ¬ 32 < d.s.length - capTakes c + capLeaves c := fun q => ho (hov.1 q)
  by_cases ht : (hSvc h c (tp d 1) (tp d 0)).2.2 ≠ 0
  · have e : hServe h d c = ((hSvc h c (tp d 1) (tp d 0)).1, d, noDd, (hSvc h c (tp d 1) (tp d 0)).2.2) := by unfold hServe; rw [if_neg hu, if_neg ho', if_pos ht]
    obtain ⟨t1, t2⟩ := svc_throw h c _ _ ht
    rw [e, if_pos ht, if_pos (by rw [t2]; exact ht), t1, t2]
  · have e : hServe h d c = ((hSvc h c (tp d 1) (tp d 0)).1, { d with s := d.s.take (d.s.length - capTakes c) ++ [(hSvc h c (tp d 1) (tp d 0)).2.1.r].take (capLeaves c) }, (hSvc h c (tp d 1) (tp d 0)).2.1, 0) := by unfold hServe; rw [if_neg hu, if_neg ho', if_neg ht]
    obtain ⟨t1, t2, t3⟩ := svc_good h c (tp d 1) (tp d 0) hc ht
    rw [e, if_neg (by simp), if_neg (by rw [t1]; simp), t2]
    by_cases h1 : c = 1
    · subst h1
      rw [if_pos rfl]
      have : (dPut d 2 []).1 = { d with s := d.s.take (d.s.length - 2) ++ [] } := by unfold dPut; rw [if_neg (by simp; omega)]
      rw [this]
      rfl
    · rw [if_neg h1, t3 h1]
      have hl : capLeaves c = 1 := by rcases (by omega : c = 0 ∨ c = 2 ∨ c = 3) with rfl | rfl | rfl <;> rfl
      have : (dPut d (capTakes c) [(hSvc h c (tp d 1) (tp d 0)).2.1.r]).1 = { d with s := d.s.take (d.s.length - capTakes c) ++ [(hSvc h c (tp d 1) (tp d 0)).2.1.r] } := by
        unfold dPut
        rw [if_neg (by rw [hl] at ho'; simpa using ho')]
      rw [this, hl]
      rfl

theorem call_any (w : World) (lo G E : Nat) (vh vd : Value) (h : Ht) (d : Dt) (c : Nat) (p : Pair w lo G E vh vd h d) (hf : HtFine h) (df : DtFine d) (hc : c < 4) (hr : ∀ x y z q, vh = .agg #[x, y, z, .int .i64 h.c, q] → Row w lo z h.n) :
    Calls Try.prog 54 #[.pointer (some ⟨G, 0, none⟩), .pointer (some ⟨E, 0, none⟩), .int .i64 (c : Int)] w (CallOf w lo G E (hCall h d c)) := by
  rw [← im_call h d c df hc]
  unfold hIm
  by_cases hg : h.g.getD c false = false
  · rw [if_pos hg]; exact call_denied w lo G E vh vd h d c p hf df hc hg
  rw [if_neg hg]
  have hg' : h.g.getD c false = true := by cases q : h.g.getD c false; exact absurd q hg; rfl
  by_cases hq : h.d.length = 40
  · rw [if_pos hq]; exact call_space w lo G E vh vd h d c p hf df hc hg' hq
  rw [if_neg hq]
  have hql : (hServe h d c).1.d.length ≤ 40 := by rw [serve_deeds]; exact fineH_d hf
  obtain ⟨q, d', x, th, hs⟩ : ∃ q d' x th, hServe h d c = (q, d', x, th) := ⟨_, _, _, _, rfl⟩
  rw [hs] at hql ⊢
  by_cases hth : th ≠ 0
  · rw [if_pos hth]
    rcases (by omega : c = 0 ∨ c = 1 ∨ c = 2 ∨ c = 3) with rfl | rfl | rfl | rfl
    · exact call_throw0 w lo G E vh vd h d p hf df q d' x th hg' hq hr hs hth
    · exact call_throw1 w lo G E vh vd h d p hf df q d' x th hg' hq hr hs hth
    · exact call_throw2 w lo G E vh vd h d p hf df q d' x th hg' hq hr hs hth
    · exact call_throw3 w lo G E vh vd h d p hf df q d' x th hg' hq hr hs hth
  · rw [if_neg hth]
    obtain rfl : th = 0 := by simpa using hth
    rcases (by omega : c = 0 ∨ c = 1 ∨ c = 2 ∨ c = 3) with rfl | rfl | rfl | rfl
    · exact call_fine0 w lo G E vh vd h d p hf df q d' x hg' hq hr hs hql
    · exact call_fine1 w lo G E vh vd h d p hf df q d' x hg' hq hr hs hql
    · exact call_fine2 w lo G E vh vd h d p hf df q d' x hg' hq hr hs hql
    · exact call_fine3 w lo G E vh vd h d p hf df q d' x hg' hq hr hs hql

end Go.Proofs.Ytjlfbmplmddceaa

namespace Go.Proofs.Ytjlfbmplmddceaa
open Go.RowKit
set_option linter.unusedVariables false
set_option linter.unusedSimpArgs false

/-- What HostCall comes to: the host, the data, the throw, the code. -/
def hHost (h : Ht) (d : Dt) (c : Int) : Ht × Dt × Int × Int :=
  if (hOK h && dOK d) = false then (noHt, noDt, 0, 1) else if inB c 0 3 = false then (noHt, noDt, 0, 9) else ((hCall h d c.toNat).1, (hCall h d c.toNat).2.1, (hCall h d c.toNat).2.2, 0)

/-- What impl's HostCall leaves. -/
def HcRes (w : World) (r : Ht × Dt × Int × Int) (e : Ending) (w' : World) : Prop :=
  ∃ v x, e = .returned (.tuple #[v, x, .int .i64 r.2.2.1, .int .i64 r.2.2.2]) ∧ HostT w' w.heap.size v r.1 ∧ DatOf w' w.heap.size w'.heap.size x r.2.1 ∧ (∀ k, Mine v k → ¬ Mine x k) ∧ Below w.heap.size w w'

theorem mine_zero {k : Nat} : ¬ Mine (.agg #[.slice none 0 0, .slice none 0 0, .slice none 0 0, .int .i64 0, .slice none 0 0]) k := by
  intro hk
  obtain ⟨u, hu, e⟩ := (mine_agg (l := [.slice none 0 0, .slice none 0 0, .slice none 0 0, .int .i64 0, .slice none 0 0])).1 hk
  simp only [List.mem_cons, List.not_mem_nil, or_false] at hu
  rcases hu with rfl | rfl | rfl | rfl | rfl <;> simp [Value.ownBlock] at e

theorem hcres_none {w w' : World} {t c : Int} (hb : Below w.heap.size w w') : HcRes w (noHt, noDt, t, c) (.returned (.tuple #[.agg #[.slice none 0 0, .slice none 0 0, .slice none 0 0, .int .i64 0, .slice none 0 0], .agg #[.slice none 0 0, .slice none 0 0, .slice none 0 0, .int .i64 0, .int .i64 0, .string ByteArray.empty], .int .i64 t, .int .i64 c])) w' :=
  ⟨_, _, rfl, hostT_of (hostOf_none _ _ w'.heap.size), datOf_none _ _ _, fun k hk => absurd hk mine_zero, hb⟩

theorem whole_third (w : World) (a b : Obj) (t : TypeId) (cs : Array Value) : Whole (((w.alloc a).alloc b).alloc (.cells cs t)) (w.heap.size + 1 + 1) t cs := by
  have h := whole_new ((w.alloc a).alloc b) t cs
  rw [size_two] at h
  exact h

theorem whole_fourth (w : World) (a b c : Obj) (t : TypeId) (cs : Array Value) : Whole ((((w.alloc a).alloc b).alloc c).alloc (.cells cs t)) (w.heap.size + 1 + 1 + 1) t cs := by
  have h := whole_third (w.alloc a) b c t cs
  have z : (w.alloc a).heap.size = w.heap.size + 1 := Array.size_push ..
  rw [z] at h
  exact h

set_option maxRecDepth 100000 in
set_option maxHeartbeats 1000000 in
theorem iHostCall_badHost (v x : Value) (h : Ht) (d : Dt) (c : Int) (w : World) (hv : HostIn w v h) (hx : DatIn w x d) (t0 : hOK h = false) :
    Calls Try.prog 11 #[v, x, .int .i64 c] w (HcRes w (noHt, noDt, 0, 1)) := by
  have HH := Lib.hid hv
  obtain ⟨A1, k1, A2, k2, A3, k3, A4, k4, rfl⟩ := hostIn_form hv
  obtain ⟨B1, j1, B2, j2, B3, j3, rfl, _⟩ := datIn_form hx
  clear hv hx
  go_enter Try.func11, Try.ntmps11
  go_wp2_with fail
  refine (iHOK_any _ h _ (hostIn_below HH.out (below_alloc (below_alloc (below_alloc (below_alloc (Below.refl _ _) _) _) _) _))).mono ?_
  rintro e w1 ⟨rfl, hb⟩
  have B1 : Below w.heap.size w w1 := below_step (below_alloc (below_alloc (below_alloc (below_alloc (Below.refl _ _) _) _) _) _) hb
  have T1 := whole_b hb (whole_alloc (whole_third w _ _ _ _) _)
  have U1 := whole_b hb (whole_fourth w _ _ _ _ _)
  have z1 := whole_lt T1
  have z2 := whole_lt U1
  clear hb
  rw [t0]
  obtain ⟨r0, r1, r2, r3, r4⟩ := five_cells T1
  obtain ⟨s0, s1, s2, s3, s4, s5⟩ := six_cells U1
  have fr := whole_free T1
  have fs := whole_free U1
  go_wp2
  refine bodyPost_ret (v := .tuple #[.agg #[.slice none 0 0, .slice none 0 0, .slice none 0 0, .int .i64 0, .slice none 0 0], .agg #[.slice none 0 0, .slice none 0 0, .slice none 0 0, .int .i64 0, .int .i64 0, .string ⟨#[]⟩], .int .i64 0, .int .i64 1]) (by simp [results, Try.results11, go_sem, *]) rfl ?_
  refine hcres_none ?_
  repeat (first | with_reducible exact B1 | with_reducible refine below_put ?_ (by omega) _)

/-- The further cases. -/
def furtherCases : Unit := ()

set_option maxRecDepth 100000 in
set_option maxHeartbeats 1000000 in
theorem iHostCall_badData (v x : Value) (h : Ht) (d : Dt) (c : Int) (w : World) (hv : HostIn w v h) (hx : DatIn w x d) (t0 : hOK h = true) (t1 : dOK d = false) :
    Calls Try.prog 11 #[v, x, .int .i64 c] w (HcRes w (noHt, noDt, 0, 1)) := by
  have HH := Lib.hid hv
  have HX := Lib.hid hx
  obtain ⟨A1, k1, A2, k2, A3, k3, A4, k4, rfl⟩ := hostIn_form hv
  obtain ⟨B1, j1, B2, j2, B3, j3, rfl, _⟩ := datIn_form hx
  clear hv hx
  go_enter Try.func11, Try.ntmps11
  go_wp2_with fail
  refine (iHOK_any _ h _ (hostIn_below HH.out (below_alloc (below_alloc (below_alloc (below_alloc (Below.refl _ _) _) _) _) _))).mono ?_
  rintro e w1 ⟨rfl, hb⟩
  have B1 : Below w.heap.size w w1 := below_step (below_alloc (below_alloc (below_alloc (below_alloc (Below.refl _ _) _) _) _) _) hb
  have V1 := whole_b hb (whole_alloc (whole_alloc (whole_second w _ _ _) _) _)
  have T1 := whole_b hb (whole_alloc (whole_third w _ _ _ _) _)
  have U1 := whole_b hb (whole_fourth w _ _ _ _ _)
  have z0 := whole_lt V1
  clear hb
  rw [t0]
  obtain ⟨v0, v1, v2, v3, v4, v5⟩ := six_cells V1
  go_wp2_with fail
  refine (dataOK_any _ d _ (datIn_below HX.out B1)).mono ?_
  rintro e w2 ⟨rfl, hb⟩
  have B2 : Below w.heap.size w w2 := below_step B1 hb
  have T2 := whole_b hb T1
  have U2 := whole_b hb U1
  have z1 := whole_lt T2
  have z2 := whole_lt U2
  clear hb v0 v1 v2 v3 v4 v5 V1 T1 U1
  rw [t1]
  obtain ⟨r0, r1, r2, r3, r4⟩ := five_cells T2
  obtain ⟨s0, s1, s2, s3, s4, s5⟩ := six_cells U2
  have fr := whole_free T2
  have fs := whole_free U2
  go_wp2
  refine bodyPost_ret (v := .tuple #[.agg #[.slice none 0 0, .slice none 0 0, .slice none 0 0, .int .i64 0, .slice none 0 0], .agg #[.slice none 0 0, .slice none 0 0, .slice none 0 0, .int .i64 0, .int .i64 0, .string ⟨#[]⟩], .int .i64 0, .int .i64 1]) (by simp [results, Try.results11, go_sem, *]) rfl ?_
  refine hcres_none ?_
  repeat (first | with_reducible exact B2 | with_reducible refine below_put ?_ (by omega) _)

set_option maxRecDepth 100000 in
set_option maxHeartbeats 1000000 in
theorem iHostCall_badCap (v x : Value) (h : Ht) (d : Dt) (c : Int) (w : World) (hv : HostIn w v h) (hx : DatIn w x d) (t0 : hOK h = true) (t1 : dOK d = true) (t2 : inB c 0 3 = false) :
    Calls Try.prog 11 #[v, x, .int .i64 c] w (HcRes w (noHt, noDt, 0, 9)) := by
  have HH := Lib.hid hv
  have HX := Lib.hid hx
  obtain ⟨A1, k1, A2, k2, A3, k3, A4, k4, rfl⟩ := hostIn_form hv
  obtain ⟨B1, j1, B2, j2, B3, j3, rfl, _⟩ := datIn_form hx
  clear hv hx
  go_enter Try.func11, Try.ntmps11
  go_wp2_with fail
  refine (iHOK_any _ h _ (hostIn_below HH.out (below_alloc (below_alloc (below_alloc (below_alloc (Below.refl _ _) _) _) _) _))).mono ?_
  rintro e w1 ⟨rfl, hb⟩
  have B1 : Below w.heap.size w w1 := below_step (below_alloc (below_alloc (below_alloc (below_alloc (Below.refl _ _) _) _) _) _) hb
  have V1 := whole_b hb (whole_alloc (whole_alloc (whole_second w _ _ _) _) _)
  have T1 := whole_b hb (whole_alloc (whole_third w _ _ _ _) _)
  have U1 := whole_b hb (whole_fourth w _ _ _ _ _)
  have z0 := whole_lt V1
  clear hb
  rw [t0]
  obtain ⟨v0, v1, v2, v3, v4, v5⟩ := six_cells V1
  go_wp2_with fail
  refine (dataOK_any _ d _ (datIn_below HX.out B1)).mono ?_
  rintro e w2 ⟨rfl, hb⟩
  have B2 : Below w.heap.size w w2 := below_step B1 hb
  have T2 := whole_b hb T1
  have U2 := whole_b hb U1
  have z1 := whole_lt T2
  have z2 := whole_lt U2
  clear hb v0 v1 v2 v3 v4 v5 V1 T1 U1
  rw [t1]
  obtain ⟨r0, r1, r2, r3, r4⟩ := five_cells T2
  obtain ⟨s0, s1, s2, s3, s4, s5⟩ := six_cells U2
  have fr := whole_free T2
  have fs := whole_free U2
  go_wp2_with (go_at_call 51; refine (isCap_any _ _).mono ?_; rintro e w' ⟨rfl, rfl⟩)
  refine bodyPost_ret (v := .tuple #[.agg #[.slice none 0 0, .slice none 0 0, .slice none 0 0, .int .i64 0, .slice none 0 0], .agg #[.slice none 0 0, .slice none 0 0, .slice none 0 0, .int .i64 0, .int .i64 0, .string ⟨#[]⟩], .int .i64 0, .int .i64 9]) (by simp [results, Try.results11, go_sem, *]) rfl ?_
  refine hcres_none ?_
  repeat (first | with_reducible exact B2 | with_reducible refine below_put ?_ (by omega) _)

end Go.Proofs.Ytjlfbmplmddceaa

namespace Go.Proofs.Ytjlfbmplmddceaa
open Go.RowKit
set_option linter.unusedVariables false
set_option linter.unusedSimpArgs false

theorem hDo_small {h : Ht} (q : HtFine h) (c : Nat) (a b : Int) : SmallH (hDo h c a b).1 := by
  obtain ⟨q1, q2, q3, q4, _⟩ := q
  unfold hDo
  repeat' split
  all_goals (unfold SmallH; simp; omega)

theorem dPut_small {d : Dt} (q : DtFine d) (k : Nat) (L : List Int) (hL : L.length ≤ 1) : SmallD (dPut d k L).1 := by
  obtain ⟨q1, q2, q3, _, _, _, _, _, _, q4⟩ := q
  unfold dPut
  split
  · unfold SmallD; simp; omega
  · unfold SmallD; simp; omega

theorem hCall_small {h : Ht} {d : Dt} (q : HtFine h) (p : DtFine d) (c : Nat) : SmallH (hCall h d c).1 ∧ SmallD (hCall h d c).2.1 := by
  have s1 := fineH_small q
  have s2 := fine_small p
  unfold hCall
  by_cases h1 : h.g.getD c false = false
  · rw [if_pos h1]; exact ⟨s1, s2⟩
  rw [if_neg h1]
  by_cases h2 : h.d.length = 40
  · rw [if_pos h2]; exact ⟨s1, s2⟩
  rw [if_neg h2]
  by_cases h3 : d.s.length < capTakes c
  · rw [if_pos h3]; exact ⟨s1, s2⟩
  rw [if_neg h3]
  by_cases h4 : c = 3 ∧ d.s.length = 32
  · rw [if_pos h4]; exact ⟨s1, s2⟩
  rw [if_neg h4]
  by_cases h5 : (hDo h c (tp d 1) (tp d 0)).2.2 ≠ 0
  · rw [if_pos h5]; exact ⟨s1, s2⟩
  rw [if_neg h5]
  by_cases h6 : c = 1
  · rw [if_pos h6]; exact ⟨hDo_small q _ _ _, dPut_small p _ _ (by simp)⟩
  rw [if_neg h6]; exact ⟨hDo_small q _ _ _, dPut_small p _ _ (by simp)⟩

set_option maxRecDepth 100000 in
set_option maxHeartbeats 1000000 in
theorem sHostCall_badHost (v x : Value) (h : Ht) (d : Dt) (c : Int) (w : World) (hv : HostIn w v h) (hx : DatC w x d) (t0 : hOK h = false) :
    Calls Try.prog 8 #[v, x, .int .i64 c] w (HcRes w (noHt, noDt, 0, 1)) := by
  have HH := Lib.hid hv
  obtain ⟨A1, k1, A2, k2, A3, k3, A4, k4, rfl⟩ := hostIn_form hv
  obtain ⟨B1, j1, B2, j2, B3, j3, rfl, _⟩ := datIn_form hx.1
  clear hv hx
  go_enter Try.func8, Try.ntmps8
  go_wp2_with fail
  refine (sHOK_any _ h _ (hostIn_below HH.out (below_alloc (below_alloc (below_alloc (below_alloc (Below.refl _ _) _) _) _) _))).mono ?_
  rintro e w1 ⟨rfl, hb⟩
  have B1 : Below w.heap.size w w1 := below_step (below_alloc (below_alloc (below_alloc (below_alloc (Below.refl _ _) _) _) _) _) hb
  have T1 := whole_b hb (whole_alloc (whole_third w _ _ _ _) _)
  have U1 := whole_b hb (whole_fourth w _ _ _ _ _)
  have z1 := whole_lt T1
  have z2 := whole_lt U1
  clear hb
  rw [t0]
  obtain ⟨r0, r1, r2, r3, r4⟩ := five_cells T1
  obtain ⟨s0, s1, s2, s3, s4, s5⟩ := six_cells U1
  have fr := whole_free T1
  have fs := whole_free U1
  go_wp2
  refine bodyPost_ret (v := .tuple #[.agg #[.slice none 0 0, .slice none 0 0, .slice none 0 0, .int .i64 0, .slice none 0 0], .agg #[.slice none 0 0, .slice none 0 0, .slice none 0 0, .int .i64 0, .int .i64 0, .string ⟨#[]⟩], .int .i64 0, .int .i64 1]) (by simp [results, Try.results8, go_sem, *]) rfl ?_
  refine hcres_none ?_
  repeat (first | with_reducible exact B1 | with_reducible refine below_put ?_ (by omega) _)

set_option maxRecDepth 100000 in
set_option maxHeartbeats 1000000 in
theorem sHostCall_badData (v x : Value) (h : Ht) (d : Dt) (c : Int) (w : World) (hv : HostIn w v h) (hx : DatC w x d) (t0 : hOK h = true) (t1 : dOK d = false) :
    Calls Try.prog 8 #[v, x, .int .i64 c] w (HcRes w (noHt, noDt, 0, 1)) := by
  have HH := Lib.hid hv
  have HC := Lib.hid hx
  have HX := Lib.hid hx.1
  obtain ⟨A1, k1, A2, k2, A3, k3, A4, k4, rfl⟩ := hostIn_form hv
  obtain ⟨B1, j1, B2, j2, B3, j3, rfl, _⟩ := datIn_form hx.1
  clear hv hx
  go_enter Try.func8, Try.ntmps8
  go_wp2_with fail
  refine (sHOK_any _ h _ (hostIn_below HH.out (below_alloc (below_alloc (below_alloc (below_alloc (Below.refl _ _) _) _) _) _))).mono ?_
  rintro e w1 ⟨rfl, hb⟩
  have B1 : Below w.heap.size w w1 := below_step (below_alloc (below_alloc (below_alloc (below_alloc (Below.refl _ _) _) _) _) _) hb
  have V1 := whole_b hb (whole_alloc (whole_alloc (whole_second w _ _ _) _) _)
  have T1 := whole_b hb (whole_alloc (whole_third w _ _ _ _) _)
  have U1 := whole_b hb (whole_fourth w _ _ _ _ _)
  have z0 := whole_lt V1
  clear hb
  rw [t0]
  obtain ⟨v0, v1, v2, v3, v4, v5⟩ := six_cells V1
  go_wp2_with fail
  refine (sOK_any _ d _ (datIn_below HX.out B1)).mono ?_
  rintro e w2 ⟨rfl, hb⟩
  have B2 : Below w.heap.size w w2 := below_step B1 hb
  have T2 := whole_b hb T1
  have U2 := whole_b hb U1
  have z1 := whole_lt T2
  have z2 := whole_lt U2
  clear hb v0 v1 v2 v3 v4 v5 V1 T1 U1
  rw [t1]
  obtain ⟨r0, r1, r2, r3, r4⟩ := five_cells T2
  obtain ⟨s0, s1, s2, s3, s4, s5⟩ := six_cells U2
  have fr := whole_free T2
  have fs := whole_free U2
  go_wp2
  refine bodyPost_ret (v := .tuple #[.agg #[.slice none 0 0, .slice none 0 0, .slice none 0 0, .int .i64 0, .slice none 0 0], .agg #[.slice none 0 0, .slice none 0 0, .slice none 0 0, .int .i64 0, .int .i64 0, .string ⟨#[]⟩], .int .i64 0, .int .i64 1]) (by simp [results, Try.results8, go_sem, *]) rfl ?_
  refine hcres_none ?_
  repeat (first | with_reducible exact B2 | with_reducible refine below_put ?_ (by omega) _)

set_option maxRecDepth 100000 in
set_option maxHeartbeats 1000000 in
theorem sHostCall_badCap (v x : Value) (h : Ht) (d : Dt) (c : Int) (w : World) (hv : HostIn w v h) (hx : DatC w x d) (t0 : hOK h = true) (t1 : dOK d = true) (t2 : inB c 0 3 = false) :
    Calls Try.prog 8 #[v, x, .int .i64 c] w (HcRes w (noHt, noDt, 0, 9)) := by
  have HH := Lib.hid hv
  have HC := Lib.hid hx
  have HX := Lib.hid hx.1
  obtain ⟨A1, k1, A2, k2, A3, k3, A4, k4, rfl⟩ := hostIn_form hv
  obtain ⟨B1, j1, B2, j2, B3, j3, rfl, _⟩ := datIn_form hx.1
  clear hv hx
  go_enter Try.func8, Try.ntmps8
  go_wp2_with fail
  refine (sHOK_any _ h _ (hostIn_below HH.out (below_alloc (below_alloc (below_alloc (below_alloc (Below.refl _ _) _) _) _) _))).mono ?_
  rintro e w1 ⟨rfl, hb⟩
  have B1 : Below w.heap.size w w1 := below_step (below_alloc (below_alloc (below_alloc (below_alloc (Below.refl _ _) _) _) _) _) hb
  have V1 := whole_b hb (whole_alloc (whole_alloc (whole_second w _ _ _) _) _)
  have T1 := whole_b hb (whole_alloc (whole_third w _ _ _ _) _)
  have U1 := whole_b hb (whole_fourth w _ _ _ _ _)
  have z0 := whole_lt V1
  clear hb
  rw [t0]
  obtain ⟨v0, v1, v2, v3, v4, v5⟩ := six_cells V1
  go_wp2_with fail
  refine (sOK_any _ d _ (datIn_below HX.out B1)).mono ?_
  rintro e w2 ⟨rfl, hb⟩
  have B2 : Below w.heap.size w w2 := below_step B1 hb
  have T2 := whole_b hb T1
  have U2 := whole_b hb U1
  have z1 := whole_lt T2
  have z2 := whole_lt U2
  clear hb v0 v1 v2 v3 v4 v5 V1 T1 U1
  rw [t1]
  obtain ⟨r0, r1, r2, r3, r4⟩ := five_cells T2
  obtain ⟨s0, s1, s2, s3, s4, s5⟩ := six_cells U2
  have fr := whole_free T2
  have fs := whole_free U2
  go_wp2_with (go_at_call 42; refine (sIn_any _ _ _ _).mono ?_; rintro e w' ⟨rfl, rfl⟩)
  refine bodyPost_ret (v := .tuple #[.agg #[.slice none 0 0, .slice none 0 0, .slice none 0 0, .int .i64 0, .slice none 0 0], .agg #[.slice none 0 0, .slice none 0 0, .slice none 0 0, .int .i64 0, .int .i64 0, .string ⟨#[]⟩], .int .i64 0, .int .i64 9]) (by simp [results, Try.results8, go_sem, *]) rfl ?_
  refine hcres_none ?_
  repeat (first | with_reducible exact B2 | with_reducible refine below_put ?_ (by omega) _)

theorem cells_elevenS {W : World} {g k : Nat} {T U : TypeId} {a0 a1 a2 a3 a4 b0 b1 b2 b3 b4 b5 : Value} (h : Whole W g T #[a0, a1, a2, a3, a4]) (q : Whole W k U #[b0, b1, b2, b3, b4, b5]) :
    (W.cell? ⟨g, 0, none⟩ = some a0 ∧ W.cell? ⟨g, 1, none⟩ = some a1 ∧ W.cell? ⟨g, 2, none⟩ = some a2 ∧ W.cell? ⟨g, 3, none⟩ = some a3 ∧ W.cell? ⟨g, 4, none⟩ = some a4) ∧ (W.cell? ⟨k, 0, none⟩ = some b0 ∧ W.cell? ⟨k, 1, none⟩ = some b1 ∧ W.cell? ⟨k, 2, none⟩ = some b2 ∧ W.cell? ⟨k, 3, none⟩ = some b3 ∧ W.cell? ⟨k, 4, none⟩ = some b4 ∧ W.cell? ⟨k, 5, none⟩ = some b5) :=
  ⟨⟨whole_cell h 0, whole_cell h 1, whole_cell h 2, whole_cell h 3, whole_cell h 4⟩, ⟨whole_cell q 0, whole_cell q 1, whole_cell q 2, whole_cell q 3, whole_cell q 4, whole_cell q 5⟩⟩

theorem hcres_put {w W6 Wf : World} {m T U n5 : Nat} {u y : Value} {r : Ht × Dt × Int} (h5 : HostT W6 w.heap.size u r.1) (k5 : ∀ k, Mine u k → k < n5) (l5 : ∀ k, Mine u k → m ≤ k) (h6 : DatOf W6 w.heap.size W6.heap.size y r.2.1) (k6 : ∀ k, Mine y k → n5 ≤ k) (hT : T < m) (hU : U < m) (hm : m ≤ n5) (wT : w.heap.size ≤ T) (wU : w.heap.size ≤ U) (hb : Below w.heap.size w W6)
    (ho : Only (fun k => k = T ∨ k = U) W6 Wf) : HcRes w (r.1, r.2.1, r.2.2, 0) (.returned (.tuple #[u, y, .int .i64 r.2.2, .int .i64 0])) Wf := by
  refine ⟨_, _, rfl, hostT_only h5 ho (fun k hk q => ?_), datOf_top (datOf_only h6 ho (fun k hk q => ?_)) ho.size, fun k hk hq => ?_, ?_⟩
  · have := l5 k hk; rcases q with rfl | rfl <;> omega
  · have := k6 k hk; rcases q with rfl | rfl <;> omega
  · have := k5 k hk; have := k6 k hq; omega
  · refine hb.trans (only_below ho hb.size (fun k q => ?_))
    rcases q with rfl | rfl <;> omega

theorem whole_only {S : Nat → Prop} {w w' : World} {g : Nat} {t : TypeId} {cs : Array Value} (h : Whole w g t cs) (hb : Only S w w') (hs : ¬ S g) : Whole w' g t cs := whole_keep h (hb.block g (whole_lt h) hs)

set_option maxRecDepth 100000 in
set_option maxHeartbeats 4000000 in
theorem sHostCall_good (v x : Value) (h : Ht) (d : Dt) (c : Nat) (w : World) (hv : HostIn w v h) (hx : DatC w x d) (t0 : hOK h = true) (t1 : dOK d = true) (t2 : inB (c : Int) 0 3 = true) :
    Calls Try.prog 8 #[v, x, .int .i64 (c : Int)] w (HcRes w ((hCall h d c).1, (hCall h d c).2.1, (hCall h d c).2.2, 0)) := by
  have HF := Lib.hid (hOK_fine t0)
  have DF := Lib.hid (dOK_fine t1)
  have hc4 : c < 4 := by unfold inB at t2; simp at t2; omega
  have HH := Lib.hid hv
  have HC := Lib.hid hx
  have HX := Lib.hid hx.1
  obtain ⟨A1, k1, A2, k2, A3, k3, A4, k4, rfl⟩ := hostIn_form hv
  obtain ⟨D1, j1, D2, j2, D3, j3, rfl, _⟩ := datIn_form hx.1
  clear hv hx
  go_enter Try.func8, Try.ntmps8
  go_wp2_with fail
  refine (sHOK_any _ h _ (hostIn_below HH.out (below_alloc (below_alloc (below_alloc (below_alloc (Below.refl _ _) _) _) _) _))).mono ?_
  rintro e w1 ⟨rfl, hb⟩
  have B1 : Below w.heap.size w w1 := below_step (below_alloc (below_alloc (below_alloc (below_alloc (Below.refl _ _) _) _) _) _) hb
  have Q1 := whole_b hb (whole_alloc (whole_alloc (whole_alloc (whole_new w _ _) _) _) _)
  have V1 := whole_b hb (whole_alloc (whole_alloc (whole_second w _ _ _) _) _)
  have T1 := whole_b hb (whole_alloc (whole_third w _ _ _ _) _)
  have U1 := whole_b hb (whole_fourth w _ _ _ _ _)
  have z0 := whole_lt V1
  clear hb
  rw [t0]
  obtain ⟨v0, v1, v2, v3, v4, v5⟩ := six_cells V1
  go_wp2_with fail
  refine (sOK_any _ d _ (datIn_below HX.out B1)).mono ?_
  rintro e w2 ⟨rfl, hb⟩
  have B2 : Below w.heap.size w w2 := below_step B1 hb
  have T2 := whole_b hb T1
  have U2 := whole_b hb U1
  have z1 := whole_lt T2
  have z2 := whole_lt U2
  have Q2 := whole_b hb Q1
  have V2 := whole_b hb V1
  clear hb v0 v1 v2 v3 v4 v5 V1 T1 U1 Q1
  rw [t1]
  obtain ⟨r0, r1, r2, r3, r4⟩ := five_cells T2
  obtain ⟨s0, s1, s2, s3, s4, s5⟩ := six_cells U2
  have fr := whole_free T2
  have fs := whole_free U2
  have PC := Lib.hid (sCall_any _ _ h d c w2 (hostIn_below HH.out B2) (datC_below HC.out B2) HF.out DF.out hc4)
  obtain ⟨sm1, sm2⟩ := hCall_small HF.out DF.out c
  have S1 := Lib.hid sm1
  have S2 := Lib.hid sm2
  obtain ⟨⟨g0, g1, g2, g3, g4⟩, ⟨p0, p1, p2, p3, p4, p5⟩⟩ := cells_elevenS Q2 V2
  have zq := whole_lt Q2
  have zv := whole_lt V2
  generalize hCall h d c = pp at *
  clear sm1 sm2 r0 r1 r2 r3 r4 s0 s1 s2 s3 s4 s5 fr fs
  go_wp2_with (go_at_call 42; refine (sIn_any _ _ _ _).mono ?_; rintro e w' ⟨rfl, rfl⟩; rw [t2])
  refine PC.out.mono ?_
  rintro e w3 ⟨u, y, rfl, hu, hy, hb⟩
  have HU := Lib.hid hu
  have HY := Lib.hid hy.1
  obtain ⟨X1, m1, X2, m2, X3, m3, X4, m4, rfl⟩ := hostIn_form hu
  obtain ⟨Y1, l1, Y2, l2, Y3, l3, rfl⟩ := datIn_form hy.1
  have B3 : Below w.heap.size w w3 := below_step B2 hb
  have T3 := whole_b hb T2
  have U3 := whole_b hb U2
  have B23 := hb.size
  have ZT := whole_lt T3
  have ZU := whole_lt U3
  clear hu hy hb g0 g1 g2 g3 g4 p0 p1 p2 p3 p4 p5 T2 U2 Q2 V2 zq zv
  have B4x : Below w.heap.size w ((w3.alloc (.cells #[.slice X1 pp.1.g.length m1, .slice X2 pp.1.s.length m2, .slice X3 pp.1.n.length m3, .int .i64 pp.1.c, .slice X4 pp.1.d.length m4] 33)).alloc (.cells #[.slice Y1 pp.2.1.s.length l1, .slice Y2 pp.2.1.b.length l2, .slice Y3 pp.2.1.c.length l3, .int .i64 pp.2.1.h, .int .i64 pp.2.1.n, .string pp.2.1.o] 34)) := below_alloc (below_alloc B3 _) _
  have KB := Lib.hid B4x
  have P4 := whole_alloc (whole_new w3 33 #[.slice X1 pp.1.g.length m1, .slice X2 pp.1.s.length m2, .slice X3 pp.1.n.length m3, .int .i64 pp.1.c, .slice X4 pp.1.d.length m4]) (.cells #[.slice Y1 pp.2.1.s.length l1, .slice Y2 pp.2.1.b.length l2, .slice Y3 pp.2.1.c.length l3, .int .i64 pp.2.1.h, .int .i64 pp.2.1.n, .string pp.2.1.o] 34)
  have R4 : Whole ((w3.alloc (.cells #[.slice X1 pp.1.g.length m1, .slice X2 pp.1.s.length m2, .slice X3 pp.1.n.length m3, .int .i64 pp.1.c, .slice X4 pp.1.d.length m4] 33)).alloc (.cells #[.slice Y1 pp.2.1.s.length l1, .slice Y2 pp.2.1.b.length l2, .slice Y3 pp.2.1.c.length l3, .int .i64 pp.2.1.h, .int .i64 pp.2.1.n, .string pp.2.1.o] 34)) (w3.heap.size + 1) 34 #[.slice Y1 pp.2.1.s.length l1, .slice Y2 pp.2.1.b.length l2, .slice Y3 pp.2.1.c.length l3, .int .i64 pp.2.1.h, .int .i64 pp.2.1.n, .string pp.2.1.o] := whole_second w3 _ _ _
  have T4 := whole_alloc (whole_alloc T3 (.cells #[.slice X1 pp.1.g.length m1, .slice X2 pp.1.s.length m2, .slice X3 pp.1.n.length m3, .int .i64 pp.1.c, .slice X4 pp.1.d.length m4] 33)) (.cells #[.slice Y1 pp.2.1.s.length l1, .slice Y2 pp.2.1.b.length l2, .slice Y3 pp.2.1.c.length l3, .int .i64 pp.2.1.h, .int .i64 pp.2.1.n, .string pp.2.1.o] 34)
  have U4 := whole_alloc (whole_alloc U3 (.cells #[.slice X1 pp.1.g.length m1, .slice X2 pp.1.s.length m2, .slice X3 pp.1.n.length m3, .int .i64 pp.1.c, .slice X4 pp.1.d.length m4] 33)) (.cells #[.slice Y1 pp.2.1.s.length l1, .slice Y2 pp.2.1.b.length l2, .slice Y3 pp.2.1.c.length l3, .int .i64 pp.2.1.h, .int .i64 pp.2.1.n, .string pp.2.1.o] 34)
  have HU4 : HostIn ((w3.alloc (.cells #[.slice X1 pp.1.g.length m1, .slice X2 pp.1.s.length m2, .slice X3 pp.1.n.length m3, .int .i64 pp.1.c, .slice X4 pp.1.d.length m4] 33)).alloc (.cells #[.slice Y1 pp.2.1.s.length l1, .slice Y2 pp.2.1.b.length l2, .slice Y3 pp.2.1.c.length l3, .int .i64 pp.2.1.h, .int .i64 pp.2.1.n, .string pp.2.1.o] 34)) _ pp.1 := hostIn_below HU.out (below_alloc (below_alloc (Below.refl _ _) _) _)
  have HY4 : DatIn ((w3.alloc (.cells #[.slice X1 pp.1.g.length m1, .slice X2 pp.1.s.length m2, .slice X3 pp.1.n.length m3, .int .i64 pp.1.c, .slice X4 pp.1.d.length m4] 33)).alloc (.cells #[.slice Y1 pp.2.1.s.length l1, .slice Y2 pp.2.1.b.length l2, .slice Y3 pp.2.1.c.length l3, .int .i64 pp.2.1.h, .int .i64 pp.2.1.n, .string pp.2.1.o] 34)) _ pp.2.1 := datIn_below HY.out (below_alloc (below_alloc (Below.refl _ _) _) _)
  have JU := Lib.hid HU4
  have JY := Lib.hid HY4
  have zp := whole_lt P4
  clear T3 U3 HU4 HY4 B4x
  go_wp2
  have zs : w3.heap.size + 1 + 1 = ((w3.alloc (.cells #[.slice X1 pp.1.g.length m1, .slice X2 pp.1.s.length m2, .slice X3 pp.1.n.length m3, .int .i64 pp.1.c, .slice X4 pp.1.d.length m4] 33)).alloc (.cells #[.slice Y1 pp.2.1.s.length l1, .slice Y2 pp.2.1.b.length l2, .slice Y3 pp.2.1.c.length l3, .int .i64 pp.2.1.h, .int .i64 pp.2.1.n, .string pp.2.1.o] 34)).heap.size := by rw [size_two]
  generalize hW : World.alloc _ _ = W4 at *
  have ZS : w3.heap.size + 1 < W4.heap.size := by omega
  have ZB : w2.heap.size ≤ w3.heap.size := B23
  have zt := whole_lt T4
  have zu := whole_lt U4
  clear hW zs zp
  have HP := Lib.hid P4
  have HRR := Lib.hid R4
  have HT := Lib.hid T4
  have HUU := Lib.hid U4
  obtain ⟨⟨g0, g1, g2, g3, g4⟩, ⟨p0, p1, p2, p3, p4, p5⟩⟩ := cells_elevenS (whole_below P4 (Below.refl _ _).drew) (whole_below R4 (Below.refl _ _).drew)
  clear P4 R4 T4 U4 zt zu
  go_region_held3 (fun W => (W.cell? ⟨w3.heap.size, 0, none⟩ = some (.slice X1 pp.1.g.length m1) ∧ W.cell? ⟨w3.heap.size, 1, none⟩ = some (.slice X2 pp.1.s.length m2) ∧ W.cell? ⟨w3.heap.size, 2, none⟩ = some (.slice X3 pp.1.n.length m3) ∧ W.cell? ⟨w3.heap.size, 3, none⟩ = some (.int .i64 pp.1.c) ∧ W.cell? ⟨w3.heap.size, 4, none⟩ = some (.slice X4 pp.1.d.length m4)) ∧ (W.cell? ⟨w3.heap.size + 1, 0, none⟩ = some (.slice Y1 pp.2.1.s.length l1) ∧ W.cell? ⟨w3.heap.size + 1, 1, none⟩ = some (.slice Y2 pp.2.1.b.length l2) ∧ W.cell? ⟨w3.heap.size + 1, 2, none⟩ = some (.slice Y3 pp.2.1.c.length l3) ∧ W.cell? ⟨w3.heap.size + 1, 3, none⟩ = some (.int .i64 pp.2.1.h) ∧ W.cell? ⟨w3.heap.size + 1, 4, none⟩ = some (.int .i64 pp.2.1.n) ∧ W.cell? ⟨w3.heap.size + 1, 5, none⟩ = some (.string pp.2.1.o))) (first | with_reducible exact ⟨⟨b0, b1, b2, b3, b4⟩, ⟨d0, d1, d2, d3, d4, d5⟩⟩ | with_reducible exact ⟨⟨a0, a1, a2, a3, a4⟩, ⟨c0, c1, c2, c3, c4, c5⟩⟩ | with_reducible exact ⟨⟨g0, g1, g2, g3, g4⟩, ⟨p0, p1, p2, p3, p4, p5⟩⟩ | exact cells_elevenS (whole_only (S := fun k => k = w.heap.size + 1 + 1 ∨ k = w.heap.size + 1 + 1 + 1) HP6.out (by repeat (first | with_reducible exact only_refl _ _ | with_reducible refine only_set ?_ (.inl (by simp)) _ | with_reducible refine only_drew ?_)) (by omega)) (whole_only (S := fun k => k = w.heap.size + 1 + 1 ∨ k = w.heap.size + 1 + 1 + 1) HR6.out (by repeat (first | with_reducible exact only_refl _ _ | with_reducible refine only_set ?_ (.inl (by simp)) _ | with_reducible refine only_drew ?_)) (by omega)))
    (first
    | (go_at_call 44
       refine (sHOwn_any _ pp.1 _ (hostIn_below JU.out (Below.refl _ _).drew) S1.out).mono ?_
       rintro e w5 ⟨u5, rfl, ho5, hb5⟩
       have zb5 : W4.heap.size ≤ w5.heap.size := hb5.size
       have L5 := Lib.hid ((Below.refl W4.heap.size W4).drew.trans hb5)
       have HO5 := Lib.hid ho5
       obtain ⟨Z1, n1, Z2, n2, Z3, n3, Z4, n4, rfl⟩ := hostIn_form (hostOf_in ho5)
       have HP5 := Lib.hid (whole_below HP.out L5.out)
       have HR5 := Lib.hid (whole_below HRR.out L5.out)
       have HT5 := Lib.hid (whole_below HT.out L5.out)
       have HU5 := Lib.hid (whole_below HUU.out L5.out)
       obtain ⟨⟨a0, a1, a2, a3, a4⟩, ⟨c0, c1, c2, c3, c4, c5⟩⟩ := cells_elevenS HP5.out HR5.out
       have JY5 := Lib.hid (datIn_below JY.out L5.out)
       clear ho5 hb5)
    | (go_at_call 45
       refine (sOwn_any _ pp.2.1 _ JY5.out S2.out).mono ?_
       rintro e w6 ⟨u6, rfl, ho6, hb6⟩
       have zb6 : w5.heap.size ≤ w6.heap.size := hb6.size
       have L6 := Lib.hid hb6
       have HO6 := Lib.hid ho6
       obtain ⟨V1, q1, V2, q2, V3, q3, rfl⟩ := datIn_form (datOf_in ho6)
       have HP6 := Lib.hid (whole_below HP5.out hb6)
       have HR6 := Lib.hid (whole_below HR5.out hb6)
       have HT6 := Lib.hid (whole_below HT5.out hb6)
       have HU6 := Lib.hid (whole_below HU5.out hb6)
       obtain ⟨⟨b0, b1, b2, b3, b4⟩, ⟨d0, d1, d2, d3, d4, d5⟩⟩ := cells_elevenS HP6.out HR6.out
       obtain ⟨r0, r1, r2, r3, r4⟩ := five_cells HT6.out
       obtain ⟨s0, s1, s2, s3, s4, s5⟩ := six_cells HU6.out
       have fr := whole_free HT6.out
       have fs := whole_free HU6.out
       have zr := whole_lt HT6.out
       have zs := whole_lt HU6.out
       clear ho6 hb6))
  all_goals
    go_wp2
    refine bodyPost_ret (v := .tuple #[.agg #[.slice Z1 pp.1.g.length n1, .slice Z2 pp.1.s.length n2, .slice Z3 pp.1.n.length n3, .int .i64 pp.1.c, .slice Z4 pp.1.d.length n4], .agg #[.slice V1 pp.2.1.s.length q1, .slice V2 pp.2.1.b.length q2, .slice V3 pp.2.1.c.length q3, .int .i64 pp.2.1.h, .int .i64 pp.2.1.n, .string pp.2.1.o], .int .i64 pp.2.2, .int .i64 0]) (by simp [results, Try.results8, go_sem, *]) rfl ?_
    have zw : w.heap.size ≤ W4.heap.size := by omega
    refine hcres_put (T := w.heap.size + 1 + 1) (U := w.heap.size + 1 + 1 + 1) (m := W4.heap.size) (n5 := w5.heap.size) (hostT_below (hostT_base (hostT_of HO5.out) zw) L6.out) (fun k hk => (hostOf_mine HO5.out hk).2) (fun k hk => (hostOf_mine HO5.out hk).1) (datOf_base HO6.out (Nat.le_trans zw zb5)) (fun k hk => (datOf_mine HO6.out hk).1) (by omega) (by omega) (by omega) (by omega) (by omega) (below_step KB.out (L5.out.trans (L6.out.mono zb5))) ?_
    repeat (first | with_reducible exact only_refl _ _ | with_reducible refine only_set ?_ (.inl (by simp)) _ | with_reducible refine only_drew ?_)

end Go.Proofs.Ytjlfbmplmddceaa

namespace Go.Proofs.Ytjlfbmplmddceaa
open Go.RowKit
set_option linter.unusedVariables false
set_option linter.unusedSimpArgs false

/-- The two copies in boxes of their own. -/
def HcCut (w2 : World) (h : Ht) (d : Dt) (s10 s11 : Value) (wx : World) : Prop :=
  ∃ G E vh vd, s10 = .pointer (some ⟨G, 0, none⟩) ∧ s11 = .pointer (some ⟨E, 0, none⟩) ∧ Pair wx w2.heap.size G E vh vd h d ∧ (∀ x y z q, vh = .agg #[x, y, z, .int .i64 h.c, q] → Row wx w2.heap.size z h.n) ∧ Below w2.heap.size w2 wx

theorem own_type {w : World} {base : Nat} {t u : TypeId} {n k g : Nat} {v : Value} {cs : List Value} {ds : Array Value} (h : w.ownsRow base t k v n cs) (hw : w.heap[g]? = some (.cells ds u (0, 0))) (ht : t ≠ u) : v.ownBlock ≠ some g := by
  rcases h.2 with ⟨rfl, _⟩ | ⟨g', cap, cur, rfl, _, hh, _⟩
  · simp [Value.ownBlock]
  · intro he
    have e : g' = g := by simpa [Value.ownBlock] using he
    subst e
    rw [hh] at hw
    injection hw with hw
    injection hw with _ hq
    exact ht hq

theorem host_off {w : World} {lo hi g : Nat} {v : Value} {h : Ht} {u : TypeId} {ds : Array Value} (H : HostOf w lo hi v h) (hw : Whole w g u ds) (h1 : (3 : TypeId) ≠ u) (h2 : (4 : TypeId) ≠ u) (h3 : (48 : TypeId) ≠ u) : ∀ k, Mine v k → k ≠ g := by
  rintro k hk rfl
  obtain ⟨x, y, z, q, rfl, r1, r2, r3, r4, _⟩ := H
  obtain ⟨a, ha, e⟩ := mine_agg.1 hk
  simp only [List.mem_cons, List.not_mem_nil, or_false] at ha
  rcases ha with rfl | rfl | rfl | rfl | rfl
  · exact own_type r1 hw h2 e
  · exact own_type r2 hw h1 e
  · exact own_type r3 hw h1 e
  · simp [Value.ownBlock] at e
  · exact own_type r4 hw h3 e

theorem data_off {w : World} {lo hi g : Nat} {v : Value} {d : Dt} {u : TypeId} {ds : Array Value} (H : DatOf w lo hi v d) (hw : Whole w g u ds) (h1 : (3 : TypeId) ≠ u) : ∀ k, Mine v k → k ≠ g := by
  rintro k hk rfl
  obtain ⟨x, y, z, rfl, r1, r2, r3, _⟩ := H
  obtain ⟨a, ha, e⟩ := mine_agg.1 hk
  simp only [List.mem_cons, List.not_mem_nil, or_false] at ha
  rcases ha with rfl | rfl | rfl | rfl | rfl | rfl
  · exact own_type r1 hw h1 e
  · exact own_type r2 hw h1 e
  · exact own_type r3 hw h1 e
  · simp [Value.ownBlock] at e
  · simp [Value.ownBlock] at e
  · simp [Value.ownBlock] at e

/-- A block of another type than the rows'. -/
def Other (w : World) (k : Nat) : Prop := ∃ T cs, Whole w k T cs ∧ (3 : TypeId) ≠ T ∧ (4 : TypeId) ≠ T ∧ (48 : TypeId) ≠ T

theorem oth_host {w : World} {k : Nat} {cs : Array Value} (h : Whole w k 33 cs) : Other w k := ⟨_, _, h, by decide, by decide, by decide⟩

theorem oth_data {w : World} {k : Nat} {cs : Array Value} (h : Whole w k 34 cs) : Other w k := ⟨_, _, h, by decide, by decide, by decide⟩

theorem whole5 {W : World} {G : Nat} {a0 a1 a2 a3 a4 : Value} (h : Whole W G 33 #[.slice none 0 0, .slice none 0 0, .slice none 0 0, .int .i64 0, .slice none 0 0]) : Whole (((((W.setCell ⟨G, 0, none⟩ a0).setCell ⟨G, 1, none⟩ a1).setCell ⟨G, 2, none⟩ a2).setCell ⟨G, 3, none⟩ a3).setCell ⟨G, 4, none⟩ a4) G 33 #[a0, a1, a2, a3, a4] :=
  whole_set (whole_set (whole_set (whole_set (whole_set h 0 a0) 1 a1) 2 a2) 3 a3) 4 a4

theorem skip5 {W : World} {G K : Nat} {T : TypeId} {cs : Array Value} {a0 a1 a2 a3 a4 : Value} (h : Whole W K T cs) (ne : K ≠ G) : Whole (((((W.setCell ⟨G, 0, none⟩ a0).setCell ⟨G, 1, none⟩ a1).setCell ⟨G, 2, none⟩ a2).setCell ⟨G, 3, none⟩ a3).setCell ⟨G, 4, none⟩ a4) K T cs :=
  whole_far (whole_far (whole_far (whole_far (whole_far h (p := ⟨G, 0, none⟩) ne a0) (p := ⟨G, 1, none⟩) ne a1) (p := ⟨G, 2, none⟩) ne a2) (p := ⟨G, 3, none⟩) ne a3) (p := ⟨G, 4, none⟩) ne a4

theorem only5 {S : Nat → Prop} {a W : World} {G : Nat} {a0 a1 a2 a3 a4 : Value} (h : Only S a W) (hg : S G ∨ a.heap.size ≤ G) : Only S a (((((W.setCell ⟨G, 0, none⟩ a0).setCell ⟨G, 1, none⟩ a1).setCell ⟨G, 2, none⟩ a2).setCell ⟨G, 3, none⟩ a3).setCell ⟨G, 4, none⟩ a4) :=
  only_set (only_set (only_set (only_set (only_set h hg a0) hg a1) hg a2) hg a3) hg a4

theorem bput5 {lo : Nat} {a W : World} {G : Nat} {a0 a1 a2 a3 a4 : Value} (h : Below lo a W) (hg : lo ≤ G) : Below lo a (((((W.setCell ⟨G, 0, none⟩ a0).setCell ⟨G, 1, none⟩ a1).setCell ⟨G, 2, none⟩ a2).setCell ⟨G, 3, none⟩ a3).setCell ⟨G, 4, none⟩ a4) :=
  below_put (below_put (below_put (below_put (below_put h hg a0) hg a1) hg a2) hg a3) hg a4

theorem whole6 {W : World} {G : Nat} {a0 a1 a2 a3 a4 a5 : Value} (h : Whole W G 34 #[.slice none 0 0, .slice none 0 0, .slice none 0 0, .int .i64 0, .int .i64 0, .string ⟨#[]⟩]) : Whole ((((((W.setCell ⟨G, 0, none⟩ a0).setCell ⟨G, 1, none⟩ a1).setCell ⟨G, 2, none⟩ a2).setCell ⟨G, 3, none⟩ a3).setCell ⟨G, 4, none⟩ a4).setCell ⟨G, 5, none⟩ a5) G 34 #[a0, a1, a2, a3, a4, a5] :=
  whole_set (whole_set (whole_set (whole_set (whole_set (whole_set h 0 a0) 1 a1) 2 a2) 3 a3) 4 a4) 5 a5

theorem skip6 {W : World} {G K : Nat} {T : TypeId} {cs : Array Value} {a0 a1 a2 a3 a4 a5 : Value} (h : Whole W K T cs) (ne : K ≠ G) : Whole ((((((W.setCell ⟨G, 0, none⟩ a0).setCell ⟨G, 1, none⟩ a1).setCell ⟨G, 2, none⟩ a2).setCell ⟨G, 3, none⟩ a3).setCell ⟨G, 4, none⟩ a4).setCell ⟨G, 5, none⟩ a5) K T cs :=
  whole_far (whole_far (whole_far (whole_far (whole_far (whole_far h (p := ⟨G, 0, none⟩) ne a0) (p := ⟨G, 1, none⟩) ne a1) (p := ⟨G, 2, none⟩) ne a2) (p := ⟨G, 3, none⟩) ne a3) (p := ⟨G, 4, none⟩) ne a4) (p := ⟨G, 5, none⟩) ne a5

theorem only6 {S : Nat → Prop} {a W : World} {G : Nat} {a0 a1 a2 a3 a4 a5 : Value} (h : Only S a W) (hg : S G ∨ a.heap.size ≤ G) : Only S a ((((((W.setCell ⟨G, 0, none⟩ a0).setCell ⟨G, 1, none⟩ a1).setCell ⟨G, 2, none⟩ a2).setCell ⟨G, 3, none⟩ a3).setCell ⟨G, 4, none⟩ a4).setCell ⟨G, 5, none⟩ a5) :=
  only_set (only_set (only_set (only_set (only_set (only_set h hg a0) hg a1) hg a2) hg a3) hg a4) hg a5

theorem bput6 {lo : Nat} {a W : World} {G : Nat} {a0 a1 a2 a3 a4 a5 : Value} (h : Below lo a W) (hg : lo ≤ G) : Below lo a ((((((W.setCell ⟨G, 0, none⟩ a0).setCell ⟨G, 1, none⟩ a1).setCell ⟨G, 2, none⟩ a2).setCell ⟨G, 3, none⟩ a3).setCell ⟨G, 4, none⟩ a4).setCell ⟨G, 5, none⟩ a5) :=
  below_put (below_put (below_put (below_put (below_put (below_put h hg a0) hg a1) hg a2) hg a3) hg a4) hg a5

theorem whole_newH {w : World} {g : Nat} {t : TypeId} {cs : Array Value} (hg : g = w.heap.size) : Whole (w.alloc (.cells cs t)) g t cs := by
  subst hg
  exact whole_new w t cs

theorem size5 {W : World} {G : Nat} {a0 a1 a2 a3 a4 : Value} : (((((W.setCell ⟨G, 0, none⟩ a0).setCell ⟨G, 1, none⟩ a1).setCell ⟨G, 2, none⟩ a2).setCell ⟨G, 3, none⟩ a3).setCell ⟨G, 4, none⟩ a4).heap.size = W.heap.size := by simp [World.setCell]

theorem size6 {W : World} {G : Nat} {a0 a1 a2 a3 a4 a5 : Value} : ((((((W.setCell ⟨G, 0, none⟩ a0).setCell ⟨G, 1, none⟩ a1).setCell ⟨G, 2, none⟩ a2).setCell ⟨G, 3, none⟩ a3).setCell ⟨G, 4, none⟩ a4).setCell ⟨G, 5, none⟩ a5).heap.size = W.heap.size := by simp [World.setCell]

theorem hc_leaf {w2 W4 W : World} {G E m : Nat} {h : Ht} {d : Dt} {a0 a1 a2 a4 b0 b1 b2 : Value} (hG : Whole W G 33 #[a0, a1, a2, .int .i64 h.c, a4]) (hE : Whole W E 34 #[b0, b1, b2, .int .i64 d.h, .int .i64 d.n, .string d.o])
    (h3' : HostOf W4 w2.heap.size m (.agg #[a0, a1, a2, .int .i64 h.c, a4]) h) (h4' : DatOf W4 m W4.heap.size (.agg #[b0, b1, b2, .int .i64 d.h, .int .i64 d.n, .string d.o]) d) (ON : Only (Other W4) W4 W) (hm : w2.heap.size ≤ m) (lG : w2.heap.size ≤ G) (lE : w2.heap.size ≤ E) (hB : Below w2.heap.size w2 W) :
    HcCut w2 h d (.pointer (some ⟨G, 0, none⟩)) (.pointer (some ⟨E, 0, none⟩)) W := by
  have h3 := hostOf_only h3' ON (fun g hg q => by obtain ⟨T, cs, hw, q1, q2, q3⟩ := q; exact host_off h3' hw q1 q2 q3 g hg rfl)
  have h4 := datOf_only h4' ON (fun g hg q => by obtain ⟨T, cs, hw, q1, q2, q3⟩ := q; exact data_off h4' hw q1 g hg rfl)
  have ne : G ≠ E := by
    rintro rfl
    have h1 := hG
    have h2 := hE
    unfold Whole at h1 h2
    rw [h1] at h2
    injection h2 with h2
    injection h2 with _ hq
    exact absurd hq (by decide)
  have oG := host_off h3 hG (by decide) (by decide) (by decide)
  have oE := host_off h3 hE (by decide) (by decide) (by decide)
  have pG := data_off h4 hG (by decide)
  have pE := data_off h4 hE (by decide)
  refine ⟨G, E, _, _, rfl, rfl, ⟨⟨⟨_, _, _, _, rfl, hG⟩, hostT_of h3, oG⟩, ⟨_, _, _, rfl, hE⟩, datOf_top (datOf_base h4 hm) ON.size, ?_, pE, lG, lE⟩, ?_, hB⟩
  · rintro k (rfl | hk) hq
    · rcases hq with q | q
      · exact ne q
      · exact pG _ q rfl
    · rcases hq with rfl | q
      · exact oE _ hk rfl
      · have := (hostOf_mine h3 hk).2
        have := (datOf_mine h4 q).1
        omega
  · intro x y z q e
    obtain ⟨x', y', z', q', e', _, _, hz, _⟩ := h3
    rw [e] at e'
    simp only [Value.agg.injEq, Array.mk.injEq, List.cons.injEq, and_true, true_and] at e'
    obtain ⟨_, _, rfl, _⟩ := e'
    exact hz

theorem hcres_put2 {w W6 Wf : World} {T U lo : Nat} {u y : Value} {r : Ht × Dt × Int} (h5 : HostT W6 lo u r.1) (h6 : DatOf W6 lo W6.heap.size y r.2.1) (hd : ∀ k, Mine u k → ¬ Mine y k) (hT : T < lo) (hU : U < lo) (hl : w.heap.size ≤ lo) (wT : w.heap.size ≤ T) (wU : w.heap.size ≤ U) (hb : Below w.heap.size w W6)
    (ho : Only (fun k => k = T ∨ k = U) W6 Wf) : HcRes w (r.1, r.2.1, r.2.2, 0) (.returned (.tuple #[u, y, .int .i64 r.2.2, .int .i64 0])) Wf := by
  refine ⟨_, _, rfl, hostT_base (hostT_only h5 ho (fun k hk q => ?_)) hl, datOf_top (datOf_base (datOf_only h6 ho (fun k hk q => ?_)) hl) ho.size, hd, ?_⟩
  · have := (hostT_mine h5 hk).1; rcases q with rfl | rfl <;> omega
  · have := (datOf_mine h6 hk).1; rcases q with rfl | rfl <;> omega
  · refine hb.trans (only_below ho hb.size (fun k q => ?_))
    rcases q with rfl | rfl <;> omega

set_option maxRecDepth 100000 in
set_option maxHeartbeats 16000000 in
theorem iHostCall_good (v x : Value) (h : Ht) (d : Dt) (c : Nat) (w : World) (hv : HostIn w v h) (hx : DatIn w x d) (t0 : hOK h = true) (t1 : dOK d = true) (t2 : inB (c : Int) 0 3 = true) :
    Calls Try.prog 11 #[v, x, .int .i64 (c : Int)] w (HcRes w ((hCall h d c).1, (hCall h d c).2.1, (hCall h d c).2.2, 0)) := by
  have SH := Lib.hid (fineH_small (hOK_fine t0))
  have SD := Lib.hid (fine_small (dOK_fine t1))
  have HF := Lib.hid (hOK_fine t0)
  have DF := Lib.hid (dOK_fine t1)
  have hc4 : c < 4 := by unfold inB at t2; simp at t2; omega
  have HH := Lib.hid hv
  have HX := Lib.hid hx
  obtain ⟨A1, k1, A2, k2, A3, k3, A4, k4, rfl⟩ := hostIn_form hv
  obtain ⟨D1, j1, D2, j2, D3, j3, rfl, _⟩ := datIn_form hx
  clear hv hx
  go_enter Try.func11, Try.ntmps11
  go_wp2_with fail
  refine (iHOK_any _ h _ (hostIn_below HH.out (below_alloc (below_alloc (below_alloc (below_alloc (Below.refl _ _) _) _) _) _))).mono ?_
  rintro e w1 ⟨rfl, hb⟩
  have B1 : Below w.heap.size w w1 := below_step (below_alloc (below_alloc (below_alloc (below_alloc (Below.refl _ _) _) _) _) _) hb
  have Q1 := whole_b hb (whole_alloc (whole_alloc (whole_alloc (whole_new w _ _) _) _) _)
  have V1 := whole_b hb (whole_alloc (whole_alloc (whole_second w _ _ _) _) _)
  have T1 := whole_b hb (whole_alloc (whole_third w _ _ _ _) _)
  have U1 := whole_b hb (whole_fourth w _ _ _ _ _)
  have z0 := whole_lt V1
  clear hb
  rw [t0]
  obtain ⟨v0, v1, v2, v3, v4, v5⟩ := six_cells V1
  go_wp2_with fail
  refine (dataOK_any _ d _ (datIn_below HX.out B1)).mono ?_
  rintro e w2 ⟨rfl, hb⟩
  have B2 : Below w.heap.size w w2 := below_step B1 hb
  have T2 := whole_b hb T1
  have U2 := whole_b hb U1
  have z1 := whole_lt T2
  have z2 := whole_lt U2
  have Q2 := whole_b hb Q1
  have V2 := whole_b hb V1
  clear hb v0 v1 v2 v3 v4 v5 V1 T1 U1 Q1
  rw [t1]
  obtain ⟨r0, r1, r2, r3, r4⟩ := five_cells T2
  obtain ⟨s0, s1, s2, s3, s4, s5⟩ := six_cells U2
  have fr := whole_free T2
  have fs := whole_free U2
  go_wp2_with (go_at_call 51; refine (isCap_any _ _).mono ?_; rintro e w' ⟨rfl, rfl⟩)
  have HIN : Hid (∀ W, Below w2.heap.size w2 W → HostIn W _ h) := Lib.hid fun W hb => hostIn_below HH.out (below_step B2 hb)
  have DIN : Hid (∀ W, Below w2.heap.size w2 W → DatIn W _ d) := Lib.hid fun W hb => datIn_below HX.out (below_step B2 hb)
  have KQ := Lib.hid Q2
  have KV := Lib.hid V2
  have zq := whole_lt Q2
  have zv := whole_lt V2
  have KT := Lib.hid T2
  have KU := Lib.hid U2
  have KB := Lib.hid B2
  obtain ⟨⟨n0, n1, n2, n3, n4⟩, ⟨y0, y1, y2, y3, y4, y5⟩⟩ := cells_elevenS (whole_below Q2 (Below.refl _ _).drew) (whole_below V2 (Below.refl _ _).drew)
  clear r0 r1 r2 r3 r4 s0 s1 s2 s3 s4 s5 fr fs Q2 V2 T2 U2 B1 B2
  go_cut [10, 11] (fun s10 s11 wx => HcCut w2 h d s10 s11 wx)
  case first =>
    go_region_held3 (fun W => (W.cell? ⟨w.heap.size, 0, none⟩ = some (.slice A1 h.g.length k1) ∧ W.cell? ⟨w.heap.size, 1, none⟩ = some (.slice A2 h.s.length k2) ∧ W.cell? ⟨w.heap.size, 2, none⟩ = some (.slice A3 h.n.length k3) ∧ W.cell? ⟨w.heap.size, 3, none⟩ = some (.int .i64 h.c) ∧ W.cell? ⟨w.heap.size, 4, none⟩ = some (.slice A4 h.d.length k4)) ∧ (W.cell? ⟨w.heap.size + 1, 0, none⟩ = some (.slice D1 d.s.length j1) ∧ W.cell? ⟨w.heap.size + 1, 1, none⟩ = some (.slice D2 d.b.length j2) ∧ W.cell? ⟨w.heap.size + 1, 2, none⟩ = some (.slice D3 d.c.length j3) ∧ W.cell? ⟨w.heap.size + 1, 3, none⟩ = some (.int .i64 d.h) ∧ W.cell? ⟨w.heap.size + 1, 4, none⟩ = some (.int .i64 d.n) ∧ W.cell? ⟨w.heap.size + 1, 5, none⟩ = some (.string d.o)))
      (first | with_reducible exact ⟨⟨n0, n1, n2, n3, n4⟩, ⟨y0, y1, y2, y3, y4, y5⟩⟩ | exact cells_elevenS (whole_only (S := fun k => w2.heap.size ≤ k) KQ.out (by repeat (first | with_reducible exact only_refl _ _ | with_reducible exact OL4 | with_reducible exact OL3 | ((with_reducible refine only_set ?_ (.inl ?_) _); rotate_left; focus (show w2.heap.size ≤ _; first | omega | (simp; omega))) | with_reducible refine only_drew ?_ | with_reducible refine only_alloc ?_ _)) (by omega)) (whole_only (S := fun k => w2.heap.size ≤ k) KV.out (by repeat (first | with_reducible exact only_refl _ _ | with_reducible exact OL4 | with_reducible exact OL3 | ((with_reducible refine only_set ?_ (.inl ?_) _); rotate_left; focus (show w2.heap.size ≤ _; first | omega | (simp; omega))) | with_reducible refine only_drew ?_ | with_reducible refine only_alloc ?_ _)) (by omega)))
      (first
      | (go_at_call 52
         refine (ownHost_any _ h _ (HIN.out _ (by repeat (first | with_reducible assumption | with_reducible exact Below.refl _ _ | with_reducible refine below_alloc ?_ _ | with_reducible refine Below.drew ?_))) SH.out).mono ?_
         rintro e w3 ⟨u3, rfl, ho3, hb3⟩
         have L3 : Below w2.heap.size w2 w3 := below_step (by repeat (first | with_reducible assumption | with_reducible exact Below.refl _ _ | with_reducible refine below_alloc ?_ _ | with_reducible refine Below.drew ?_)) hb3
         have OL3 : Only (fun k => w2.heap.size ≤ k) w2 w3 := below_only L3
         have lz3 := L3.size
         have HO3 := Lib.hid (hostOf_base ho3 (show Below w2.heap.size w2 _ from by repeat (first | with_reducible assumption | with_reducible exact Below.refl _ _ | with_reducible refine below_alloc ?_ _ | with_reducible refine Below.drew ?_)).size)
         obtain ⟨X1, m1, X2, m2, X3, m3, X4, m4, rfl⟩ := hostIn_form (hostOf_in ho3)
         (try ((first | (with_reducible have gAw3 : Whole w3 (w2.heap.size) 33 #[.slice none 0 0, .slice none 0 0, .slice none 0 0, .int .i64 0, .slice none 0 0] := whole_b hb3 (whole_drewQ (whole_new _ _ _))) | (with_reducible have gAw3 : Whole w3 (w2.heap.size) 33 #[.slice none 0 0, .slice none 0 0, .slice none 0 0, .int .i64 0, .slice none 0 0] := whole_b hb3 (whole_drewQ (whole_alloc (whole_new _ _ _) _))) | (with_reducible have gAw3 : Whole w3 (w2.heap.size) 33 #[.slice none 0 0, .slice none 0 0, .slice none 0 0, .int .i64 0, .slice none 0 0] := whole_b hb3 (whole_drewQ (whole_second _ _ _ _))) | (with_reducible have gAw3 : Whole w3 (w2.heap.size) 33 #[.slice none 0 0, .slice none 0 0, .slice none 0 0, .int .i64 0, .slice none 0 0] := whole_b hb3 (whole_new _ _ _)) | (with_reducible have gAw3 : Whole w3 (w2.heap.size) 33 #[.slice none 0 0, .slice none 0 0, .slice none 0 0, .int .i64 0, .slice none 0 0] := whole_b hb3 (whole_alloc (whole_new _ _ _) _)) | (with_reducible have gAw3 : Whole w3 (w2.heap.size) 33 #[.slice none 0 0, .slice none 0 0, .slice none 0 0, .int .i64 0, .slice none 0 0] := whole_b hb3 (whole_second _ _ _ _))); obtain ⟨gAw3c0, gAw3c1, gAw3c2, gAw3c3, gAw3c4⟩ := five_cells gAw3; have gAw3f := whole_free gAw3; have gAw3l := whole_lt gAw3))
         (try ((first | (with_reducible have eAw3 : Whole w3 (w2.heap.size) 34 #[.slice none 0 0, .slice none 0 0, .slice none 0 0, .int .i64 0, .int .i64 0, .string ⟨#[]⟩] := whole_b hb3 (whole_drewQ (whole_new _ _ _))) | (with_reducible have eAw3 : Whole w3 (w2.heap.size) 34 #[.slice none 0 0, .slice none 0 0, .slice none 0 0, .int .i64 0, .int .i64 0, .string ⟨#[]⟩] := whole_b hb3 (whole_drewQ (whole_alloc (whole_new _ _ _) _))) | (with_reducible have eAw3 : Whole w3 (w2.heap.size) 34 #[.slice none 0 0, .slice none 0 0, .slice none 0 0, .int .i64 0, .int .i64 0, .string ⟨#[]⟩] := whole_b hb3 (whole_drewQ (whole_second _ _ _ _))) | (with_reducible have eAw3 : Whole w3 (w2.heap.size) 34 #[.slice none 0 0, .slice none 0 0, .slice none 0 0, .int .i64 0, .int .i64 0, .string ⟨#[]⟩] := whole_b hb3 (whole_new _ _ _)) | (with_reducible have eAw3 : Whole w3 (w2.heap.size) 34 #[.slice none 0 0, .slice none 0 0, .slice none 0 0, .int .i64 0, .int .i64 0, .string ⟨#[]⟩] := whole_b hb3 (whole_alloc (whole_new _ _ _) _)) | (with_reducible have eAw3 : Whole w3 (w2.heap.size) 34 #[.slice none 0 0, .slice none 0 0, .slice none 0 0, .int .i64 0, .int .i64 0, .string ⟨#[]⟩] := whole_b hb3 (whole_second _ _ _ _))); obtain ⟨eAw3c0, eAw3c1, eAw3c2, eAw3c3, eAw3c4, eAw3c5⟩ := six_cells eAw3; have eAw3f := whole_free eAw3; have eAw3l := whole_lt eAw3))
         (try ((first | (with_reducible have gBw3 : Whole w3 (w2.heap.size + 1) 33 #[.slice none 0 0, .slice none 0 0, .slice none 0 0, .int .i64 0, .slice none 0 0] := whole_b hb3 (whole_drewQ (whole_new _ _ _))) | (with_reducible have gBw3 : Whole w3 (w2.heap.size + 1) 33 #[.slice none 0 0, .slice none 0 0, .slice none 0 0, .int .i64 0, .slice none 0 0] := whole_b hb3 (whole_drewQ (whole_alloc (whole_new _ _ _) _))) | (with_reducible have gBw3 : Whole w3 (w2.heap.size + 1) 33 #[.slice none 0 0, .slice none 0 0, .slice none 0 0, .int .i64 0, .slice none 0 0] := whole_b hb3 (whole_drewQ (whole_second _ _ _ _))) | (with_reducible have gBw3 : Whole w3 (w2.heap.size + 1) 33 #[.slice none 0 0, .slice none 0 0, .slice none 0 0, .int .i64 0, .slice none 0 0] := whole_b hb3 (whole_new _ _ _)) | (with_reducible have gBw3 : Whole w3 (w2.heap.size + 1) 33 #[.slice none 0 0, .slice none 0 0, .slice none 0 0, .int .i64 0, .slice none 0 0] := whole_b hb3 (whole_alloc (whole_new _ _ _) _)) | (with_reducible have gBw3 : Whole w3 (w2.heap.size + 1) 33 #[.slice none 0 0, .slice none 0 0, .slice none 0 0, .int .i64 0, .slice none 0 0] := whole_b hb3 (whole_second _ _ _ _))); obtain ⟨gBw3c0, gBw3c1, gBw3c2, gBw3c3, gBw3c4⟩ := five_cells gBw3; have gBw3f := whole_free gBw3; have gBw3l := whole_lt gBw3))
         (try ((first | (with_reducible have eBw3 : Whole w3 (w2.heap.size + 1) 34 #[.slice none 0 0, .slice none 0 0, .slice none 0 0, .int .i64 0, .int .i64 0, .string ⟨#[]⟩] := whole_b hb3 (whole_drewQ (whole_new _ _ _))) | (with_reducible have eBw3 : Whole w3 (w2.heap.size + 1) 34 #[.slice none 0 0, .slice none 0 0, .slice none 0 0, .int .i64 0, .int .i64 0, .string ⟨#[]⟩] := whole_b hb3 (whole_drewQ (whole_alloc (whole_new _ _ _) _))) | (with_reducible have eBw3 : Whole w3 (w2.heap.size + 1) 34 #[.slice none 0 0, .slice none 0 0, .slice none 0 0, .int .i64 0, .int .i64 0, .string ⟨#[]⟩] := whole_b hb3 (whole_drewQ (whole_second _ _ _ _))) | (with_reducible have eBw3 : Whole w3 (w2.heap.size + 1) 34 #[.slice none 0 0, .slice none 0 0, .slice none 0 0, .int .i64 0, .int .i64 0, .string ⟨#[]⟩] := whole_b hb3 (whole_new _ _ _)) | (with_reducible have eBw3 : Whole w3 (w2.heap.size + 1) 34 #[.slice none 0 0, .slice none 0 0, .slice none 0 0, .int .i64 0, .int .i64 0, .string ⟨#[]⟩] := whole_b hb3 (whole_alloc (whole_new _ _ _) _)) | (with_reducible have eBw3 : Whole w3 (w2.heap.size + 1) 34 #[.slice none 0 0, .slice none 0 0, .slice none 0 0, .int .i64 0, .int .i64 0, .string ⟨#[]⟩] := whole_b hb3 (whole_second _ _ _ _))); obtain ⟨eBw3c0, eBw3c1, eBw3c2, eBw3c3, eBw3c4, eBw3c5⟩ := six_cells eBw3; have eBw3f := whole_free eBw3; have eBw3l := whole_lt eBw3))
         clear ho3)
      | (go_at_call 53
         refine (ownData_any _ d _ (DIN.out _ (by repeat (first | with_reducible assumption | with_reducible exact Below.refl _ _ | with_reducible refine below_alloc ?_ _ | with_reducible refine Below.drew ?_))) SD.out).mono ?_
         rintro e w4 ⟨u4, rfl, ho4, hb4⟩
         have L34 : Below w3.heap.size w3 w4 := below_step (by repeat (first | with_reducible assumption | with_reducible exact Below.refl _ _ | with_reducible refine below_alloc ?_ _ | with_reducible refine Below.drew ?_)) hb4
         have L4 : Below w2.heap.size w2 w4 := below_step L3 L34
         have OL4 : Only (fun k => w2.heap.size ≤ k) w2 w4 := below_only L4
         have lz4 := L34.size
         have HO4 := Lib.hid (hostOf_below HO3.out L34)
         have DO4 := Lib.hid (datOf_base ho4 (show Below w3.heap.size w3 _ from by repeat (first | with_reducible assumption | with_reducible exact Below.refl _ _ | with_reducible refine below_alloc ?_ _ | with_reducible refine Below.drew ?_)).size)
         obtain ⟨Y1, l1, Y2, l2, Y3, l3, rfl⟩ := datIn_form (datOf_in ho4)
         (try ((first | (with_reducible have gAw4 : Whole w4 (w2.heap.size) 33 #[.slice none 0 0, .slice none 0 0, .slice none 0 0, .int .i64 0, .slice none 0 0] := whole_b hb4 (gAw3)) | (with_reducible have gAw4 : Whole w4 (w2.heap.size) 33 #[.slice none 0 0, .slice none 0 0, .slice none 0 0, .int .i64 0, .slice none 0 0] := whole_b hb4 (whole_alloc gAw3 _)) | (with_reducible have gAw4 : Whole w4 (w2.heap.size) 33 #[.slice none 0 0, .slice none 0 0, .slice none 0 0, .int .i64 0, .slice none 0 0] := whole_b hb4 (whole_alloc (whole_alloc gAw3 _) _))); obtain ⟨gAw4c0, gAw4c1, gAw4c2, gAw4c3, gAw4c4⟩ := five_cells gAw4; have gAw4f := whole_free gAw4; have gAw4l := whole_lt gAw4))
         (try ((first | (with_reducible have eAw4 : Whole w4 (w2.heap.size) 34 #[.slice none 0 0, .slice none 0 0, .slice none 0 0, .int .i64 0, .int .i64 0, .string ⟨#[]⟩] := whole_b hb4 (eAw3)) | (with_reducible have eAw4 : Whole w4 (w2.heap.size) 34 #[.slice none 0 0, .slice none 0 0, .slice none 0 0, .int .i64 0, .int .i64 0, .string ⟨#[]⟩] := whole_b hb4 (whole_alloc eAw3 _)) | (with_reducible have eAw4 : Whole w4 (w2.heap.size) 34 #[.slice none 0 0, .slice none 0 0, .slice none 0 0, .int .i64 0, .int .i64 0, .string ⟨#[]⟩] := whole_b hb4 (whole_alloc (whole_alloc eAw3 _) _))); obtain ⟨eAw4c0, eAw4c1, eAw4c2, eAw4c3, eAw4c4, eAw4c5⟩ := six_cells eAw4; have eAw4f := whole_free eAw4; have eAw4l := whole_lt eAw4))
         (try ((first | (with_reducible have gBw4 : Whole w4 (w2.heap.size + 1) 33 #[.slice none 0 0, .slice none 0 0, .slice none 0 0, .int .i64 0, .slice none 0 0] := whole_b hb4 (gBw3)) | (with_reducible have gBw4 : Whole w4 (w2.heap.size + 1) 33 #[.slice none 0 0, .slice none 0 0, .slice none 0 0, .int .i64 0, .slice none 0 0] := whole_b hb4 (whole_alloc gBw3 _)) | (with_reducible have gBw4 : Whole w4 (w2.heap.size + 1) 33 #[.slice none 0 0, .slice none 0 0, .slice none 0 0, .int .i64 0, .slice none 0 0] := whole_b hb4 (whole_alloc (whole_alloc gBw3 _) _))); obtain ⟨gBw4c0, gBw4c1, gBw4c2, gBw4c3, gBw4c4⟩ := five_cells gBw4; have gBw4f := whole_free gBw4; have gBw4l := whole_lt gBw4))
         (try ((first | (with_reducible have eBw4 : Whole w4 (w2.heap.size + 1) 34 #[.slice none 0 0, .slice none 0 0, .slice none 0 0, .int .i64 0, .int .i64 0, .string ⟨#[]⟩] := whole_b hb4 (eBw3)) | (with_reducible have eBw4 : Whole w4 (w2.heap.size + 1) 34 #[.slice none 0 0, .slice none 0 0, .slice none 0 0, .int .i64 0, .int .i64 0, .string ⟨#[]⟩] := whole_b hb4 (whole_alloc eBw3 _)) | (with_reducible have eBw4 : Whole w4 (w2.heap.size + 1) 34 #[.slice none 0 0, .slice none 0 0, .slice none 0 0, .int .i64 0, .int .i64 0, .string ⟨#[]⟩] := whole_b hb4 (whole_alloc (whole_alloc eBw3 _) _))); obtain ⟨eBw4c0, eBw4c1, eBw4c2, eBw4c3, eBw4c4, eBw4c5⟩ := six_cells eBw4; have eBw4f := whole_free eBw4; have eBw4l := whole_lt eBw4))
         (try ((first | (with_reducible have gCw4 : Whole w4 (w3.heap.size) 33 #[.slice none 0 0, .slice none 0 0, .slice none 0 0, .int .i64 0, .slice none 0 0] := whole_b hb4 (whole_new _ _ _)) | (with_reducible have gCw4 : Whole w4 (w3.heap.size) 33 #[.slice none 0 0, .slice none 0 0, .slice none 0 0, .int .i64 0, .slice none 0 0] := whole_b hb4 (whole_alloc (whole_new _ _ _) _)) | (with_reducible have gCw4 : Whole w4 (w3.heap.size) 33 #[.slice none 0 0, .slice none 0 0, .slice none 0 0, .int .i64 0, .slice none 0 0] := whole_b hb4 (whole_second _ _ _ _))); obtain ⟨gCw4c0, gCw4c1, gCw4c2, gCw4c3, gCw4c4⟩ := five_cells gCw4; have gCw4f := whole_free gCw4; have gCw4l := whole_lt gCw4))
         (try ((first | (with_reducible have eCw4 : Whole w4 (w3.heap.size) 34 #[.slice none 0 0, .slice none 0 0, .slice none 0 0, .int .i64 0, .int .i64 0, .string ⟨#[]⟩] := whole_b hb4 (whole_new _ _ _)) | (with_reducible have eCw4 : Whole w4 (w3.heap.size) 34 #[.slice none 0 0, .slice none 0 0, .slice none 0 0, .int .i64 0, .int .i64 0, .string ⟨#[]⟩] := whole_b hb4 (whole_alloc (whole_new _ _ _) _)) | (with_reducible have eCw4 : Whole w4 (w3.heap.size) 34 #[.slice none 0 0, .slice none 0 0, .slice none 0 0, .int .i64 0, .int .i64 0, .string ⟨#[]⟩] := whole_b hb4 (whole_second _ _ _ _))); obtain ⟨eCw4c0, eCw4c1, eCw4c2, eCw4c3, eCw4c4, eCw4c5⟩ := six_cells eCw4; have eCw4f := whole_free eCw4; have eCw4l := whole_lt eCw4))
         (try ((first | (with_reducible have gDw4 : Whole w4 (w3.heap.size + 1) 33 #[.slice none 0 0, .slice none 0 0, .slice none 0 0, .int .i64 0, .slice none 0 0] := whole_b hb4 (whole_new _ _ _)) | (with_reducible have gDw4 : Whole w4 (w3.heap.size + 1) 33 #[.slice none 0 0, .slice none 0 0, .slice none 0 0, .int .i64 0, .slice none 0 0] := whole_b hb4 (whole_alloc (whole_new _ _ _) _)) | (with_reducible have gDw4 : Whole w4 (w3.heap.size + 1) 33 #[.slice none 0 0, .slice none 0 0, .slice none 0 0, .int .i64 0, .slice none 0 0] := whole_b hb4 (whole_second _ _ _ _))); obtain ⟨gDw4c0, gDw4c1, gDw4c2, gDw4c3, gDw4c4⟩ := five_cells gDw4; have gDw4f := whole_free gDw4; have gDw4l := whole_lt gDw4))
         (try ((first | (with_reducible have eDw4 : Whole w4 (w3.heap.size + 1) 34 #[.slice none 0 0, .slice none 0 0, .slice none 0 0, .int .i64 0, .int .i64 0, .string ⟨#[]⟩] := whole_b hb4 (whole_new _ _ _)) | (with_reducible have eDw4 : Whole w4 (w3.heap.size + 1) 34 #[.slice none 0 0, .slice none 0 0, .slice none 0 0, .int .i64 0, .int .i64 0, .string ⟨#[]⟩] := whole_b hb4 (whole_alloc (whole_new _ _ _) _)) | (with_reducible have eDw4 : Whole w4 (w3.heap.size + 1) 34 #[.slice none 0 0, .slice none 0 0, .slice none 0 0, .int .i64 0, .int .i64 0, .string ⟨#[]⟩] := whole_b hb4 (whole_second _ _ _ _))); obtain ⟨eDw4c0, eDw4c1, eDw4c2, eDw4c3, eDw4c4, eDw4c5⟩ := six_cells eDw4; have eDw4f := whole_free eDw4; have eDw4l := whole_lt eDw4))
         clear ho4))
    all_goals
      go_wp2_with fail
      go_meet
      refine hc_leaf (W4 := w4) (m := w3.heap.size) ?_ ?_ HO4.out DO4.out ?_ lz3 (by first | omega | (simp <;> omega)) (by first | omega | (simp <;> omega)) ?_
      · repeat (first | with_reducible assumption | ((with_reducible refine whole_newH ?_); (first | with_reducible rfl | with_reducible exact size5.symm | with_reducible exact size6.symm | (simp; done) | (simp [World.setCell]; done))) | with_reducible refine whole_alloc ?_ _ | with_reducible refine whole6 ?_ | with_reducible refine whole5 ?_ | with_reducible refine skip6 ?_ (by omega) | with_reducible refine skip5 ?_ (by omega))
      · repeat (first | with_reducible assumption | ((with_reducible refine whole_newH ?_); (first | with_reducible rfl | with_reducible exact size5.symm | with_reducible exact size6.symm | (simp; done) | (simp [World.setCell]; done))) | with_reducible refine whole_alloc ?_ _ | with_reducible refine whole6 ?_ | with_reducible refine whole5 ?_ | with_reducible refine skip6 ?_ (by omega) | with_reducible refine skip5 ?_ (by omega))
      · repeat (first | with_reducible exact only_refl _ _ | with_reducible refine only6 ?_ (.inl (oth_data (by with_reducible assumption))) | with_reducible refine only5 ?_ (.inl (oth_host (by with_reducible assumption))) | with_reducible refine only_alloc ?_ _ | with_reducible refine only_drew ?_)
      · repeat (first | with_reducible exact L4 | with_reducible refine below_alloc ?_ _ | with_reducible refine bput6 ?_ (by first | assumption | omega) | with_reducible refine bput5 ?_ (by first | assumption | omega))
  case rest =>
    obtain ⟨G, E, vh, vd, rfl, rfl, P, hr, hB⟩ := hcut
    have zt := whole_lt KT.out
    have zu := whole_lt KU.out
    have Tc := Lib.hid (whole_below KT.out hB)
    have Uc := Lib.hid (whole_below KU.out hB)
    have PC := Lib.hid (call_any wc w2.heap.size G E vh vd h d c P HF.out DF.out hc4 hr)
    have zl : w.heap.size ≤ w2.heap.size := KB.out.size
    have KB2 := Lib.hid (below_step KB.out hB)
    generalize hCall h d c = pp at *
    clear P hr hB n0 n1 n2 n3 n4 y0 y1 y2 y3 y4 y5 HIN DIN
    go_wp2_with fail
    refine PC.out.mono ?_
    rintro e w5 ⟨rfl, ⟨vh5, vd5, P5⟩, hb5⟩
    have B5 := Lib.hid (KB2.out.trans (hb5.mono zl))
    have T5 := whole_keep Tc.out (hb5.block _ zt)
    have U5 := whole_keep Uc.out (hb5.block _ zu)
    obtain ⟨⟨x5, y5, q5, t5, e5, hw5⟩, ht5, _⟩ := P5.host
    obtain ⟨i5, j5, k5, e6, hw6⟩ := P5.box
    have hd5 := P5.data
    obtain ⟨X1, m1, X2, m2, X3, m3, X4, m4, hv⟩ := hostIn_form (hostT_in ht5)
    rw [e5] at hv
    simp only [Value.agg.injEq, Array.mk.injEq, List.cons.injEq, and_true, true_and] at hv
    obtain ⟨rfl, rfl, rfl, rfl⟩ := hv
    obtain ⟨Y1, l1, Y2, l2, Y3, l3, hv2⟩ := datIn_form (datOf_in hd5)
    rw [e6] at hv2
    simp only [Value.agg.injEq, Array.mk.injEq, List.cons.injEq, and_true, true_and] at hv2
    obtain ⟨rfl, rfl, rfl⟩ := hv2
    subst e5 e6
    have HT5 := Lib.hid ht5
    have HD5 := Lib.hid hd5
    have AP5 := Lib.hid (fun k (a : Mine _ k) (b : Mine _ k) => P5.apart k (.inr a) (.inr b))
    obtain ⟨g0, g1, g2, g3, g4⟩ := five_cells hw5
    obtain ⟨p0, p1, p2, p3, p4, p5⟩ := six_cells hw6
    obtain ⟨r0, r1, r2, r3, r4⟩ := five_cells T5
    obtain ⟨s0, s1, s2, s3, s4, s5⟩ := six_cells U5
    have fr := whole_free T5
    have fs := whole_free U5
    have zg := whole_lt hw5
    have ze := whole_lt hw6
    have zr := whole_lt T5
    have zs := whole_lt U5
    have lg5 := P5.loG
    have le5 := P5.loE
    have d0 : ¬ (w.heap.size + 1 + 1 = G) := by omega
    have f0 : ¬ (G = w.heap.size + 1 + 1) := by omega
    have d1 : ¬ (w.heap.size + 1 + 1 = E) := by omega
    have f1 : ¬ (E = w.heap.size + 1 + 1) := by omega
    have d2 : ¬ (w.heap.size + 1 + 1 + 1 = G) := by omega
    have f2 : ¬ (G = w.heap.size + 1 + 1 + 1) := by omega
    have d3 : ¬ (w.heap.size + 1 + 1 + 1 = E) := by omega
    have f3 : ¬ (E = w.heap.size + 1 + 1 + 1) := by omega
    clear ht5 hd5 hw5 hw6 hb5 T5 U5 P5
    go_wp2
    go_region
    all_goals
      go_wp2
      refine bodyPost_ret (v := .tuple #[.agg #[.slice X1 pp.1.g.length m1, .slice X2 pp.1.s.length m2, .slice X3 pp.1.n.length m3, .int .i64 pp.1.c, .slice X4 pp.1.d.length m4], .agg #[.slice Y1 pp.2.1.s.length l1, .slice Y2 pp.2.1.b.length l2, .slice Y3 pp.2.1.c.length l3, .int .i64 pp.2.1.h, .int .i64 pp.2.1.n, .string pp.2.1.o], .int .i64 pp.2.2, .int .i64 0]) (by simp [results, Try.results11, go_sem, *]) rfl ?_
      refine hcres_put2 (T := w.heap.size + 1 + 1) (U := w.heap.size + 1 + 1 + 1) (lo := w2.heap.size) HT5.out HD5.out AP5.out zt zu zl (by omega) (by omega) B5.out ?_
      repeat (first | with_reducible exact only_refl _ _ | with_reducible refine only_set ?_ (.inl (by simp)) _ | with_reducible refine only_drew ?_)

end Go.Proofs.Ytjlfbmplmddceaa

namespace Go.Proofs.Ytjlfbmplmddceaa
open Go.RowKit
set_option linter.unusedVariables false
set_option linter.unusedSimpArgs false

theorem hHost_badHost {h : Ht} {d : Dt} {c : Int} (t0 : hOK h = false) : hHost h d c = (noHt, noDt, 0, 1) := by
  unfold hHost
  rw [t0]
  rfl

theorem hHost_badData {h : Ht} {d : Dt} {c : Int} (t0 : hOK h = true) (t1 : dOK d = false) : hHost h d c = (noHt, noDt, 0, 1) := by
  unfold hHost
  rw [t0, t1]
  rfl

theorem hHost_badCap {h : Ht} {d : Dt} {c : Int} (t0 : hOK h = true) (t1 : dOK d = true) (t2 : inB c 0 3 = false) : hHost h d c = (noHt, noDt, 0, 9) := by
  unfold hHost
  rw [t0, t1, t2]
  rfl

theorem hHost_good {h : Ht} {d : Dt} {c : Nat} (t0 : hOK h = true) (t1 : dOK d = true) (t2 : inB (c : Int) 0 3 = true) : hHost h d (c : Int) = ((hCall h d c).1, (hCall h d c).2.1, (hCall h d c).2.2, 0) := by
  unfold hHost
  rw [t0, t1, t2, Int.toNat_natCast]
  rfl

theorem inB_nat {c : Int} (t2 : inB c 0 3 = true) : ∃ k : Nat, c = (k : Int) := by
  unfold inB at t2
  simp at t2
  exact ⟨c.toNat, by omega⟩

theorem hHost_cases (h : Ht) (d : Dt) (c : Int) {P : Prop} (f0 : hOK h = false → P) (f1 : hOK h = true → dOK d = false → P) (f2 : hOK h = true → dOK d = true → inB c 0 3 = false → P) (f3 : hOK h = true → dOK d = true → inB c 0 3 = true → P) : P := by
  cases t0 : hOK h
  · exact f0 t0
  · cases t1 : dOK d
    · exact f1 t0 t1
    · cases t2 : inB c 0 3
      · exact f2 t0 t1 t2
      · exact f3 t0 t1 t2

theorem iHostCall_any (v x : Value) (h : Ht) (d : Dt) (c : Int) (w : World) (hv : HostIn w v h) (hx : DatIn w x d) :
    Calls Try.prog 11 #[v, x, .int .i64 c] w (HcRes w (hHost h d c)) := by
  refine hHost_cases h d c (fun t0 => ?_) (fun t0 t1 => ?_) (fun t0 t1 t2 => ?_) (fun t0 t1 t2 => ?_)
  · rw [hHost_badHost t0]; exact iHostCall_badHost v x h d c w hv hx t0
  · rw [hHost_badData t0 t1]; exact iHostCall_badData v x h d c w hv hx t0 t1
  · rw [hHost_badCap t0 t1 t2]; exact iHostCall_badCap v x h d c w hv hx t0 t1 t2
  · obtain ⟨k, rfl⟩ := inB_nat t2
    rw [hHost_good t0 t1 t2]; exact iHostCall_good v x h d k w hv hx t0 t1 t2

theorem sHostCall_any (v x : Value) (h : Ht) (d : Dt) (c : Int) (w : World) (hv : HostIn w v h) (hx : DatC w x d) :
    Calls Try.prog 8 #[v, x, .int .i64 c] w (HcRes w (hHost h d c)) := by
  refine hHost_cases h d c (fun t0 => ?_) (fun t0 t1 => ?_) (fun t0 t1 t2 => ?_) (fun t0 t1 t2 => ?_)
  · rw [hHost_badHost t0]; exact sHostCall_badHost v x h d c w hv hx t0
  · rw [hHost_badData t0 t1]; exact sHostCall_badData v x h d c w hv hx t0 t1
  · rw [hHost_badCap t0 t1 t2]; exact sHostCall_badCap v x h d c w hv hx t0 t1 t2
  · obtain ⟨k, rfl⟩ := inB_nat t2
    rw [hHost_good t0 t1 t2]; exact sHostCall_good v x h d k w hv hx t0 t1 t2

theorem noDt_small : SmallD noDt := by
  refine ⟨?_, ?_, ?_, ?_⟩ <;> decide

theorem noHt_small : SmallH noHt := by
  refine ⟨?_, ?_, ?_, ?_⟩ <;> decide

theorem hHost_small (h : Ht) (d : Dt) (c : Int) : SmallH (hHost h d c).1 ∧ SmallD (hHost h d c).2.1 := by
  refine hHost_cases h d c (fun t0 => ?_) (fun t0 t1 => ?_) (fun t0 t1 t2 => ?_) (fun t0 t1 t2 => ?_)
  · rw [hHost_badHost t0]; exact ⟨noHt_small, noDt_small⟩
  · rw [hHost_badData t0 t1]; exact ⟨noHt_small, noDt_small⟩
  · rw [hHost_badCap t0 t1 t2]; exact ⟨noHt_small, noDt_small⟩
  · obtain ⟨k, rfl⟩ := inB_nat t2
    rw [hHost_good t0 t1 t2]; exact hCall_small (hOK_fine t0) (dOK_fine t1) k
end Go.Proofs.Ytjlfbmplmddceaa

namespace Go.Proofs.Ytjlfbmplmddceaa
open Go.RowKit
set_option linter.unusedVariables false
set_option linter.unusedSimpArgs false

theorem whole_bl {w w' : World} {g : Nat} {t : TypeId} {cs : Array Value} (hb : Below w.heap.size w w') (h : Whole w g t cs) : Whole w' g t cs ∧ g < w.heap.size := ⟨whole_b hb h, whole_lt h⟩

theorem hostT_b {w w' : World} {lo : Nat} {v : Value} {h : Ht} (hb : Below w.heap.size w w') (H : HostT w lo v h) : HostT w' lo v h := hostT_below H hb

/-- What the region leaves: host, data, throw and code of HostCall, the first two in boxes. -/
def HlCut (w2 : World) (r : Ht × Dt × Int × Int) (s8 s9 s10 s11 : Value) (wx : World) : Prop :=
  ∃ G E X1 m1 X2 m2 X3 m3 X4 m4 Y1 l1 Y2 l2 Y3 l3, s8 = .pointer (some ⟨G, 0, none⟩) ∧ s9 = .pointer (some ⟨E, 0, none⟩) ∧ s10 = .int .i64 r.2.2.1 ∧ s11 = .int .i64 r.2.2.2 ∧
    Whole wx G 33 #[.slice X1 r.1.g.length m1, .slice X2 r.1.s.length m2, .slice X3 r.1.n.length m3, .int .i64 r.1.c, .slice X4 r.1.d.length m4] ∧
    Whole wx E 34 #[.slice Y1 r.2.1.s.length l1, .slice Y2 r.2.1.b.length l2, .slice Y3 r.2.1.c.length l3, .int .i64 r.2.1.h, .int .i64 r.2.1.n, .string r.2.1.o] ∧
    HostT wx w2.heap.size (.agg #[.slice X1 r.1.g.length m1, .slice X2 r.1.s.length m2, .slice X3 r.1.n.length m3, .int .i64 r.1.c, .slice X4 r.1.d.length m4]) r.1 ∧
    DatOf wx w2.heap.size wx.heap.size (.agg #[.slice Y1 r.2.1.s.length l1, .slice Y2 r.2.1.b.length l2, .slice Y3 r.2.1.c.length l3, .int .i64 r.2.1.h, .int .i64 r.2.1.n, .string r.2.1.o]) r.2.1 ∧
    (∀ k, Mine (.agg #[.slice X1 r.1.g.length m1, .slice X2 r.1.s.length m2, .slice X3 r.1.n.length m3, .int .i64 r.1.c, .slice X4 r.1.d.length m4]) k → ¬ Mine (.agg #[.slice Y1 r.2.1.s.length l1, .slice Y2 r.2.1.b.length l2, .slice Y3 r.2.1.c.length l3, .int .i64 r.2.1.h, .int .i64 r.2.1.n, .string r.2.1.o]) k) ∧
    w2.heap.size ≤ G ∧ w2.heap.size ≤ E ∧ Below w2.heap.size w2 wx

/-- What the call leaves, before its results are stored. -/
def HlMid (w2 : World) (lo : Nat) (w5 : World) (r : Ht × Dt × Int × Int) (v x : Value) : Prop :=
  HostT w5 lo v r.1 ∧ DatOf w5 lo w5.heap.size x r.2.1 ∧ (∀ k, Mine v k → ¬ Mine x k) ∧ w2.heap.size ≤ lo ∧ Below w2.heap.size w2 w5

theorem hl_mid {w2 W4 w5 : World} {r : Ht × Dt × Int × Int} {v x : Value} (h3 : HostT w5 W4.heap.size v r.1) (h4 : DatOf w5 W4.heap.size w5.heap.size x r.2.1) (hd : ∀ k, Mine v k → ¬ Mine x k) (hb : Below w2.heap.size w2 W4) (h5 : Below W4.heap.size W4 w5) : HlMid w2 W4.heap.size w5 r v x :=
  ⟨h3, h4, hd, hb.size, below_step hb h5⟩

theorem hl_leaf {w2 W5 W : World} {G E lo : Nat} {r : Ht × Dt × Int × Int} {X1 X2 X3 X4 Y1 Y2 Y3 : Option Addr} {m1 m2 m3 m4 l1 l2 l3 : Nat}
    (M : HlMid w2 lo W5 r (.agg #[.slice X1 r.1.g.length m1, .slice X2 r.1.s.length m2, .slice X3 r.1.n.length m3, .int .i64 r.1.c, .slice X4 r.1.d.length m4]) (.agg #[.slice Y1 r.2.1.s.length l1, .slice Y2 r.2.1.b.length l2, .slice Y3 r.2.1.c.length l3, .int .i64 r.2.1.h, .int .i64 r.2.1.n, .string r.2.1.o]))
    (hG : Whole W G 33 #[.slice X1 r.1.g.length m1, .slice X2 r.1.s.length m2, .slice X3 r.1.n.length m3, .int .i64 r.1.c, .slice X4 r.1.d.length m4])
    (hE : Whole W E 34 #[.slice Y1 r.2.1.s.length l1, .slice Y2 r.2.1.b.length l2, .slice Y3 r.2.1.c.length l3, .int .i64 r.2.1.h, .int .i64 r.2.1.n, .string r.2.1.o])
    (ON : Only (fun k => k < lo) W5 W) (hB : Below w2.heap.size w2 W) (lG : w2.heap.size ≤ G) (lE : w2.heap.size ≤ E) :
    HlCut w2 r (.pointer (some ⟨G, 0, none⟩)) (.pointer (some ⟨E, 0, none⟩)) (.int .i64 r.2.2.1) (.int .i64 r.2.2.2) W := by
  obtain ⟨h3, h4, hd, hl, hb⟩ := M
  refine ⟨G, E, X1, m1, X2, m2, X3, m3, X4, m4, Y1, l1, Y2, l2, Y3, l3, rfl, rfl, rfl, rfl, hG, hE, hostT_base (hostT_only h3 ON fun k hk q => ?_) hl, datOf_top (datOf_base (datOf_only h4 ON fun k hk q => ?_) hl) ON.size, hd, lG, lE, hB⟩
  · have := (hostT_mine h3 hk).1; omega
  · have := (datOf_mine h4 hk).1; omega

end Go.Proofs.Ytjlfbmplmddceaa
