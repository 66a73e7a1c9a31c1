/- PkA: several of my texts, laid together: HcC, HcD, HcE, HcF, HcG, PrmB, SpcA. -/
import Derived.Test.YtkcogfgjabemfaaHcB
import Derived.Test.YtkcogfgjabemfaaPrmA
import Derived.Deep.RegionHeld3
import Derived.Shelf.Abstract
import Derived.Laws.EntriesVeiled
import Derived.Test.YtkcogfgjabemfaaDatT
namespace Go.Proofs.Ytkcogfgjabemfaa
open Go.RowKit
set_option linter.unusedVariables false
set_option linter.unusedSimpArgs false

/-- A host in block G and data in block E, their rows in blocks of their own, no block in two places. -/
structure Pair (w : World) (lo G E : Nat) (vh vd : Value) (h : Ht) (d : Dt) : Prop where
  host : HBx w lo G vh h
  box : ∃ x y z, vd = .agg #[x, y, z, .int .i64 d.h, .int .i64 d.n, .string d.o] ∧ Whole w E 30 #[x, y, z, .int .i64 d.h, .int .i64 d.n, .string d.o]
  data : DatOf w lo w.heap.size vd d
  apart : ∀ k, (k = G ∨ Mine vh k) → ¬ (k = E ∨ Mine vd k)
  own : ∀ k, Mine vd k → k ≠ E
  loG : lo ≤ G
  loE : lo ≤ E

/-- The blocks of a host. -/
def HS (G : Nat) (vh : Value) (k : Nat) : Prop := k = G ∨ Mine vh k

theorem pair_below {w w' : World} {lo G E : Nat} {vh vd : Value} {h : Ht} {d : Dt} (p : Pair w lo G E vh vd h d) (hb : Below w.heap.size w w') : Pair w' lo G E vh vd h d := by
  obtain ⟨p1, ⟨x, y, z, e, hw⟩, p3, p4, p5, p6, p7⟩ := p
  exact ⟨hbx_below p1 hb, ⟨x, y, z, e, whole_below hw hb⟩, datOf_top (datOf_below p3 hb) hb.size, p4, p5, p6, p7⟩

theorem pair_form {w : World} {lo G E : Nat} {vh vd : Value} {h : Ht} {d : Dt} (p : Pair w lo G E vh vd h d) : ∃ A1 k1 A2 k2 A3 k3, vd = .agg #[.slice A1 d.s.length k1, .slice A2 d.b.length k2, .slice A3 d.c.length k3, .int .i64 d.h, .int .i64 d.n, .string d.o] ∧
    Whole w E 30 #[.slice A1 d.s.length k1, .slice A2 d.b.length k2, .slice A3 d.c.length k3, .int .i64 d.h, .int .i64 d.n, .string d.o] ∧ Row w lo (.slice A1 d.s.length k1) d.s := by
  obtain ⟨p1, ⟨x, y, z, e, hw⟩, p3, _⟩ := p
  obtain ⟨x', y', z', e', h1, h2, h3, _⟩ := p3
  rw [e] at e'
  simp only [Value.agg.injEq, Array.mk.injEq, List.cons.injEq, and_true, true_and] at e'
  obtain ⟨rfl, rfl, rfl⟩ := e'
  obtain ⟨_, A1, k1, rfl, _⟩ := row_ints h1
  obtain ⟨_, A2, k2, rfl, _⟩ := row_ints h2
  obtain ⟨_, A3, k3, rfl, _⟩ := row_ints h3
  exact ⟨_, _, _, _, _, _, e, hw, h1⟩

/-- What serve leaves. -/
def ServeOf (w : World) (lo G E : Nat) (r : Ht × Dt × Dd × Int) (e : Ending) (w' : World) : Prop :=
  e = .returned (.tuple #[.agg #[.int .i64 r.2.2.1.p, .int .i64 r.2.2.1.a, .int .i64 r.2.2.1.b, .int .i64 r.2.2.1.r], .int .i64 r.2.2.2]) ∧ (∃ vh vd, Pair w' lo G E vh vd r.1 r.2.1) ∧ Below lo w w'

theorem lo_le {w : World} {lo G E : Nat} {vh vd : Value} {h : Ht} {d : Dt} (p : Pair w lo G E vh vd h d) : lo ≤ w.heap.size := by
  obtain ⟨x, y, z, _, hw⟩ := p.box
  have := whole_lt hw
  have := p.loE
  omega

theorem serve_quiet {w w' : World} {lo G E : Nat} {vh vd : Value} {h : Ht} {d : Dt} {x : Dd} {t : Int} (p : Pair w lo G E vh vd h d) (hb : Below w.heap.size w w') :
    ServeOf w lo G E (h, d, x, t) (.returned (.tuple #[.agg #[.int .i64 x.p, .int .i64 x.a, .int .i64 x.b, .int .i64 x.r], .int .i64 t])) w' := ⟨rfl, ⟨vh, vd, pair_below p hb⟩, hb.mono (lo_le p)⟩

/-- What is left of a row. -/
theorem row_upto {w : World} {base : Nat} {A : Option Addr} {n c k : Nat} {zs : List Int} (h : Row w base (.slice A n c) zs) (hk : k ≤ zs.length) : Row w base (.slice A k c) (zs.take k) := by
  rcases h.2 with ⟨hv, h0⟩ | ⟨g', cap', cur, hv, hb', hg, h1, h2, h3, h4⟩
  · simp only [Value.slice.injEq] at hv
    obtain ⟨rfl, rfl, rfl⟩ := hv
    have hz : zs = [] := List.eq_nil_of_length_eq_zero h0
    subst hz
    have : k = 0 := by simpa using hk
    subst this
    exact row_nil w base
  · simp only [Value.slice.injEq] at hv
    obtain ⟨rfl, rfl, rfl⟩ := hv
    have hl : (zs.take k).length = k := by rw [List.length_take]; omega
    refine ⟨by rw [hl]; simp; omega, .inr ⟨g', c, cur, by rw [hl], hb', hg, by rw [hl]; omega, h2, h3, ?_⟩⟩
    rw [hl, List.map_take, ← h4, List.take_take]
    congr 1
    omega

/-- An append of numbers as one step of a statement in no fixed order. -/
theorem step_append_ints6 {w : World} {ops : Array Oper} {o : Oper} {a : Act} {K : Act → World → Prop} {Q : Exit → Act → World → Prop} {E : Prop} (hgd : o.guard = none) (s x : Operand)
    (ho : o.op = .call { callee := .builtin .append, args := #[s, x], argTypes := #[24, 24] }) (hty : o.type = 24)
    (base : Nat) (v : Value) (ys : List Int) (hs : a.eval s = v) (hown : Row w base v ys) (u : Value) (zs : List Int) (hx : a.eval x = u) (hz : Ints w u zs) (hl : ys.length + zs.length ≤ 1099511627776) (hbase : base ≤ w.heap.size)
    (h : ∀ v' w', Row w' base v' (ys ++ zs) → w.grownBy w' v.ownBlock → (v'.ownBlock = v.ownBlock ∨ v'.ownBlock = some w.heap.size) → K (a.put o.dst v') w') :
    if Region.wanted o (yielded ops a.tmps) = true then Oper.wp Try.prog o a w K Q else E := by
  have hw : Region.wanted o (yielded ops a.tmps) = true := by simp [Region.wanted, hgd]
  rw [if_pos hw]
  obtain ⟨v', w', hrun, h2, h3, h4⟩ := run_append_ints w base v ys hown u zs hz hl hbase
  unfold Oper.wp execOp
  simp only [ho, hty, resolve, invoke, builtin, Sem.run_bind, Sem.run_pure, Result.andThen_ok, List.map_toArray, List.map_cons, List.map_nil, hs, hx, hrun]
  exact h v' w' h2 h3 h4

set_option maxRecDepth 100000 in
set_option maxHeartbeats 1000000 in
theorem serve_under (w : World) (lo G E : Nat) (vh vd : Value) (h : Ht) (d : Dt) (t l : Nat) (fv : FuncId) (p : Pair w lo G E vh vd h d) (hf : HtFine h) (df : DtFine d) (ht : t ≤ 2) (hu : d.s.length < t) :
    Calls Try.prog 105 #[.agg #[.int .i64 t, .int .i64 l, .func (.func fv) #[] #[]], .pointer (some ⟨G, 0, none⟩), .pointer (some ⟨E, 0, none⟩)] w (ServeOf w lo G E (h, d, noDd, -4)) := by
  have PP := Lib.hid p
  obtain ⟨A1, k1, A2, k2, A3, k3, rfl, hw, hrow⟩ := pair_form p
  obtain ⟨d0, d1, d2, d3, d4, d5⟩ := six_cells hw
  have ze := whole_lt hw
  have sl := fine_sl df
  have s1 : IntKind.i64.wrap ((d.s.length : Int) - t) = (d.s.length : Int) - t := IntWalk.i64_in _ (by omega)
  have s2 : (d.s.length : Int) - t < 0 := by omega
  clear hw p hf df hrow
  go_enter Try.func105, Try.ntmps105
  go_wp2
  go_quiet (fail)
  go_wp2
  refine bodyPost_ret (v := .tuple #[.agg #[.int .i64 0, .int .i64 0, .int .i64 0, .int .i64 0], .int .i64 (-4)]) (by simp [results, Try.results105, go_sem, *]) rfl ?_
  exact serve_quiet (x := noDd) PP.out (by repeat (first | with_reducible exact Below.refl _ _ | with_reducible refine Below.setCell ?_ (by simp) _ | with_reducible refine below_alloc ?_ _ | with_reducible refine below_drewN ?_ _))

set_option maxRecDepth 100000 in
set_option maxHeartbeats 1000000 in
theorem serve_over (w : World) (lo G E : Nat) (vh vd : Value) (h : Ht) (d : Dt) (t l m : Nat) (fv : FuncId) (p : Pair w lo G E vh vd h d) (hf : HtFine h) (df : DtFine d) (ht : t ≤ 2) (hl : l ≤ 1) (hm : d.s.length = m + t) (hu : 32 < m + l) :
    Calls Try.prog 105 #[.agg #[.int .i64 t, .int .i64 l, .func (.func fv) #[] #[]], .pointer (some ⟨G, 0, none⟩), .pointer (some ⟨E, 0, none⟩)] w (ServeOf w lo G E (h, d, noDd, -3)) := by
  have PP := Lib.hid p
  obtain ⟨A1, k1, A2, k2, A3, k3, rfl, hw, hrow⟩ := pair_form p
  obtain ⟨d0, d1, d2, d3, d4, d5⟩ := six_cells hw
  have ze := whole_lt hw
  have sl := fine_sl df
  have s1 : IntKind.i64.wrap ((d.s.length : Int) - t) = (m : Int) := by rw [show (d.s.length : Int) - t = m by omega]; exact IntWalk.i64_in _ (by omega)
  have s2 : ¬ ((m : Int) < 0) := by omega
  have s3 : IntKind.i64.wrap ((m : Int) + l) = (m : Int) + l := IntWalk.i64_in _ (by omega)
  have s4 : (32 : Int) < (m : Int) + l := by omega
  clear hw p hf df hrow hm
  go_enter Try.func105, Try.ntmps105
  go_wp2
  go_quiet (fail)
  go_wp2
  refine bodyPost_ret (v := .tuple #[.agg #[.int .i64 0, .int .i64 0, .int .i64 0, .int .i64 0], .int .i64 (-3)]) (by simp [results, Try.results105, go_sem, *]) rfl ?_
  exact serve_quiet (x := noDd) PP.out (by repeat (first | with_reducible exact Below.refl _ _ | with_reducible refine Below.setCell ?_ (by simp) _ | with_reducible refine below_alloc ?_ _ | with_reducible refine below_drewN ?_ _))

theorem only_mine {w w' : World} {G : Nat} {vh : Value} {lo : Nat} (h : Only (HS G vh) w w') (hl : lo ≤ w.heap.size) (hs : ∀ k, HS G vh k → lo ≤ k) : Below lo w w' := only_below h hl hs

theorem pair_lo {w : World} {lo G E : Nat} {vh vd : Value} {h : Ht} {d : Dt} (p : Pair w lo G E vh vd h d) : ∀ k, HS G vh k → lo ≤ k := by
  rintro k (rfl | hk)
  · exact p.loG
  · exact (hostT_mine p.host.2.1 hk).1

/-- The data behind what turns a host's blocks alone; the host as it then is. -/
theorem pair_only {w w' : World} {lo G E : Nat} {vh vd vh' : Value} {h h' : Ht} {d : Dt} (p : Pair w lo G E vh vd h d) (ho : Only (HS G vh) w w') (hx : HBx w' lo G vh' h') (hs : ∀ k, Mine vh' k → Mine vh k) : Pair w' lo G E vh' vd h' d := by
  obtain ⟨p1, ⟨x, y, z, e, hw⟩, p3, p4, p5, p6, p7⟩ := p
  refine ⟨hx, ⟨x, y, z, e, whole_keep hw (ho.block E (whole_lt hw) (fun q => p4 E q (.inl rfl)))⟩, datOf_top (datOf_only p3 ho (fun k hk q => p4 k q (.inr hk))) ho.size, fun k hk => p4 k (hk.imp id (hs k)), p5, p6, p7⟩

theorem mine_first {x y z a b c : Value} : ∀ g, x.ownBlock = some g → Mine (.agg #[x, y, z, a, b, c]) g := fun g e => (mine_agg (l := [x, y, z, a, b, c])).2 ⟨x, by simp, e⟩

theorem mine_dat {x x' y z : Value} {a b : Int} {s : ByteArray} {k : Nat} (hk : Mine (.agg #[x', y, z, .int .i64 a, .int .i64 b, .string s]) k) : x'.ownBlock = some k ∨ Mine (.agg #[x, y, z, .int .i64 a, .int .i64 b, .string s]) k := by
  obtain ⟨u, hu, e⟩ := (mine_agg (l := [x', y, z, .int .i64 a, .int .i64 b, .string s])).1 hk
  simp only [List.mem_cons, List.not_mem_nil, or_false] at hu
  rcases hu with rfl | rfl | rfl | rfl | rfl | rfl
  · exact .inl e
  · exact .inr ((mine_agg (l := [x, u, z, .int .i64 a, .int .i64 b, .string s])).2 ⟨u, by simp, e⟩)
  · exact .inr ((mine_agg (l := [x, y, u, .int .i64 a, .int .i64 b, .string s])).2 ⟨u, by simp, e⟩)
  · simp [Value.ownBlock] at e
  · simp [Value.ownBlock] at e
  · simp [Value.ownBlock] at e

/-- The stack turned in a row of its own, and laid down in the data's block. -/
theorem pair_stack {w w' : World} {lo G E : Nat} {vh x y z x' : Value} {h : Ht} {d : Dt} {N : List Int} (p : Pair w lo G E vh (.agg #[x, y, z, .int .i64 d.h, .int .i64 d.n, .string d.o]) h d) (hg : w.grownBy w' x.ownBlock) (hr : Row w' lo x' N)
    (hat : x'.ownBlock = x.ownBlock ∨ x'.ownBlock = some w.heap.size) : Pair (w'.setCell ⟨E, 0, none⟩ x') lo G E vh (.agg #[x', y, z, .int .i64 d.h, .int .i64 d.n, .string d.o]) h { d with s := N } := by
  obtain ⟨⟨⟨hx, hy, hz, hq, eh, hwh⟩, ht, hn⟩, ⟨x0, y0, z0, e, hw⟩, p3, p4, p5, p6, p7⟩ := p
  simp only [Value.agg.injEq, Array.mk.injEq, List.cons.injEq, and_true, true_and] at e
  obtain ⟨rfl, rfl, rfl⟩ := e
  have hE := whole_lt hw
  have hG := whole_lt hwh
  have nh : ∀ k, HS G vh k → k < w.heap.size ∧ x.ownBlock ≠ some k ∧ k ≠ E := fun k hk => by
    refine ⟨?_, fun e => p4 k hk (.inr (mine_first k e)), fun e => p4 k hk (.inl e)⟩
    rcases hk with rfl | hk
    · exact hG
    · exact (hostT_mine ht hk).2
  have hb : ∀ k, HS G vh k → (w'.setCell ⟨E, 0, none⟩ x').heap[k]? = w.heap[k]? := fun k hk => by
    obtain ⟨q1, q2, q3⟩ := nh k hk
    rw [Below.heap_setCell w' _ _ k q3]
    exact hg.block k q1 (fun e => q2 e.symm)
  have hs : w.heap.size ≤ (w'.setCell ⟨E, 0, none⟩ x').heap.size := by simpa [World.setCell] using hg.size
  obtain ⟨a, b, c, e, h1, h2, h3, h4, q1, q2, q3, hh⟩ := p3
  simp only [Value.agg.injEq, Array.mk.injEq, List.cons.injEq, and_true, true_and] at e
  obtain ⟨rfl, rfl, rfl⟩ := e
  have own' : ∀ k, x'.ownBlock = some k → x.ownBlock = some k ∨ k = w.heap.size := fun k hk => by
    rcases hat with e | e
    · exact .inl (by rw [← e]; exact hk)
    · right; rw [e] at hk; injection hk with hk; exact hk.symm
  have nx : ∀ k, x'.ownBlock = some k → k ≠ E := fun k hk => by
    rcases own' k hk with e | rfl
    · exact p5 k (mine_first k e)
    · omega
  have ny : ∀ k, y.ownBlock = some k → k ≠ E ∧ k < w.heap.size := fun k hk => ⟨p5 k ((mine_agg (l := [x, y, z, .int .i64 d.h, .int .i64 d.n, .string d.o])).2 ⟨y, by simp, hk⟩), (row_lt h2 k hk).2⟩
  have nz : ∀ k, z.ownBlock = some k → k ≠ E ∧ k < w.heap.size := fun k hk => ⟨p5 k ((mine_agg (l := [x, y, z, .int .i64 d.h, .int .i64 d.n, .string d.o])).2 ⟨z, by simp, hk⟩), (row_lt h3 k hk).2⟩
  have wE : Whole w' E 30 #[x, y, z, .int .i64 d.h, .int .i64 d.n, .string d.o] := whole_keep hw (hg.block E hE (fun e => p5 E (mine_first E e.symm) rfl))
  refine ⟨⟨⟨hx, hy, hz, hq, eh, whole_keep hwh (hb G (.inl rfl))⟩, hostT_keep ht hs (fun k hk => hb k (.inr hk)), hn⟩, ⟨x', y, z, rfl, whole_set wE 0 x'⟩, ?_, ?_, ?_, p6, p7⟩
  · have pt : ∀ u : Value, Parted x u → (∀ k, u.ownBlock = some k → k < w.heap.size) → Parted x' u := fun u pu l k hk hu => by
      rcases own' k hk with e | rfl
      · exact pu k e hu
      · have := l _ hu; omega
    have r1 : Row (w'.setCell ⟨E, 0, none⟩ x') lo x' N := row_keep hr fun k hk => Below.heap_setCell w' _ _ k (nx k hk)
    have r2 : Row (w'.setCell ⟨E, 0, none⟩ x') lo y d.b := row_keep h2 fun k hk => (Below.heap_setCell w' _ _ k (ny k hk).1).trans (hg.block k (ny k hk).2 (fun e => q1 k e.symm hk))
    have r3 : Row (w'.setCell ⟨E, 0, none⟩ x') lo z d.c := row_keep h3 fun k hk => (Below.heap_setCell w' _ _ k (nz k hk).1).trans (hg.block k (nz k hk).2 (fun e => q2 k e.symm hk))
    exact datOf_rows (d := { d with s := N }) r1 r2 r3 h4 (pt _ q1 fun k hk => (ny k hk).2) (pt _ q2 fun k hk => (nz k hk).2) q3
  · intro k hk hq
    rcases hq with rfl | hq
    · exact p4 k hk (.inl rfl)
    · rcases mine_dat (x := x) hq with e | e
      · rcases own' k e with e | rfl
        · exact p4 k hk (.inr (mine_first k e))
        · have := (nh _ hk).1; omega
      · exact p4 k hk (.inr e)
  · intro k hk
    rcases mine_dat (x := x) hk with e | e
    · exact nx k e
    · exact p5 k e

end Go.Proofs.Ytkcogfgjabemfaa

namespace Go.Proofs.Ytkcogfgjabemfaa
open Go.RowKit
set_option linter.unusedVariables false
set_option linter.unusedSimpArgs false

/-- The function value is a function that is entered. -/
def EnteredF (f : FuncId) : Prop := ∀ (args : Array Value) (w : World), (callFunc f args).run Try.prog w = .ok (.enter f args) w

/-- A value that shows these cells. -/
def TkAt (W : World) (tv : Value) (xs : List Int) : Prop := xs = [] ∨ ∃ gt mt kc, tv = .slice (some ⟨gt, mt, none⟩) xs.length kc ∧ gt < W.heap.size ∧ ∀ k (hk : k < xs.length), W.cell? ⟨gt, mt + k, none⟩ = some (.int .i64 xs[k])

theorem pair_up {w w' : World} {lo G E N : Nat} {vh vd : Value} {h : Ht} {d : Dt} (p : Pair w lo G E vh vd h d) (hN : ∀ k, (k = G ∨ Mine vh k) ∨ (k = E ∨ Mine vd k) → k < N) (hb : Below N w w') (hs : w.heap.size ≤ w'.heap.size) : Pair w' lo G E vh vd h d := by
  obtain ⟨⟨⟨x1, y1, z1, q1, e1, hw1⟩, ht, hm⟩, ⟨x, y, z, e, hw⟩, p3, p4, p5, p6, p7⟩ := p
  refine ⟨⟨⟨x1, y1, z1, q1, e1, whole_keep hw1 (hb.block G (hN G (.inl (.inl rfl))))⟩, hostT_keep ht hs (fun k hk => hb.block k (hN k (.inl (.inr hk)))), hm⟩, ⟨x, y, z, e, whole_keep hw (hb.block E (hN E (.inr (.inl rfl))))⟩, ?_, p4, p5, p6, p7⟩
  refine datOf_top (datOf_only (S := fun k => ¬ k < N) p3 ⟨hb.os, hb.tape, hb.output, hs, fun k _ q => hb.block k (Classical.not_not.1 q)⟩ (fun g hg q => q (hN g (.inr (.inr hg))))) hs

/-- All blocks of a pair lie below the world's end. -/
theorem pair_end {w : World} {lo G E : Nat} {vh vd : Value} {h : Ht} {d : Dt} (p : Pair w lo G E vh vd h d) : ∀ k, (k = G ∨ Mine vh k) ∨ (k = E ∨ Mine vd k) → k < w.heap.size := by
  obtain ⟨⟨⟨x1, y1, z1, q1, e1, hw1⟩, ht, hm⟩, ⟨x, y, z, e, hw⟩, p3, p4, p5, p6, p7⟩ := p
  rintro k ((rfl | hk) | (rfl | hk))
  · exact whole_lt hw1
  · exact (hostT_mine ht hk).2
  · exact whole_lt hw
  · exact (datOf_mine p3 hk).2

/-- The pair behind a service. -/
theorem pair_svc {w W w2 : World} {lo G E : Nat} {vh vd : Value} {h h' : Ht} {d : Dt} {x : Dd} {th : Int} {e : Ending} (p : Pair w lo G E vh vd h d) (hb : Below w.heap.size w W) (hs : SvcOf W lo G vh (h', x, th) e w2) : ∃ v', Pair w2 lo G E v' vd h' d ∧ (∀ k, (k = G ∨ Mine v' k) ∨ (k = E ∨ Mine vd k) → k < w.heap.size) ∧ Below lo w w2 ∧ ∀ k T cs, w.heap.size ≤ k → Whole W k T cs → Whole w2 k T cs := by
  obtain ⟨_, ⟨v', hx, hm⟩, ho⟩ := hs
  have pW := pair_below p hb
  have hend := pair_end p
  refine ⟨v', pair_only pW ho hx hm, fun k hk => hend k ?_, (hb.mono (lo_le p)).trans (only_below ho (Nat.le_trans (lo_le p) hb.size) (pair_lo pW)), fun k T cs h1 h2 => whole_keep h2 (ho.block k (whole_lt h2) (fun q => by have := hend k (.inl q); omega))⟩
  rcases hk with (hk | hk) | hk
  · exact .inl (.inl hk)
  · exact .inl (.inr (hm k hk))
  · exact .inr hk

theorem whole_drewQ {w : World} {g : Nat} {t : TypeId} {cs : Array Value} (h : Whole w g t cs) : Whole w.drew g t cs := h

theorem deed_cells {w : World} {g : Nat} {T : TypeId} {a b c d : Value} (h : Whole w g T #[a, b, c, d]) : w.cell? ⟨g, 0, none⟩ = some a ∧ w.cell? ⟨g, 1, none⟩ = some b ∧ w.cell? ⟨g, 2, none⟩ = some c ∧ w.cell? ⟨g, 3, none⟩ = some d := ⟨whole_cell h 0, whole_cell h 1, whole_cell h 2, whole_cell h 3⟩

theorem cell_old {w : World} {p : Addr} {u : Value} (h : w.cell? p = some u) (o : Obj) : (w.alloc o).cell? p = some u := by
  rw [(below_alloc (Below.refl w.heap.size w) o).cell (World.block_lt_of_cell? w _ h)]; exact h

theorem cell_drewQ {w : World} {p : Addr} {u : Value} (h : w.cell? p = some u) : w.drew.cell? p = some u := h

theorem cell_drewNQ {w : World} {p : Addr} {u : Value} (h : w.cell? p = some u) (n : Nat) : (w.drewN n).cell? p = some u := h

theorem cell_set {w : World} {g i k j : Nat} {u : Value} (h : w.cell? ⟨g, i, none⟩ = some u) (hk : g ≠ k) (v : Value) : (w.setCell ⟨k, j, none⟩ v).cell? ⟨g, i, none⟩ = some u := by
  rw [World.cell?_setCell_other _ _ _ _ (by intro e; injection e; omega)]; exact h

theorem below_new {lo : Nat} {a b : World} (h : Below lo a b) (hl : lo ≤ a.heap.size) (o : Obj) : Below lo a (b.alloc o) := h.trans ((below_alloc (Below.refl b.heap.size b) o).mono (Nat.le_trans hl h.size))

theorem below_put {lo k i : Nat} {a b : World} (h : Below lo a b) (hk : lo ≤ k) (u : Value) : Below lo a (b.setCell ⟨k, i, none⟩ u) := h.setCell hk u

theorem data_first {w : World} {lo G E : Nat} {vh x y z a b c : Value} {h : Ht} {d : Dt} (p : Pair w lo G E vh (.agg #[x, y, z, a, b, c]) h d) : w.cell? ⟨E, 0, none⟩ = some x := by
  obtain ⟨x', y', z', e, hw⟩ := p.box
  simp only [Value.agg.injEq, Array.mk.injEq, List.cons.injEq, and_true] at e
  obtain ⟨rfl, rfl, rfl, rfl, rfl, rfl⟩ := e
  exact whole_cell hw 0

theorem serve_end {w w2 w3 : World} {lo G E : Nat} {vh vd v' : Value} {h h' : Ht} {d d0 : Dt} (x : Dd) (t : Int) (p : Pair w lo G E vh vd h d0) (pp : Pair w2 lo G E v' vd h' d) (pe : ∀ k, (k = G ∨ Mine v' k) ∨ (k = E ∨ Mine vd k) → k < w.heap.size) (pb : Below lo w w2) (hb : Below w.heap.size w2 w3) :
    ServeOf w lo G E (h', d, x, t) (.returned (.tuple #[.agg #[.int .i64 x.p, .int .i64 x.a, .int .i64 x.b, .int .i64 x.r], .int .i64 t])) w3 := ⟨rfl, ⟨v', vd, pair_up pp pe hb hb.size⟩, pb.trans (hb.mono (lo_le p))⟩

theorem ints_left {W : World} {g l : Nat} {n : Int} (h : Whole W g 3 #[.int .i64 n]) (hl : l ≤ 1) : Ints W (.slice (some ⟨g, 0, none⟩) l 1) ([n].take l) := by
  rcases (by omega : l = 0 ∨ l = 1) with rfl | rfl
  · exact ⟨Nat.zero_le _, _, _, rfl, fun h => absurd h (Nat.lt_irrefl 0)⟩
  · refine ⟨by simp [maxLen], _, _, rfl, fun _ => ⟨_, rfl, fun k hk => ?_⟩⟩
    have hk0 : k = 0 := by simpa using hk
    subst hk0
    exact whole_cell h 0

theorem whole_new4 (w : World) (p0 p1 p2 p3 : Addr) (u0 u1 u2 u3 : Value) (t : TypeId) (cs : Array Value) : Whole (((((w.setCell p0 u0).setCell p1 u1).setCell p2 u2).setCell p3 u3).alloc (.cells cs t)) w.heap.size t cs := by
  have h := whole_new ((((w.setCell p0 u0).setCell p1 u1).setCell p2 u2).setCell p3 u3) t cs
  simpa [World.setCell] using h

theorem pair_box {w : World} {lo G E : Nat} {vh x y z a b c : Value} {h : Ht} {d : Dt} (p : Pair w lo G E vh (.agg #[x, y, z, a, b, c]) h d) : Whole w E 30 #[x, y, z, a, b, c] := by
  obtain ⟨x', y', z', e, hw⟩ := p.box
  simp only [Value.agg.injEq, Array.mk.injEq, List.cons.injEq, and_true] at e
  obtain ⟨rfl, rfl, rfl, rfl, rfl, rfl⟩ := e
  exact hw

theorem pair_row {w : World} {lo G E n c k : Nat} {A : Option Addr} {vh y z a b e : Value} {h : Ht} {d : Dt} (p : Pair w lo G E vh (.agg #[.slice A n c, y, z, a, b, e]) h d) (hk : k ≤ d.s.length) : Row w lo (.slice A k c) (d.s.take k) ∧ Row w lo (.slice A n c) d.s := by
  obtain ⟨x', y', z', e', h1, _⟩ := p.data
  simp only [Value.agg.injEq, Array.mk.injEq, List.cons.injEq, and_true] at e'
  obtain ⟨rfl, rfl, rfl, rfl, rfl, rfl⟩ := e'
  exact ⟨row_upto h1 hk, h1⟩

theorem pair_put {w : World} {lo G E r i : Nat} {vh vd : Value} {h : Ht} {d : Dt} (p : Pair w lo G E vh vd h d) (hr : ∀ k, (k = G ∨ Mine vh k) ∨ (k = E ∨ Mine vd k) → k ≠ r) (u : Value) : Pair (w.setCell ⟨r, i, none⟩ u) lo G E vh vd h d := by
  obtain ⟨⟨⟨x1, y1, z1, q1, e1, hw1⟩, ht, hm⟩, ⟨x, y, z, e, hw⟩, p3, p4, p5, p6, p7⟩ := p
  refine ⟨⟨⟨x1, y1, z1, q1, e1, whole_store hw1 (hr G (.inl (.inl rfl)))⟩, hostT_store ht (fun k hk => hr k (.inl (.inr hk))), hm⟩, ⟨x, y, z, e, whole_store hw (hr E (.inr (.inl rfl)))⟩, ?_, p4, p5, p6, p7⟩
  exact datOf_top (datOf_only (S := fun k => k = r) p3 (only_set (S := fun k => k = r) (only_refl _ w) (.inl rfl) u) (fun g hg e => hr g (.inr (.inr hg)) e)) (by simp [World.setCell])

theorem pair_first {w : World} {E : Nat} {x y z a b c : Value} (h : Whole w E 30 #[x, y, z, a, b, c]) : w.cell? ⟨E, 0, none⟩ = some x := whole_cell h 0

/-- The pair's blocks behind a turned stack are still not this one. -/
theorem pair_not {w : World} {lo G E r : Nat} {v' x x' y z : Value} {h : Ht} {d : Dt} {a b : Int} {s : ByteArray} (p : Pair w lo G E v' (.agg #[x, y, z, .int .i64 a, .int .i64 b, .string s]) h d) (hat : x'.ownBlock = x.ownBlock ∨ x'.ownBlock = some w.heap.size)
    (he : ∀ k, (k = G ∨ Mine v' k) ∨ (k = E ∨ Mine (.agg #[x, y, z, .int .i64 a, .int .i64 b, .string s]) k) → k ≠ r) (hr : w.heap.size ≠ r) : ∀ k, (k = G ∨ Mine v' k) ∨ (k = E ∨ Mine (.agg #[x', y, z, .int .i64 a, .int .i64 b, .string s]) k) → k ≠ r := by
  rintro k (hk | hk | hk)
  · exact he k (.inl hk)
  · exact he k (.inr (.inl hk))
  · rcases mine_dat (x := x) hk with e | e
    · rcases hat with q | q
      · exact he k (.inr (.inr (mine_first k (by rw [← q]; exact e))))
      · rw [q] at e; injection e with e; omega
    · exact he k (.inr (.inr e))

theorem below_own {a w w' : World} {lo g n c : Nat} (hg : w.grownBy w' (Value.slice (some ⟨g, 0, none⟩) n c).ownBlock) (hl : lo ≤ g) (hs : lo ≤ w.heap.size) (hb : Below lo a w) : Below lo a w' :=
  hb.grown hg hs (fun k hk => by simp [Value.ownBlock] at hk; omega)

theorem row_some {w : World} {lo n k : Nat} {A : Option Addr} {zs : List Int} (h : Row w lo (.slice A n k) zs) (hA : A ≠ none) : ∃ g1, A = some ⟨g1, 0, none⟩ := by
  rcases h.2 with ⟨hv, h0⟩ | ⟨g, cap, cur, hv, _⟩
  · simp only [Value.slice.injEq] at hv; exact absurd hv.1 hA
  · simp only [Value.slice.injEq] at hv; exact ⟨g, hv.1⟩

theorem below_ownN {a w w' : World} {lo n c : Nat} (hg : w.grownBy w' (Value.slice none n c).ownBlock) (hs : lo ≤ w.heap.size) (hb : Below lo a w) : Below lo a w' :=
  hb.grown hg hs (fun k hk => by simp [Value.ownBlock] at hk)

theorem size_two (w : World) (a b : Obj) : ((w.alloc a).alloc b).heap.size = w.heap.size + 2 := by
  show ((w.heap.push _).push _).size = _
  rw [Array.size_push, Array.size_push]

theorem whole_second (w : World) (a : Obj) (t : TypeId) (cs : Array Value) : Whole ((w.alloc a).alloc (.cells cs t)) (w.heap.size + 1) t cs := by
  have h := whole_new (w.alloc a) t cs
  have z : (w.alloc a).heap.size = w.heap.size + 1 := Array.size_push ..
  rw [z] at h
  exact h

theorem tkAt_row {w W : World} {lo m g1 k1 t : Nat} {zs : List Int} (r : Row w lo (.slice (some ⟨g1, 0, none⟩) zs.length k1) zs) (hm : zs.length = m + t) (hb : Below w.heap.size w W) : TkAt W (.slice (some ⟨g1, m, none⟩) t (k1 - m)) (zs.drop m) := by
  have hl : (zs.drop m).length = t := by rw [List.length_drop]; omega
  by_cases h0 : t = 0
  · exact .inl (List.eq_nil_of_length_eq_zero (by omega))
  · refine .inr ⟨g1, m, k1 - m, by rw [hl], Nat.lt_of_lt_of_le (row_lt r g1 rfl).2 hb.size, fun k hk => ?_⟩
    rw [List.getElem_drop]
    rw [hb.cell (World.block_lt_of_cell? w _ (row_cell r (m + k) (by omega)))]; exact row_cell r (m + k) (by omega)

set_option maxRecDepth 100000 in
set_option maxHeartbeats 1000000 in
theorem serve_throw (w : World) (lo G E : Nat) (vh vd : Value) (h h' : Ht) (d : Dt) (x : Dd) (th : Int) (t l m : Nat) (fv : FuncId) (p : Pair w lo G E vh vd h d) (hf : HtFine h) (df : DtFine d) (ht : t ≤ 2) (hl : l ≤ 1) (hm : d.s.length = m + t) (hu : m + l ≤ 32)
    (he : EnteredF fv) (C : Hid (∀ W tv, Below w.heap.size w W → TkAt W tv (d.s.drop m) → Calls Try.prog fv #[.pointer (some ⟨G, 0, none⟩), tv] W (SvcOf W lo G vh (h', x, th)))) (hth : th ≠ 0) (hk : ∀ A n k y z a b c, vd = .agg #[.slice A n k, y, z, a, b, c] → A ≠ none ∧ k ≠ m) :
    Calls Try.prog 105 #[.agg #[.int .i64 t, .int .i64 l, .func (.func fv) #[] #[]], .pointer (some ⟨G, 0, none⟩), .pointer (some ⟨E, 0, none⟩)] w (ServeOf w lo G E (h', d, noDd, th)) := by
  have PP := Lib.hid p
  obtain ⟨A1, k1, A2, k2, A3, k3, rfl, hw, hrow⟩ := pair_form p
  obtain ⟨d0, d1, d2, d3, d4, d5⟩ := six_cells hw
  have ze := whole_lt hw
  have sl := fine_sl df
  have s1 : IntKind.i64.wrap ((d.s.length : Int) - t) = (m : Int) := by rw [show (d.s.length : Int) - t = m by omega]; exact IntWalk.i64_in _ (by omega)
  have s2 : ¬ ((m : Int) < 0) := by omega
  have s3 : IntKind.i64.wrap ((m : Int) + l) = (m : Int) + l := IntWalk.i64_in _ (by omega)
  have s4 : ¬ ((32 : Int) < (m : Int) + l) := by omega
  have s6 : (m : Int) ≤ d.s.length := by omega
  have hk1 := (row_cap hrow).1
  have hk1m := (row_cap hrow).2
  have s7 : m ≤ k1 := by omega
  have s0 : d.s.length - m = t := by omega
  unfold maxLen at hk1m
  unfold EnteredF at he
  have HROW := Lib.hid hrow
  have HM := Lib.hid hm
  have t1 : (th != 0) = true := by rw [bne_iff_ne]; exact hth
  obtain ⟨hA, kd⟩ := hk _ _ _ _ _ _ _ _ rfl
  obtain ⟨g1, rfl⟩ := row_some hrow hA
  obtain ⟨hg1, hg2⟩ := row_lt hrow g1 rfl
  have TK := Lib.hid (fun W (hb : Below w.heap.size w W) => tkAt_row hrow hm hb)
  clear hA
  obtain ⟨W0, hW0⟩ : ∃ W0, W0 = (w.alloc (.cells #[.int .i64 t, .int .i64 l, .func (.func fv) #[] #[]] 137)).alloc (.cells #[.int .i64 0, .int .i64 0, .int .i64 0, .int .i64 0] 37) := ⟨_, rfl⟩
  have WS0 : W0.heap.size = w.heap.size + 2 := by rw [hW0]; exact size_two w _ _
  have BX0 : Whole W0 w.heap.size 137 #[.int .i64 t, .int .i64 l, .func (.func fv) #[] #[]] := by rw [hW0]; exact whole_alloc (whole_new _ _ _) _
  have RX0 : Whole W0 (w.heap.size + 1) 37 #[.int .i64 0, .int .i64 0, .int .i64 0, .int .i64 0] := by rw [hW0]; exact whole_second w _ _ _
  have WB0 : Below w.heap.size w W0 := by rw [hW0]; exact below_alloc (below_alloc (Below.refl _ _) _) _
  have EX0 := Lib.hid (whole_below hw WB0)
  have BXH := Lib.hid BX0
  have RXH := Lib.hid RX0
  have WBH := Lib.hid WB0
  have WSH := Lib.hid WS0
  have HW0 := Lib.hid hW0
  clear hk hw p hf df hrow hm hW0 BX0 RX0 WB0 WS0
  go_enter Try.func105, Try.ntmps105
  go_wp2
  go_quiet (fail)
  go_wp2_with fail
  rw [← HW0.out]
  obtain ⟨W1, hW1⟩ : ∃ W1, W1 = W0.drewN nq := ⟨_, rfl⟩
  rw [← hW1]
  have BX : Whole W1 w.heap.size 137 #[.int .i64 t, .int .i64 l, .func (.func fv) #[] #[]] := by rw [hW1]; exact whole_drewN BXH.out _
  have RX : Hid (Whole W1 (w.heap.size + 1) 37 #[.int .i64 0, .int .i64 0, .int .i64 0, .int .i64 0]) := Lib.hid (by rw [hW1]; exact whole_drewN RXH.out _)
  have WB : Hid (Below w.heap.size w W1) := Lib.hid (by rw [hW1]; exact below_drewN WBH.out _)
  have WS : w.heap.size + 1 < W1.heap.size := by rw [hW1]; show _ < W0.heap.size; rw [WSH.out]; omega
  have EX : Whole W1 E 30 #[.slice (some ⟨g1, 0, none⟩) d.s.length k1, .slice A2 d.b.length k2, .slice A3 d.c.length k3, .int .i64 d.h, .int .i64 d.n, .string d.o] := by rw [hW1]; exact whole_drewN EX0.out _
  have BH := Lib.hid BX
  have zE := whole_lt EX
  have zB := whole_lt BX
  have WL := Lib.hid (Nat.le_of_lt (Nat.lt_of_succ_lt WS))
  have x2 := whole_cell BX 2
  simp at x2
  have e0 := (six_cells EX).1
  clear HW0 d0 d1 d2 d3 d4 d5 EX0 BXH RXH WBH WSH hW1 BX EX
  go_region_held3 (fun w' => w'.cell? ⟨w.heap.size, 2, none⟩ = some (.func (.func fv) #[] #[]) ∧ w'.cell? ⟨E, 0, none⟩ = some (.slice (some ⟨g1, 0, none⟩) d.s.length k1))
    (refine ⟨?_, ?_⟩ <;> repeat (first | with_reducible assumption | with_reducible refine cell_old ?_ _ | with_reducible refine cell_drewQ ?_ | with_reducible refine cell_drewNQ ?_ _ | with_reducible refine cell_set ?_ (by omega) _))
    (first
    | (go_at_fn fv
       refine (C.out _ _ ?hB ?hT).mono ?_
       (case hB => repeat (first | with_reducible exact WB.out | with_reducible refine below_alloc ?_ _ | with_reducible refine below_drewN ?_ _ | with_reducible refine Below.drew ?_))
       (case hT => exact TK.out _ (by repeat (first | with_reducible exact WB.out | with_reducible refine below_alloc ?_ _ | with_reducible refine below_drewN ?_ _ | with_reducible refine Below.drew ?_)))
       rintro e w2 hsv
       obtain ⟨v', pp, pe, pb, pk⟩ := pair_svc PP.out (by repeat (first | with_reducible exact WB.out | with_reducible refine below_alloc ?_ _ | with_reducible refine below_drewN ?_ _ | with_reducible refine Below.drew ?_)) hsv
       obtain ⟨he2, _⟩ := hsv
       dsimp only at he2
       subst he2
       have RX2 := pk (w.heap.size + 1) 37 #[.int .i64 0, .int .i64 0, .int .i64 0, .int .i64 0] (by omega) (by repeat (first | with_reducible exact RX.out | with_reducible exact BH.out | with_reducible exact whole_new _ _ _ | with_reducible refine whole_alloc ?_ _ | with_reducible refine whole_drewN ?_ _ | with_reducible refine whole_drewQ ?_))
       have BX2 := pk w.heap.size 137 #[.int .i64 t, .int .i64 l, .func (.func fv) #[] #[]] (by omega) (by repeat (first | with_reducible exact RX.out | with_reducible exact BH.out | with_reducible exact whole_new _ _ _ | with_reducible refine whole_alloc ?_ _ | with_reducible refine whole_drewN ?_ _ | with_reducible refine whole_drewQ ?_))
       have x5 : w2.cell? ⟨w.heap.size, 2, none⟩ = some (.func (.func fv) #[] #[]) := whole_cell BX2 2
       have e5 := data_first pp
       obtain ⟨r0, r1, r2, r3⟩ := deed_cells RX2
       have f1 := whole_free RX2
       have l1 := whole_lt RX2
       (first
         | (have XD := pk W1.heap.size 37 #[.int .i64 0, .int .i64 0, .int .i64 0, .int .i64 0] WL.out (whole_drewQ (whole_new W1 _ _))
            obtain ⟨y0, y1, y2, y3⟩ := deed_cells XD
            have f2 := whole_free XD
            have l2 := whole_lt XD
            skip)
         | skip)))
  all_goals
    go_wp2
    refine bodyPost_ret (v := .tuple #[.agg #[.int .i64 0, .int .i64 0, .int .i64 0, .int .i64 0], .int .i64 th]) (by simp [results, Try.results105, go_sem, *]) rfl ?_
    exact serve_end noDd th PP.out pp pe pb (by repeat (first | with_reducible exact Below.refl _ _ | with_reducible refine below_put ?_ (by omega) _ | with_reducible refine below_new ?_ (by omega) _ | with_reducible refine below_drewN ?_ _ | with_reducible refine Below.drew ?_))

set_option maxRecDepth 100000 in
set_option maxHeartbeats 1000000 in
theorem serve_fine (w : World) (lo G E : Nat) (vh vd : Value) (h h' : Ht) (d : Dt) (x : Dd) (t l m : Nat) (fv : FuncId) (p : Pair w lo G E vh vd h d) (hf : HtFine h) (df : DtFine d) (ht : t ≤ 2) (hl : l ≤ 1) (hm : d.s.length = m + t) (hu : m + l ≤ 32)
    (he : EnteredF fv) (C : Hid (∀ W tv, Below w.heap.size w W → TkAt W tv (d.s.drop m) → Calls Try.prog fv #[.pointer (some ⟨G, 0, none⟩), tv] W (SvcOf W lo G vh (h', x, 0)))) (hk : ∀ A n k y z a b c, vd = .agg #[.slice A n k, y, z, a, b, c] → A ≠ none ∧ k ≠ m) :
    Calls Try.prog 105 #[.agg #[.int .i64 t, .int .i64 l, .func (.func fv) #[] #[]], .pointer (some ⟨G, 0, none⟩), .pointer (some ⟨E, 0, none⟩)] w (ServeOf w lo G E (h', { d with s := d.s.take m ++ [x.r].take l }, x, 0)) := by
  have PP := Lib.hid p
  obtain ⟨A1, k1, A2, k2, A3, k3, rfl, hw, hrow⟩ := pair_form p
  obtain ⟨d0, d1, d2, d3, d4, d5⟩ := six_cells hw
  have ze := whole_lt hw
  have sl := fine_sl df
  have s1 : IntKind.i64.wrap ((d.s.length : Int) - t) = (m : Int) := by rw [show (d.s.length : Int) - t = m by omega]; exact IntWalk.i64_in _ (by omega)
  have s2 : ¬ ((m : Int) < 0) := by omega
  have s3 : IntKind.i64.wrap ((m : Int) + l) = (m : Int) + l := IntWalk.i64_in _ (by omega)
  have s4 : ¬ ((32 : Int) < (m : Int) + l) := by omega
  have s6 : (m : Int) ≤ d.s.length := by omega
  have hk1 := (row_cap hrow).1
  have hk1m := (row_cap hrow).2
  have s7 : m ≤ k1 := by omega
  have s0 : d.s.length - m = t := by omega
  unfold maxLen at hk1m
  unfold EnteredF at he
  have HROW := Lib.hid hrow
  have HM := Lib.hid hm
  obtain ⟨hA, kd⟩ := hk _ _ _ _ _ _ _ _ rfl
  obtain ⟨g1, rfl⟩ := row_some hrow hA
  obtain ⟨hg1, hg2⟩ := row_lt hrow g1 rfl
  have TK := Lib.hid (fun W (hb : Below w.heap.size w W) => tkAt_row hrow hm hb)
  clear hA
  obtain ⟨W0, hW0⟩ : ∃ W0, W0 = (w.alloc (.cells #[.int .i64 t, .int .i64 l, .func (.func fv) #[] #[]] 137)).alloc (.cells #[.int .i64 0, .int .i64 0, .int .i64 0, .int .i64 0] 37) := ⟨_, rfl⟩
  have WS0 : W0.heap.size = w.heap.size + 2 := by rw [hW0]; exact size_two w _ _
  have BX0 : Whole W0 w.heap.size 137 #[.int .i64 t, .int .i64 l, .func (.func fv) #[] #[]] := by rw [hW0]; exact whole_alloc (whole_new _ _ _) _
  have RX0 : Whole W0 (w.heap.size + 1) 37 #[.int .i64 0, .int .i64 0, .int .i64 0, .int .i64 0] := by rw [hW0]; exact whole_second w _ _ _
  have WB0 : Below w.heap.size w W0 := by rw [hW0]; exact below_alloc (below_alloc (Below.refl _ _) _) _
  have EX0 := Lib.hid (whole_below hw WB0)
  have BXH := Lib.hid BX0
  have RXH := Lib.hid RX0
  have WBH := Lib.hid WB0
  have WSH := Lib.hid WS0
  have HW0 := Lib.hid hW0
  clear hk hw p hf df hrow hm hW0 BX0 RX0 WB0 WS0
  go_enter Try.func105, Try.ntmps105
  go_wp2
  go_quiet (fail)
  go_wp2_with fail
  rw [← HW0.out]
  obtain ⟨W1, hW1⟩ : ∃ W1, W1 = W0.drewN nq := ⟨_, rfl⟩
  rw [← hW1]
  have BX : Whole W1 w.heap.size 137 #[.int .i64 t, .int .i64 l, .func (.func fv) #[] #[]] := by rw [hW1]; exact whole_drewN BXH.out _
  have RX : Hid (Whole W1 (w.heap.size + 1) 37 #[.int .i64 0, .int .i64 0, .int .i64 0, .int .i64 0]) := Lib.hid (by rw [hW1]; exact whole_drewN RXH.out _)
  have WB : Hid (Below w.heap.size w W1) := Lib.hid (by rw [hW1]; exact below_drewN WBH.out _)
  have WS : w.heap.size + 1 < W1.heap.size := by rw [hW1]; show _ < W0.heap.size; rw [WSH.out]; omega
  have EX : Whole W1 E 30 #[.slice (some ⟨g1, 0, none⟩) d.s.length k1, .slice A2 d.b.length k2, .slice A3 d.c.length k3, .int .i64 d.h, .int .i64 d.n, .string d.o] := by rw [hW1]; exact whole_drewN EX0.out _
  have BH := Lib.hid BX
  have zE := whole_lt EX
  have zB := whole_lt BX
  have WL := Lib.hid (Nat.le_of_lt (Nat.lt_of_succ_lt WS))
  have x2 := whole_cell BX 2
  simp at x2
  have e0 := (six_cells EX).1
  clear HW0 d0 d1 d2 d3 d4 d5 EX0 BXH RXH WBH WSH hW1 BX EX
  go_region_held3 (fun w' => w'.cell? ⟨w.heap.size, 2, none⟩ = some (.func (.func fv) #[] #[]) ∧ w'.cell? ⟨E, 0, none⟩ = some (.slice (some ⟨g1, 0, none⟩) d.s.length k1))
    (refine ⟨?_, ?_⟩ <;> repeat (first | with_reducible assumption | with_reducible refine cell_old ?_ _ | with_reducible refine cell_drewQ ?_ | with_reducible refine cell_drewNQ ?_ _ | with_reducible refine cell_set ?_ (by omega) _))
    (first
    | (go_at_fn fv
       refine (C.out _ _ ?hB ?hT).mono ?_
       (case hB => repeat (first | with_reducible exact WB.out | with_reducible refine below_alloc ?_ _ | with_reducible refine below_drewN ?_ _ | with_reducible refine Below.drew ?_))
       (case hT => exact TK.out _ (by repeat (first | with_reducible exact WB.out | with_reducible refine below_alloc ?_ _ | with_reducible refine below_drewN ?_ _ | with_reducible refine Below.drew ?_)))
       rintro e w2 hsv
       obtain ⟨v', pp, pe, pb, pk⟩ := pair_svc PP.out (by repeat (first | with_reducible exact WB.out | with_reducible refine below_alloc ?_ _ | with_reducible refine below_drewN ?_ _ | with_reducible refine Below.drew ?_)) hsv
       obtain ⟨he2, _⟩ := hsv
       dsimp only at he2
       subst he2
       have RX2 := pk (w.heap.size + 1) 37 #[.int .i64 0, .int .i64 0, .int .i64 0, .int .i64 0] (by omega) (by repeat (first | with_reducible exact RX.out | with_reducible exact BH.out | with_reducible exact whole_new _ _ _ | with_reducible refine whole_alloc ?_ _ | with_reducible refine whole_drewN ?_ _ | with_reducible refine whole_drewQ ?_))
       have BX2 := pk w.heap.size 137 #[.int .i64 t, .int .i64 l, .func (.func fv) #[] #[]] (by omega) (by repeat (first | with_reducible exact RX.out | with_reducible exact BH.out | with_reducible exact whole_new _ _ _ | with_reducible refine whole_alloc ?_ _ | with_reducible refine whole_drewN ?_ _ | with_reducible refine whole_drewQ ?_))
       have x5 : w2.cell? ⟨w.heap.size, 2, none⟩ = some (.func (.func fv) #[] #[]) := whole_cell BX2 2
       have e5 := data_first pp
       obtain ⟨r0, r1, r2, r3⟩ := deed_cells RX2
       have f1 := whole_free RX2
       have l1 := whole_lt RX2
       (first
         | (have XD := pk W1.heap.size 37 #[.int .i64 0, .int .i64 0, .int .i64 0, .int .i64 0] WL.out (whole_drewQ (whole_new W1 _ _))
            obtain ⟨y0, y1, y2, y3⟩ := deed_cells XD
            have f2 := whole_free XD
            have l2 := whole_lt XD
            skip)
         | skip)))
  · go_wp2_with fail
    generalize hW3 : World.alloc _ _ = W3
    have B3 : Below w.heap.size w2 W3 := by rw [← hW3]; repeat (first | with_reducible exact Below.refl _ _ | with_reducible refine below_put ?_ (by omega) _ | with_reducible refine below_new ?_ (by omega) _ | with_reducible refine below_drewN ?_ _ | with_reducible refine Below.drew ?_)
    have PP3 := pair_up pp pe B3 B3.size
    have BX3 : Whole W3 w.heap.size 137 #[.int .i64 t, .int .i64 l, .func (.func fv) #[] #[]] := by rw [← hW3]; repeat (first | with_reducible exact BX2 | with_reducible refine whole_alloc ?_ _ | with_reducible refine whole_store ?_ (by omega))
    have RX3 : Whole W3 (w.heap.size + 1) 37 #[.int .i64 0, .int .i64 0, .int .i64 0, .int .i64 0] := by rw [← hW3]; repeat (first | with_reducible exact RX2 | with_reducible refine whole_alloc ?_ _ | with_reducible refine whole_store ?_ (by omega))
    have DX3 : Whole W3 w2.heap.size 37 #[.int .i64 x.p, .int .i64 x.a, .int .i64 x.b, .int .i64 x.r] := by rw [← hW3]; exact whole_alloc (whole_new w2 _ _) _
    have LX3 : Ints W3 (.slice (some ⟨w2.heap.size + 1, 0, none⟩) l 1) ([x.r].take l) := ints_left (by rw [← hW3]; exact whole_second w2 _ _ _) hl
    clear hW3
    obtain ⟨ST3, n3⟩ := pair_row PP3 (k := m) (by omega)
    have LT3 : Hid ((d.s.take m).length = m) := Lib.hid (by rw [List.length_take]; omega)
    have LL3 : Hid (([x.r].take l).length ≤ 1) := Lib.hid (by rw [List.length_take]; exact Nat.min_le_right _ _)
    have LN4 : Hid ((d.s.take m ++ [x.r].take l).length = m + l) := Lib.hid (by rw [List.length_append, LT3.out, List.length_take, List.length_singleton, Nat.min_eq_left hl])
    have q0 := data_first PP3
    have q1 : W3.cell? ⟨w.heap.size, 1, none⟩ = some (.int .i64 l) := whole_cell BX3 1
    have q2 : (l : Int) ≤ 1 := by omega
    have EB3 := pair_box PP3
    have zE3 := whole_lt EB3
    have zR3 := whole_lt RX3
    have zD3 := whole_lt DX3
    have SV := Lib.hid (And.intro PP3 (And.intro EB3 (And.intro RX3 (And.intro DX3 (And.intro LX3 (And.intro ST3 B3))))))
    have SE := Lib.hid pe
    have lw := lo_le PP.out
    have lE := PP.out.loE
    clear pp pe PP3 EB3 RX3 DX3 BX3 LX3 ST3 B3 RX2 BX2 x5 e5 r0 r1 r2 r3 f1
    go_region_law (first
      | (refine step_append_ints6 rfl (.tmp 55) (.tmp 59) rfl rfl lo (.slice (some ⟨g1, 0, none⟩) m k1) (d.s.take m) rfl (by exact SV.out.2.2.2.2.2.1) _ ([x.r].take l) rfl (by exact SV.out.2.2.2.2.1) (by have := LT3.out; have := LL3.out; omega) (by have := lo_le SV.out.1; exact this) ?_
         intro v4 w4 hr4 hg4 hat4
         obtain ⟨_, C4, j4, rfl, _⟩ := row_ints hr4
         rw [LN4.out] at hr4 hat4 ⊢
         obtain ⟨PP3, EB3, RX3, DX3, LX3, ST3, B3⟩ := SV.out
         have PP4 := Lib.hid (pair_stack (pair_below PP3 (by repeat (first | with_reducible exact Below.refl _ _ | with_reducible refine below_drewN ?_ _ | with_reducible refine Below.drew ?_))) hg4 hr4 hat4)
         have n1 := PP3.own g1 (mine_first g1 rfl)
         have EB4 := whole_keep EB3 (hg4.block E (by exact zE3) (fun e => by simp [Value.ownBlock] at e; omega))
         have RX4 := whole_keep RX3 (hg4.block (w.heap.size + 1) (by exact zR3) (fun e => by simp [Value.ownBlock] at e; omega))
         have DX4 := whole_keep DX3 (hg4.block (w2.heap.size) (by exact zD3) (fun e => by simp [Value.ownBlock] at e; omega))
         have e4 := pair_first EB4
         obtain ⟨y0, y1, y2, y3⟩ := deed_cells DX4
         obtain ⟨r0, r1, r2, r3⟩ := deed_cells RX4
         have fE := whole_free EB4
         have fR := whole_free RX4
         have lE4 := whole_lt EB4
         have lR4 := whole_lt RX4
         have lD4 := whole_lt DX4
         have NE4 := Lib.hid (pair_not (r := w.heap.size + 1) (v' := v') PP3 (x' := .slice C4 (m + l) j4) hat4 (fun k hk => by have := SE.out k hk; omega) (by omega))
         have BW3 := pb.trans (B3.mono lw)
         have lw3 := lo_le PP3
         have BL4 := Lib.hid (below_own hg4 hg1 (show lo ≤ W3.drew.heap.size from lw3) BW3.drew)
         clear hg4 hr4 hat4 BW3 PP3 EB3 RX3 DX3 LX3 ST3 B3 EB4 RX4 DX4))
    all_goals
      go_wp2
      refine bodyPost_ret (v := .tuple #[.agg #[.int .i64 x.p, .int .i64 x.a, .int .i64 x.b, .int .i64 x.r], .int .i64 0]) (by simp [results, Try.results105, go_sem, *]) rfl ?_
      exact ⟨rfl, ⟨v', _, by repeat (first | with_reducible exact PP4.out | with_reducible refine pair_put ?_ NE4.out _)⟩, by repeat (first | with_reducible exact BL4.out | with_reducible refine below_put ?_ (by omega) _ | with_reducible refine below_drewN ?_ _ | with_reducible refine Below.drew ?_)⟩
  · go_wp2_with fail
    generalize hW3 : World.alloc _ _ = W3
    have B3 : Below w.heap.size w2 W3 := by rw [← hW3]; repeat (first | with_reducible exact Below.refl _ _ | with_reducible refine below_put ?_ (by omega) _ | with_reducible refine below_new ?_ (by omega) _ | with_reducible refine below_drewN ?_ _ | with_reducible refine Below.drew ?_)
    have PP3 := pair_up pp pe B3 B3.size
    have BX3 : Whole W3 w.heap.size 137 #[.int .i64 t, .int .i64 l, .func (.func fv) #[] #[]] := by rw [← hW3]; repeat (first | with_reducible exact BX2 | with_reducible refine whole_alloc ?_ _ | with_reducible refine whole_store ?_ (by omega))
    have RX3 : Whole W3 (w.heap.size + 1) 37 #[.int .i64 0, .int .i64 0, .int .i64 0, .int .i64 0] := by rw [← hW3]; repeat (first | with_reducible exact RX2 | with_reducible refine whole_alloc ?_ _ | with_reducible refine whole_store ?_ (by omega))
    have DX3 : Whole W3 W1.heap.size 37 #[.int .i64 x.p, .int .i64 x.a, .int .i64 x.b, .int .i64 x.r] := by rw [← hW3]; exact whole_alloc (whole_set (whole_set (whole_set (whole_set XD 0 _) 1 _) 2 _) 3 _) _
    have LX3 : Ints W3 (.slice (some ⟨w2.heap.size, 0, none⟩) l 1) ([x.r].take l) := ints_left (by rw [← hW3]; exact whole_new4 w2 _ _ _ _ _ _ _ _ _ _) hl
    clear hW3
    obtain ⟨ST3, n3⟩ := pair_row PP3 (k := m) (by omega)
    have LT3 : Hid ((d.s.take m).length = m) := Lib.hid (by rw [List.length_take]; omega)
    have LL3 : Hid (([x.r].take l).length ≤ 1) := Lib.hid (by rw [List.length_take]; exact Nat.min_le_right _ _)
    have LN4 : Hid ((d.s.take m ++ [x.r].take l).length = m + l) := Lib.hid (by rw [List.length_append, LT3.out, List.length_take, List.length_singleton, Nat.min_eq_left hl])
    have q0 := data_first PP3
    have q1 : W3.cell? ⟨w.heap.size, 1, none⟩ = some (.int .i64 l) := whole_cell BX3 1
    have q2 : (l : Int) ≤ 1 := by omega
    have EB3 := pair_box PP3
    have zE3 := whole_lt EB3
    have zR3 := whole_lt RX3
    have zD3 := whole_lt DX3
    have SV := Lib.hid (And.intro PP3 (And.intro EB3 (And.intro RX3 (And.intro DX3 (And.intro LX3 (And.intro ST3 B3))))))
    have SE := Lib.hid pe
    have lw := lo_le PP.out
    have lE := PP.out.loE
    clear pp pe PP3 EB3 RX3 DX3 BX3 LX3 ST3 B3 RX2 BX2 x5 e5 r0 r1 r2 r3 f1
    go_region_law (first
      | (refine step_append_ints6 rfl (.tmp 55) (.tmp 59) rfl rfl lo (.slice (some ⟨g1, 0, none⟩) m k1) (d.s.take m) rfl (by exact SV.out.2.2.2.2.2.1) _ ([x.r].take l) rfl (by exact SV.out.2.2.2.2.1) (by have := LT3.out; have := LL3.out; omega) (by have := lo_le SV.out.1; exact this) ?_
         intro v4 w4 hr4 hg4 hat4
         obtain ⟨_, C4, j4, rfl, _⟩ := row_ints hr4
         rw [LN4.out] at hr4 hat4 ⊢
         obtain ⟨PP3, EB3, RX3, DX3, LX3, ST3, B3⟩ := SV.out
         have PP4 := Lib.hid (pair_stack (pair_below PP3 (by repeat (first | with_reducible exact Below.refl _ _ | with_reducible refine below_drewN ?_ _ | with_reducible refine Below.drew ?_))) hg4 hr4 hat4)
         have n1 := PP3.own g1 (mine_first g1 rfl)
         have EB4 := whole_keep EB3 (hg4.block E (by exact zE3) (fun e => by simp [Value.ownBlock] at e; omega))
         have RX4 := whole_keep RX3 (hg4.block (w.heap.size + 1) (by exact zR3) (fun e => by simp [Value.ownBlock] at e; omega))
         have DX4 := whole_keep DX3 (hg4.block (W1.heap.size) (by exact zD3) (fun e => by simp [Value.ownBlock] at e; omega))
         have e4 := pair_first EB4
         obtain ⟨y0, y1, y2, y3⟩ := deed_cells DX4
         obtain ⟨r0, r1, r2, r3⟩ := deed_cells RX4
         have fE := whole_free EB4
         have fR := whole_free RX4
         have lE4 := whole_lt EB4
         have lR4 := whole_lt RX4
         have lD4 := whole_lt DX4
         have NE4 := Lib.hid (pair_not (r := w.heap.size + 1) (v' := v') PP3 (x' := .slice C4 (m + l) j4) hat4 (fun k hk => by have := SE.out k hk; omega) (by omega))
         have BW3 := pb.trans (B3.mono lw)
         have lw3 := lo_le PP3
         have BL4 := Lib.hid (below_own hg4 hg1 (show lo ≤ W3.drew.heap.size from lw3) BW3.drew)
         clear hg4 hr4 hat4 BW3 PP3 EB3 RX3 DX3 LX3 ST3 B3 EB4 RX4 DX4))
    all_goals
      go_wp2
      refine bodyPost_ret (v := .tuple #[.agg #[.int .i64 x.p, .int .i64 x.a, .int .i64 x.b, .int .i64 x.r], .int .i64 0]) (by simp [results, Try.results105, go_sem, *]) rfl ?_
      exact ⟨rfl, ⟨v', _, by repeat (first | with_reducible exact PP4.out | with_reducible refine pair_put ?_ NE4.out _)⟩, by repeat (first | with_reducible exact BL4.out | with_reducible refine below_put ?_ (by omega) _ | with_reducible refine below_drewN ?_ _ | with_reducible refine Below.drew ?_)⟩

set_option maxRecDepth 100000 in
set_option maxHeartbeats 1000000 in
theorem serve_full (w : World) (lo G E : Nat) (vh vd : Value) (h h' : Ht) (d : Dt) (x : Dd) (t l m : Nat) (fv : FuncId) (p : Pair w lo G E vh vd h d) (hf : HtFine h) (df : DtFine d) (ht : t ≤ 2) (hl : l ≤ 1) (hm : d.s.length = m + t) (hu : m + l ≤ 32)
    (he : EnteredF fv) (C : Hid (∀ W tv, Below w.heap.size w W → TkAt W tv (d.s.drop m) → Calls Try.prog fv #[.pointer (some ⟨G, 0, none⟩), tv] W (SvcOf W lo G vh (h', x, 0)))) (t0 : t = 0) (hk : ∀ A n k y z a b c, vd = .agg #[.slice A n k, y, z, a, b, c] → A ≠ none ∧ m = k) :
    Calls Try.prog 105 #[.agg #[.int .i64 t, .int .i64 l, .func (.func fv) #[] #[]], .pointer (some ⟨G, 0, none⟩), .pointer (some ⟨E, 0, none⟩)] w (ServeOf w lo G E (h', { d with s := d.s.take m ++ [x.r].take l }, x, 0)) := by
  have PP := Lib.hid p
  obtain ⟨A1, k1, A2, k2, A3, k3, rfl, hw, hrow⟩ := pair_form p
  obtain ⟨d0, d1, d2, d3, d4, d5⟩ := six_cells hw
  have ze := whole_lt hw
  have sl := fine_sl df
  have s1 : IntKind.i64.wrap ((d.s.length : Int) - t) = (m : Int) := by rw [show (d.s.length : Int) - t = m by omega]; exact IntWalk.i64_in _ (by omega)
  have s2 : ¬ ((m : Int) < 0) := by omega
  have s3 : IntKind.i64.wrap ((m : Int) + l) = (m : Int) + l := IntWalk.i64_in _ (by omega)
  have s4 : ¬ ((32 : Int) < (m : Int) + l) := by omega
  have s6 : (m : Int) ≤ d.s.length := by omega
  have hk1 := (row_cap hrow).1
  have hk1m := (row_cap hrow).2
  have s7 : m ≤ k1 := by omega
  have s0 : d.s.length - m = t := by omega
  unfold maxLen at hk1m
  unfold EnteredF at he
  have HROW := Lib.hid hrow
  have HM := Lib.hid hm
  obtain ⟨hA, kd⟩ := hk _ _ _ _ _ _ _ _ rfl
  subst kd
  obtain ⟨g1, rfl⟩ := row_some hrow hA
  obtain ⟨hg1, hg2⟩ := row_lt hrow g1 rfl
  have TK := Lib.hid (fun W (hb : Below w.heap.size w W) (tv : Value) => (show TkAt W tv (d.s.drop m) from .inl (List.eq_nil_of_length_eq_zero (by rw [List.length_drop]; omega))))
  have T0 := Lib.hid t0
  clear t0
  clear hA
  obtain ⟨W0, hW0⟩ : ∃ W0, W0 = (w.alloc (.cells #[.int .i64 t, .int .i64 l, .func (.func fv) #[] #[]] 137)).alloc (.cells #[.int .i64 0, .int .i64 0, .int .i64 0, .int .i64 0] 37) := ⟨_, rfl⟩
  have WS0 : W0.heap.size = w.heap.size + 2 := by rw [hW0]; exact size_two w _ _
  have BX0 : Whole W0 w.heap.size 137 #[.int .i64 t, .int .i64 l, .func (.func fv) #[] #[]] := by rw [hW0]; exact whole_alloc (whole_new _ _ _) _
  have RX0 : Whole W0 (w.heap.size + 1) 37 #[.int .i64 0, .int .i64 0, .int .i64 0, .int .i64 0] := by rw [hW0]; exact whole_second w _ _ _
  have WB0 : Below w.heap.size w W0 := by rw [hW0]; exact below_alloc (below_alloc (Below.refl _ _) _) _
  have EX0 := Lib.hid (whole_below hw WB0)
  have BXH := Lib.hid BX0
  have RXH := Lib.hid RX0
  have WBH := Lib.hid WB0
  have WSH := Lib.hid WS0
  have HW0 := Lib.hid hW0
  clear hk hw p hf df hrow hm hW0 BX0 RX0 WB0 WS0
  go_enter Try.func105, Try.ntmps105
  go_wp2
  go_quiet (fail)
  go_wp2_with fail
  rw [← HW0.out]
  obtain ⟨W1, hW1⟩ : ∃ W1, W1 = W0.drewN nq := ⟨_, rfl⟩
  rw [← hW1]
  have BX : Whole W1 w.heap.size 137 #[.int .i64 t, .int .i64 l, .func (.func fv) #[] #[]] := by rw [hW1]; exact whole_drewN BXH.out _
  have RX : Hid (Whole W1 (w.heap.size + 1) 37 #[.int .i64 0, .int .i64 0, .int .i64 0, .int .i64 0]) := Lib.hid (by rw [hW1]; exact whole_drewN RXH.out _)
  have WB : Hid (Below w.heap.size w W1) := Lib.hid (by rw [hW1]; exact below_drewN WBH.out _)
  have WS : w.heap.size + 1 < W1.heap.size := by rw [hW1]; show _ < W0.heap.size; rw [WSH.out]; omega
  have EX : Whole W1 E 30 #[.slice (some ⟨g1, 0, none⟩) d.s.length m, .slice A2 d.b.length k2, .slice A3 d.c.length k3, .int .i64 d.h, .int .i64 d.n, .string d.o] := by rw [hW1]; exact whole_drewN EX0.out _
  have BH := Lib.hid BX
  have zE := whole_lt EX
  have zB := whole_lt BX
  have WL := Lib.hid (Nat.le_of_lt (Nat.lt_of_succ_lt WS))
  have x2 := whole_cell BX 2
  simp at x2
  have e0 := (six_cells EX).1
  clear HW0 d0 d1 d2 d3 d4 d5 EX0 BXH RXH WBH WSH hW1 BX EX
  go_region_held3 (fun w' => w'.cell? ⟨w.heap.size, 2, none⟩ = some (.func (.func fv) #[] #[]) ∧ w'.cell? ⟨E, 0, none⟩ = some (.slice (some ⟨g1, 0, none⟩) d.s.length m))
    (refine ⟨?_, ?_⟩ <;> repeat (first | with_reducible assumption | with_reducible refine cell_old ?_ _ | with_reducible refine cell_drewQ ?_ | with_reducible refine cell_drewNQ ?_ _ | with_reducible refine cell_set ?_ (by omega) _))
    (first
    | (go_at_fn fv
       refine (C.out _ _ ?hB ?hT).mono ?_
       (case hB => repeat (first | with_reducible exact WB.out | with_reducible refine below_alloc ?_ _ | with_reducible refine below_drewN ?_ _ | with_reducible refine Below.drew ?_))
       (case hT => exact TK.out _ (by repeat (first | with_reducible exact WB.out | with_reducible refine below_alloc ?_ _ | with_reducible refine below_drewN ?_ _ | with_reducible refine Below.drew ?_)) _)
       rintro e w2 hsv
       obtain ⟨v', pp, pe, pb, pk⟩ := pair_svc PP.out (by repeat (first | with_reducible exact WB.out | with_reducible refine below_alloc ?_ _ | with_reducible refine below_drewN ?_ _ | with_reducible refine Below.drew ?_)) hsv
       obtain ⟨he2, _⟩ := hsv
       dsimp only at he2
       subst he2
       have RX2 := pk (w.heap.size + 1) 37 #[.int .i64 0, .int .i64 0, .int .i64 0, .int .i64 0] (by omega) (by repeat (first | with_reducible exact RX.out | with_reducible exact BH.out | with_reducible exact whole_new _ _ _ | with_reducible refine whole_alloc ?_ _ | with_reducible refine whole_drewN ?_ _ | with_reducible refine whole_drewQ ?_))
       have BX2 := pk w.heap.size 137 #[.int .i64 t, .int .i64 l, .func (.func fv) #[] #[]] (by omega) (by repeat (first | with_reducible exact RX.out | with_reducible exact BH.out | with_reducible exact whole_new _ _ _ | with_reducible refine whole_alloc ?_ _ | with_reducible refine whole_drewN ?_ _ | with_reducible refine whole_drewQ ?_))
       have x5 : w2.cell? ⟨w.heap.size, 2, none⟩ = some (.func (.func fv) #[] #[]) := whole_cell BX2 2
       have e5 := data_first pp
       obtain ⟨r0, r1, r2, r3⟩ := deed_cells RX2
       have f1 := whole_free RX2
       have l1 := whole_lt RX2
       (first
         | (have XD := pk W1.heap.size 37 #[.int .i64 0, .int .i64 0, .int .i64 0, .int .i64 0] WL.out (whole_drewQ (whole_new W1 _ _))
            obtain ⟨y0, y1, y2, y3⟩ := deed_cells XD
            have f2 := whole_free XD
            have l2 := whole_lt XD
            skip)
         | skip)))
  · go_wp2_with fail
    generalize hW3 : World.alloc _ _ = W3
    have B3 : Below w.heap.size w2 W3 := by rw [← hW3]; repeat (first | with_reducible exact Below.refl _ _ | with_reducible refine below_put ?_ (by omega) _ | with_reducible refine below_new ?_ (by omega) _ | with_reducible refine below_drewN ?_ _ | with_reducible refine Below.drew ?_)
    have PP3 := pair_up pp pe B3 B3.size
    have BX3 : Whole W3 w.heap.size 137 #[.int .i64 t, .int .i64 l, .func (.func fv) #[] #[]] := by rw [← hW3]; repeat (first | with_reducible exact BX2 | with_reducible refine whole_alloc ?_ _ | with_reducible refine whole_store ?_ (by omega))
    have RX3 : Whole W3 (w.heap.size + 1) 37 #[.int .i64 0, .int .i64 0, .int .i64 0, .int .i64 0] := by rw [← hW3]; repeat (first | with_reducible exact RX2 | with_reducible refine whole_alloc ?_ _ | with_reducible refine whole_store ?_ (by omega))
    have DX3 : Whole W3 w2.heap.size 37 #[.int .i64 x.p, .int .i64 x.a, .int .i64 x.b, .int .i64 x.r] := by rw [← hW3]; exact whole_alloc (whole_new w2 _ _) _
    have LX3 : Ints W3 (.slice (some ⟨w2.heap.size + 1, 0, none⟩) l 1) ([x.r].take l) := ints_left (by rw [← hW3]; exact whole_second w2 _ _ _) hl
    clear hW3
    obtain ⟨ST3, n3⟩ := pair_row PP3 (k := m) (by omega)
    have LT3 : Hid ((d.s.take m).length = m) := Lib.hid (by rw [List.length_take]; omega)
    have LL3 : Hid (([x.r].take l).length ≤ 1) := Lib.hid (by rw [List.length_take]; exact Nat.min_le_right _ _)
    have LN4 : Hid ((d.s.take m ++ [x.r].take l).length = m + l) := Lib.hid (by rw [List.length_append, LT3.out, List.length_take, List.length_singleton, Nat.min_eq_left hl])
    have q0 := data_first PP3
    have q1 : W3.cell? ⟨w.heap.size, 1, none⟩ = some (.int .i64 l) := whole_cell BX3 1
    have q2 : (l : Int) ≤ 1 := by omega
    have EB3 := pair_box PP3
    have zE3 := whole_lt EB3
    have zR3 := whole_lt RX3
    have zD3 := whole_lt DX3
    have SV := Lib.hid (And.intro PP3 (And.intro EB3 (And.intro RX3 (And.intro DX3 (And.intro LX3 (And.intro ST3 B3))))))
    have SE := Lib.hid pe
    have lw := lo_le PP.out
    have lE := PP.out.loE
    clear pp pe PP3 EB3 RX3 DX3 BX3 LX3 ST3 B3 RX2 BX2 x5 e5 r0 r1 r2 r3 f1
    go_region_law (first
      | (refine step_append_ints6 rfl (.tmp 55) (.tmp 59) rfl rfl lo (.slice (some ⟨g1, 0, none⟩) m m) (d.s.take m) rfl (by exact SV.out.2.2.2.2.2.1) _ ([x.r].take l) rfl (by exact SV.out.2.2.2.2.1) (by have := LT3.out; have := LL3.out; omega) (by have := lo_le SV.out.1; exact this) ?_
         intro v4 w4 hr4 hg4 hat4
         obtain ⟨_, C4, j4, rfl, _⟩ := row_ints hr4
         rw [LN4.out] at hr4 hat4 ⊢
         obtain ⟨PP3, EB3, RX3, DX3, LX3, ST3, B3⟩ := SV.out
         have PP4 := Lib.hid (pair_stack (pair_below PP3 (by repeat (first | with_reducible exact Below.refl _ _ | with_reducible refine below_drewN ?_ _ | with_reducible refine Below.drew ?_))) hg4 hr4 hat4)
         have n1 := PP3.own g1 (mine_first g1 rfl)
         have EB4 := whole_keep EB3 (hg4.block E (by exact zE3) (fun e => by simp [Value.ownBlock] at e; omega))
         have RX4 := whole_keep RX3 (hg4.block (w.heap.size + 1) (by exact zR3) (fun e => by simp [Value.ownBlock] at e; omega))
         have DX4 := whole_keep DX3 (hg4.block (w2.heap.size) (by exact zD3) (fun e => by simp [Value.ownBlock] at e; omega))
         have e4 := pair_first EB4
         obtain ⟨y0, y1, y2, y3⟩ := deed_cells DX4
         obtain ⟨r0, r1, r2, r3⟩ := deed_cells RX4
         have fE := whole_free EB4
         have fR := whole_free RX4
         have lE4 := whole_lt EB4
         have lR4 := whole_lt RX4
         have lD4 := whole_lt DX4
         have NE4 := Lib.hid (pair_not (r := w.heap.size + 1) (v' := v') PP3 (x' := .slice C4 (m + l) j4) hat4 (fun k hk => by have := SE.out k hk; omega) (by omega))
         have BW3 := pb.trans (B3.mono lw)
         have lw3 := lo_le PP3
         have BL4 := Lib.hid (below_own hg4 hg1 (show lo ≤ W3.drew.heap.size from lw3) BW3.drew)
         clear hg4 hr4 hat4 BW3 PP3 EB3 RX3 DX3 LX3 ST3 B3 EB4 RX4 DX4))
    all_goals
      go_wp2
      refine bodyPost_ret (v := .tuple #[.agg #[.int .i64 x.p, .int .i64 x.a, .int .i64 x.b, .int .i64 x.r], .int .i64 0]) (by simp [results, Try.results105, go_sem, *]) rfl ?_
      exact ⟨rfl, ⟨v', _, by repeat (first | with_reducible exact PP4.out | with_reducible refine pair_put ?_ NE4.out _)⟩, by repeat (first | with_reducible exact BL4.out | with_reducible refine below_put ?_ (by omega) _ | with_reducible refine below_drewN ?_ _ | with_reducible refine Below.drew ?_)⟩
  · go_wp2_with fail
    generalize hW3 : World.alloc _ _ = W3
    have B3 : Below w.heap.size w2 W3 := by rw [← hW3]; repeat (first | with_reducible exact Below.refl _ _ | with_reducible refine below_put ?_ (by omega) _ | with_reducible refine below_new ?_ (by omega) _ | with_reducible refine below_drewN ?_ _ | with_reducible refine Below.drew ?_)
    have PP3 := pair_up pp pe B3 B3.size
    have BX3 : Whole W3 w.heap.size 137 #[.int .i64 t, .int .i64 l, .func (.func fv) #[] #[]] := by rw [← hW3]; repeat (first | with_reducible exact BX2 | with_reducible refine whole_alloc ?_ _ | with_reducible refine whole_store ?_ (by omega))
    have RX3 : Whole W3 (w.heap.size + 1) 37 #[.int .i64 0, .int .i64 0, .int .i64 0, .int .i64 0] := by rw [← hW3]; repeat (first | with_reducible exact RX2 | with_reducible refine whole_alloc ?_ _ | with_reducible refine whole_store ?_ (by omega))
    have DX3 : Whole W3 W1.heap.size 37 #[.int .i64 x.p, .int .i64 x.a, .int .i64 x.b, .int .i64 x.r] := by rw [← hW3]; exact whole_alloc (whole_set (whole_set (whole_set (whole_set XD 0 _) 1 _) 2 _) 3 _) _
    have LX3 : Ints W3 (.slice (some ⟨w2.heap.size, 0, none⟩) l 1) ([x.r].take l) := ints_left (by rw [← hW3]; exact whole_new4 w2 _ _ _ _ _ _ _ _ _ _) hl
    clear hW3
    obtain ⟨ST3, n3⟩ := pair_row PP3 (k := m) (by omega)
    have LT3 : Hid ((d.s.take m).length = m) := Lib.hid (by rw [List.length_take]; omega)
    have LL3 : Hid (([x.r].take l).length ≤ 1) := Lib.hid (by rw [List.length_take]; exact Nat.min_le_right _ _)
    have LN4 : Hid ((d.s.take m ++ [x.r].take l).length = m + l) := Lib.hid (by rw [List.length_append, LT3.out, List.length_take, List.length_singleton, Nat.min_eq_left hl])
    have q0 := data_first PP3
    have q1 : W3.cell? ⟨w.heap.size, 1, none⟩ = some (.int .i64 l) := whole_cell BX3 1
    have q2 : (l : Int) ≤ 1 := by omega
    have EB3 := pair_box PP3
    have zE3 := whole_lt EB3
    have zR3 := whole_lt RX3
    have zD3 := whole_lt DX3
    have SV := Lib.hid (And.intro PP3 (And.intro EB3 (And.intro RX3 (And.intro DX3 (And.intro LX3 (And.intro ST3 B3))))))
    have SE := Lib.hid pe
    have lw := lo_le PP.out
    have lE := PP.out.loE
    clear pp pe PP3 EB3 RX3 DX3 BX3 LX3 ST3 B3 RX2 BX2 x5 e5 r0 r1 r2 r3 f1
    go_region_law (first
      | (refine step_append_ints6 rfl (.tmp 55) (.tmp 59) rfl rfl lo (.slice (some ⟨g1, 0, none⟩) m m) (d.s.take m) rfl (by exact SV.out.2.2.2.2.2.1) _ ([x.r].take l) rfl (by exact SV.out.2.2.2.2.1) (by have := LT3.out; have := LL3.out; omega) (by have := lo_le SV.out.1; exact this) ?_
         intro v4 w4 hr4 hg4 hat4
         obtain ⟨_, C4, j4, rfl, _⟩ := row_ints hr4
         rw [LN4.out] at hr4 hat4 ⊢
         obtain ⟨PP3, EB3, RX3, DX3, LX3, ST3, B3⟩ := SV.out
         have PP4 := Lib.hid (pair_stack (pair_below PP3 (by repeat (first | with_reducible exact Below.refl _ _ | with_reducible refine below_drewN ?_ _ | with_reducible refine Below.drew ?_))) hg4 hr4 hat4)
         have n1 := PP3.own g1 (mine_first g1 rfl)
         have EB4 := whole_keep EB3 (hg4.block E (by exact zE3) (fun e => by simp [Value.ownBlock] at e; omega))
         have RX4 := whole_keep RX3 (hg4.block (w.heap.size + 1) (by exact zR3) (fun e => by simp [Value.ownBlock] at e; omega))
         have DX4 := whole_keep DX3 (hg4.block (W1.heap.size) (by exact zD3) (fun e => by simp [Value.ownBlock] at e; omega))
         have e4 := pair_first EB4
         obtain ⟨y0, y1, y2, y3⟩ := deed_cells DX4
         obtain ⟨r0, r1, r2, r3⟩ := deed_cells RX4
         have fE := whole_free EB4
         have fR := whole_free RX4
         have lE4 := whole_lt EB4
         have lR4 := whole_lt RX4
         have lD4 := whole_lt DX4
         have NE4 := Lib.hid (pair_not (r := w.heap.size + 1) (v' := v') PP3 (x' := .slice C4 (m + l) j4) hat4 (fun k hk => by have := SE.out k hk; omega) (by omega))
         have BW3 := pb.trans (B3.mono lw)
         have lw3 := lo_le PP3
         have BL4 := Lib.hid (below_own hg4 hg1 (show lo ≤ W3.drew.heap.size from lw3) BW3.drew)
         clear hg4 hr4 hat4 BW3 PP3 EB3 RX3 DX3 LX3 ST3 B3 EB4 RX4 DX4))
    all_goals
      go_wp2
      refine bodyPost_ret (v := .tuple #[.agg #[.int .i64 x.p, .int .i64 x.a, .int .i64 x.b, .int .i64 x.r], .int .i64 0]) (by simp [results, Try.results105, go_sem, *]) rfl ?_
      exact ⟨rfl, ⟨v', _, by repeat (first | with_reducible exact PP4.out | with_reducible refine pair_put ?_ NE4.out _)⟩, by repeat (first | with_reducible exact BL4.out | with_reducible refine below_put ?_ (by omega) _ | with_reducible refine below_drewN ?_ _ | with_reducible refine Below.drew ?_)⟩

set_option maxRecDepth 100000 in
set_option maxHeartbeats 1000000 in
theorem serve_nil (w : World) (lo G E : Nat) (vh vd : Value) (h h' : Ht) (d : Dt) (x : Dd) (t l m : Nat) (fv : FuncId) (p : Pair w lo G E vh vd h d) (hf : HtFine h) (df : DtFine d) (ht : t ≤ 2) (hl : l ≤ 1) (hm : d.s.length = m + t) (hu : m + l ≤ 32)
    (he : EnteredF fv) (C : Hid (∀ W tv, Below w.heap.size w W → TkAt W tv (d.s.drop m) → Calls Try.prog fv #[.pointer (some ⟨G, 0, none⟩), tv] W (SvcOf W lo G vh (h', x, 0)))) (t0 : t = 0) (hk : ∀ A n k y z a b c, vd = .agg #[.slice A n k, y, z, a, b, c] → A = none ∧ m = k) :
    Calls Try.prog 105 #[.agg #[.int .i64 t, .int .i64 l, .func (.func fv) #[] #[]], .pointer (some ⟨G, 0, none⟩), .pointer (some ⟨E, 0, none⟩)] w (ServeOf w lo G E (h', { d with s := d.s.take m ++ [x.r].take l }, x, 0)) := by
  have PP := Lib.hid p
  obtain ⟨A1, k1, A2, k2, A3, k3, rfl, hw, hrow⟩ := pair_form p
  obtain ⟨d0, d1, d2, d3, d4, d5⟩ := six_cells hw
  have ze := whole_lt hw
  have sl := fine_sl df
  have s1 : IntKind.i64.wrap ((d.s.length : Int) - t) = (m : Int) := by rw [show (d.s.length : Int) - t = m by omega]; exact IntWalk.i64_in _ (by omega)
  have s2 : ¬ ((m : Int) < 0) := by omega
  have s3 : IntKind.i64.wrap ((m : Int) + l) = (m : Int) + l := IntWalk.i64_in _ (by omega)
  have s4 : ¬ ((32 : Int) < (m : Int) + l) := by omega
  have s6 : (m : Int) ≤ d.s.length := by omega
  have hk1 := (row_cap hrow).1
  have hk1m := (row_cap hrow).2
  have s7 : m ≤ k1 := by omega
  have s0 : d.s.length - m = t := by omega
  unfold maxLen at hk1m
  unfold EnteredF at he
  have HROW := Lib.hid hrow
  have HM := Lib.hid hm
  obtain ⟨hA, kd⟩ := hk _ _ _ _ _ _ _ _ rfl
  subst kd
  subst hA
  have TK := Lib.hid (fun W (hb : Below w.heap.size w W) (tv : Value) => (show TkAt W tv (d.s.drop m) from .inl (List.eq_nil_of_length_eq_zero (by rw [List.length_drop]; omega))))
  have T0 := Lib.hid t0
  clear t0
  obtain ⟨W0, hW0⟩ : ∃ W0, W0 = (w.alloc (.cells #[.int .i64 t, .int .i64 l, .func (.func fv) #[] #[]] 137)).alloc (.cells #[.int .i64 0, .int .i64 0, .int .i64 0, .int .i64 0] 37) := ⟨_, rfl⟩
  have WS0 : W0.heap.size = w.heap.size + 2 := by rw [hW0]; exact size_two w _ _
  have BX0 : Whole W0 w.heap.size 137 #[.int .i64 t, .int .i64 l, .func (.func fv) #[] #[]] := by rw [hW0]; exact whole_alloc (whole_new _ _ _) _
  have RX0 : Whole W0 (w.heap.size + 1) 37 #[.int .i64 0, .int .i64 0, .int .i64 0, .int .i64 0] := by rw [hW0]; exact whole_second w _ _ _
  have WB0 : Below w.heap.size w W0 := by rw [hW0]; exact below_alloc (below_alloc (Below.refl _ _) _) _
  have EX0 := Lib.hid (whole_below hw WB0)
  have BXH := Lib.hid BX0
  have RXH := Lib.hid RX0
  have WBH := Lib.hid WB0
  have WSH := Lib.hid WS0
  have HW0 := Lib.hid hW0
  clear hk hw p hf df hrow hm hW0 BX0 RX0 WB0 WS0
  go_enter Try.func105, Try.ntmps105
  go_wp2
  go_quiet (fail)
  go_wp2_with fail
  rw [← HW0.out]
  obtain ⟨W1, hW1⟩ : ∃ W1, W1 = W0.drewN nq := ⟨_, rfl⟩
  rw [← hW1]
  have BX : Whole W1 w.heap.size 137 #[.int .i64 t, .int .i64 l, .func (.func fv) #[] #[]] := by rw [hW1]; exact whole_drewN BXH.out _
  have RX : Hid (Whole W1 (w.heap.size + 1) 37 #[.int .i64 0, .int .i64 0, .int .i64 0, .int .i64 0]) := Lib.hid (by rw [hW1]; exact whole_drewN RXH.out _)
  have WB : Hid (Below w.heap.size w W1) := Lib.hid (by rw [hW1]; exact below_drewN WBH.out _)
  have WS : w.heap.size + 1 < W1.heap.size := by rw [hW1]; show _ < W0.heap.size; rw [WSH.out]; omega
  have EX : Whole W1 E 30 #[.slice none d.s.length m, .slice A2 d.b.length k2, .slice A3 d.c.length k3, .int .i64 d.h, .int .i64 d.n, .string d.o] := by rw [hW1]; exact whole_drewN EX0.out _
  have BH := Lib.hid BX
  have zE := whole_lt EX
  have zB := whole_lt BX
  have WL := Lib.hid (Nat.le_of_lt (Nat.lt_of_succ_lt WS))
  have x2 := whole_cell BX 2
  simp at x2
  have e0 := (six_cells EX).1
  clear HW0 d0 d1 d2 d3 d4 d5 EX0 BXH RXH WBH WSH hW1 BX EX
  go_region_held3 (fun w' => w'.cell? ⟨w.heap.size, 2, none⟩ = some (.func (.func fv) #[] #[]) ∧ w'.cell? ⟨E, 0, none⟩ = some (.slice none d.s.length m))
    (refine ⟨?_, ?_⟩ <;> repeat (first | with_reducible assumption | with_reducible refine cell_old ?_ _ | with_reducible refine cell_drewQ ?_ | with_reducible refine cell_drewNQ ?_ _ | with_reducible refine cell_set ?_ (by omega) _))
    (first
    | (go_at_fn fv
       refine (C.out _ _ ?hB ?hT).mono ?_
       (case hB => repeat (first | with_reducible exact WB.out | with_reducible refine below_alloc ?_ _ | with_reducible refine below_drewN ?_ _ | with_reducible refine Below.drew ?_))
       (case hT => exact TK.out _ (by repeat (first | with_reducible exact WB.out | with_reducible refine below_alloc ?_ _ | with_reducible refine below_drewN ?_ _ | with_reducible refine Below.drew ?_)) _)
       rintro e w2 hsv
       obtain ⟨v', pp, pe, pb, pk⟩ := pair_svc PP.out (by repeat (first | with_reducible exact WB.out | with_reducible refine below_alloc ?_ _ | with_reducible refine below_drewN ?_ _ | with_reducible refine Below.drew ?_)) hsv
       obtain ⟨he2, _⟩ := hsv
       dsimp only at he2
       subst he2
       have RX2 := pk (w.heap.size + 1) 37 #[.int .i64 0, .int .i64 0, .int .i64 0, .int .i64 0] (by omega) (by repeat (first | with_reducible exact RX.out | with_reducible exact BH.out | with_reducible exact whole_new _ _ _ | with_reducible refine whole_alloc ?_ _ | with_reducible refine whole_drewN ?_ _ | with_reducible refine whole_drewQ ?_))
       have BX2 := pk w.heap.size 137 #[.int .i64 t, .int .i64 l, .func (.func fv) #[] #[]] (by omega) (by repeat (first | with_reducible exact RX.out | with_reducible exact BH.out | with_reducible exact whole_new _ _ _ | with_reducible refine whole_alloc ?_ _ | with_reducible refine whole_drewN ?_ _ | with_reducible refine whole_drewQ ?_))
       have x5 : w2.cell? ⟨w.heap.size, 2, none⟩ = some (.func (.func fv) #[] #[]) := whole_cell BX2 2
       have e5 := data_first pp
       obtain ⟨r0, r1, r2, r3⟩ := deed_cells RX2
       have f1 := whole_free RX2
       have l1 := whole_lt RX2
       (first
         | (have XD := pk W1.heap.size 37 #[.int .i64 0, .int .i64 0, .int .i64 0, .int .i64 0] WL.out (whole_drewQ (whole_new W1 _ _))
            obtain ⟨y0, y1, y2, y3⟩ := deed_cells XD
            have f2 := whole_free XD
            have l2 := whole_lt XD
            skip)
         | skip)))
  · go_wp2_with fail
    generalize hW3 : World.alloc _ _ = W3
    have B3 : Below w.heap.size w2 W3 := by rw [← hW3]; repeat (first | with_reducible exact Below.refl _ _ | with_reducible refine below_put ?_ (by omega) _ | with_reducible refine below_new ?_ (by omega) _ | with_reducible refine below_drewN ?_ _ | with_reducible refine Below.drew ?_)
    have PP3 := pair_up pp pe B3 B3.size
    have BX3 : Whole W3 w.heap.size 137 #[.int .i64 t, .int .i64 l, .func (.func fv) #[] #[]] := by rw [← hW3]; repeat (first | with_reducible exact BX2 | with_reducible refine whole_alloc ?_ _ | with_reducible refine whole_store ?_ (by omega))
    have RX3 : Whole W3 (w.heap.size + 1) 37 #[.int .i64 0, .int .i64 0, .int .i64 0, .int .i64 0] := by rw [← hW3]; repeat (first | with_reducible exact RX2 | with_reducible refine whole_alloc ?_ _ | with_reducible refine whole_store ?_ (by omega))
    have DX3 : Whole W3 w2.heap.size 37 #[.int .i64 x.p, .int .i64 x.a, .int .i64 x.b, .int .i64 x.r] := by rw [← hW3]; exact whole_alloc (whole_new w2 _ _) _
    have LX3 : Ints W3 (.slice (some ⟨w2.heap.size + 1, 0, none⟩) l 1) ([x.r].take l) := ints_left (by rw [← hW3]; exact whole_second w2 _ _ _) hl
    clear hW3
    obtain ⟨ST3, n3⟩ := pair_row PP3 (k := m) (by omega)
    have LT3 : Hid ((d.s.take m).length = m) := Lib.hid (by rw [List.length_take]; omega)
    have LL3 : Hid (([x.r].take l).length ≤ 1) := Lib.hid (by rw [List.length_take]; exact Nat.min_le_right _ _)
    have LN4 : Hid ((d.s.take m ++ [x.r].take l).length = m + l) := Lib.hid (by rw [List.length_append, LT3.out, List.length_take, List.length_singleton, Nat.min_eq_left hl])
    have q0 := data_first PP3
    have q1 : W3.cell? ⟨w.heap.size, 1, none⟩ = some (.int .i64 l) := whole_cell BX3 1
    have q2 : (l : Int) ≤ 1 := by omega
    have EB3 := pair_box PP3
    have zE3 := whole_lt EB3
    have zR3 := whole_lt RX3
    have zD3 := whole_lt DX3
    have SV := Lib.hid (And.intro PP3 (And.intro EB3 (And.intro RX3 (And.intro DX3 (And.intro LX3 (And.intro ST3 B3))))))
    have SE := Lib.hid pe
    have lw := lo_le PP.out
    have lE := PP.out.loE
    clear pp pe PP3 EB3 RX3 DX3 BX3 LX3 ST3 B3 RX2 BX2 x5 e5 r0 r1 r2 r3 f1
    go_region_law (first
      | (refine step_append_ints6 rfl (.tmp 55) (.tmp 59) rfl rfl lo (.slice none m m) (d.s.take m) rfl (by exact SV.out.2.2.2.2.2.1) _ ([x.r].take l) rfl (by exact SV.out.2.2.2.2.1) (by have := LT3.out; have := LL3.out; omega) (by have := lo_le SV.out.1; exact this) ?_
         intro v4 w4 hr4 hg4 hat4
         obtain ⟨_, C4, j4, rfl, _⟩ := row_ints hr4
         rw [LN4.out] at hr4 hat4 ⊢
         obtain ⟨PP3, EB3, RX3, DX3, LX3, ST3, B3⟩ := SV.out
         have PP4 := Lib.hid (pair_stack (pair_below PP3 (by repeat (first | with_reducible exact Below.refl _ _ | with_reducible refine below_drewN ?_ _ | with_reducible refine Below.drew ?_))) hg4 hr4 hat4)
         have EB4 := whole_keep EB3 (hg4.block E (by exact zE3) (fun e => by simp [Value.ownBlock] at e))
         have RX4 := whole_keep RX3 (hg4.block (w.heap.size + 1) (by exact zR3) (fun e => by simp [Value.ownBlock] at e))
         have DX4 := whole_keep DX3 (hg4.block (w2.heap.size) (by exact zD3) (fun e => by simp [Value.ownBlock] at e))
         have e4 := pair_first EB4
         obtain ⟨y0, y1, y2, y3⟩ := deed_cells DX4
         obtain ⟨r0, r1, r2, r3⟩ := deed_cells RX4
         have fE := whole_free EB4
         have fR := whole_free RX4
         have lE4 := whole_lt EB4
         have lR4 := whole_lt RX4
         have lD4 := whole_lt DX4
         have NE4 := Lib.hid (pair_not (r := w.heap.size + 1) (v' := v') PP3 (x' := .slice C4 (m + l) j4) hat4 (fun k hk => by have := SE.out k hk; omega) (by omega))
         have BW3 := pb.trans (B3.mono lw)
         have lw3 := lo_le PP3
         have BL4 := Lib.hid (below_ownN hg4 (show lo ≤ W3.drew.heap.size from lw3) BW3.drew)
         clear hg4 hr4 hat4 BW3 PP3 EB3 RX3 DX3 LX3 ST3 B3 EB4 RX4 DX4))
    all_goals
      go_wp2
      refine bodyPost_ret (v := .tuple #[.agg #[.int .i64 x.p, .int .i64 x.a, .int .i64 x.b, .int .i64 x.r], .int .i64 0]) (by simp [results, Try.results105, go_sem, *]) rfl ?_
      exact ⟨rfl, ⟨v', _, by repeat (first | with_reducible exact PP4.out | with_reducible refine pair_put ?_ NE4.out _)⟩, by repeat (first | with_reducible exact BL4.out | with_reducible refine below_put ?_ (by omega) _ | with_reducible refine below_drewN ?_ _ | with_reducible refine Below.drew ?_)⟩
  · go_wp2_with fail
    generalize hW3 : World.alloc _ _ = W3
    have B3 : Below w.heap.size w2 W3 := by rw [← hW3]; repeat (first | with_reducible exact Below.refl _ _ | with_reducible refine below_put ?_ (by omega) _ | with_reducible refine below_new ?_ (by omega) _ | with_reducible refine below_drewN ?_ _ | with_reducible refine Below.drew ?_)
    have PP3 := pair_up pp pe B3 B3.size
    have BX3 : Whole W3 w.heap.size 137 #[.int .i64 t, .int .i64 l, .func (.func fv) #[] #[]] := by rw [← hW3]; repeat (first | with_reducible exact BX2 | with_reducible refine whole_alloc ?_ _ | with_reducible refine whole_store ?_ (by omega))
    have RX3 : Whole W3 (w.heap.size + 1) 37 #[.int .i64 0, .int .i64 0, .int .i64 0, .int .i64 0] := by rw [← hW3]; repeat (first | with_reducible exact RX2 | with_reducible refine whole_alloc ?_ _ | with_reducible refine whole_store ?_ (by omega))
    have DX3 : Whole W3 W1.heap.size 37 #[.int .i64 x.p, .int .i64 x.a, .int .i64 x.b, .int .i64 x.r] := by rw [← hW3]; exact whole_alloc (whole_set (whole_set (whole_set (whole_set XD 0 _) 1 _) 2 _) 3 _) _
    have LX3 : Ints W3 (.slice (some ⟨w2.heap.size, 0, none⟩) l 1) ([x.r].take l) := ints_left (by rw [← hW3]; exact whole_new4 w2 _ _ _ _ _ _ _ _ _ _) hl
    clear hW3
    obtain ⟨ST3, n3⟩ := pair_row PP3 (k := m) (by omega)
    have LT3 : Hid ((d.s.take m).length = m) := Lib.hid (by rw [List.length_take]; omega)
    have LL3 : Hid (([x.r].take l).length ≤ 1) := Lib.hid (by rw [List.length_take]; exact Nat.min_le_right _ _)
    have LN4 : Hid ((d.s.take m ++ [x.r].take l).length = m + l) := Lib.hid (by rw [List.length_append, LT3.out, List.length_take, List.length_singleton, Nat.min_eq_left hl])
    have q0 := data_first PP3
    have q1 : W3.cell? ⟨w.heap.size, 1, none⟩ = some (.int .i64 l) := whole_cell BX3 1
    have q2 : (l : Int) ≤ 1 := by omega
    have EB3 := pair_box PP3
    have zE3 := whole_lt EB3
    have zR3 := whole_lt RX3
    have zD3 := whole_lt DX3
    have SV := Lib.hid (And.intro PP3 (And.intro EB3 (And.intro RX3 (And.intro DX3 (And.intro LX3 (And.intro ST3 B3))))))
    have SE := Lib.hid pe
    have lw := lo_le PP.out
    have lE := PP.out.loE
    clear pp pe PP3 EB3 RX3 DX3 BX3 LX3 ST3 B3 RX2 BX2 x5 e5 r0 r1 r2 r3 f1
    go_region_law (first
      | (refine step_append_ints6 rfl (.tmp 55) (.tmp 59) rfl rfl lo (.slice none m m) (d.s.take m) rfl (by exact SV.out.2.2.2.2.2.1) _ ([x.r].take l) rfl (by exact SV.out.2.2.2.2.1) (by have := LT3.out; have := LL3.out; omega) (by have := lo_le SV.out.1; exact this) ?_
         intro v4 w4 hr4 hg4 hat4
         obtain ⟨_, C4, j4, rfl, _⟩ := row_ints hr4
         rw [LN4.out] at hr4 hat4 ⊢
         obtain ⟨PP3, EB3, RX3, DX3, LX3, ST3, B3⟩ := SV.out
         have PP4 := Lib.hid (pair_stack (pair_below PP3 (by repeat (first | with_reducible exact Below.refl _ _ | with_reducible refine below_drewN ?_ _ | with_reducible refine Below.drew ?_))) hg4 hr4 hat4)
         have EB4 := whole_keep EB3 (hg4.block E (by exact zE3) (fun e => by simp [Value.ownBlock] at e))
         have RX4 := whole_keep RX3 (hg4.block (w.heap.size + 1) (by exact zR3) (fun e => by simp [Value.ownBlock] at e))
         have DX4 := whole_keep DX3 (hg4.block (W1.heap.size) (by exact zD3) (fun e => by simp [Value.ownBlock] at e))
         have e4 := pair_first EB4
         obtain ⟨y0, y1, y2, y3⟩ := deed_cells DX4
         obtain ⟨r0, r1, r2, r3⟩ := deed_cells RX4
         have fE := whole_free EB4
         have fR := whole_free RX4
         have lE4 := whole_lt EB4
         have lR4 := whole_lt RX4
         have lD4 := whole_lt DX4
         have NE4 := Lib.hid (pair_not (r := w.heap.size + 1) (v' := v') PP3 (x' := .slice C4 (m + l) j4) hat4 (fun k hk => by have := SE.out k hk; omega) (by omega))
         have BW3 := pb.trans (B3.mono lw)
         have lw3 := lo_le PP3
         have BL4 := Lib.hid (below_ownN hg4 (show lo ≤ W3.drew.heap.size from lw3) BW3.drew)
         clear hg4 hr4 hat4 BW3 PP3 EB3 RX3 DX3 LX3 ST3 B3 EB4 RX4 DX4))
    all_goals
      go_wp2
      refine bodyPost_ret (v := .tuple #[.agg #[.int .i64 x.p, .int .i64 x.a, .int .i64 x.b, .int .i64 x.r], .int .i64 0]) (by simp [results, Try.results105, go_sem, *]) rfl ?_
      exact ⟨rfl, ⟨v', _, by repeat (first | with_reducible exact PP4.out | with_reducible refine pair_put ?_ NE4.out _)⟩, by repeat (first | with_reducible exact BL4.out | with_reducible refine below_put ?_ (by omega) _ | with_reducible refine below_drewN ?_ _ | with_reducible refine Below.drew ?_)⟩

end Go.Proofs.Ytkcogfgjabemfaa

namespace Go.Proofs.Ytkcogfgjabemfaa
open Go.RowKit
set_option linter.unusedVariables false
set_option linter.unusedSimpArgs false

/-- How many cells a call leaves. -/
def capLeaves (c : Nat) : Nat := [1, 0, 1, 1].getD c 0

/-- What serve comes to: the host, the data, the deed without its capability, the throw. -/
def hServe (h : Ht) (d : Dt) (c : Nat) : Ht × Dt × Dd × Int :=
  if d.s.length < capTakes c then (h, d, noDd, -4)
  else if 32 < d.s.length - capTakes c + capLeaves c then (h, d, noDd, -3)
  else if (hSvc h c (tp d 1) (tp d 0)).2.2 ≠ 0 then ((hSvc h c (tp d 1) (tp d 0)).1, d, noDd, (hSvc h c (tp d 1) (tp d 0)).2.2)
  else ((hSvc h c (tp d 1) (tp d 0)).1, { d with s := d.s.take (d.s.length - capTakes c) ++ [(hSvc h c (tp d 1) (tp d 0)).2.1.r].take (capLeaves c) }, (hSvc h c (tp d 1) (tp d 0)).2.1, 0)

/-- The shape of a data's stack: none; at its capacity behind m; room behind m. -/
theorem pair_shape {w : World} {lo G E : Nat} {vh vd : Value} {h : Ht} {d : Dt} (p : Pair w lo G E vh vd h d) (m t : Nat) (hm : d.s.length = m + t) :
    (t = 0 ∧ ∀ A n k y z a b c, vd = .agg #[.slice A n k, y, z, a, b, c] → A = none ∧ m = k) ∨ (t = 0 ∧ ∀ A n k y z a b c, vd = .agg #[.slice A n k, y, z, a, b, c] → A ≠ none ∧ m = k) ∨ (∀ A n k y z a b c, vd = .agg #[.slice A n k, y, z, a, b, c] → A ≠ none ∧ k ≠ m) := by
  obtain ⟨A1, k1, A2, k2, A3, k3, rfl, hw, hrow⟩ := pair_form p
  have inj : ∀ {P : Option Addr → Nat → Prop}, P A1 k1 → ∀ A n k y z a b c, (Value.agg #[.slice A1 d.s.length k1, .slice A2 d.b.length k2, .slice A3 d.c.length k3, .int .i64 d.h, .int .i64 d.n, .string d.o]) = .agg #[.slice A n k, y, z, a, b, c] → P A k := by
    intro P hP A n k y z a b c e
    simp only [Value.agg.injEq, Array.mk.injEq, List.cons.injEq, and_true, Value.slice.injEq] at e
    obtain ⟨⟨rfl, _, rfl⟩, _⟩ := e
    exact hP
  have hcap := (row_cap hrow).1
  rcases hrow.2 with ⟨hv, h0⟩ | ⟨g, cap, cur, hv, _⟩
  · simp only [Value.slice.injEq] at hv
    obtain ⟨e1, _, e3⟩ := hv
    exact .inl ⟨by omega, inj (P := fun A k => A = none ∧ m = k) ⟨e1, by omega⟩⟩
  · simp only [Value.slice.injEq] at hv
    obtain ⟨e1, _, e3⟩ := hv
    have hA : A1 ≠ none := by rw [e1]; simp
    by_cases hk : k1 = m
    · exact .inr (.inl ⟨by omega, inj (P := fun A k => A ≠ none ∧ m = k) ⟨hA, hk.symm⟩⟩)
    · exact .inr (.inr (inj (P := fun A k => A ≠ none ∧ k ≠ m) ⟨hA, hk⟩))

theorem serve_cap (w : World) (lo G E : Nat) (vh vd : Value) (h : Ht) (d : Dt) (c : Nat) (fv : FuncId) (p : Pair w lo G E vh vd h d) (hf : HtFine h) (df : DtFine d) (hc : c < 4) (he : EnteredF fv)
    (C : ∀ m, d.s.length = m + capTakes c → ∀ W tv, Below w.heap.size w W → TkAt W tv (d.s.drop m) → Calls Try.prog fv #[.pointer (some ⟨G, 0, none⟩), tv] W (SvcOf W lo G vh (hSvc h c (tp d 1) (tp d 0)))) (hT : (hSvc h c (tp d 1) (tp d 0)).2.2 ≠ 0 → 0 < capTakes c) :
    Calls Try.prog 105 #[.agg #[.int .i64 (capTakes c : Nat), .int .i64 (capLeaves c : Nat), .func (.func fv) #[] #[]], .pointer (some ⟨G, 0, none⟩), .pointer (some ⟨E, 0, none⟩)] w (ServeOf w lo G E (hServe h d c)) := by
  have ht : capTakes c ≤ 2 := by
    rcases (by omega : c = 0 ∨ c = 1 ∨ c = 2 ∨ c = 3) with rfl | rfl | rfl | rfl <;> decide
  have hl : capLeaves c ≤ 1 := by
    rcases (by omega : c = 0 ∨ c = 1 ∨ c = 2 ∨ c = 3) with rfl | rfl | rfl | rfl <;> decide
  unfold hServe
  generalize capTakes c = t at *
  generalize capLeaves c = l at *
  by_cases hu : d.s.length < t
  · rw [if_pos hu]; exact serve_under w lo G E vh vd h d t l fv p hf df ht hu
  rw [if_neg hu]
  obtain ⟨m, hm⟩ : ∃ m, d.s.length = m + t := ⟨d.s.length - t, by omega⟩
  have hm' : d.s.length - t = m := by omega
  rw [hm']
  by_cases ho : 32 < m + l
  · rw [if_pos ho]; exact serve_over w lo G E vh vd h d t l m fv p hf df ht hl hm ho
  rw [if_neg ho]
  have C' := C m hm
  generalize hr : hSvc h c (tp d 1) (tp d 0) = r at *
  obtain ⟨q, x, th⟩ := r
  clear C
  by_cases hth : th = 0
  · rw [if_neg (by simpa using hth)]
    subst hth
    rcases pair_shape p m t hm with ⟨t0, hk⟩ | ⟨t0, hk⟩ | hk
    · exact serve_nil w lo G E vh vd h q d x t l m fv p hf df ht hl hm (by omega) he (Lib.hid C') t0 hk
    · exact serve_full w lo G E vh vd h q d x t l m fv p hf df ht hl hm (by omega) he (Lib.hid C') t0 hk
    · exact serve_fine w lo G E vh vd h q d x t l m fv p hf df ht hl hm (by omega) he (Lib.hid C') hk
  · rw [if_pos hth]
    have tpos := hT hth
    rcases pair_shape p m t hm with ⟨t0, hk⟩ | ⟨t0, hk⟩ | hk
    · omega
    · omega
    · exact serve_throw w lo G E vh vd h q d x th t l m fv p hf df ht hl hm (by omega) he (Lib.hid C') hth hk

end Go.Proofs.Ytkcogfgjabemfaa

namespace Go.Proofs.Ytkcogfgjabemfaa
open Go.RowKit
set_option linter.unusedVariables false
set_option linter.unusedSimpArgs false

theorem tk_drop {d : Dt} {m t : Nat} (ht : t ≤ 3) (hm : d.s.length = m + t) : d.s.drop m = tkOf d t := by
  have h := tk_at (d := d) ht (by omega)
  rw [← h]
  congr 1
  omega

theorem tkAt_one {W : World} {tv : Value} {b : Int} (h : TkAt W tv [b]) : ∃ gt mt kc, tv = .slice (some ⟨gt, mt, none⟩) 1 kc ∧ gt < W.heap.size ∧ W.cell? ⟨gt, mt, none⟩ = some (.int .i64 b) := by
  rcases h with h | ⟨gt, mt, kc, h1, h2, h3⟩
  · cases h
  · exact ⟨gt, mt, kc, h1, h2, h3 0 (by simp)⟩

theorem tkAt_two {W : World} {tv : Value} {a b : Int} (h : TkAt W tv [a, b]) : ∃ gt mt kc, tv = .slice (some ⟨gt, mt, none⟩) 2 kc ∧ gt < W.heap.size ∧ W.cell? ⟨gt, mt, none⟩ = some (.int .i64 a) ∧ W.cell? ⟨gt, mt + 1, none⟩ = some (.int .i64 b) := by
  rcases h with h | ⟨gt, mt, kc, h1, h2, h3⟩
  · cases h
  · exact ⟨gt, mt, kc, h1, h2, h3 0 (by simp), h3 1 (by simp)⟩

theorem int_index {b : Int} (h : inB b 0 7 = true) : ∃ j : Nat, b = (j : Int) ∧ j < 8 := by
  have := of_inB h
  exact ⟨b.toNat, by omega, by omega⟩

theorem svc_read {W : World} {lo G : Nat} {vh tv : Value} {h : Ht} {a b : Int} (H : HBx W lo G vh h) (hf : HtFine h) (ht : TkAt W tv [b]) :
    Calls Try.prog 134 #[.pointer (some ⟨G, 0, none⟩), tv] W (SvcOf W lo G vh (hSvc h 0 a b)) := by
  obtain ⟨gt, mt, kc, rfl, hl, x0⟩ := tkAt_one ht
  unfold hSvc
  rw [if_pos rfl]
  by_cases hb : inB b 0 7 = true
  · obtain ⟨j, rfl, hj⟩ := int_index hb
    rw [if_pos hb, Int.toNat_natCast]
    exact readStore_good W lo G vh h j gt mt 1 kc H hf (by omega) (by omega) hl x0 hj
  · have hb' : inB b 0 7 = false := by cases q : inB b 0 7; rfl; exact absurd q hb
    rw [if_neg hb]
    exact readStore_bad W lo G vh h b gt mt 1 kc H hf (by omega) (by omega) hl x0 hb'

theorem svc_write {W : World} {lo G : Nat} {vh tv : Value} {h : Ht} {a b : Int} (H : HBx W lo G vh h) (hf : HtFine h) (ht : TkAt W tv [a, b]) :
    Calls Try.prog 135 #[.pointer (some ⟨G, 0, none⟩), tv] W (SvcOf W lo G vh (hSvc h 1 a b)) := by
  obtain ⟨gt, mt, kc, rfl, hl, x0, x1⟩ := tkAt_two ht
  unfold hSvc
  rw [if_neg (by omega), if_pos rfl]
  by_cases hb : inB b 0 7 = true
  · obtain ⟨j, rfl, hj⟩ := int_index hb
    rw [if_pos hb, Int.toNat_natCast]
    exact writeStore_good W lo G vh h a j gt mt 2 kc H hf (by omega) (by omega) hl x0 x1 hj
  · have hb' : inB b 0 7 = false := by cases q : inB b 0 7; rfl; exact absurd q hb
    rw [if_neg hb]
    exact writeStore_bad W lo G vh h a b gt mt 2 kc H hf (by omega) (by omega) hl x0 x1 hb'

theorem svc_ask {W : World} {lo G : Nat} {vh tv : Value} {h : Ht} {a b : Int} (H : HBx W lo G vh h) (hf : HtFine h) (ht : TkAt W tv [b]) (hr : ∀ x y z q, vh = .agg #[x, y, z, .int .i64 h.c, q] → Row W lo z h.n) :
    Calls Try.prog 136 #[.pointer (some ⟨G, 0, none⟩), tv] W (SvcOf W lo G vh (hSvc h 2 a b)) := by
  obtain ⟨gt, mt, kc, rfl, hl, x0⟩ := tkAt_one ht
  unfold hSvc
  rw [if_neg (by omega), if_neg (by omega), if_pos rfl]
  cases hq : h.n with
  | nil =>
    have e : ({ h with n := ([] : List Int).tail } : Ht) = h := by
      cases h; simp at hq; subst hq; rfl
    rw [e]
    exact takeAnswer_none W lo G vh h b gt mt 1 kc H hf (by omega) (by omega) hl x0 hq
  | cons n0 ns =>
    obtain ⟨A1, k1, A2, k2, A3, k3, A4, k4, hv, _⟩ := hbx_form H
    have inj : ∀ {P : Nat → Prop}, P k3 → ∀ x y A n k c q, vh = .agg #[x, y, .slice A n k, c, q] → P k := by
      intro P hP x y A n k c q e
      rw [hv] at e
      simp only [Value.agg.injEq, Array.mk.injEq, List.cons.injEq, and_true, Value.slice.injEq] at e
      obtain ⟨_, _, ⟨_, _, rfl⟩, _⟩ := e
      exact hP
    by_cases hk : k3 = 1
    · exact takeAnswer_one W lo G vh h b n0 ns gt mt 1 kc H hf (by omega) (by omega) hl x0 hq hr (inj (P := fun k => k = 1) hk)
    · exact takeAnswer_more W lo G vh h b n0 ns gt mt 1 kc H hf (by omega) (by omega) hl x0 hq hr (inj (P := fun k => k ≠ 1) hk)

theorem svc_clock {W : World} {lo G : Nat} {vh tv : Value} {h : Ht} {a b : Int} (H : HBx W lo G vh h) (hf : HtFine h) :
    Calls Try.prog 137 #[.pointer (some ⟨G, 0, none⟩), tv] W (SvcOf W lo G vh (hSvc h 3 a b)) := by
  unfold hSvc
  rw [if_neg (by omega), if_neg (by omega), if_neg (by omega)]
  exact readClock_any W lo G vh h tv H hf

theorem throw_three (h : Ht) (a b : Int) (c : Nat) (hc : c = 3) : (hSvc h c a b).2.2 = 0 := by subst hc; rfl

/-- The service of a capability. -/
def svcFn (c : Nat) : FuncId := [134, 135, 136, 137].getD c 0

theorem svc_entered (c : Nat) (hc : c < 4) : EnteredF (svcFn c) := by
  rcases (by omega : c = 0 ∨ c = 1 ∨ c = 2 ∨ c = 3) with rfl | rfl | rfl | rfl
  · exact enters_of Try.func134 (by kernel_rfl) rfl
  · exact enters_of Try.func135 (by kernel_rfl) rfl
  · exact enters_of Try.func136 (by kernel_rfl) rfl
  · exact enters_of Try.func137 (by kernel_rfl) rfl

theorem serve_any (w : World) (lo G E : Nat) (vh vd : Value) (h : Ht) (d : Dt) (c : Nat) (p : Pair w lo G E vh vd h d) (hf : HtFine h) (df : DtFine d) (hc : c < 4) (hr : ∀ x y z q, vh = .agg #[x, y, z, .int .i64 h.c, q] → Row w lo z h.n) :
    Calls Try.prog 105 #[.agg #[.int .i64 (capTakes c : Nat), .int .i64 (capLeaves c : Nat), .func (.func (svcFn c)) #[] #[]], .pointer (some ⟨G, 0, none⟩), .pointer (some ⟨E, 0, none⟩)] w (ServeOf w lo G E (hServe h d c)) := by
  refine serve_cap w lo G E vh vd h d c (svcFn c) p hf df hc (svc_entered c hc) ?_ ?_
  · intro m hm W tv hb ht
    have hx := hbx_below p.host hb
    have hr' : ∀ x y z q, vh = .agg #[x, y, z, .int .i64 h.c, q] → Row W lo z h.n := fun x y z q e => row_below (hr x y z q e) hb
    rcases (by omega : c = 0 ∨ c = 1 ∨ c = 2 ∨ c = 3) with rfl | rfl | rfl | rfl
    · rw [tk_drop (t := 1) (by omega) hm] at ht; exact svc_read hx hf ht
    · rw [tk_drop (t := 2) (by omega) hm] at ht; exact svc_write hx hf ht
    · rw [tk_drop (t := 1) (by omega) hm] at ht; exact svc_ask hx hf ht hr'
    · exact svc_clock hx hf
  · intro hth
    rcases (by omega : c = 0 ∨ c = 1 ∨ c = 2 ∨ c = 3) with rfl | rfl | rfl | rfl
    · decide
    · decide
    · decide
    · exact absurd (throw_three h _ _ 3 rfl) hth

end Go.Proofs.Ytkcogfgjabemfaa

namespace Go.Proofs.Ytkcogfgjabemfaa
open Go.RowKit
set_option linter.unusedVariables false
set_option linter.unusedSimpArgs false

/-- What a call leaves behind the two pointers. -/
def CallOf (w : World) (lo G E : Nat) (r : Ht × Dt × Int) (e : Ending) (w' : World) : Prop := e = .returned (.int .i64 r.2.2) ∧ (∃ vh vd, Pair w' lo G E vh vd r.1 r.2.1) ∧ Below lo w w'

theorem call_quiet {w w' : World} {lo G E : Nat} {vh vd : Value} {h : Ht} {d : Dt} {t : Int} (p : Pair w lo G E vh vd h d) (hb : Below w.heap.size w w') : CallOf w lo G E (h, d, t) (.returned (.int .i64 t)) w' := ⟨rfl, ⟨vh, vd, pair_below p hb⟩, hb.mono (lo_le p)⟩

theorem call_end {w w2 w3 : World} {lo G E : Nat} {vh vd : Value} {h : Ht} {d : Dt} {t : Int} (p : Pair w2 lo G E vh vd h d) (b : Below lo w w2) (hb : Below w2.heap.size w2 w3) : CallOf w lo G E (h, d, t) (.returned (.int .i64 t)) w3 := ⟨rfl, ⟨vh, vd, pair_below p hb⟩, b.trans (hb.mono (lo_le p))⟩

theorem step_append_deeds6 {w : World} {ops : Array Oper} {o : Oper} {a : Act} {K : Act → World → Prop} {Q : Exit → Act → World → Prop} {E : Prop} (hgd : o.guard = none) (s x : Operand)
    (ho : o.op = .call { callee := .builtin .append, args := #[s, x], argTypes := #[25, 25] }) (hty : o.type = 25)
    (base : Nat) (v : Value) (ys : List Dd) (hs : a.eval s = v) (hown : DRow w base v ys) (u : Value) (zs : List Dd) (hx : a.eval x = u) (hz : Dds w u zs) (hl : ys.length + zs.length ≤ 1099511627776) (hbase : base ≤ w.heap.size)
    (h : ∀ v' w', DRow w' base v' (ys ++ zs) → w.grownBy w' v.ownBlock → (v'.ownBlock = v.ownBlock ∨ v'.ownBlock = some w.heap.size) → K (a.put o.dst v') w') :
    if Region.wanted o (yielded ops a.tmps) = true then Oper.wp Try.prog o a w K Q else E := by
  have hw : Region.wanted o (yielded ops a.tmps) = true := by simp [Region.wanted, hgd]
  rw [if_pos hw]
  obtain ⟨v', w', hrun, h2, h3, h4⟩ := run_append_deeds w base v ys hown u zs hz hl hbase
  unfold Oper.wp execOp
  simp only [ho, hty, resolve, invoke, builtin, Sem.run_bind, Sem.run_pure, Result.andThen_ok, List.map_toArray, List.map_cons, List.map_nil, hs, hx, hrun]
  exact h v' w' h2 h3 h4

theorem mine_hostQ {x y z c q q' : Value} {k : Nat} (hk : Mine (.agg #[x, y, z, c, q']) k) : q'.ownBlock = some k ∨ Mine (.agg #[x, y, z, c, q]) k := by
  obtain ⟨u, hu, e⟩ := (mine_agg (l := [x, y, z, c, q'])).1 hk
  simp only [List.mem_cons, List.not_mem_nil, or_false] at hu
  rcases hu with rfl | rfl | rfl | rfl | rfl
  · exact .inr ((mine_agg (l := [u, y, z, c, q])).2 ⟨u, by simp, e⟩)
  · exact .inr ((mine_agg (l := [x, u, z, c, q])).2 ⟨u, by simp, e⟩)
  · exact .inr ((mine_agg (l := [x, y, u, c, q])).2 ⟨u, by simp, e⟩)
  · exact .inr ((mine_agg (l := [x, y, z, u, q])).2 ⟨u, by simp, e⟩)
  · exact .inl e

/-- The deeds turned in a row of their own, and laid down in the host's block. -/
theorem pair_deeds {w w' : World} {lo G E : Nat} {x y z q q' vd : Value} {h : Ht} {d : Dt} {N : List Dd} (p : Pair w lo G E (.agg #[x, y, z, .int .i64 h.c, q]) vd h d) (hg : w.grownBy w' q.ownBlock) (hr : DRow w' lo q' N)
    (hat : q'.ownBlock = q.ownBlock ∨ q'.ownBlock = some w.heap.size) : Pair (w'.setCell ⟨G, 4, none⟩ q') lo G E (.agg #[x, y, z, .int .i64 h.c, q']) vd { h with d := N } d := by
  obtain ⟨⟨⟨x0, y0, z0, q0, eh, hwh⟩, ht, hn⟩, ⟨ex, ey, ez, rfl, hw⟩, p3, p4, p5, p6, p7⟩ := p
  simp only [Value.agg.injEq, Array.mk.injEq, List.cons.injEq, and_true, true_and] at eh
  obtain ⟨rfl, rfl, rfl, rfl⟩ := eh
  have hE := whole_lt hw
  have hG := whole_lt hwh
  have mq : ∀ k, q.ownBlock = some k → Mine (.agg #[x, y, z, .int .i64 h.c, q]) k := fun k e => (mine_agg (l := [x, y, z, .int .i64 h.c, q])).2 ⟨q, by simp, e⟩
  have nd : ∀ k, (k = E ∨ Mine (.agg #[ex, ey, ez, .int .i64 d.h, .int .i64 d.n, .string d.o]) k) → k < w.heap.size ∧ q.ownBlock ≠ some k ∧ k ≠ G := fun k hk =>
    ⟨by rcases hk with rfl | hk; exact hE; exact (datOf_mine p3 hk).2, fun e => p4 k (.inr (mq k e)) hk, fun e => p4 k (.inl e) hk⟩
  have hb : ∀ k, (k = E ∨ Mine (.agg #[ex, ey, ez, .int .i64 d.h, .int .i64 d.n, .string d.o]) k) → (w'.setCell ⟨G, 4, none⟩ q').heap[k]? = w.heap[k]? := fun k hk => by
    obtain ⟨n1, n2, n3⟩ := nd k hk
    rw [Below.heap_setCell w' _ _ k n3]
    exact hg.block k n1 (fun e => n2 e.symm)
  have hs : w.heap.size ≤ (w'.setCell ⟨G, 4, none⟩ q').heap.size := by simpa [World.setCell] using hg.size
  have own' : ∀ k, q'.ownBlock = some k → q.ownBlock = some k ∨ k = w.heap.size := fun k hk => by
    rcases hat with e | e
    · exact .inl (by rw [← e]; exact hk)
    · right; rw [e] at hk; injection hk with hk; exact hk.symm
  have nq : ∀ k, q'.ownBlock = some k → k ≠ G := fun k hk => by
    rcases own' k hk with e | rfl
    · exact hn k (mq k e)
    · omega
  have wG : Whole w' G 27 #[x, y, z, .int .i64 h.c, q] := whole_keep hwh (hg.block G hG (fun e => hn G (mq G e.symm) rfl))
  have hM := fun k (hk : Mine _ k) => (hostT_mine ht hk).2
  obtain ⟨a, b, c, f, e', h1, h2, h3, h4, q1, q2, q3, q4, q5, q6⟩ := ht
  simp only [Value.agg.injEq, Array.mk.injEq, List.cons.injEq, and_true, true_and] at e'
  obtain ⟨rfl, rfl, rfl, rfl⟩ := e'
  have kp : ∀ u : Value, Parted u q → (∀ k, u.ownBlock = some k → Mine (.agg #[x, y, z, .int .i64 h.c, q]) k) → ∀ k, u.ownBlock = some k → (w'.setCell ⟨G, 4, none⟩ q').heap[k]? = w.heap[k]? := fun u pu hu k hk =>
    (Below.heap_setCell w' _ _ k (hn k (hu k hk))).trans (hg.block k (hM k (hu k hk)) (fun e => pu k hk e.symm))
  have mx : ∀ k, x.ownBlock = some k → Mine (.agg #[x, y, z, .int .i64 h.c, q]) k := fun k e => (mine_agg (l := [x, y, z, .int .i64 h.c, q])).2 ⟨x, by simp, e⟩
  have my : ∀ k, y.ownBlock = some k → Mine (.agg #[x, y, z, .int .i64 h.c, q]) k := fun k e => (mine_agg (l := [x, y, z, .int .i64 h.c, q])).2 ⟨y, by simp, e⟩
  have mz : ∀ k, z.ownBlock = some k → Mine (.agg #[x, y, z, .int .i64 h.c, q]) k := fun k e => (mine_agg (l := [x, y, z, .int .i64 h.c, q])).2 ⟨z, by simp, e⟩
  have pt : ∀ u : Value, Parted u q → (∀ k, u.ownBlock = some k → Mine (.agg #[x, y, z, .int .i64 h.c, q]) k) → Parted u q' := fun u pu hu k hk hk2 => by
    rcases own' k hk2 with e | rfl
    · exact pu k hk e
    · have := hM _ (hu _ hk); omega
  refine ⟨⟨⟨x, y, z, q', rfl, whole_set wG 4 q'⟩, ⟨x, y, z, q', rfl, borow_keep h1 (kp x q3 mx), row_keep h2 (kp y q5 my), trow_keep h3 hs (kp z q6 mz), drow_keep hr (fun k hk => Below.heap_setCell w' _ _ k (nq k hk)), q1, q2, pt x q3 mx, q4, pt y q5 my, pt z q6 mz⟩, ?_⟩, ⟨ex, ey, ez, rfl, whole_keep hw (hb E (.inl rfl))⟩, ?_, ?_, p5, p6, p7⟩
  · intro k hk
    rcases mine_hostQ (q := q) hk with e | e
    · exact nq k e
    · exact hn k e
  · obtain ⟨a, b, c, e', r1, r2, r3, r4, s1, s2, s3, hh⟩ := p3
    simp only [Value.agg.injEq, Array.mk.injEq, List.cons.injEq, and_true, true_and] at e'
    obtain ⟨rfl, rfl, rfl⟩ := e'
    exact datOf_rows (row_keep r1 (fun k hk => hb k (.inr ((mine_agg (l := [ex, ey, ez, .int .i64 d.h, .int .i64 d.n, .string d.o])).2 ⟨ex, by simp, hk⟩)))) (row_keep r2 (fun k hk => hb k (.inr ((mine_agg (l := [ex, ey, ez, .int .i64 d.h, .int .i64 d.n, .string d.o])).2 ⟨ey, by simp, hk⟩)))) (row_keep r3 (fun k hk => hb k (.inr ((mine_agg (l := [ex, ey, ez, .int .i64 d.h, .int .i64 d.n, .string d.o])).2 ⟨ez, by simp, hk⟩)))) r4 s1 s2 s3
  · rintro k (rfl | hk) hq
    · exact p4 k (.inl rfl) hq
    · rcases mine_hostQ (q := q) hk with e | e
      · rcases own' k e with e | rfl
        · exact p4 k (.inr (mq k e)) hq
        · have := (nd _ hq).1; omega
      · exact p4 k (.inr e) hq

theorem mine_hostFifth {x y z c q : Value} {k : Nat} (e : q.ownBlock = some k) : Mine (.agg #[x, y, z, c, q]) k := (mine_agg (l := [x, y, z, c, q])).2 ⟨q, by simp, e⟩

theorem host_fifth {w : World} {G : Nat} {t : TypeId} {x y z c q : Value} (h : Whole w G t #[x, y, z, c, q]) : w.cell? ⟨G, 4, none⟩ = some q := whole_cell h 4

theorem pair_drow {w : World} {lo G E : Nat} {x y z q vd : Value} {h : Ht} {d : Dt} (p : Pair w lo G E (.agg #[x, y, z, .int .i64 h.c, q]) vd h d) : DRow w lo q h.d := by
  obtain ⟨a, b, c, f, e', h1, h2, h3, h4, _⟩ := p.host.2.1
  simp only [Value.agg.injEq, Array.mk.injEq, List.cons.injEq, and_true, true_and] at e'
  obtain ⟨rfl, rfl, rfl, rfl⟩ := e'
  exact h4

theorem pair_granted {w : World} {lo G E : Nat} {vh vd : Value} {h : Ht} {d : Dt} (p : Pair w lo G E vh vd h d) (hf : HtFine h) (c : Nat) (hc : c < 4) :
    ∃ g k1 A2 k2 A3 k3 A4 k4, vh = .agg #[.slice (some ⟨g, 0, none⟩) h.g.length k1, .slice A2 h.s.length k2, .slice A3 h.n.length k3, .int .i64 h.c, .slice A4 h.d.length k4] ∧
      Whole w G 27 #[.slice (some ⟨g, 0, none⟩) h.g.length k1, .slice A2 h.s.length k2, .slice A3 h.n.length k3, .int .i64 h.c, .slice A4 h.d.length k4] ∧ w.cell? ⟨g, c, none⟩ = some (.bool (h.g.getD c false)) ∧ g < w.heap.size := by
  obtain ⟨A1, k1, A2, k2, A3, k3, A4, k4, rfl, hw⟩ := hbx_form p.host
  obtain ⟨x, y, z, q, e, h1, _⟩ := p.host.2.1
  simp only [Value.agg.injEq, Array.mk.injEq, List.cons.injEq, and_true, true_and] at e
  obtain ⟨rfl, rfl, rfl, rfl⟩ := e
  have hl := fineH_g hf
  obtain ⟨g, cap, hv, hg1, hg2, _⟩ := borow_form h1 (by omega)
  simp only [Value.slice.injEq, true_and] at hv
  obtain ⟨rfl, rfl⟩ := hv
  refine ⟨g, _, A2, k2, A3, k3, A4, k4, rfl, hw, ?_, hg2⟩
  have hx := borow_cell h1 c (by omega)
  rw [hx, show h.g.getD c false = h.g[c] by simp [List.getD, show c < h.g.length by omega]]

set_option maxRecDepth 100000 in
set_option maxHeartbeats 1000000 in
theorem call_denied (w : World) (lo G E : Nat) (vh vd : Value) (h : Ht) (d : Dt) (c : Nat) (p : Pair w lo G E vh vd h d) (hf : HtFine h) (df : DtFine d) (hc : c < 4) (hg0 : h.g.getD c false = false) :
    Calls Try.prog 55 #[.pointer (some ⟨G, 0, none⟩), .pointer (some ⟨E, 0, none⟩), .int .i64 (c : Int)] w (CallOf w lo G E (h, d, -100)) := by
  have PP := Lib.hid p
  obtain ⟨g, k1, A2, k2, A3, k3, A4, k4, rfl, hw, hx, hg⟩ := pair_granted p hf c hc
  obtain ⟨c0, c1, c2, c3, c4⟩ := five_cells hw
  have zg := whole_lt hw
  have HG := Lib.hid (fineH_g hf)
  have i0 : (0 : Int) ≤ (c : Int) := by omega
  have i1 : (c : Int) < h.g.length := by have := HG.out; omega
  have i2 : c < h.g.length := by omega
  rw [hg0] at hx
  clear hw p hf df
  go_enter Try.func55, Try.ntmps55
  go_wp2
  refine bodyPost_ret (v := .int .i64 (-100)) (by simp [results, Try.results55, go_sem, *]) rfl ?_
  exact call_quiet PP.out (by repeat (first | with_reducible exact Below.refl _ _ | with_reducible refine below_alloc ?_ _ | with_reducible refine below_drewN ?_ _ | with_reducible refine Below.drew ?_))

set_option maxRecDepth 100000 in
set_option maxHeartbeats 1000000 in
theorem call_space (w : World) (lo G E : Nat) (vh vd : Value) (h : Ht) (d : Dt) (c : Nat) (p : Pair w lo G E vh vd h d) (hf : HtFine h) (df : DtFine d) (hc : c < 4) (hg1 : h.g.getD c false = true) (hq : h.d.length = 40) :
    Calls Try.prog 55 #[.pointer (some ⟨G, 0, none⟩), .pointer (some ⟨E, 0, none⟩), .int .i64 (c : Int)] w (CallOf w lo G E (h, d, -8)) := by
  have PP := Lib.hid p
  obtain ⟨g, k1, A2, k2, A3, k3, A4, k4, rfl, hw, hx, hg⟩ := pair_granted p hf c hc
  obtain ⟨c0, c1, c2, c3, c4⟩ := five_cells hw
  have zg := whole_lt hw
  have HG := Lib.hid (fineH_g hf)
  have i0 : (0 : Int) ≤ (c : Int) := by omega
  have i1 : (c : Int) < h.g.length := by have := HG.out; omega
  have i2 : c < h.g.length := by omega
  rw [hg1] at hx
  have hq1 : (40 : Int) ≤ (h.d.length : Int) := by omega
  have hq2 : 40 ≤ h.d.length := by omega
  clear hw p hf df hq
  go_enter Try.func55, Try.ntmps55
  go_wp2
  refine bodyPost_ret (v := .int .i64 (-8)) (by simp [results, Try.results55, go_sem, *]) rfl ?_
  exact call_quiet PP.out (by repeat (first | with_reducible exact Below.refl _ _ | with_reducible refine below_alloc ?_ _ | with_reducible refine below_drewN ?_ _ | with_reducible refine Below.drew ?_))

set_option maxRecDepth 100000 in
set_option maxHeartbeats 1000000 in
theorem capTable_any (w : World) :
    Calls Try.prog 104 #[] w fun e w' => e = .returned (.agg #[.int .i64 1, .int .i64 1, .func (.func 134) #[] #[], .int .i64 2, .int .i64 0, .func (.func 135) #[] #[], .int .i64 1, .int .i64 1, .func (.func 136) #[] #[], .int .i64 0, .int .i64 1, .func (.func 137) #[] #[]]) ∧ Below w.heap.size w w' := by
  go_enter Try.func104, Try.ntmps104
  go_wp2
  refine bodyPost_ret (v := .agg #[.int .i64 1, .int .i64 1, .func (.func 134) #[] #[], .int .i64 2, .int .i64 0, .func (.func 135) #[] #[], .int .i64 1, .int .i64 1, .func (.func 136) #[] #[], .int .i64 0, .int .i64 1, .func (.func 137) #[] #[]]) (by simp [results, Try.results104, go_sem, *]) rfl ?_
  exact ⟨rfl, by repeat (first | with_reducible exact Below.refl _ _ | with_reducible refine below_alloc ?_ _ | with_reducible refine below_drewN ?_ _ | with_reducible refine Below.drew ?_)⟩

set_option maxRecDepth 100000 in
@[go_sem] theorem cap_at0 (w : World) : (Instr.index 138 (.agg #[.int .i64 1, .int .i64 1, .func (.func 134) #[] #[], .int .i64 2, .int .i64 0, .func (.func 135) #[] #[], .int .i64 1, .int .i64 1, .func (.func 136) #[] #[], .int .i64 0, .int .i64 1, .func (.func 137) #[] #[]]) (.int .i64 0)).run Try.prog w = .ok (.agg #[.int .i64 1, .int .i64 1, .func (.func 134) #[] #[]]) w := by first | rfl | kernel_rfl

set_option maxRecDepth 100000 in
@[go_sem] theorem cap_at1 (w : World) : (Instr.index 138 (.agg #[.int .i64 1, .int .i64 1, .func (.func 134) #[] #[], .int .i64 2, .int .i64 0, .func (.func 135) #[] #[], .int .i64 1, .int .i64 1, .func (.func 136) #[] #[], .int .i64 0, .int .i64 1, .func (.func 137) #[] #[]]) (.int .i64 1)).run Try.prog w = .ok (.agg #[.int .i64 2, .int .i64 0, .func (.func 135) #[] #[]]) w := by first | rfl | kernel_rfl

set_option maxRecDepth 100000 in
@[go_sem] theorem cap_at2 (w : World) : (Instr.index 138 (.agg #[.int .i64 1, .int .i64 1, .func (.func 134) #[] #[], .int .i64 2, .int .i64 0, .func (.func 135) #[] #[], .int .i64 1, .int .i64 1, .func (.func 136) #[] #[], .int .i64 0, .int .i64 1, .func (.func 137) #[] #[]]) (.int .i64 2)).run Try.prog w = .ok (.agg #[.int .i64 1, .int .i64 1, .func (.func 136) #[] #[]]) w := by first | rfl | kernel_rfl

set_option maxRecDepth 100000 in
@[go_sem] theorem cap_at3 (w : World) : (Instr.index 138 (.agg #[.int .i64 1, .int .i64 1, .func (.func 134) #[] #[], .int .i64 2, .int .i64 0, .func (.func 135) #[] #[], .int .i64 1, .int .i64 1, .func (.func 136) #[] #[], .int .i64 0, .int .i64 1, .func (.func 137) #[] #[]]) (.int .i64 3)).run Try.prog w = .ok (.agg #[.int .i64 0, .int .i64 1, .func (.func 137) #[] #[]]) w := by first | rfl | kernel_rfl

set_option maxRecDepth 100000 in
set_option maxHeartbeats 1000000 in
theorem call_throw0 (w : World) (lo G E : Nat) (vh vd : Value) (h : Ht) (d : Dt) (p : Pair w lo G E vh vd h d) (hf : HtFine h) (df : DtFine d) (q : Ht) (d' : Dt) (x : Dd) (th : Int) (hg1 : h.g.getD 0 false = true) (hq : ¬ h.d.length = 40) (hr : ∀ x y z q, vh = .agg #[x, y, z, .int .i64 h.c, q] → Row w lo z h.n) (hs : hServe h d 0 = (q, d', x, th)) (hth : th ≠ 0) :
    Calls Try.prog 55 #[.pointer (some ⟨G, 0, none⟩), .pointer (some ⟨E, 0, none⟩), .int .i64 0] w (CallOf w lo G E (q, d', th)) := by
  have t1 : (th != 0) = true := by rw [bne_iff_ne]; exact hth
  have PP := Lib.hid p
  obtain ⟨g, k1, A2, k2, A3, k3, A4, k4, rfl, hw, hx, hg⟩ := pair_granted p hf 0 (by omega)
  obtain ⟨c0, c1, c2, c3, c4⟩ := five_cells hw
  have zg := whole_lt hw
  have HG := Lib.hid (fineH_g hf)
  have SV : Hid (∀ W, Below w.heap.size w W → Calls Try.prog 105 #[.agg #[.int .i64 1, .int .i64 1, .func (.func 134) #[] #[]], .pointer (some ⟨G, 0, none⟩), .pointer (some ⟨E, 0, none⟩)] W (ServeOf W lo G E (q, d', x, th))) := Lib.hid fun W hb => by
    have h9 := serve_any W lo G E _ vd h d 0 (pair_below p hb) hf df (by omega) (fun x y z q e => row_below (hr x y z q e) hb)
    rw [hs] at h9
    exact h9
  rw [hg1] at hx
  have i0 : (0 : Int) < h.g.length := by have := HG.out; omega
  have i2 : 0 < h.g.length := by have := HG.out; omega
  have i3 : h.d.length < 40 := by have := fineH_d hf; omega
  have i4 : (h.d.length : Int) < 40 := by omega
  have lw := lo_le p
  clear hw p hf df hr hs hq HG
  go_enter Try.func55, Try.ntmps55
  go_wp2_with fail
  refine (capTable_any _).mono ?_
  rintro e w1 ⟨rfl, hb1⟩
  have HB1 := Lib.hid hb1
  have hz1 := hb1.size
  clear hb1
  go_wp2_with fail
  refine (SV.out _ (by repeat (first | with_reducible exact HB1.out | with_reducible exact Below.refl _ _ | with_reducible refine below_alloc ?_ _ | with_reducible refine below_drewN ?_ _ | with_reducible refine Below.drew ?_))).mono ?_
  rintro e w2 ⟨he2, ⟨vh', vd', p2⟩, hb2⟩
  dsimp only at he2
  subst he2
  have P2 := Lib.hid p2
  have B2 := Lib.hid ((HB1.out.mono lw).trans hb2)
  clear p2 hb2
  go_wp2_with fail
  refine bodyPost_ret (v := .int .i64 th) (by simp [results, Try.results55, go_sem, *]) rfl ?_
  exact call_end P2.out B2.out (by repeat (first | with_reducible exact Below.refl _ _ | with_reducible refine below_alloc ?_ _ | with_reducible refine below_drewN ?_ _ | with_reducible refine Below.drew ?_))

set_option maxRecDepth 100000 in
set_option maxHeartbeats 1000000 in
theorem call_throw1 (w : World) (lo G E : Nat) (vh vd : Value) (h : Ht) (d : Dt) (p : Pair w lo G E vh vd h d) (hf : HtFine h) (df : DtFine d) (q : Ht) (d' : Dt) (x : Dd) (th : Int) (hg1 : h.g.getD 1 false = true) (hq : ¬ h.d.length = 40) (hr : ∀ x y z q, vh = .agg #[x, y, z, .int .i64 h.c, q] → Row w lo z h.n) (hs : hServe h d 1 = (q, d', x, th)) (hth : th ≠ 0) :
    Calls Try.prog 55 #[.pointer (some ⟨G, 0, none⟩), .pointer (some ⟨E, 0, none⟩), .int .i64 1] w (CallOf w lo G E (q, d', th)) := by
  have t1 : (th != 0) = true := by rw [bne_iff_ne]; exact hth
  have PP := Lib.hid p
  obtain ⟨g, k1, A2, k2, A3, k3, A4, k4, rfl, hw, hx, hg⟩ := pair_granted p hf 1 (by omega)
  obtain ⟨c0, c1, c2, c3, c4⟩ := five_cells hw
  have zg := whole_lt hw
  have HG := Lib.hid (fineH_g hf)
  have SV : Hid (∀ W, Below w.heap.size w W → Calls Try.prog 105 #[.agg #[.int .i64 2, .int .i64 0, .func (.func 135) #[] #[]], .pointer (some ⟨G, 0, none⟩), .pointer (some ⟨E, 0, none⟩)] W (ServeOf W lo G E (q, d', x, th))) := Lib.hid fun W hb => by
    have h9 := serve_any W lo G E _ vd h d 1 (pair_below p hb) hf df (by omega) (fun x y z q e => row_below (hr x y z q e) hb)
    rw [hs] at h9
    exact h9
  rw [hg1] at hx
  have i0 : (1 : Int) < h.g.length := by have := HG.out; omega
  have i2 : 1 < h.g.length := by have := HG.out; omega
  have i3 : h.d.length < 40 := by have := fineH_d hf; omega
  have i4 : (h.d.length : Int) < 40 := by omega
  have lw := lo_le p
  clear hw p hf df hr hs hq HG
  go_enter Try.func55, Try.ntmps55
  go_wp2_with fail
  refine (capTable_any _).mono ?_
  rintro e w1 ⟨rfl, hb1⟩
  have HB1 := Lib.hid hb1
  have hz1 := hb1.size
  clear hb1
  go_wp2_with fail
  refine (SV.out _ (by repeat (first | with_reducible exact HB1.out | with_reducible exact Below.refl _ _ | with_reducible refine below_alloc ?_ _ | with_reducible refine below_drewN ?_ _ | with_reducible refine Below.drew ?_))).mono ?_
  rintro e w2 ⟨he2, ⟨vh', vd', p2⟩, hb2⟩
  dsimp only at he2
  subst he2
  have P2 := Lib.hid p2
  have B2 := Lib.hid ((HB1.out.mono lw).trans hb2)
  clear p2 hb2
  go_wp2_with fail
  refine bodyPost_ret (v := .int .i64 th) (by simp [results, Try.results55, go_sem, *]) rfl ?_
  exact call_end P2.out B2.out (by repeat (first | with_reducible exact Below.refl _ _ | with_reducible refine below_alloc ?_ _ | with_reducible refine below_drewN ?_ _ | with_reducible refine Below.drew ?_))

set_option maxRecDepth 100000 in
set_option maxHeartbeats 1000000 in
theorem call_throw2 (w : World) (lo G E : Nat) (vh vd : Value) (h : Ht) (d : Dt) (p : Pair w lo G E vh vd h d) (hf : HtFine h) (df : DtFine d) (q : Ht) (d' : Dt) (x : Dd) (th : Int) (hg1 : h.g.getD 2 false = true) (hq : ¬ h.d.length = 40) (hr : ∀ x y z q, vh = .agg #[x, y, z, .int .i64 h.c, q] → Row w lo z h.n) (hs : hServe h d 2 = (q, d', x, th)) (hth : th ≠ 0) :
    Calls Try.prog 55 #[.pointer (some ⟨G, 0, none⟩), .pointer (some ⟨E, 0, none⟩), .int .i64 2] w (CallOf w lo G E (q, d', th)) := by
  have t1 : (th != 0) = true := by rw [bne_iff_ne]; exact hth
  have PP := Lib.hid p
  obtain ⟨g, k1, A2, k2, A3, k3, A4, k4, rfl, hw, hx, hg⟩ := pair_granted p hf 2 (by omega)
  obtain ⟨c0, c1, c2, c3, c4⟩ := five_cells hw
  have zg := whole_lt hw
  have HG := Lib.hid (fineH_g hf)
  have SV : Hid (∀ W, Below w.heap.size w W → Calls Try.prog 105 #[.agg #[.int .i64 1, .int .i64 1, .func (.func 136) #[] #[]], .pointer (some ⟨G, 0, none⟩), .pointer (some ⟨E, 0, none⟩)] W (ServeOf W lo G E (q, d', x, th))) := Lib.hid fun W hb => by
    have h9 := serve_any W lo G E _ vd h d 2 (pair_below p hb) hf df (by omega) (fun x y z q e => row_below (hr x y z q e) hb)
    rw [hs] at h9
    exact h9
  rw [hg1] at hx
  have i0 : (2 : Int) < h.g.length := by have := HG.out; omega
  have i2 : 2 < h.g.length := by have := HG.out; omega
  have i3 : h.d.length < 40 := by have := fineH_d hf; omega
  have i4 : (h.d.length : Int) < 40 := by omega
  have lw := lo_le p
  clear hw p hf df hr hs hq HG
  go_enter Try.func55, Try.ntmps55
  go_wp2_with fail
  refine (capTable_any _).mono ?_
  rintro e w1 ⟨rfl, hb1⟩
  have HB1 := Lib.hid hb1
  have hz1 := hb1.size
  clear hb1
  go_wp2_with fail
  refine (SV.out _ (by repeat (first | with_reducible exact HB1.out | with_reducible exact Below.refl _ _ | with_reducible refine below_alloc ?_ _ | with_reducible refine below_drewN ?_ _ | with_reducible refine Below.drew ?_))).mono ?_
  rintro e w2 ⟨he2, ⟨vh', vd', p2⟩, hb2⟩
  dsimp only at he2
  subst he2
  have P2 := Lib.hid p2
  have B2 := Lib.hid ((HB1.out.mono lw).trans hb2)
  clear p2 hb2
  go_wp2_with fail
  refine bodyPost_ret (v := .int .i64 th) (by simp [results, Try.results55, go_sem, *]) rfl ?_
  exact call_end P2.out B2.out (by repeat (first | with_reducible exact Below.refl _ _ | with_reducible refine below_alloc ?_ _ | with_reducible refine below_drewN ?_ _ | with_reducible refine Below.drew ?_))

set_option maxRecDepth 100000 in
set_option maxHeartbeats 1000000 in
theorem call_throw3 (w : World) (lo G E : Nat) (vh vd : Value) (h : Ht) (d : Dt) (p : Pair w lo G E vh vd h d) (hf : HtFine h) (df : DtFine d) (q : Ht) (d' : Dt) (x : Dd) (th : Int) (hg1 : h.g.getD 3 false = true) (hq : ¬ h.d.length = 40) (hr : ∀ x y z q, vh = .agg #[x, y, z, .int .i64 h.c, q] → Row w lo z h.n) (hs : hServe h d 3 = (q, d', x, th)) (hth : th ≠ 0) :
    Calls Try.prog 55 #[.pointer (some ⟨G, 0, none⟩), .pointer (some ⟨E, 0, none⟩), .int .i64 3] w (CallOf w lo G E (q, d', th)) := by
  have t1 : (th != 0) = true := by rw [bne_iff_ne]; exact hth
  have PP := Lib.hid p
  obtain ⟨g, k1, A2, k2, A3, k3, A4, k4, rfl, hw, hx, hg⟩ := pair_granted p hf 3 (by omega)
  obtain ⟨c0, c1, c2, c3, c4⟩ := five_cells hw
  have zg := whole_lt hw
  have HG := Lib.hid (fineH_g hf)
  have SV : Hid (∀ W, Below w.heap.size w W → Calls Try.prog 105 #[.agg #[.int .i64 0, .int .i64 1, .func (.func 137) #[] #[]], .pointer (some ⟨G, 0, none⟩), .pointer (some ⟨E, 0, none⟩)] W (ServeOf W lo G E (q, d', x, th))) := Lib.hid fun W hb => by
    have h9 := serve_any W lo G E _ vd h d 3 (pair_below p hb) hf df (by omega) (fun x y z q e => row_below (hr x y z q e) hb)
    rw [hs] at h9
    exact h9
  rw [hg1] at hx
  have i0 : (3 : Int) < h.g.length := by have := HG.out; omega
  have i2 : 3 < h.g.length := by have := HG.out; omega
  have i3 : h.d.length < 40 := by have := fineH_d hf; omega
  have i4 : (h.d.length : Int) < 40 := by omega
  have lw := lo_le p
  clear hw p hf df hr hs hq HG
  go_enter Try.func55, Try.ntmps55
  go_wp2_with fail
  refine (capTable_any _).mono ?_
  rintro e w1 ⟨rfl, hb1⟩
  have HB1 := Lib.hid hb1
  have hz1 := hb1.size
  clear hb1
  go_wp2_with fail
  refine (SV.out _ (by repeat (first | with_reducible exact HB1.out | with_reducible exact Below.refl _ _ | with_reducible refine below_alloc ?_ _ | with_reducible refine below_drewN ?_ _ | with_reducible refine Below.drew ?_))).mono ?_
  rintro e w2 ⟨he2, ⟨vh', vd', p2⟩, hb2⟩
  dsimp only at he2
  subst he2
  have P2 := Lib.hid p2
  have B2 := Lib.hid ((HB1.out.mono lw).trans hb2)
  clear p2 hb2
  go_wp2_with fail
  refine bodyPost_ret (v := .int .i64 th) (by simp [results, Try.results55, go_sem, *]) rfl ?_
  exact call_end P2.out B2.out (by repeat (first | with_reducible exact Below.refl _ _ | with_reducible refine below_alloc ?_ _ | with_reducible refine below_drewN ?_ _ | with_reducible refine Below.drew ?_))

set_option maxRecDepth 100000 in
set_option maxHeartbeats 1000000 in
theorem call_fine0 (w : World) (lo G E : Nat) (vh vd : Value) (h : Ht) (d : Dt) (p : Pair w lo G E vh vd h d) (hf : HtFine h) (df : DtFine d) (q : Ht) (d' : Dt) (x : Dd) (hg1 : h.g.getD 0 false = true) (hq : ¬ h.d.length = 40) (hr : ∀ x y z q, vh = .agg #[x, y, z, .int .i64 h.c, q] → Row w lo z h.n) (hs : hServe h d 0 = (q, d', x, 0)) (hql : q.d.length ≤ 40) :
    Calls Try.prog 55 #[.pointer (some ⟨G, 0, none⟩), .pointer (some ⟨E, 0, none⟩), .int .i64 0] w (CallOf w lo G E ({ q with d := q.d ++ [⟨0, x.a, x.b, x.r⟩] }, d', 0)) := by
  have PP := Lib.hid p
  obtain ⟨g, k1, A2, k2, A3, k3, A4, k4, rfl, hw, hx, hg⟩ := pair_granted p hf 0 (by omega)
  obtain ⟨c0, c1, c2, c3, c4⟩ := five_cells hw
  have zg := whole_lt hw
  have HG := Lib.hid (fineH_g hf)
  have SV : Hid (∀ W, Below w.heap.size w W → Calls Try.prog 105 #[.agg #[.int .i64 1, .int .i64 1, .func (.func 134) #[] #[]], .pointer (some ⟨G, 0, none⟩), .pointer (some ⟨E, 0, none⟩)] W (ServeOf W lo G E (q, d', x, 0))) := Lib.hid fun W hb => by
    have h9 := serve_any W lo G E _ vd h d 0 (pair_below p hb) hf df (by omega) (fun x y z q e => row_below (hr x y z q e) hb)
    rw [hs] at h9
    exact h9
  rw [hg1] at hx
  have i0 : (0 : Int) < h.g.length := by have := HG.out; omega
  have i2 : 0 < h.g.length := by have := HG.out; omega
  have i3 : h.d.length < 40 := by have := fineH_d hf; omega
  have i4 : (h.d.length : Int) < 40 := by omega
  have lw := lo_le p
  clear hw p hf df hr hs hq HG
  go_enter Try.func55, Try.ntmps55
  go_wp2_with fail
  refine (capTable_any _).mono ?_
  rintro e w1 ⟨rfl, hb1⟩
  have HB1 := Lib.hid hb1
  have hz1 := hb1.size
  clear hb1
  go_wp2_with fail
  refine (SV.out _ (by repeat (first | with_reducible exact HB1.out | with_reducible exact Below.refl _ _ | with_reducible refine below_alloc ?_ _ | with_reducible refine below_drewN ?_ _ | with_reducible refine Below.drew ?_))).mono ?_
  rintro e w2 ⟨he2, ⟨vh', vd', p2⟩, hb2⟩
  dsimp only at he2
  subst he2
  have P2 := Lib.hid p2
  have B2 := Lib.hid ((HB1.out.mono lw).trans hb2)
  clear p2 hb2
  go_wp2_with fail
  generalize hW3 : World.alloc _ _ = W3
  have P3 : Pair W3 lo G E vh' vd' q d' := by rw [← hW3]; exact pair_below P2.out (below_alloc (Below.refl _ _) _)
  have B3 : Below lo w W3 := by rw [← hW3]; exact B2.out.trans ((below_alloc (Below.refl _ _) _).mono (lo_le P2.out))
  have D3 : Whole W3 w2.heap.size 37 #[.int .i64 0, .int .i64 x.a, .int .i64 x.b, .int .i64 x.r] := by rw [← hW3]; exact whole_new w2 _ _
  clear hW3
  obtain ⟨a1, j1, a2, j2, a3, j3, a4, j4, rfl, GB3⟩ := hbx_form P3.host
  have DR3 : DRow W3 lo (.slice a4 q.d.length j4) q.d := pair_drow P3
  obtain ⟨e0, e1, e2, e3, e4⟩ := five_cells GB3
  obtain ⟨y0, y1, y2, y3⟩ := deed_cells D3
  have zG3 := whole_lt GB3
  have zD3 := whole_lt D3
  have nG := fun k (hk : (Value.slice a4 q.d.length j4).ownBlock = some k) => P3.host.2.2 k (mine_hostFifth hk)
  have lw3 := lo_le P3
  have lG3 := P3.loG
  have SV3 := Lib.hid (And.intro P3 (And.intro GB3 (And.intro DR3 (And.intro B3 nG))))
  have LN4 : Hid ((q.d ++ [(⟨0, x.a, x.b, x.r⟩ : Dd)]).length = q.d.length + 1) := Lib.hid (by rw [List.length_append]; rfl)
  clear P3 GB3 DR3 B3 D3 nG
  go_region_law (first
    | (refine step_append_deeds6 (w := (W3.alloc (.cells #[.int .i64 0, .int .i64 x.a, .int .i64 x.b, .int .i64 x.r] 37)).drew) rfl (.tmp 41) (.tmp 43) rfl rfl lo (.slice a4 q.d.length j4) q.d rfl (by exact drow_alloc SV3.out.2.2.1 _) _ [⟨0, x.a, x.b, x.r⟩] rfl (by exact dds_oneAt W3 ⟨0, x.a, x.b, x.r⟩ rfl) (by simp; omega) (by simp; omega) ?_
       intro v4 w4 hr4 hg4 hat4
       obtain ⟨_, C4, i4, rfl, _⟩ := drow_dds hr4
       rw [LN4.out] at hr4 hat4 ⊢
       obtain ⟨P3, GB3, DR3, B3, nG⟩ := SV3.out
       have BA : Below W3.heap.size W3 (W3.alloc (.cells #[.int .i64 0, .int .i64 x.a, .int .i64 x.b, .int .i64 x.r] 37)).drew := (below_alloc (Below.refl _ _) _).drew
       have PP4 := Lib.hid (pair_deeds (pair_below P3 BA) hg4 hr4 hat4)
       have GB4 := whole_keep (whole_below GB3 BA) (hg4.block G (Nat.lt_of_lt_of_le zG3 BA.size) (fun e => nG G e.symm rfl))
       have u4 := host_fifth GB4
       have fG := whole_free GB4
       have l4 := whole_lt GB4
       have BL4 := Lib.hid (((B3.trans (BA.mono lw3)).grown hg4 (Nat.le_trans lw3 BA.size) (fun k hk => (drow_lt DR3 k hk).1)).setCell (p := ⟨G, 4, none⟩) lG3 (.slice C4 (q.d.length + 1) i4))
       clear hg4 hr4 hat4 P3 GB3 DR3 B3 nG BA GB4))
  all_goals
    go_wp2
    refine bodyPost_ret (v := .int .i64 0) (by simp [results, Try.results55, go_sem, *]) rfl ?_
    exact ⟨rfl, ⟨_, _, PP4.out⟩, BL4.out⟩

set_option maxRecDepth 100000 in
set_option maxHeartbeats 1000000 in
theorem call_fine1 (w : World) (lo G E : Nat) (vh vd : Value) (h : Ht) (d : Dt) (p : Pair w lo G E vh vd h d) (hf : HtFine h) (df : DtFine d) (q : Ht) (d' : Dt) (x : Dd) (hg1 : h.g.getD 1 false = true) (hq : ¬ h.d.length = 40) (hr : ∀ x y z q, vh = .agg #[x, y, z, .int .i64 h.c, q] → Row w lo z h.n) (hs : hServe h d 1 = (q, d', x, 0)) (hql : q.d.length ≤ 40) :
    Calls Try.prog 55 #[.pointer (some ⟨G, 0, none⟩), .pointer (some ⟨E, 0, none⟩), .int .i64 1] w (CallOf w lo G E ({ q with d := q.d ++ [⟨1, x.a, x.b, x.r⟩] }, d', 0)) := by
  have PP := Lib.hid p
  obtain ⟨g, k1, A2, k2, A3, k3, A4, k4, rfl, hw, hx, hg⟩ := pair_granted p hf 1 (by omega)
  obtain ⟨c0, c1, c2, c3, c4⟩ := five_cells hw
  have zg := whole_lt hw
  have HG := Lib.hid (fineH_g hf)
  have SV : Hid (∀ W, Below w.heap.size w W → Calls Try.prog 105 #[.agg #[.int .i64 2, .int .i64 0, .func (.func 135) #[] #[]], .pointer (some ⟨G, 0, none⟩), .pointer (some ⟨E, 0, none⟩)] W (ServeOf W lo G E (q, d', x, 0))) := Lib.hid fun W hb => by
    have h9 := serve_any W lo G E _ vd h d 1 (pair_below p hb) hf df (by omega) (fun x y z q e => row_below (hr x y z q e) hb)
    rw [hs] at h9
    exact h9
  rw [hg1] at hx
  have i0 : (1 : Int) < h.g.length := by have := HG.out; omega
  have i2 : 1 < h.g.length := by have := HG.out; omega
  have i3 : h.d.length < 40 := by have := fineH_d hf; omega
  have i4 : (h.d.length : Int) < 40 := by omega
  have lw := lo_le p
  clear hw p hf df hr hs hq HG
  go_enter Try.func55, Try.ntmps55
  go_wp2_with fail
  refine (capTable_any _).mono ?_
  rintro e w1 ⟨rfl, hb1⟩
  have HB1 := Lib.hid hb1
  have hz1 := hb1.size
  clear hb1
  go_wp2_with fail
  refine (SV.out _ (by repeat (first | with_reducible exact HB1.out | with_reducible exact Below.refl _ _ | with_reducible refine below_alloc ?_ _ | with_reducible refine below_drewN ?_ _ | with_reducible refine Below.drew ?_))).mono ?_
  rintro e w2 ⟨he2, ⟨vh', vd', p2⟩, hb2⟩
  dsimp only at he2
  subst he2
  have P2 := Lib.hid p2
  have B2 := Lib.hid ((HB1.out.mono lw).trans hb2)
  clear p2 hb2
  go_wp2_with fail
  generalize hW3 : World.alloc _ _ = W3
  have P3 : Pair W3 lo G E vh' vd' q d' := by rw [← hW3]; exact pair_below P2.out (below_alloc (Below.refl _ _) _)
  have B3 : Below lo w W3 := by rw [← hW3]; exact B2.out.trans ((below_alloc (Below.refl _ _) _).mono (lo_le P2.out))
  have D3 : Whole W3 w2.heap.size 37 #[.int .i64 1, .int .i64 x.a, .int .i64 x.b, .int .i64 x.r] := by rw [← hW3]; exact whole_new w2 _ _
  clear hW3
  obtain ⟨a1, j1, a2, j2, a3, j3, a4, j4, rfl, GB3⟩ := hbx_form P3.host
  have DR3 : DRow W3 lo (.slice a4 q.d.length j4) q.d := pair_drow P3
  obtain ⟨e0, e1, e2, e3, e4⟩ := five_cells GB3
  obtain ⟨y0, y1, y2, y3⟩ := deed_cells D3
  have zG3 := whole_lt GB3
  have zD3 := whole_lt D3
  have nG := fun k (hk : (Value.slice a4 q.d.length j4).ownBlock = some k) => P3.host.2.2 k (mine_hostFifth hk)
  have lw3 := lo_le P3
  have lG3 := P3.loG
  have SV3 := Lib.hid (And.intro P3 (And.intro GB3 (And.intro DR3 (And.intro B3 nG))))
  have LN4 : Hid ((q.d ++ [(⟨1, x.a, x.b, x.r⟩ : Dd)]).length = q.d.length + 1) := Lib.hid (by rw [List.length_append]; rfl)
  clear P3 GB3 DR3 B3 D3 nG
  go_region_law (first
    | (refine step_append_deeds6 (w := (W3.alloc (.cells #[.int .i64 1, .int .i64 x.a, .int .i64 x.b, .int .i64 x.r] 37)).drew) rfl (.tmp 41) (.tmp 43) rfl rfl lo (.slice a4 q.d.length j4) q.d rfl (by exact drow_alloc SV3.out.2.2.1 _) _ [⟨1, x.a, x.b, x.r⟩] rfl (by exact dds_oneAt W3 ⟨1, x.a, x.b, x.r⟩ rfl) (by simp; omega) (by simp; omega) ?_
       intro v4 w4 hr4 hg4 hat4
       obtain ⟨_, C4, i4, rfl, _⟩ := drow_dds hr4
       rw [LN4.out] at hr4 hat4 ⊢
       obtain ⟨P3, GB3, DR3, B3, nG⟩ := SV3.out
       have BA : Below W3.heap.size W3 (W3.alloc (.cells #[.int .i64 1, .int .i64 x.a, .int .i64 x.b, .int .i64 x.r] 37)).drew := (below_alloc (Below.refl _ _) _).drew
       have PP4 := Lib.hid (pair_deeds (pair_below P3 BA) hg4 hr4 hat4)
       have GB4 := whole_keep (whole_below GB3 BA) (hg4.block G (Nat.lt_of_lt_of_le zG3 BA.size) (fun e => nG G e.symm rfl))
       have u4 := host_fifth GB4
       have fG := whole_free GB4
       have l4 := whole_lt GB4
       have BL4 := Lib.hid (((B3.trans (BA.mono lw3)).grown hg4 (Nat.le_trans lw3 BA.size) (fun k hk => (drow_lt DR3 k hk).1)).setCell (p := ⟨G, 4, none⟩) lG3 (.slice C4 (q.d.length + 1) i4))
       clear hg4 hr4 hat4 P3 GB3 DR3 B3 nG BA GB4))
  all_goals
    go_wp2
    refine bodyPost_ret (v := .int .i64 0) (by simp [results, Try.results55, go_sem, *]) rfl ?_
    exact ⟨rfl, ⟨_, _, PP4.out⟩, BL4.out⟩

set_option maxRecDepth 100000 in
set_option maxHeartbeats 1000000 in
theorem call_fine2 (w : World) (lo G E : Nat) (vh vd : Value) (h : Ht) (d : Dt) (p : Pair w lo G E vh vd h d) (hf : HtFine h) (df : DtFine d) (q : Ht) (d' : Dt) (x : Dd) (hg1 : h.g.getD 2 false = true) (hq : ¬ h.d.length = 40) (hr : ∀ x y z q, vh = .agg #[x, y, z, .int .i64 h.c, q] → Row w lo z h.n) (hs : hServe h d 2 = (q, d', x, 0)) (hql : q.d.length ≤ 40) :
    Calls Try.prog 55 #[.pointer (some ⟨G, 0, none⟩), .pointer (some ⟨E, 0, none⟩), .int .i64 2] w (CallOf w lo G E ({ q with d := q.d ++ [⟨2, x.a, x.b, x.r⟩] }, d', 0)) := by
  have PP := Lib.hid p
  obtain ⟨g, k1, A2, k2, A3, k3, A4, k4, rfl, hw, hx, hg⟩ := pair_granted p hf 2 (by omega)
  obtain ⟨c0, c1, c2, c3, c4⟩ := five_cells hw
  have zg := whole_lt hw
  have HG := Lib.hid (fineH_g hf)
  have SV : Hid (∀ W, Below w.heap.size w W → Calls Try.prog 105 #[.agg #[.int .i64 1, .int .i64 1, .func (.func 136) #[] #[]], .pointer (some ⟨G, 0, none⟩), .pointer (some ⟨E, 0, none⟩)] W (ServeOf W lo G E (q, d', x, 0))) := Lib.hid fun W hb => by
    have h9 := serve_any W lo G E _ vd h d 2 (pair_below p hb) hf df (by omega) (fun x y z q e => row_below (hr x y z q e) hb)
    rw [hs] at h9
    exact h9
  rw [hg1] at hx
  have i0 : (2 : Int) < h.g.length := by have := HG.out; omega
  have i2 : 2 < h.g.length := by have := HG.out; omega
  have i3 : h.d.length < 40 := by have := fineH_d hf; omega
  have i4 : (h.d.length : Int) < 40 := by omega
  have lw := lo_le p
  clear hw p hf df hr hs hq HG
  go_enter Try.func55, Try.ntmps55
  go_wp2_with fail
  refine (capTable_any _).mono ?_
  rintro e w1 ⟨rfl, hb1⟩
  have HB1 := Lib.hid hb1
  have hz1 := hb1.size
  clear hb1
  go_wp2_with fail
  refine (SV.out _ (by repeat (first | with_reducible exact HB1.out | with_reducible exact Below.refl _ _ | with_reducible refine below_alloc ?_ _ | with_reducible refine below_drewN ?_ _ | with_reducible refine Below.drew ?_))).mono ?_
  rintro e w2 ⟨he2, ⟨vh', vd', p2⟩, hb2⟩
  dsimp only at he2
  subst he2
  have P2 := Lib.hid p2
  have B2 := Lib.hid ((HB1.out.mono lw).trans hb2)
  clear p2 hb2
  go_wp2_with fail
  generalize hW3 : World.alloc _ _ = W3
  have P3 : Pair W3 lo G E vh' vd' q d' := by rw [← hW3]; exact pair_below P2.out (below_alloc (Below.refl _ _) _)
  have B3 : Below lo w W3 := by rw [← hW3]; exact B2.out.trans ((below_alloc (Below.refl _ _) _).mono (lo_le P2.out))
  have D3 : Whole W3 w2.heap.size 37 #[.int .i64 2, .int .i64 x.a, .int .i64 x.b, .int .i64 x.r] := by rw [← hW3]; exact whole_new w2 _ _
  clear hW3
  obtain ⟨a1, j1, a2, j2, a3, j3, a4, j4, rfl, GB3⟩ := hbx_form P3.host
  have DR3 : DRow W3 lo (.slice a4 q.d.length j4) q.d := pair_drow P3
  obtain ⟨e0, e1, e2, e3, e4⟩ := five_cells GB3
  obtain ⟨y0, y1, y2, y3⟩ := deed_cells D3
  have zG3 := whole_lt GB3
  have zD3 := whole_lt D3
  have nG := fun k (hk : (Value.slice a4 q.d.length j4).ownBlock = some k) => P3.host.2.2 k (mine_hostFifth hk)
  have lw3 := lo_le P3
  have lG3 := P3.loG
  have SV3 := Lib.hid (And.intro P3 (And.intro GB3 (And.intro DR3 (And.intro B3 nG))))
  have LN4 : Hid ((q.d ++ [(⟨2, x.a, x.b, x.r⟩ : Dd)]).length = q.d.length + 1) := Lib.hid (by rw [List.length_append]; rfl)
  clear P3 GB3 DR3 B3 D3 nG
  go_region_law (first
    | (refine step_append_deeds6 (w := (W3.alloc (.cells #[.int .i64 2, .int .i64 x.a, .int .i64 x.b, .int .i64 x.r] 37)).drew) rfl (.tmp 41) (.tmp 43) rfl rfl lo (.slice a4 q.d.length j4) q.d rfl (by exact drow_alloc SV3.out.2.2.1 _) _ [⟨2, x.a, x.b, x.r⟩] rfl (by exact dds_oneAt W3 ⟨2, x.a, x.b, x.r⟩ rfl) (by simp; omega) (by simp; omega) ?_
       intro v4 w4 hr4 hg4 hat4
       obtain ⟨_, C4, i4, rfl, _⟩ := drow_dds hr4
       rw [LN4.out] at hr4 hat4 ⊢
       obtain ⟨P3, GB3, DR3, B3, nG⟩ := SV3.out
       have BA : Below W3.heap.size W3 (W3.alloc (.cells #[.int .i64 2, .int .i64 x.a, .int .i64 x.b, .int .i64 x.r] 37)).drew := (below_alloc (Below.refl _ _) _).drew
       have PP4 := Lib.hid (pair_deeds (pair_below P3 BA) hg4 hr4 hat4)
       have GB4 := whole_keep (whole_below GB3 BA) (hg4.block G (Nat.lt_of_lt_of_le zG3 BA.size) (fun e => nG G e.symm rfl))
       have u4 := host_fifth GB4
       have fG := whole_free GB4
       have l4 := whole_lt GB4
       have BL4 := Lib.hid (((B3.trans (BA.mono lw3)).grown hg4 (Nat.le_trans lw3 BA.size) (fun k hk => (drow_lt DR3 k hk).1)).setCell (p := ⟨G, 4, none⟩) lG3 (.slice C4 (q.d.length + 1) i4))
       clear hg4 hr4 hat4 P3 GB3 DR3 B3 nG BA GB4))
  all_goals
    go_wp2
    refine bodyPost_ret (v := .int .i64 0) (by simp [results, Try.results55, go_sem, *]) rfl ?_
    exact ⟨rfl, ⟨_, _, PP4.out⟩, BL4.out⟩

set_option maxRecDepth 100000 in
set_option maxHeartbeats 1000000 in
theorem call_fine3 (w : World) (lo G E : Nat) (vh vd : Value) (h : Ht) (d : Dt) (p : Pair w lo G E vh vd h d) (hf : HtFine h) (df : DtFine d) (q : Ht) (d' : Dt) (x : Dd) (hg1 : h.g.getD 3 false = true) (hq : ¬ h.d.length = 40) (hr : ∀ x y z q, vh = .agg #[x, y, z, .int .i64 h.c, q] → Row w lo z h.n) (hs : hServe h d 3 = (q, d', x, 0)) (hql : q.d.length ≤ 40) :
    Calls Try.prog 55 #[.pointer (some ⟨G, 0, none⟩), .pointer (some ⟨E, 0, none⟩), .int .i64 3] w (CallOf w lo G E ({ q with d := q.d ++ [⟨3, x.a, x.b, x.r⟩] }, d', 0)) := by
  have PP := Lib.hid p
  obtain ⟨g, k1, A2, k2, A3, k3, A4, k4, rfl, hw, hx, hg⟩ := pair_granted p hf 3 (by omega)
  obtain ⟨c0, c1, c2, c3, c4⟩ := five_cells hw
  have zg := whole_lt hw
  have HG := Lib.hid (fineH_g hf)
  have SV : Hid (∀ W, Below w.heap.size w W → Calls Try.prog 105 #[.agg #[.int .i64 0, .int .i64 1, .func (.func 137) #[] #[]], .pointer (some ⟨G, 0, none⟩), .pointer (some ⟨E, 0, none⟩)] W (ServeOf W lo G E (q, d', x, 0))) := Lib.hid fun W hb => by
    have h9 := serve_any W lo G E _ vd h d 3 (pair_below p hb) hf df (by omega) (fun x y z q e => row_below (hr x y z q e) hb)
    rw [hs] at h9
    exact h9
  rw [hg1] at hx
  have i0 : (3 : Int) < h.g.length := by have := HG.out; omega
  have i2 : 3 < h.g.length := by have := HG.out; omega
  have i3 : h.d.length < 40 := by have := fineH_d hf; omega
  have i4 : (h.d.length : Int) < 40 := by omega
  have lw := lo_le p
  clear hw p hf df hr hs hq HG
  go_enter Try.func55, Try.ntmps55
  go_wp2_with fail
  refine (capTable_any _).mono ?_
  rintro e w1 ⟨rfl, hb1⟩
  have HB1 := Lib.hid hb1
  have hz1 := hb1.size
  clear hb1
  go_wp2_with fail
  refine (SV.out _ (by repeat (first | with_reducible exact HB1.out | with_reducible exact Below.refl _ _ | with_reducible refine below_alloc ?_ _ | with_reducible refine below_drewN ?_ _ | with_reducible refine Below.drew ?_))).mono ?_
  rintro e w2 ⟨he2, ⟨vh', vd', p2⟩, hb2⟩
  dsimp only at he2
  subst he2
  have P2 := Lib.hid p2
  have B2 := Lib.hid ((HB1.out.mono lw).trans hb2)
  clear p2 hb2
  go_wp2_with fail
  generalize hW3 : World.alloc _ _ = W3
  have P3 : Pair W3 lo G E vh' vd' q d' := by rw [← hW3]; exact pair_below P2.out (below_alloc (Below.refl _ _) _)
  have B3 : Below lo w W3 := by rw [← hW3]; exact B2.out.trans ((below_alloc (Below.refl _ _) _).mono (lo_le P2.out))
  have D3 : Whole W3 w2.heap.size 37 #[.int .i64 3, .int .i64 x.a, .int .i64 x.b, .int .i64 x.r] := by rw [← hW3]; exact whole_new w2 _ _
  clear hW3
  obtain ⟨a1, j1, a2, j2, a3, j3, a4, j4, rfl, GB3⟩ := hbx_form P3.host
  have DR3 : DRow W3 lo (.slice a4 q.d.length j4) q.d := pair_drow P3
  obtain ⟨e0, e1, e2, e3, e4⟩ := five_cells GB3
  obtain ⟨y0, y1, y2, y3⟩ := deed_cells D3
  have zG3 := whole_lt GB3
  have zD3 := whole_lt D3
  have nG := fun k (hk : (Value.slice a4 q.d.length j4).ownBlock = some k) => P3.host.2.2 k (mine_hostFifth hk)
  have lw3 := lo_le P3
  have lG3 := P3.loG
  have SV3 := Lib.hid (And.intro P3 (And.intro GB3 (And.intro DR3 (And.intro B3 nG))))
  have LN4 : Hid ((q.d ++ [(⟨3, x.a, x.b, x.r⟩ : Dd)]).length = q.d.length + 1) := Lib.hid (by rw [List.length_append]; rfl)
  clear P3 GB3 DR3 B3 D3 nG
  go_region_law (first
    | (refine step_append_deeds6 (w := (W3.alloc (.cells #[.int .i64 3, .int .i64 x.a, .int .i64 x.b, .int .i64 x.r] 37)).drew) rfl (.tmp 41) (.tmp 43) rfl rfl lo (.slice a4 q.d.length j4) q.d rfl (by exact drow_alloc SV3.out.2.2.1 _) _ [⟨3, x.a, x.b, x.r⟩] rfl (by exact dds_oneAt W3 ⟨3, x.a, x.b, x.r⟩ rfl) (by simp; omega) (by simp; omega) ?_
       intro v4 w4 hr4 hg4 hat4
       obtain ⟨_, C4, i4, rfl, _⟩ := drow_dds hr4
       rw [LN4.out] at hr4 hat4 ⊢
       obtain ⟨P3, GB3, DR3, B3, nG⟩ := SV3.out
       have BA : Below W3.heap.size W3 (W3.alloc (.cells #[.int .i64 3, .int .i64 x.a, .int .i64 x.b, .int .i64 x.r] 37)).drew := (below_alloc (Below.refl _ _) _).drew
       have PP4 := Lib.hid (pair_deeds (pair_below P3 BA) hg4 hr4 hat4)
       have GB4 := whole_keep (whole_below GB3 BA) (hg4.block G (Nat.lt_of_lt_of_le zG3 BA.size) (fun e => nG G e.symm rfl))
       have u4 := host_fifth GB4
       have fG := whole_free GB4
       have l4 := whole_lt GB4
       have BL4 := Lib.hid (((B3.trans (BA.mono lw3)).grown hg4 (Nat.le_trans lw3 BA.size) (fun k hk => (drow_lt DR3 k hk).1)).setCell (p := ⟨G, 4, none⟩) lG3 (.slice C4 (q.d.length + 1) i4))
       clear hg4 hr4 hat4 P3 GB3 DR3 B3 nG BA GB4))
  all_goals
    go_wp2
    refine bodyPost_ret (v := .int .i64 0) (by simp [results, Try.results55, go_sem, *]) rfl ?_
    exact ⟨rfl, ⟨_, _, PP4.out⟩, BL4.out⟩

end Go.Proofs.Ytkcogfgjabemfaa

namespace Go.Proofs.Ytkcogfgjabemfaa
open Go.RowKit
set_option linter.unusedVariables false
set_option linter.unusedSimpArgs false

theorem fifty {p : Nat} (h1 : 1 ≤ p) (h2 : p ≤ 52) : p = 1 ∨ p = 2 ∨ p = 3 ∨ p = 4 ∨ p = 5 ∨ p = 6 ∨ p = 7 ∨ p = 8 ∨ p = 9 ∨ p = 10 ∨ p = 11 ∨ p = 12 ∨ p = 13 ∨ p = 14 ∨ p = 15 ∨ p = 16 ∨ p = 17 ∨ p = 18 ∨ p = 19 ∨ p = 20 ∨ p = 21 ∨ p = 22 ∨ p = 23 ∨ p = 24 ∨ p = 25 ∨ p = 26 ∨ p = 27 ∨ p = 28 ∨ p = 29 ∨ p = 30 ∨ p = 31 ∨ p = 32 ∨ p = 33 ∨ p = 34 ∨ p = 35 ∨ p = 36 ∨ p = 37 ∨ p = 38 ∨ p = 39 ∨ p = 40 ∨ p = 41 ∨ p = 42 ∨ p = 43 ∨ p = 44 ∨ p = 45 ∨ p = 46 ∨ p = 47 ∨ p = 48 ∨ p = 49 ∨ p = 50 ∨ p = 51 ∨ p = 52 := by omega

/-- What every effect keeps to. -/
structure EffOk (d : Dt) (p : Nat) (r : Dt × List Int × Int) : Prop where
  throw : r.2.2 ≠ 0 → r.1 = d
  more : takesP p < r.2.1.length → r.1 = d
  stack : r.1.s = d.s
  short : r.2.1.length ≤ 4
  back : d.b.length ≤ r.1.b.length ∧ (d.b.length ≤ 32 → r.1.b.length ≤ 32)

theorem ok_same (d : Dt) (p : Nat) (L : List Int) (t : Int) (h : L.length ≤ 4) : EffOk d p (d, L, t) := ⟨fun _ => rfl, fun _ => rfl, rfl, h, Nat.le_refl _, fun h => h⟩

theorem ok_say (d : Dt) (p : Nat) (s : ByteArray) : EffOk d p (sayE d s) := by
  unfold sayE; split
  · exact ok_same d p _ _ (by simp)
  · exact ⟨fun h => absurd rfl h, fun h => absurd h (by simp), rfl, by simp, Nat.le_refl _, fun h => h⟩

theorem ok_op (d : Dt) (p : Nat) (op b c : Int) : EffOk d p (opE d op b c) := by
  unfold opE
  by_cases h2 : twoR op c = true
  · rw [if_pos h2]; exact ok_same d _ _ _ (by simp)
  · rw [if_neg h2]; exact ok_same d _ _ _ (by simp)

theorem eff_ok (d : Dt) (p : Nat) (h1 : 1 ≤ p) (h2 : p ≤ 52) : EffOk d p (eff d p) := by
  rcases fifty h1 h2 with rfl | rfl | rfl | rfl | rfl | rfl | rfl | rfl | rfl | rfl | rfl | rfl | rfl | rfl | rfl | rfl | rfl | rfl | rfl | rfl | rfl | rfl | rfl | rfl | rfl | rfl | rfl | rfl | rfl | rfl | rfl | rfl | rfl | rfl | rfl | rfl | rfl | rfl | rfl | rfl | rfl | rfl | rfl | rfl | rfl | rfl | rfl | rfl | rfl | rfl | rfl | rfl
  case inr.inr.inr.inr.inr.inr.inr.inl => 
    show EffOk d 8 (d, (if tp d 0 = 0 then [0] else [tp d 0, tp d 0]), 0)
    refine ok_same d 8 _ _ ?_
    split <;> simp
  all_goals first
    | exact ok_same d _ _ _ (by simp)
    | exact ok_say d _ _
    | exact ok_op d _ _ _ _
    | (show EffOk d _ (backE d _); unfold backE; split
       · exact ⟨fun h => absurd rfl h, fun h => absurd h (by simp), rfl, by simp, by simp, fun _ => by simp; omega⟩
       · exact ok_same d _ _ _ (by simp))
    | (show EffOk d _ (fetchE d _); unfold fetchE; split <;> exact ok_same d _ _ _ (by simp))
    | (show EffOk d _ (storeE d _ _); unfold storeE; split
       · exact ok_same d _ _ _ (by simp)
       · exact ⟨fun h => absurd rfl h, fun h => absurd h (by simp), rfl, by simp, Nat.le_refl _, fun h => h⟩)
    | (show EffOk d _ (addE d _ _); unfold addE; split
       · exact ok_same d _ _ _ (by simp)
       · exact ⟨fun h => absurd rfl h, fun h => absurd h (by simp), rfl, by simp, Nat.le_refl _, fun h => h⟩)
    | (show EffOk d _ (allotE d _); unfold allotE; split
       · exact ⟨fun h => absurd rfl h, fun h => absurd h (by simp), rfl, by simp, Nat.le_refl _, fun h => h⟩
       · exact ok_same d _ _ _ (by simp))
    | (show EffOk d _ (commaE d _); unfold commaE; split
       · exact ⟨fun h => absurd rfl h, fun h => absurd h (by simp), rfl, by simp, Nat.le_refl _, fun h => h⟩
       · exact ok_same d _ _ _ (by simp))
    | (show EffOk d _ ({ d with n := 10 }, [], 0); exact ⟨fun h => absurd rfl h, fun h => absurd h (by simp), rfl, by simp, Nat.le_refl _, fun h => h⟩)
    | (show EffOk d _ ({ d with n := 16 }, [], 0); exact ⟨fun h => absurd rfl h, fun h => absurd h (by simp), rfl, by simp, Nat.le_refl _, fun h => h⟩)

theorem drops_needs (p : Nat) : dropsP p ≤ needsP p := by unfold dropsP needsP; split <;> (try split) <;> (try split) <;> omega

/-- What an effect leaves is valid. -/
structure EffFine (r : Dt × List Int × Int) : Prop where
  data : DtFine r.1
  cells : ∀ n ∈ r.2.1, cellB n = true

theorem cellsB_of {l : List Int} (h : ∀ n ∈ l, cellB n = true) : cellsB l = true := List.all_eq_true.2 h

theorem fine_list {d : Dt} (h : DtFine d) (L : List Int) (t : Int) (hL : ∀ n ∈ L, cellB n = true) : EffFine (d, L, t) := ⟨h, hL⟩

theorem one_cell {n : Int} (h : cellB n = true) : ∀ m ∈ [n], cellB m = true := fun m hm => by simp at hm; subst hm; exact h

theorem flag_cell (b : Bool) : cellB (flagI b) = true := by cases b <;> rfl

theorem wrap_cell' (n : Int) : cellB (wrap32 n) = true := cellB_true.2 (wrap32_cell n)

theorem fine_say {d : Dt} (h : DtFine d) (s : ByteArray) : EffFine (sayE d s) := by
  unfold sayE; split
  · exact fine_list h _ _ (by simp)
  · refine ⟨⟨h.1, h.2.1, h.2.2.1, h.2.2.2.1, h.2.2.2.2.1, h.2.2.2.2.2.1, h.2.2.2.2.2.2.1, h.2.2.2.2.2.2.2.1, h.2.2.2.2.2.2.2.2.1, ?_⟩, by simp⟩
    show (d.o ++ s).size ≤ 300
    rw [ByteArray.size_append]; omega

theorem fine_cells' {d : Dt} (h : DtFine d) {c : List Int} {hh : Int} (hl : c.length = 32) (hc : cellsB c = true) (h0 : 0 ≤ hh) (h1 : hh ≤ 32) : DtFine { d with c := c, h := hh } :=
  ⟨h.1, h.2.1, hl, h.2.2.2.1, h.2.2.2.2.1, hc, h0, h1, h.2.2.2.2.2.2.2.2.1, h.2.2.2.2.2.2.2.2.2⟩

theorem cells_set {c : List Int} (h : cellsB c = true) (k : Nat) {n : Int} (hn : cellB n = true) : cellsB (c.set k n) = true :=
  cellsB_of fun m hm => by
    rcases List.mem_or_eq_of_mem_set hm with h2 | h2
    · exact cellsB_at h h2
    · rw [h2]; exact hn

theorem cells_zero {c : List Int} (h : cellsB c = true) (a k : Nat) : cellsB (zeroN c a k) = true :=
  cellsB_of fun m hm => by
    unfold zeroN at hm
    simp only [List.mem_append, List.mem_replicate] at hm
    rcases hm with h2 | ⟨_, rfl⟩ | h2
    · exact cellsB_at h (List.mem_of_mem_take h2)
    · rfl
    · exact cellsB_at h (List.mem_of_mem_drop h2)

theorem getD_cell {c : List Int} (h : cellsB c = true) (k : Nat) : cellB (c.getD k 0) = true := by
  rcases Nat.lt_or_ge k c.length with hk | hk
  · have e : c.getD k 0 = c[k] := by simp [hk]
    rw [e]; exact cellsB_at h (List.getElem_mem hk)
  · have e : c.getD k 0 = 0 := by simp [hk]
    rw [e]; rfl

theorem last_cell {c : List Int} (h : cellsB c = true) : cellB (c.getLastD 0) = true := by
  rw [List.getLastD_eq_getLast?]
  cases e : c.getLast? with
  | none => rfl
  | some x => exact cellsB_at h (List.mem_of_getLast? e)

theorem fine_allot {d : Dt} (h : DtFine d) (n : Int) : EffFine (allotE d n) := by
  unfold allotE; split
  · rename_i hg
    obtain ⟨g1, g2, g3⟩ := hg
    have q0 := fine_h0 h; have q1 := fine_h1 h; have q2 := fine_cl h
    exact ⟨fine_cells' h (by rw [zeroN_len (by omega)]; exact q2) (cells_zero (fine_cc h) _ _) g2 g3, by simp⟩
  · exact fine_list h _ _ (by simp)

theorem fine_comma {d : Dt} (h : DtFine d) {x : Int} (hx : cellB x = true) : EffFine (commaE d x) := by
  unfold commaE; split
  · rename_i hg
    obtain ⟨g1, g2, g3⟩ := hg
    have q0 := fine_h0 h; have q2 := fine_cl h
    have e : (4 : Int).tdiv 4 = 1 := rfl
    rw [e] at g2 g3
    exact ⟨fine_cells' h (by rw [List.length_set, zeroN_len (by omega)]; exact q2) (cells_set (cells_zero (fine_cc h) _ _) _ hx) (by omega) g3, by simp⟩
  · exact fine_list h _ _ (by simp)

theorem fine_back {d : Dt} (h : DtFine d) {x : Int} (hx : cellB x = true) : EffFine (backE d x) := by
  unfold backE; split
  · refine ⟨⟨h.1, by simp; omega, h.2.2.1, h.2.2.2.1, cellsB_of fun m hm => ?_, h.2.2.2.2.2.1, h.2.2.2.2.2.2.1, h.2.2.2.2.2.2.2.1, h.2.2.2.2.2.2.2.2.1, h.2.2.2.2.2.2.2.2.2⟩, by simp⟩
    simp only [List.mem_append, List.mem_singleton] at hm
    rcases hm with h2 | rfl
    · exact cellsB_at (fine_bc h) h2
    · exact hx
  · exact fine_list h _ _ (by simp)

theorem fine_setc {d : Dt} (h : DtFine d) (k : Nat) {n : Int} (hn : cellB n = true) : DtFine { d with c := d.c.set k n } :=
  fine_cells' (hh := d.h) h (by rw [List.length_set]; exact fine_cl h) (cells_set (fine_cc h) k hn) (fine_h0 h) (fine_h1 h)

theorem fine_base {d : Dt} (h : DtFine d) (n : Int) (hn : baseB n = true) : EffFine ({ d with n := n }, [], 0) :=
  ⟨⟨h.1, h.2.1, h.2.2.1, h.2.2.2.1, h.2.2.2.2.1, h.2.2.2.2.2.1, h.2.2.2.2.2.2.1, h.2.2.2.2.2.2.2.1, hn, h.2.2.2.2.2.2.2.2.2⟩, by simp⟩

theorem eff_opc (d : Dt) (p : Nat) (h1 : 15 ≤ p) (h2 : p ≤ 24) : eff d p = opE d ((p : Int) - 14) (tp d 1) (tp d 0) := by
  have h : p = 15 ∨ p = 16 ∨ p = 17 ∨ p = 18 ∨ p = 19 ∨ p = 20 ∨ p = 21 ∨ p = 22 ∨ p = 23 ∨ p = 24 := by omega
  rcases h with rfl | rfl | rfl | rfl | rfl | rfl | rfl | rfl | rfl | rfl <;> rfl

theorem fine_op {d : Dt} (h : DtFine d) (op : Int) {b c : Int} (hb : -2147483648 ≤ b ∧ b ≤ 2147483647) (hc : -2147483648 ≤ c ∧ c ≤ 2147483647) : EffFine (opE d op b c) := by
  unfold opE
  by_cases h2 : twoR op c = true
  · rw [if_pos h2]; exact fine_list h _ _ (one_cell (cellB_true.2 (twoW_cell _ _ _ hb hc)))
  · rw [if_neg h2]; exact fine_list h _ _ (by simp)

theorem eff_fine {d : Dt} (h : DtFine d) (p : Nat) (h1 : 1 ≤ p) (h2 : p ≤ 52) : EffFine (eff d p) := by
  have a := cellB_true.2 (tp_cell h 2)
  have b := cellB_true.2 (tp_cell h 1)
  have c := cellB_true.2 (tp_cell h 0)
  have b' := tp_cell h 1
  have c' := tp_cell h 0
  have l1 := fine_sl h
  have l2 := fine_h0 h
  have l3 := fine_h1 h
  rcases fifty h1 h2 with rfl | rfl | rfl | rfl | rfl | rfl | rfl | rfl | rfl | rfl | rfl | rfl | rfl | rfl | rfl | rfl | rfl | rfl | rfl | rfl | rfl | rfl | rfl | rfl | rfl | rfl | rfl | rfl | rfl | rfl | rfl | rfl | rfl | rfl | rfl | rfl | rfl | rfl | rfl | rfl | rfl | rfl | rfl | rfl | rfl | rfl | rfl | rfl | rfl | rfl | rfl | rfl
  all_goals first
    | (refine fine_list h _ _ (one_cell ?_); first | exact flag_cell _ | exact wrap_cell' _ | exact last_cell (fine_bc h) | exact c | (apply cellB_true.2; omega))
    | (refine fine_list h _ _ (show ∀ n ∈ (if tp d 0 = 0 then [0] else [tp d 0, tp d 0]), cellB n = true from ?_)
       split
       · exact one_cell rfl
       · intro n hn; simp only [List.mem_cons, List.not_mem_nil, or_false] at hn; rcases hn with rfl | rfl <;> exact c)
    | (refine fine_list h _ _ (fun n hn => ?_); simp only [List.mem_cons, List.not_mem_nil, or_false] at hn; first | (rcases hn with rfl | rfl | rfl | rfl <;> assumption) | (rcases hn with rfl | rfl | rfl <;> assumption) | (rcases hn with rfl | rfl <;> assumption) | exact hn.elim)
    | exact fine_say h _
    | exact fine_list h _ _ (fun n hn => absurd hn (List.not_mem_nil))
    | (rw [eff_opc d _ (by decide) (by decide)]; exact fine_op h _ b' c')
    | exact fine_back h c
    | (show EffFine (fetchE d _); unfold fetchE; split
       · exact fine_list h _ _ (one_cell rfl)
       · exact fine_list h _ _ (one_cell (getD_cell (fine_cc h) _)))
    | (show EffFine (storeE d _ _); unfold storeE; split
       · exact fine_list h _ _ (by simp)
       · exact ⟨fine_setc h _ b, by simp⟩)
    | (show EffFine (addE d _ _); unfold addE; split
       · exact fine_list h _ _ (by simp)
       · exact ⟨fine_setc h _ (wrap_cell' _), by simp⟩)
    | exact fine_allot h _
    | exact fine_comma h c
    | exact fine_base h 10 rfl
    | exact fine_base h 16 rfl

theorem prim_fine {d : Dt} (h : DtFine d) (p : Nat) (f : Int) (h1 : 1 ≤ p) (h2 : p ≤ 52) : DtFine (dPrim d p f).1 := by
  have F := eff_fine h p h1 h2
  have K := eff_ok d p h1 h2
  unfold dPrim
  split
  · exact h
  split
  · exact h
  unfold finE
  split
  · exact h
  split
  · exact h
  · rename_i h3 h4
    have G := F.data
    refine ⟨?_, ?_, G.2.2.1, cellsB_of fun m hm => ?_, cellsB_of fun m hm => cellsB_at (fine_bc G) (List.mem_of_mem_take hm), G.2.2.2.2.2.1, G.2.2.2.2.2.2.1, G.2.2.2.2.2.2.2.1, G.2.2.2.2.2.2.2.2.1, G.2.2.2.2.2.2.2.2.2⟩
    · show (d.s.take (d.s.length - takesP p) ++ (eff d p).2.1).length ≤ 32
      rw [List.length_append, List.length_take]; omega
    · show ((eff d p).1.b.take _).length ≤ 32
      rw [List.length_take]; have := fine_bl G; omega
    · have hm' : m ∈ d.s.take (d.s.length - takesP p) ++ (eff d p).2.1 := hm
      rcases List.mem_append.1 hm' with h5 | h5
      · exact cellsB_at (fine_sc h) (List.mem_of_mem_take h5)
      · exact F.cells m h5

end Go.Proofs.Ytkcogfgjabemfaa

namespace Go.Proofs.Ytkcogfgjabemfaa
open Go.RowKit
set_option linter.unusedVariables false
set_option linter.unusedSimpArgs false

/-- The stacks' slices are no longer than their capacities. -/
def Caps (v : Value) : Prop := ∃ A n k B m l z a b c, v = .agg #[.slice A n k, .slice B m l, z, a, b, c] ∧ n ≤ k ∧ k ≤ maxLen ∧ m ≤ l ∧ l ≤ maxLen

theorem datOf_caps {w : World} {lo hi : Nat} {v : Value} {d : Dt} (h : DatOf w lo hi v d) : Caps v := by
  obtain ⟨x, y, z, rfl, h1, h2, _⟩ := h
  obtain ⟨_, A, k, rfl, _⟩ := row_ints h1
  obtain ⟨_, B, l, rfl, _⟩ := row_ints h2
  exact ⟨_, _, _, _, _, _, _, _, _, _, rfl, (row_cap h1).1, (row_cap h1).2, (row_cap h2).1, (row_cap h2).2⟩

/-- Data that reads, its slices within their capacities. -/
def DatC (w : World) (v : Value) (d : Dt) : Prop := DatIn w v d ∧ Caps v

theorem datC_below {w w' : World} {v : Value} {d : Dt} (h : DatC w v d) (hb : Below w.heap.size w w') : DatC w' v d := ⟨datIn_below h.1 hb, h.2⟩

/-- Every row of numbers from block n on reads in the later world as it did. -/
def Agree (n : Nat) (a b : World) : Prop := ∀ k cs fr, n ≤ k → a.heap[k]? = some (.cells cs 3 fr) → b.heap[k]? = a.heap[k]?

theorem agree_refl (n : Nat) (a : World) : Agree n a a := fun _ _ _ _ _ => rfl

theorem agree_trans {n : Nat} {a b c : World} (h : Agree n a b) (k : Agree n b c) : Agree n a c := fun i cs fr hi ha => (k i cs fr hi ((h i cs fr hi ha).trans ha)).trans (h i cs fr hi ha)

theorem agree_mono {n m : Nat} {a b : World} (h : Agree n a b) (hm : n ≤ m) : Agree m a b := fun i cs fr hi => h i cs fr (Nat.le_trans hm hi)

theorem agree_below {n : Nat} {a b : World} (h : Below a.heap.size a b) : Agree n a b := fun i cs fr _ ha => h.block i (by
  rcases Nat.lt_or_ge i a.heap.size with hl | hl
  · exact hl
  · rw [Array.getElem?_eq_none hl] at ha; cases ha)

theorem agree_set {n R i : Nat} {a b : World} {t : TypeId} {cs : Array Value} (h : Agree n a b) (hw : Whole b R t cs) (ht : t ≠ 3) (u : Value) : Agree n a (b.setCell ⟨R, i, none⟩ u) := fun k c fr hk ha => by
  refine (Below.heap_setCell b _ u k ?_).trans (h k c fr hk ha)
  show k ≠ R
  rintro rfl
  have h1 := (h k c fr hk ha).trans ha
  unfold Whole at hw
  rw [hw] at h1
  injection h1 with h1
  injection h1 with _ h2
  exact ht h2

/-- The value is made of the slices of another and of rows from block n on: it reads wherever the other reads and those rows agree. -/
def Built (n : Nat) (w' : World) (v : Value) (d : Dt) (u : Value) (r : Dt) : Prop := ∀ W', DatC W' v d → Agree n w' W' → DatC W' u r

theorem built_up {n N : Nat} {a b : World} {v u : Value} {d r : Dt} (h : Built N a v d u r) (hn : n ≤ N) (hA : Agree n a b) : Built n b v d u r := fun W' hv ha => h W' hv (agree_mono (agree_trans hA ha) hn)

theorem built_comp {n N M : Nat} {a b : World} {v x u : Value} {d r q : Dt} (h : Built N a v d x r) (k : Built M b x r u q) (hn : n ≤ N) (hm : n ≤ M) (hA : Agree n a b) : Built n b v d u q := fun W' hv ha =>
  k W' (h W' hv (agree_mono (agree_trans hA ha) hn)) (agree_mono ha hm)

theorem built_now {n : Nat} {w' : World} {v u : Value} {d r : Dt} (h : Built n w' v d u r) (hv : DatC w' v d) : DatC w' u r := h w' hv (agree_refl _ _)

theorem built_self (n : Nat) (w' : World) (v : Value) (d : Dt) : Built n w' v d v d := fun _ h _ => h

/-- Data that reads, and a throw. -/
def ReadC (w : World) (v : Value) (d : Dt) (r : Dt × Int) (e : Ending) (w' : World) : Prop := ∃ u, e = .returned (.tuple #[u, .int .i64 r.2]) ∧ Below w.heap.size w w' ∧ Built w.heap.size w' v d u r.1

theorem row_agree {n base : Nat} {a b : World} {v : Value} {zs : List Int} (h : Row a base v zs) (hb : n ≤ base) (hA : Agree n a b) : Row b base v zs := by
  refine row_keep h fun g hg => ?_
  rcases h.2 with ⟨rfl, _⟩ | ⟨g', cap, cur, rfl, hb', hh, _⟩
  · simp [Value.ownBlock] at hg
  · have e : g' = g := by simpa [Value.ownBlock] using hg
    subst e
    exact hA g' _ _ (Nat.le_trans hb hb') hh

theorem datC_form {w : World} {v : Value} {d : Dt} (h : DatC w v d) : ∃ A1 k1 A2 k2 A3 k3, v = .agg #[.slice A1 d.s.length k1, .slice A2 d.b.length k2, .slice A3 d.c.length k3, .int .i64 d.h, .int .i64 d.n, .string d.o] ∧ d.s.length ≤ k1 ∧ k1 ≤ maxLen ∧ d.b.length ≤ k2 ∧ k2 ≤ maxLen := by
  obtain ⟨h1, h2⟩ := h
  obtain ⟨A1, k1, A2, k2, A3, k3, rfl⟩ := datIn_form h1
  obtain ⟨A, n, k, B, m, l, z, a, b, c, he, q1, q2, q3, q4⟩ := h2
  simp only [Value.agg.injEq, Array.mk.injEq, List.cons.injEq, Value.slice.injEq, and_true, true_and] at he
  obtain ⟨⟨rfl, rfl, rfl⟩, ⟨rfl, rfl, rfl⟩, rfl, rfl, rfl, rfl⟩ := he
  exact ⟨_, _, _, _, _, _, rfl, q1, q2, q3, q4⟩

theorem caps_stack {A1 A2 A3 C : Option Addr} {n k m l j x i : Nat} {a b c : Value} (h : Caps (.agg #[.slice A1 n k, .slice A2 m l, .slice A3 j x, a, b, c])) {q : Nat} (hq : q ≤ i) (hi : i ≤ maxLen) : Caps (.agg #[.slice C q i, .slice A2 m l, .slice A3 j x, a, b, c]) := by
  obtain ⟨A, n', k', B, m', l', z, a', b', c', he, q1, q2, q3, q4⟩ := h
  simp only [Value.agg.injEq, Array.mk.injEq, List.cons.injEq, Value.slice.injEq, and_true, true_and] at he
  obtain ⟨⟨rfl, rfl, rfl⟩, ⟨rfl, rfl, rfl⟩, rfl, rfl, rfl, rfl⟩ := he
  exact ⟨_, _, _, _, _, _, _, _, _, _, rfl, hq, hi, q3, q4⟩

set_option maxRecDepth 100000 in
set_option maxHeartbeats 2000000 in
theorem sPut_over (v : Value) (d : Dt) (k : Nat) (lv : Value) (L : List Int) (w : World) (hv : DatC w v d) (hi : Ints w lv L) (hk : k ≤ d.s.length) (hs : d.s.length ≤ 32) (hL : L.length ≤ 4) (ho : 32 < d.s.length - k + L.length) :
    Calls Try.prog 111 #[v, .int .i64 k, lv] w (ReadC w v d (d, -3)) := by
  have HD := hv
  obtain ⟨A1, k1, A2, k2, A3, k3, rfl, _⟩ := datC_form hv
  obtain ⟨_, LA, lc, rfl, _⟩ := id hi
  obtain ⟨m, hm⟩ : ∃ m, d.s.length = m + k := ⟨d.s.length - k, by omega⟩
  have s1 : IntKind.i64.wrap ((d.s.length : Int) - k) = (m : Int) := by rw [show (d.s.length : Int) - k = m by omega]; exact IntWalk.i64_in _ (by omega)
  have s2 : IntKind.i64.wrap ((m : Int) + L.length) = (m : Int) + L.length := IntWalk.i64_in _ (by omega)
  have s3 : (32 : Int) < (m : Int) + L.length := by omega
  clear hv hi hm
  go_enter Try.func111, Try.ntmps111
  go_wp2
  refine bodyPost_ret (v := .tuple #[.agg #[.slice A1 d.s.length k1, .slice A2 d.b.length k2, .slice A3 d.c.length k3, .int .i64 d.h, .int .i64 d.n, .string d.o], .int .i64 (-3)]) (by simp [results, Try.results111, go_sem]) rfl ⟨_, rfl, ?_, built_self _ _ _ _⟩
  · repeat (first | with_reducible exact Below.refl _ _ | with_reducible refine below_alloc ?_ _)

set_option maxRecDepth 100000 in
set_option maxHeartbeats 4000000 in
theorem sPut_fine (v : Value) (d : Dt) (k : Nat) (lv : Value) (L : List Int) (w : World) (hv : DatC w v d) (hi : Ints w lv L) (hk : k ≤ d.s.length) (hs : d.s.length ≤ 32) (hL : L.length ≤ 4) (ho : d.s.length - k + L.length ≤ 32) :
    Calls Try.prog 111 #[v, .int .i64 k, lv] w (ReadC w v d ({ d with s := d.s.take (d.s.length - k) ++ L }, 0)) := by
  have HD := hv
  obtain ⟨A1, k1, A2, k2, A3, k3, rfl, q1, q2, _⟩ := datC_form hv
  obtain ⟨_, LA, lc, rfl, _⟩ := id hi
  obtain ⟨m, hm⟩ : ∃ m, d.s.length = m + k := ⟨d.s.length - k, by omega⟩
  have s1 : IntKind.i64.wrap ((d.s.length : Int) - k) = (m : Int) := by rw [show (d.s.length : Int) - k = m by omega]; exact IntWalk.i64_in _ (by omega)
  have s2 : IntKind.i64.wrap ((m : Int) + L.length) = (m : Int) + L.length := IntWalk.i64_in _ (by omega)
  have s3 : ¬ ((32 : Int) < (m : Int) + L.length) := by omega
  have mk : m ≤ k1 := by omega
  have MK := Lib.hid (show d.s.length - k = m by omega)
  have TL := Lib.hid (show (d.s.take m).length = m by rw [List.length_take]; omega)
  have TK : Hid (Ints w (.slice A1 m k1) (d.s.take m)) := Lib.hid (ints_take (datIn_first HD.1) (by omega))
  have HI := Lib.hid hi
  have LL : Hid (m + L.length ≤ 1000) := Lib.hid (by omega)
  rw [MK.out]
  unfold maxLen at q2
  have tl := TL.out
  have LN := Lib.hid (show (d.s.take m ++ L).length = m + L.length by rw [List.length_append, TL.out])
  clear hv hi hm ho
  go_enter Try.func111, Try.ntmps111
  go_wp2_with (first
    | (at_builtin; refine wpList_append_new rfl (.tmp 20) (.tmp 24) rfl rfl _ rfl (by simp) (.slice A1 m k1) (d.s.take m) rfl (ints_below TK.out (below_alloc (below_alloc (Below.refl _ _) _) _)) (by rw [TL.out]; have := LL.out; omega) ?_
       intro B1 m1 w1 hr hb
       have B1' : Below w.heap.size w w1 := below_step (below_alloc (below_alloc (Below.refl _ _) _) _) hb
       have V1 := whole_b hb (whole_alloc (whole_new w _ _) _)
       have T1 := whole_b hb (whole_new1 w _ _ _)
       have R1 : Row w1 (w.heap.size + 1 + 1) (.slice B1 m m1) (d.s.take m) := by
         have h := hr
         rw [tl] at h
         simpa using h
       clear hr hb)
    | (at_builtin; refine wpList_append_ints rfl (.tmp 25) (.tmp 26) rfl rfl (w.heap.size + 1 + 1) (.slice B1 m m1) (d.s.take m) R1 (.slice LA L.length lc) L (ints_below HI.out B1') rfl rfl (by rw [TL.out]; have := LL.out; omega) (by have := whole_lt T1; omega) ?_
       intro v2 w2 hr hg hat
       have hbk : Below (w.heap.size + 1 + 1) w1 w2 := (Below.refl _ _).grown hg (by have := whole_lt T1; omega) (fun k hk => (row_lt R1 k hk).1)
       have B2' : Below w.heap.size w w2 := B1'.trans (hbk.mono (by omega))
       have V2 := whole_keep V1 (hbk.block _ (by omega))
       have T2 := whole_keep T1 (hbk.block _ (by omega))
       obtain ⟨_, C1, j1, rfl, _⟩ := row_ints hr
       rw [LN.out] at hr
       obtain ⟨c0, c1, c2, c3, c4, c5⟩ := six_cells V2
       obtain ⟨r0, r1, r2, r3, r4, r5⟩ := six_cells T2
       have f0 := whole_free V2 0
       have fr := whole_free T2
       have RC := Lib.hid (row_cap hr)
       clear hg hat))
  refine bodyPost_ret (v := .tuple #[.agg #[.slice C1 (m + L.length) j1, .slice A2 d.b.length k2, .slice A3 d.c.length k3, .int .i64 d.h, .int .i64 d.n, .string d.o], .int .i64 0]) (by simp [results, Try.results111, go_sem, *]) rfl ⟨_, rfl, ?_, ?_⟩
  · repeat (first | with_reducible exact B2' | with_reducible refine Below.setCell ?_ (by simp) _)
  · intro W' hW hA
    refine ⟨datIn_stack (n := 0) (k1 := k1) (A1 := A1) hW.1 ?_, caps_stack hW.2 (by have := RC.out.1; omega) RC.out.2⟩
    have hf : Row _ (w.heap.size + 1 + 1) (.slice C1 (m + L.length) j1) (d.s.take m ++ L) := row_agree (n := w.heap.size) ?_ (by omega) hA
    · have h2 := row_ints hf
      rw [← LN.out] at h2 ⊢
      exact h2
    · rw [← LN.out]; rw [← LN.out] at hr
      repeat (first | with_reducible exact hr | ((with_reducible refine row_store ?_ ?hh); case hh => omega))

theorem sPut_any (v : Value) (d : Dt) (k : Nat) (lv : Value) (L : List Int) (w : World) (hv : DatC w v d) (hi : Ints w lv L) (hk : k ≤ d.s.length) (hs : d.s.length ≤ 32) (hL : L.length ≤ 4) :
    Calls Try.prog 111 #[v, .int .i64 k, lv] w (ReadC w v d (dPut d k L)) := by
  unfold dPut
  by_cases h : 32 < d.s.length - k + L.length
  · rw [if_pos h]; exact sPut_over v d k lv L w hv hi hk hs hL h
  · rw [if_neg h]; exact sPut_fine v d k lv L w hv hi hk hs hL (by omega)

end Go.Proofs.Ytkcogfgjabemfaa
