/- impl's serve: what is checked ahead of a service, what is laid on the stack behind it. -/
import Derived.Test.YtjlfbmplmddceaaHcB
import Derived.Test.YtjlfbmplmddceaaPrmA
import Derived.Deep.RegionHeld3
namespace Go.Proofs.Ytjlfbmplmddceaa
open Go.RowKit
set_option linter.unusedVariables false
set_option linter.unusedSimpArgs false

/-- A host in block G and data in block E, their rows in blocks of their own, no block in two places. -/
structure Pair (w : World) (lo G E : Nat) (vh vd : Value) (h : Ht) (d : Dt) : Prop where
  host : HBx w lo G vh h
  box : ∃ x y z, vd = .agg #[x, y, z, .int .i64 d.h, .int .i64 d.n, .string d.o] ∧ Whole w E 34 #[x, y, z, .int .i64 d.h, .int .i64 d.n, .string d.o]
  data : DatOf w lo w.heap.size vd d
  apart : ∀ k, (k = G ∨ Mine vh k) → ¬ (k = E ∨ Mine vd k)
  own : ∀ k, Mine vd k → k ≠ E
  loG : lo ≤ G
  loE : lo ≤ E

/-- The blocks of a host. -/
def HS (G : Nat) (vh : Value) (k : Nat) : Prop := k = G ∨ Mine vh k

theorem pair_below {w w' : World} {lo G E : Nat} {vh vd : Value} {h : Ht} {d : Dt} (p : Pair w lo G E vh vd h d) (hb : Below w.heap.size w w') : Pair w' lo G E vh vd h d := by
  obtain ⟨p1, ⟨x, y, z, e, hw⟩, p3, p4, p5, p6, p7⟩ := p
  exact ⟨hbx_below p1 hb, ⟨x, y, z, e, whole_below hw hb⟩, datOf_top (datOf_below p3 hb) hb.size, p4, p5, p6, p7⟩

theorem pair_form {w : World} {lo G E : Nat} {vh vd : Value} {h : Ht} {d : Dt} (p : Pair w lo G E vh vd h d) : ∃ A1 k1 A2 k2 A3 k3, vd = .agg #[.slice A1 d.s.length k1, .slice A2 d.b.length k2, .slice A3 d.c.length k3, .int .i64 d.h, .int .i64 d.n, .string d.o] ∧
    Whole w E 34 #[.slice A1 d.s.length k1, .slice A2 d.b.length k2, .slice A3 d.c.length k3, .int .i64 d.h, .int .i64 d.n, .string d.o] ∧ Row w lo (.slice A1 d.s.length k1) d.s := by
  obtain ⟨p1, ⟨x, y, z, e, hw⟩, p3, _⟩ := p
  obtain ⟨x', y', z', e', h1, h2, h3, _⟩ := p3
  rw [e] at e'
  simp only [Value.agg.injEq, Array.mk.injEq, List.cons.injEq, and_true, true_and] at e'
  obtain ⟨rfl, rfl, rfl⟩ := e'
  obtain ⟨_, A1, k1, rfl, _⟩ := row_ints h1
  obtain ⟨_, A2, k2, rfl, _⟩ := row_ints h2
  obtain ⟨_, A3, k3, rfl, _⟩ := row_ints h3
  exact ⟨_, _, _, _, _, _, e, hw, h1⟩

/-- What serve leaves. -/
def ServeOf (w : World) (lo G E : Nat) (r : Ht × Dt × Dd × Int) (e : Ending) (w' : World) : Prop :=
  e = .returned (.tuple #[.agg #[.int .i64 r.2.2.1.p, .int .i64 r.2.2.1.a, .int .i64 r.2.2.1.b, .int .i64 r.2.2.1.r], .int .i64 r.2.2.2]) ∧ (∃ vh vd, Pair w' lo G E vh vd r.1 r.2.1) ∧ Below lo w w'

theorem lo_le {w : World} {lo G E : Nat} {vh vd : Value} {h : Ht} {d : Dt} (p : Pair w lo G E vh vd h d) : lo ≤ w.heap.size := by
  obtain ⟨x, y, z, _, hw⟩ := p.box
  have := whole_lt hw
  have := p.loE
  omega

theorem serve_quiet {w w' : World} {lo G E : Nat} {vh vd : Value} {h : Ht} {d : Dt} {x : Dd} {t : Int} (p : Pair w lo G E vh vd h d) (hb : Below w.heap.size w w') :
    ServeOf w lo G E (h, d, x, t) (.returned (.tuple #[.agg #[.int .i64 x.p, .int .i64 x.a, .int .i64 x.b, .int .i64 x.r], .int .i64 t])) w' := ⟨rfl, ⟨vh, vd, pair_below p hb⟩, hb.mono (lo_le p)⟩

/-- What is left of a row. -/
theorem row_upto {w : World} {base : Nat} {A : Option Addr} {n c k : Nat} {zs : List Int} (h : Row w base (.slice A n c) zs) (hk : k ≤ zs.length) : Row w base (.slice A k c) (zs.take k) := by
  rcases h.2 with ⟨hv, h0⟩ | ⟨g', cap', cur, hv, hb', hg, h1, h2, h3, h4⟩
  · simp only [Value.slice.injEq] at hv
    obtain ⟨rfl, rfl, rfl⟩ := hv
    have hz : zs = [] := List.eq_nil_of_length_eq_zero h0
    subst hz
    have : k = 0 := by simpa using hk
    subst this
    exact row_nil w base
  · simp only [Value.slice.injEq] at hv
    obtain ⟨rfl, rfl, rfl⟩ := hv
    have hl : (zs.take k).length = k := by rw [List.length_take]; omega
    refine ⟨by rw [hl]; simp; omega, .inr ⟨g', c, cur, by rw [hl], hb', hg, by rw [hl]; omega, h2, h3, ?_⟩⟩
    rw [hl, List.map_take, ← h4, List.take_take]
    congr 1
    omega

/-- An append of numbers as one step of a statement in no fixed order. -/
theorem step_append_ints6 {w : World} {ops : Array Oper} {o : Oper} {a : Act} {K : Act → World → Prop} {Q : Exit → Act → World → Prop} {E : Prop} (hgd : o.guard = none) (s x : Operand)
    (ho : o.op = .call { callee := .builtin .append, args := #[s, x], argTypes := #[23, 23] }) (hty : o.type = 23)
    (base : Nat) (v : Value) (ys : List Int) (hs : a.eval s = v) (hown : Row w base v ys) (u : Value) (zs : List Int) (hx : a.eval x = u) (hz : Ints w u zs) (hl : ys.length + zs.length ≤ 1099511627776) (hbase : base ≤ w.heap.size)
    (h : ∀ v' w', Row w' base v' (ys ++ zs) → w.grownBy w' v.ownBlock → (v'.ownBlock = v.ownBlock ∨ v'.ownBlock = some w.heap.size) → K (a.put o.dst v') w') :
    if Region.wanted o (yielded ops a.tmps) = true then Oper.wp Try.prog o a w K Q else E := by
  have hw : Region.wanted o (yielded ops a.tmps) = true := by simp [Region.wanted, hgd]
  rw [if_pos hw]
  obtain ⟨v', w', hrun, h2, h3, h4⟩ := run_append_ints w base v ys hown u zs hz hl hbase
  unfold Oper.wp execOp
  simp only [ho, hty, resolve, invoke, builtin, Sem.run_bind, Sem.run_pure, Result.andThen_ok, List.map_toArray, List.map_cons, List.map_nil, hs, hx, hrun]
  exact h v' w' h2 h3 h4

set_option maxRecDepth 100000 in
set_option maxHeartbeats 1000000 in
theorem serve_under (w : World) (lo G E : Nat) (vh vd : Value) (h : Ht) (d : Dt) (t l : Nat) (fv : FuncId) (p : Pair w lo G E vh vd h d) (hf : HtFine h) (df : DtFine d) (ht : t ≤ 2) (hu : d.s.length < t) :
    Calls Try.prog 100 #[.agg #[.int .i64 t, .int .i64 l, .func (.func fv) #[] #[]], .pointer (some ⟨G, 0, none⟩), .pointer (some ⟨E, 0, none⟩)] w (ServeOf w lo G E (h, d, noDd, -4)) := by
  have PP := Lib.hid p
  obtain ⟨A1, k1, A2, k2, A3, k3, rfl, hw, hrow⟩ := pair_form p
  obtain ⟨d0, d1, d2, d3, d4, d5⟩ := six_cells hw
  have ze := whole_lt hw
  have sl := fine_sl df
  have s1 : IntKind.i64.wrap ((d.s.length : Int) - t) = (d.s.length : Int) - t := IntWalk.i64_in _ (by omega)
  have s2 : (d.s.length : Int) - t < 0 := by omega
  clear hw p hf df hrow
  go_enter Try.func100, Try.ntmps100
  go_wp2
  go_quiet (fail)
  go_wp2
  refine bodyPost_ret (v := .tuple #[.agg #[.int .i64 0, .int .i64 0, .int .i64 0, .int .i64 0], .int .i64 (-4)]) (by simp [results, Try.results100, go_sem, *]) rfl ?_
  exact serve_quiet (x := noDd) PP.out (by repeat (first | with_reducible exact Below.refl _ _ | with_reducible refine Below.setCell ?_ (by simp) _ | with_reducible refine below_alloc ?_ _ | with_reducible refine below_drewN ?_ _))

set_option maxRecDepth 100000 in
set_option maxHeartbeats 1000000 in
theorem serve_over (w : World) (lo G E : Nat) (vh vd : Value) (h : Ht) (d : Dt) (t l m : Nat) (fv : FuncId) (p : Pair w lo G E vh vd h d) (hf : HtFine h) (df : DtFine d) (ht : t ≤ 2) (hl : l ≤ 1) (hm : d.s.length = m + t) (hu : 32 < m + l) :
    Calls Try.prog 100 #[.agg #[.int .i64 t, .int .i64 l, .func (.func fv) #[] #[]], .pointer (some ⟨G, 0, none⟩), .pointer (some ⟨E, 0, none⟩)] w (ServeOf w lo G E (h, d, noDd, -3)) := by
  have PP := Lib.hid p
  obtain ⟨A1, k1, A2, k2, A3, k3, rfl, hw, hrow⟩ := pair_form p
  obtain ⟨d0, d1, d2, d3, d4, d5⟩ := six_cells hw
  have ze := whole_lt hw
  have sl := fine_sl df
  have s1 : IntKind.i64.wrap ((d.s.length : Int) - t) = (m : Int) := by rw [show (d.s.length : Int) - t = m by omega]; exact IntWalk.i64_in _ (by omega)
  have s2 : ¬ ((m : Int) < 0) := by omega
  have s3 : IntKind.i64.wrap ((m : Int) + l) = (m : Int) + l := IntWalk.i64_in _ (by omega)
  have s4 : (32 : Int) < (m : Int) + l := by omega
  clear hw p hf df hrow hm
  go_enter Try.func100, Try.ntmps100
  go_wp2
  go_quiet (fail)
  go_wp2
  refine bodyPost_ret (v := .tuple #[.agg #[.int .i64 0, .int .i64 0, .int .i64 0, .int .i64 0], .int .i64 (-3)]) (by simp [results, Try.results100, go_sem, *]) rfl ?_
  exact serve_quiet (x := noDd) PP.out (by repeat (first | with_reducible exact Below.refl _ _ | with_reducible refine Below.setCell ?_ (by simp) _ | with_reducible refine below_alloc ?_ _ | with_reducible refine below_drewN ?_ _))

theorem only_mine {w w' : World} {G : Nat} {vh : Value} {lo : Nat} (h : Only (HS G vh) w w') (hl : lo ≤ w.heap.size) (hs : ∀ k, HS G vh k → lo ≤ k) : Below lo w w' := only_below h hl hs

theorem pair_lo {w : World} {lo G E : Nat} {vh vd : Value} {h : Ht} {d : Dt} (p : Pair w lo G E vh vd h d) : ∀ k, HS G vh k → lo ≤ k := by
  rintro k (rfl | hk)
  · exact p.loG
  · exact (hostT_mine p.host.2.1 hk).1

/-- The data behind what turns a host's blocks alone; the host as it then is. -/
theorem pair_only {w w' : World} {lo G E : Nat} {vh vd vh' : Value} {h h' : Ht} {d : Dt} (p : Pair w lo G E vh vd h d) (ho : Only (HS G vh) w w') (hx : HBx w' lo G vh' h') (hs : ∀ k, Mine vh' k → Mine vh k) : Pair w' lo G E vh' vd h' d := by
  obtain ⟨p1, ⟨x, y, z, e, hw⟩, p3, p4, p5, p6, p7⟩ := p
  refine ⟨hx, ⟨x, y, z, e, whole_keep hw (ho.block E (whole_lt hw) (fun q => p4 E q (.inl rfl)))⟩, datOf_top (datOf_only p3 ho (fun k hk q => p4 k q (.inr hk))) ho.size, fun k hk => p4 k (hk.imp id (hs k)), p5, p6, p7⟩

theorem mine_first {x y z a b c : Value} : ∀ g, x.ownBlock = some g → Mine (.agg #[x, y, z, a, b, c]) g := fun g e => (mine_agg (l := [x, y, z, a, b, c])).2 ⟨x, by simp, e⟩

theorem mine_dat {x x' y z : Value} {a b : Int} {s : ByteArray} {k : Nat} (hk : Mine (.agg #[x', y, z, .int .i64 a, .int .i64 b, .string s]) k) : x'.ownBlock = some k ∨ Mine (.agg #[x, y, z, .int .i64 a, .int .i64 b, .string s]) k := by
  obtain ⟨u, hu, e⟩ := (mine_agg (l := [x', y, z, .int .i64 a, .int .i64 b, .string s])).1 hk
  simp only [List.mem_cons, List.not_mem_nil, or_false] at hu
  rcases hu with rfl | rfl | rfl | rfl | rfl | rfl
  · exact .inl e
  · exact .inr ((mine_agg (l := [x, u, z, .int .i64 a, .int .i64 b, .string s])).2 ⟨u, by simp, e⟩)
  · exact .inr ((mine_agg (l := [x, y, u, .int .i64 a, .int .i64 b, .string s])).2 ⟨u, by simp, e⟩)
  · simp [Value.ownBlock] at e
  · simp [Value.ownBlock] at e
  · simp [Value.ownBlock] at e

/-- The stack turned in a row of its own, and laid down in the data's block. -/
theorem pair_stack {w w' : World} {lo G E : Nat} {vh x y z x' : Value} {h : Ht} {d : Dt} {N : List Int} (p : Pair w lo G E vh (.agg #[x, y, z, .int .i64 d.h, .int .i64 d.n, .string d.o]) h d) (hg : w.grownBy w' x.ownBlock) (hr : Row w' lo x' N)
    (hat : x'.ownBlock = x.ownBlock ∨ x'.ownBlock = some w.heap.size) : Pair (w'.setCell ⟨E, 0, none⟩ x') lo G E vh (.agg #[x', y, z, .int .i64 d.h, .int .i64 d.n, .string d.o]) h { d with s := N } := by
  obtain ⟨⟨⟨hx, hy, hz, hq, eh, hwh⟩, ht, hn⟩, ⟨x0, y0, z0, e, hw⟩, p3, p4, p5, p6, p7⟩ := p
  simp only [Value.agg.injEq, Array.mk.injEq, List.cons.injEq, and_true, true_and] at e
  obtain ⟨rfl, rfl, rfl⟩ := e
  have hE := whole_lt hw
  have hG := whole_lt hwh
  have nh : ∀ k, HS G vh k → k < w.heap.size ∧ x.ownBlock ≠ some k ∧ k ≠ E := fun k hk => by
    refine ⟨?_, fun e => p4 k hk (.inr (mine_first k e)), fun e => p4 k hk (.inl e)⟩
    rcases hk with rfl | hk
    · exact hG
    · exact (hostT_mine ht hk).2
  have hb : ∀ k, HS G vh k → (w'.setCell ⟨E, 0, none⟩ x').heap[k]? = w.heap[k]? := fun k hk => by
    obtain ⟨q1, q2, q3⟩ := nh k hk
    rw [Below.heap_setCell w' _ _ k q3]
    exact hg.block k q1 (fun e => q2 e.symm)
  have hs : w.heap.size ≤ (w'.setCell ⟨E, 0, none⟩ x').heap.size := by simpa [World.setCell] using hg.size
  obtain ⟨a, b, c, e, h1, h2, h3, h4, q1, q2, q3, hh⟩ := p3
  simp only [Value.agg.injEq, Array.mk.injEq, List.cons.injEq, and_true, true_and] at e
  obtain ⟨rfl, rfl, rfl⟩ := e
  have own' : ∀ k, x'.ownBlock = some k → x.ownBlock = some k ∨ k = w.heap.size := fun k hk => by
    rcases hat with e | e
    · exact .inl (by rw [← e]; exact hk)
    · right; rw [e] at hk; injection hk with hk; exact hk.symm
  have nx : ∀ k, x'.ownBlock = some k → k ≠ E := fun k hk => by
    rcases own' k hk with e | rfl
    · exact p5 k (mine_first k e)
    · omega
  have ny : ∀ k, y.ownBlock = some k → k ≠ E ∧ k < w.heap.size := fun k hk => ⟨p5 k ((mine_agg (l := [x, y, z, .int .i64 d.h, .int .i64 d.n, .string d.o])).2 ⟨y, by simp, hk⟩), (row_lt h2 k hk).2⟩
  have nz : ∀ k, z.ownBlock = some k → k ≠ E ∧ k < w.heap.size := fun k hk => ⟨p5 k ((mine_agg (l := [x, y, z, .int .i64 d.h, .int .i64 d.n, .string d.o])).2 ⟨z, by simp, hk⟩), (row_lt h3 k hk).2⟩
  have wE : Whole w' E 34 #[x, y, z, .int .i64 d.h, .int .i64 d.n, .string d.o] := whole_keep hw (hg.block E hE (fun e => p5 E (mine_first E e.symm) rfl))
  refine ⟨⟨⟨hx, hy, hz, hq, eh, whole_keep hwh (hb G (.inl rfl))⟩, hostT_keep ht hs (fun k hk => hb k (.inr hk)), hn⟩, ⟨x', y, z, rfl, whole_set wE 0 x'⟩, ?_, ?_, ?_, p6, p7⟩
  · have pt : ∀ u : Value, Parted x u → (∀ k, u.ownBlock = some k → k < w.heap.size) → Parted x' u := fun u pu l k hk hu => by
      rcases own' k hk with e | rfl
      · exact pu k e hu
      · have := l _ hu; omega
    have r1 : Row (w'.setCell ⟨E, 0, none⟩ x') lo x' N := row_keep hr fun k hk => Below.heap_setCell w' _ _ k (nx k hk)
    have r2 : Row (w'.setCell ⟨E, 0, none⟩ x') lo y d.b := row_keep h2 fun k hk => (Below.heap_setCell w' _ _ k (ny k hk).1).trans (hg.block k (ny k hk).2 (fun e => q1 k e.symm hk))
    have r3 : Row (w'.setCell ⟨E, 0, none⟩ x') lo z d.c := row_keep h3 fun k hk => (Below.heap_setCell w' _ _ k (nz k hk).1).trans (hg.block k (nz k hk).2 (fun e => q2 k e.symm hk))
    exact datOf_rows (d := { d with s := N }) r1 r2 r3 h4 (pt _ q1 fun k hk => (ny k hk).2) (pt _ q2 fun k hk => (nz k hk).2) q3
  · intro k hk hq
    rcases hq with rfl | hq
    · exact p4 k hk (.inl rfl)
    · rcases mine_dat (x := x) hq with e | e
      · rcases own' k e with e | rfl
        · exact p4 k hk (.inr (mine_first k e))
        · have := (nh _ hk).1; omega
      · exact p4 k hk (.inr e)
  · intro k hk
    rcases mine_dat (x := x) hk with e | e
    · exact nx k e
    · exact p5 k e

end Go.Proofs.Ytjlfbmplmddceaa
