/- The program's reader of items: its list's tail and head, and the append of a node in a walk. -/
import Derived.Test.YtafhmajnkicifaaTrG
namespace Go.Proofs.Ytafhmajnkicifaa
open Go.RowKit
set_option linter.unusedVariables false
set_option linter.unusedSimpArgs false

/-- The items behind the first, as the language's own part of a slice. -/
theorem its_tail {w : World} {A : Option Addr} {n c : Nat} {x : It} {S : List It} (h : Its w (.slice A n c) (x :: S)) (hc : n ≤ c) : Its w (.slice (if c = 1 then A else Option.map (fun x => x.add (1 * 2)) A) (n - 1) (c - 1)) S := by
  obtain ⟨hm, A', c', e, hr⟩ := h
  simp only [Value.slice.injEq] at e
  obtain ⟨rfl, rfl, rfl⟩ := e
  refine ⟨by simp at hm; omega, _, _, rfl, fun h0 => ?_⟩
  obtain ⟨ad, rfl, hd⟩ := hr (by simp)
  simp only [List.length_cons] at hc
  refine ⟨ad.add (1 * 2), by rw [if_neg (by omega)]; rfl, fun k hk => ?_⟩
  have q := hd (k + 1) (by simp; omega)
  rw [List.getElem_cons_succ] at q
  rw [Addr.add_add, show 1 * 2 + k * 2 = (k + 1) * 2 by omega]
  exact q

/-- The first of them. -/
theorem its_head {w : World} {A : Option Addr} {n c : Nat} {x : It} {S : List It} (h : Its w (.slice A n c) (x :: S)) : n = S.length + 1 ∧ ∃ ad, A = some ad ∧ ItAt w ad x := by
  obtain ⟨hm, A', c', e, hr⟩ := h
  simp only [Value.slice.injEq] at e
  obtain ⟨rfl, rfl, rfl⟩ := e
  obtain ⟨ad, rfl, hd⟩ := hr (by simp)
  refine ⟨by simp, ad, rfl, ?_⟩
  have q := hd 0 (by simp)
  rwa [Nat.zero_mul, Addr.add_zero', List.getElem_cons_zero] at q

/-- The reader behind the first, once its rest is stored anew. -/
theorem rd_tail {w w' : World} {G ib : Nat} {A : Option Addr} {n c : Nat} {x : It} {S : List It} (h : Its w (.slice A n c) (x :: S)) (hc : n ≤ c) (hb : ∀ ad, A = some ad → 0 < n → ad.block = ib)
    (h1 : Whole w' G 50 #[.slice (if c = 1 then A else Option.map (fun x => x.add (1 * 2)) A) (n - 1) (c - 1)]) (h2 : w'.heap[ib]? = w.heap[ib]?) : RdAt w' G ib S := by
  have t := its_tail h hc
  obtain ⟨hn, ad, rfl, _⟩ := its_head h
  have hbd := hb ad rfl (by omega)
  refine ⟨_, _, _, h1, ?_, by omega, fun ad' e h0 => ?_⟩
  · obtain ⟨hl, A', c', e, hd⟩ := t
    refine ⟨hl, A', c', e, fun h0 => ?_⟩
    obtain ⟨ad', ha, hq⟩ := hd h0
    refine ⟨ad', ha, fun k hk => ?_⟩
    simp only [Value.slice.injEq] at e
    obtain ⟨e1, e2, e3⟩ := e
    have eb : (ad'.add (k * 2)).block = ib := by
      rw [add_block]
      subst ha
      rw [if_neg (by omega)] at e1
      simp only [Option.map_some, Option.some.injEq] at e1
      rw [← e1, add_block, hbd]
    have hbk : w'.heap[(ad'.add (k * 2)).block]? = w.heap[(ad'.add (k * 2)).block]? := by rw [eb]; exact h2
    obtain ⟨c0, c1⟩ := hq k hk
    exact ⟨(World.cell?_of_block hbk).trans c0, (World.cell?_of_block (a := ⟨(ad'.add (k * 2)).block, (ad'.add (k * 2)).off + 1, none⟩) hbk).trans c1⟩
  · rw [if_neg (by omega)] at e
    simp only [Option.map_some, Option.some.injEq] at e
    rw [← e, add_block, hbd]

/-- What an append of one node leaves. -/
def Pushed (d lo : Nat) (v : Value) (w : World) (L : List Nd) (v' : Value) (w' : World) : Prop :=
  TOwn d w' lo w'.heap.size v' L ∧ w.grownBy w' v.ownBlock ∧ (v'.ownBlock = v.ownBlock ∨ v'.ownBlock = some w.heap.size) ∧ ∃ A n c, v' = .slice A n c

/-- A node laid in a cell row, with its own rows behind the list's. -/
def NodeIn (d : Nat) (w : World) (hi : Nat) (x : Nd) (ad : Addr) : Prop :=
  ∃ s m e A n c B n2 c2, hi ≤ s ∧ s ≤ m ∧ m ≤ e ∧ e ≤ w.heap.size ∧ TOwn d w s m (.slice A n c) x.a ∧ TOwn d w m e (.slice B n2 c2) x.b ∧
    w.cell? ad = some (.int .i64 x.k) ∧ w.cell? (ad.add 1) = some (.int .i64 x.v) ∧ w.cell? (ad.add 2) = some (.slice A n c) ∧ w.cell? (ad.add 3) = some (.slice B n2 c2)

theorem run_push {d : Nat} {w : World} {lo hi : Nat} {v : Value} {L : List Nd} (h : TOwn (d + 1) w lo hi v L) (hl : L.length ≤ 1000000) (hlo : lo ≤ hi) (hhi : hi ≤ w.heap.size) {x : Nd} {ad : Addr} (hx : NodeIn d w hi x ad) :
    ∃ v' w', (Builtin.append_ #[25, 25] 25 #[v, .slice (some ad) 1 1]).run Try.prog w = .ok v' w' ∧ Pushed (d + 1) lo v w (L ++ [x]) v' w' := by
  obtain ⟨s, m, e, A, n, c, B, n2, c2, h1, h2, h3, he, ta, tb, k0, k1, k2, k3⟩ := hx
  obtain ⟨v', w', hrun, g⟩ := town_push h hl hlo hhi h1 h2 h3 he x ta tb k0 k1 k2 k3
  exact ⟨v', w', hrun, g⟩

theorem wpList_append_node {w : World} {ops : Array Oper} {rest : List Oper} {o : Oper} {a : Act} {Q : Exit → Act → World → Prop} (hgd : o.guard = none) (s x : Operand)
    (ho : o.op = .call { callee := .builtin .append, args := #[s, x], argTypes := #[25, 25] }) (hty : o.type = 25)
    {d lo hi : Nat} {v : Value} {L : List Nd} (h : TOwn (d + 1) w lo hi v L) (hl : L.length ≤ 1000000) (hlo : lo ≤ hi) (hhi : hi ≤ w.heap.size) {y : Nd} {ad : Addr} (hy : NodeIn d w hi y ad) (hs : a.eval s = v) (hx : a.eval x = .slice (some ad) 1 1)
    (hk : ∀ v' w', Pushed (d + 1) lo v w (L ++ [y]) v' w' → wpList Try.prog ops Q rest (a.put o.dst v') w') :
    wpList Try.prog ops Q (o :: rest) a w := by
  refine wpList_plain hgd fun K hK => ?_
  obtain ⟨v', w', hrun, h2⟩ := run_push h hl hlo hhi hy
  unfold Oper.wp execOp
  simp only [ho, hty, resolve, invoke, builtin, Sem.run_bind, Sem.run_pure, Result.andThen_ok, List.map_toArray, List.map_cons, List.map_nil, hs, hx, hrun]
  exact hK _ _ (hk v' w' h2)

theorem step_append_node {w : World} {ops : Array Oper} {o : Oper} {a : Act} {K : Act → World → Prop} {Q : Exit → Act → World → Prop} {E : Prop} (hgd : o.guard = none) (s x : Operand)
    (ho : o.op = .call { callee := .builtin .append, args := #[s, x], argTypes := #[25, 25] }) (hty : o.type = 25)
    {d lo hi : Nat} {v : Value} {L : List Nd} (hs : a.eval s = v) (h : TOwn (d + 1) w lo hi v L) (hl : L.length ≤ 1000000) (hlo : lo ≤ hi) (hhi : hi ≤ w.heap.size) {y : Nd} {ad : Addr} (hx : a.eval x = .slice (some ad) 1 1) (hy : NodeIn d w hi y ad)
    (hk : ∀ v' w', Pushed (d + 1) lo v w (L ++ [y]) v' w' → K (a.put o.dst v') w') :
    if Region.wanted o (yielded ops a.tmps) = true then Oper.wp Try.prog o a w K Q else E := by
  have hw : Region.wanted o (yielded ops a.tmps) = true := by simp [Region.wanted, hgd]
  rw [if_pos hw]
  obtain ⟨v', w', hrun, h2⟩ := run_push h hl hlo hhi hy
  unfold Oper.wp execOp
  simp only [ho, hty, resolve, invoke, builtin, Sem.run_bind, Sem.run_pure, Result.andThen_ok, List.map_toArray, List.map_cons, List.map_nil, hs, hx, hrun]
  exact hk v' w' h2

end Go.Proofs.Ytafhmajnkicifaa
