/- The reference's reader of items: the list of nodes that it grows, whose parts stand in other blocks. -/
import Derived.Test.YtafhmajnkicifaaTrH
import Derived.Test.YtafhmajnkicifaaCtC
namespace Go.Proofs.Ytafhmajnkicifaa
open Go.RowKit
set_option linter.unusedVariables false
set_option linter.unusedSimpArgs false

/-- A tree that is read in every world that agrees with this one from a block on, but for one block. -/
def SPart (d lo : Nat) (w : World) (own : Option Nat) (v : Value) (L : List Nd) : Prop :=
  ∀ w' : World, (∀ b, lo ≤ b → b < w.heap.size → own ≠ some b → w'.heap[b]? = w.heap[b]?) → Nds d w' v L

/-- A list of nodes in a row of its own, whose parts do not stand in that row. -/
def SRow (d lo : Nat) (w : World) (v : Value) (L : List Nd) : Prop :=
  ∃ xs, w.ownsRow lo 64 4 v L.length xs ∧ ∀ k (hk : k < L.length), xs[k * 4]? = some (.int .i64 L[k].k) ∧ xs[k * 4 + 1]? = some (.int .i64 L[k].v) ∧
    ∃ A n c B m e, xs[k * 4 + 2]? = some (.slice A n c) ∧ xs[k * 4 + 3]? = some (.slice B m e) ∧ SPart d lo w v.ownBlock (.slice A n c) L[k].a ∧ SPart d lo w v.ownBlock (.slice B m e) L[k].b

theorem spart_nil (d lo : Nat) (w : World) (own : Option Nat) (A : Option Addr) (c : Nat) : SPart d lo w own (.slice A 0 c) [] := fun w' _ => nds_nil d w' A c

theorem spart_keep {d lo : Nat} {w w' : World} {own : Option Nat} {v : Value} {L : List Nd} (h : SPart d lo w own v L) (hk : ∀ b, lo ≤ b → b < w.heap.size → own ≠ some b → w'.heap[b]? = w.heap[b]?) (hs : w.heap.size ≤ w'.heap.size) : SPart d lo w' own v L :=
  fun w2 h2 => h w2 fun b h1 h3 h4 => (h2 b h1 (by omega) h4).trans (hk b h1 h3 h4)

theorem spart_below {d lo : Nat} {w w' : World} {own : Option Nat} {v : Value} {L : List Nd} (h : SPart d lo w own v L) (hb : Below w.heap.size w w') : SPart d lo w' own v L :=
  spart_keep h (fun b _ h2 _ => hb.block b h2) hb.size

theorem spart_wide {d lo lo1 : Nat} {w : World} {own : Option Nat} {v : Value} {L : List Nd} (h : SPart d lo1 w none v L) (hl : lo ≤ lo1) (ho : ∀ g, own = some g → g < lo1) : SPart d lo w own v L :=
  fun w2 h2 => h w2 fun b h1 h3 _ => h2 b (by omega) h3 (fun e => by have := ho b e; omega)

theorem srow_fresh (d : Nat) (w : World) {lo : Nat} (hb : lo ≤ w.heap.size) : SRow d lo (w.alloc (.cells #[] 64)) (.slice (some ⟨w.heap.size, 0, none⟩) 0 0) [] :=
  ⟨[], World.ownsRow_made w #[] 0 hb (by unfold maxLen; omega) rfl, fun k hk => by simp at hk⟩

theorem srow_keep {d lo : Nat} {w w' : World} {v : Value} {L : List Nd} (h : SRow d lo w v L) (hk : ∀ b, lo ≤ b → b < w.heap.size → w'.heap[b]? = w.heap[b]?) (hs : w.heap.size ≤ w'.heap.size) : SRow d lo w' v L := by
  obtain ⟨xs, hr, hc⟩ := h
  refine ⟨xs, ownsRow_keepN hr fun g hg => hk g (World.ownsRow.lt hr g hg).1 (World.ownsRow.lt hr g hg).2, fun k hk' => ?_⟩
  obtain ⟨c0, c1, A, n, c, B, m, e, c2, c3, sa, sb⟩ := hc k hk'
  exact ⟨c0, c1, A, n, c, B, m, e, c2, c3, spart_keep sa (fun b h1 h2 _ => hk b h1 h2) hs, spart_keep sb (fun b h1 h2 _ => hk b h1 h2) hs⟩

theorem srow_below {d lo : Nat} {w w' : World} {v : Value} {L : List Nd} (h : SRow d lo w v L) (hb : Below w.heap.size w w') : SRow d lo w' v L :=
  srow_keep h (fun b _ h2 => hb.block b h2) hb.size

theorem srow_own {d lo : Nat} {w : World} {v : Value} {L : List Nd} (h : SRow d lo w v L) : ∀ g, v.ownBlock = some g → lo ≤ g ∧ g < w.heap.size := by
  obtain ⟨xs, hr, _⟩ := h
  exact fun g hg => World.ownsRow.lt hr g hg

theorem srow_form {d lo : Nat} {w : World} {v : Value} {L : List Nd} (h : SRow d lo w v L) : ∃ A c, v = .slice A L.length c ∧ L.length ≤ maxLen := by
  obtain ⟨xs, hr, _⟩ := h
  rcases hr.2 with ⟨q, q0⟩ | ⟨g, cap, cur, q, _, _, q1, q2, _⟩
  · exact ⟨none, 0, by rw [q, q0], by omega⟩
  · exact ⟨_, cap, q, by omega⟩

/-- The list, read. -/
theorem srow_built {d lo : Nat} {w : World} {v : Value} {L : List Nd} (h : SRow d lo w v L) : SPart (d + 1) lo w none v L := by
  intro w' hw
  have own := srow_own h
  obtain ⟨xs, hr, hc⟩ := h
  have hr' : w'.ownsRow lo 64 4 v L.length xs := ownsRow_keepN hr fun g hg => hw g (own g hg).1 (own g hg).2 (by simp)
  rcases hr'.2 with ⟨rfl, q0⟩ | ⟨g, cap, cur, rfl, _, hg, h1, h2, _⟩
  · obtain rfl := List.eq_nil_of_length_eq_zero q0
    exact nds_nil _ _ _ _
  · refine ⟨by omega, _, _, rfl, fun _ => ⟨_, rfl, fun k hk => ?_⟩⟩
    obtain ⟨c0, c1, A, n, c', B, m, e, c2, c3, sa, sb⟩ := hc k hk
    rw [show (⟨g, 0, none⟩ : Addr).add (k * 4) = ⟨g, k * 4, none⟩ by rw [Addr.add_lit, Nat.zero_add]]
    have cell : ∀ j, j < 4 → w'.cell? ⟨g, k * 4 + j, none⟩ = xs[k * 4 + j]? := fun j hj => World.ownsRow.cellAt hr' (k * 4 + j) (by omega)
    exact ⟨(cell 0 (by omega)).trans c0, (cell 1 (by omega)).trans c1, A, n, c', B, m, e, (cell 2 (by omega)).trans c2, (cell 3 (by omega)).trans c3, sa w' fun b h1 h2 _ => hw b h1 h2 (by simp), sb w' fun b h1 h2 _ => hw b h1 h2 (by simp)⟩

/-- A node laid in a row of cells, its parts apart from the list's row. -/
def NodeInS (d lo : Nat) (w : World) (own : Option Nat) (x : Nd) (ad : Addr) : Prop :=
  ∃ A n c B n2 c2, SPart d lo w own (.slice A n c) x.a ∧ SPart d lo w own (.slice B n2 c2) x.b ∧
    w.cell? ad = some (.int .i64 x.k) ∧ w.cell? (ad.add 1) = some (.int .i64 x.v) ∧ w.cell? (ad.add 2) = some (.slice A n c) ∧ w.cell? (ad.add 3) = some (.slice B n2 c2)

/-- What an append of one node leaves. -/
def PushedS (d lo : Nat) (v : Value) (w : World) (L : List Nd) (v' : Value) (w' : World) : Prop :=
  SRow d lo w' v' L ∧ w.grownBy w' v.ownBlock ∧ ∃ A n c, v' = .slice A n c

theorem run_pushS {d : Nat} {w : World} {lo : Nat} {v : Value} {L : List Nd} (h : SRow d lo w v L) (hl : L.length ≤ 1000000) (hlo : lo ≤ w.heap.size) {x : Nd} {ad : Addr} (hx : NodeInS d lo w v.ownBlock x ad) :
    ∃ v' w', (Builtin.append_ #[25, 25] 25 #[v, .slice (some ad) 1 1]).run Try.prog w = .ok v' w' ∧ PushedS d lo v w (L ++ [x]) v' w' := by
  obtain ⟨i0, hi0, hz0, hz1, hz2⟩ := info_parts own_infoNd
  obtain ⟨xs, hr, hc⟩ := h
  obtain ⟨A, n, c, B, n2, c2, ta, tb, k0, k1, k2, k3⟩ := hx
  obtain ⟨v', w', hrun, g2, g3, _, g5⟩ := run_append_own_at (P := Try.prog) w lo 25 25 64 i0 _ 4 64 Try.underlying25 hi0 hz0 hz1 hz2 rfl (by omega) v L.length xs hr ad 1 1 [.int .i64 x.k, .int .i64 x.v, .slice A n c, .slice B n2 c2] rfl
    (fun j u hu => by
      rcases j with _ | _ | _ | _ | j
      · rw [Addr.add_zero']; simpa using k0.trans hu
      · exact k1.trans hu
      · exact k2.trans hu
      · exact k3.trans hu
      · simp at hu) (by simp [Value.oneCell']) (by unfold maxLen; omega) (by omega) (by omega)
  have hlx := hr.1
  have hvf : ∃ A' n' c', v' = .slice A' n' c' := by
    rcases g2.2 with ⟨q, _⟩ | ⟨g, cap, cur, q, _⟩
    · exact ⟨_, _, _, q⟩
    · exact ⟨_, _, _, q⟩
  have zz := g3.size
  have own := World.ownsRow.lt hr
  have move : ∀ {y : Value} {M : List Nd}, SPart d lo w v.ownBlock y M → SPart d lo w' v'.ownBlock y M := fun hp w2 h2 => hp w2 fun b b1 b2 b3 => by
    have e := g3.block b b2 (fun q => b3 q.symm)
    refine (h2 b b1 (by omega) ?_).trans e
    rcases g5 with q | q
    · rw [q]; exact b3
    · rw [q]; intro q'; have := Option.some.inj q'; omega
  refine ⟨v', w', hrun, ⟨_, by rw [List.length_append, List.length_singleton]; exact g2, fun k hk => ?_⟩, g3, hvf⟩
  rw [List.length_append, List.length_singleton] at hk
  by_cases ek : k < L.length
  · obtain ⟨d0, d1, A', n', c', B', m', e', d2, d3, sa, sb⟩ := hc k ek
    simp only [List.getElem_append_left ek]
    refine ⟨?_, ?_, A', n', c', B', m', e', ?_, ?_, move sa, move sb⟩
    · rw [List.getElem?_append_left (by omega)]; exact d0
    · rw [List.getElem?_append_left (by omega)]; exact d1
    · rw [List.getElem?_append_left (by omega)]; exact d2
    · rw [List.getElem?_append_left (by omega)]; exact d3
  · have ek' : k = L.length := by omega
    subst ek'
    simp only [List.getElem_concat_length]
    refine ⟨?_, ?_, A, n, c, B, n2, c2, ?_, ?_, move ta, move tb⟩
    · rw [List.getElem?_append_right (by omega), show L.length * 4 - xs.length = 0 by omega]; rfl
    · rw [List.getElem?_append_right (by omega), show L.length * 4 + 1 - xs.length = 1 by omega]; rfl
    · rw [List.getElem?_append_right (by omega), show L.length * 4 + 2 - xs.length = 2 by omega]; rfl
    · rw [List.getElem?_append_right (by omega), show L.length * 4 + 3 - xs.length = 3 by omega]; rfl

theorem wpList_append_nodeS {w : World} {ops : Array Oper} {rest : List Oper} {o : Oper} {a : Act} {Q : Exit → Act → World → Prop} (hgd : o.guard = none) (s x : Operand)
    (ho : o.op = .call { callee := .builtin .append, args := #[s, x], argTypes := #[25, 25] }) (hty : o.type = 25)
    {d lo : Nat} {v : Value} {L : List Nd} (h : SRow d lo w v L) (hl : L.length ≤ 1000000) (hlo : lo ≤ w.heap.size) {y : Nd} {ad : Addr} (hy : NodeInS d lo w v.ownBlock y ad) (hs : a.eval s = v) (hx : a.eval x = .slice (some ad) 1 1)
    (hk : ∀ v' w', PushedS d lo v w (L ++ [y]) v' w' → wpList Try.prog ops Q rest (a.put o.dst v') w') :
    wpList Try.prog ops Q (o :: rest) a w := by
  refine wpList_plain hgd fun K hK => ?_
  obtain ⟨v', w', hrun, h2⟩ := run_pushS h hl hlo hy
  unfold Oper.wp execOp
  simp only [ho, hty, resolve, invoke, builtin, Sem.run_bind, Sem.run_pure, Result.andThen_ok, List.map_toArray, List.map_cons, List.map_nil, hs, hx, hrun]
  exact hK _ _ (hk v' w' h2)

end Go.Proofs.Ytafhmajnkicifaa
