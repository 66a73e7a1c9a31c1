/- Trees in blocks of their own; a tree marked. -/
import Derived.Test.YtafhmajnkicifaaTrB
import Derived.Test.YtafhmajnkicifaaOnA
namespace Go.Proofs.Ytafhmajnkicifaa
open Go.RowKit
set_option linter.unusedVariables false
set_option linter.unusedSimpArgs false

/-- A slice of nodes in a row of the call's own, its parts in blocks of their own between bounds that do not overlap. -/
def TOwn : Nat → World → Nat → Nat → Value → List Nd → Prop
  | 0 => fun _ _ _ v L => L = [] ∧ ∃ A c, v = .slice A 0 c
  | d + 1 => fun w lo hi v L => ∃ xs, w.ownsRow lo 64 4 v L.length xs ∧ (∀ g, v.ownBlock = some g → g < hi) ∧
      ∃ p : Nat → Nat, lo ≤ p 0 ∧ (∀ i, i < 3 * L.length → p i ≤ p (i + 1)) ∧ p (3 * L.length) ≤ hi ∧
        ∀ k (hk : k < L.length), xs[k * 4]? = some (.int .i64 L[k].k) ∧ xs[k * 4 + 1]? = some (.int .i64 L[k].v) ∧
          (∀ g, v.ownBlock = some g → g < p (3 * k) ∨ p (3 * k + 2) ≤ g) ∧
          ∃ A n c B m e, xs[k * 4 + 2]? = some (.slice A n c) ∧ xs[k * 4 + 3]? = some (.slice B m e) ∧
            TOwn d w (p (3 * k)) (p (3 * k + 1)) (.slice A n c) L[k].a ∧ TOwn d w (p (3 * k + 1)) (p (3 * k + 2)) (.slice B m e) L[k].b

theorem up_le {p : Nat → Nat} {n : Nat} (h : ∀ i, i < n → p i ≤ p (i + 1)) : ∀ i j, i ≤ j → j ≤ n → p i ≤ p j := by
  intro i j hij hj
  induction j with
  | zero => have : i = 0 := by omega
            subst this; exact Nat.le_refl _
  | succ j ih =>
    rcases Nat.lt_or_ge i (j + 1) with q | q
    · exact Nat.le_trans (ih (by omega) (by omega)) (h j (by omega))
    · have : i = j + 1 := by omega
      subst this; exact Nat.le_refl _

theorem ownsRow_keepN {w w' : World} {lo : Nat} {t : TypeId} {s n : Nat} {v : Value} {xs : List Value} (h : w.ownsRow lo t s v n xs) (hk : ∀ g, v.ownBlock = some g → w'.heap[g]? = w.heap[g]?) : w'.ownsRow lo t s v n xs := by
  obtain ⟨h1, h2⟩ := h
  refine ⟨h1, ?_⟩
  rcases h2 with h2 | ⟨g, cap, cur, hv, hb, hg, r⟩
  · exact .inl h2
  · exact .inr ⟨g, cap, cur, hv, hb, by rw [hk g (by rw [hv]; rfl)]; exact hg, r⟩

theorem town_keep (d : Nat) : ∀ {w w' : World} {lo hi : Nat} {v : Value} {L : List Nd}, TOwn d w lo hi v L → (∀ g, lo ≤ g → g < hi → w'.heap[g]? = w.heap[g]?) → TOwn d w' lo hi v L := by
  induction d with
  | zero => intro w w' lo hi v L h _; exact h
  | succ d ih =>
    intro w w' lo hi v L h hk
    obtain ⟨xs, hr, hh, p, p0, pu, pe, hc⟩ := h
    have up := up_le pu
    refine ⟨xs, ownsRow_keepN hr fun g hg => hk g (World.ownsRow.lt hr g hg).1 (hh g hg), hh, p, p0, pu, pe, fun k hk' => ?_⟩
    obtain ⟨c0, c1, cg, A, n, c, B, m, e, c2, c3, ta, tb⟩ := hc k hk'
    have q0 := up 0 (3 * k) (by omega) (by omega)
    have q1 := up (3 * k) (3 * k + 1) (by omega) (by omega)
    have q2 := up (3 * k + 1) (3 * k + 2) (by omega) (by omega)
    have q3 := up (3 * k + 2) (3 * L.length) (by omega) (by omega)
    exact ⟨c0, c1, cg, A, n, c, B, m, e, c2, c3, ih ta fun g h1 h2 => hk g (by omega) (by omega), ih tb fun g h1 h2 => hk g (by omega) (by omega)⟩

theorem town_wide (d : Nat) {w : World} {lo hi lo' hi' : Nat} {v : Value} {L : List Nd} (h : TOwn d w lo hi v L) (h1 : lo' ≤ lo) (h2 : hi ≤ hi') : TOwn d w lo' hi' v L := by
  cases d with
  | zero => exact h
  | succ d =>
    obtain ⟨xs, ⟨hl, hr⟩, hh, p, p0, pu, pe, hc⟩ := h
    refine ⟨xs, ⟨hl, ?_⟩, fun g hg => Nat.lt_of_lt_of_le (hh g hg) h2, p, by omega, pu, by omega, hc⟩
    rcases hr with hr | ⟨g, cap, cur, hv, hb, r⟩
    · exact .inl hr
    · exact .inr ⟨g, cap, cur, hv, by omega, r⟩

theorem town_form {d : Nat} {w : World} {lo hi : Nat} {v : Value} {L : List Nd} (h : TOwn (d + 1) w lo hi v L) (h0 : 0 < L.length) : ∃ g c, v = .slice (some ⟨g, 0, none⟩) L.length c ∧ lo ≤ g ∧ g < hi ∧ g < w.heap.size ∧ L.length ≤ c ∧ c ≤ maxLen := by
  obtain ⟨xs, hr, hh, _⟩ := h
  have ht := World.ownsRow.lt hr
  rcases hr.2 with ⟨_, hz⟩ | ⟨g, cap, cur, hv, hb, hg, hnc, hcm, _⟩
  · omega
  · subst hv
    exact ⟨g, cap, rfl, hb, hh g rfl, (ht g rfl).2, hnc, hcm⟩

theorem town_nds (d : Nat) : ∀ {w : World} {lo hi : Nat} {v : Value} {L : List Nd}, TOwn d w lo hi v L → Nds d w v L := by
  induction d with
  | zero => intro w lo hi v L h; exact h
  | succ d ih =>
    intro w lo hi v L h
    rcases Nat.eq_zero_or_pos L.length with h0 | h0
    · obtain ⟨xs, hr, _⟩ := h
      obtain rfl := List.eq_nil_of_length_eq_zero h0
      rcases hr.2 with ⟨rfl, _⟩ | ⟨g, cap, cur, rfl, _⟩
      · exact nds_nil _ _ _ _
      · exact nds_nil _ _ _ _
    · obtain ⟨g, c, rfl, _, _, _, h1, h2⟩ := town_form h h0
      obtain ⟨xs, hr, hh, p, p0, pu, pe, hc⟩ := h
      refine ⟨by omega, _, _, rfl, fun _ => ⟨_, rfl, fun k hk => ?_⟩⟩
      obtain ⟨c0, c1, cg, A, n, c', B, m, e, c2, c3, ta, tb⟩ := hc k hk
      rw [show (⟨g, 0, none⟩ : Addr).add (k * 4) = ⟨g, k * 4, none⟩ by rw [Addr.add_lit, Nat.zero_add]]
      have cell : ∀ j, j < 4 → w.cell? ⟨g, k * 4 + j, none⟩ = xs[k * 4 + j]? := fun j hj => World.ownsRow.cellAt hr (k * 4 + j) (by omega)
      exact ⟨(cell 0 (by omega)).trans c0, (cell 1 (by omega)).trans c1, A, n, c', B, m, e, (cell 2 (by omega)).trans c2, (cell 3 (by omega)).trans c3, ih ta, ih tb⟩

/-- One node of a row, opened; how the row is closed behind a change of that node. -/
theorem town_at {d : Nat} {w : World} {lo hi g c : Nat} {L : List Nd} (h : TOwn (d + 1) w lo hi (.slice (some ⟨g, 0, none⟩) L.length c) L) (i : Nat) (hil : i < L.length) :
    ∃ A n e B m f q0 q1 q2, lo ≤ q0 ∧ q0 ≤ q1 ∧ q1 ≤ q2 ∧ q2 ≤ hi ∧ (g < q0 ∨ q2 ≤ g) ∧
      (w.cell? ⟨g, i * 4, none⟩ = some (.int .i64 L[i].k) ∧ w.cell? ⟨g, i * 4 + 1, none⟩ = some (.int .i64 L[i].v) ∧ w.cell? ⟨g, i * 4 + 2, none⟩ = some (.slice A n e) ∧ w.cell? ⟨g, i * 4 + 3, none⟩ = some (.slice B m f)) ∧
      TOwn d w q0 q1 (.slice A n e) L[i].a ∧ TOwn d w q1 q2 (.slice B m f) L[i].b ∧
      ∀ (w' : World) (y : Nd), (∀ b, lo ≤ b → b < hi → b ≠ g → (b < q0 ∨ q2 ≤ b) → w'.heap[b]? = w.heap[b]?) →
        w'.heap[g]? = ((w.setCell ⟨g, i * 4, none⟩ (.int .i64 y.k)).setCell ⟨g, i * 4 + 1, none⟩ (.int .i64 y.v)).heap[g]? →
        TOwn d w' q0 q1 (.slice A n e) y.a → TOwn d w' q1 q2 (.slice B m f) y.b → TOwn (d + 1) w' lo hi (.slice (some ⟨g, 0, none⟩) L.length c) (L.set i y) := by
  obtain ⟨xs, hr, hh, p, p0, pu, pe, hc⟩ := h
  have up := up_le pu
  obtain ⟨c0, c1, cg, A, n, e, B, m, f, c2, c3, ta, tb⟩ := hc i hil
  have cell : ∀ j, j < 4 → w.cell? ⟨g, i * 4 + j, none⟩ = xs[i * 4 + j]? := fun j hj => World.ownsRow.cellAt hr (i * 4 + j) (by omega)
  refine ⟨A, n, e, B, m, f, p (3 * i), p (3 * i + 1), p (3 * i + 2), Nat.le_trans p0 (up 0 _ (by omega) (by omega)), up _ _ (by omega) (by omega), up _ _ (by omega) (by omega), Nat.le_trans (up _ (3 * L.length) (by omega) (by omega)) pe, cg g rfl,
    ⟨(cell 0 (by omega)).trans c0, (cell 1 (by omega)).trans c1, (cell 2 (by omega)).trans c2, (cell 3 (by omega)).trans c3⟩, ta, tb, ?_⟩
  intro w' y hout hrow na nb
  have s1 := (hr.stored (i * 4) (.int .i64 y.k)).1
  have s2 := (s1.stored (i * 4 + 1) (.int .i64 y.v)).1
  have hl := hr.1
  have s3 := ownsRow_keepN (w' := w') s2 (fun b hb => by
    have : g = b := by simpa [Value.ownBlock] using hb
    subst this; exact hrow)
  refine ⟨_, by rw [List.length_set]; exact s3, hh, p, p0, by rw [List.length_set]; exact pu, by rw [List.length_set]; exact pe, fun k hk => ?_⟩
  rw [List.length_set] at hk
  by_cases ek : k = i
  · subst ek
    rw [List.getElem_set_self]
    refine ⟨?_, ?_, cg, A, n, e, B, m, f, ?_, ?_, na, nb⟩
    · rw [List.getElem?_set_ne (by omega), List.getElem?_set_self (by omega)]
    · rw [List.getElem?_set_self (by rw [List.length_set]; omega)]
    · rw [List.getElem?_set_ne (by omega), List.getElem?_set_ne (by omega)]; exact c2
    · rw [List.getElem?_set_ne (by omega), List.getElem?_set_ne (by omega)]; exact c3
  · obtain ⟨d0, d1, dg, A', n', e', B', m', f', d2, d3, sa, sb⟩ := hc k hk
    rw [List.getElem_set_ne (by omega)]
    have far : ∀ b, p (3 * k) ≤ b → b < p (3 * k + 2) → w'.heap[b]? = w.heap[b]? := fun b h1 h2 => by
      have l0 := up 0 (3 * k) (by omega) (by omega)
      have l1 := up (3 * k + 2) (3 * L.length) (by omega) (by omega)
      refine hout b (by omega) (by omega) (fun q => ?_) ?_
      · subst q; have := dg b rfl; omega
      · rcases Nat.lt_or_ge k i with q | q
        · have := up (3 * k + 2) (3 * i) (by omega) (by omega); exact .inl (by omega)
        · have := up (3 * i + 2) (3 * k) (by omega) (by omega); exact .inr (by omega)
    have m1 := up (3 * k) (3 * k + 1) (by omega) (by omega)
    have m2 := up (3 * k + 1) (3 * k + 2) (by omega) (by omega)
    refine ⟨?_, ?_, dg, A', n', e', B', m', f', ?_, ?_, town_keep d sa fun b h1 h2 => far b h1 (by omega), town_keep d sb fun b h1 h2 => far b (by omega) h2⟩
    · rw [List.getElem?_set_ne (by omega), List.getElem?_set_ne (by omega)]; exact d0
    · rw [List.getElem?_set_ne (by omega), List.getElem?_set_ne (by omega)]; exact d1
    · rw [List.getElem?_set_ne (by omega), List.getElem?_set_ne (by omega)]; exact d2
    · rw [List.getElem?_set_ne (by omega), List.getElem?_set_ne (by omega)]; exact d3

theorem town_room {d : Nat} {w : World} {lo hi : Nat} {v : Value} {L : List Nd} (h : TOwn (d + 1) w lo hi v L) : L.length ≤ maxLen := by
  obtain ⟨xs, hr, _⟩ := h
  rcases hr.2 with ⟨_, h0⟩ | ⟨g, cap, cur, _, _, _, h1, h2, _⟩
  · omega
  · omega

theorem own_infoNd : (Try.prog.info? 64).map (fun i => (i.zero, i.size, i.bytes)) = some (some (.agg #[.int .i64 0, .int .i64 0, .slice none 0 0, .slice none 0 0]), 4, 64) := by kernel_rfl

/-- A node appended. -/
theorem town_push {d : Nat} {w : World} {lo hi : Nat} {v : Value} {L : List Nd} (h : TOwn (d + 1) w lo hi v L) (hl : L.length ≤ 1000000) (hlo : lo ≤ hi) (hhi : hi ≤ w.heap.size)
    {s m e : Nat} (h1 : hi ≤ s) (h2 : s ≤ m) (h3 : m ≤ e) (he : e ≤ w.heap.size) (x : Nd) {A B : Option Addr} {n c n2 c2 : Nat}
    (ta : TOwn d w s m (.slice A n c) x.a) (tb : TOwn d w m e (.slice B n2 c2) x.b) {ad : Addr}
    (k0 : w.cell? ad = some (.int .i64 x.k)) (k1 : w.cell? (ad.add 1) = some (.int .i64 x.v)) (k2 : w.cell? (ad.add 2) = some (.slice A n c)) (k3 : w.cell? (ad.add 3) = some (.slice B n2 c2)) :
    ∃ v' w', (Builtin.append_ #[25, 25] 25 #[v, .slice (some ad) 1 1]).run Try.prog w = .ok v' w' ∧ TOwn (d + 1) w' lo w'.heap.size v' (L ++ [x]) ∧ w.grownBy w' v.ownBlock ∧ (v'.ownBlock = v.ownBlock ∨ v'.ownBlock = some w.heap.size) ∧ ∃ A' n' c', v' = .slice A' n' c' := by
  obtain ⟨i0, hi0, hz0, hz1, hz2⟩ := info_parts own_infoNd
  obtain ⟨xs, hr, hh, p, p0, pu, pe, hc⟩ := h
  obtain ⟨v', w', hrun, g2, g3, _, g5⟩ := run_append_own_at (P := Try.prog) w lo 25 25 64 i0 _ 4 64 Try.underlying25 hi0 hz0 hz1 hz2 rfl (by omega) v L.length xs hr ad 1 1 [.int .i64 x.k, .int .i64 x.v, .slice A n c, .slice B n2 c2] rfl
    (fun j u hu => by
      rcases j with _ | _ | _ | _ | j
      · rw [Addr.add_zero']; simpa using k0.trans hu
      · exact k1.trans hu
      · exact k2.trans hu
      · exact k3.trans hu
      · simp at hu) (by simp [Value.oneCell']) (by unfold maxLen; omega) (by omega) (by omega)
  have hlx := hr.1
  have hvf : ∃ A' n' c', v' = .slice A' n' c' := by
    rcases g2.2 with ⟨q, _⟩ | ⟨g, cap, cur, q, _⟩
    · exact ⟨_, _, _, q⟩
    · exact ⟨_, _, _, q⟩
  have up := up_le pu
  have zz := g3.size
  have own' : ∀ g, v'.ownBlock = some g → (v.ownBlock = some g ∧ g < hi) ∨ g = w.heap.size := fun g hg => by
    rcases g5 with q | q
    · exact .inl ⟨by rw [← q]; exact hg, hh g (by rw [← q]; exact hg)⟩
    · rw [q] at hg; exact .inr (Option.some.inj hg).symm
  have keep : ∀ b, b < w.heap.size → (∀ g, v.ownBlock = some g → g ≠ b) → w'.heap[b]? = w.heap[b]? := fun b hb hn => g3.block b hb (fun q => hn b q.symm rfl)
  refine ⟨v', w', hrun, ⟨_, by rw [List.length_append, List.length_singleton]; exact g2, fun g hg => (World.ownsRow.lt g2 g hg).2,
    fun i => if i < 3 * L.length then p i else if i = 3 * L.length then s else if i = 3 * L.length + 1 then m else e, ?_, ?_, ?_, ?_⟩, g3, g5, hvf⟩
  · show lo ≤ if 0 < 3 * L.length then p 0 else if 0 = 3 * L.length then s else if 0 = 3 * L.length + 1 then m else e
    by_cases h0 : 0 < 3 * L.length
    · rw [if_pos h0]; exact p0
    · rw [if_neg h0, if_pos (by omega)]; omega
  · intro i hi
    rw [List.length_append, List.length_singleton] at hi
    show (if i < 3 * L.length then p i else if i = 3 * L.length then s else if i = 3 * L.length + 1 then m else e) ≤ (if i + 1 < 3 * L.length then p (i + 1) else if i + 1 = 3 * L.length then s else if i + 1 = 3 * L.length + 1 then m else e)
    by_cases a1 : i + 1 < 3 * L.length
    · rw [if_pos (by omega), if_pos a1]; exact pu i (by omega)
    · rw [if_neg a1]
      by_cases a2 : i + 1 = 3 * L.length
      · have := pu i (by omega)
        rw [a2] at this
        rw [if_pos (by omega), if_pos a2]; omega
      · rw [if_neg a2, if_neg (by omega)]
        repeat' split
        all_goals omega
  · rw [List.length_append, List.length_singleton]
    show (if 3 * (L.length + 1) < 3 * L.length then p (3 * (L.length + 1)) else if 3 * (L.length + 1) = 3 * L.length then s else if 3 * (L.length + 1) = 3 * L.length + 1 then m else e) ≤ _
    rw [if_neg (by omega), if_neg (by omega), if_neg (by omega)]; omega
  · intro k hk
    rw [List.length_append, List.length_singleton] at hk
    by_cases ek : k < L.length
    · obtain ⟨d0, d1, dg, A', n', c', B', m', e', d2, d3, sa, sb⟩ := hc k ek
      have u1 := up (3 * k) (3 * k + 1) (by omega) (by omega)
      have u2 := up (3 * k + 1) (3 * k + 2) (by omega) (by omega)
      have u3 := up (3 * k + 2) (3 * L.length) (by omega) (by omega)
      have far : ∀ b, p (3 * k) ≤ b → b < p (3 * k + 2) → w'.heap[b]? = w.heap[b]? := fun b q1 q2 => keep b (by omega) (fun g hg e => by have := dg g hg; omega)
      simp only [List.getElem_append_left ek, show 3 * k < 3 * L.length from by omega, show 3 * k + 1 < 3 * L.length from by omega, show 3 * k + 2 < 3 * L.length from by omega, if_true]
      refine ⟨?_, ?_, fun g hg => ?_, A', n', c', B', m', e', ?_, ?_, town_keep d sa fun b q1 q2 => far b q1 (by omega), town_keep d sb fun b q1 q2 => far b (by omega) q2⟩
      · rw [List.getElem?_append_left (by omega)]; exact d0
      · rw [List.getElem?_append_left (by omega)]; exact d1
      · rcases own' g hg with ⟨q, _⟩ | q
        · exact dg g q
        · exact .inr (by omega)
      · rw [List.getElem?_append_left (by omega)]; exact d2
      · rw [List.getElem?_append_left (by omega)]; exact d3
    · have ek' : k = L.length := by omega
      subst ek'
      have far : ∀ b, s ≤ b → b < e → w'.heap[b]? = w.heap[b]? := fun b q1 q2 => keep b (by omega) (fun g hg e => by have := hh g hg; omega)
      simp only [List.getElem_concat_length, Nat.lt_irrefl, if_false, if_true, show ¬ 3 * L.length + 1 < 3 * L.length from by omega, show ¬ 3 * L.length + 1 = 3 * L.length from by omega, show ¬ 3 * L.length + 2 < 3 * L.length from by omega, show ¬ 3 * L.length + 2 = 3 * L.length from by omega, show ¬ 3 * L.length + 2 = 3 * L.length + 1 from by omega]
      refine ⟨?_, ?_, fun g hg => ?_, A, n, c, B, n2, c2, ?_, ?_, town_keep d ta fun b q1 q2 => far b q1 (by omega), town_keep d tb fun b q1 q2 => far b (by omega) q2⟩
      · rw [List.getElem?_append_right (by omega), show L.length * 4 - xs.length = 0 by omega]; rfl
      · rw [List.getElem?_append_right (by omega), show L.length * 4 + 1 - xs.length = 1 by omega]; rfl
      · rcases own' g hg with ⟨_, q⟩ | q
        · exact .inl (by omega)
        · exact .inr (by omega)
      · rw [List.getElem?_append_right (by omega), show L.length * 4 + 2 - xs.length = 2 by omega]; rfl
      · rw [List.getElem?_append_right (by omega), show L.length * 4 + 3 - xs.length = 3 by omega]; rfl

end Go.Proofs.Ytafhmajnkicifaa
