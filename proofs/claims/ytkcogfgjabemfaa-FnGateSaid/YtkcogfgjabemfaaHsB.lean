/- Appends of rows of bools and of deeds, as one step. -/
import Derived.Test.YtkcogfgjabemfaaHsA
import Derived.Test.YtkcogfgjabemfaaDatO
namespace Go.Proofs.Ytkcogfgjabemfaa
open Go.RowKit
set_option linter.unusedVariables false
set_option linter.unusedSimpArgs false

/-- Append of a row of numbers that reads, nil or not, onto a row of the call's own. -/
theorem run_append_bools (w : World) (base : Nat) (v : Value) (ys : List Bool) (hown : BoRow w base v ys) (x : Value) (zs : List Bool) (hz : Bols w x zs) (hl : ys.length + zs.length ≤ 1099511627776) (hbase : base ≤ w.heap.size) :
    ∃ v' w', (Builtin.append_ #[23, 23] 23 #[v, x]).run Try.prog w = .ok v' w' ∧ BoRow w' base v' (ys ++ zs) ∧ w.grownBy w' v.ownBlock ∧ (v'.ownBlock = v.ownBlock ∨ v'.ownBlock = some w.heap.size) := by
  obtain ⟨i0, hi0, hz0, hz1, hz2⟩ := info_parts own_infoB
  obtain ⟨zm, A, cap, rfl, hc⟩ := hz
  have fin : ∀ ad, A = some ad → ∃ v' w', (Builtin.append_ #[23, 23] 23 #[v, .slice A zs.length cap]).run Try.prog w = .ok v' w' ∧ BoRow w' base v' (ys ++ zs) ∧ w.grownBy w' v.ownBlock ∧ (v'.ownBlock = v.ownBlock ∨ v'.ownBlock = some w.heap.size) := by
    rintro ad rfl
    obtain ⟨v', w', hr, h2, h3, _, h5⟩ := run_append_own_at (P := Try.prog) w base 23 23 4 i0 _ 1 1 Try.underlying23 hi0 hz0 hz1 hz2 rfl (by omega) v ys.length _ hown ad zs.length cap (zs.map (Value.bool)) (by simp)
      (fun j u hu => by
        rcases Nat.lt_or_ge j zs.length with hj | hj
        · obtain ⟨ad', ha, hc⟩ := hc (by omega)
          obtain rfl := Option.some.inj ha
          rw [hc j hj]
          simpa [hj] using hu
        · simp [hj] at hu) (fun u hu => by obtain ⟨z, _, rfl⟩ := List.mem_map.1 hu; rfl) (by unfold maxLen; omega) (by omega) hbase
    exact ⟨v', w', hr, by unfold BoRow; rw [List.map_append, List.length_append]; exact h2, h3, h5⟩
  rcases A with _ | ad
  · have h0 : zs = [] := by
      rcases Nat.eq_zero_or_pos zs.length with h0 | h0
      · exact List.eq_nil_of_length_eq_zero h0
      · obtain ⟨ad, ha, _⟩ := hc h0; cases ha
    subst h0
    refine ⟨v, w, ?_, by rw [List.append_nil]; exact hown, World.grownBy.refl w _, .inl rfl⟩
    rcases hown.2 with ⟨rfl, h0⟩ | ⟨g, cap', cur, rfl, _, _, hnc, _⟩
    · simp [Builtin.append_, run_underlying Try.underlying23, sizeOf, typeInfo, hi0, Builtin.lenOf, Builtin.firstCells]
    · simp [Builtin.append_, run_underlying Try.underlying23, sizeOf, typeInfo, hi0, Builtin.lenOf, Builtin.firstCells, hnc, storeCells]
  · exact fin ad rfl

theorem wpList_append_bools {w : World} {ops : Array Oper} {rest : List Oper} {o : Oper} {a : Act} {Q : Exit → Act → World → Prop} (hgd : o.guard = none) (s x : Operand)
    (ho : o.op = .call { callee := .builtin .append, args := #[s, x], argTypes := #[23, 23] }) (hty : o.type = 23)
    (base : Nat) (v : Value) (ys : List Bool) (hown : BoRow w base v ys) (u : Value) (zs : List Bool) (hz : Bols w u zs) (hs : a.eval s = v) (hx : a.eval x = u) (hl : ys.length + zs.length ≤ 1099511627776) (hbase : base ≤ w.heap.size)
    (h : ∀ v' w', BoRow w' base v' (ys ++ zs) → w.grownBy w' v.ownBlock → (v'.ownBlock = v.ownBlock ∨ v'.ownBlock = some w.heap.size) → wpList Try.prog ops Q rest (a.put o.dst v') w') :
    wpList Try.prog ops Q (o :: rest) a w := by
  refine wpList_plain hgd fun K hK => ?_
  obtain ⟨v', w', hrun, h2, h3, h4⟩ := run_append_bools w base v ys hown u zs hz hl hbase
  unfold Oper.wp execOp
  simp only [ho, hty, resolve, invoke, builtin, Sem.run_bind, Sem.run_pure, Result.andThen_ok, List.map_toArray, List.map_cons, List.map_nil, hs, hx, hrun]
  exact hK _ _ (h v' w' h2 h3 h4)

/-- 'append([]int{}, xs...)': a row of the call's own, of these numbers. -/
theorem wpList_append_newbo {W0 : World} {ops : Array Oper} {rest : List Oper} {o : Oper} {a : Act} {Q : Exit → Act → World → Prop} (hgd : o.guard = none) (s x : Operand)
    (ho : o.op = .call { callee := .builtin .append, args := #[s, x], argTypes := #[23, 23] }) (hty : o.type = 23)
    (g : Nat) (hs : a.eval s = .slice (some ⟨g, 0, none⟩) 0 0) (hgs : g = W0.heap.size) (u : Value) (zs : List Bool) (hx : a.eval x = u) (hz : Bols W0 u zs) (hl : zs.length ≤ 1099511627776)
    (h : ∀ B m w', BoRow w' W0.heap.size (.slice B zs.length m) zs → Below W0.heap.size W0 w' → wpList Try.prog ops Q rest (a.put o.dst (.slice B zs.length m)) w') :
    wpList Try.prog ops Q (o :: rest) a (W0.alloc (.cells #[] 4)) := by
  subst hgs
  have ho0 : BoRow (W0.alloc (.cells #[] 4)) W0.heap.size (.slice (some ⟨W0.heap.size, 0, none⟩) 0 0) [] := World.ownsRow_made W0 #[] 0 (Nat.le_refl _) (by unfold maxLen; omega) rfl
  refine wpList_append_bools hgd s x ho hty W0.heap.size _ [] ho0 u zs (bols_below hz (below_alloc (Below.refl _ _) _)) hs hx (by simpa using hl) (by simp) ?_
  intro v' w' hr hg _
  rw [List.nil_append] at hr
  obtain ⟨_, B, m, rfl, _⟩ := borow_bols hr
  refine h B m w' hr ?_
  exact (below_alloc (Below.refl _ _) _).grown hg (by simp) (fun k hk => by simp [Value.ownBlock] at hk; omega)

theorem dcells_add (P Q : List Dd) : dcells (P ++ Q) = dcells P ++ dcells Q := by unfold dcells; rw [List.flatMap_append]

theorem dcells_oneCell (Q : List Dd) : ∀ u ∈ dcells Q, u.oneCell' = true := by
  intro u hu
  unfold dcells at hu
  obtain ⟨x, _, hx⟩ := List.mem_flatMap.1 hu
  unfold dcs at hx
  simp at hx
  rcases hx with rfl | rfl | rfl | rfl <;> rfl

/-- The cells of readable deeds, one by one. -/
theorem dds_cells {w : World} {ad : Addr} {Q : List Dd} (h : ∀ k (h : k < Q.length), DdAt w (ad.add (k * 4)) Q[k]) (j : Nat) (u : Value) (hu : (dcells Q)[j]? = some u) : w.cell? (ad.add j) = some u := by
  have hj : j < (dcells Q).length := (List.getElem?_eq_some_iff.1 hu).1
  rw [dcells_len] at hj
  have hk : j / 4 < Q.length := by omega
  have h1 := dcells_at Q (j / 4) (j % 4) hk (by omega)
  rw [show j / 4 * 4 + j % 4 = j by omega, hu] at h1
  obtain ⟨a0, a1, a2, a3⟩ := h (j / 4) hk
  have ab : ∀ n, (ad.add n).block = ad.block ∧ (ad.add n).off = ad.off + n := by
    intro n
    cases n with
    | zero => rw [Addr.add_zero']; exact ⟨rfl, rfl⟩
    | succ m => rw [Addr.add_succ']; exact ⟨rfl, rfl⟩
  rw [(ab _).1, (ab _).2] at a1 a2 a3
  have : j % 4 = 0 ∨ j % 4 = 1 ∨ j % 4 = 2 ∨ j % 4 = 3 := by omega
  rcases this with e | e | e | e
  · rw [show j = j / 4 * 4 by omega, a0]; rw [e] at h1; simpa [dcs] using h1.symm
  · rw [show j = j / 4 * 4 + 1 by omega, Addr.add_succ', ← Nat.add_assoc, a1]; rw [e] at h1; simpa [dcs] using h1.symm
  · rw [show j = j / 4 * 4 + 2 by omega, Addr.add_succ', show ad.off + (j / 4 * 4 + 1 + 1) = ad.off + j / 4 * 4 + 2 by omega, a2]; rw [e] at h1; simpa [dcs] using h1.symm
  · rw [show j = j / 4 * 4 + 3 by omega, Addr.add_succ', show ad.off + (j / 4 * 4 + 2 + 1) = ad.off + j / 4 * 4 + 3 by omega, a3]; rw [e] at h1; simpa [dcs] using h1.symm

/-- Append of deeds that read, nil or not, onto deeds of the call's own. -/
theorem run_append_deeds (w : World) (base : Nat) (v : Value) (ys : List Dd) (hown : DRow w base v ys) (x : Value) (zs : List Dd) (hz : Dds w x zs) (hl : ys.length + zs.length ≤ 1099511627776) (hbase : base ≤ w.heap.size) :
    ∃ v' w', (Builtin.append_ #[25, 25] 25 #[v, x]).run Try.prog w = .ok v' w' ∧ DRow w' base v' (ys ++ zs) ∧ w.grownBy w' v.ownBlock ∧ (v'.ownBlock = v.ownBlock ∨ v'.ownBlock = some w.heap.size) := by
  obtain ⟨i0, hi0, hz0, hz1, hz2⟩ := info_parts own_infoDd
  obtain ⟨zm, A, cap, rfl, hc⟩ := hz
  have fin : ∀ ad, A = some ad → ∃ v' w', (Builtin.append_ #[25, 25] 25 #[v, .slice A zs.length cap]).run Try.prog w = .ok v' w' ∧ DRow w' base v' (ys ++ zs) ∧ w.grownBy w' v.ownBlock ∧ (v'.ownBlock = v.ownBlock ∨ v'.ownBlock = some w.heap.size) := by
    rintro ad rfl
    obtain ⟨v', w', hr, h2, h3, _, h5⟩ := run_append_own_at (P := Try.prog) w base 25 25 37 i0 _ 4 32 Try.underlying25 hi0 hz0 hz1 hz2 rfl (by omega) v ys.length _ hown ad zs.length cap (dcells zs) (dcells_len zs)
      (fun j u hu => by
        have hj : j < (dcells zs).length := (List.getElem?_eq_some_iff.1 hu).1
        rw [dcells_len] at hj
        obtain ⟨ad', ha, hc⟩ := hc (by omega)
        obtain rfl := Option.some.inj ha
        exact dds_cells hc j u hu) (dcells_oneCell zs) (by unfold maxLen; omega) (by omega) hbase
    exact ⟨v', w', hr, by unfold DRow; rw [dcells_add, List.length_append]; exact h2, h3, h5⟩
  rcases A with _ | ad
  · have h0 : zs = [] := by
      rcases Nat.eq_zero_or_pos zs.length with h0 | h0
      · exact List.eq_nil_of_length_eq_zero h0
      · obtain ⟨ad, ha, _⟩ := hc h0; cases ha
    subst h0
    refine ⟨v, w, ?_, by rw [List.append_nil]; exact hown, World.grownBy.refl w _, .inl rfl⟩
    rcases hown.2 with ⟨rfl, h0⟩ | ⟨g, cap', cur, rfl, _, _, hnc, _⟩
    · simp [Builtin.append_, run_underlying Try.underlying25, sizeOf, typeInfo, hi0, Builtin.lenOf, Builtin.firstCells]
    · simp [Builtin.append_, run_underlying Try.underlying25, sizeOf, typeInfo, hi0, Builtin.lenOf, Builtin.firstCells, hnc, storeCells]
  · exact fin ad rfl

theorem wpList_append_deeds {w : World} {ops : Array Oper} {rest : List Oper} {o : Oper} {a : Act} {Q : Exit → Act → World → Prop} (hgd : o.guard = none) (s x : Operand)
    (ho : o.op = .call { callee := .builtin .append, args := #[s, x], argTypes := #[25, 25] }) (hty : o.type = 25)
    (base : Nat) (v : Value) (ys : List Dd) (hown : DRow w base v ys) (u : Value) (zs : List Dd) (hz : Dds w u zs) (hs : a.eval s = v) (hx : a.eval x = u) (hl : ys.length + zs.length ≤ 1099511627776) (hbase : base ≤ w.heap.size)
    (h : ∀ v' w', DRow w' base v' (ys ++ zs) → w.grownBy w' v.ownBlock → (v'.ownBlock = v.ownBlock ∨ v'.ownBlock = some w.heap.size) → wpList Try.prog ops Q rest (a.put o.dst v') w') :
    wpList Try.prog ops Q (o :: rest) a w := by
  refine wpList_plain hgd fun K hK => ?_
  obtain ⟨v', w', hrun, h2, h3, h4⟩ := run_append_deeds w base v ys hown u zs hz hl hbase
  unfold Oper.wp execOp
  simp only [ho, hty, resolve, invoke, builtin, Sem.run_bind, Sem.run_pure, Result.andThen_ok, List.map_toArray, List.map_cons, List.map_nil, hs, hx, hrun]
  exact hK _ _ (h v' w' h2 h3 h4)

/-- 'append([]Deed{}, xs...)': a row of the call's own, of these deeds. -/
theorem wpList_append_newdd {W0 : World} {ops : Array Oper} {rest : List Oper} {o : Oper} {a : Act} {Q : Exit → Act → World → Prop} (hgd : o.guard = none) (s x : Operand)
    (ho : o.op = .call { callee := .builtin .append, args := #[s, x], argTypes := #[25, 25] }) (hty : o.type = 25)
    (g : Nat) (hs : a.eval s = .slice (some ⟨g, 0, none⟩) 0 0) (hgs : g = W0.heap.size) (u : Value) (zs : List Dd) (hx : a.eval x = u) (hz : Dds W0 u zs) (hl : zs.length ≤ 1099511627776)
    (h : ∀ B m w', DRow w' W0.heap.size (.slice B zs.length m) zs → Below W0.heap.size W0 w' → wpList Try.prog ops Q rest (a.put o.dst (.slice B zs.length m)) w') :
    wpList Try.prog ops Q (o :: rest) a (W0.alloc (.cells #[] 37)) := by
  subst hgs
  have ho0 : DRow (W0.alloc (.cells #[] 37)) W0.heap.size (.slice (some ⟨W0.heap.size, 0, none⟩) 0 0) [] := World.ownsRow_made W0 #[] 0 (Nat.le_refl _) (by unfold maxLen; omega) rfl
  refine wpList_append_deeds hgd s x ho hty W0.heap.size _ [] ho0 u zs (dds_below hz (below_alloc (Below.refl _ _) _)) hs hx (by simpa using hl) (by simp) ?_
  intro v' w' hr hg _
  rw [List.nil_append] at hr
  obtain ⟨_, B, m, rfl, _⟩ := drow_dds hr
  refine h B m w' hr ?_
  exact (below_alloc (Below.refl _ _) _).grown hg (by simp) (fun k hk => by simp [Value.ownBlock] at hk; omega)

end Go.Proofs.Ytkcogfgjabemfaa
