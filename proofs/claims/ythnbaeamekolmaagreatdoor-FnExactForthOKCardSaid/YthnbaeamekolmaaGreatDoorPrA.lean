/- Rows of pairs of numbers, whatever the pairs' type; appends to them. -/
import Derived.Test.YthnbaeamekolmaaGreatDoorMkA
namespace Go.Proofs.YthnbaeamekolmaaGreatDoor
open Go.RowKit
set_option linter.unusedVariables false
set_option linter.unusedSimpArgs false

/-- A slice of the call's own, perhaps nil, of these pairs. -/
def PRow (t : TypeId) (w : World) (base : Nat) (v : Value) (Q : List It) : Prop := w.ownsRow base t 2 v Q.length (icells Q)

theorem irow_prow {w : World} {base : Nat} {v : Value} {Q : List It} (h : IRow w base v Q) : PRow 97 w base v Q := h

theorem prow_irow {w : World} {base : Nat} {v : Value} {Q : List It} (h : PRow 97 w base v Q) : IRow w base v Q := h

theorem prow_nil (t : TypeId) (w : World) (base : Nat) : PRow t w base (.slice none 0 0) [] := World.ownsRow_nil w base _ 2

theorem prow_at {t : TypeId} {w : World} {base g cap : Nat} {Q : List It} (h : PRow t w base (.slice (some ⟨g, 0, none⟩) Q.length cap) Q) (k : Nat) (hk : k < Q.length) : ItAt w ⟨g, k * 2, none⟩ Q[k] := by
  have c : ∀ j, j < 2 → w.cell? ⟨g, k * 2 + j, none⟩ = (ics Q[k])[j]? := fun j hj => by rw [World.ownsRow.cellAt h (k * 2 + j) (by omega), icells_at Q k j hk hj]
  exact ⟨c 0 (by omega), c 1 (by omega)⟩

theorem prow_its {t : TypeId} {w : World} {base : Nat} {v : Value} {Q : List It} (h : PRow t w base v Q) : Its w v Q := by
  rcases h.2 with ⟨hv, h0⟩ | ⟨g, cap, cur, hv, hb, hg, h1, h2, h3, h4⟩
  · exact ⟨by rw [h0]; exact Nat.zero_le _, none, 0, by rw [hv, h0], fun hp => absurd hp (by omega)⟩
  · refine ⟨Nat.le_trans h1 h2, some ⟨g, 0, none⟩, cap, hv, fun _ => ⟨_, rfl, fun k hk => ?_⟩⟩
    subst hv
    have := prow_at h k hk
    rwa [show (⟨g, 0, none⟩ : Addr).add (k * 2) = ⟨g, k * 2, none⟩ by rw [Addr.add_lit, Nat.zero_add]]

theorem prow_lt {t : TypeId} {w : World} {base : Nat} {v : Value} {Q : List It} (h : PRow t w base v Q) : ∀ g, v.ownBlock = some g → base ≤ g ∧ g < w.heap.size := h.lt

theorem prow_free {t : TypeId} {w : World} {base g cap n : Nat} {Q : List It} (h : PRow t w base (.slice (some ⟨g, 0, none⟩) n cap) Q) (j : Nat) : w.frozen? ⟨g, j, none⟩ = false := by
  rcases h.2 with ⟨h', _⟩ | ⟨g', cap', cur, h', _, hg, _⟩
  · cases h'
  · simp only [Value.slice.injEq, Option.some.injEq, Addr.mk.injEq, and_true, true_and] at h'
    obtain ⟨rfl, _⟩ := h'
    simp [World.frozen?, hg]

theorem prow_keep {t : TypeId} {w w' : World} {base : Nat} {v : Value} {Q : List It} (h : PRow t w base v Q) (hk : ∀ g, v.ownBlock = some g → w'.heap[g]? = w.heap[g]?) : PRow t w' base v Q := by
  obtain ⟨h1, h2⟩ := h
  refine ⟨h1, ?_⟩
  rcases h2 with h2 | ⟨g, cap, cur, hv, hb, hg, r⟩
  · exact .inl h2
  · exact .inr ⟨g, cap, cur, hv, hb, by rw [hk g (by rw [hv]; rfl)]; exact hg, r⟩

theorem prow_below {t : TypeId} {w w' : World} {base : Nat} {v : Value} {Q : List It} (h : PRow t w base v Q) (hb : Below w.heap.size w w') : PRow t w' base v Q := prow_keep h fun g hg => hb.block g (prow_lt h g hg).2

theorem prow_alloc {t : TypeId} {w : World} {base : Nat} {v : Value} {Q : List It} (h : PRow t w base v Q) (o : Obj) : PRow t (w.alloc o) base v Q := prow_keep h fun g hg => Below.heap_alloc w o g (prow_lt h g hg).2

theorem prow_base {t : TypeId} {w : World} {base base' : Nat} {v : Value} {Q : List It} (h : PRow t w base v Q) (hb : base' ≤ base) : PRow t w base' v Q := by
  obtain ⟨h1, h2⟩ := h
  refine ⟨h1, ?_⟩
  rcases h2 with h2 | ⟨g, cap, cur, a1, a2, a3⟩
  · exact .inl h2
  · exact .inr ⟨g, cap, cur, a1, by omega, a3⟩

theorem prow_off {t u : TypeId} (ht : t ≠ u) {w : World} {lo g : Nat} {v : Value} {Q : List It} {cs : Array Value} (h : PRow t w lo v Q) (hw : Whole w g u cs) : v.ownBlock ≠ some g := by
  rcases h.2 with ⟨rfl, _⟩ | ⟨g', cap, cur, rfl, _, hh, _⟩
  · simp [Value.ownBlock]
  · intro he
    have e : g' = g := by simpa [Value.ownBlock] using he
    subst e
    unfold Whole at hw
    rw [hh] at hw
    injection hw with hw
    injection hw with _ hq
    exact ht hq

theorem prow_row_off {t : TypeId} (ht : (3 : TypeId) ≠ t) {w : World} {lo lo' g : Nat} {v u : Value} {Q : List It} {zs : List Int} (h : PRow t w lo v Q) (k : Row w lo' u zs) (hv : v.ownBlock = some g) : u.ownBlock ≠ some g := by
  intro hu
  rcases h.2 with ⟨rfl, _⟩ | ⟨g', cap, cur, rfl, _, hh, _⟩
  · simp [Value.ownBlock] at hv
  · have e : g' = g := by simpa [Value.ownBlock] using hv
    subst e
    rcases k.2 with ⟨rfl, _⟩ | ⟨g2, cap2, cur2, rfl, _, hh2, _⟩
    · simp [Value.ownBlock] at hu
    · have e : g2 = g' := by simpa [Value.ownBlock] using hu
      subst e
      rw [hh] at hh2
      injection hh2 with hh2
      injection hh2 with _ hq
      exact ht hq.symm

theorem prow_room {t : TypeId} {w : World} {lo n k : Nat} {A : Option Addr} {Q : List It} (h : PRow t w lo (.slice A n k) Q) : n ≤ k := by
  rcases h.2 with ⟨hv, h0⟩ | ⟨g', cap', cur, hv, hb', hg, h1, h2, h3, h4⟩
  · simp only [Value.slice.injEq] at hv
    omega
  · simp only [Value.slice.injEq] at hv
    obtain ⟨_, rfl, rfl⟩ := hv
    omega

theorem icells_take (Q : List It) (k : Nat) : (icells Q).take (k * 2) = icells (Q.take k) := by
  induction Q generalizing k with
  | nil => simp [icells]
  | cons x r ih =>
    match k with
    | 0 => simp [icells]
    | k + 1 =>
      have := ih k
      unfold icells at *
      rw [List.take_succ_cons, List.flatMap_cons, List.flatMap_cons, ← this, show (k + 1) * 2 = k * 2 + 1 + 1 by omega]
      simp [ics]

theorem prow_cut {t : TypeId} {w : World} {base : Nat} {A : Option Addr} {n c k : Nat} {Q : List It} (h : PRow t w base (.slice A n c) Q) (hk : k ≤ Q.length) : PRow t w base (.slice A k c) (Q.take k) := by
  have hl : (Q.take k).length = k := by rw [List.length_take]; omega
  rcases h.2 with ⟨hv, h0⟩ | ⟨g', cap', cur, hv, hb', hg, h1, h2, h3, h4⟩
  · simp only [Value.slice.injEq] at hv
    obtain ⟨rfl, rfl, rfl⟩ := hv
    have hz : Q = [] := List.eq_nil_of_length_eq_zero h0
    subst hz
    have : k = 0 := by simpa using hk
    subst this
    exact prow_nil t w base
  · simp only [Value.slice.injEq] at hv
    obtain ⟨rfl, rfl, rfl⟩ := hv
    refine ⟨by rw [hl, icells_len, hl], .inr ⟨g', c, cur, by rw [hl], hb', hg, by rw [hl]; omega, h2, h3, ?_⟩⟩
    rw [hl, ← icells_take, ← h4, List.take_take]
    congr 1
    omega

theorem icells_oneCell (Q : List It) : ∀ u ∈ icells Q, u.oneCell' = true := by
  intro u hu
  unfold icells at hu
  rw [List.mem_flatMap] at hu
  obtain ⟨x, _, hx⟩ := hu
  simp [ics] at hx
  rcases hx with rfl | rfl <;> rfl

theorem its_cells {w : World} {ad : Addr} {Q : List It} (hc : ∀ k (h : k < Q.length), ItAt w (ad.add (k * 2)) Q[k]) (j : Nat) (u : Value) (hu : (icells Q)[j]? = some u) : w.cell? (ad.add j) = some u := by
  have hj : j < (icells Q).length := (List.getElem?_eq_some_iff.1 hu).1
  rw [icells_len] at hj
  obtain ⟨k, hk⟩ : ∃ k, k = j / 2 := ⟨_, rfl⟩
  have hlt : k < Q.length := by omega
  have h := hc k hlt
  have e := fun m hm => icells_at Q k m hlt hm
  rcases (by omega : j = k * 2 ∨ j = k * 2 + 1) with rfl | rfl
  · have := e 0 (by omega)
    rw [Nat.add_zero, hu] at this
    simp [ics] at this
    rw [this]
    exact h.1
  · have := e 1 (by omega)
    rw [hu] at this
    simp [ics] at this
    have ab : ∀ n, (ad.add n).block = ad.block ∧ (ad.add n).off = ad.off + n := by
      intro n
      cases n with
      | zero => rw [Addr.add_zero']; exact ⟨rfl, rfl⟩
      | succ m => rw [Addr.add_succ']; exact ⟨rfl, rfl⟩
    have h2 := h.2
    rw [(ab _).1, (ab _).2] at h2
    rw [this, Addr.add_succ', ← Nat.add_assoc]
    exact h2

theorem its_one (w : World) (x : It) (t : TypeId) : Its (w.alloc (.cells #[.int .i64 x.k, .int .i64 x.v] t)) (.slice (some ⟨w.heap.size, 0, none⟩) 1 1) [x] := by
  refine ⟨by unfold maxLen; simp, _, _, rfl, fun _ => ⟨_, rfl, fun k hk => ?_⟩⟩
  have : k = 0 := by simp at hk; omega
  subst this
  rw [Nat.zero_mul, Addr.add_zero']
  refine ⟨?_, ?_⟩ <;> simp

theorem own_info_items : (Tryz.prog.info? 97).map (fun i => (i.zero, i.size, i.bytes)) = some (some (.agg #[.int .i64 0, .int .i64 0]), 2, 16) := by kernel_rfl

theorem run_append_items (w : World) (base : Nat) (v : Value) (ys : List It) (hown : PRow 97 w base v ys) (x : Value) (zs : List It) (hz : Its w x zs) (hl : ys.length + zs.length ≤ 1099511627776) (hbase : base ≤ w.heap.size) :
    ∃ v' w', (Builtin.append_ #[48, 48] 48 #[v, x]).run Tryz.prog w = .ok v' w' ∧ PRow 97 w' base v' (ys ++ zs) ∧ w.grownBy w' v.ownBlock ∧ (v'.ownBlock = v.ownBlock ∨ v'.ownBlock = some w.heap.size) := by
  obtain ⟨i0, hi0, hz0, hz1, hz2⟩ := info_parts own_info_items
  obtain ⟨zm, A, cap, rfl, hc⟩ := hz
  have fin : ∀ ad, A = some ad → ∃ v' w', (Builtin.append_ #[48, 48] 48 #[v, .slice A zs.length cap]).run Tryz.prog w = .ok v' w' ∧ PRow 97 w' base v' (ys ++ zs) ∧ w.grownBy w' v.ownBlock ∧ (v'.ownBlock = v.ownBlock ∨ v'.ownBlock = some w.heap.size) := by
    rintro ad rfl
    obtain ⟨v', w', hr, h2, h3, _, h5⟩ := run_append_own_at (P := Tryz.prog) w base 48 48 97 i0 _ 2 16 Tryz.underlying48 hi0 hz0 hz1 hz2 rfl (by omega) v ys.length _ hown ad zs.length cap (icells zs) (icells_len zs)
      (fun j u hu => by
        have hj : j < (icells zs).length := (List.getElem?_eq_some_iff.1 hu).1
        rw [icells_len] at hj
        obtain ⟨ad', ha, hc⟩ := hc (by omega)
        obtain rfl := Option.some.inj ha
        exact its_cells hc j u hu) (icells_oneCell zs) (by unfold maxLen; omega) (by omega) hbase
    exact ⟨v', w', hr, by unfold PRow; rw [icells_append, List.length_append]; exact h2, h3, h5⟩
  rcases A with _ | ad
  · have h0 : zs = [] := by
      rcases Nat.eq_zero_or_pos zs.length with h0 | h0
      · exact List.eq_nil_of_length_eq_zero h0
      · obtain ⟨ad, ha, _⟩ := hc h0; cases ha
    subst h0
    refine ⟨v, w, ?_, by rw [List.append_nil]; exact hown, World.grownBy.refl w _, .inl rfl⟩
    rcases hown.2 with ⟨rfl, h0⟩ | ⟨g, cap', cur, rfl, _, _, hnc, _⟩
    · simp [Builtin.append_, run_underlying Tryz.underlying48, sizeOf, typeInfo, hi0, Builtin.lenOf, Builtin.firstCells]
    · simp [Builtin.append_, run_underlying Tryz.underlying48, sizeOf, typeInfo, hi0, Builtin.lenOf, Builtin.firstCells, hnc, storeCells]
  · exact fin ad rfl

theorem wpList_append_items {w : World} {ops : Array Oper} {rest : List Oper} {o : Oper} {a : Act} {Q : Exit → Act → World → Prop} (hgd : o.guard = none) (s x : Operand)
    (ho : o.op = .call { callee := .builtin .append, args := #[s, x], argTypes := #[48, 48] }) (hty : o.type = 48)
    (base : Nat) (v : Value) (ys : List It) (hown : PRow 97 w base v ys) (u : Value) (zs : List It) (hz : Its w u zs) (hs : a.eval s = v) (hx : a.eval x = u) (hl : ys.length + zs.length ≤ 1099511627776) (hbase : base ≤ w.heap.size)
    (h : ∀ v' w', PRow 97 w' base v' (ys ++ zs) → w.grownBy w' v.ownBlock → (v'.ownBlock = v.ownBlock ∨ v'.ownBlock = some w.heap.size) → wpList Tryz.prog ops Q rest (a.put o.dst v') w') :
    wpList Tryz.prog ops Q (o :: rest) a w := by
  refine wpList_plain hgd fun K hK => ?_
  obtain ⟨v', w', hrun, h2, h3, h4⟩ := run_append_items w base v ys hown u zs hz hl hbase
  unfold Oper.wp execOp
  simp only [ho, hty, resolve, invoke, builtin, Sem.run_bind, Sem.run_pure, Result.andThen_ok, List.map_toArray, List.map_cons, List.map_nil, hs, hx, hrun]
  exact hK _ _ (h v' w' h2 h3 h4)

theorem step_append_items {w : World} {ops : Array Oper} {o : Oper} {a : Act} {K : Act → World → Prop} {Q : Exit → Act → World → Prop} {E : Prop} (hgd : o.guard = none) (s x : Operand)
    (ho : o.op = .call { callee := .builtin .append, args := #[s, x], argTypes := #[48, 48] }) (hty : o.type = 48)
    (base : Nat) (v : Value) (ys : List It) (hs : a.eval s = v) (hown : PRow 97 w base v ys) (u : Value) (zs : List It) (hx : a.eval x = u) (hz : Its w u zs) (hl : ys.length + zs.length ≤ 1099511627776) (hbase : base ≤ w.heap.size)
    (h : ∀ v' w', PRow 97 w' base v' (ys ++ zs) → w.grownBy w' v.ownBlock → (v'.ownBlock = v.ownBlock ∨ v'.ownBlock = some w.heap.size) → K (a.put o.dst v') w') :
    if Region.wanted o (yielded ops a.tmps) = true then Oper.wp Tryz.prog o a w K Q else E := by
  have hw : Region.wanted o (yielded ops a.tmps) = true := by simp [Region.wanted, hgd]
  rw [if_pos hw]
  obtain ⟨v', w', hrun, h2, h3, h4⟩ := run_append_items w base v ys hown u zs hz hl hbase
  unfold Oper.wp execOp
  simp only [ho, hty, resolve, invoke, builtin, Sem.run_bind, Sem.run_pure, Result.andThen_ok, List.map_toArray, List.map_cons, List.map_nil, hs, hx, hrun]
  exact h v' w' h2 h3 h4

theorem own_info_jumps : (Tryz.prog.info? 253).map (fun i => (i.zero, i.size, i.bytes)) = some (some (.agg #[.int .i64 0, .int .i64 0]), 2, 16) := by kernel_rfl

theorem run_append_jumps (w : World) (base : Nat) (v : Value) (ys : List It) (hown : PRow 253 w base v ys) (x : Value) (zs : List It) (hz : Its w x zs) (hl : ys.length + zs.length ≤ 1099511627776) (hbase : base ≤ w.heap.size) :
    ∃ v' w', (Builtin.append_ #[207, 207] 207 #[v, x]).run Tryz.prog w = .ok v' w' ∧ PRow 253 w' base v' (ys ++ zs) ∧ w.grownBy w' v.ownBlock ∧ (v'.ownBlock = v.ownBlock ∨ v'.ownBlock = some w.heap.size) := by
  obtain ⟨i0, hi0, hz0, hz1, hz2⟩ := info_parts own_info_jumps
  obtain ⟨zm, A, cap, rfl, hc⟩ := hz
  have fin : ∀ ad, A = some ad → ∃ v' w', (Builtin.append_ #[207, 207] 207 #[v, .slice A zs.length cap]).run Tryz.prog w = .ok v' w' ∧ PRow 253 w' base v' (ys ++ zs) ∧ w.grownBy w' v.ownBlock ∧ (v'.ownBlock = v.ownBlock ∨ v'.ownBlock = some w.heap.size) := by
    rintro ad rfl
    obtain ⟨v', w', hr, h2, h3, _, h5⟩ := run_append_own_at (P := Tryz.prog) w base 207 207 253 i0 _ 2 16 Tryz.underlying207 hi0 hz0 hz1 hz2 rfl (by omega) v ys.length _ hown ad zs.length cap (icells zs) (icells_len zs)
      (fun j u hu => by
        have hj : j < (icells zs).length := (List.getElem?_eq_some_iff.1 hu).1
        rw [icells_len] at hj
        obtain ⟨ad', ha, hc⟩ := hc (by omega)
        obtain rfl := Option.some.inj ha
        exact its_cells hc j u hu) (icells_oneCell zs) (by unfold maxLen; omega) (by omega) hbase
    exact ⟨v', w', hr, by unfold PRow; rw [icells_append, List.length_append]; exact h2, h3, h5⟩
  rcases A with _ | ad
  · have h0 : zs = [] := by
      rcases Nat.eq_zero_or_pos zs.length with h0 | h0
      · exact List.eq_nil_of_length_eq_zero h0
      · obtain ⟨ad, ha, _⟩ := hc h0; cases ha
    subst h0
    refine ⟨v, w, ?_, by rw [List.append_nil]; exact hown, World.grownBy.refl w _, .inl rfl⟩
    rcases hown.2 with ⟨rfl, h0⟩ | ⟨g, cap', cur, rfl, _, _, hnc, _⟩
    · simp [Builtin.append_, run_underlying Tryz.underlying207, sizeOf, typeInfo, hi0, Builtin.lenOf, Builtin.firstCells]
    · simp [Builtin.append_, run_underlying Tryz.underlying207, sizeOf, typeInfo, hi0, Builtin.lenOf, Builtin.firstCells, hnc, storeCells]
  · exact fin ad rfl

theorem wpList_append_jumps {w : World} {ops : Array Oper} {rest : List Oper} {o : Oper} {a : Act} {Q : Exit → Act → World → Prop} (hgd : o.guard = none) (s x : Operand)
    (ho : o.op = .call { callee := .builtin .append, args := #[s, x], argTypes := #[207, 207] }) (hty : o.type = 207)
    (base : Nat) (v : Value) (ys : List It) (hown : PRow 253 w base v ys) (u : Value) (zs : List It) (hz : Its w u zs) (hs : a.eval s = v) (hx : a.eval x = u) (hl : ys.length + zs.length ≤ 1099511627776) (hbase : base ≤ w.heap.size)
    (h : ∀ v' w', PRow 253 w' base v' (ys ++ zs) → w.grownBy w' v.ownBlock → (v'.ownBlock = v.ownBlock ∨ v'.ownBlock = some w.heap.size) → wpList Tryz.prog ops Q rest (a.put o.dst v') w') :
    wpList Tryz.prog ops Q (o :: rest) a w := by
  refine wpList_plain hgd fun K hK => ?_
  obtain ⟨v', w', hrun, h2, h3, h4⟩ := run_append_jumps w base v ys hown u zs hz hl hbase
  unfold Oper.wp execOp
  simp only [ho, hty, resolve, invoke, builtin, Sem.run_bind, Sem.run_pure, Result.andThen_ok, List.map_toArray, List.map_cons, List.map_nil, hs, hx, hrun]
  exact hK _ _ (h v' w' h2 h3 h4)

theorem step_append_jumps {w : World} {ops : Array Oper} {o : Oper} {a : Act} {K : Act → World → Prop} {Q : Exit → Act → World → Prop} {E : Prop} (hgd : o.guard = none) (s x : Operand)
    (ho : o.op = .call { callee := .builtin .append, args := #[s, x], argTypes := #[207, 207] }) (hty : o.type = 207)
    (base : Nat) (v : Value) (ys : List It) (hs : a.eval s = v) (hown : PRow 253 w base v ys) (u : Value) (zs : List It) (hx : a.eval x = u) (hz : Its w u zs) (hl : ys.length + zs.length ≤ 1099511627776) (hbase : base ≤ w.heap.size)
    (h : ∀ v' w', PRow 253 w' base v' (ys ++ zs) → w.grownBy w' v.ownBlock → (v'.ownBlock = v.ownBlock ∨ v'.ownBlock = some w.heap.size) → K (a.put o.dst v') w') :
    if Region.wanted o (yielded ops a.tmps) = true then Oper.wp Tryz.prog o a w K Q else E := by
  have hw : Region.wanted o (yielded ops a.tmps) = true := by simp [Region.wanted, hgd]
  rw [if_pos hw]
  obtain ⟨v', w', hrun, h2, h3, h4⟩ := run_append_jumps w base v ys hown u zs hz hl hbase
  unfold Oper.wp execOp
  simp only [ho, hty, resolve, invoke, builtin, Sem.run_bind, Sem.run_pure, Result.andThen_ok, List.map_toArray, List.map_cons, List.map_nil, hs, hx, hrun]
  exact h v' w' h2 h3 h4

theorem own_info_marks : (Tryz.prog.info? 245).map (fun i => (i.zero, i.size, i.bytes)) = some (some (.agg #[.int .i64 0, .int .i64 0]), 2, 16) := by kernel_rfl

theorem run_append_marks (w : World) (base : Nat) (v : Value) (ys : List It) (hown : PRow 245 w base v ys) (x : Value) (zs : List It) (hz : Its w x zs) (hl : ys.length + zs.length ≤ 1099511627776) (hbase : base ≤ w.heap.size) :
    ∃ v' w', (Builtin.append_ #[223, 223] 223 #[v, x]).run Tryz.prog w = .ok v' w' ∧ PRow 245 w' base v' (ys ++ zs) ∧ w.grownBy w' v.ownBlock ∧ (v'.ownBlock = v.ownBlock ∨ v'.ownBlock = some w.heap.size) := by
  obtain ⟨i0, hi0, hz0, hz1, hz2⟩ := info_parts own_info_marks
  obtain ⟨zm, A, cap, rfl, hc⟩ := hz
  have fin : ∀ ad, A = some ad → ∃ v' w', (Builtin.append_ #[223, 223] 223 #[v, .slice A zs.length cap]).run Tryz.prog w = .ok v' w' ∧ PRow 245 w' base v' (ys ++ zs) ∧ w.grownBy w' v.ownBlock ∧ (v'.ownBlock = v.ownBlock ∨ v'.ownBlock = some w.heap.size) := by
    rintro ad rfl
    obtain ⟨v', w', hr, h2, h3, _, h5⟩ := run_append_own_at (P := Tryz.prog) w base 223 223 245 i0 _ 2 16 Tryz.underlying223 hi0 hz0 hz1 hz2 rfl (by omega) v ys.length _ hown ad zs.length cap (icells zs) (icells_len zs)
      (fun j u hu => by
        have hj : j < (icells zs).length := (List.getElem?_eq_some_iff.1 hu).1
        rw [icells_len] at hj
        obtain ⟨ad', ha, hc⟩ := hc (by omega)
        obtain rfl := Option.some.inj ha
        exact its_cells hc j u hu) (icells_oneCell zs) (by unfold maxLen; omega) (by omega) hbase
    exact ⟨v', w', hr, by unfold PRow; rw [icells_append, List.length_append]; exact h2, h3, h5⟩
  rcases A with _ | ad
  · have h0 : zs = [] := by
      rcases Nat.eq_zero_or_pos zs.length with h0 | h0
      · exact List.eq_nil_of_length_eq_zero h0
      · obtain ⟨ad, ha, _⟩ := hc h0; cases ha
    subst h0
    refine ⟨v, w, ?_, by rw [List.append_nil]; exact hown, World.grownBy.refl w _, .inl rfl⟩
    rcases hown.2 with ⟨rfl, h0⟩ | ⟨g, cap', cur, rfl, _, _, hnc, _⟩
    · simp [Builtin.append_, run_underlying Tryz.underlying223, sizeOf, typeInfo, hi0, Builtin.lenOf, Builtin.firstCells]
    · simp [Builtin.append_, run_underlying Tryz.underlying223, sizeOf, typeInfo, hi0, Builtin.lenOf, Builtin.firstCells, hnc, storeCells]
  · exact fin ad rfl

theorem wpList_append_marks {w : World} {ops : Array Oper} {rest : List Oper} {o : Oper} {a : Act} {Q : Exit → Act → World → Prop} (hgd : o.guard = none) (s x : Operand)
    (ho : o.op = .call { callee := .builtin .append, args := #[s, x], argTypes := #[223, 223] }) (hty : o.type = 223)
    (base : Nat) (v : Value) (ys : List It) (hown : PRow 245 w base v ys) (u : Value) (zs : List It) (hz : Its w u zs) (hs : a.eval s = v) (hx : a.eval x = u) (hl : ys.length + zs.length ≤ 1099511627776) (hbase : base ≤ w.heap.size)
    (h : ∀ v' w', PRow 245 w' base v' (ys ++ zs) → w.grownBy w' v.ownBlock → (v'.ownBlock = v.ownBlock ∨ v'.ownBlock = some w.heap.size) → wpList Tryz.prog ops Q rest (a.put o.dst v') w') :
    wpList Tryz.prog ops Q (o :: rest) a w := by
  refine wpList_plain hgd fun K hK => ?_
  obtain ⟨v', w', hrun, h2, h3, h4⟩ := run_append_marks w base v ys hown u zs hz hl hbase
  unfold Oper.wp execOp
  simp only [ho, hty, resolve, invoke, builtin, Sem.run_bind, Sem.run_pure, Result.andThen_ok, List.map_toArray, List.map_cons, List.map_nil, hs, hx, hrun]
  exact hK _ _ (h v' w' h2 h3 h4)

theorem step_append_marks {w : World} {ops : Array Oper} {o : Oper} {a : Act} {K : Act → World → Prop} {Q : Exit → Act → World → Prop} {E : Prop} (hgd : o.guard = none) (s x : Operand)
    (ho : o.op = .call { callee := .builtin .append, args := #[s, x], argTypes := #[223, 223] }) (hty : o.type = 223)
    (base : Nat) (v : Value) (ys : List It) (hs : a.eval s = v) (hown : PRow 245 w base v ys) (u : Value) (zs : List It) (hx : a.eval x = u) (hz : Its w u zs) (hl : ys.length + zs.length ≤ 1099511627776) (hbase : base ≤ w.heap.size)
    (h : ∀ v' w', PRow 245 w' base v' (ys ++ zs) → w.grownBy w' v.ownBlock → (v'.ownBlock = v.ownBlock ∨ v'.ownBlock = some w.heap.size) → K (a.put o.dst v') w') :
    if Region.wanted o (yielded ops a.tmps) = true then Oper.wp Tryz.prog o a w K Q else E := by
  have hw : Region.wanted o (yielded ops a.tmps) = true := by simp [Region.wanted, hgd]
  rw [if_pos hw]
  obtain ⟨v', w', hrun, h2, h3, h4⟩ := run_append_marks w base v ys hown u zs hz hl hbase
  unfold Oper.wp execOp
  simp only [ho, hty, resolve, invoke, builtin, Sem.run_bind, Sem.run_pure, Result.andThen_ok, List.map_toArray, List.map_cons, List.map_nil, hs, hx, hrun]
  exact h v' w' h2 h3 h4

end Go.Proofs.YthnbaeamekolmaaGreatDoor
