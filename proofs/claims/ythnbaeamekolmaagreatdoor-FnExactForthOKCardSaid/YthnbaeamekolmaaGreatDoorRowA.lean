/- Rows of numbers: what reads as a list of numbers, what is owned as one, blocks that are known whole; an append of such a row. -/
import Derived.Test.YthnbaeamekolmaaGreatDoorOwnA
import Derived.Maps.AppendAt
import Derived.Laws.CopyOwn
import Derived.Deep.QuietTactic
import Derived.BigQuiet
namespace Go.Proofs.YthnbaeamekolmaaGreatDoor
open Go.RowKit
set_option linter.unusedVariables false
set_option linter.unusedSimpArgs false

theorem own_info3 : (Tryz.prog.info? 3).map (fun i => (i.zero, i.size, i.bytes)) = some (some (.int .i64 0), 1, 8) := by kernel_rfl

theorem own_size3 : (Tryz.prog.info? 3).map (·.size) = some 1 := by kernel_rfl

/-- Block g is just these cells. -/
def Whole (w : World) (g : Nat) (t : TypeId) (cs : Array Value) : Prop := w.heap[g]? = some (.cells cs t (0, 0))

theorem whole_lt {w : World} {g : Nat} {t : TypeId} {cs : Array Value} (h : Whole w g t cs) : g < w.heap.size := by
  rcases Nat.lt_or_ge g w.heap.size with hl | hge
  · exact hl
  · unfold Whole at h; rw [Array.getElem?_eq_none hge] at h; cases h

theorem whole_cell {w : World} {g : Nat} {t : TypeId} {cs : Array Value} (h : Whole w g t cs) (i : Nat) : w.cell? ⟨g, i, none⟩ = cs[i]? := cell_of_row w g i cs t (0, 0) h

theorem whole_free {w : World} {g : Nat} {t : TypeId} {cs : Array Value} (h : Whole w g t cs) (i : Nat) : w.frozen? ⟨g, i, none⟩ = false := by
  unfold Whole at h; simp [World.frozen?, h]

theorem whole_new (w : World) (t : TypeId) (cs : Array Value) : Whole (w.alloc (.cells cs t)) w.heap.size t cs := heap_alloc_new w _

theorem whole_keep {w w' : World} {g : Nat} {t : TypeId} {cs : Array Value} (h : Whole w g t cs) (hk : w'.heap[g]? = w.heap[g]?) : Whole w' g t cs := hk.trans h

theorem whole_below {w w' : World} {g : Nat} {t : TypeId} {cs : Array Value} (h : Whole w g t cs) (hb : Below w.heap.size w w') : Whole w' g t cs := whole_keep h (hb.block g (whole_lt h))

theorem whole_alloc {w : World} {g : Nat} {t : TypeId} {cs : Array Value} (h : Whole w g t cs) (o : Obj) : Whole (w.alloc o) g t cs := whole_keep h (Below.heap_alloc w o g (whole_lt h))

theorem whole_far {w : World} {g : Nat} {t : TypeId} {cs : Array Value} (h : Whole w g t cs) {p : Addr} (hp : g ≠ p.block) (u : Value) : Whole (w.setCell p u) g t cs := whole_keep h (Below.heap_setCell w p u g hp)

theorem whole_set {w : World} {g : Nat} {t : TypeId} {cs : Array Value} (h : Whole w g t cs) (i : Nat) (u : Value) : Whole (w.setCell ⟨g, i, none⟩ u) g t (cs.setIfInBounds i u) := by
  unfold Whole at *
  simp [World.setCell, Array.getElem?_modify, h]

/-- A slice, nil or not, that reads as these numbers. -/
def Ints (w : World) (v : Value) (zs : List Int) : Prop :=
  zs.length ≤ maxLen ∧ ∃ A cap, v = .slice A zs.length cap ∧ (0 < zs.length → ∃ ad, A = some ad ∧ ∀ k (h : k < zs.length), w.cell? (ad.add k) = some (.int .i64 zs[k]))

/-- A slice of the call's own, perhaps nil, of these numbers. -/
def Row (w : World) (base : Nat) (v : Value) (zs : List Int) : Prop := w.ownsRow base 3 1 v zs.length (zs.map (Value.int .i64))

theorem ints_keep {w w' : World} {v : Value} {zs : List Int} (h : Ints w v zs) (hk : ∀ (x : Addr) (u : Value), w.cell? x = some u → w'.cell? x = some u) : Ints w' v zs := by
  obtain ⟨h1, A, cap, hv, hc⟩ := h
  refine ⟨h1, A, cap, hv, fun hp => ?_⟩
  obtain ⟨ad, ha, hc⟩ := hc hp
  exact ⟨ad, ha, fun k hk' => hk _ _ (hc k hk')⟩

theorem ints_below {w w' : World} {v : Value} {zs : List Int} (h : Ints w v zs) (hb : Below w.heap.size w w') : Ints w' v zs :=
  ints_keep h fun x u hx => by rw [hb.cell (World.block_lt_of_cell? w x hx)]; exact hx

theorem ints_nil (w : World) : Ints w (.slice none 0 0) [] := ⟨Nat.zero_le _, none, 0, rfl, fun h => absurd h (by simp)⟩

theorem row_nil (w : World) (base : Nat) : Row w base (.slice none 0 0) [] := World.ownsRow_nil w base _ 1

theorem row_ints {w : World} {base : Nat} {v : Value} {zs : List Int} (h : Row w base v zs) : Ints w v zs := by
  rcases h.2 with ⟨hv, h0⟩ | ⟨g, cap, cur, hv, hb, hg, h1, h2, h3, h4⟩
  · exact ⟨by rw [h0]; exact Nat.zero_le _, none, 0, by rw [hv, h0], fun hp => absurd hp (by omega)⟩
  · refine ⟨Nat.le_trans h1 h2, some ⟨g, 0, none⟩, cap, hv, fun _ => ⟨_, rfl, fun k hk => ?_⟩⟩
    subst hv
    have hc := h.cellAt k (by omega)
    rw [show (⟨g, 0, none⟩ : Addr).add k = ⟨g, k, none⟩ by rw [Addr.add_lit, Nat.zero_add], hc]
    simp [hk]

theorem row_form {w : World} {base : Nat} {v : Value} {zs : List Int} (h : Row w base v zs) (hp : 0 < zs.length) : ∃ g cap, v = .slice (some ⟨g, 0, none⟩) zs.length cap ∧ base ≤ g ∧ g < w.heap.size ∧ zs.length ≤ cap ∧ cap ≤ maxLen := by
  rcases h.2 with ⟨_, h0⟩ | ⟨g, cap, cur, hv, hb, hg, h1, h2, _⟩
  · omega
  · exact ⟨g, cap, hv, hb, (Array.getElem?_eq_some_iff.1 hg).1, h1, h2⟩

theorem row_len {w : World} {base : Nat} {v : Value} {zs : List Int} (h : Row w base v zs) : zs.length ≤ maxLen := (row_ints h).1

theorem row_lt {w : World} {base : Nat} {v : Value} {zs : List Int} (h : Row w base v zs) : ∀ g, v.ownBlock = some g → base ≤ g ∧ g < w.heap.size := h.lt

theorem row_keep {w w' : World} {base : Nat} {v : Value} {zs : List Int} (h : Row w base v zs) (hk : ∀ g, v.ownBlock = some g → w'.heap[g]? = w.heap[g]?) : Row w' base v zs := by
  obtain ⟨h1, h2⟩ := h
  refine ⟨h1, ?_⟩
  rcases h2 with h2 | ⟨g, cap, cur, hv, hb, hg, r⟩
  · exact .inl h2
  · exact .inr ⟨g, cap, cur, hv, hb, by rw [hk g (by rw [hv]; rfl)]; exact hg, r⟩

theorem row_below {w w' : World} {base : Nat} {v : Value} {zs : List Int} (h : Row w base v zs) (hb : Below w.heap.size w w') : Row w' base v zs := row_keep h fun g hg => hb.block g (row_lt h g hg).2

theorem row_alloc {w : World} {base : Nat} {v : Value} {zs : List Int} (h : Row w base v zs) (o : Obj) : Row (w.alloc o) base v zs := row_keep h fun g hg => Below.heap_alloc w o g (row_lt h g hg).2

theorem row_base {w : World} {base base' : Nat} {v : Value} {zs : List Int} (h : Row w base v zs) (hb : base' ≤ base) : Row w base' v zs := own_base h hb

theorem row_whole {w : World} {base g : Nat} {zs : List Int} (h : Whole w g 3 (zs.map (Value.int .i64)).toArray) (hb : base ≤ g) (hl : zs.length ≤ maxLen) : Row w base (.slice (some ⟨g, 0, none⟩) zs.length zs.length) zs :=
  ⟨by simp, .inr ⟨g, zs.length, _, rfl, hb, h, Nat.le_refl _, hl, by simp, by rw [Nat.mul_one, List.toList_toArray, List.take_of_length_le (by simp)]⟩⟩

theorem row_full {w : World} {base g : Nat} {zs : List Int} (h : Row w base (.slice (some ⟨g, 0, none⟩) zs.length zs.length) zs) : Whole w g 3 (zs.map (Value.int .i64)).toArray := by
  rcases h.2 with ⟨hv, _⟩ | ⟨g', cap, cur, hv, hb, hg, h1, h2, h3, h4⟩
  · cases hv
  · simp only [Value.slice.injEq, Option.some.injEq, Addr.mk.injEq, true_and, and_true] at hv
    obtain ⟨rfl, rfl⟩ := hv
    unfold Whole
    rw [hg, ← h4, List.take_of_length_le (by simp [h3]), Array.toArray_toList]

/-- The row of a slice that is written at one place. -/
theorem row_set {w : World} {base g cap : Nat} {zs : List Int} (h : Row w base (.slice (some ⟨g, 0, none⟩) zs.length cap) zs) (k : Nat) (n : Int) :
    Row (w.setCell ⟨g, k, none⟩ (.int .i64 n)) base (.slice (some ⟨g, 0, none⟩) zs.length cap) (zs.set k n) ∧ w.grownBy (w.setCell ⟨g, k, none⟩ (.int .i64 n)) (some g) := by
  have h2 := World.ownsRow.stored h k (.int .i64 n)
  refine ⟨?_, h2.2⟩
  have := h2.1
  rw [← List.map_set] at this
  unfold Row
  rw [List.length_set]
  exact this

theorem row_cell {w : World} {base g cap : Nat} {zs : List Int} (h : Row w base (.slice (some ⟨g, 0, none⟩) zs.length cap) zs) (k : Nat) (hk : k < zs.length) : w.cell? ⟨g, k, none⟩ = some (.int .i64 zs[k]) := by
  rw [World.ownsRow.cellAt h k (by omega)]; simp [hk]

theorem row_free {w : World} {base g cap n : Nat} {zs : List Int} (h : Row w base (.slice (some ⟨g, 0, none⟩) n cap) zs) (k : Nat) : w.frozen? ⟨g, k, none⟩ = false := by
  have h' := h
  rcases h'.2 with ⟨hv, _⟩ | ⟨g', cap, cur, hv, hb, hg, _⟩
  · cases hv
  · simp only [Value.slice.injEq, Option.some.injEq, Addr.mk.injEq, true_and, and_true] at hv
    obtain ⟨rfl, _⟩ := hv
    simp [World.frozen?, hg]

/-- Numbers as bools of two slices: draws alone. -/
def BoolOf (w : World) (b : Bool) (e : Ending) (w' : World) : Prop := ∃ n : Nat, e = .returned (.bool b) ∧ w' = w.drewN n

/-- The first k numbers are alike. -/
def SameTo (P Q : List Int) (k : Nat) : Prop := P.take k = Q.take k

theorem sameTo_zero (P Q : List Int) : SameTo P Q 0 := by unfold SameTo; simp

theorem sameTo_next {P Q : List Int} {k : Nat} (h : SameTo P Q k) (hp : k < P.length) (hq : k < Q.length) (e : P[k] = Q[k]) : SameTo P Q (k + 1) := by
  unfold SameTo at *
  rw [List.take_succ_eq_append_getElem hp, List.take_succ_eq_append_getElem hq, h, e]

theorem sameTo_end {P Q : List Int} (hl : P.length = Q.length) (h : SameTo P Q P.length) : (P == Q) = true := by
  unfold SameTo at h
  rw [List.take_length, hl, List.take_length] at h
  simpa using h

theorem same_len {P Q : List Int} (hl : P.length ≠ Q.length) : (P == Q) = false := by
  rw [beq_eq_false_iff_ne]; intro e; rw [e] at hl; exact hl rfl

theorem same_not {P Q : List Int} {k : Nat} (hp : k < P.length) (hq : k < Q.length) (e : P[k] ≠ Q[k]) : (P == Q) = false := by
  rw [beq_eq_false_iff_ne]; intro h; subst h; exact e rfl

/-- Append of a row of numbers that reads, nil or not, onto a row of the call's own. -/
theorem run_append_ints (w : World) (base : Nat) (v : Value) (ys : List Int) (hown : Row w base v ys) (x : Value) (zs : List Int) (hz : Ints w x zs) (hl : ys.length + zs.length ≤ 1099511627776) (hbase : base ≤ w.heap.size) :
    ∃ v' w', (Builtin.append_ #[23, 23] 23 #[v, x]).run Tryz.prog w = .ok v' w' ∧ Row w' base v' (ys ++ zs) ∧ w.grownBy w' v.ownBlock ∧ (v'.ownBlock = v.ownBlock ∨ v'.ownBlock = some w.heap.size) := by
  obtain ⟨i0, hi0, hz0, hz1, hz2⟩ := info_parts own_info3
  obtain ⟨zm, A, cap, rfl, hc⟩ := hz
  have fin : ∀ ad, A = some ad → ∃ v' w', (Builtin.append_ #[23, 23] 23 #[v, .slice A zs.length cap]).run Tryz.prog w = .ok v' w' ∧ Row w' base v' (ys ++ zs) ∧ w.grownBy w' v.ownBlock ∧ (v'.ownBlock = v.ownBlock ∨ v'.ownBlock = some w.heap.size) := by
    rintro ad rfl
    obtain ⟨v', w', hr, h2, h3, _, h5⟩ := run_append_own_at (P := Tryz.prog) w base 23 23 3 i0 _ 1 8 Tryz.underlying23 hi0 hz0 hz1 hz2 rfl (by omega) v ys.length _ hown ad zs.length cap (zs.map (Value.int .i64)) (by simp)
      (fun j u hu => by
        rcases Nat.lt_or_ge j zs.length with hj | hj
        · obtain ⟨ad', ha, hc⟩ := hc (by omega)
          obtain rfl := Option.some.inj ha
          rw [hc j hj]
          simpa [hj] using hu
        · simp [hj] at hu) (ints_oneCell _ _) (by unfold maxLen; omega) (by omega) hbase
    exact ⟨v', w', hr, by unfold Row; rw [List.map_append, List.length_append]; exact h2, h3, h5⟩
  rcases A with _ | ad
  · have h0 : zs = [] := by
      rcases Nat.eq_zero_or_pos zs.length with h0 | h0
      · exact List.eq_nil_of_length_eq_zero h0
      · obtain ⟨ad, ha, _⟩ := hc h0; cases ha
    subst h0
    refine ⟨v, w, ?_, by rw [List.append_nil]; exact hown, World.grownBy.refl w _, .inl rfl⟩
    rcases hown.2 with ⟨rfl, h0⟩ | ⟨g, cap', cur, rfl, _, _, hnc, _⟩
    · simp [Builtin.append_, run_underlying Tryz.underlying23, sizeOf, typeInfo, hi0, Builtin.lenOf, Builtin.firstCells]
    · simp [Builtin.append_, run_underlying Tryz.underlying23, sizeOf, typeInfo, hi0, Builtin.lenOf, Builtin.firstCells, hnc, storeCells]
  · exact fin ad rfl

theorem wpList_append_ints {w : World} {ops : Array Oper} {rest : List Oper} {o : Oper} {a : Act} {Q : Exit → Act → World → Prop} (hgd : o.guard = none) (s x : Operand)
    (ho : o.op = .call { callee := .builtin .append, args := #[s, x], argTypes := #[23, 23] }) (hty : o.type = 23)
    (base : Nat) (v : Value) (ys : List Int) (hown : Row w base v ys) (u : Value) (zs : List Int) (hz : Ints w u zs) (hs : a.eval s = v) (hx : a.eval x = u) (hl : ys.length + zs.length ≤ 1099511627776) (hbase : base ≤ w.heap.size)
    (h : ∀ v' w', Row w' base v' (ys ++ zs) → w.grownBy w' v.ownBlock → (v'.ownBlock = v.ownBlock ∨ v'.ownBlock = some w.heap.size) → wpList Tryz.prog ops Q rest (a.put o.dst v') w') :
    wpList Tryz.prog ops Q (o :: rest) a w := by
  refine wpList_plain hgd fun K hK => ?_
  obtain ⟨v', w', hrun, h2, h3, h4⟩ := run_append_ints w base v ys hown u zs hz hl hbase
  unfold Oper.wp execOp
  simp only [ho, hty, resolve, invoke, builtin, Sem.run_bind, Sem.run_pure, Result.andThen_ok, List.map_toArray, List.map_cons, List.map_nil, hs, hx, hrun]
  exact hK _ _ (h v' w' h2 h3 h4)

end Go.Proofs.YthnbaeamekolmaaGreatDoor
