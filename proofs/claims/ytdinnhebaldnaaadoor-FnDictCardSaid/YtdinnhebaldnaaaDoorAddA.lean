/- AddWord: copy of words, append of words as one step; impl's and spec's. -/
import Derived.Test.YtdinnhebaldnaaaDoorImpB
import Derived.Deep.RegionLaw
import Derived.Deep.RegionHeldLaw
namespace Go.Proofs.YtdinnhebaldnaaaDoor
open Go.RowKit
set_option linter.unusedVariables false
set_option linter.unusedSimpArgs false

/-- What AddWord answers. -/
def addF (Q : List Wd) (x : Wd) : List Wd × Int × Int :=
  if 4096 < Q.length then ([], 0, 2) else if dictB Q = false ∨ userB x = false then ([], 0, 1) else if Q.length = 103 then ([], 0, 7) else (Q ++ [x], (Q.length : Int) + 1, 0)

/-- What AddWord leaves. -/
def AddOf (w : World) (r : List Wd × Int × Int) (e : Ending) (w' : World) : Prop := ∃ v, e = .returned (.tuple #[v, .int .i64 r.2.1, .int .i64 r.2.2]) ∧ WRow w' w.heap.size v r.1 ∧ Below w.heap.size w w'

theorem add_of {w w' : World} {r : List Wd × Int × Int} {Q : List Wd} {a b : Int} {v : Value} (h : r = (Q, a, b)) (hr : WRow w' w.heap.size v Q) (hb : Below w.heap.size w w') : AddOf w r (.returned (.tuple #[v, .int .i64 a, .int .i64 b])) w' := by
  subst h; exact ⟨v, rfl, hr, hb⟩

theorem wcells_drop (Q : List Wd) (k : Nat) : (wcells Q).drop (k * 3) = wcells (Q.drop k) := by
  induction k generalizing Q with
  | zero => simp
  | succ k ih =>
    cases Q with
    | nil => simp [wcells]
    | cons q r =>
      rw [List.drop_succ_cons, ← ih r]
      unfold wcells
      rw [List.flatMap_cons, show (k + 1) * 3 = (wcs q).length + k * 3 by simp [wcs]; omega, List.drop_append]
      rw [List.drop_of_length_le (by omega), Nat.add_sub_cancel_left, List.nil_append]

theorem names_drop {Q : List Wd} (h : Names Q) (k : Nat) : Names (Q.drop k) := fun x hx => h x (List.mem_of_mem_drop hx)

/-- A copy of readable words to the head of a row of the call's own. -/
theorem wpList_copy_words {w : World} {ops : Array Oper} {rest : List Oper} {o : Oper} {a : Act} {Q : Exit → Act → World → Prop} (hgd : o.guard = none) (d s : Operand)
    (ho : o.op = .call { callee := .builtin .copy, args := #[d, s], argTypes := #[23, 23] })
    (base g dLen dCap gs sCap : Nat) (P zs : List Wd) (hdl : P.length = dLen) (hd : a.eval d = .slice (some ⟨g, 0, none⟩) dLen dCap) (hs : a.eval s = .slice (some ⟨gs, 0, none⟩) zs.length sCap)
    (hown : WRow w base (.slice (some ⟨g, 0, none⟩) P.length dCap) P) (hz : ∀ k (h : k < zs.length), WdAt w ⟨gs, k * 3, none⟩ zs[k]) (hn : Names zs) (hl : zs.length ≤ P.length)
    (h : ∀ w', WRow w' base (.slice (some ⟨g, 0, none⟩) P.length dCap) (zs ++ P.drop zs.length) → w.grownBy w' (some g) → wpList Tryd.prog ops Q rest (a.put o.dst (goInt zs.length)) w') :
    wpList Tryd.prog ops Q (o :: rest) a w := by
  subst hdl
  obtain ⟨i0, hi0, hz0, hz1, hz2⟩ := info_parts own_infoW
  refine wpList_plain hgd fun K hK => ?_
  rcases hown.1.2 with ⟨h', _⟩ | ⟨g', cap', cur, h', hb, hg, hnc, hcm, hcs, htake⟩
  · cases h'
  simp only [Value.slice.injEq, Option.some.injEq, Addr.mk.injEq, and_true, true_and] at h'
  obtain ⟨rfl, rfl⟩ := h'
  have hcl := wcells_len zs
  have hfit : (wcells zs).length ≤ cur.size := by rw [hcl, hcs]; exact Nat.mul_le_mul_right _ (by omega)
  have hl1 := run_loadCells_list (P := Tryd.prog) w ⟨gs, 0, none⟩ (wcells zs) (fun j u hu => by rw [Addr.add_lit, Nat.zero_add]; exact wds_cells hz j u hu)
  have hst := run_storeCells_at Tryd.prog g 0 26 (wcells zs) 0 cur w hg (by simpa using hfit) (wcells_oneCell zs)
  have hmin : Nat.min zs.length P.length = zs.length := Nat.min_eq_left hl
  rw [hcl] at hl1
  have hrun : (Builtin.copy_ #[23, 23] o.type #[.slice (some ⟨g, 0, none⟩) P.length dCap, .slice (some ⟨gs, 0, none⟩) zs.length sCap]).run Tryd.prog w =
      .ok (goInt zs.length) (w.setRow g (cur.toList.take (0 + 0) ++ wcells zs ++ cur.toList.drop (0 + 0 + (wcells zs).length)).toArray) := by
    simp only [Nat.add_zero, Nat.zero_add, List.take_zero, List.nil_append] at hst ⊢
    simp [Builtin.copy_, run_underlying Tryd.underlying23, Builtin.lenOf, Builtin.firstCells, sizeOf, typeInfo, hi0, hz1, hmin, hl1, hst, Result.andThen]
  have hlen : (zs ++ P.drop zs.length).length = P.length := by rw [List.length_append, List.length_drop]; omega
  unfold Oper.wp
  simp [execOp, ho, resolve, invoke, builtin, hd, hs, hrun, Result.andThen]
  simp only [Nat.add_zero, Nat.zero_add, List.take_zero, List.nil_append] at *
  refine hK _ _ (h _ ⟨?_, names_add hn (names_drop hown.2 _)⟩ ⟨rfl, rfl, rfl, by simp [World.setRow], fun k hk hne => setRow_other w g k _ (fun e => hne (by rw [e]))⟩)
  rw [hlen]
  refine ⟨by rw [wcells_len, hlen], .inr ⟨g, dCap, _, rfl, hb, setRow_heap w g cur _ 26 _ hg, hnc, hcm, ?_, ?_⟩⟩
  · simp
    omega
  · rw [wcells_add, ← wcells_drop, ← htake, List.toList_toArray, List.take_append, List.take_of_length_le (by rw [hcl]; exact Nat.mul_le_mul_right _ hl), hcl, List.drop_take]

end Go.Proofs.YtdinnhebaldnaaaDoor
