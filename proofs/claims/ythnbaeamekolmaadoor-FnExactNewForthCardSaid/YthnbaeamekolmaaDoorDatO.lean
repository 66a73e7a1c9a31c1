/- A script's data, copied: spec's l03Own, impl's ownData. -/
import Derived.Test.YthnbaeamekolmaaDoorDatL
namespace Go.Proofs.YthnbaeamekolmaaDoor
open Go.RowKit
set_option linter.unusedVariables false
set_option linter.unusedSimpArgs false

/-- 'append([]int{}, xs...)': a row of the call's own, of these numbers. -/
theorem wpList_append_new {W0 : World} {ops : Array Oper} {rest : List Oper} {o : Oper} {a : Act} {Q : Exit → Act → World → Prop} (hgd : o.guard = none) (s x : Operand)
    (ho : o.op = .call { callee := .builtin .append, args := #[s, x], argTypes := #[23, 23] }) (hty : o.type = 23)
    (g : Nat) (hs : a.eval s = .slice (some ⟨g, 0, none⟩) 0 0) (hgs : g = W0.heap.size) (u : Value) (zs : List Int) (hx : a.eval x = u) (hz : Ints W0 u zs) (hl : zs.length ≤ 1099511627776)
    (h : ∀ B m w', Row w' W0.heap.size (.slice B zs.length m) zs → Below W0.heap.size W0 w' → wpList Tryd.prog ops Q rest (a.put o.dst (.slice B zs.length m)) w') :
    wpList Tryd.prog ops Q (o :: rest) a (W0.alloc (.cells #[] 3)) := by
  subst hgs
  have ho0 : Row (W0.alloc (.cells #[] 3)) W0.heap.size (.slice (some ⟨W0.heap.size, 0, none⟩) 0 0) [] := World.ownsRow_made W0 #[] 0 (Nat.le_refl _) (by unfold maxLen; omega) rfl
  refine wpList_append_ints hgd s x ho hty W0.heap.size _ [] ho0 u zs (ints_below hz (below_alloc (Below.refl _ _) _)) hs hx (by simpa using hl) (by simp) ?_
  intro v' w' hr hg _
  rw [List.nil_append] at hr
  obtain ⟨_, B, m, rfl, _⟩ := row_ints hr
  refine h B m w' hr ?_
  exact (below_alloc (Below.refl _ _) _).grown hg (by simp) (fun k hk => by simp [Value.ownBlock] at hk; omega)

/-- What a copy of data leaves. -/
def CopyOf (w : World) (d : Dt) (e : Ending) (w' : World) : Prop := ∃ u, e = .returned u ∧ DatOf w' w.heap.size w'.heap.size u d ∧ Below w.heap.size w w'

end Go.Proofs.YthnbaeamekolmaaDoor
