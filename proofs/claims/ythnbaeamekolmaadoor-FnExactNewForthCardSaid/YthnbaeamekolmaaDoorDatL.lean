/- An argument's data, opened; what the laws on data walk from. -/
import Derived.Test.YthnbaeamekolmaaDoorDatC
import Derived.Lib.SmallJoins
import Derived.ProofKit
import Derived.OpenShut
import Derived.ChangeOld
namespace Go.Proofs.YthnbaeamekolmaaDoor
open Go.Joins Go.ChangeShapes Go.WideShapes Go.RowKit Go.Deep Go.ChangeAt
set_option linter.unusedVariables false
set_option linter.unusedSimpArgs false

theorem datIn_form {w : World} {v : Value} {d : Dt} (h : DatIn w v d) : ∃ A1 k1 A2 k2 A3 k3, v = .agg #[.slice A1 d.s.length k1, .slice A2 d.b.length k2, .slice A3 d.c.length k3, .int .i64 d.h, .int .i64 d.n, .string d.o] := by
  obtain ⟨x, y, z, rfl, ⟨_, A1, k1, rfl, _⟩, ⟨_, A2, k2, rfl, _⟩, ⟨_, A3, k3, rfl, _⟩, _⟩ := h
  exact ⟨_, _, _, _, _, _, rfl⟩

/-- The same laws, the world's change first: it says which worlds are meant. -/
theorem whole_b {w w' : World} {g : Nat} {t : TypeId} {cs : Array Value} (hb : Below w.heap.size w w') (h : Whole w g t cs) : Whole w' g t cs := whole_below h hb

theorem datIn_b {w w' : World} {v : Value} {d : Dt} (hb : Below w.heap.size w w') (h : DatIn w v d) : DatIn w' v d := datIn_below h hb

theorem datOf_b {w w' : World} {lo hi : Nat} {v : Value} {d : Dt} (hb : Below w.heap.size w w') (h : DatOf w lo hi v d) : DatOf w' lo hi v d := datOf_below h hb

theorem below_b {a b c : World} (k : Below b.heap.size b c) (h : Below a.heap.size a b) : Below a.heap.size a c := below_step h k

theorem six_cells {w : World} {g : Nat} {t : TypeId} {a b c d e f : Value} (h : Whole w g t #[a, b, c, d, e, f]) :
    w.cell? ⟨g, 0, none⟩ = some a ∧ w.cell? ⟨g, 1, none⟩ = some b ∧ w.cell? ⟨g, 2, none⟩ = some c ∧ w.cell? ⟨g, 3, none⟩ = some d ∧ w.cell? ⟨g, 4, none⟩ = some e ∧ w.cell? ⟨g, 5, none⟩ = some f :=
  ⟨whole_cell h 0, whole_cell h 1, whole_cell h 2, whole_cell h 3, whole_cell h 4, whole_cell h 5⟩

section
variable {H : Type} {enc : TypeId × Value → H} {w : World} {base : Nat} {spare : Nat → Bool} {held : Bool}

theorem ints_of_trod {fuel : Nat} {v : Value} {x : DataW H × List MemPlace} (h : DataW.trod enc Tryd.prog w base (fun _ => true) held fuel 23 [v] = some x) : ∃ zs, Ints w v zs := by
  rcases open_ints Tryd.underlying23 Tryd.underlying3 (by kernel_rfl) h with ⟨hcs, _⟩ | ⟨a, l, c, zs, hcs, _, hl, hm, hz, _, hcell, hwz⟩
  · simp only [List.cons.injEq, and_true] at hcs
    subst hcs
    exact ⟨[], ints_nil w⟩
  · simp only [List.cons.injEq, and_true] at hcs
    subst hcs
    simp only [if_true] at hz
    have hlen : (zs.take l).length = l := by rw [List.length_take]; omega
    refine ⟨zs.take l, by rw [hlen]; omega, some a, c, by rw [hlen], fun _ => ⟨a, rfl, fun k hk => ?_⟩⟩
    rw [hlen] at hk
    rw [hcell k (by omega)]
    simp [List.getD_eq_getElem?_getD, show k < zs.length by omega]

end

end Go.Proofs.YthnbaeamekolmaaDoor
