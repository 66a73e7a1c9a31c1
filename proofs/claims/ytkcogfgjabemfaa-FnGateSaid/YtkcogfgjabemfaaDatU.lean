/- What spec's operations on a script's data hand back, whole. -/
import Derived.Test.YtkcogfgjabemfaaDatT
namespace Go.Proofs.Ytkcogfgjabemfaa
open Go.RowKit
set_option linter.unusedVariables false
set_option linter.unusedSimpArgs false

theorem small_noDt : SmallD noDt := by unfold noDt SmallD; decide

theorem small_push {d : Dt} (h : DtFine d) (n : Int) : SmallD { d with s := d.s ++ [n] } := by
  have h1 := fine_small h; have h2 := fine_sl h
  exact ⟨by simp; omega, h1.2.1, h1.2.2.1, h1.2.2.2⟩

theorem small_store {d : Dt} (h : SmallD d) (k : Nat) (n : Int) : SmallD { d with c := d.c.set k n } := ⟨h.1, h.2.1, by simp; exact h.2.2.1, h.2.2.2⟩

theorem small_allot {d : Dt} (h : SmallD d) (hd : DtFine d) (n : Int) (hg : goodMove d n) : SmallD { d with c := zeroN d.c d.h.toNat (n.tdiv 4).toNat, h := d.h + n.tdiv 4 } := by
  obtain ⟨h1, h2, h3⟩ := hg
  have q0 := fine_h0 hd
  have q1 := fine_h1 hd
  have q2 := fine_cl hd
  refine ⟨h.1, h.2.1, ?_, h.2.2.2⟩
  show (zeroN d.c d.h.toNat (n.tdiv 4).toNat).length ≤ 1048576
  rw [zeroN_len (by omega)]; exact h.2.2.1

theorem small_pop {d : Dt} (h : SmallD d) : SmallD { d with s := d.s.dropLast } := ⟨by have := h.1; simp; omega, h.2.1, h.2.2.1, h.2.2.2⟩

theorem small_say {d : Dt} (h : SmallD d) {s : ByteArray} (hs : d.o.size + s.size ≤ 300) : SmallD { d with o := d.o ++ s } := ⟨h.1, h.2.1, h.2.2.1, by simp [ByteArray.size_append]; omega⟩

/-- Three numbers. -/
def NumsOf (w : World) (ns : List Int) (e : Ending) (w' : World) : Prop := e = .returned (.tuple (ns.map (Value.int .i64)).toArray) ∧ Below w.heap.size w w'

end Go.Proofs.Ytkcogfgjabemfaa
