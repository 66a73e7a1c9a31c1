/- The source of draws, made: and a drawn cell. -/
import Derived.Test.YtjhnhlknfkiodaaDoorSrcA
namespace Go.Proofs.YtjhnhlknfkiodaaDoor
open Go.RowKit
set_option linter.unusedVariables false
set_option linter.unusedSimpArgs false

set_option maxRecDepth 100000 in
set_option maxHeartbeats 400000 in
theorem source_any (a : Option Addr) (len cap : Nat) (w : World) (hl : len ≤ 9223372036854775807) :
    Calls Tryd.prog 21 #[.slice a len cap] w fun e w' => e = .returned (.pointer (some ⟨w.heap.size, 0, none⟩)) ∧ w' = w.alloc (.cells #[.slice a len cap, .int .i64 0, .int .i64 ((len : Int) % 1000)] 51) := by
  go_enter Tryd.func21, Tryd.ntmps21
  go_wp2
  go_ret
  exact ⟨rfl, rfl⟩

theorem src_new {w : World} {a : Option Addr} {len cap : Nat} {zs : List Int} (h : BRow w a len cap zs) :
    Src (w.alloc (.cells #[.slice a len cap, .int .i64 0, .int .i64 ((len : Int) % 1000)] 51)) w.heap.size a len cap zs 0 := by
  have hb := brow_lt h
  refine ⟨0, (len : Int) % 1000, Nat.le_refl _, ?_, ?_, ?_, ?_, ?_, ?_, ?_, ?_, ?_⟩
  · simp
  · simp
  · simp
  · simp
  · simp
  · rcases h with h | ⟨x, rfl, h1, h2, h3, h4, h5⟩
    · exact .inl h
    · exact .inr ⟨x, rfl, h1, h2, h3, fun i hi => by rw [World.cell?_alloc_lt _ _ _ (by rw [add_block]; exact hb x rfl (by omega))]; exact h4 i hi, h5⟩
  · intro x hx hc; have := hb x hx hc; omega
  · omega
  · omega

/-- What a drawn cell leaves: a cell; of what was there nothing has turned. -/
def CellDrew (w : World) (e : Ending) (w' : World) : Prop := ∃ v : Int, (-2147483648 ≤ v ∧ v ≤ 2147483647) ∧ e = .returned (.int .i64 v) ∧ Below w.heap.size w w'

theorem below_new {w w' : World} (o : Obj) (h : (w.alloc o).grownBy w' (some w.heap.size)) : Below w.heap.size w w' :=
  ((Below.refl w.heap.size w).alloc (Nat.le_refl _) o).grown h (by simp) (fun k hk => by cases hk; exact Nat.le_refl _)

end Go.Proofs.YtjhnhlknfkiodaaDoor
