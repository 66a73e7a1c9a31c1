/- spec's list of the kernel's words: the five lists, their join; append of words. -/
import Derived.Test.YthnbaeamekolmaaGreatDoorKerM
import Derived.Test.YthnbaeamekolmaaGreatDoorWdB
import Derived.Maps.AppendAt
namespace Go.Proofs.YthnbaeamekolmaaGreatDoor
open Go.RowKit
set_option linter.unusedVariables false
set_option linter.unusedSimpArgs false

/-- Block g is these texts. -/
def Txts (w : World) (g : Nat) (Q : List (List UInt8)) : Prop := ∀ k (h : k < Q.length), w.cell? ⟨g, k, none⟩ = some (.string ⟨Q[k].toArray⟩)

theorem txts_lit (w : World) (Q : List (List UInt8)) : Txts (w.alloc (.cells (Q.map strV).toArray 9)) w.heap.size Q := by
  intro k hk
  rw [cell_of_row _ _ _ _ _ _ (heap_alloc_new w _)]
  simp [strV, hk]

/-- What gives a list of texts that is written out. -/
def LitOf (w : World) (Q : List (List UInt8)) (e : Ending) (w' : World) : Prop := e = .returned (.slice (some ⟨w.heap.size, 0, none⟩) Q.length Q.length) ∧ w' = w.alloc (.cells (Q.map strV).toArray 9)

set_option maxRecDepth 100000 in
theorem sPrims_any (w : World) : Calls Tryz.prog 249 #[] w (LitOf w primsL) := by
  go_enter Tryz.func249, Tryz.ntmps249
  go_wp2
  go_ret
  exact ⟨rfl, rfl⟩

set_option maxRecDepth 100000 in
theorem sFlows_any (w : World) : Calls Tryz.prog 250 #[] w (LitOf w flowsL) := by
  go_enter Tryz.func250, Tryz.ntmps250
  go_wp2
  go_ret
  exact ⟨rfl, rfl⟩

set_option maxRecDepth 100000 in
theorem sInners_any (w : World) : Calls Tryz.prog 251 #[] w (LitOf w innersL) := by
  go_enter Tryz.func251, Tryz.ntmps251
  go_wp2
  go_ret
  exact ⟨rfl, rfl⟩

set_option maxRecDepth 100000 in
theorem sHosts_any (w : World) : Calls Tryz.prog 252 #[] w (LitOf w hostsL) := by
  go_enter Tryz.func252, Tryz.ntmps252
  go_wp2
  go_ret
  exact ⟨rfl, rfl⟩

set_option maxRecDepth 100000 in
theorem sSyntax_any (w : World) : Calls Tryz.prog 253 #[] w (LitOf w syntaxL) := by
  go_enter Tryz.func253, Tryz.ntmps253
  go_wp2
  go_ret
  exact ⟨rfl, rfl⟩

theorem wcells_add (P Q : List Wd) : wcells (P ++ Q) = wcells P ++ wcells Q := by unfold wcells; rw [List.flatMap_append]

theorem wcells_one (x : Wd) : wcells [x] = [.string x.n, .int .i64 x.k, .int .i64 x.v] := rfl

theorem wcells_oneCell (Q : List Wd) : ∀ u ∈ wcells Q, u.oneCell' = true := by
  intro u hu
  unfold wcells at hu
  obtain ⟨x, _, hx⟩ := List.mem_flatMap.1 hu
  unfold wcs at hx
  simp at hx
  rcases hx with rfl | rfl | rfl <;> rfl

theorem names_add {P Q : List Wd} (h : Names P) (k : Names Q) : Names (P ++ Q) := by
  intro x hx
  rcases List.mem_append.1 hx with hx | hx
  · exact h x hx
  · exact k x hx

theorem names_one {x : Wd} (h : x.n.size ≤ maxLen) : Names [x] := by intro y hy; rw [List.mem_singleton.1 hy]; exact h

/-- The cells of readable words, one by one. -/
theorem wds_cells {w : World} {g : Nat} {Q : List Wd} (h : ∀ k (h : k < Q.length), WdAt w ⟨g, k * 3, none⟩ Q[k]) (j : Nat) (u : Value) (hu : (wcells Q)[j]? = some u) : w.cell? ⟨g, j, none⟩ = some u := by
  have hj : j < (wcells Q).length := (List.getElem?_eq_some_iff.1 hu).1
  rw [wcells_len] at hj
  have hk : j / 3 < Q.length := by omega
  have h1 := wcells_at Q (j / 3) (j % 3) hk (by omega)
  rw [show j / 3 * 3 + j % 3 = j by omega, hu] at h1
  obtain ⟨a0, a1, a2⟩ := h (j / 3) hk
  simp only [] at a0 a1 a2
  have : j % 3 = 0 ∨ j % 3 = 1 ∨ j % 3 = 2 := by omega
  rcases this with e | e | e
  · rw [show j = j / 3 * 3 by omega, a0]; rw [e] at h1; simpa [wcs] using h1.symm
  · rw [show j = j / 3 * 3 + 1 by omega, a1]; rw [e] at h1; simpa [wcs] using h1.symm
  · rw [show j = j / 3 * 3 + 2 by omega, a2]; rw [e] at h1; simpa [wcs] using h1.symm

/-- An append of words at an address. -/
theorem wpList_append_words {w : World} {ops : Array Oper} {rest : List Oper} {o : Oper} {a : Act} {Q : Exit → Act → World → Prop} (hgd : o.guard = none) (s x : Operand)
    (ho : o.op = .call { callee := .builtin .append, args := #[s, x], argTypes := #[39, 39] })
    (base : Nat) (v : Value) (ys : List Wd) (hs : a.eval s = v) (hown : WRow w base v ys) (g m c : Nat) (zs : List Wd) (hx : a.eval x = .slice (some ⟨g, 0, none⟩) m c) (hm : zs.length = m)
    (hz : ∀ k (h : k < zs.length), WdAt w ⟨g, k * 3, none⟩ zs[k]) (hn : Names zs) (hl : ys.length + zs.length ≤ 1099511627776) (hbase : base ≤ w.heap.size)
    (h : ∀ v' w', WRow w' base v' (ys ++ zs) → w.grownBy w' v.ownBlock → (v' = .slice none 0 0 ↔ v = .slice none 0 0 ∧ m = 0) → (v'.ownBlock = v.ownBlock ∨ v'.ownBlock = some w.heap.size) → wpList Tryz.prog ops Q rest (a.put o.dst v') w') :
    wpList Tryz.prog ops Q (o :: rest) a w := by
  obtain ⟨i0, hi0, hz0, hz1, hz2⟩ := info_parts own_infoW
  subst hm
  refine wpList_append_own_at w hgd s x 39 ho base 129 i0 _ 3 32 Tryz.underlying39 hi0 hz0 hz1 hz2 rfl (by omega) v ys.length (wcells ys) hs hown.1 ⟨g, 0, none⟩ zs.length c (wcells zs) hx (wcells_len zs)
    (fun j u hu => by rw [Addr.add_lit, Nat.zero_add]; exact wds_cells hz j u hu) (wcells_oneCell zs) (by unfold maxLen; omega) (by omega) hbase ?_
  intro v' w' h1 h2 h3 h4
  exact h v' w' ⟨by rw [List.length_append, wcells_add]; exact h1, names_add hown.2 hn⟩ h2 h3 h4

theorem gb_step {W wr wx : World} {g0 : Nat} {r : Option Nat} (h : W.grownBy wr (some g0)) (k : wr.grownBy wx r) (hr : ∀ g, r = some g → g = g0 ∨ W.heap.size ≤ g) : W.grownBy wx (some g0) :=
  ⟨k.os.trans h.os, k.tape.trans h.tape, k.output.trans h.output, Nat.le_trans h.size k.size, fun i hi hne => (k.block i (Nat.lt_of_lt_of_le hi h.size) (fun e => by
    rcases hr i e.symm with rfl | hge
    · exact hne rfl
    · omega)).trans (h.block i hi hne)⟩

/-- What the list of lists is, in a world. -/
def ListsAt (W : World) (g0 gl : Nat) : Prop := gl ≠ g0 ∧ gl < W.heap.size ∧ ∀ i, i < 5 → ∃ g, g ≠ g0 ∧ g < W.heap.size ∧ W.cell? ⟨gl, i, none⟩ = some (.slice (some ⟨g, 0, none⟩) (kcnt i) (kcnt i)) ∧
  ∀ k, k < kcnt i → W.cell? ⟨g, k, none⟩ = some (.string (kname (koff i + k)))

theorem lists_keep {W w' : World} {g0 gl : Nat} (h : ListsAt W g0 gl) (hg : W.grownBy w' (some g0)) : ListsAt w' g0 gl := by
  obtain ⟨h1, h2, h3⟩ := h
  refine ⟨h1, Nat.lt_of_lt_of_le h2 hg.size, fun i hi => ?_⟩
  obtain ⟨g, a1, a2, a3, a4⟩ := h3 i hi
  exact ⟨g, a1, Nat.lt_of_lt_of_le a2 hg.size, hg.cell a3 (by simpa using h1), fun k hk => hg.cell (a4 k hk) (by simpa using a1)⟩

end Go.Proofs.YthnbaeamekolmaaGreatDoor
