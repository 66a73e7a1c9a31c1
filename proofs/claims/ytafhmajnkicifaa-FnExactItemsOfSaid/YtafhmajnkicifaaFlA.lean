/- The program's writer of items: its small functions. -/
import Derived.Test.YtafhmajnkicifaaFlM
import Derived.Test.YtafhmajnkicifaaTrC
import Derived.Test.YtafhmajnkicifaaMkB
import Derived.Test.YtafhmajnkicifaaPrA
import Derived.Test.YtafhmajnkicifaaGbA
namespace Go.Proofs.Ytafhmajnkicifaa
open Go.RowKit
set_option linter.unusedVariables false
set_option linter.unusedSimpArgs false

/-- Nodes that stand below a block. -/
def NdB : Nat → Nat → World → Value → List Nd → Prop
  | 0, _, _, v, L => L = [] ∧ ∃ A c, v = .slice A 0 c
  | d + 1, G, w, v, L => L.length ≤ maxLen ∧ ∃ A c, v = .slice A L.length c ∧ (0 < L.length → ∃ ad, A = some ad ∧ ad.block < G ∧ ∀ k (h : k < L.length), NdAt (NdB d G w) w (ad.add (k * 4)) L[k])

theorem ndb_keep (d : Nat) : ∀ {G : Nat} {w w' : World} {v : Value} {L : List Nd}, NdB d G w v L → (∀ b, b < G → w'.heap[b]? = w.heap[b]?) → NdB d G w' v L := by
  induction d with
  | zero => intro G w w' v L h _; exact h
  | succ d ih =>
    intro G w w' v L h hk
    obtain ⟨h1, A, c, hv, hc⟩ := h
    refine ⟨h1, A, c, hv, fun hp => ?_⟩
    obtain ⟨ad, ha, hb, hc⟩ := hc hp
    refine ⟨ad, ha, hb, fun k hk' => ?_⟩
    obtain ⟨c0, c1, A1, n1, e1, B1, m1, f1, c2, c3, r2, r3⟩ := hc k hk'
    have hbk : w'.heap[(ad.add (k * 4)).block]? = w.heap[(ad.add (k * 4)).block]? := hk _ (by rw [add_block]; exact hb)
    exact ⟨(World.cell?_of_block hbk).trans c0, (World.cell?_of_block (a := ⟨(ad.add (k * 4)).block, (ad.add (k * 4)).off + 1, none⟩) hbk).trans c1, A1, n1, e1, B1, m1, f1, (World.cell?_of_block (a := ⟨(ad.add (k * 4)).block, (ad.add (k * 4)).off + 2, none⟩) hbk).trans c2, (World.cell?_of_block (a := ⟨(ad.add (k * 4)).block, (ad.add (k * 4)).off + 3, none⟩) hbk).trans c3, ih r2 hk, ih r3 hk⟩

theorem ndb_of (d : Nat) : ∀ {w : World} {v : Value} {L : List Nd}, Nds d w v L → NdB d w.heap.size w v L := by
  induction d with
  | zero => intro w v L h; exact h
  | succ d ih =>
    intro w v L h
    obtain ⟨h1, A, c, hv, hc⟩ := h
    refine ⟨h1, A, c, hv, fun hp => ?_⟩
    obtain ⟨ad, ha, hc⟩ := hc hp
    refine ⟨ad, ha, ?_, fun k hk => ?_⟩
    · have := lt_of_cell (hc 0 hp).1
      rwa [add_block] at this
    · obtain ⟨c0, c1, A1, n1, e1, B1, m1, f1, c2, c3, r2, r3⟩ := hc k hk
      exact ⟨c0, c1, A1, n1, e1, B1, m1, f1, c2, c3, ih r2, ih r3⟩

theorem ndb_form {d G : Nat} {w : World} {v : Value} {L : List Nd} (h : NdB d G w v L) : L.length ≤ maxLen ∧ ∃ A c, v = .slice A L.length c := by
  cases d with
  | zero => obtain ⟨rfl, A, c, rfl⟩ := h; exact ⟨Nat.zero_le _, A, c, rfl⟩
  | succ d => obtain ⟨h1, A, c, hv, _⟩ := h; exact ⟨h1, A, c, hv⟩

/-- The writer's box, and the items in it; u: the block of their row. -/
def WrAt (w : World) (G : Nat) (Q : List It) (u : Option Nat) : Prop := ∃ A n c, Whole w G 55 #[.slice A n c] ∧ IRow w (G + 1) (.slice A n c) Q ∧ (Value.slice A n c).ownBlock = u

/-- All but the box and the row is as it was. -/
def OnlyW (G : Nat) (u : Option Nat) : World → World → Prop := Only (fun b => b = G ∨ u = some b)

/-- The row's block is the old one or new. -/
def NewU (w : World) (u u' : Option Nat) : Prop := u' = u ∨ ∃ g, u' = some g ∧ w.heap.size ≤ g

theorem onlyW_below {G : Nat} {u : Option Nat} {w w' : World} (h : Below w.heap.size w w') : OnlyW G u w w' := below_only h

theorem onlyW_trans {G : Nat} {u u' : Option Nat} {a b c : World} (h : OnlyW G u a b) (hu : NewU a u u') (k : OnlyW G u' b c) : OnlyW G u a c :=
  ⟨k.os.trans h.os, k.tape.trans h.tape, k.output.trans h.output, Nat.le_trans h.size k.size, fun x hx hn => (k.block x (Nat.lt_of_lt_of_le hx h.size) (fun q => by
    rcases q with q | q
    · exact hn (.inl q)
    · rcases hu with e | ⟨g, e, hg⟩
      · exact hn (.inr (e ▸ q))
      · rw [e] at q; have := Option.some.inj q; omega)).trans (h.block x hx hn)⟩

theorem newU_refl (w : World) (u : Option Nat) : NewU w u u := .inl rfl

theorem newU_trans {a b : World} {u u' u'' : Option Nat} (h : NewU a u u') (k : NewU b u' u'') (hs : a.heap.size ≤ b.heap.size) : NewU a u u'' := by
  rcases k with rfl | ⟨g, rfl, hg⟩
  · exact h
  · exact .inr ⟨g, rfl, by omega⟩

theorem wr_lt {w : World} {G : Nat} {Q : List It} {u : Option Nat} (h : WrAt w G Q u) : G < w.heap.size ∧ ∀ g, u = some g → G < g ∧ g < w.heap.size := by
  obtain ⟨A, n, c, hw, hr, hu⟩ := h
  exact ⟨whole_lt hw, fun g hg => by have := irow_lt hr g (hu.trans hg); omega⟩

theorem wr_keep {w w' : World} {G : Nat} {Q : List It} {u : Option Nat} (h : WrAt w G Q u) (h1 : w'.heap[G]? = w.heap[G]?) (h2 : ∀ g, u = some g → w'.heap[g]? = w.heap[g]?) : WrAt w' G Q u := by
  obtain ⟨A, n, c, hw, hr, hu⟩ := h
  exact ⟨A, n, c, whole_keep hw h1, irow_keep hr fun g hg => h2 g (hu.symm.trans hg), hu⟩

theorem wr_below {w w' : World} {G : Nat} {Q : List It} {u : Option Nat} (h : WrAt w G Q u) (hb : Below w.heap.size w w') : WrAt w' G Q u :=
  wr_keep h (hb.block G (wr_lt h).1) fun g hg => hb.block g ((wr_lt h).2 g hg).2

/-- What a writing of items leaves. -/
def WrOf (w : World) (G : Nat) (u : Option Nat) (Q : List It) (e : Ending) (w' : World) : Prop := e = .returned (.tuple #[]) ∧ OnlyW G u w w' ∧ ∃ u', WrAt w' G Q u' ∧ NewU w u u'

set_option maxRecDepth 100000 in
set_option maxHeartbeats 800000 in
theorem add_items (w : World) (G : Nat) (Q : List It) (u : Option Nat) (k v : Int) (h : WrAt w G Q u) (hl : Q.length ≤ 1000) :
    Calls Try.prog 67 #[.pointer (some ⟨G, 0, none⟩), .int .i64 k, .int .i64 v] w (WrOf w G u (Q ++ [⟨k, v⟩])) := by
  have hlt := wr_lt h
  obtain ⟨A, n, c, hw, hr, hu⟩ := h
  have HW := Lib.hid hw
  have HR := Lib.hid hr
  have HU := Lib.hid hu
  have HL := Lib.hid hlt
  have zl := hlt.1
  have c0 := whole_cell hw 0
  have f0 := whole_free hw 0
  simp at c0
  clear hw hr hu hlt
  go_enter Try.func67, Try.ntmps67
  go_wp2_with (at_builtin; refine wpList_append_items rfl (.tmp 10) (.tmp 14) rfl rfl (G + 1) (.slice A n c) Q (irow_alloc HR.out _) _ [⟨k, v⟩] (its_one _ ⟨k, v⟩ _) rfl rfl (by simp; omega) (by simp; omega) ?_
               intro v' w2 hr2 hg2 hat
               have GN : ∀ g, (Value.slice A n c).ownBlock = some g → g ≠ G := fun g hg e => by have := irow_lt HR.out g hg; omega
               have W2 := whole_keep (whole_alloc HW.out (.cells #[.int .i64 k, .int .i64 v] 59)) (hg2.block _ (by simp; omega) (fun e => GN _ e.symm rfl))
               have d0 := whole_cell W2 0
               have g0 := whole_free W2 0
               simp at d0
               have HR2 := Lib.hid hr2
               have HW2 := Lib.hid W2
               have HG2 := Lib.hid hg2
               have HAT := Lib.hid hat
               obtain ⟨_, C, e, rfl, _⟩ := prow_its hr2
               clear hg2 hat hr2 W2 GN)
  go_end0
  have L1 : (Q ++ [(⟨k, v⟩ : It)]).length = Q.length + 1 := by simp
  rw [L1] at HR2 HAT
  have zz : w.heap.size + 1 ≤ w2.heap.size := by have := HG2.out.size; simpa using this
  have nb : ∀ b, b < w.heap.size → b ≠ G → u ≠ some b → (w2.setCell ⟨G, 0, none⟩ (.slice C (Q.length + 1) e)).heap[b]? = w.heap[b]? := fun b h1 h2 h3 => by
    rw [Below.heap_setCell _ _ _ _ (by show b ≠ G; exact h2), HG2.out.block b (by simp; omega) (fun q => h3 (HU.out.symm.trans q.symm)), Below.heap_alloc _ _ _ h1]
  have ni : ∀ g, (Value.slice C (Q.length + 1) e).ownBlock = some g → g ≠ G := fun g hg q => by have := prow_lt HR2.out g hg; omega
  refine ⟨rfl, ⟨HG2.out.os, HG2.out.tape, HG2.out.output, by simp; omega, fun b h1 h2 => nb b h1 (fun q => h2 (.inl q)) (fun q => h2 (.inr q))⟩, _, ⟨C, _, e, whole_set HW2.out 0 _, irow_keep (prow_irow HR2.out) (fun g hg => Below.heap_setCell _ _ _ _ (by show g ≠ G; exact ni g hg)), rfl⟩, ?_⟩
  rcases HAT.out with q | q
  · exact .inl (q.trans HU.out)
  · exact .inr ⟨_, q, by simp⟩

set_option maxRecDepth 100000 in
set_option maxHeartbeats 800000 in
theorem isItem_any (k : Int) (w : World) :
    Calls Try.prog 66 #[.int .i64 k] w fun e w' => e = .returned (.bool (decide (k = 1) || decide (k = 2) || decide (k = 13))) ∧ w = w' := by
  by_cases h1 : k = 1
  · subst h1
    go_enter Try.func66, Try.ntmps66
    go_wp2
    go_ret
    exact ⟨rfl, rfl⟩
  by_cases h2 : k = 2
  · subst h2
    go_enter Try.func66, Try.ntmps66
    go_wp2
    go_ret
    exact ⟨rfl, rfl⟩
  by_cases h3 : k = 13
  · subst h3
    go_enter Try.func66, Try.ntmps66
    go_wp2
    go_ret
    exact ⟨rfl, rfl⟩
  have q1 : (k == 1) = false := by simp [h1]
  have q2 : (k == 2) = false := by simp [h2]
  have q3 : (k == 13) = false := by simp [h3]
  have E : Hid ((decide (k = 1) || decide (k = 2) || decide (k = 13)) = false) := Lib.hid (by simp [h1, h2, h3])
  clear h1 h2 h3
  go_enter Try.func66, Try.ntmps66
  go_wp2
  go_ret
  exact ⟨ret_bool E.out.symm, rfl⟩

end Go.Proofs.Ytafhmajnkicifaa
