/- What holds of every primitive: what a throw, or a full stack, leaves of the data; valid data stay valid. -/
import Derived.Test.YtjlfbmplmddceaaPrmA
namespace Go.Proofs.Ytjlfbmplmddceaa
open Go.RowKit
set_option linter.unusedVariables false
set_option linter.unusedSimpArgs false

theorem fifty {p : Nat} (h1 : 1 ≤ p) (h2 : p ≤ 52) : p = 1 ∨ p = 2 ∨ p = 3 ∨ p = 4 ∨ p = 5 ∨ p = 6 ∨ p = 7 ∨ p = 8 ∨ p = 9 ∨ p = 10 ∨ p = 11 ∨ p = 12 ∨ p = 13 ∨ p = 14 ∨ p = 15 ∨ p = 16 ∨ p = 17 ∨ p = 18 ∨ p = 19 ∨ p = 20 ∨ p = 21 ∨ p = 22 ∨ p = 23 ∨ p = 24 ∨ p = 25 ∨ p = 26 ∨ p = 27 ∨ p = 28 ∨ p = 29 ∨ p = 30 ∨ p = 31 ∨ p = 32 ∨ p = 33 ∨ p = 34 ∨ p = 35 ∨ p = 36 ∨ p = 37 ∨ p = 38 ∨ p = 39 ∨ p = 40 ∨ p = 41 ∨ p = 42 ∨ p = 43 ∨ p = 44 ∨ p = 45 ∨ p = 46 ∨ p = 47 ∨ p = 48 ∨ p = 49 ∨ p = 50 ∨ p = 51 ∨ p = 52 := by omega

/-- What every effect keeps to. -/
structure EffOk (d : Dt) (p : Nat) (r : Dt × List Int × Int) : Prop where
  throw : r.2.2 ≠ 0 → r.1 = d
  more : takesP p < r.2.1.length → r.1 = d
  stack : r.1.s = d.s
  short : r.2.1.length ≤ 4
  back : d.b.length ≤ r.1.b.length ∧ (d.b.length ≤ 32 → r.1.b.length ≤ 32)

theorem ok_same (d : Dt) (p : Nat) (L : List Int) (t : Int) (h : L.length ≤ 4) : EffOk d p (d, L, t) := ⟨fun _ => rfl, fun _ => rfl, rfl, h, Nat.le_refl _, fun h => h⟩

theorem ok_say (d : Dt) (p : Nat) (s : ByteArray) : EffOk d p (sayE d s) := by
  unfold sayE; split
  · exact ok_same d p _ _ (by simp)
  · exact ⟨fun h => absurd rfl h, fun h => absurd h (by simp), rfl, by simp, Nat.le_refl _, fun h => h⟩

theorem ok_op (d : Dt) (p : Nat) (op b c : Int) : EffOk d p (opE d op b c) := by
  unfold opE
  by_cases h2 : twoR op c = true
  · rw [if_pos h2]; exact ok_same d _ _ _ (by simp)
  · rw [if_neg h2]; exact ok_same d _ _ _ (by simp)

theorem eff_ok (d : Dt) (p : Nat) (h1 : 1 ≤ p) (h2 : p ≤ 52) : EffOk d p (eff d p) := by
  rcases fifty h1 h2 with rfl | rfl | rfl | rfl | rfl | rfl | rfl | rfl | rfl | rfl | rfl | rfl | rfl | rfl | rfl | rfl | rfl | rfl | rfl | rfl | rfl | rfl | rfl | rfl | rfl | rfl | rfl | rfl | rfl | rfl | rfl | rfl | rfl | rfl | rfl | rfl | rfl | rfl | rfl | rfl | rfl | rfl | rfl | rfl | rfl | rfl | rfl | rfl | rfl | rfl | rfl | rfl
  case inr.inr.inr.inr.inr.inr.inr.inl => 
    show EffOk d 8 (d, (if tp d 0 = 0 then [0] else [tp d 0, tp d 0]), 0)
    refine ok_same d 8 _ _ ?_
    split <;> simp
  all_goals first
    | exact ok_same d _ _ _ (by simp)
    | exact ok_say d _ _
    | exact ok_op d _ _ _ _
    | (show EffOk d _ (backE d _); unfold backE; split
       · exact ⟨fun h => absurd rfl h, fun h => absurd h (by simp), rfl, by simp, by simp, fun _ => by simp; omega⟩
       · exact ok_same d _ _ _ (by simp))
    | (show EffOk d _ (fetchE d _); unfold fetchE; split <;> exact ok_same d _ _ _ (by simp))
    | (show EffOk d _ (storeE d _ _); unfold storeE; split
       · exact ok_same d _ _ _ (by simp)
       · exact ⟨fun h => absurd rfl h, fun h => absurd h (by simp), rfl, by simp, Nat.le_refl _, fun h => h⟩)
    | (show EffOk d _ (addE d _ _); unfold addE; split
       · exact ok_same d _ _ _ (by simp)
       · exact ⟨fun h => absurd rfl h, fun h => absurd h (by simp), rfl, by simp, Nat.le_refl _, fun h => h⟩)
    | (show EffOk d _ (allotE d _); unfold allotE; split
       · exact ⟨fun h => absurd rfl h, fun h => absurd h (by simp), rfl, by simp, Nat.le_refl _, fun h => h⟩
       · exact ok_same d _ _ _ (by simp))
    | (show EffOk d _ (commaE d _); unfold commaE; split
       · exact ⟨fun h => absurd rfl h, fun h => absurd h (by simp), rfl, by simp, Nat.le_refl _, fun h => h⟩
       · exact ok_same d _ _ _ (by simp))
    | (show EffOk d _ ({ d with n := 10 }, [], 0); exact ⟨fun h => absurd rfl h, fun h => absurd h (by simp), rfl, by simp, Nat.le_refl _, fun h => h⟩)
    | (show EffOk d _ ({ d with n := 16 }, [], 0); exact ⟨fun h => absurd rfl h, fun h => absurd h (by simp), rfl, by simp, Nat.le_refl _, fun h => h⟩)

theorem drops_needs (p : Nat) : dropsP p ≤ needsP p := by unfold dropsP needsP; split <;> (try split) <;> (try split) <;> omega

/-- What an effect leaves is valid. -/
structure EffFine (r : Dt × List Int × Int) : Prop where
  data : DtFine r.1
  cells : ∀ n ∈ r.2.1, cellB n = true

theorem cellsB_of {l : List Int} (h : ∀ n ∈ l, cellB n = true) : cellsB l = true := List.all_eq_true.2 h

theorem fine_list {d : Dt} (h : DtFine d) (L : List Int) (t : Int) (hL : ∀ n ∈ L, cellB n = true) : EffFine (d, L, t) := ⟨h, hL⟩

theorem one_cell {n : Int} (h : cellB n = true) : ∀ m ∈ [n], cellB m = true := fun m hm => by simp at hm; subst hm; exact h

theorem flag_cell (b : Bool) : cellB (flagI b) = true := by cases b <;> rfl

theorem wrap_cell' (n : Int) : cellB (wrap32 n) = true := cellB_true.2 (wrap32_cell n)

theorem fine_say {d : Dt} (h : DtFine d) (s : ByteArray) : EffFine (sayE d s) := by
  unfold sayE; split
  · exact fine_list h _ _ (by simp)
  · refine ⟨⟨h.1, h.2.1, h.2.2.1, h.2.2.2.1, h.2.2.2.2.1, h.2.2.2.2.2.1, h.2.2.2.2.2.2.1, h.2.2.2.2.2.2.2.1, h.2.2.2.2.2.2.2.2.1, ?_⟩, by simp⟩
    show (d.o ++ s).size ≤ 300
    rw [ByteArray.size_append]; omega

theorem fine_cells' {d : Dt} (h : DtFine d) {c : List Int} {hh : Int} (hl : c.length = 32) (hc : cellsB c = true) (h0 : 0 ≤ hh) (h1 : hh ≤ 32) : DtFine { d with c := c, h := hh } :=
  ⟨h.1, h.2.1, hl, h.2.2.2.1, h.2.2.2.2.1, hc, h0, h1, h.2.2.2.2.2.2.2.2.1, h.2.2.2.2.2.2.2.2.2⟩

theorem cells_set {c : List Int} (h : cellsB c = true) (k : Nat) {n : Int} (hn : cellB n = true) : cellsB (c.set k n) = true :=
  cellsB_of fun m hm => by
    rcases List.mem_or_eq_of_mem_set hm with h2 | h2
    · exact cellsB_at h h2
    · rw [h2]; exact hn

theorem cells_zero {c : List Int} (h : cellsB c = true) (a k : Nat) : cellsB (zeroN c a k) = true :=
  cellsB_of fun m hm => by
    unfold zeroN at hm
    simp only [List.mem_append, List.mem_replicate] at hm
    rcases hm with h2 | ⟨_, rfl⟩ | h2
    · exact cellsB_at h (List.mem_of_mem_take h2)
    · rfl
    · exact cellsB_at h (List.mem_of_mem_drop h2)

theorem getD_cell {c : List Int} (h : cellsB c = true) (k : Nat) : cellB (c.getD k 0) = true := by
  rcases Nat.lt_or_ge k c.length with hk | hk
  · have e : c.getD k 0 = c[k] := by simp [hk]
    rw [e]; exact cellsB_at h (List.getElem_mem hk)
  · have e : c.getD k 0 = 0 := by simp [hk]
    rw [e]; rfl

theorem last_cell {c : List Int} (h : cellsB c = true) : cellB (c.getLastD 0) = true := by
  rw [List.getLastD_eq_getLast?]
  cases e : c.getLast? with
  | none => rfl
  | some x => exact cellsB_at h (List.mem_of_getLast? e)

theorem fine_allot {d : Dt} (h : DtFine d) (n : Int) : EffFine (allotE d n) := by
  unfold allotE; split
  · rename_i hg
    obtain ⟨g1, g2, g3⟩ := hg
    have q0 := fine_h0 h; have q1 := fine_h1 h; have q2 := fine_cl h
    exact ⟨fine_cells' h (by rw [zeroN_len (by omega)]; exact q2) (cells_zero (fine_cc h) _ _) g2 g3, by simp⟩
  · exact fine_list h _ _ (by simp)

theorem fine_comma {d : Dt} (h : DtFine d) {x : Int} (hx : cellB x = true) : EffFine (commaE d x) := by
  unfold commaE; split
  · rename_i hg
    obtain ⟨g1, g2, g3⟩ := hg
    have q0 := fine_h0 h; have q2 := fine_cl h
    have e : (4 : Int).tdiv 4 = 1 := rfl
    rw [e] at g2 g3
    exact ⟨fine_cells' h (by rw [List.length_set, zeroN_len (by omega)]; exact q2) (cells_set (cells_zero (fine_cc h) _ _) _ hx) (by omega) g3, by simp⟩
  · exact fine_list h _ _ (by simp)

theorem fine_back {d : Dt} (h : DtFine d) {x : Int} (hx : cellB x = true) : EffFine (backE d x) := by
  unfold backE; split
  · refine ⟨⟨h.1, by simp; omega, h.2.2.1, h.2.2.2.1, cellsB_of fun m hm => ?_, h.2.2.2.2.2.1, h.2.2.2.2.2.2.1, h.2.2.2.2.2.2.2.1, h.2.2.2.2.2.2.2.2.1, h.2.2.2.2.2.2.2.2.2⟩, by simp⟩
    simp only [List.mem_append, List.mem_singleton] at hm
    rcases hm with h2 | rfl
    · exact cellsB_at (fine_bc h) h2
    · exact hx
  · exact fine_list h _ _ (by simp)

theorem fine_setc {d : Dt} (h : DtFine d) (k : Nat) {n : Int} (hn : cellB n = true) : DtFine { d with c := d.c.set k n } :=
  fine_cells' (hh := d.h) h (by rw [List.length_set]; exact fine_cl h) (cells_set (fine_cc h) k hn) (fine_h0 h) (fine_h1 h)

theorem fine_base {d : Dt} (h : DtFine d) (n : Int) (hn : baseB n = true) : EffFine ({ d with n := n }, [], 0) :=
  ⟨⟨h.1, h.2.1, h.2.2.1, h.2.2.2.1, h.2.2.2.2.1, h.2.2.2.2.2.1, h.2.2.2.2.2.2.1, h.2.2.2.2.2.2.2.1, hn, h.2.2.2.2.2.2.2.2.2⟩, by simp⟩

theorem eff_opc (d : Dt) (p : Nat) (h1 : 15 ≤ p) (h2 : p ≤ 24) : eff d p = opE d ((p : Int) - 14) (tp d 1) (tp d 0) := by
  have h : p = 15 ∨ p = 16 ∨ p = 17 ∨ p = 18 ∨ p = 19 ∨ p = 20 ∨ p = 21 ∨ p = 22 ∨ p = 23 ∨ p = 24 := by omega
  rcases h with rfl | rfl | rfl | rfl | rfl | rfl | rfl | rfl | rfl | rfl <;> rfl

theorem fine_op {d : Dt} (h : DtFine d) (op : Int) {b c : Int} (hb : -2147483648 ≤ b ∧ b ≤ 2147483647) (hc : -2147483648 ≤ c ∧ c ≤ 2147483647) : EffFine (opE d op b c) := by
  unfold opE
  by_cases h2 : twoR op c = true
  · rw [if_pos h2]; exact fine_list h _ _ (one_cell (cellB_true.2 (twoW_cell _ _ _ hb hc)))
  · rw [if_neg h2]; exact fine_list h _ _ (by simp)

theorem eff_fine {d : Dt} (h : DtFine d) (p : Nat) (h1 : 1 ≤ p) (h2 : p ≤ 52) : EffFine (eff d p) := by
  have a := cellB_true.2 (tp_cell h 2)
  have b := cellB_true.2 (tp_cell h 1)
  have c := cellB_true.2 (tp_cell h 0)
  have b' := tp_cell h 1
  have c' := tp_cell h 0
  have l1 := fine_sl h
  have l2 := fine_h0 h
  have l3 := fine_h1 h
  rcases fifty h1 h2 with rfl | rfl | rfl | rfl | rfl | rfl | rfl | rfl | rfl | rfl | rfl | rfl | rfl | rfl | rfl | rfl | rfl | rfl | rfl | rfl | rfl | rfl | rfl | rfl | rfl | rfl | rfl | rfl | rfl | rfl | rfl | rfl | rfl | rfl | rfl | rfl | rfl | rfl | rfl | rfl | rfl | rfl | rfl | rfl | rfl | rfl | rfl | rfl | rfl | rfl | rfl | rfl
  all_goals first
    | (refine fine_list h _ _ (one_cell ?_); first | exact flag_cell _ | exact wrap_cell' _ | exact last_cell (fine_bc h) | exact c | (apply cellB_true.2; omega))
    | (refine fine_list h _ _ (show ∀ n ∈ (if tp d 0 = 0 then [0] else [tp d 0, tp d 0]), cellB n = true from ?_)
       split
       · exact one_cell rfl
       · intro n hn; simp only [List.mem_cons, List.not_mem_nil, or_false] at hn; rcases hn with rfl | rfl <;> exact c)
    | (refine fine_list h _ _ (fun n hn => ?_); simp only [List.mem_cons, List.not_mem_nil, or_false] at hn; first | (rcases hn with rfl | rfl | rfl | rfl <;> assumption) | (rcases hn with rfl | rfl | rfl <;> assumption) | (rcases hn with rfl | rfl <;> assumption) | exact hn.elim)
    | exact fine_say h _
    | exact fine_list h _ _ (fun n hn => absurd hn (List.not_mem_nil))
    | (rw [eff_opc d _ (by decide) (by decide)]; exact fine_op h _ b' c')
    | exact fine_back h c
    | (show EffFine (fetchE d _); unfold fetchE; split
       · exact fine_list h _ _ (one_cell rfl)
       · exact fine_list h _ _ (one_cell (getD_cell (fine_cc h) _)))
    | (show EffFine (storeE d _ _); unfold storeE; split
       · exact fine_list h _ _ (by simp)
       · exact ⟨fine_setc h _ b, by simp⟩)
    | (show EffFine (addE d _ _); unfold addE; split
       · exact fine_list h _ _ (by simp)
       · exact ⟨fine_setc h _ (wrap_cell' _), by simp⟩)
    | exact fine_allot h _
    | exact fine_comma h c
    | exact fine_base h 10 rfl
    | exact fine_base h 16 rfl

theorem prim_fine {d : Dt} (h : DtFine d) (p : Nat) (f : Int) (h1 : 1 ≤ p) (h2 : p ≤ 52) : DtFine (dPrim d p f).1 := by
  have F := eff_fine h p h1 h2
  have K := eff_ok d p h1 h2
  unfold dPrim
  split
  · exact h
  split
  · exact h
  unfold finE
  split
  · exact h
  split
  · exact h
  · rename_i h3 h4
    have G := F.data
    refine ⟨?_, ?_, G.2.2.1, cellsB_of fun m hm => ?_, cellsB_of fun m hm => cellsB_at (fine_bc G) (List.mem_of_mem_take hm), G.2.2.2.2.2.1, G.2.2.2.2.2.2.1, G.2.2.2.2.2.2.2.1, G.2.2.2.2.2.2.2.2.1, G.2.2.2.2.2.2.2.2.2⟩
    · show (d.s.take (d.s.length - takesP p) ++ (eff d p).2.1).length ≤ 32
      rw [List.length_append, List.length_take]; omega
    · show ((eff d p).1.b.take _).length ≤ 32
      rw [List.length_take]; have := fine_bl G; omega
    · have hm' : m ∈ d.s.take (d.s.length - takesP p) ++ (eff d p).2.1 := hm
      rcases List.mem_append.1 hm' with h5 | h5
      · exact cellsB_at (fine_sc h) (List.mem_of_mem_take h5)
      · exact F.cells m h5

end Go.Proofs.Ytjlfbmplmddceaa
