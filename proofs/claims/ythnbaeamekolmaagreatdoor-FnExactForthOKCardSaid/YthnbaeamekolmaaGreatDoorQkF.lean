/- QkF: several of my texts, laid together: DfM, FoM, DfA, DfB, DfC, FoA, DfD, DfE. -/
import Derived.Test.YthnbaeamekolmaaGreatDoorCmM
import Derived.Test.YthnbaeamekolmaaGreatDoorQkA
import Derived.Test.YthnbaeamekolmaaGreatDoorQkE
import Derived.Test.YthnbaeamekolmaaGreatDoorUpB
import Derived.Test.YthnbaeamekolmaaGreatDoorQkC
import Derived.Deep.RegionHeld3
import Derived.Test.YthnbaeamekolmaaGreatDoorQkD
import Derived.Deep.MidRow
namespace Go.Proofs.YthnbaeamekolmaaGreatDoor
open Go.RowKit
set_option linter.unusedVariables false
set_option linter.unusedSimpArgs false

/-- A definition: its word, its items. -/
structure Df where
  w : Int
  q : List It

/-- The word with a number. -/
def wordD (M : Mc) (n : Int) : Wd := M.w.getD (n - 1).toNat ⟨⟨#[]⟩, 0, 0⟩

/-- The code of items. -/
def codeD (a s : Int) (Q : List It) : List Int := (runC a s Q).1 ++ [53]

/-- A definition's code stands at its word's address. -/
def HasD (M : Mc) (d : Df) : Prop :=
  (chkI d.q).2 = 0 ∧ (wordD M d.w).v + (codeD (wordD M d.w).v d.w d.q).length ≤ M.k.length ∧ (M.k.drop (wordD M d.w).v.toNat).take (codeD (wordD M d.w).v d.w d.q).length = codeD (wordD M d.w).v d.w d.q

/-- A number of a word of a script that is run. -/
def Colon (M : Mc) (n : Int) : Prop := 84 ≤ n ∧ n ≤ M.w.length ∧ (wordD M n).k = 6

/-- How many of the first i words are run, behind the kernel. -/
def cntD (Q : List Wd) (i : Nat) : Nat := ((Q.take i).drop 83).countP (fun x => x.k == 6)

/-- The definitions are the machine's, as the specification asks. -/
def SpecD (M : Mc) (L : List Df) : Prop :=
  L.length ≤ 20 ∧ (∀ j (hj : j < L.length), (Colon M L[j].w ∧ HasD M L[j]) ∧ ∀ h0 : 0 < j, L[j - 1].w < L[j].w) ∧ cntD M.w M.w.length = L.length

/-- The same, word by word. -/
def GoD (M : Mc) : List Wd → Nat → List Df → Prop
  | [], _, R => R = []
  | x :: xs, i, R => if x.k = 6 then ∃ d ds, R = d :: ds ∧ d.w = i + 1 ∧ HasD M d ∧ GoD M xs (i + 1) ds else GoD M xs (i + 1) R

/-- The numbers of the words that are run. -/
def colsD : List Wd → Nat → List Int
  | [], _ => []
  | x :: xs, i => if x.k = 6 then ((i : Int) + 1) :: colsD xs (i + 1) else colsD xs (i + 1)

theorem go_iff (M : Mc) (xs : List Wd) (i : Nat) (R : List Df) : GoD M xs i R ↔ R.map (·.w) = colsD xs i ∧ ∀ d ∈ R, HasD M d := by
  induction xs generalizing i R with
  | nil => unfold GoD colsD; constructor
           · rintro rfl; exact ⟨rfl, by simp⟩
           · rintro ⟨h, _⟩; simpa using h
  | cons x xs ih =>
    unfold GoD colsD
    by_cases hx : x.k = 6
    · rw [if_pos hx, if_pos hx]
      constructor
      · rintro ⟨d, ds, rfl, h1, h2, h3⟩
        obtain ⟨h4, h5⟩ := (ih _ _).1 h3
        exact ⟨by rw [List.map_cons, h1, h4], fun e he => (List.mem_cons.1 he).elim (fun q => q ▸ h2) (h5 e)⟩
      · rintro ⟨h1, h2⟩
        cases R with
        | nil => cases h1
        | cons d ds =>
          rw [List.map_cons] at h1
          injection h1 with h3 h4
          exact ⟨d, ds, rfl, h3, h2 d (by simp), (ih _ _).2 ⟨h4, fun e he => h2 e (by simp [he])⟩⟩
    · rw [if_neg hx, if_neg hx]; exact ih _ _

theorem mem_cols (xs : List Wd) (i : Nat) (n : Int) : n ∈ colsD xs i ↔ ∃ j, ∃ hj : j < xs.length, n = i + j + 1 ∧ xs[j].k = 6 := by
  induction xs generalizing i with
  | nil => simp [colsD]
  | cons x xs ih =>
    have step : n ∈ colsD xs (i + 1) ↔ ∃ j, ∃ hj : j < xs.length, n = i + ((j + 1 : Nat) : Int) + 1 ∧ xs[j].k = 6 := by
      rw [ih]
      constructor
      · rintro ⟨j, hj, e, hk⟩; exact ⟨j, hj, by omega, hk⟩
      · rintro ⟨j, hj, e, hk⟩; exact ⟨j, hj, by omega, hk⟩
    unfold colsD
    constructor
    · intro h
      by_cases hx : x.k = 6
      · rw [if_pos hx] at h
        rcases List.mem_cons.1 h with rfl | h
        · exact ⟨0, by simp, by simp, hx⟩
        · obtain ⟨j, hj, e, hk⟩ := step.1 h
          exact ⟨j + 1, by simp; omega, e, by simpa using hk⟩
      · rw [if_neg hx] at h
        obtain ⟨j, hj, e, hk⟩ := step.1 h
        exact ⟨j + 1, by simp; omega, e, by simpa using hk⟩
    · rintro ⟨j, hj, e, hk⟩
      cases j with
      | zero =>
        have hx : x.k = 6 := by simpa using hk
        rw [if_pos hx]
        simp at e
        simp [e]
      | succ j =>
        have h : n ∈ colsD xs (i + 1) := step.2 ⟨j, by simp at hj; omega, e, by simpa using hk⟩
        split
        · exact List.mem_cons_of_mem _ h
        · exact h

theorem cols_up (xs : List Wd) (i : Nat) : (colsD xs i).Pairwise (· < ·) := by
  induction xs generalizing i with
  | nil => simp [colsD]
  | cons x xs ih =>
    unfold colsD
    split
    · refine List.pairwise_cons.2 ⟨fun n hn => ?_, ih _⟩
      obtain ⟨j, _, e, _⟩ := (mem_cols xs (i + 1) n).1 hn
      omega
    · exact ih _

theorem cols_len (xs : List Wd) (i : Nat) : (colsD xs i).length = xs.countP (fun x => x.k == 6) := by
  induction xs generalizing i with
  | nil => rfl
  | cons x xs ih =>
    unfold colsD
    by_cases hx : x.k = 6
    · rw [if_pos hx, List.length_cons, ih, List.countP_cons_of_pos (by simpa using hx)]
    · rw [if_neg hx, ih, List.countP_cons_of_neg (by simpa using hx)]

theorem up_sub {a b : List Int} (ha : a.Pairwise (· < ·)) (hb : b.Pairwise (· < ·)) (h : ∀ x ∈ a, x ∈ b) : a.Sublist b := by
  induction b generalizing a with
  | nil =>
    cases a with
    | nil => exact List.Sublist.refl _
    | cons x s => exact absurd (h x (by simp)) (by simp)
  | cons y t ih =>
    cases a with
    | nil => exact List.nil_sublist _
    | cons x s =>
      obtain ⟨a1, a2⟩ := List.pairwise_cons.1 ha
      obtain ⟨b1, b2⟩ := List.pairwise_cons.1 hb
      by_cases e : x = y
      · subst e
        refine List.Sublist.cons_cons _ (ih a2 b2 fun z hz => ?_)
        rcases List.mem_cons.1 (h z (by simp [hz])) with rfl | q
        · exact absurd (a1 _ hz) (by omega)
        · exact q
      · have hx : x ∈ t := by
          rcases List.mem_cons.1 (h x (by simp)) with q | q
          · exact absurd q e
          · exact q
        refine List.Sublist.cons _ (ih ha b2 fun z hz => ?_)
        rcases List.mem_cons.1 (h z hz) with rfl | q
        · rcases List.mem_cons.1 hz with rfl | hz
          · exact absurd rfl e
          · have := a1 _ hz; have := b1 _ hx; omega
        · exact q

theorem kern_no6 : ∀ x ∈ kernW, x.k ≠ 6 := by decide +kernel

theorem dict_parts {Q : List Wd} (h : dictB Q = true) : Q.length ≤ 103 ∧ 83 ≤ Q.length ∧ (∀ j (hj : j < Q.length), j < 83 → Q[j].k ≠ 6) ∧ ∀ j (hj : j < Q.length), Q[j].k = 6 → 0 ≤ Q[j].v ∧ Q[j].v ≤ 399 := by
  unfold dictB kernB at h
  simp only [Bool.and_eq_true, decide_eq_true_eq] at h
  obtain ⟨⟨h1, h2⟩, h3⟩ := h
  have hl : 83 ≤ Q.length := by
    have := congrArg List.length h2
    rw [List.length_take] at this
    have e : kernW.length = 83 := by unfold kernW; simp
    omega
  have hk : ∀ j (hj : j < Q.length), j < 83 → Q[j].k ≠ 6 := fun j hj h83 => by
    refine kern_no6 _ ?_
    rw [← h2]
    exact List.mem_take_iff_getElem.2 ⟨j, by omega, rfl⟩
  refine ⟨h1, hl, hk, fun j hj h6 => ?_⟩
  have hj83 : 83 ≤ j := by
    rcases Nat.lt_or_ge j 83 with q | q
    · exact absurd h6 (hk j hj q)
    · exact q
  have hm : Q[j] ∈ Q.drop 83 := List.mem_drop_iff_getElem.2 ⟨j - 83, by omega, by congr 1; omega⟩
  have hu := List.all_eq_true.1 h3 _ hm
  unfold userB valB at hu
  simp only [Bool.and_eq_true] at hu
  have := hu.2
  rw [if_pos h6] at this
  unfold inB at this
  simp at this
  omega

theorem cnt_all {Q : List Wd} (h : dictB Q = true) : cntD Q Q.length = Q.countP (fun x => x.k == 6) := by
  obtain ⟨_, h1, h2, _⟩ := dict_parts h
  unfold cntD
  rw [List.take_length]
  have e : (Q.take 83).countP (fun x => x.k == 6) = 0 := by
    rw [List.countP_eq_zero]
    intro x hx
    obtain ⟨j, hj, rfl⟩ := List.mem_take_iff_getElem.1 hx
    simpa using h2 j (by omega) (by omega)
  have := congrArg (List.countP (fun x : Wd => x.k == 6)) (List.take_append_drop 83 Q)
  rw [List.countP_append, e] at this
  omega

theorem colon_iff {M : Mc} (h : dictB M.w = true) (n : Int) : Colon M n ↔ n ∈ colsD M.w 0 := by
  obtain ⟨_, h1, h2, _⟩ := dict_parts h
  rw [mem_cols]
  unfold Colon wordD
  constructor
  · rintro ⟨a, b, c⟩
    refine ⟨(n - 1).toNat, by omega, by omega, ?_⟩
    rw [List.getD_eq_getElem?_getD, List.getElem?_eq_getElem (by omega)] at c
    exact c
  · rintro ⟨j, hj, e, hk⟩
    have h83 : ¬ j < 83 := fun q => h2 j hj q hk
    have ej : (n - 1).toNat = j := by omega
    refine ⟨by omega, by omega, ?_⟩
    rw [ej, List.getD_eq_getElem?_getD, List.getElem?_eq_getElem hj]
    exact hk

theorem specD_iff {M : Mc} (h : dictB M.w = true) (L : List Df) : GoD M M.w 0 L ↔ SpecD M L := by
  obtain ⟨h0, h1, h2, _⟩ := dict_parts h
  rw [go_iff]
  constructor
  · rintro ⟨e, hh⟩
    have hlen : L.length = (colsD M.w 0).length := by rw [← e, List.length_map]
    have hup := cols_up M.w 0
    rw [← e] at hup
    have hc := cnt_all h
    refine ⟨?_, fun j hj => ⟨⟨?_, hh _ (List.getElem_mem hj)⟩, fun hj0 => ?_⟩, ?_⟩
    · rw [hlen, cols_len, ← hc]
      unfold cntD
      refine Nat.le_trans List.countP_le_length ?_
      rw [List.length_drop, List.length_take]; omega
    · rw [colon_iff h, ← e]
      exact List.mem_map.2 ⟨_, List.getElem_mem hj, rfl⟩
    · have := List.pairwise_iff_getElem.1 hup (j - 1) j (by simp; omega) (by simpa using hj) (by omega)
      simpa using this
    · rw [hc, hlen, cols_len]
  · rintro ⟨a, b, c⟩
    have hup : (L.map (·.w)).Pairwise (· < ·) := by
      rw [List.pairwise_iff_getElem]
      intro i j hi hj hij
      simp only [List.length_map] at hi hj
      simp only [List.getElem_map]
      induction j with
      | zero => omega
      | succ j ih =>
        have s := (b (j + 1) hj).2 (by omega)
        simp only [Nat.add_sub_cancel] at s
        rcases Nat.lt_or_ge i j with q | q
        · exact Int.lt_trans (ih (by simp; omega) q (by omega)) s
        · have : i = j := by omega
          subst this; exact s
    refine ⟨(up_sub hup (cols_up M.w 0) fun x hx => ?_).eq_of_length ?_, fun d hd => ?_⟩
    · obtain ⟨d, hd, rfl⟩ := List.mem_map.1 hx
      obtain ⟨j, hj, rfl⟩ := List.mem_iff_getElem.1 hd
      exact (colon_iff h _).1 (b j hj).1.1
    · rw [List.length_map, cols_len, ← cnt_all h, c]
    · obtain ⟨j, hj, rfl⟩ := List.mem_iff_getElem.1 hd
      exact (b j hj).1.2

open Classical in
/-- DefsOK. -/
noncomputable def dfOK (M : Mc) (L : List Df) : Bool := mOK M && decide (SpecD M L)

end Go.Proofs.YthnbaeamekolmaaGreatDoor

namespace Go.Proofs.YthnbaeamekolmaaGreatDoor
open Go.RowKit
set_option linter.unusedVariables false
set_option linter.unusedSimpArgs false

/-- A Forth: its machine, its definitions, whether one is open, its name, its items. -/
structure Fo where
  m : Mc
  l : List Df
  c : Bool
  n : ByteArray
  q : List It

/-- No word among the items is no token. -/
def ToksP (W : List Wd) (Q : List It) : Prop := ∀ x ∈ Q, x.k = 1 → tokB W x.v = true

/-- The open definition is valid. -/
def OpenP (W : List Wd) (n : ByteArray) (Q : List It) : Prop := wordL n.data.toList = true ∧ askI Q = 0 ∧ (goO Q []).1 = Q.length ∧ ToksP W Q

/-- What the state asks of name and items. -/
def StateP (F : Fo) : Prop := (F.c = true ∧ OpenP F.m.w F.n F.q) ∨ (F.c = false ∧ F.n = ⟨#[]⟩ ∧ F.q = [])

/-- The Forth is valid. -/
def FoP (F : Fo) : Prop := F.m.c.length = 0 ∧ (mOK F.m = true ∧ SpecD F.m F.l) ∧ StateP F

theorem foP_iff {F : Fo} (h0 : F.m.c.length = 0) (hd : mOK F.m = true ∧ SpecD F.m F.l) : FoP F ↔ StateP F := ⟨fun h => h.2.2, fun h => ⟨h0, hd, h⟩⟩

theorem state_open {F : Fo} (hc : F.c = true) : StateP F ↔ OpenP F.m.w F.n F.q := by
  unfold StateP
  constructor
  · rintro (⟨_, h⟩ | ⟨h, _⟩)
    · exact h
    · rw [hc] at h; cases h
  · exact fun h => .inl ⟨hc, h⟩

theorem state_shut {F : Fo} (hc : F.c = false) : StateP F ↔ F.n = ⟨#[]⟩ ∧ F.q = [] := by
  unfold StateP
  constructor
  · rintro (⟨h, _⟩ | ⟨_, h⟩)
    · rw [hc] at h; cases h
    · exact h
  · exact fun h => .inr ⟨hc, h⟩

/-- The first so many items fit and are tokens where they are words. -/
def ToksTo (W : List Wd) (Q : List It) (k : Nat) : Prop := ∀ j, ∀ h : j < Q.length, j < k → Q[j].k = 1 → tokB W Q[j].v = true

theorem toks_start (W : List Wd) (Q : List It) : ToksTo W Q 0 := fun j h hj => absurd hj (Nat.not_lt_zero _)

theorem toks_next {W : List Wd} {Q : List It} {k : Nat} (h : ToksTo W Q k) (hk : k < Q.length) (e : Q[k].k = 1 → tokB W Q[k].v = true) : ToksTo W Q (k + 1) := fun j hj hjk => by
  by_cases q : j = k
  · subst q; exact e
  · exact h j hj (by omega)

theorem toks_end {W : List Wd} {Q : List It} (h : ToksTo W Q Q.length) : ToksP W Q := fun x hx => by
  obtain ⟨j, hj, rfl⟩ := List.mem_iff_getElem.1 hx
  exact h j hj hj

theorem toks_not {W : List Wd} {Q : List It} {k : Nat} (hk : k < Q.length) (h1 : Q[k].k = 1) (e : tokB W Q[k].v = false) : ¬ ToksP W Q := fun h => by
  have := h Q[k] (List.getElem_mem hk) h1
  rw [e] at this; cases this

end Go.Proofs.YthnbaeamekolmaaGreatDoor

namespace Go.Proofs.YthnbaeamekolmaaGreatDoor
open Go.Joins Go.ChangeShapes Go.WideShapes Go.RowKit Go.Deep Go.ChangeAt
set_option linter.unusedVariables false
set_option linter.unusedSimpArgs false

/-- The two cells of a definition, from an address on. -/
def DfAt (w : World) (a : Addr) (D : Df) : Prop := w.cell? a = some (.int .i64 D.w) ∧ ∃ u, w.cell? ⟨a.block, a.off + 1, none⟩ = some u ∧ Its w u D.q

/-- A slice of definitions that reads so. -/
def Dfs (w : World) (v : Value) (L : List Df) : Prop :=
  L.length ≤ maxLen ∧ ∃ A cap, v = .slice A L.length cap ∧ (0 < L.length → ∃ ad, A = some ad ∧ ∀ k (h : k < L.length), DfAt w (ad.add (k * 2)) L[k])

theorem dfAt_keep {w w' : World} {a : Addr} {D : Df} (h : DfAt w a D) (hk : ∀ (x : Addr) (u : Value), w.cell? x = some u → w'.cell? x = some u) : DfAt w' a D := by
  obtain ⟨h1, u, h2, h3⟩ := h
  exact ⟨hk _ _ h1, u, hk _ _ h2, its_keep h3 hk⟩

theorem dfs_keep {w w' : World} {v : Value} {L : List Df} (h : Dfs w v L) (hk : ∀ (x : Addr) (u : Value), w.cell? x = some u → w'.cell? x = some u) : Dfs w' v L := by
  obtain ⟨h1, A, cap, hv, hc⟩ := h
  refine ⟨h1, A, cap, hv, fun hp => ?_⟩
  obtain ⟨ad, ha, hc⟩ := hc hp
  exact ⟨ad, ha, fun k hk' => dfAt_keep (hc k hk') hk⟩

theorem dfs_below {w w' : World} {v : Value} {L : List Df} (h : Dfs w v L) (hb : Below w.heap.size w w') : Dfs w' v L := dfs_keep h (cell_keptI hb)

theorem dfAt_below {w w' : World} {a : Addr} {D : Df} (h : DfAt w a D) (hb : Below w.heap.size w w') : DfAt w' a D := dfAt_keep h (cell_keptI hb)

theorem dfs_nil (w : World) : Dfs w (.slice none 0 0) [] := ⟨Nat.zero_le _, none, 0, rfl, fun h => absurd h (by simp)⟩

/-- No definition has too many items for a copy. -/
def SmallL (L : List Df) : Prop := L.length ≤ 1048576 ∧ ∀ D ∈ L, D.q.length ≤ 1048576

set_option maxRecDepth 100000 in
set_option maxHeartbeats 1000000 in
theorem szDef_any (n : Int) (A : Option Addr) (l c : Nat) (left : Int) (w : World) (hn : l ≤ maxLen) (h0 : 0 ≤ left) (h1 : left ≤ 1048576) :
    Calls Tryz.prog 77 #[.agg #[.int .i64 n, .slice A l c], .int .i64 left] w fun e w' => e = .returned (.int .i64 (leftOf left l)) ∧ Below w.heap.size w w' := by
  have EL : Hid (leftOf left l = leftOf left l) := Lib.hid rfl
  obtain ⟨lf, hlf⟩ : ∃ lf, leftOf left l = lf := ⟨_, rfl⟩
  have C : Hid (∀ W, Calls Tryz.prog 38 #[.slice A l c, .int .i64 left] W fun e w' => e = .returned (.int .i64 lf) ∧ W = w') := Lib.hid fun W => by rw [← hlf]; exact szItems_any A l c left W hn h0 h1
  rw [hlf]
  have hm : lf = -1 ∨ 0 ≤ lf := by rw [← hlf]; unfold leftOf; split <;> omega
  clear EL hlf hn
  rcases hm with rfl | hm
  · go_enter Tryz.func77, Tryz.ntmps77
    go_wp2_with (go_at_call 38; refine (C.out _).mono ?_; rintro e w' ⟨rfl, rfl⟩)
    go_ret
    exact ⟨rfl, below_alloc (Below.refl _ _) _⟩
  · have t : ¬ lf < 0 := by omega
    go_enter Tryz.func77, Tryz.ntmps77
    go_wp2_with (go_at_call 38; refine (C.out _).mono ?_; rintro e w' ⟨rfl, rfl⟩)
    go_ret
    exact ⟨rfl, below_alloc (Below.refl _ _) _⟩

/-- What the size of definitions leaves. -/
def SzLOf (w : World) (left : Int) (L : List Df) (e : Ending) (w' : World) : Prop := ∃ r : Int, e = .returned (.int .i64 r) ∧ (r = -1 ∨ (0 ≤ r ∧ r ≤ left ∧ SmallL L)) ∧ Below w.heap.size w w'

set_option maxRecDepth 100000 in
set_option maxHeartbeats 2000000 in
theorem szDefS_any (v : Value) (L : List Df) (left : Int) (w : World) (hv : Dfs w v L) (h0 : 0 ≤ left) (h1 : left ≤ 1048576) :
    Calls Tryz.prog 37 #[v, .int .i64 left] w (SzLOf w left L) := by
  have HV := Lib.hid hv
  obtain ⟨hl, A, cap, rfl, _⟩ := hv
  unfold maxLen at hl
  by_cases hneg : left - (L.length : Int) < 0
  · go_enter Tryz.func37, Tryz.ntmps37
    go_wp2
    go_ret
    exact ⟨-1, rfl, .inl rfl, Below.refl _ _⟩
  · go_enter Tryz.func37, Tryz.ntmps37
    go_wp2
    go_loopw [1, 5] (fun l i wr => ∃ (k : Nat) (lf : Int), k ≤ L.length ∧ i = .int .i64 k ∧ l = .int .i64 lf ∧ 0 ≤ lf ∧ lf ≤ left ∧ (∀ j (hj : j < L.length), j < k → L[j].q.length ≤ 1048576) ∧ Below w.heap.size w wr) (fun _ i _ => L.length - (intOf i).toNat)
    case atStart => exact ⟨0, _, Nat.zero_le _, rfl, rfl, by omega, by omega, fun j hj h => absurd h (by omega), Below.refl _ _⟩
    case round =>
      obtain ⟨k, lf, hk, rfl, rfl, q0, q1, hs, hb⟩ := hrel
      have HS := Lib.hid hs
      have HB := Lib.hid hb
      clear hs hb
      by_cases hlt : k < L.length
      · obtain ⟨_, A', cap', e', hc⟩ := dfs_below HV.out HB.out
        simp only [Value.slice.injEq, true_and] at e'
        obtain ⟨rfl, rfl⟩ := e'
        obtain ⟨ad, rfl, hd⟩ := hc (by omega)
        obtain ⟨c0, u, c1, hu⟩ := hd k hlt
        obtain ⟨hm, B, cb, rfl, _⟩ := hu
        clear hc hd
        have LK : Hid (∀ j (hj : j < L.length), j < k + 1 → j ≠ k → L[j].q.length ≤ 1048576) := Lib.hid fun j hj h1 h2 => HS.out j hj (by omega)
        go_wp2_with fail
        refine (szDef_any _ _ _ _ _ _ hm (by omega) (by omega)).mono ?_
        rintro e w2 ⟨rfl, hb2⟩
        have B2 := Lib.hid (below_step HB.out hb2)
        clear hb2 c0 c1
        by_cases hn : lf - ((L[k].q.length : Nat) : Int) < 0
        · have e1 : leftOf lf L[k].q.length = -1 := by unfold leftOf; rw [if_pos hn]
          rw [e1]
          go_wp2
          go_ret
          exact ⟨-1, rfl, .inl rfl, B2.out⟩
        · obtain ⟨z, hz⟩ : ∃ z, leftOf lf L[k].q.length = z := ⟨_, rfl⟩
          have zz : z = lf - ((L[k].q.length : Nat) : Int) := by rw [← hz]; unfold leftOf; rw [if_neg hn]
          rw [hz]
          have hk8 : L[k].q.length ≤ 1048576 := by omega
          have z0 : 0 ≤ z := by omega
          have z1 : z ≤ left := by omega
          have t : ¬ z < 0 := by omega
          clear hz zz hn hm
          have LK2 : Hid (∀ j (hj : j < L.length), j < k + 1 → L[j].q.length ≤ 1048576) := Lib.hid fun j hj h1 => by
            by_cases e : j = k
            · subst e; exact hk8
            · exact LK.out j hj h1 e
          clear hk8 LK
          go_wp2
          go_roundw
          case rel => exact ⟨k + 1, z, by omega, by go_num, rfl, z0, z1, LK2.out, B2.out⟩
          case measure => simp [intOf]; omega
      · obtain rfl : k = L.length := by omega
        clear hlt
        go_wp2
        go_ret
        exact ⟨lf, rfl, .inr ⟨q0, q1, by omega, fun D hD => by obtain ⟨j, hj, rfl⟩ := List.mem_iff_getElem.1 hD; exact HS.out j hj hj⟩, HB.out⟩

/-- What the copy of a definition leaves. -/
def DefOf (w : World) (D : Df) (e : Ending) (w' : World) : Prop := ∃ A n c, e = .returned (.agg #[.int .i64 D.w, .slice A n c]) ∧ IRow w' (w.heap.size + 1) (.slice A n c) D.q ∧ Below w.heap.size w w'

theorem irow_shape {w : World} {lo : Nat} {v : Value} {Q : List It} (h : IRow w lo v Q) : ∃ A n c, v = .slice A n c := by
  obtain ⟨_, A, c, rfl, _⟩ := irow_its h
  exact ⟨_, _, _, rfl⟩

set_option maxRecDepth 100000 in
set_option maxHeartbeats 1000000 in
theorem toDef_any (D : Df) (u : Value) (w : World) (hu : Its w u D.q) (hs : D.q.length ≤ 1048576) :
    Calls Tryz.prog 84 #[.agg #[.int .i64 D.w, u]] w (DefOf w D) := by
  have HU := Lib.hid hu
  obtain ⟨_, A, c, rfl, _⟩ := hu
  go_enter Tryz.func84, Tryz.ntmps84
  go_wp2_with fail
  have X2 : Whole (((w.alloc (.cells #[.int .i64 D.w, .slice A D.q.length c] 120)).alloc (.cells #[.int .i64 0, .slice none 0 0] 94)).alloc (.cells #[.int .i64 D.w, .slice none 0 0] 94)) (w.heap.size + 1) 94 #[.int .i64 0, .slice none 0 0] := by
    have h := whole_alloc (whole_new (w.alloc (.cells #[.int .i64 D.w, .slice A D.q.length c] 120)) 94 #[.int .i64 0, .slice none 0 0]) (.cells #[.int .i64 D.w, .slice none 0 0] 94)
    rwa [show (w.alloc (.cells #[.int .i64 D.w, .slice A D.q.length c] 120)).heap.size = w.heap.size + 1 from Array.size_push ..] at h
  have X3 : Whole (((w.alloc (.cells #[.int .i64 D.w, .slice A D.q.length c] 120)).alloc (.cells #[.int .i64 0, .slice none 0 0] 94)).alloc (.cells #[.int .i64 D.w, .slice none 0 0] 94)) (w.heap.size + 2) 94 #[.int .i64 D.w, .slice none 0 0] := by
    have h := whole_new ((w.alloc (.cells #[.int .i64 D.w, .slice A D.q.length c] 120)).alloc (.cells #[.int .i64 0, .slice none 0 0] 94)) 94 #[.int .i64 D.w, .slice none 0 0]
    rwa [show ((w.alloc (.cells #[.int .i64 D.w, .slice A D.q.length c] 120)).alloc (.cells #[.int .i64 0, .slice none 0 0] 94)).heap.size = w.heap.size + 2 from (Array.size_push ..).trans (congrArg (· + 1) (Array.size_push ..))] at h
  generalize hW : World.alloc _ _ = W at *
  have BW : Below w.heap.size w W := by rw [← hW]; repeat (first | with_reducible exact Below.refl _ _ | with_reducible refine Below.setCell ?_ (by first | omega | (simp; done) | (simp; omega)) _ | with_reducible refine Below.alloc ?_ (by first | omega | (simp; done) | (simp; omega)) _)
  have zW : W.heap.size = w.heap.size + 3 := by rw [← hW]; simp
  clear hW
  refine (toItemS_any _ D.q _ (its_below HU.out BW) hs).mono ?_
  rintro e w2 ⟨v, rfl, hr, -, hb⟩
  obtain ⟨A2, n2, c2, rfl⟩ := irow_shape hr
  have X2 := whole_below X2 hb
  have X3 := whole_below X3 hb
  have B2 : Below w.heap.size w w2 := below_step BW hb
  have z2 : w.heap.size + 3 ≤ w2.heap.size := by have := hb.size; omega
  have R2 : IRow w2 (w.heap.size + 3) (.slice A2 n2 c2) D.q := by rw [← zW]; exact hr
  have HR := Lib.hid R2
  have HB := Lib.hid B2
  clear hb hr BW R2 B2
  have a0 := whole_cell X2 0
  have a1 := whole_cell X2 1
  have b0 := whole_cell X3 0
  have b1 := whole_cell X3 1
  have f2 := whole_free X2
  have f3 := whole_free X3
  simp at a0 a1 b0 b1
  clear X2 X3
  go_wp2
  refine bodyPost_ret (v := .agg #[.int .i64 D.w, .slice A2 n2 c2]) (by simp [results, Tryz.results84, go_sem, *]) rfl ⟨_, _, _, rfl, ?_, ?_⟩
  · refine irow_keep (irow_base HR.out (by omega)) fun g hg => ?_
    have := irow_lt HR.out g hg
    rw [Below.heap_setCell _ _ _ _ (by simp; omega), Below.heap_setCell _ _ _ _ (by simp; omega), Below.heap_setCell _ _ _ _ (by simp; omega)]
  · repeat (first | with_reducible exact HB.out | with_reducible refine Below.setCell ?_ (by simp; try omega) _)

theorem own_infoDf : (Tryz.prog.info? 94).map (fun i => (i.zero, i.size, i.bytes)) = some (some (.agg #[.int .i64 0, .slice none 0 0]), 2, 32) := by kernel_rfl

/-- A row of definitions, the first k of them laid. -/
def DfsTo (w : World) (lo g n k : Nat) (L : List Df) : Prop :=
  ∃ xs, w.ownsRow lo 94 2 (.slice (some ⟨g, 0, none⟩) n n) n xs ∧ ∀ j (hj : j < L.length), j < k → xs[j * 2]? = some (.int .i64 L[j].w) ∧ ∃ u, xs[j * 2 + 1]? = some u ∧ IRow w (g + 1) u L[j].q

theorem ownsRow_keepD {w w' : World} {lo : Nat} {t : TypeId} {s n g m c : Nat} {xs : List Value} (h : w.ownsRow lo t s (.slice (some ⟨g, 0, none⟩) m c) n xs) (hk : w'.heap[g]? = w.heap[g]?) : w'.ownsRow lo t s (.slice (some ⟨g, 0, none⟩) m c) n xs := by
  obtain ⟨h1, h2⟩ := h
  refine ⟨h1, ?_⟩
  rcases h2 with h2 | ⟨g', cap, cur, hv, hb, hg, r⟩
  · exact .inl h2
  · have : g = g' := by injection hv with e1; injection e1 with e2; injection e2
    subst this
    exact .inr ⟨g, cap, cur, hv, hb, by rw [hk]; exact hg, r⟩

theorem dfsTo_below {w w' : World} {lo g n k : Nat} {L : List Df} (h : DfsTo w lo g n k L) (hg : g < w.heap.size) (hb : Below w.heap.size w w') : DfsTo w' lo g n k L := by
  obtain ⟨xs, h1, h2⟩ := h
  refine ⟨xs, ownsRow_keepD h1 (hb.block g hg), fun j hj hk => ?_⟩
  obtain ⟨a, u, b, c⟩ := h2 j hj hk
  exact ⟨a, u, b, irow_below c hb⟩

theorem dfsTo_os {S : Nat → Prop} {w w' : World} {lo g n k : Nat} {L : List Df} (h : DfsTo w lo g n k L) (hg : g < w.heap.size) (hn : Only S w w') (hs : ∀ k, S k → k < g) : DfsTo w' lo g n k L := by
  obtain ⟨xs, h1, h2⟩ := h
  refine ⟨xs, ownsRow_keepD h1 (hn.block g hg (fun q => by have := hs _ q; omega)), fun j hj hk => ?_⟩
  obtain ⟨a, u, b, c⟩ := h2 j hj hk
  exact ⟨a, u, b, irow_keep c fun x hx => hn.block x (irow_lt c x hx).2 (fun q => by have := hs _ q; have := (irow_lt c x hx).1; omega)⟩

theorem dfsTo_step {w : World} {lo g n k : Nat} {L : List Df} (h : DfsTo w lo g n k L) (hk : k < L.length) (hn : L.length = n) {A : Option Addr} {m c : Nat} (hu : IRow w (g + 1) (.slice A m c) L[k].q) :
    DfsTo ((w.setCell ⟨g, k * 2, none⟩ (.int .i64 L[k].w)).setCell ⟨g, k * 2 + 1, none⟩ (.slice A m c)) lo g n (k + 1) L := by
  obtain ⟨xs, h1, h2⟩ := h
  have hl := h1.1
  have s1 := (h1.stored (k * 2) (.int .i64 L[k].w)).1
  have s2 := (s1.stored (k * 2 + 1) (.slice A m c)).1
  have keep : ∀ {u : Value} {Q : List It}, IRow w (g + 1) u Q → IRow ((w.setCell ⟨g, k * 2, none⟩ (.int .i64 L[k].w)).setCell ⟨g, k * 2 + 1, none⟩ (.slice A m c)) (g + 1) u Q := fun q => irow_keep q fun b hb => by
    have := irow_lt q b hb
    rw [Below.heap_setCell _ _ _ _ (by show b ≠ g; omega), Below.heap_setCell _ _ _ _ (by show b ≠ g; omega)]
  refine ⟨_, s2, fun j hj hjk => ?_⟩
  by_cases e : j = k
  · subst e
    refine ⟨?_, .slice A m c, ?_, keep hu⟩
    · rw [List.getElem?_set_ne (by omega), List.getElem?_set_self (by omega)]
    · rw [List.getElem?_set_self (by rw [List.length_set]; omega)]
  · obtain ⟨a, u, b, q⟩ := h2 j hj (by omega)
    refine ⟨?_, u, ?_, keep q⟩
    · rw [List.getElem?_set_ne (by omega), List.getElem?_set_ne (by omega)]; exact a
    · rw [List.getElem?_set_ne (by omega), List.getElem?_set_ne (by omega)]; exact b

theorem dfsTo_end {w : World} {lo g : Nat} {L : List Df} (h : DfsTo w lo g L.length L.length L) (hl : L.length ≤ maxLen) : Dfs w (.slice (some ⟨g, 0, none⟩) L.length L.length) L := by
  obtain ⟨xs, h1, h2⟩ := h
  refine ⟨hl, _, _, rfl, fun _ => ⟨_, rfl, fun k hk => ?_⟩⟩
  obtain ⟨a, u, b, q⟩ := h2 k hk hk
  rw [show (⟨g, 0, none⟩ : Addr).add (k * 2) = ⟨g, k * 2, none⟩ by rw [Addr.add_lit, Nat.zero_add]]
  exact ⟨by rw [World.ownsRow.cellAt h1 (k * 2) (by omega)]; exact a, u, by rw [World.ownsRow.cellAt h1 (k * 2 + 1) (by omega)]; exact b, irow_its q⟩

/-- What the copy of definitions leaves. -/
def DefsOf (w : World) (L : List Df) (e : Ending) (w' : World) : Prop := ∃ g, e = .returned (.slice (some ⟨g, 0, none⟩) L.length L.length) ∧ Dfs w' (.slice (some ⟨g, 0, none⟩) L.length L.length) L ∧ Below w.heap.size w w'

/-- The same, its memory its own. -/
def DefsTOf (w : World) (L : List Df) (e : Ending) (w' : World) : Prop := ∃ g, e = .returned (.slice (some ⟨g, 0, none⟩) L.length L.length) ∧ w.heap.size ≤ g ∧ g < w'.heap.size ∧ DfsTo w' w.heap.size g L.length L.length L ∧ Below w.heap.size w w'

set_option maxRecDepth 100000 in
set_option maxHeartbeats 2000000 in
theorem toDefS_to (v : Value) (L : List Df) (w : World) (hv : Dfs w v L) (hs : SmallL L) :
    Calls Tryz.prog 41 #[v] w (DefsTOf w L) := by
  obtain ⟨i0, hi0, hz0, hz1, hz2⟩ := info_parts own_infoDf
  have I0 := Lib.hid hi0
  have Z0 := Lib.hid hz0
  have Z1 := Lib.hid hz1
  have hl8 := hs.1
  have B8 : Hid (i0.bytes * L.length ≤ 281474976710656) := Lib.hid (by rw [hz2]; omega)
  have HV := Lib.hid hv
  have HS := Lib.hid hs.2
  obtain ⟨hl, A, cap, rfl, hc⟩ := hv
  clear hc hi0 hz0 hz1 hz2 hl hs
  go_enter Tryz.func41, Tryz.ntmps41
  go_wp2_with (first
    | (at_make; refine wpList_make_full _ rfl _ _ 47 rfl w.heap.size 94 i0 _ 2 Tryz.underlying47 I0.out Z0.out Z1.out .i64 .i64 _ _ L.length rfl rfl rfl rfl B8.out (by unfold maxLen; omega) (by simp) ?_
       intro w1 ho1 hg1
       have R1 : Hid (DfsTo w1 w.heap.size w.heap.size L.length 0 L) := Lib.hid ⟨_, ho1, fun j hj h => absurd h (by omega)⟩
       have z1 : w.heap.size < w1.heap.size := (World.ownsRow.lt ho1 w.heap.size rfl).2
       have B1 : Hid (Below w.heap.size w w1) := Lib.hid ((Below.refl _ _).grown hg1 (Nat.le_refl _) (by simp))
       clear ho1 hg1))
  go_loopw [4] (fun i wr => ∃ k : Nat, k ≤ L.length ∧ i = .int .i64 k ∧ DfsTo wr w.heap.size w.heap.size L.length k L ∧ w.heap.size < wr.heap.size ∧ Below w.heap.size w wr) (fun i _ => L.length - (intOf i).toNat)
  case atStart => exact ⟨0, Nat.zero_le _, rfl, R1.out, z1, B1.out⟩
  case round =>
    obtain ⟨k, hk, rfl, hr, zr, hb⟩ := hrel
    have HR := Lib.hid hr
    have HB := Lib.hid hb
    clear hr hb R1 B1
    by_cases hlt : k < L.length
    · obtain ⟨_, A', cap', e', hc⟩ := dfs_below HV.out HB.out
      simp only [Value.slice.injEq, true_and] at e'
      obtain ⟨rfl, rfl⟩ := e'
      obtain ⟨ad, rfl, hd⟩ := hc (by omega)
      obtain ⟨c0, u, c1, hu⟩ := hd k hlt
      obtain ⟨_, Bu, cu, rfl, _⟩ := id hu
      clear hc hd
      go_wp2_with fail
      refine (toDef_any L[k] _ _ hu (HS.out _ (List.getElem_mem hlt))).mono ?_
      rintro e w2 ⟨A2, n2, c2, rfl, hi, hb2⟩
      have B2 := Lib.hid (below_step HB.out hb2)
      have R2 := dfsTo_below HR.out zr hb2
      have z2 : w.heap.size < w2.heap.size := by have := hb2.size; omega
      have ST := Lib.hid (dfsTo_step R2 hlt rfl (irow_base hi (by omega)))
      have SB : Hid (Below w.heap.size w ((w2.setCell ⟨w.heap.size, k * 2, none⟩ (.int .i64 L[k].w)).setCell ⟨w.heap.size, k * 2 + 1, none⟩ (.slice A2 n2 c2))) := Lib.hid ((B2.out.setCell (by simp) _).setCell (by simp) _)
      obtain ⟨xs, h1, _⟩ := R2
      have hxl := h1.1
      obtain ⟨o0, hxo0⟩ : ∃ o, xs[k * 2]? = some o := ⟨_, List.getElem?_eq_getElem (by omega)⟩
      obtain ⟨o1, hxo1⟩ : ∃ o, xs[k * 2 + 1]? = some o := ⟨_, List.getElem?_eq_getElem (by omega)⟩
      have d0 := World.ownsRow.cellAt h1 (k * 2) (by omega)
      have d1 := World.ownsRow.cellAt h1 (k * 2 + 1) (by omega)
      rw [hxo0] at d0
      rw [hxo1] at d1
      have f0 := World.ownsRow.frozenAt h1 (k * 2)
      have f1 := World.ownsRow.frozenAt h1 (k * 2 + 1)
      clear h1 hxl hxo0 hxo1 hb2 hi c0 c1 hu
      go_wp2
      go_roundw
      case rel => exact ⟨k + 1, by omega, by go_num, ST.out, by simp; omega, SB.out⟩
      case measure => simp [intOf]; omega
    · obtain rfl : k = L.length := by omega
      clear hlt
      go_wp2
      go_ret
      exact ⟨_, rfl, Nat.le_refl _, zr, HR.out, HB.out⟩

theorem toDefS_any (v : Value) (L : List Df) (w : World) (hv : Dfs w v L) (hs : SmallL L) :
    Calls Tryz.prog 41 #[v] w (DefsOf w L) :=
  (toDefS_to v L w hv hs).mono fun _ _ ⟨g, e, _, _, h, hb⟩ => ⟨g, e, dfsTo_end h (by have := hs.1; unfold maxLen; omega), hb⟩

set_option maxRecDepth 100000 in
set_option maxHeartbeats 1000000 in
theorem eqDef_same (D : Df) (u v : Value) (w : World) (hu : Its w u D.q) (hv : Its w v D.q) :
    Calls Tryz.prog 94 #[.agg #[.int .i64 D.w, u], .agg #[.int .i64 D.w, v]] w fun e w' => e = .returned (.bool true) ∧ Below w.heap.size w w' := by
  have HU := Lib.hid hu
  have HV := Lib.hid hv
  obtain ⟨_, A, ca, rfl, _⟩ := hu
  obtain ⟨_, B, cb, rfl, _⟩ := hv
  have t : (D.w != D.w) = false := by simp
  go_enter Tryz.func94, Tryz.ntmps94
  go_wp2_with fail
  refine (eqItemS_same _ _ D.q _ (its_below HU.out (below_alloc (below_alloc (Below.refl _ _) _) _)) (its_below HV.out (below_alloc (below_alloc (Below.refl _ _) _) _))).mono ?_
  rintro e w2 ⟨rfl, hb⟩
  have B2 := Lib.hid (below_step (below_alloc (below_alloc (Below.refl _ _) _) _) hb)
  clear hb
  go_wp2
  go_ret
  exact ⟨rfl, B2.out⟩

end Go.Proofs.YthnbaeamekolmaaGreatDoor

namespace Go.Proofs.YthnbaeamekolmaaGreatDoor
open Go.Joins Go.ChangeShapes Go.WideShapes Go.RowKit Go.Deep Go.ChangeAt
set_option linter.unusedVariables false
set_option linter.unusedSimpArgs false

set_option maxRecDepth 100000 in
set_option maxHeartbeats 4000000 in
theorem eqDefS_same (u v : Value) (L : List Df) (w : World) (hu : Dfs w u L) (hv : Dfs w v L) :
    Calls Tryz.prog 49 #[u, v] w fun e w' => e = .returned (.bool true) ∧ Below w.heap.size w w' := by
  have HU := Lib.hid hu
  have HV := Lib.hid hv
  obtain ⟨hl, A, ca, rfl, _⟩ := hu
  obtain ⟨_, B, cb, rfl, _⟩ := hv
  unfold maxLen at hl
  have z0 : ((L.length : Int) != (L.length : Int)) = false := by simp
  go_enter Tryz.func49, Tryz.ntmps49
  go_wp2
  clear z0
  go_loopw [5] (fun i wr => ∃ k : Nat, k ≤ L.length ∧ i = .int .i64 k ∧ Below w.heap.size w wr) (fun i _ => L.length - (intOf i).toNat)
  case atStart => exact ⟨0, Nat.zero_le _, rfl, Below.refl _ _⟩
  case round =>
    obtain ⟨k, hk, rfl, hb⟩ := hrel
    have HB := Lib.hid hb
    clear hb
    by_cases hlt : k < L.length
    · obtain ⟨_, A', ca', e', hc⟩ := dfs_below HU.out HB.out
      simp only [Value.slice.injEq, true_and] at e'
      obtain ⟨rfl, rfl⟩ := e'
      obtain ⟨ga, rfl, ha⟩ := hc (by omega)
      obtain ⟨_, B', cb', e', hc⟩ := dfs_below HV.out HB.out
      simp only [Value.slice.injEq, true_and] at e'
      obtain ⟨rfl, rfl⟩ := e'
      obtain ⟨gb, rfl, hb⟩ := hc (by omega)
      obtain ⟨a0, ua, a1, ia⟩ := ha k hlt
      obtain ⟨b0, ub, b1, ib⟩ := hb k hlt
      clear ha hb hc
      generalize L[k] = x at *
      have KA := Lib.hid (And.intro (And.intro a0 a1) (And.intro b0 b1))
      have IA := Lib.hid ia
      have IB := Lib.hid ib
      obtain ⟨_, C, cc, rfl, _⟩ := ia
      obtain ⟨_, D, cd, rfl, _⟩ := ib
      go_wp2
      go_region_held3 (fun w' => (w'.cell? (ga.add (k * 2)) = some (.int .i64 x.w) ∧ w'.cell? ⟨(ga.add (k * 2)).block, (ga.add (k * 2)).off + 1, none⟩ = some (.slice C x.q.length cc)) ∧ (w'.cell? (gb.add (k * 2)) = some (.int .i64 x.w) ∧ w'.cell? ⟨(gb.add (k * 2)).block, (gb.add (k * 2)).off + 1, none⟩ = some (.slice D x.q.length cd))) (first | exact K1 | exact KA.out)
        (first | (go_at_call 94; refine (eqDef_same x _ _ _ (its_below IA.out (Below.refl _ _).drew) (its_below IB.out (Below.refl _ _).drew)).mono ?_; rintro e w1 ⟨rfl, hb1⟩; have K1 := And.intro (And.intro (cell_keptI hb1 _ _ KA.out.1.1) (cell_keptI hb1 _ _ KA.out.1.2)) (And.intro (cell_keptI hb1 _ _ KA.out.2.1) (cell_keptI hb1 _ _ KA.out.2.2))))
      have HB2 := Lib.hid (HB.out.drew.trans (hb1.mono HB.out.drew.size))
      clear hb1 K1 a0 a1 b0 b1
      go_wp2
      go_roundw
      case rel => exact ⟨k + 1, by omega, by go_num, HB2.out⟩
      case measure => simp [intOf]; omega
    · obtain rfl : k = L.length := by omega
      clear hlt
      go_wp2
      go_ret
      exact ⟨rfl, HB.out⟩

section
variable {H : Type} {enc : TypeId × Value → H} {w : World} {base : Nat} {spare : Nat → Bool} {held : Bool}

theorem its_one_cell : Tryz.prog.cellsOf 34 = 1 := by kernel_rfl

theorem its_of_cell {fuel : Nat} {c1 : Value} {x : DataW H × List MemPlace} (hf : DataW.trod enc Tryz.prog w base (fun _ => true) held fuel 34 [c1] = some x) : ∃ D : List It, Its w c1 D := by
  rcases open_slice Tryz.underlying34 hf with ⟨hcs, _⟩ | ⟨a, len, cap, m, n, D, Pl, hcs, hb, hl, hm, hmm, hx, hi⟩
  · simp at hcs
    subst hcs
    exact ⟨[], its_nil w⟩
  · simp at hcs
    subst hcs
    exact its_of_trod hf

theorem def_of_trod {fuel : Nat} {cs : List Value} {x : DataW H × List MemPlace} (hl : cs.length = 2) (h : DataW.trod enc Tryz.prog w base (fun _ => true) held fuel 120 cs = some x) : ∃ y : Df, ∃ u, cs = [.int .i64 y.w, u] ∧ Its w u y.q := by
  match cs, hl with
  | [c0, c1], _ =>
    obtain ⟨xs, n, _, hx, _, hlen, hg⟩ := DataW.trod_struct Tryz.underlying120 h
    match xs, hlen with
    | [y0, y1], _ =>
      have g0 := hg 0 _ rfl
      have g1 := hg 1 _ rfl
      simp [itm_one, its_one_cell] at g0 g1
      obtain ⟨n0, e0, _, f0⟩ := DataW.trod_int Tryz.underlying3 g0
      simp only [List.cons.injEq, and_true] at e0
      subst e0
      obtain ⟨Q, hq⟩ := its_of_cell g1
      exact ⟨⟨n0, Q⟩, c1, rfl, hq⟩

theorem choose_defs {len : Nat} {p : Nat → Df → Prop} (h : ∀ i, i < len → ∃ x, p i x) : ∃ Q : List Df, Q.length = len ∧ ∀ i (hi : i < Q.length), p i Q[i] := by
  induction len with
  | zero => exact ⟨[], rfl, fun i hi => by simp at hi⟩
  | succ m ih =>
    obtain ⟨Q, hl, hq⟩ := ih (fun i hi => h i (by omega))
    obtain ⟨x, hx⟩ := h m (by omega)
    refine ⟨Q ++ [x], by simp [hl], fun i hi => ?_⟩
    by_cases e : i < Q.length
    · rw [List.getElem_append_left e]; exact hq i e
    · have : i = m := by simp at hi; omega
      subst this
      rw [List.getElem_append_right (by omega)]
      simp [hl]
      exact hx

set_option maxRecDepth 100000 in
theorem dfs_of_trod {fuel : Nat} {A : Option Addr} {l c : Nat} {x : DataW H × List MemPlace} (hf : DataW.trod enc Tryz.prog w base (fun _ => true) held fuel 33 [.slice A l c] = some x) : ∃ D : List Df, Dfs w (.slice A l c) D := by
  have hC : Tryz.prog.cellsOf 120 = 2 := by kernel_rfl
  rcases open_slice Tryz.underlying33 hf with ⟨hcs, _⟩ | ⟨a, len, cap, m, n, D, Pl, hcs, hb, hl, hm, hmm, hx, hi⟩
  · simp at hcs
    obtain ⟨rfl, rfl, rfl⟩ := hcs
    exact ⟨[], dfs_nil w⟩
  · simp at hcs
    obtain ⟨rfl, rfl, rfl⟩ := hcs
    simp only [if_true] at hmm
    obtain ⟨Q, hlen, hq⟩ := choose_defs (len := l) (p := fun i x => DfAt w (a.add (i * 2)) x) (fun i hil => by
      obtain ⟨cs', h1, h2⟩ := hi i (by omega)
      rw [hC] at h1
      obtain ⟨_, hcl, hat⟩ := World.cells?_some h1
      obtain ⟨y, u, rfl, hu⟩ := def_of_trod hcl h2
      refine ⟨y, ?_, u, ?_, hu⟩
      · have := hat 0 (by omega); rw [Addr.add_zero'] at this; simpa using this
      · have := hat 1 (by omega); rw [Addr.add_succ'] at this; simpa using this)
    exact ⟨Q, by rw [hlen]; omega, some a, c, by rw [hlen], fun _ => ⟨a, rfl, fun k hk => hq k hk⟩⟩

theorem dfs_of_cell {fuel : Nat} {c1 : Value} {x : DataW H × List MemPlace} (hf : DataW.trod enc Tryz.prog w base (fun _ => true) held fuel 33 [c1] = some x) : ∃ D : List Df, Dfs w c1 D := by
  rcases open_slice Tryz.underlying33 hf with ⟨hcs, _⟩ | ⟨a, len, cap, m, n, D, Pl, hcs, hb, hl, hm, hmm, hx, hi⟩ <;>
    (simp at hcs; subst hcs; exact dfs_of_trod hf)

set_option maxRecDepth 100000 in
theorem open_defs {r : Reach} {b0 : Nat} {v : Value} {d : DataW H} {p : List MemPlace} (hv : Value.okWide Tryz.prog w r b0 33 v) (h : DataW.Trod enc Tryz.prog w base (fun _ => true) held 33 v d p) : ∃ D : List Df, Dfs w v D := by
  obtain ⟨A, l, c, rfl⟩ := okWide_slice Tryz.underlying33 hv
  obtain ⟨fuel, hf0⟩ := h
  have hf : DataW.trod enc Tryz.prog w base (fun _ => true) held fuel 33 [.slice A l c] = some (d, p) := by simpa [Value.cells] using hf0
  exact dfs_of_trod hf

end

end Go.Proofs.YthnbaeamekolmaaGreatDoor

namespace Go.Proofs.YthnbaeamekolmaaGreatDoor
open Go.RowKit
set_option linter.unusedVariables false
set_option linter.unusedSimpArgs false

/-- A machine's row of cells, its words and its code in sight. -/
structure MRow (w : World) (cs : Array Value) (M : Mc) (A1 : Option Addr) (k1 : Nat) (A2 : Option Addr) (k2 : Nat) : Prop where
  six : Six10 cs
  c0 : cs[0]? = some (.slice A1 M.w.length k1)
  c1 : cs[1]? = some (.slice A2 M.k.length k2)
  words : Wds w (.slice A1 M.w.length k1) M.w
  code : Ints w (.slice A2 M.k.length k2) M.k
  room : M.k.length ≤ k2
  all : MchIn w (.agg cs) M

theorem mrow_below {w w' : World} {cs : Array Value} {M : Mc} {A1 : Option Addr} {k1 : Nat} {A2 : Option Addr} {k2 : Nat} (h : MRow w cs M A1 k1 A2 k2) (hb : Below w.heap.size w w') : MRow w' cs M A1 k1 A2 k2 :=
  ⟨h.six, h.c0, h.c1, wds_below h.words hb, ints_below h.code hb, h.room, mchIn_below h.all hb⟩

theorem mrow_of {w : World} {lo : Nat} {v : Value} {M : Mc} (h : MchT w lo v M) : ∃ cs A1 k1 A2 k2, v = .agg cs ∧ MRow w cs M A1 k1 A2 k2 := by
  have hin := mchT_in h
  have hroom : ∀ A n c, (match v with | .agg cs => cs[1]? | _ => none) = some (.slice A n c) → n ≤ c := by
    obtain ⟨x, k, a, b, c, g, s, n, q, z, rfl, h1, h2, _⟩ := h
    intro A n' c' e
    simp at e
    subst e
    exact (row_room h2)
  obtain ⟨A1, k1, A2, k2, A3, k3, A4, k4, A5, k5, A6, k6, A7, k7, A8, k8, A9, k9, A0, k0, rfl⟩ := mchIn_form hin
  obtain ⟨x, k, a, b, c, g, s, n, q, z, e, hx, hk, hd, hh, hz⟩ := id hin
  simp only [Value.agg.injEq, Array.mk.injEq, List.cons.injEq, and_true, true_and] at e
  obtain ⟨rfl, rfl, rfl, rfl, rfl, rfl, rfl, rfl, rfl, rfl⟩ := e
  refine ⟨_, A1, k1, A2, k2, rfl, ⟨rfl, by simp [Value.oneCell']⟩, rfl, rfl, hx, hk, hroom A2 _ k2 rfl, hin⟩

/-- What a test of a proposition leaves. -/
def BIff (w : World) (p : Prop) (e : Ending) (w' : World) : Prop := ∃ r : Bool, (r = true ↔ p) ∧ e = .returned (.bool r) ∧ Below w.heap.size w w'

theorem wf_int (n : Int) (h0 : 0 ≤ n) (h1 : n ≤ 1000000) : (Lit.int .i64 n).wf = true := by
  have h2 : IntKind.i64.min = -9223372036854775808 := by decide
  have h3 : IntKind.i64.max = 9223372036854775807 := by decide
  unfold Lit.wf
  simp
  omega

theorem ints_mid {w : World} {A : Option Addr} {n k at_ l : Nat} {zs : List Int} (h : Ints w (.slice A n k) zs) (hl : at_ + l ≤ n) (hk : n ≤ k) : Ints w (.slice (if k = at_ then A else Option.map (fun x => x.add at_) A) l (k - at_)) ((zs.drop at_).take l) := by
  obtain ⟨hm, A', c', e, hc⟩ := h
  simp only [Value.slice.injEq] at e
  obtain ⟨rfl, rfl, rfl⟩ := e
  have hll : ((zs.drop at_).take l).length = l := by rw [List.length_take, List.length_drop]; omega
  refine ⟨by rw [hll]; omega, _, _, by rw [hll], fun h0 => ?_⟩
  rw [hll] at h0
  obtain ⟨ad, hA, hc2⟩ := hc (by omega)
  subst hA
  refine ⟨ad.add at_, by rw [if_neg (by omega)]; rfl, fun i hi => ?_⟩
  rw [hll] at hi
  rw [List.getElem_take, List.getElem_drop, Addr.add_add]
  exact hc2 (at_ + i) (by omega)

theorem place_chk {Q : List It} (h : askI Q = 0) : chkI Q = placeI Q := by
  unfold chkI placeI
  rw [if_neg (by simpa using h)]

set_option maxRecDepth 100000 in
set_option maxHeartbeats 4000000 in
theorem sDef1_any (cs : Array Value) (M : Mc) (A1 : Option Addr) (k1 : Nat) (A2 : Option Addr) (k2 : Nat) (D : Df) (u : Value) (w : World) (hm : MRow w cs M A1 k1 A2 k2) (hd : dictB M.w = true) (hk4 : M.k.length ≤ 400) (hu : Its w u D.q) :
    Calls Tryz.prog 149 #[.agg cs, .agg #[.int .i64 D.w, u]] w (BIff w (Colon M D.w ∧ HasD M D)) := by
  have HM := Lib.hid hm
  have HU := Lib.hid hu
  obtain ⟨_, B, cb, rfl, _⟩ := hu
  obtain ⟨d1, d2, d3, d4⟩ := dict_parts hd
  have HD := Lib.hid d4
  have B0 : Hid (Below w.heap.size w ((w.alloc (.cells cs 46)).alloc (.cells #[.int .i64 D.w, .slice B D.q.length cb] 94))) := Lib.hid (below_alloc (below_alloc (Below.refl _ _) _) _)
  have V0 : Hid (Whole ((w.alloc (.cells cs 46)).alloc (.cells #[.int .i64 D.w, .slice B D.q.length cb] 94)) w.heap.size 46 cs) := Lib.hid (whole_alloc (whole_new w _ _) _)
  have X0 : Hid (Whole ((w.alloc (.cells cs 46)).alloc (.cells #[.int .i64 D.w, .slice B D.q.length cb] 94)) (w.heap.size + 1) 94 #[.int .i64 D.w, .slice B D.q.length cb]) := Lib.hid (by
    have h := whole_new (w.alloc (.cells cs 46)) 94 #[.int .i64 D.w, .slice B D.q.length cb]
    rwa [show (w.alloc (.cells cs 46)).heap.size = w.heap.size + 1 from Array.size_push ..] at h)
  clear hm hd d3 d4
  go_enter Tryz.func149, Tryz.ntmps149
  go_wp2_with fail
  refine (sAsk_any _ D.q _ (its_below HU.out B0.out)).mono ?_
  rintro e w1 ⟨rfl, hb⟩
  have B1 := Lib.hid (below_step B0.out hb)
  have V1 := whole_below V0.out hb
  have X1 := whole_below X0.out hb
  clear hb B0 V0 X0
  have v0 := whole_cell V1 0
  have v1 := whole_cell V1 1
  rw [HM.out.c0] at v0
  rw [HM.out.c1] at v1
  have x0 := whole_cell X1 0
  have x1 := whole_cell X1 1
  simp at x0 x1
  by_cases ha : askI D.q = 0
  rotate_left
  · have t : (askI D.q != 0) = true := by rw [bne_iff_ne]; exact ha
    have NO : ¬ (Colon M D.w ∧ HasD M D) := fun h => ha (chkI_ok h.2.1).1
    generalize askI D.q = z at *
    go_wp2
    go_ret
    exact ⟨false, by simp [NO], rfl, B1.out⟩
  rw [ha]
  cases hin : inB D.w 84 M.w.length
  · have NO : ¬ (Colon M D.w ∧ HasD M D) := fun h => by
      have := h.1.1; have := h.1.2.1; unfold inB at hin; simp at hin; omega
    go_wp2_with (go_at_call 64; refine (sIn_any _ _ _ _).mono ?_; rintro e w' ⟨rfl, rfl⟩; rw [hin])
    go_ret
    exact ⟨false, by simp [NO], rfl, B1.out⟩
  have hin2 : 84 ≤ D.w ∧ D.w ≤ M.w.length := by unfold inB at hin; simpa using hin
  obtain ⟨j, hj⟩ : ∃ j : Nat, D.w = (j : Int) + 1 := ⟨(D.w - 1).toNat, by omega⟩
  have hjl : j < M.w.length := by omega
  have W1 := wds_below HM.out.words B1.out
  obtain ⟨_, hnm, Aw, kw, ew, hkw, hwc⟩ := W1
  simp only [Value.slice.injEq, true_and] at ew
  obtain ⟨rfl, rfl⟩ := ew
  obtain ⟨gw, hA, hwc2⟩ := hwc (by omega)
  subst hA
  obtain ⟨n0, n1, n2⟩ := hwc2 j hjl
  have WE : Hid (wordD M D.w = M.w[j]) := Lib.hid (by unfold wordD; rw [hj, show ((j : Int) + 1 - 1).toNat = j by omega, List.getD_eq_getElem?_getD, List.getElem?_eq_getElem hjl]; rfl)
  have VR : Hid (M.w[j].k = 6 → 0 ≤ M.w[j].v ∧ M.w[j].v ≤ 399) := Lib.hid (HD.out j hjl)
  have ls : IntKind.i64.wrap (D.w - 1) = (j : Int) := by rw [hj, show (j : Int) + 1 - 1 = (j : Int) by omega]; exact IntWalk.i64_in _ (by omega)
  have j0 : (0 : Int) ≤ (j : Int) := by omega
  have j1 : (j : Int) < (M.w.length : Int) := by omega
  have HJ := Lib.hid hj
  have IN2 := Lib.hid hin2
  clear hwc hwc2 hnm hkw hin2 hj
  generalize hx : M.w[j] = x at *
  by_cases h6 : x.k = 6
  rotate_left
  · have t6 : (x.k != 6) = true := by rw [bne_iff_ne]; exact h6
    have NO : ¬ (Colon M D.w ∧ HasD M D) := fun h => h6 (by have := h.1.2.2; rwa [WE.out] at this)
    go_wp2_with (go_at_call 64; refine (sIn_any _ _ _ _).mono ?_; rintro e w' ⟨rfl, rfl⟩; rw [hin])
    go_ret
    exact ⟨false, by simp [NO], rfl, B1.out⟩
  obtain ⟨xv0, xv1⟩ := VR.out h6
  obtain ⟨p, hp⟩ : ∃ p : Nat, x.v = p := ⟨x.v.toNat, by omega⟩
  rw [hp] at n2
  rw [h6] at n1
  go_wp2_with (first | (go_at_call 64; refine (sIn_any _ _ _ _).mono ?_; rintro e w' ⟨rfl, rfl⟩; rw [hin]) | fail)
  obtain ⟨hl60, hq60⟩ := askI_ok ha
  refine (sPlace_any _ D.q _ (its_below HU.out B1.out) hl60 hq60).mono ?_
  rintro e w2 ⟨rfl, hb⟩
  have B2 := Lib.hid (below_step B1.out hb)
  have V2 := whole_below V1 hb
  have X2 := whole_below X1 hb
  have n2 := cell_keptI hb _ _ n2
  clear hb v0 v1 x0 x1 n0 n1
  have PC := Lib.hid (place_chk ha)
  have HQ := Lib.hid hq60
  have v0 := whole_cell V2 0
  have v1 := whole_cell V2 1
  rw [HM.out.c0] at v0
  rw [HM.out.c1] at v1
  have x0 := whole_cell X2 0
  have x1 := whole_cell X2 1
  simp at x0 x1
  obtain ⟨q0, q1, hpl⟩ : ∃ q0 q1, placeI D.q = (q0, q1) := ⟨_, _, rfl⟩
  rw [hpl]
  have HP := Lib.hid hpl
  clear hpl hq60
  by_cases hz : q1 = 0
  rotate_left
  · have t : (q1 != 0) = true := by rw [bne_iff_ne]; exact hz
    have NO : ¬ (Colon M D.w ∧ HasD M D) := fun h => hz (by have := h.2.1; rwa [PC.out, HP.out] at this)
    go_wp2
    go_ret
    exact ⟨false, by simp [NO], rfl, B2.out⟩
  subst hz
  have CK : Hid ((chkI D.q).2 = 0) := Lib.hid (by rw [PC.out, HP.out])
  have GG := (chkI_ok CK.out).2.1
  have CO : Hid (Colon M D.w) := Lib.hid ⟨IN2.out.1, IN2.out.2, by rw [WE.out]; exact h6⟩
  go_wp2_with fail
  refine (sMake_any _ D.q p D.w _ (its_below HU.out B2.out) hl60 HQ.out GG (by omega)).mono ?_
  rintro e w3 ⟨v3, rfl, hr, hb⟩
  have B3 := Lib.hid (below_step B2.out hb)
  have V3 := whole_below V2 hb
  clear hb v0 v1 x0 x1 n2 V2 X2 X1 V1 GG
  have cl : Hid (((runC p D.w D.q).1 ++ [53]).length ≤ 121 ∧ 1 ≤ ((runC p D.w D.q).1 ++ [53]).length) := Lib.hid (by
    have := (made_small (runC_small p D.w D.q (chkI_ok CK.out).2.1 HQ.out) hl60).1
    simp; omega)
  have EC : Hid (codeD p D.w D.q = (runC p D.w D.q).1 ++ [53]) := Lib.hid rfl
  generalize ((runC p D.w D.q).1 ++ [53]) = c at *
  obtain ⟨cl8, cl1⟩ := cl.out
  have RI := row_ints hr
  obtain ⟨_, A3, c3, rfl, _⟩ := row_ints hr
  have HRI := Lib.hid RI
  have v1 := whole_cell V3 1
  rw [HM.out.c1] at v1
  have lw : IntKind.i64.wrap ((p : Int) + (c.length : Int)) = ((p + c.length : Nat) : Int) := by rw [show (p : Int) + (c.length : Int) = ((p + c.length : Nat) : Int) by simp]; exact IntWalk.i64_in _ (by omega)
  have HH : Hid (HasD M D ↔ p + c.length ≤ M.k.length ∧ (M.k.drop p).take c.length = c) := Lib.hid (by
    unfold HasD
    rw [WE.out, hp, EC.out, Int.toNat_natCast]
    constructor
    · rintro ⟨_, h1, h2⟩; exact ⟨by omega, h2⟩
    · rintro ⟨h1, h2⟩; exact ⟨CK.out, by omega, h2⟩)
  clear RI hr
  by_cases hle : p + c.length ≤ M.k.length
  rotate_left
  · have t : ¬ ((p + c.length : Nat) : Int) ≤ (M.k.length : Int) := by omega
    have NO : ¬ (Colon M D.w ∧ HasD M D) := fun h => hle (HH.out.1 h.2).1
    go_wp2
    go_ret
    exact ⟨false, by simp [NO], rfl, B3.out⟩
  have t : ((p + c.length : Nat) : Int) ≤ (M.k.length : Int) := by omega
  have rm := HM.out.room
  have s0 : (0 : Int) ≤ (p : Int) := by omega
  have s1 : (p : Int) ≤ ((p + c.length : Nat) : Int) := by omega
  have s2 : ((p + c.length : Nat) : Int) ≤ (k2 : Int) := by omega
  have s3 : (((p + c.length : Nat) : Int) - (p : Int)).toNat = c.length := by omega
  have hne : ¬ k2 = p := by omega
  have MID := Lib.hid (by have h := ints_mid (ints_below HM.out.code B3.out) (at_ := p) (l := c.length) hle rm; rwa [if_neg hne] at h)
  go_wp2_with fail
  refine (sSame_any _ _ _ c _ MID.out HRI.out).mono ?_
  rintro e w4 ⟨kd, rfl, rfl⟩
  have FIN : Hid (((M.k.drop p).take c.length == c) = true ↔ (Colon M D.w ∧ HasD M D)) := Lib.hid (by
    rw [beq_iff_eq]
    exact ⟨fun h => ⟨CO.out, HH.out.2 ⟨hle, h⟩⟩, fun h => (HH.out.1 h.2).2⟩)
  generalize ((M.k.drop p).take c.length == c) = rr at *
  go_wp2
  go_ret
  exact ⟨rr, FIN.out, rfl, below_drewN B3.out _⟩

set_option maxRecDepth 100000 in
set_option maxHeartbeats 4000000 in
theorem iHas_any (cs : Array Value) (M : Mc) (A1 : Option Addr) (k1 : Nat) (A2 : Option Addr) (k2 : Nat) (D : Df) (u : Value) (w : World) (j : Nat) (hm : MRow w cs M A1 k1 A2 k2) (hd : dictB M.w = true) (hk4 : M.k.length ≤ 400) (hu : Its w u D.q) (hj : D.w = (j : Int) + 1) (hjl : j < M.w.length) (h6 : M.w[j].k = 6) :
    Calls Tryz.prog 87 #[.agg cs, .agg #[.int .i64 D.w, u]] w (BIff w (HasD M D)) := by
  have HM := Lib.hid hm
  have HU := Lib.hid hu
  obtain ⟨_, B, cb, rfl, _⟩ := hu
  obtain ⟨d1, d2, d3, d4⟩ := dict_parts hd
  obtain ⟨xv0, xv1⟩ := d4 j hjl h6
  have j83 : 83 ≤ j := by
    rcases Nat.lt_or_ge j 83 with q | q
    · exact absurd h6 (d3 j hjl q)
    · exact q
  have WE : Hid (wordD M D.w = M.w[j]) := Lib.hid (by unfold wordD; rw [hj, show ((j : Int) + 1 - 1).toNat = j by omega, List.getD_eq_getElem?_getD, List.getElem?_eq_getElem hjl]; rfl)
  obtain ⟨p, hp⟩ : ∃ p : Nat, M.w[j].v = p := ⟨M.w[j].v.toNat, by omega⟩
  have p4 : p ≤ 399 := by omega
  have B0 : Hid (Below w.heap.size w ((w.alloc (.cells cs 46)).alloc (.cells #[.int .i64 D.w, .slice B D.q.length cb] 94))) := Lib.hid (below_alloc (below_alloc (Below.refl _ _) _) _)
  have V0 : Whole ((w.alloc (.cells cs 46)).alloc (.cells #[.int .i64 D.w, .slice B D.q.length cb] 94)) w.heap.size 46 cs := whole_alloc (whole_new w _ _) _
  have W1 := wds_below HM.out.words B0.out
  obtain ⟨_, hnm, Aw, kw, ew, hkw, hwc⟩ := W1
  simp only [Value.slice.injEq, true_and] at ew
  obtain ⟨rfl, rfl⟩ := ew
  obtain ⟨gw, hA, hwc2⟩ := hwc (by omega)
  subst hA
  obtain ⟨n0, n1, n2⟩ := hwc2 j hjl
  rw [hp] at n2
  have ls : IntKind.i64.wrap (D.w - 1) = (j : Int) := by rw [hj, show (j : Int) + 1 - 1 = (j : Int) by omega]; exact IntWalk.i64_in _ (by omega)
  have j0 : (0 : Int) ≤ (j : Int) := by omega
  have j1 : (j : Int) < (M.w.length : Int) := by omega
  have wp : (Lit.int .i64 (p : Int)).wf = true := wf_int _ (by omega) (by omega)
  have ws : (Lit.int .i64 D.w).wf = true := wf_int _ (by omega) (by omega)
  have CE : Hid (compI D.q p D.w = if (chkI D.q).2 ≠ 0 then ([], (chkI D.q).2) else if 400 < (p : Int) + (sumI D.q + 1 : Nat) then ([], 7) else (codeD p D.w D.q, 0)) := Lib.hid (by
    have e : (inB (p : Int) 0 400 && inB D.w 1 103) = true := by unfold inB; simp; omega
    unfold compI codeD
    rw [e]; simp)
  have v0 := whole_cell V0 0
  have v1 := whole_cell V0 1
  rw [HM.out.c0] at v0
  have HV := Lib.hid V0
  have HP := Lib.hid hp
  clear hm hd d3 d4 hj h6 hwc hwc2 hnm hkw V0 v1 xv0 xv1 n0 n1 j83
  go_enter Tryz.func87, Tryz.ntmps87
  go_wp2_with fail
  refine (iComp_any _ D.q p D.w _ (its_below HU.out B0.out) wp ws).mono ?_
  rintro e w1 ⟨v, rfl, hr, hb⟩
  have B1 := Lib.hid (below_step B0.out hb)
  have V1 := whole_below HV.out hb
  obtain ⟨_, A3, c3, rfl, _⟩ := row_ints hr
  have RI := Lib.hid (row_ints hr)
  have v1 := whole_cell V1 1
  rw [HM.out.c1] at v1
  clear hb hr v0 n2 V1 wp ws
  have NH : Hid (HasD M D ↔ (chkI D.q).2 = 0 ∧ (p : Int) + (codeD p D.w D.q).length ≤ M.k.length ∧ (M.k.drop p).take (codeD p D.w D.q).length = codeD p D.w D.q) := Lib.hid (by
    unfold HasD
    rw [WE.out, HP.out, Int.toNat_natCast])
  by_cases hc : (chkI D.q).2 = 0
  rotate_left
  · have e1 : compI D.q p D.w = ([], (chkI D.q).2) := by rw [CE.out, if_pos hc]
    have NO : ¬ HasD M D := fun h => hc (NH.out.1 h).1
    have t : ((chkI D.q).2 == 0) = false := by rw [beq_eq_false_iff_ne]; exact hc
    have lw : IntKind.i64.wrap ((p : Int) + (([] : List Int).length : Int)) = (p : Int) := by rw [show (p : Int) + (([] : List Int).length : Int) = (p : Int) by simp]; exact IntWalk.i64_in _ (by omega)
    have lw0 : IntKind.i64.wrap ((p : Int)) = (p : Int) := IntWalk.i64_in _ (by omega)
    rw [e1] at RI ⊢
    generalize (chkI D.q).2 = cc at *
    go_wp2
    go_ret
    exact ⟨false, by simp [NO], rfl, B1.out⟩
  by_cases h4 : 400 < (p : Int) + (sumI D.q + 1 : Nat)
  · have e1 : compI D.q p D.w = ([], 7) := by rw [CE.out, if_neg (by simpa using hc), if_pos h4]
    have ln : (codeD p D.w D.q).length = sumI D.q + 1 := by
      obtain ⟨a1, a2, _⟩ := chkI_ok hc
      have := (made_end (runC_small p D.w D.q a2 (askI_ok a1).2)).2
      unfold codeD; simp [this]
    have NO : ¬ HasD M D := fun h => by have := (NH.out.1 h).2.1; rw [ln] at this; omega
    have lw : IntKind.i64.wrap ((p : Int) + (([] : List Int).length : Int)) = (p : Int) := by rw [show (p : Int) + (([] : List Int).length : Int) = (p : Int) by simp]; exact IntWalk.i64_in _ (by omega)
    have lw0 : IntKind.i64.wrap ((p : Int)) = (p : Int) := IntWalk.i64_in _ (by omega)
    rw [e1] at RI ⊢
    go_wp2
    go_ret
    exact ⟨false, by simp [NO], rfl, B1.out⟩
  have e1 : compI D.q p D.w = (codeD p D.w D.q, 0) := by rw [CE.out, if_neg (by simpa using hc), if_neg h4]
  have cl : (codeD p D.w D.q).length ≤ 121 ∧ 1 ≤ (codeD p D.w D.q).length := by
    obtain ⟨a1, a2, _⟩ := chkI_ok hc
    have := (made_small (runC_small p D.w D.q a2 (askI_ok a1).2) (askI_ok a1).1).1
    unfold codeD; simp; omega
  rw [e1] at RI ⊢
  simp only at RI ⊢
  clear e1 CE
  generalize codeD p D.w D.q = c at *
  obtain ⟨cl8, cl1⟩ := cl
  have lw : IntKind.i64.wrap ((p : Int) + (c.length : Int)) = ((p + c.length : Nat) : Int) := by rw [show (p : Int) + (c.length : Int) = ((p + c.length : Nat) : Int) by simp]; exact IntWalk.i64_in _ (by omega)
  by_cases hle : p + c.length ≤ M.k.length
  rotate_left
  · have t : ¬ ((p + c.length : Nat) : Int) ≤ (M.k.length : Int) := by omega
    have NO : ¬ HasD M D := fun h => hle (by have := (NH.out.1 h).2.1; omega)
    go_wp2
    go_ret
    exact ⟨false, by simp [NO], rfl, B1.out⟩
  have t : ((p + c.length : Nat) : Int) ≤ (M.k.length : Int) := by omega
  have rm := HM.out.room
  have s0 : (0 : Int) ≤ (p : Int) := by omega
  have s1 : (p : Int) ≤ ((p + c.length : Nat) : Int) := by omega
  have s2 : ((p + c.length : Nat) : Int) ≤ (k2 : Int) := by omega
  have s3 : (((p + c.length : Nat) : Int) - (p : Int)).toNat = c.length := by omega
  have hne : ¬ k2 = p := by omega
  have MID := Lib.hid (by have h := ints_mid (ints_below HM.out.code B1.out) (at_ := p) (l := c.length) hle rm; rwa [if_neg hne] at h)
  go_wp2_with fail
  refine (slEqual_any _ _ _ c _ MID.out RI.out).mono ?_
  rintro e w4 ⟨kd, rfl, rfl⟩
  have FINI : Hid (((M.k.drop p).take c.length == c) = true ↔ HasD M D) := Lib.hid (by
    rw [beq_iff_eq, NH.out]
    exact ⟨fun h => ⟨hc, by omega, h⟩, fun h => h.2.2⟩)
  generalize ((M.k.drop p).take c.length == c) = rr at *
  go_wp2
  go_ret
  exact ⟨rr, FINI.out, rfl, below_drewN B1.out _⟩

end Go.Proofs.YthnbaeamekolmaaGreatDoor

namespace Go.Proofs.YthnbaeamekolmaaGreatDoor
open Go.RowKit
set_option linter.unusedVariables false
set_option linter.unusedSimpArgs false

/-- Twenty cells: a machine's, then these four. -/
structure F20 (fs cs : Array Value) (d : Value) (b : Bool) (n : ByteArray) (q : Value) : Prop where
  row : Six10 cs
  one : d.oneCell' = true ∧ q.oneCell' = true
  all : fs = cs ++ #[d, .bool b, .string n, q]

theorem f20_low {fs cs : Array Value} {d q : Value} {b : Bool} {n : ByteArray} (h : F20 fs cs d b n q) (j : Nat) (hj : j < 16) : fs[j]? = cs[j]? := by
  rw [h.all, Array.getElem?_append_left (by rw [h.row.1]; exact hj)]

theorem f20_size {fs cs : Array Value} {d q : Value} {b : Bool} {n : ByteArray} (h : F20 fs cs d b n q) : fs.size = 20 := by
  rw [h.all, Array.size_append, h.row.1]; rfl

theorem f20_high {fs cs : Array Value} {d q : Value} {b : Bool} {n : ByteArray} (h : F20 fs cs d b n q) (j : Nat) : fs[16 + j]? = #[d, .bool b, .string n, q][j]? := by
  rw [h.all, Array.getElem?_append_right (by rw [h.row.1]; omega), h.row.1, Nat.add_sub_cancel_left]

theorem f20_range {w : World} {g : Nat} {t : TypeId} {fs cs : Array Value} {d q : Value} {b : Bool} {n : ByteArray} (hw : Whole w g t fs) (h : F20 fs cs d b n q) : w.rangeAt g 0 cs.toList := fun j v hv => by
  have hj : j < 16 := by have := (List.getElem?_eq_some_iff.1 hv).1; rw [Array.length_toList, h.row.1] at this; exact this
  rw [Nat.zero_add, whole_cell hw, f20_low h j hj, ← Array.getElem?_toList]; exact hv

theorem f20_cells {w : World} {g : Nat} {t : TypeId} {fs cs : Array Value} {d q : Value} {b : Bool} {n : ByteArray} (hw : Whole w g t fs) (h : F20 fs cs d b n q) :
    w.cell? ⟨g, 16, none⟩ = some d ∧ w.cell? ⟨g, 17, none⟩ = some (.bool b) ∧ w.cell? ⟨g, 18, none⟩ = some (.string n) ∧ w.cell? ⟨g, 19, none⟩ = some q :=
  ⟨by rw [whole_cell hw]; exact f20_high h 0, by rw [whole_cell hw]; exact f20_high h 1, by rw [whole_cell hw]; exact f20_high h 2, by rw [whole_cell hw]; exact f20_high h 3⟩

theorem f20_one {fs cs : Array Value} {d q : Value} {b : Bool} {n : ByteArray} (h : F20 fs cs d b n q) : fs.all (·.oneCell') = true := by
  rw [h.all, Array.all_append, h.row.2]
  simp only [List.all_toArray, List.all_cons, List.all_nil, h.one.1, h.one.2, Bool.and_true, Bool.true_and]
  rfl

/-- A row of twenty cells, each of one cell. -/
def Twenty (fs : Array Value) : Prop := fs.size = 20 ∧ fs.all (·.oneCell') = true

theorem f20_twenty {fs cs : Array Value} {d q : Value} {b : Bool} {n : ByteArray} (h : F20 fs cs d b n q) : Twenty fs := ⟨f20_size h, f20_one h⟩

/-- A row whose first sixteen cells and whose last four are these. -/
theorem f20_of {fs cs : Array Value} {d q : Value} {b : Bool} {n : ByteArray} (hs : fs.size = 20) (h6 : Six10 cs) (hd : d.oneCell' = true) (hq : q.oneCell' = true) (hl : ∀ j, j < 16 → fs[j]? = cs[j]?) (h16 : fs[16]? = some d) (h17 : fs[17]? = some (.bool b)) (h18 : fs[18]? = some (.string n)) (h19 : fs[19]? = some q) : F20 fs cs d b n q := by
  refine ⟨h6, ⟨hd, hq⟩, ?_⟩
  apply Array.ext_getElem?
  intro j
  rcases Nat.lt_or_ge j 16 with hj | hj
  · rw [Array.getElem?_append_left (by rw [h6.1]; exact hj)]; exact hl j hj
  · rw [Array.getElem?_append_right (by rw [h6.1]; exact hj), h6.1]
    obtain ⟨i, rfl⟩ : ∃ i, j = 16 + i := ⟨j - 16, by omega⟩
    rw [Nat.add_sub_cancel_left]
    match i with
    | 0 => exact h16
    | 1 => exact h17
    | 2 => exact h18
    | 3 => exact h19
    | i + 4 => rw [Array.getElem?_eq_none (by omega), Array.getElem?_eq_none (by simp)]

/-- The argument reads as this Forth. -/
def FoL (w : World) (v : Value) (F : Fo) : Prop :=
  ∃ fs cs A0 c0 A9 c9, v = .agg fs ∧ F20 fs cs (.slice A0 F.l.length c0) F.c F.n (.slice A9 F.q.length c9) ∧ MchL w (.agg cs) F.m ∧ Dfs w (.slice A0 F.l.length c0) F.l ∧ Its w (.slice A9 F.q.length c9) F.q ∧ F.n.size ≤ maxLen

/-- The row reads as this Forth. -/
structure FoR (w : World) (fs cs : Array Value) (F : Fo) (A1 : Option Addr) (k1 : Nat) (A2 : Option Addr) (k2 : Nat) (A0 : Option Addr) (c0 : Nat) (A9 : Option Addr) (c9 : Nat) : Prop where
  row : F20 fs cs (.slice A0 F.l.length c0) F.c F.n (.slice A9 F.q.length c9)
  mach : MRow w cs F.m A1 k1 A2 k2
  defs : Dfs w (.slice A0 F.l.length c0) F.l
  room : F.l.length ≤ c0
  items : Its w (.slice A9 F.q.length c9) F.q
  text : F.n.size ≤ maxLen

/-- The value reads as this Forth. -/
def FoIn (w : World) (v : Value) (F : Fo) : Prop := ∃ fs cs A1 k1 A2 k2 A0 c0 A9 c9, v = .agg fs ∧ FoR w fs cs F A1 k1 A2 k2 A0 c0 A9 c9

theorem foR_below {w w' : World} {fs cs : Array Value} {F : Fo} {A1 : Option Addr} {k1 : Nat} {A2 : Option Addr} {k2 : Nat} {A0 : Option Addr} {c0 : Nat} {A9 : Option Addr} {c9 : Nat} (h : FoR w fs cs F A1 k1 A2 k2 A0 c0 A9 c9) (hb : Below w.heap.size w w') : FoR w' fs cs F A1 k1 A2 k2 A0 c0 A9 c9 :=
  ⟨h.row, mrow_below h.mach hb, dfs_below h.defs hb, h.room, its_below h.items hb, h.text⟩

theorem foIn_below {w w' : World} {v : Value} {F : Fo} (h : FoIn w v F) (hb : Below w.heap.size w w') : FoIn w' v F := by
  obtain ⟨fs, cs, A1, k1, A2, k2, A0, c0, A9, c9, e, h⟩ := h
  exact ⟨fs, cs, A1, k1, A2, k2, A0, c0, A9, c9, e, foR_below h hb⟩

theorem foL_below {w w' : World} {v : Value} {F : Fo} (h : FoL w v F) (hb : Below w.heap.size w w') : FoL w' v F := by
  obtain ⟨fs, cs, A0, c0, A9, c9, e, h1, h2, h3, h4, h5⟩ := h
  exact ⟨fs, cs, A0, c0, A9, c9, e, h1, mchL_below h2 hb, dfs_below h3 hb, its_below h4 hb, h5⟩

theorem foIn_cells {w : World} {v : Value} {F : Fo} (h : FoIn w v F) : ∃ fs, v = .agg fs ∧ Twenty fs := by
  obtain ⟨fs, cs, A1, k1, A2, k2, A0, c0, A9, c9, e, h⟩ := h
  exact ⟨fs, e, f20_twenty h.row⟩

theorem foL_cells {w : World} {v : Value} {F : Fo} (h : FoL w v F) : ∃ fs, v = .agg fs ∧ Twenty fs := by
  obtain ⟨fs, cs, A0, c0, A9, c9, e, h1, _⟩ := h
  exact ⟨fs, e, f20_twenty h1⟩

theorem foIn_b {w w' : World} {v : Value} {F : Fo} (hb : Below w.heap.size w w') (h : FoIn w v F) : FoIn w' v F := foIn_below h hb

theorem bool_of (p : Prop) : ∃ b : Bool, b = true ↔ p := by
  by_cases h : p
  · exact ⟨true, by simp [h]⟩
  · exact ⟨false, by simp [h]⟩

theorem biff_to {f : Nat} {args : Array Value} {w : World} {p : Prop} {mk : Bool} (hm : mk = true ↔ p) (h : Calls Tryz.prog f args w (BIff w p)) : Calls Tryz.prog f args w fun e w' => e = .returned (.bool mk) ∧ Below w.heap.size w w' :=
  h.mono fun e w' ⟨r, hr, he, hb⟩ => ⟨by rw [he, show r = mk from by rw [Bool.eq_iff_iff, hr, hm]], hb⟩

theorem biff_no {p : Prop} {w w' : World} (h : ¬ p) (hb : Below w.heap.size w w') : BIff w p (.returned (.bool false)) w' := ⟨false, by simp [h], rfl, hb⟩

theorem biff_yes {p : Prop} {w w' : World} (h : p) (hb : Below w.heap.size w w') : BIff w p (.returned (.bool true)) w' := ⟨true, by simp [h], rfl, hb⟩

theorem text_some {a : ByteArray} (h : ¬ a = ⟨#[]⟩) : ¬ a.toList = [] := fun e => h (by
  rw [Lib.toList_data] at e
  obtain ⟨⟨x⟩⟩ := a
  simp at e
  rw [e])

theorem mchIn_calls {w : World} {cs : Array Value} {m : Mc} (h : MchIn w (.agg cs) m) : ∃ A k, cs[13]? = some (.slice A m.c.length k) := by
  obtain ⟨A1, k1, A2, k2, A3, k3, A4, k4, A5, k5, A6, k6, A7, k7, A8, k8, A9, k9, A0, k0, e⟩ := mchIn_form h
  injection e with e
  subst e
  exact ⟨A0, k0, rfl⟩

theorem wpList_load_mF {ops : Array Oper} {rest : List Oper} {o : Oper} {a : Act} {w : World} {Q : Exit → Act → World → Prop} (hgd : o.guard = none) (x : Operand) (ho : o.op = .load 46 x)
    (g : Nat) (hx : a.eval x = .pointer (some ⟨g, 0, none⟩)) {cs : Array Value} (hg : w.rangeAt g 0 cs.toList) (hs : Six10 cs)
    (h : wpList Tryz.prog ops Q rest (a.put o.dst (.agg cs)) w) : wpList Tryz.prog ops Q (o :: rest) a w :=
  wpList_load_mid hgd 46 x ho g 0 hx cs.toList _ hg Tryz.underlying46 rfl (by rw [Array.length_toList, hs.1]; exact size_mI) (by simpa using h)

theorem wpList_load_mFw {ops : Array Oper} {rest : List Oper} {o : Oper} {a : Act} {w : World} {Q : Exit → Act → World → Prop} (hw : Region.wanted o (yielded ops a.tmps) = true) (x : Operand) (ho : o.op = .load 46 x)
    (g : Nat) (hx : a.eval x = .pointer (some ⟨g, 0, none⟩)) {cs : Array Value} (hg : w.rangeAt g 0 cs.toList) (hs : Six10 cs)
    (h : wpList Tryz.prog ops Q rest (a.put o.dst (.agg cs)) w) : wpList Tryz.prog ops Q (o :: rest) a w :=
  wpList_step fun _ hK => by rw [if_pos hw]; exact wp_load_mid 46 x ho g 0 hx cs.toList _ hg Tryz.underlying46 rfl (by rw [Array.length_toList, hs.1]; exact size_mI) (hK _ _ (by simpa using h))

theorem wpList_load_mFL {ops : Array Oper} {rest : List Oper} {o : Oper} {a : Act} {w : World} {Q : Exit → Act → World → Prop} (hgd : o.guard = none) (x : Operand) (ho : o.op = .load 32 x)
    (g : Nat) (hx : a.eval x = .pointer (some ⟨g, 0, none⟩)) {cs : Array Value} (hg : w.rangeAt g 0 cs.toList) (hs : Six10 cs)
    (h : wpList Tryz.prog ops Q rest (a.put o.dst (.agg cs)) w) : wpList Tryz.prog ops Q (o :: rest) a w :=
  wpList_load_mid hgd 32 x ho g 0 hx cs.toList _ hg Tryz.underlying32 rfl (by rw [Array.length_toList, hs.1]; exact size_mL) (by simpa using h)

theorem size_fI : (Tryz.prog.info? 50).map (·.size) = some 20 := by kernel_rfl

theorem size_fL : (Tryz.prog.info? 36).map (·.size) = some 20 := by kernel_rfl

theorem wpList_load_fI {ops : Array Oper} {rest : List Oper} {o : Oper} {a : Act} {w : World} {Q : Exit → Act → World → Prop} (hgd : o.guard = none) (x : Operand) (ho : o.op = .load 50 x)
    (g : Nat) (hx : a.eval x = .pointer (some ⟨g, 0, none⟩)) {t : TypeId} {fs : Array Value} (hg : Whole w g t fs) (hs : Twenty fs)
    (h : wpList Tryz.prog ops Q rest (a.put o.dst (.agg fs)) w) : wpList Tryz.prog ops Q (o :: rest) a w :=
  wpList_load_row hgd 50 x ho g hx t _ (0, 0) _ hg Tryz.underlying50 rfl (by rw [hs.1]; exact size_fI) h

theorem wpList_load_fIw {ops : Array Oper} {rest : List Oper} {o : Oper} {a : Act} {w : World} {Q : Exit → Act → World → Prop} (hw : Region.wanted o (yielded ops a.tmps) = true) (x : Operand) (ho : o.op = .load 50 x)
    (g : Nat) (hx : a.eval x = .pointer (some ⟨g, 0, none⟩)) {t : TypeId} {fs : Array Value} (hg : Whole w g t fs) (hs : Twenty fs)
    (h : wpList Tryz.prog ops Q rest (a.put o.dst (.agg fs)) w) : wpList Tryz.prog ops Q (o :: rest) a w :=
  wpList_step fun _ hK => by rw [if_pos hw]; exact wp_load_row 50 x ho g hx t _ (0, 0) _ hg Tryz.underlying50 rfl (by rw [hs.1]; exact size_fI) (hK _ _ h)

theorem wpList_load_fL {ops : Array Oper} {rest : List Oper} {o : Oper} {a : Act} {w : World} {Q : Exit → Act → World → Prop} (hgd : o.guard = none) (x : Operand) (ho : o.op = .load 36 x)
    (g : Nat) (hx : a.eval x = .pointer (some ⟨g, 0, none⟩)) {t : TypeId} {fs : Array Value} (hg : Whole w g t fs) (hs : Twenty fs)
    (h : wpList Tryz.prog ops Q rest (a.put o.dst (.agg fs)) w) : wpList Tryz.prog ops Q (o :: rest) a w :=
  wpList_load_row hgd 36 x ho g hx t _ (0, 0) _ hg Tryz.underlying36 rfl (by rw [hs.1]; exact size_fL) h

theorem yields_load_fI {ops : Array Oper} {S : World → Prop} {o : Oper} {a : Act} (hw : Region.wanted o (yielded ops a.tmps) = true) (x : Operand) (ho : o.op = .load 50 x)
    (g : Nat) (hx : a.eval x = .pointer (some ⟨g, 0, none⟩)) {t : TypeId} {fs : Array Value} (hS : ∀ w, S w → Whole w g t fs) (hs : Twenty fs) : YieldsIf Tryz.prog ops S o (.agg fs) a :=
  yields_load_row hw _ x ho g hx t fs _ hS Tryz.underlying50 rfl (by rw [hs.1]; exact size_fI)

theorem yields_load_fL {ops : Array Oper} {S : World → Prop} {o : Oper} {a : Act} (hw : Region.wanted o (yielded ops a.tmps) = true) (x : Operand) (ho : o.op = .load 36 x)
    (g : Nat) (hx : a.eval x = .pointer (some ⟨g, 0, none⟩)) {t : TypeId} {fs : Array Value} (hS : ∀ w, S w → Whole w g t fs) (hs : Twenty fs) : YieldsIf Tryz.prog ops S o (.agg fs) a :=
  yields_load_row hw _ x ho g hx t fs _ hS Tryz.underlying36 rfl (by rw [hs.1]; exact size_fL)

/-! Stores into a Forth's box. -/

/-- The row with these cells laid from a place on. -/
def putR : Array Value → Nat → List Value → Array Value
  | a, _, [] => a
  | a, o, v :: r => putR (a.setIfInBounds o v) (o + 1) r

theorem putR_size (a : Array Value) (o : Nat) (vs : List Value) : (putR a o vs).size = a.size := by
  induction vs generalizing a o with
  | nil => rfl
  | cons v r ih => unfold putR; rw [ih]; simp

theorem putR_out (a : Array Value) (o : Nat) (vs : List Value) (j : Nat) (h : j < o ∨ o + vs.length ≤ j) : (putR a o vs)[j]? = a[j]? := by
  induction vs generalizing a o with
  | nil => rfl
  | cons v r ih =>
    unfold putR
    simp only [List.length_cons] at h
    rw [ih _ _ (by omega), Array.getElem?_setIfInBounds_ne (by omega)]

theorem putR_in (a : Array Value) (o : Nat) (vs : List Value) (hl : o + vs.length ≤ a.size) (j : Nat) (h : j < vs.length) : (putR a o vs)[o + j]? = vs[j]? := by
  induction vs generalizing a o j with
  | nil => simp at h
  | cons v r ih =>
    unfold putR
    simp only [List.length_cons] at h hl
    cases j with
    | zero =>
      rw [putR_out _ _ _ _ (.inl (by omega))]
      simp only [Nat.add_zero, List.getElem?_cons_zero]
      rw [Array.getElem?_setIfInBounds_self_of_lt (by omega)]
    | succ j =>
      rw [show o + (j + 1) = (o + 1) + j by omega, ih _ _ (by simp; omega) j (by omega), List.getElem?_cons_succ]

theorem whole_setCells {w : World} {g : Nat} {t : TypeId} {old : Array Value} (h : Whole w g t old) (o : Nat) (vs : List Value) : Whole (w.setCells g o vs) g t (putR old o vs) := by
  induction vs generalizing w old o with
  | nil => exact h
  | cons v r ih => exact ih (whole_set h o v) (o + 1)

theorem whole_there {w : World} {g : Nat} {t : TypeId} {old : Array Value} (h : Whole w g t old) (o n : Nat) (hn : o + n ≤ old.size) : w.there g o n := fun j hj =>
  ⟨by rw [whole_cell h, Array.getElem?_eq_getElem (by omega)]; rfl, whole_free h _⟩

theorem only_setCells (w : World) (g o : Nat) (vs : List Value) : Only (fun k => k = g) w (w.setCells g o vs) := by
  induction vs generalizing w o with
  | nil => exact ⟨rfl, rfl, rfl, Nat.le_refl _, fun k hk hne => rfl⟩
  | cons v r ih => exact only_trans (mc_put (w := w) (G := g) (i := o) v) (ih _ _)

theorem wpList_store_mF {ops : Array Oper} {rest : List Oper} {o : Oper} {a : Act} {w : World} {Q : Exit → Act → World → Prop} (hgd : o.guard = none) (x y : Operand) (ho : o.op = .store 46 x y)
    (g : Nat) (cs : Array Value) (hx : a.eval x = .pointer (some ⟨g, 0, none⟩)) (hy : a.eval y = .agg cs) {t : TypeId} {old : Array Value} (hg : Whole w g t old) (ho' : old.size = 20) (hs : Six10 cs)
    (h : wpList Tryz.prog ops Q rest (a.put o.dst undef) (w.setCells g 0 cs.toList)) : wpList Tryz.prog ops Q (o :: rest) a w :=
  wpList_store_mid hgd 46 x y ho g 0 cs hx hy (whole_there hg 0 _ (by rw [ho', hs.1]; omega)) (by rw [hs.1]; exact size_mI) hs.2 h

theorem wpList_store_fR {ops : Array Oper} {rest : List Oper} {o : Oper} {a : Act} {w : World} {Q : Exit → Act → World → Prop} (hgd : o.guard = none) (x y : Operand) (ho : o.op = .store 50 x y)
    (g : Nat) (cs : Array Value) (hx : a.eval x = .pointer (some ⟨g, 0, none⟩)) (hy : a.eval y = .agg cs) {t : TypeId} {old : Array Value} (hg : Whole w g t old) (ho' : old.size = 20) (hs : Twenty cs)
    (h : wpList Tryz.prog ops Q rest (a.put o.dst undef) (w.setRow g cs)) : wpList Tryz.prog ops Q (o :: rest) a w :=
  wpList_store_row hgd 50 x y ho g cs hx hy t old hg (by rw [hs.1]; exact size_fI) (by rw [hs.1, ho']) hs.2 h

theorem wpList_store_fI {ops : Array Oper} {rest : List Oper} {o : Oper} {a : Act} {w : World} {Q : Exit → Act → World → Prop} (hgd : o.guard = none) (x y : Operand) (ho : o.op = .store 50 x y)
    (cs : Array Value) (hx : a.eval x = .pointer (some ⟨w.heap.size, 0, none⟩)) (hy : a.eval y = .agg cs) (t : TypeId) (hs : Twenty cs)
    (h : wpList Tryz.prog ops Q rest (a.put o.dst undef) (w.alloc (.cells cs t))) : wpList Tryz.prog ops Q (o :: rest) a (w.alloc (.cells #[.slice none 0 0, .slice none 0 0, .slice none 0 0, .slice none 0 0, .slice none 0 0, .int .i64 0, .int .i64 0, .string ⟨#[]⟩, .slice none 0 0, .slice none 0 0, .slice none 0 0, .int .i64 0, .slice none 0 0, .slice none 0 0, .int .i64 0, .int .i64 0, .slice none 0 0, .bool false, .string ⟨#[]⟩, .slice none 0 0] t)) :=
  wpList_store_row hgd 50 x y ho w.heap.size cs hx hy t #[.slice none 0 0, .slice none 0 0, .slice none 0 0, .slice none 0 0, .slice none 0 0, .int .i64 0, .int .i64 0, .string ⟨#[]⟩, .slice none 0 0, .slice none 0 0, .slice none 0 0, .int .i64 0, .slice none 0 0, .slice none 0 0, .int .i64 0, .int .i64 0, .slice none 0 0, .bool false, .string ⟨#[]⟩, .slice none 0 0] (heap_alloc_last w _) (by rw [hs.1]; exact size_fI) (by rw [hs.1]; rfl) hs.2 (by rw [World.setRow_alloc_new]; exact h)

theorem results_fI {fn : Func} {p : Tmp} (h : fn.results = #[.cell p 50]) (tmps : Array Value) (w : World) (g : Nat) (t : TypeId) (cs : Array Value)
    (hp : tmps.getD p undef = .pointer (some ⟨g, 0, none⟩)) (hg : Whole w g t cs) (hs : Twenty cs) : (results fn tmps).run Tryz.prog w = .ok (.agg cs) w :=
  results_cell_row h tmps w g t _ (0, 0) _ hp hg Tryz.underlying50 rfl (by rw [hs.1]; exact size_fI)

end Go.Proofs.YthnbaeamekolmaaGreatDoor

namespace Go.Proofs.YthnbaeamekolmaaGreatDoor
open Go.RowKit
set_option linter.unusedVariables false
set_option linter.unusedSimpArgs false

theorem cnt_start (Q : List Wd) : cntD Q 83 = 0 := by
  unfold cntD
  rw [List.drop_eq_nil_of_le (by rw [List.length_take]; omega)]
  rfl

theorem cnt_step {Q : List Wd} {i : Nat} (h : 83 ≤ i) (hi : i < Q.length) : cntD Q (i + 1) = cntD Q i + (if Q[i].k = 6 then 1 else 0) := by
  unfold cntD
  rw [List.take_succ_eq_append_getElem hi, List.drop_append_of_le_length (by rw [List.length_take]; omega), List.countP_append]
  congr 1
  by_cases e : Q[i].k = 6
  · rw [if_pos e]; simp [e]
  · rw [if_neg e]; simp [e]

set_option maxRecDepth 100000 in
set_option maxHeartbeats 8000000 in
theorem sDefs_any (cs : Array Value) (M : Mc) (A1 : Option Addr) (k1 : Nat) (A2 : Option Addr) (k2 : Nat) (L : List Df) (v : Value) (w : World) (hm : MRow w cs M A1 k1 A2 k2) (hd : dictB M.w = true) (hk4 : M.k.length ≤ 400) (hv : Dfs w v L) :
    Calls Tryz.prog 79 #[.agg cs, v] w (BIff w (SpecD M L)) := by
  have HM := Lib.hid hm
  have HV := Lib.hid hv
  have SIX := Lib.hid hm.six
  obtain ⟨d1, d2, d3, d4⟩ := dict_parts hd
  have HDI := Lib.hid hd
  obtain ⟨hl, A, c, rfl, _⟩ := hv
  unfold maxLen at hl
  have B0 : Hid (Below w.heap.size w (w.alloc (.cells cs 46))) := Lib.hid (below_alloc (Below.refl _ _) _)
  have V0 : Hid (Whole (w.alloc (.cells cs 46)) w.heap.size 46 cs) := Lib.hid (whole_new w _ _)
  clear hm d3 d4
  by_cases h20 : 20 < L.length
  · have t : (20 : Int) < (L.length : Int) := by omega
    go_enter Tryz.func79, Tryz.ntmps79
    go_wp2
    go_ret
    exact ⟨false, by unfold SpecD; simp; omega, rfl, B0.out⟩
  have t : ¬ (20 : Int) < (L.length : Int) := by omega
  go_enter Tryz.func79, Tryz.ntmps79
  go_wp2
  clear t
  go_loopw [5] (fun i wr => ∃ k : Nat, k ≤ L.length ∧ i = .int .i64 k ∧ (∀ j (hj : j < L.length), j < k → (Colon M L[j].w ∧ HasD M L[j]) ∧ ∀ h0 : 0 < j, L[j - 1].w < L[j].w) ∧ Whole wr w.heap.size 46 cs ∧ Below w.heap.size w wr) (fun i _ => L.length - (intOf i).toNat)
  case atStart => exact ⟨0, Nat.zero_le _, rfl, fun j hj h => absurd h (by omega), V0.out, B0.out⟩
  case round =>
    obtain ⟨k, hk, rfl, hok, hw, hb⟩ := hrel
    have HOK := Lib.hid hok
    have HB := Lib.hid hb
    have HW := Lib.hid hw
    clear hok hb hw
    by_cases hlt : k < L.length
    · obtain ⟨_, A', c', e', hc⟩ := dfs_below HV.out HB.out
      simp only [Value.slice.injEq, true_and] at e'
      obtain ⟨rfl, rfl⟩ := e'
      obtain ⟨ad, hA, hc2⟩ := hc (by omega)
      subst hA
      obtain ⟨a0, ua, a1, ia⟩ := hc2 k hlt
      have IA := Lib.hid ia
      have ki0 : (0 : Int) ≤ (k : Int) := by omega
      have ki1 : (k : Int) < (L.length : Int) := by omega
      obtain ⟨_, C, cc, rfl, _⟩ := ia
      have DEF : Hid (∀ W, Below wr.heap.size wr W → Calls Tryz.prog 149 #[.agg cs, .agg #[.int .i64 L[k].w, .slice C L[k].q.length cc]] W (BIff W (Colon M L[k].w ∧ HasD M L[k]))) := Lib.hid fun W B => sDef1_any cs M A1 k1 A2 k2 L[k] _ W (mrow_below HM.out (below_step HB.out B)) HDI.out hk4 (its_below IA.out B)
      by_cases k0 : k = 0
      · subst k0
        clear hc hc2
        rw [Nat.zero_mul, Addr.add_zero'] at a0 a1
        go_wp2
        refine wp_region_held_drew (S := fun w' => Whole w' w.heap.size 46 cs ∧ w'.cell? ad = some (.int .i64 L[0].w) ∧ w'.cell? ⟨ad.block, ad.off + 1, none⟩ = some (.slice C L[0].q.length cc)) (by kernel_rfl) ⟨whole_below HW.out (Below.refl _ _).drew, a0, a1⟩ (fun hHeld => ?_)
        refine wpAnyH_take (i := 0) (oi := { dst := some _, op := _, type := _, pos := _, after := _, guard := _ }) rfl (by kernel_rfl) (by kernel_rfl) (by kernel_rfl) (fun _ _ _ h => h) (yields_load_mI (by rfl) _ rfl _ rfl (fun w h => h.1) SIX.out) hHeld ?_
        try simp only [Act.put, List.setIfInBounds_toArray, List.set_cons_zero, List.set_cons_succ]
        refine wpAnyH_take (i := 1) (oi := { dst := some _, op := _, type := _, pos := _, after := _, guard := _ }) (v := ?_) rfl (by kernel_rfl) (by kernel_rfl) (by kernel_rfl) (fun _ _ _ h => h) (Or.inl ⟨by rfl, ?_⟩) hHeld ?_
        rotate_left 1
        · intro w hSw; go_simp; try with_reducible rfl
        try simp only [Act.put, List.setIfInBounds_toArray, List.set_cons_zero, List.set_cons_succ]
        refine wpAnyH_take (i := 2) (oi := { dst := some _, op := _, type := _, pos := _, after := _, guard := _ }) (v := ?_) rfl (by kernel_rfl) (by kernel_rfl) (by kernel_rfl) (fun _ _ _ h => h) (Or.inl ⟨by rfl, ?_⟩) hHeld ?_
        rotate_left 1
        · intro w hSw; go_simp; try with_reducible rfl
        try simp only [Act.put, List.setIfInBounds_toArray, List.set_cons_zero, List.set_cons_succ]
        refine wpAnyH_take (i := 3) (oi := { dst := some _, op := _, type := _, pos := _, after := _, guard := _ }) (v := ?_) rfl (by kernel_rfl) (by kernel_rfl) (by kernel_rfl) (fun _ _ _ h => h) (Or.inl ⟨by rfl, ?_⟩) hHeld ?_
        rotate_left 1
        · intro w hSw; go_simp; try with_reducible rfl
        try simp only [Act.put, List.setIfInBounds_toArray, List.set_cons_zero, List.set_cons_succ]
        refine wpAnyH_take (i := 4) (oi := { dst := some _, op := _, type := _, pos := _, after := _, guard := _ }) (v := ?_) rfl (by kernel_rfl) (by kernel_rfl) (by kernel_rfl) (fun _ _ _ h => h) (Or.inl ⟨by rfl, ?_⟩) hHeld ?_
        rotate_left 1
        · intro w hSw; obtain ⟨_, h0, h1⟩ := hSw; go_simp; try with_reducible rfl
        try simp only [Act.put, List.setIfInBounds_toArray, List.set_cons_zero, List.set_cons_succ]
        refine wpAnyH_ready (rs := [5]) (by kernel_rfl) (by simp) ?_
        refine AllReadyH.cons (o := { dst := some _, op := _, type := _, pos := _, after := _, guard := _ }) rfl (fun K hK => ?_) AllReadyH.nil
        go_simp
        refine (DEF.out _ (Below.refl _ _).drew).mono ?_
        rintro e w2 ⟨r, hr, rfl, hb2⟩
        have BQ : Below wr.heap.size wr w2 := ((Below.refl _ _).drew).trans hb2
        have B2 := Lib.hid (below_step HB.out BQ)
        have VW := Lib.hid (whole_below HW.out BQ)
        have HR := Lib.hid hr
        clear hr
        cases r
        · refine hK.out _ _ ⟨VW.out, cell_keptI BQ _ _ a0, cell_keptI BQ _ _ a1⟩ (fun hHeld => ?_)
          refine wpAnyH_take (i := 6) (oi := { dst := some _, op := _, type := _, pos := _, after := _, guard := _ }) (v := ?_) rfl (by kernel_rfl) (by kernel_rfl) (by kernel_rfl) (fun _ _ _ h => h) (Or.inl ⟨by rfl, ?_⟩) hHeld ?_
          rotate_left 1
          · intro w hSw; go_simp; try with_reducible rfl
          try simp only [Act.put, List.setIfInBounds_toArray, List.set_cons_zero, List.set_cons_succ]
          refine wpAnyH_take (i := 7) (oi := { dst := some _, op := _, type := _, pos := _, after := _, guard := _ }) (v := ?_) rfl (by kernel_rfl) (by kernel_rfl) (by kernel_rfl) (fun _ _ _ h => h) (Or.inl ⟨by rfl, ?_⟩) hHeld ?_
          rotate_left 1
          · intro w hSw; go_simp; try with_reducible rfl
          try simp only [Act.put, List.setIfInBounds_toArray, List.set_cons_zero, List.set_cons_succ]
          refine wpAnyH_take (i := 8) (oi := { dst := some _, op := _, type := _, pos := _, after := _, guard := _ }) (v := undef) rfl (by kernel_rfl) (by kernel_rfl) (by kernel_rfl) (fun _ _ _ h => h) (Or.inr ⟨by rfl, rfl⟩) hHeld ?_
          try simp only [Act.put, List.setIfInBounds_toArray, List.set_cons_zero, List.set_cons_succ]
          refine wpAnyH_take (i := 9) (oi := { dst := some _, op := _, type := _, pos := _, after := _, guard := _ }) (v := undef) rfl (by kernel_rfl) (by kernel_rfl) (by kernel_rfl) (fun _ _ _ h => h) (Or.inr ⟨by rfl, rfl⟩) hHeld ?_
          try simp only [Act.put, List.setIfInBounds_toArray, List.set_cons_zero, List.set_cons_succ]
          refine wpAnyH_take (i := 10) (oi := { dst := some _, op := _, type := _, pos := _, after := _, guard := _ }) (v := undef) rfl (by kernel_rfl) (by kernel_rfl) (by kernel_rfl) (fun _ _ _ h => h) (Or.inr ⟨by rfl, rfl⟩) hHeld ?_
          try simp only [Act.put, List.setIfInBounds_toArray, List.set_cons_zero, List.set_cons_succ]
          refine wpAnyH_take (i := 11) (oi := { dst := some _, op := _, type := _, pos := _, after := _, guard := _ }) (v := undef) rfl (by kernel_rfl) (by kernel_rfl) (by kernel_rfl) (fun _ _ _ h => h) (Or.inr ⟨by rfl, rfl⟩) hHeld ?_
          try simp only [Act.put, List.setIfInBounds_toArray, List.set_cons_zero, List.set_cons_succ]
          refine wpAnyH_take (i := 12) (oi := { dst := some _, op := _, type := _, pos := _, after := _, guard := _ }) (v := undef) rfl (by kernel_rfl) (by kernel_rfl) (by kernel_rfl) (fun _ _ _ h => h) (Or.inr ⟨by rfl, rfl⟩) hHeld ?_
          try simp only [Act.put, List.setIfInBounds_toArray, List.set_cons_zero, List.set_cons_succ]
          refine wpAnyH_take (i := 13) (oi := { dst := some _, op := _, type := _, pos := _, after := _, guard := _ }) (v := undef) rfl (by kernel_rfl) (by kernel_rfl) (by kernel_rfl) (fun _ _ _ h => h) (Or.inr ⟨by rfl, rfl⟩) hHeld ?_
          try simp only [Act.put, List.setIfInBounds_toArray, List.set_cons_zero, List.set_cons_succ]
          refine wpAnyH_take (i := 14) (oi := { dst := some _, op := _, type := _, pos := _, after := _, guard := _ }) (v := undef) rfl (by kernel_rfl) (by kernel_rfl) (by kernel_rfl) (fun _ _ _ h => h) (Or.inr ⟨by rfl, rfl⟩) hHeld ?_
          try simp only [Act.put, List.setIfInBounds_toArray, List.set_cons_zero, List.set_cons_succ]
          refine wpAnyH_take (i := 15) (oi := { dst := some _, op := _, type := _, pos := _, after := _, guard := _ }) (v := undef) rfl (by kernel_rfl) (by kernel_rfl) (by kernel_rfl) (fun _ _ _ h => h) (Or.inr ⟨by rfl, rfl⟩) hHeld ?_
          try simp only [Act.put, List.setIfInBounds_toArray, List.set_cons_zero, List.set_cons_succ]
          refine wpAnyH_take (i := 16) (oi := { dst := some _, op := _, type := _, pos := _, after := _, guard := _ }) (v := undef) rfl (by kernel_rfl) (by kernel_rfl) (by kernel_rfl) (fun _ _ _ h => h) (Or.inr ⟨by rfl, rfl⟩) hHeld ?_
          try simp only [Act.put, List.setIfInBounds_toArray, List.set_cons_zero, List.set_cons_succ]
          refine wpAnyH_take (i := 17) (oi := { dst := some _, op := _, type := _, pos := _, after := _, guard := _ }) (v := undef) rfl (by kernel_rfl) (by kernel_rfl) (by kernel_rfl) (fun _ _ _ h => h) (Or.inr ⟨by rfl, rfl⟩) hHeld ?_
          try simp only [Act.put, List.setIfInBounds_toArray, List.set_cons_zero, List.set_cons_succ]
          refine wpAnyH_take (i := 18) (oi := { dst := some _, op := _, type := _, pos := _, after := _, guard := _ }) (v := undef) rfl (by kernel_rfl) (by kernel_rfl) (by kernel_rfl) (fun _ _ _ h => h) (Or.inr ⟨by rfl, rfl⟩) hHeld ?_
          try simp only [Act.put, List.setIfInBounds_toArray, List.set_cons_zero, List.set_cons_succ]
          refine wpAnyH_take (i := 19) (oi := { dst := some _, op := _, type := _, pos := _, after := _, guard := _ }) (v := undef) rfl (by kernel_rfl) (by kernel_rfl) (by kernel_rfl) (fun _ _ _ h => h) (Or.inr ⟨by rfl, rfl⟩) hHeld ?_
          try simp only [Act.put, List.setIfInBounds_toArray, List.set_cons_zero, List.set_cons_succ]
          refine wpAnyH_take (i := 20) (oi := { dst := some _, op := _, type := _, pos := _, after := _, guard := _ }) (v := undef) rfl (by kernel_rfl) (by kernel_rfl) (by kernel_rfl) (fun _ _ _ h => h) (Or.inr ⟨by rfl, rfl⟩) hHeld ?_
          try simp only [Act.put, List.setIfInBounds_toArray, List.set_cons_zero, List.set_cons_succ]
          refine wpAnyH_take (i := 21) (oi := { dst := some _, op := _, type := _, pos := _, after := _, guard := _ }) (v := undef) rfl (by kernel_rfl) (by kernel_rfl) (by kernel_rfl) (fun _ _ _ h => h) (Or.inr ⟨by rfl, rfl⟩) hHeld ?_
          try simp only [Act.put, List.setIfInBounds_toArray, List.set_cons_zero, List.set_cons_succ]
          refine wpAnyH_take (i := 22) (oi := { dst := some _, op := _, type := _, pos := _, after := _, guard := _ }) (v := undef) rfl (by kernel_rfl) (by kernel_rfl) (by kernel_rfl) (fun _ _ _ h => h) (Or.inr ⟨by rfl, rfl⟩) hHeld ?_
          try simp only [Act.put, List.setIfInBounds_toArray, List.set_cons_zero, List.set_cons_succ]
          refine wpAnyH_take (i := 23) (oi := { dst := some _, op := _, type := _, pos := _, after := _, guard := _ }) (v := undef) rfl (by kernel_rfl) (by kernel_rfl) (by kernel_rfl) (fun _ _ _ h => h) (Or.inr ⟨by rfl, rfl⟩) hHeld ?_
          try simp only [Act.put, List.setIfInBounds_toArray, List.set_cons_zero, List.set_cons_succ]
          refine wpAnyH_take (i := 24) (oi := { dst := some _, op := _, type := _, pos := _, after := _, guard := _ }) (v := ?_) rfl (by kernel_rfl) (by kernel_rfl) (by kernel_rfl) (fun _ _ _ h => h) (Or.inl ⟨by rfl, ?_⟩) hHeld ?_
          rotate_left 1
          · intro w hSw; go_simp; try with_reducible rfl
          try simp only [Act.put, List.setIfInBounds_toArray, List.set_cons_zero, List.set_cons_succ]
          refine wpAnyH_done (by kernel_rfl) ?_ _
          go_wp2
          go_ret
          exact ⟨false, by simp only [Bool.false_eq_true, false_iff]; exact fun h => absurd (HR.out.2 (h.2.1 0 (by omega)).1) (by simp), rfl, B2.out⟩
        · refine hK.out _ _ ⟨VW.out, cell_keptI BQ _ _ a0, cell_keptI BQ _ _ a1⟩ (fun hHeld => ?_)
          refine wpAnyH_take (i := 6) (oi := { dst := some _, op := _, type := _, pos := _, after := _, guard := _ }) (v := ?_) rfl (by kernel_rfl) (by kernel_rfl) (by kernel_rfl) (fun _ _ _ h => h) (Or.inl ⟨by rfl, ?_⟩) hHeld ?_
          rotate_left 1
          · intro w hSw; go_simp; try with_reducible rfl
          try simp only [Act.put, List.setIfInBounds_toArray, List.set_cons_zero, List.set_cons_succ]
          refine wpAnyH_take (i := 7) (oi := { dst := some _, op := _, type := _, pos := _, after := _, guard := _ }) (v := ?_) rfl (by kernel_rfl) (by kernel_rfl) (by kernel_rfl) (fun _ _ _ h => h) (Or.inl ⟨by rfl, ?_⟩) hHeld ?_
          rotate_left 1
          · intro w hSw; go_simp; try with_reducible rfl
          try simp only [Act.put, List.setIfInBounds_toArray, List.set_cons_zero, List.set_cons_succ]
          refine wpAnyH_take (i := 8) (oi := { dst := some _, op := _, type := _, pos := _, after := _, guard := _ }) (v := ?_) rfl (by kernel_rfl) (by kernel_rfl) (by kernel_rfl) (fun _ _ _ h => h) (Or.inl ⟨by rfl, ?_⟩) hHeld ?_
          rotate_left 1
          · intro w hSw; go_simp; try with_reducible rfl
          try simp only [Act.put, List.setIfInBounds_toArray, List.set_cons_zero, List.set_cons_succ]
          refine wpAnyH_take (i := 9) (oi := { dst := some _, op := _, type := _, pos := _, after := _, guard := _ }) (v := ?_) rfl (by kernel_rfl) (by kernel_rfl) (by kernel_rfl) (fun _ _ _ h => h) (Or.inl ⟨by rfl, ?_⟩) hHeld ?_
          rotate_left 1
          · intro w hSw; go_simp; try with_reducible rfl
          try simp only [Act.put, List.setIfInBounds_toArray, List.set_cons_zero, List.set_cons_succ]
          refine wpAnyH_take (i := 10) (oi := { dst := some _, op := _, type := _, pos := _, after := _, guard := _ }) (v := ?_) rfl (by kernel_rfl) (by kernel_rfl) (by kernel_rfl) (fun _ _ _ h => h) (Or.inl ⟨by rfl, ?_⟩) hHeld ?_
          rotate_left 1
          · intro w hSw; go_simp; try with_reducible rfl
          try simp only [Act.put, List.setIfInBounds_toArray, List.set_cons_zero, List.set_cons_succ]
          refine wpAnyH_take (i := 11) (oi := { dst := some _, op := _, type := _, pos := _, after := _, guard := _ }) (v := undef) rfl (by kernel_rfl) (by kernel_rfl) (by kernel_rfl) (fun _ _ _ h => h) (Or.inr ⟨by rfl, rfl⟩) hHeld ?_
          try simp only [Act.put, List.setIfInBounds_toArray, List.set_cons_zero, List.set_cons_succ]
          refine wpAnyH_take (i := 12) (oi := { dst := some _, op := _, type := _, pos := _, after := _, guard := _ }) (v := undef) rfl (by kernel_rfl) (by kernel_rfl) (by kernel_rfl) (fun _ _ _ h => h) (Or.inr ⟨by rfl, rfl⟩) hHeld ?_
          try simp only [Act.put, List.setIfInBounds_toArray, List.set_cons_zero, List.set_cons_succ]
          refine wpAnyH_take (i := 13) (oi := { dst := some _, op := _, type := _, pos := _, after := _, guard := _ }) (v := undef) rfl (by kernel_rfl) (by kernel_rfl) (by kernel_rfl) (fun _ _ _ h => h) (Or.inr ⟨by rfl, rfl⟩) hHeld ?_
          try simp only [Act.put, List.setIfInBounds_toArray, List.set_cons_zero, List.set_cons_succ]
          refine wpAnyH_take (i := 14) (oi := { dst := some _, op := _, type := _, pos := _, after := _, guard := _ }) (v := undef) rfl (by kernel_rfl) (by kernel_rfl) (by kernel_rfl) (fun _ _ _ h => h) (Or.inr ⟨by rfl, rfl⟩) hHeld ?_
          try simp only [Act.put, List.setIfInBounds_toArray, List.set_cons_zero, List.set_cons_succ]
          refine wpAnyH_take (i := 15) (oi := { dst := some _, op := _, type := _, pos := _, after := _, guard := _ }) (v := undef) rfl (by kernel_rfl) (by kernel_rfl) (by kernel_rfl) (fun _ _ _ h => h) (Or.inr ⟨by rfl, rfl⟩) hHeld ?_
          try simp only [Act.put, List.setIfInBounds_toArray, List.set_cons_zero, List.set_cons_succ]
          refine wpAnyH_take (i := 16) (oi := { dst := some _, op := _, type := _, pos := _, after := _, guard := _ }) (v := undef) rfl (by kernel_rfl) (by kernel_rfl) (by kernel_rfl) (fun _ _ _ h => h) (Or.inr ⟨by rfl, rfl⟩) hHeld ?_
          try simp only [Act.put, List.setIfInBounds_toArray, List.set_cons_zero, List.set_cons_succ]
          refine wpAnyH_take (i := 17) (oi := { dst := some _, op := _, type := _, pos := _, after := _, guard := _ }) (v := undef) rfl (by kernel_rfl) (by kernel_rfl) (by kernel_rfl) (fun _ _ _ h => h) (Or.inr ⟨by rfl, rfl⟩) hHeld ?_
          try simp only [Act.put, List.setIfInBounds_toArray, List.set_cons_zero, List.set_cons_succ]
          refine wpAnyH_take (i := 18) (oi := { dst := some _, op := _, type := _, pos := _, after := _, guard := _ }) (v := undef) rfl (by kernel_rfl) (by kernel_rfl) (by kernel_rfl) (fun _ _ _ h => h) (Or.inr ⟨by rfl, rfl⟩) hHeld ?_
          try simp only [Act.put, List.setIfInBounds_toArray, List.set_cons_zero, List.set_cons_succ]
          refine wpAnyH_take (i := 19) (oi := { dst := some _, op := _, type := _, pos := _, after := _, guard := _ }) (v := undef) rfl (by kernel_rfl) (by kernel_rfl) (by kernel_rfl) (fun _ _ _ h => h) (Or.inr ⟨by rfl, rfl⟩) hHeld ?_
          try simp only [Act.put, List.setIfInBounds_toArray, List.set_cons_zero, List.set_cons_succ]
          refine wpAnyH_take (i := 20) (oi := { dst := some _, op := _, type := _, pos := _, after := _, guard := _ }) (v := undef) rfl (by kernel_rfl) (by kernel_rfl) (by kernel_rfl) (fun _ _ _ h => h) (Or.inr ⟨by rfl, rfl⟩) hHeld ?_
          try simp only [Act.put, List.setIfInBounds_toArray, List.set_cons_zero, List.set_cons_succ]
          refine wpAnyH_take (i := 21) (oi := { dst := some _, op := _, type := _, pos := _, after := _, guard := _ }) (v := undef) rfl (by kernel_rfl) (by kernel_rfl) (by kernel_rfl) (fun _ _ _ h => h) (Or.inr ⟨by rfl, rfl⟩) hHeld ?_
          try simp only [Act.put, List.setIfInBounds_toArray, List.set_cons_zero, List.set_cons_succ]
          refine wpAnyH_take (i := 22) (oi := { dst := some _, op := _, type := _, pos := _, after := _, guard := _ }) (v := undef) rfl (by kernel_rfl) (by kernel_rfl) (by kernel_rfl) (fun _ _ _ h => h) (Or.inr ⟨by rfl, rfl⟩) hHeld ?_
          try simp only [Act.put, List.setIfInBounds_toArray, List.set_cons_zero, List.set_cons_succ]
          refine wpAnyH_take (i := 23) (oi := { dst := some _, op := _, type := _, pos := _, after := _, guard := _ }) (v := ?_) rfl (by kernel_rfl) (by kernel_rfl) (by kernel_rfl) (fun _ _ _ h => h) (Or.inl ⟨by rfl, ?_⟩) hHeld ?_
          rotate_left 1
          · intro w hSw; go_simp; try with_reducible rfl
          try simp only [Act.put, List.setIfInBounds_toArray, List.set_cons_zero, List.set_cons_succ]
          refine wpAnyH_take (i := 24) (oi := { dst := some _, op := _, type := _, pos := _, after := _, guard := _ }) (v := ?_) rfl (by kernel_rfl) (by kernel_rfl) (by kernel_rfl) (fun _ _ _ h => h) (Or.inl ⟨by rfl, ?_⟩) hHeld ?_
          rotate_left 1
          · intro w hSw; go_simp; try with_reducible rfl
          try simp only [Act.put, List.setIfInBounds_toArray, List.set_cons_zero, List.set_cons_succ]
          refine wpAnyH_done (by kernel_rfl) ?_ _
          go_wp2
          go_roundw
          case rel => exact ⟨1, by omega, by go_num, fun j hj h => ⟨(by have e : j = 0 := (by omega); subst e; exact HR.out.1 rfl), fun h0 => absurd h0 (by omega)⟩, VW.out, B2.out⟩
          case measure => simp [intOf]; omega
      · obtain ⟨m, rfl⟩ : ∃ m, k = m + 1 := ⟨k - 1, by omega⟩
        obtain ⟨b0, ub, b1, ib⟩ := hc2 m (by omega)
        clear hc hc2 ib b1
        have HOKX : Hid (∀ r : Bool, (r = true ↔ (Colon M L[m + 1].w ∧ HasD M L[m + 1])) → r = true → L[m].w < L[m + 1].w → ∀ j (hj : j < L.length), j < m + 1 + 1 → (Colon M L[j].w ∧ HasD M L[j]) ∧ ∀ h0 : 0 < j, L[j - 1].w < L[j].w) := Lib.hid fun r h1 h2 h3 j hj h4 => by
          by_cases e : j = m + 1
          · subst e; exact ⟨h1.1 h2, fun _ => h3⟩
          · exact HOK.out j hj (by omega)
        have NOX : Hid (¬ (Colon M L[m + 1].w ∧ HasD M L[m + 1]) ∨ ¬ L[m].w < L[m + 1].w → ¬ SpecD M L) := Lib.hid fun h q => by
          have := q.2.1 (m + 1) hlt
          rcases h with h | h
          · exact h this.1
          · exact h (this.2 (by omega))
        have lw : IntKind.i64.wrap ((m : Int) + 1 - 1) = (m : Int) := by rw [show (m : Int) + 1 - 1 = (m : Int) by omega]; exact IntWalk.i64_in _ (by omega)
        have lw0 : IntKind.i64.wrap ((m : Int)) = (m : Int) := IntWalk.i64_in _ (by omega)
        have m0 : (0 : Int) ≤ (m : Int) := by omega
        have m1 : (m : Int) < (L.length : Int) := by omega
        have mp : (0 : Int) < (m : Int) + 1 := by omega
        have mp0 : (0 : Int) ≤ (m : Int) + 1 := by omega
        have mp1 : (m : Int) + 1 < (L.length : Int) := by omega
        generalize L[m + 1] = x at *
        generalize L[m] = y at *
        go_wp2
        refine wp_region_held_drew (S := fun w' => Whole w' w.heap.size 46 cs ∧ w'.cell? (ad.add ((m + 1) * 2)) = some (.int .i64 x.w) ∧ w'.cell? ⟨(ad.add ((m + 1) * 2)).block, (ad.add ((m + 1) * 2)).off + 1, none⟩ = some (.slice C x.q.length cc) ∧ w'.cell? (ad.add (m * 2)) = some (.int .i64 y.w)) (by kernel_rfl) ⟨whole_below HW.out (Below.refl _ _).drew, a0, a1, b0⟩ (fun hHeld => ?_)
        refine wpAnyH_take (i := 0) (oi := { dst := some _, op := _, type := _, pos := _, after := _, guard := _ }) rfl (by kernel_rfl) (by kernel_rfl) (by kernel_rfl) (fun _ _ _ h => h) (yields_load_mI (by rfl) _ rfl _ rfl (fun w h => h.1) SIX.out) hHeld ?_
        try simp only [Act.put, List.setIfInBounds_toArray, List.set_cons_zero, List.set_cons_succ]
        refine wpAnyH_take (i := 1) (oi := { dst := some _, op := _, type := _, pos := _, after := _, guard := _ }) (v := ?_) rfl (by kernel_rfl) (by kernel_rfl) (by kernel_rfl) (fun _ _ _ h => h) (Or.inl ⟨by rfl, ?_⟩) hHeld ?_
        rotate_left 1
        · intro w hSw; go_simp; try with_reducible rfl
        try simp only [Act.put, List.setIfInBounds_toArray, List.set_cons_zero, List.set_cons_succ]
        refine wpAnyH_take (i := 2) (oi := { dst := some _, op := _, type := _, pos := _, after := _, guard := _ }) (v := ?_) rfl (by kernel_rfl) (by kernel_rfl) (by kernel_rfl) (fun _ _ _ h => h) (Or.inl ⟨by rfl, ?_⟩) hHeld ?_
        rotate_left 1
        · intro w hSw; go_simp; try with_reducible rfl
        try simp only [Act.put, List.setIfInBounds_toArray, List.set_cons_zero, List.set_cons_succ]
        refine wpAnyH_take (i := 3) (oi := { dst := some _, op := _, type := _, pos := _, after := _, guard := _ }) (v := ?_) rfl (by kernel_rfl) (by kernel_rfl) (by kernel_rfl) (fun _ _ _ h => h) (Or.inl ⟨by rfl, ?_⟩) hHeld ?_
        rotate_left 1
        · intro w hSw; go_simp; try with_reducible rfl
        try simp only [Act.put, List.setIfInBounds_toArray, List.set_cons_zero, List.set_cons_succ]
        refine wpAnyH_take (i := 4) (oi := { dst := some _, op := _, type := _, pos := _, after := _, guard := _ }) (v := ?_) rfl (by kernel_rfl) (by kernel_rfl) (by kernel_rfl) (fun _ _ _ h => h) (Or.inl ⟨by rfl, ?_⟩) hHeld ?_
        rotate_left 1
        · intro w hSw; obtain ⟨_, h0, h1, _⟩ := hSw; go_simp; try with_reducible rfl
        try simp only [Act.put, List.setIfInBounds_toArray, List.set_cons_zero, List.set_cons_succ]
        refine wpAnyH_ready (rs := [5]) (by kernel_rfl) (by simp) ?_
        refine AllReadyH.cons (o := { dst := some _, op := _, type := _, pos := _, after := _, guard := _ }) rfl (fun K hK => ?_) AllReadyH.nil
        go_simp
        refine (DEF.out _ (Below.refl _ _).drew).mono ?_
        rintro e w2 ⟨r, hr, rfl, hb2⟩
        have BQ : Below wr.heap.size wr w2 := ((Below.refl _ _).drew).trans hb2
        have B2 := Lib.hid (below_step HB.out BQ)
        have VW := Lib.hid (whole_below HW.out BQ)
        have HR := Lib.hid hr
        clear hr
        cases r
        · refine hK.out _ _ ⟨VW.out, cell_keptI BQ _ _ a0, cell_keptI BQ _ _ a1, cell_keptI BQ _ _ b0⟩ (fun hHeld => ?_)
          refine wpAnyH_take (i := 6) (oi := { dst := some _, op := _, type := _, pos := _, after := _, guard := _ }) (v := ?_) rfl (by kernel_rfl) (by kernel_rfl) (by kernel_rfl) (fun _ _ _ h => h) (Or.inl ⟨by rfl, ?_⟩) hHeld ?_
          rotate_left 1
          · intro w hSw; go_simp; try with_reducible rfl
          try simp only [Act.put, List.setIfInBounds_toArray, List.set_cons_zero, List.set_cons_succ]
          refine wpAnyH_take (i := 7) (oi := { dst := some _, op := _, type := _, pos := _, after := _, guard := _ }) (v := ?_) rfl (by kernel_rfl) (by kernel_rfl) (by kernel_rfl) (fun _ _ _ h => h) (Or.inl ⟨by rfl, ?_⟩) hHeld ?_
          rotate_left 1
          · intro w hSw; go_simp; try with_reducible rfl
          try simp only [Act.put, List.setIfInBounds_toArray, List.set_cons_zero, List.set_cons_succ]
          refine wpAnyH_take (i := 8) (oi := { dst := some _, op := _, type := _, pos := _, after := _, guard := _ }) (v := undef) rfl (by kernel_rfl) (by kernel_rfl) (by kernel_rfl) (fun _ _ _ h => h) (Or.inr ⟨by rfl, rfl⟩) hHeld ?_
          try simp only [Act.put, List.setIfInBounds_toArray, List.set_cons_zero, List.set_cons_succ]
          refine wpAnyH_take (i := 9) (oi := { dst := some _, op := _, type := _, pos := _, after := _, guard := _ }) (v := undef) rfl (by kernel_rfl) (by kernel_rfl) (by kernel_rfl) (fun _ _ _ h => h) (Or.inr ⟨by rfl, rfl⟩) hHeld ?_
          try simp only [Act.put, List.setIfInBounds_toArray, List.set_cons_zero, List.set_cons_succ]
          refine wpAnyH_take (i := 10) (oi := { dst := some _, op := _, type := _, pos := _, after := _, guard := _ }) (v := undef) rfl (by kernel_rfl) (by kernel_rfl) (by kernel_rfl) (fun _ _ _ h => h) (Or.inr ⟨by rfl, rfl⟩) hHeld ?_
          try simp only [Act.put, List.setIfInBounds_toArray, List.set_cons_zero, List.set_cons_succ]
          refine wpAnyH_take (i := 11) (oi := { dst := some _, op := _, type := _, pos := _, after := _, guard := _ }) (v := undef) rfl (by kernel_rfl) (by kernel_rfl) (by kernel_rfl) (fun _ _ _ h => h) (Or.inr ⟨by rfl, rfl⟩) hHeld ?_
          try simp only [Act.put, List.setIfInBounds_toArray, List.set_cons_zero, List.set_cons_succ]
          refine wpAnyH_take (i := 12) (oi := { dst := some _, op := _, type := _, pos := _, after := _, guard := _ }) (v := undef) rfl (by kernel_rfl) (by kernel_rfl) (by kernel_rfl) (fun _ _ _ h => h) (Or.inr ⟨by rfl, rfl⟩) hHeld ?_
          try simp only [Act.put, List.setIfInBounds_toArray, List.set_cons_zero, List.set_cons_succ]
          refine wpAnyH_take (i := 13) (oi := { dst := some _, op := _, type := _, pos := _, after := _, guard := _ }) (v := undef) rfl (by kernel_rfl) (by kernel_rfl) (by kernel_rfl) (fun _ _ _ h => h) (Or.inr ⟨by rfl, rfl⟩) hHeld ?_
          try simp only [Act.put, List.setIfInBounds_toArray, List.set_cons_zero, List.set_cons_succ]
          refine wpAnyH_take (i := 14) (oi := { dst := some _, op := _, type := _, pos := _, after := _, guard := _ }) (v := undef) rfl (by kernel_rfl) (by kernel_rfl) (by kernel_rfl) (fun _ _ _ h => h) (Or.inr ⟨by rfl, rfl⟩) hHeld ?_
          try simp only [Act.put, List.setIfInBounds_toArray, List.set_cons_zero, List.set_cons_succ]
          refine wpAnyH_take (i := 15) (oi := { dst := some _, op := _, type := _, pos := _, after := _, guard := _ }) (v := undef) rfl (by kernel_rfl) (by kernel_rfl) (by kernel_rfl) (fun _ _ _ h => h) (Or.inr ⟨by rfl, rfl⟩) hHeld ?_
          try simp only [Act.put, List.setIfInBounds_toArray, List.set_cons_zero, List.set_cons_succ]
          refine wpAnyH_take (i := 16) (oi := { dst := some _, op := _, type := _, pos := _, after := _, guard := _ }) (v := undef) rfl (by kernel_rfl) (by kernel_rfl) (by kernel_rfl) (fun _ _ _ h => h) (Or.inr ⟨by rfl, rfl⟩) hHeld ?_
          try simp only [Act.put, List.setIfInBounds_toArray, List.set_cons_zero, List.set_cons_succ]
          refine wpAnyH_take (i := 17) (oi := { dst := some _, op := _, type := _, pos := _, after := _, guard := _ }) (v := undef) rfl (by kernel_rfl) (by kernel_rfl) (by kernel_rfl) (fun _ _ _ h => h) (Or.inr ⟨by rfl, rfl⟩) hHeld ?_
          try simp only [Act.put, List.setIfInBounds_toArray, List.set_cons_zero, List.set_cons_succ]
          refine wpAnyH_take (i := 18) (oi := { dst := some _, op := _, type := _, pos := _, after := _, guard := _ }) (v := undef) rfl (by kernel_rfl) (by kernel_rfl) (by kernel_rfl) (fun _ _ _ h => h) (Or.inr ⟨by rfl, rfl⟩) hHeld ?_
          try simp only [Act.put, List.setIfInBounds_toArray, List.set_cons_zero, List.set_cons_succ]
          refine wpAnyH_take (i := 19) (oi := { dst := some _, op := _, type := _, pos := _, after := _, guard := _ }) (v := undef) rfl (by kernel_rfl) (by kernel_rfl) (by kernel_rfl) (fun _ _ _ h => h) (Or.inr ⟨by rfl, rfl⟩) hHeld ?_
          try simp only [Act.put, List.setIfInBounds_toArray, List.set_cons_zero, List.set_cons_succ]
          refine wpAnyH_take (i := 20) (oi := { dst := some _, op := _, type := _, pos := _, after := _, guard := _ }) (v := undef) rfl (by kernel_rfl) (by kernel_rfl) (by kernel_rfl) (fun _ _ _ h => h) (Or.inr ⟨by rfl, rfl⟩) hHeld ?_
          try simp only [Act.put, List.setIfInBounds_toArray, List.set_cons_zero, List.set_cons_succ]
          refine wpAnyH_take (i := 21) (oi := { dst := some _, op := _, type := _, pos := _, after := _, guard := _ }) (v := undef) rfl (by kernel_rfl) (by kernel_rfl) (by kernel_rfl) (fun _ _ _ h => h) (Or.inr ⟨by rfl, rfl⟩) hHeld ?_
          try simp only [Act.put, List.setIfInBounds_toArray, List.set_cons_zero, List.set_cons_succ]
          refine wpAnyH_take (i := 22) (oi := { dst := some _, op := _, type := _, pos := _, after := _, guard := _ }) (v := undef) rfl (by kernel_rfl) (by kernel_rfl) (by kernel_rfl) (fun _ _ _ h => h) (Or.inr ⟨by rfl, rfl⟩) hHeld ?_
          try simp only [Act.put, List.setIfInBounds_toArray, List.set_cons_zero, List.set_cons_succ]
          refine wpAnyH_take (i := 23) (oi := { dst := some _, op := _, type := _, pos := _, after := _, guard := _ }) (v := undef) rfl (by kernel_rfl) (by kernel_rfl) (by kernel_rfl) (fun _ _ _ h => h) (Or.inr ⟨by rfl, rfl⟩) hHeld ?_
          try simp only [Act.put, List.setIfInBounds_toArray, List.set_cons_zero, List.set_cons_succ]
          refine wpAnyH_take (i := 24) (oi := { dst := some _, op := _, type := _, pos := _, after := _, guard := _ }) (v := ?_) rfl (by kernel_rfl) (by kernel_rfl) (by kernel_rfl) (fun _ _ _ h => h) (Or.inl ⟨by rfl, ?_⟩) hHeld ?_
          rotate_left 1
          · intro w hSw; go_simp; try with_reducible rfl
          try simp only [Act.put, List.setIfInBounds_toArray, List.set_cons_zero, List.set_cons_succ]
          refine wpAnyH_done (by kernel_rfl) ?_ _
          go_wp2
          go_ret
          exact ⟨false, by simp only [Bool.false_eq_true, false_iff]; exact NOX.out (.inl fun h => absurd (HR.out.2 h) (by simp)), rfl, B2.out⟩
        · by_cases hle : x.w ≤ y.w
          · refine hK.out _ _ ⟨VW.out, cell_keptI BQ _ _ a0, cell_keptI BQ _ _ a1, cell_keptI BQ _ _ b0⟩ (fun hHeld => ?_)
            refine wpAnyH_take (i := 6) (oi := { dst := some _, op := _, type := _, pos := _, after := _, guard := _ }) (v := ?_) rfl (by kernel_rfl) (by kernel_rfl) (by kernel_rfl) (fun _ _ _ h => h) (Or.inl ⟨by rfl, ?_⟩) hHeld ?_
            rotate_left 1
            · intro w hSw; obtain ⟨_, h0, _, h2⟩ := hSw; go_simp; try with_reducible rfl
            try simp only [Act.put, List.setIfInBounds_toArray, List.set_cons_zero, List.set_cons_succ]
            refine wpAnyH_take (i := 7) (oi := { dst := some _, op := _, type := _, pos := _, after := _, guard := _ }) (v := ?_) rfl (by kernel_rfl) (by kernel_rfl) (by kernel_rfl) (fun _ _ _ h => h) (Or.inl ⟨by rfl, ?_⟩) hHeld ?_
            rotate_left 1
            · intro w hSw; obtain ⟨_, h0, _, h2⟩ := hSw; go_simp; try with_reducible rfl
            try simp only [Act.put, List.setIfInBounds_toArray, List.set_cons_zero, List.set_cons_succ]
            refine wpAnyH_take (i := 8) (oi := { dst := some _, op := _, type := _, pos := _, after := _, guard := _ }) (v := ?_) rfl (by kernel_rfl) (by kernel_rfl) (by kernel_rfl) (fun _ _ _ h => h) (Or.inl ⟨by rfl, ?_⟩) hHeld ?_
            rotate_left 1
            · intro w hSw; obtain ⟨_, h0, _, h2⟩ := hSw; go_simp; try with_reducible rfl
            try simp only [Act.put, List.setIfInBounds_toArray, List.set_cons_zero, List.set_cons_succ]
            refine wpAnyH_take (i := 9) (oi := { dst := some _, op := _, type := _, pos := _, after := _, guard := _ }) (v := ?_) rfl (by kernel_rfl) (by kernel_rfl) (by kernel_rfl) (fun _ _ _ h => h) (Or.inl ⟨by rfl, ?_⟩) hHeld ?_
            rotate_left 1
            · intro w hSw; obtain ⟨_, h0, _, h2⟩ := hSw; go_simp; try with_reducible rfl
            try simp only [Act.put, List.setIfInBounds_toArray, List.set_cons_zero, List.set_cons_succ]
            refine wpAnyH_take (i := 10) (oi := { dst := some _, op := _, type := _, pos := _, after := _, guard := _ }) (v := ?_) rfl (by kernel_rfl) (by kernel_rfl) (by kernel_rfl) (fun _ _ _ h => h) (Or.inl ⟨by rfl, ?_⟩) hHeld ?_
            rotate_left 1
            · intro w hSw; obtain ⟨_, h0, _, h2⟩ := hSw; go_simp; try with_reducible rfl
            try simp only [Act.put, List.setIfInBounds_toArray, List.set_cons_zero, List.set_cons_succ]
            refine wpAnyH_take (i := 11) (oi := { dst := some _, op := _, type := _, pos := _, after := _, guard := _ }) (v := ?_) rfl (by kernel_rfl) (by kernel_rfl) (by kernel_rfl) (fun _ _ _ h => h) (Or.inl ⟨by rfl, ?_⟩) hHeld ?_
            rotate_left 1
            · intro w hSw; obtain ⟨_, h0, _, h2⟩ := hSw; go_simp; try with_reducible rfl
            try simp only [Act.put, List.setIfInBounds_toArray, List.set_cons_zero, List.set_cons_succ]
            refine wpAnyH_take (i := 12) (oi := { dst := some _, op := _, type := _, pos := _, after := _, guard := _ }) (v := ?_) rfl (by kernel_rfl) (by kernel_rfl) (by kernel_rfl) (fun _ _ _ h => h) (Or.inl ⟨by rfl, ?_⟩) hHeld ?_
            rotate_left 1
            · intro w hSw; obtain ⟨_, h0, _, h2⟩ := hSw; go_simp; try with_reducible rfl
            try simp only [Act.put, List.setIfInBounds_toArray, List.set_cons_zero, List.set_cons_succ]
            refine wpAnyH_take (i := 13) (oi := { dst := some _, op := _, type := _, pos := _, after := _, guard := _ }) (v := ?_) rfl (by kernel_rfl) (by kernel_rfl) (by kernel_rfl) (fun _ _ _ h => h) (Or.inl ⟨by rfl, ?_⟩) hHeld ?_
            rotate_left 1
            · intro w hSw; obtain ⟨_, h0, _, h2⟩ := hSw; go_simp; try with_reducible rfl
            try simp only [Act.put, List.setIfInBounds_toArray, List.set_cons_zero, List.set_cons_succ]
            refine wpAnyH_take (i := 14) (oi := { dst := some _, op := _, type := _, pos := _, after := _, guard := _ }) (v := ?_) rfl (by kernel_rfl) (by kernel_rfl) (by kernel_rfl) (fun _ _ _ h => h) (Or.inl ⟨by rfl, ?_⟩) hHeld ?_
            rotate_left 1
            · intro w hSw; obtain ⟨_, h0, _, h2⟩ := hSw; go_simp; try with_reducible rfl
            try simp only [Act.put, List.setIfInBounds_toArray, List.set_cons_zero, List.set_cons_succ]
            refine wpAnyH_take (i := 15) (oi := { dst := some _, op := _, type := _, pos := _, after := _, guard := _ }) (v := ?_) rfl (by kernel_rfl) (by kernel_rfl) (by kernel_rfl) (fun _ _ _ h => h) (Or.inl ⟨by rfl, ?_⟩) hHeld ?_
            rotate_left 1
            · intro w hSw; obtain ⟨_, h0, _, h2⟩ := hSw; go_simp; try with_reducible rfl
            try simp only [Act.put, List.setIfInBounds_toArray, List.set_cons_zero, List.set_cons_succ]
            refine wpAnyH_take (i := 16) (oi := { dst := some _, op := _, type := _, pos := _, after := _, guard := _ }) (v := ?_) rfl (by kernel_rfl) (by kernel_rfl) (by kernel_rfl) (fun _ _ _ h => h) (Or.inl ⟨by rfl, ?_⟩) hHeld ?_
            rotate_left 1
            · intro w hSw; obtain ⟨_, h0, _, h2⟩ := hSw; go_simp; try with_reducible rfl
            try simp only [Act.put, List.setIfInBounds_toArray, List.set_cons_zero, List.set_cons_succ]
            refine wpAnyH_take (i := 17) (oi := { dst := some _, op := _, type := _, pos := _, after := _, guard := _ }) (v := ?_) rfl (by kernel_rfl) (by kernel_rfl) (by kernel_rfl) (fun _ _ _ h => h) (Or.inl ⟨by rfl, ?_⟩) hHeld ?_
            rotate_left 1
            · intro w hSw; obtain ⟨_, h0, _, h2⟩ := hSw; go_simp; try with_reducible rfl
            try simp only [Act.put, List.setIfInBounds_toArray, List.set_cons_zero, List.set_cons_succ]
            refine wpAnyH_take (i := 18) (oi := { dst := some _, op := _, type := _, pos := _, after := _, guard := _ }) (v := ?_) rfl (by kernel_rfl) (by kernel_rfl) (by kernel_rfl) (fun _ _ _ h => h) (Or.inl ⟨by rfl, ?_⟩) hHeld ?_
            rotate_left 1
            · intro w hSw; obtain ⟨_, h0, _, h2⟩ := hSw; go_simp; try with_reducible rfl
            try simp only [Act.put, List.setIfInBounds_toArray, List.set_cons_zero, List.set_cons_succ]
            refine wpAnyH_take (i := 19) (oi := { dst := some _, op := _, type := _, pos := _, after := _, guard := _ }) (v := ?_) rfl (by kernel_rfl) (by kernel_rfl) (by kernel_rfl) (fun _ _ _ h => h) (Or.inl ⟨by rfl, ?_⟩) hHeld ?_
            rotate_left 1
            · intro w hSw; obtain ⟨_, h0, _, h2⟩ := hSw; go_simp; try with_reducible rfl
            try simp only [Act.put, List.setIfInBounds_toArray, List.set_cons_zero, List.set_cons_succ]
            refine wpAnyH_take (i := 20) (oi := { dst := some _, op := _, type := _, pos := _, after := _, guard := _ }) (v := ?_) rfl (by kernel_rfl) (by kernel_rfl) (by kernel_rfl) (fun _ _ _ h => h) (Or.inl ⟨by rfl, ?_⟩) hHeld ?_
            rotate_left 1
            · intro w hSw; obtain ⟨_, h0, _, h2⟩ := hSw; go_simp; try with_reducible rfl
            try simp only [Act.put, List.setIfInBounds_toArray, List.set_cons_zero, List.set_cons_succ]
            refine wpAnyH_take (i := 21) (oi := { dst := some _, op := _, type := _, pos := _, after := _, guard := _ }) (v := ?_) rfl (by kernel_rfl) (by kernel_rfl) (by kernel_rfl) (fun _ _ _ h => h) (Or.inl ⟨by rfl, ?_⟩) hHeld ?_
            rotate_left 1
            · intro w hSw; obtain ⟨_, h0, _, h2⟩ := hSw; go_simp; try with_reducible rfl
            try simp only [Act.put, List.setIfInBounds_toArray, List.set_cons_zero, List.set_cons_succ]
            refine wpAnyH_take (i := 22) (oi := { dst := some _, op := _, type := _, pos := _, after := _, guard := _ }) (v := ?_) rfl (by kernel_rfl) (by kernel_rfl) (by kernel_rfl) (fun _ _ _ h => h) (Or.inl ⟨by rfl, ?_⟩) hHeld ?_
            rotate_left 1
            · intro w hSw; obtain ⟨_, h0, _, h2⟩ := hSw; go_simp; try with_reducible rfl
            try simp only [Act.put, List.setIfInBounds_toArray, List.set_cons_zero, List.set_cons_succ]
            refine wpAnyH_take (i := 23) (oi := { dst := some _, op := _, type := _, pos := _, after := _, guard := _ }) (v := ?_) rfl (by kernel_rfl) (by kernel_rfl) (by kernel_rfl) (fun _ _ _ h => h) (Or.inl ⟨by rfl, ?_⟩) hHeld ?_
            rotate_left 1
            · intro w hSw; obtain ⟨_, h0, _, h2⟩ := hSw; go_simp; try with_reducible rfl
            try simp only [Act.put, List.setIfInBounds_toArray, List.set_cons_zero, List.set_cons_succ]
            refine wpAnyH_take (i := 24) (oi := { dst := some _, op := _, type := _, pos := _, after := _, guard := _ }) (v := ?_) rfl (by kernel_rfl) (by kernel_rfl) (by kernel_rfl) (fun _ _ _ h => h) (Or.inl ⟨by rfl, ?_⟩) hHeld ?_
            rotate_left 1
            · intro w hSw; obtain ⟨_, h0, _, h2⟩ := hSw; go_simp; try with_reducible rfl
            try simp only [Act.put, List.setIfInBounds_toArray, List.set_cons_zero, List.set_cons_succ]
            refine wpAnyH_done (by kernel_rfl) ?_ _
            go_wp2
            go_ret
            exact ⟨false, by simp only [Bool.false_eq_true, false_iff]; exact NOX.out (.inr (by omega)), rfl, B2.out⟩
          · refine hK.out _ _ ⟨VW.out, cell_keptI BQ _ _ a0, cell_keptI BQ _ _ a1, cell_keptI BQ _ _ b0⟩ (fun hHeld => ?_)
            refine wpAnyH_take (i := 6) (oi := { dst := some _, op := _, type := _, pos := _, after := _, guard := _ }) (v := ?_) rfl (by kernel_rfl) (by kernel_rfl) (by kernel_rfl) (fun _ _ _ h => h) (Or.inl ⟨by rfl, ?_⟩) hHeld ?_
            rotate_left 1
            · intro w hSw; obtain ⟨_, h0, _, h2⟩ := hSw; go_simp; try with_reducible rfl
            try simp only [Act.put, List.setIfInBounds_toArray, List.set_cons_zero, List.set_cons_succ]
            refine wpAnyH_take (i := 7) (oi := { dst := some _, op := _, type := _, pos := _, after := _, guard := _ }) (v := ?_) rfl (by kernel_rfl) (by kernel_rfl) (by kernel_rfl) (fun _ _ _ h => h) (Or.inl ⟨by rfl, ?_⟩) hHeld ?_
            rotate_left 1
            · intro w hSw; obtain ⟨_, h0, _, h2⟩ := hSw; go_simp; try with_reducible rfl
            try simp only [Act.put, List.setIfInBounds_toArray, List.set_cons_zero, List.set_cons_succ]
            refine wpAnyH_take (i := 8) (oi := { dst := some _, op := _, type := _, pos := _, after := _, guard := _ }) (v := ?_) rfl (by kernel_rfl) (by kernel_rfl) (by kernel_rfl) (fun _ _ _ h => h) (Or.inl ⟨by rfl, ?_⟩) hHeld ?_
            rotate_left 1
            · intro w hSw; obtain ⟨_, h0, _, h2⟩ := hSw; go_simp; try with_reducible rfl
            try simp only [Act.put, List.setIfInBounds_toArray, List.set_cons_zero, List.set_cons_succ]
            refine wpAnyH_take (i := 9) (oi := { dst := some _, op := _, type := _, pos := _, after := _, guard := _ }) (v := ?_) rfl (by kernel_rfl) (by kernel_rfl) (by kernel_rfl) (fun _ _ _ h => h) (Or.inl ⟨by rfl, ?_⟩) hHeld ?_
            rotate_left 1
            · intro w hSw; obtain ⟨_, h0, _, h2⟩ := hSw; go_simp; try with_reducible rfl
            try simp only [Act.put, List.setIfInBounds_toArray, List.set_cons_zero, List.set_cons_succ]
            refine wpAnyH_take (i := 10) (oi := { dst := some _, op := _, type := _, pos := _, after := _, guard := _ }) (v := ?_) rfl (by kernel_rfl) (by kernel_rfl) (by kernel_rfl) (fun _ _ _ h => h) (Or.inl ⟨by rfl, ?_⟩) hHeld ?_
            rotate_left 1
            · intro w hSw; obtain ⟨_, h0, _, h2⟩ := hSw; go_simp; try with_reducible rfl
            try simp only [Act.put, List.setIfInBounds_toArray, List.set_cons_zero, List.set_cons_succ]
            refine wpAnyH_take (i := 11) (oi := { dst := some _, op := _, type := _, pos := _, after := _, guard := _ }) (v := ?_) rfl (by kernel_rfl) (by kernel_rfl) (by kernel_rfl) (fun _ _ _ h => h) (Or.inl ⟨by rfl, ?_⟩) hHeld ?_
            rotate_left 1
            · intro w hSw; obtain ⟨_, h0, _, h2⟩ := hSw; go_simp; try with_reducible rfl
            try simp only [Act.put, List.setIfInBounds_toArray, List.set_cons_zero, List.set_cons_succ]
            refine wpAnyH_take (i := 12) (oi := { dst := some _, op := _, type := _, pos := _, after := _, guard := _ }) (v := ?_) rfl (by kernel_rfl) (by kernel_rfl) (by kernel_rfl) (fun _ _ _ h => h) (Or.inl ⟨by rfl, ?_⟩) hHeld ?_
            rotate_left 1
            · intro w hSw; obtain ⟨_, h0, _, h2⟩ := hSw; go_simp; try with_reducible rfl
            try simp only [Act.put, List.setIfInBounds_toArray, List.set_cons_zero, List.set_cons_succ]
            refine wpAnyH_take (i := 13) (oi := { dst := some _, op := _, type := _, pos := _, after := _, guard := _ }) (v := ?_) rfl (by kernel_rfl) (by kernel_rfl) (by kernel_rfl) (fun _ _ _ h => h) (Or.inl ⟨by rfl, ?_⟩) hHeld ?_
            rotate_left 1
            · intro w hSw; obtain ⟨_, h0, _, h2⟩ := hSw; go_simp; try with_reducible rfl
            try simp only [Act.put, List.setIfInBounds_toArray, List.set_cons_zero, List.set_cons_succ]
            refine wpAnyH_take (i := 14) (oi := { dst := some _, op := _, type := _, pos := _, after := _, guard := _ }) (v := ?_) rfl (by kernel_rfl) (by kernel_rfl) (by kernel_rfl) (fun _ _ _ h => h) (Or.inl ⟨by rfl, ?_⟩) hHeld ?_
            rotate_left 1
            · intro w hSw; obtain ⟨_, h0, _, h2⟩ := hSw; go_simp; try with_reducible rfl
            try simp only [Act.put, List.setIfInBounds_toArray, List.set_cons_zero, List.set_cons_succ]
            refine wpAnyH_take (i := 15) (oi := { dst := some _, op := _, type := _, pos := _, after := _, guard := _ }) (v := ?_) rfl (by kernel_rfl) (by kernel_rfl) (by kernel_rfl) (fun _ _ _ h => h) (Or.inl ⟨by rfl, ?_⟩) hHeld ?_
            rotate_left 1
            · intro w hSw; obtain ⟨_, h0, _, h2⟩ := hSw; go_simp; try with_reducible rfl
            try simp only [Act.put, List.setIfInBounds_toArray, List.set_cons_zero, List.set_cons_succ]
            refine wpAnyH_take (i := 16) (oi := { dst := some _, op := _, type := _, pos := _, after := _, guard := _ }) (v := ?_) rfl (by kernel_rfl) (by kernel_rfl) (by kernel_rfl) (fun _ _ _ h => h) (Or.inl ⟨by rfl, ?_⟩) hHeld ?_
            rotate_left 1
            · intro w hSw; obtain ⟨_, h0, _, h2⟩ := hSw; go_simp; try with_reducible rfl
            try simp only [Act.put, List.setIfInBounds_toArray, List.set_cons_zero, List.set_cons_succ]
            refine wpAnyH_take (i := 17) (oi := { dst := some _, op := _, type := _, pos := _, after := _, guard := _ }) (v := ?_) rfl (by kernel_rfl) (by kernel_rfl) (by kernel_rfl) (fun _ _ _ h => h) (Or.inl ⟨by rfl, ?_⟩) hHeld ?_
            rotate_left 1
            · intro w hSw; obtain ⟨_, h0, _, h2⟩ := hSw; go_simp; try with_reducible rfl
            try simp only [Act.put, List.setIfInBounds_toArray, List.set_cons_zero, List.set_cons_succ]
            refine wpAnyH_take (i := 18) (oi := { dst := some _, op := _, type := _, pos := _, after := _, guard := _ }) (v := ?_) rfl (by kernel_rfl) (by kernel_rfl) (by kernel_rfl) (fun _ _ _ h => h) (Or.inl ⟨by rfl, ?_⟩) hHeld ?_
            rotate_left 1
            · intro w hSw; obtain ⟨_, h0, _, h2⟩ := hSw; go_simp; try with_reducible rfl
            try simp only [Act.put, List.setIfInBounds_toArray, List.set_cons_zero, List.set_cons_succ]
            refine wpAnyH_take (i := 19) (oi := { dst := some _, op := _, type := _, pos := _, after := _, guard := _ }) (v := ?_) rfl (by kernel_rfl) (by kernel_rfl) (by kernel_rfl) (fun _ _ _ h => h) (Or.inl ⟨by rfl, ?_⟩) hHeld ?_
            rotate_left 1
            · intro w hSw; obtain ⟨_, h0, _, h2⟩ := hSw; go_simp; try with_reducible rfl
            try simp only [Act.put, List.setIfInBounds_toArray, List.set_cons_zero, List.set_cons_succ]
            refine wpAnyH_take (i := 20) (oi := { dst := some _, op := _, type := _, pos := _, after := _, guard := _ }) (v := ?_) rfl (by kernel_rfl) (by kernel_rfl) (by kernel_rfl) (fun _ _ _ h => h) (Or.inl ⟨by rfl, ?_⟩) hHeld ?_
            rotate_left 1
            · intro w hSw; obtain ⟨_, h0, _, h2⟩ := hSw; go_simp; try with_reducible rfl
            try simp only [Act.put, List.setIfInBounds_toArray, List.set_cons_zero, List.set_cons_succ]
            refine wpAnyH_take (i := 21) (oi := { dst := some _, op := _, type := _, pos := _, after := _, guard := _ }) (v := ?_) rfl (by kernel_rfl) (by kernel_rfl) (by kernel_rfl) (fun _ _ _ h => h) (Or.inl ⟨by rfl, ?_⟩) hHeld ?_
            rotate_left 1
            · intro w hSw; obtain ⟨_, h0, _, h2⟩ := hSw; go_simp; try with_reducible rfl
            try simp only [Act.put, List.setIfInBounds_toArray, List.set_cons_zero, List.set_cons_succ]
            refine wpAnyH_take (i := 22) (oi := { dst := some _, op := _, type := _, pos := _, after := _, guard := _ }) (v := ?_) rfl (by kernel_rfl) (by kernel_rfl) (by kernel_rfl) (fun _ _ _ h => h) (Or.inl ⟨by rfl, ?_⟩) hHeld ?_
            rotate_left 1
            · intro w hSw; obtain ⟨_, h0, _, h2⟩ := hSw; go_simp; try with_reducible rfl
            try simp only [Act.put, List.setIfInBounds_toArray, List.set_cons_zero, List.set_cons_succ]
            refine wpAnyH_take (i := 23) (oi := { dst := some _, op := _, type := _, pos := _, after := _, guard := _ }) (v := ?_) rfl (by kernel_rfl) (by kernel_rfl) (by kernel_rfl) (fun _ _ _ h => h) (Or.inl ⟨by rfl, ?_⟩) hHeld ?_
            rotate_left 1
            · intro w hSw; obtain ⟨_, h0, _, h2⟩ := hSw; go_simp; try with_reducible rfl
            try simp only [Act.put, List.setIfInBounds_toArray, List.set_cons_zero, List.set_cons_succ]
            refine wpAnyH_take (i := 24) (oi := { dst := some _, op := _, type := _, pos := _, after := _, guard := _ }) (v := ?_) rfl (by kernel_rfl) (by kernel_rfl) (by kernel_rfl) (fun _ _ _ h => h) (Or.inl ⟨by rfl, ?_⟩) hHeld ?_
            rotate_left 1
            · intro w hSw; obtain ⟨_, h0, _, h2⟩ := hSw; go_simp; try with_reducible rfl
            try simp only [Act.put, List.setIfInBounds_toArray, List.set_cons_zero, List.set_cons_succ]
            refine wpAnyH_done (by kernel_rfl) ?_ _
            go_wp2
            go_roundw
            case rel => exact ⟨m + 1 + 1, by omega, by go_num, HOKX.out true HR.out rfl (by omega), VW.out, B2.out⟩
            case measure => simp [intOf]; omega
    · obtain rfl : k = L.length := by omega
      clear hlt
      have v0 := whole_cell HW.out 0
      rw [HM.out.c0] at v0
      go_wp2
      go_loopw [6, 7] (fun n i wx => ∃ k : Nat, 83 ≤ k ∧ k ≤ M.w.length ∧ i = .int .i64 k ∧ n = .int .i64 (cntD M.w k : Nat) ∧ Below wr.heap.size wr wx) (fun _ i _ => M.w.length - (intOf i).toNat)
      case atStart => exact ⟨83, Nat.le_refl _, d2, rfl, by rw [cnt_start]; rfl, Below.refl _ _⟩
      case round =>
        obtain ⟨k, h83, hkm, rfl, rfl, hb⟩ := hrel
        have HB2 := Lib.hid hb
        have v0 := cell_keptI hb _ _ v0
        clear hb
        have cn : cntD M.w k ≤ 103 := by unfold cntD; refine Nat.le_trans List.countP_le_length ?_; rw [List.length_drop, List.length_take]; omega
        by_cases hlt : k < M.w.length
        · obtain ⟨_, _, Aw, kw, ew, _, hwc⟩ := wds_below HM.out.words (below_step HB.out HB2.out)
          simp only [Value.slice.injEq, true_and] at ew
          obtain ⟨rfl, rfl⟩ := ew
          obtain ⟨gw, hA, hwc2⟩ := hwc (by omega)
          subst hA
          obtain ⟨n0, n1, n2⟩ := hwc2 k hlt
          have CS := Lib.hid (cnt_step h83 hlt)
          have i0 : (0 : Int) ≤ (k : Int) := by omega
          have i1 : (k : Int) < (M.w.length : Int) := by omega
          clear hwc hwc2 n0 n2
          generalize M.w[k] = z at *
          by_cases h6 : z.k = 6
          · have CT : Hid (cntD M.w (k + 1) = cntD M.w k + 1) := Lib.hid (by rw [CS.out, if_pos h6])
            rw [h6] at n1
            generalize cntD M.w k = q at *
            go_wp2
            go_roundw
            case rel => exact ⟨k + 1, by omega, by omega, by go_num, by rw [CT.out]; go_num, HB2.out⟩
            case measure => simp [intOf]; omega
          · have CT : Hid (cntD M.w (k + 1) = cntD M.w k) := Lib.hid (by rw [CS.out, if_neg h6]; rfl)
            have t6 : (z.k == 6) = false := by rw [beq_eq_false_iff_ne]; exact h6
            generalize cntD M.w k = q at *
            go_wp2
            go_roundw
            case rel => exact ⟨k + 1, by omega, by omega, by go_num, by rw [CT.out], HB2.out⟩
            case measure => simp [intOf]; omega
        · obtain rfl : k = M.w.length := by omega
          have FINS : Hid ((((cntD M.w M.w.length : Nat) : Int) == (L.length : Int)) = true ↔ SpecD M L) := Lib.hid (by
            rw [beq_iff_eq]
            constructor
            · intro h; exact ⟨by omega, fun j hj => HOK.out j hj hj, by omega⟩
            · intro h; have := h.2.2; omega)
          generalize cntD M.w M.w.length = q at *
          obtain ⟨rr, hrr⟩ : ∃ rr : Bool, ((q : Int) == (L.length : Int)) = rr := ⟨_, rfl⟩
          have FR : Hid (rr = true ↔ SpecD M L) := Lib.hid (by rw [← hrr]; exact FINS.out)
          clear hlt
          go_wp2
          go_ret
          exact ⟨rr, FR.out, by first | rfl | rw [hrr], below_step HB.out HB2.out⟩

theorem mok_parts {M : Mc} (h : mOK M = true) : dictB M.w = true ∧ M.k.length ≤ 400 := by
  unfold mOK at h
  simp only [Bool.and_eq_true, decide_eq_true_eq] at h
  exact ⟨h.1, h.2.1⟩

theorem spec_short {M : Mc} {L : List Df} (h : SpecD M L) : L.length ≤ 20 := h.1

end Go.Proofs.YthnbaeamekolmaaGreatDoor

namespace Go.Proofs.YthnbaeamekolmaaGreatDoor
open Go.RowKit
set_option linter.unusedVariables false
set_option linter.unusedSimpArgs false

/-- The definitions behind the first, as the language's own part of a slice. -/
theorem dfs_tail {w : World} {A : Option Addr} {n c : Nat} {D : Df} {L : List Df} (h : Dfs w (.slice A n c) (D :: L)) (hc : n ≤ c) : Dfs w (.slice (if c = 1 then A else Option.map (fun x => x.add (1 * 2)) A) (n - 1) (c - 1)) L := by
  obtain ⟨hm, A', c', e, hr⟩ := h
  simp only [Value.slice.injEq] at e
  obtain ⟨rfl, rfl, rfl⟩ := e
  refine ⟨by simp at hm; omega, _, _, rfl, fun h0 => ?_⟩
  obtain ⟨ad, rfl, hd⟩ := hr (by simp)
  simp only [List.length_cons] at hc
  refine ⟨ad.add (1 * 2), by rw [if_neg (by omega)]; rfl, fun k hk => ?_⟩
  have q := hd (k + 1) (by simp; omega)
  rw [List.getElem_cons_succ] at q
  rw [Addr.add_add, show 1 * 2 + k * 2 = (k + 1) * 2 by omega]
  exact q

theorem go_at (M : Mc) {k : Nat} (hk : k < M.w.length) (R : List Df) : GoD M (M.w.drop k) k R ↔ if M.w[k].k = 6 then ∃ d ds, R = d :: ds ∧ d.w = k + 1 ∧ HasD M d ∧ GoD M (M.w.drop (k + 1)) (k + 1) ds else GoD M (M.w.drop (k + 1)) (k + 1) R := by
  rw [List.drop_eq_getElem_cons hk]
  exact Iff.rfl

theorem go_end (M : Mc) (R : List Df) : GoD M (M.w.drop M.w.length) M.w.length R ↔ R = [] := by
  rw [List.drop_length]
  exact Iff.rfl

set_option maxRecDepth 100000 in
set_option maxHeartbeats 1500000 in
theorem iDefsOK_any (cs : Array Value) (M : Mc) (A1 : Option Addr) (k1 : Nat) (A2 : Option Addr) (k2 : Nat) (L : List Df) (A0 : Option Addr) (n0 c0 : Nat) (w : World) (hm : MRow w cs M A1 k1 A2 k2) (hv : Dfs w (.slice A0 n0 c0) L) (hc : n0 ≤ c0) (ht : Tabs w) :
    Calls Tryz.prog 43 #[.agg cs, .slice A0 n0 c0] w (BIff w (mOK M = true ∧ GoD M M.w 0 L)) := by
  have HM := Lib.hid hm
  have HV := Lib.hid hv
  have HT := Lib.hid ht
  have six := hm.six
  have SIX := Lib.hid hm.six
  have B0 : Hid (Below w.heap.size w (w.alloc (.cells cs 46))) := Lib.hid (below_alloc (Below.refl _ _) _)
  have V0 : Whole (w.alloc (.cells cs 46)) w.heap.size 46 cs := whole_new w _ _
  clear hm hv ht
  go_enter Tryz.func43, Tryz.ntmps43
  go_wp2_with (first | (refine wpList_load_mI rfl _ rfl _ rfl (by assumption) (by assumption) ?_) | fail)
  refine (iMachineOK_any _ M _ (mchIn_below HM.out.all B0.out) (tabs_below HT.out B0.out)).mono ?_
  rintro e w1 ⟨rfl, hb⟩
  have B1 := Lib.hid (below_step B0.out hb)
  have V1 := whole_below V0 hb
  clear hb V0 six
  cases hmk : mOK M
  · go_wp2
    go_ret
    exact ⟨false, ⟨fun h => by simp at h, fun h => by rw [hmk] at h; simp at h⟩, rfl, B1.out⟩
  obtain ⟨hd, hk4⟩ := mok_parts hmk
  have HMK := Lib.hid hmk
  obtain ⟨d1, d2, _, _⟩ := dict_parts hd
  have HDI := Lib.hid hd
  have HV1 := Lib.hid V1
  have v0 := whole_cell V1 0
  rw [HM.out.c0] at v0
  clear hmk hd V1
  go_wp2
  clear v0
  go_loopw [5, 15] (fun o i wr => ∃ (k : Nat) (A : Option Addr) (n c : Nat) (R : List Df), k ≤ M.w.length ∧ i = .int .i64 k ∧ o = .slice A n c ∧ n ≤ c ∧ Dfs wr (.slice A n c) R ∧ (GoD M M.w 0 L ↔ GoD M (M.w.drop k) k R) ∧ Below w1.heap.size w1 wr) (fun _ i _ => M.w.length - (intOf i).toNat)
  case atStart => exact ⟨0, _, _, _, L, Nat.zero_le _, rfl, rfl, hc, dfs_below HV.out B1.out, Iff.rfl, Below.refl _ _⟩
  case round =>
    obtain ⟨k, A, n, c, R, hk, rfl, rfl, hnc, hr, hgo, hb⟩ := hrel
    have HR := Lib.hid hr
    have HGO := Lib.hid hgo
    have HB := Lib.hid hb
    have hnl : n = R.length := by obtain ⟨_, _, _, e, _⟩ := hr; injection e
    have VW : Hid (Whole wr w.heap.size 46 cs) := Lib.hid (whole_below HV1.out hb)
    have BW : Hid (Below w.heap.size w wr) := Lib.hid (below_step B1.out hb)
    clear hr hgo hb
    by_cases hlt : k < M.w.length
    · obtain ⟨_, hnm, Aw, kw, ew, _, hwc⟩ := wds_below HM.out.words BW.out
      simp only [Value.slice.injEq, true_and] at ew
      obtain ⟨rfl, rfl⟩ := ew
      obtain ⟨gw, hA, hwc2⟩ := hwc (by omega)
      subst hA
      obtain ⟨x0, x1, x2⟩ := hwc2 k hlt
      have i0 : (0 : Int) ≤ (k : Int) := by omega
      have i1 : (k : Int) < (M.w.length : Int) := by omega
      have GA := Lib.hid (go_at M hlt R)
      clear hwc hwc2 hnm
      have WK : Hid (∀ x : Wd, M.w[k] = x → x.k = 6 → M.w[k].k = 6) := Lib.hid fun x e h => by rw [e]; exact h
      obtain ⟨z, hz⟩ : ∃ z, M.w[k] = z := ⟨_, rfl⟩
      rw [hz] at x0 x1 x2 GA
      have WK6 := Lib.hid (WK.out z hz)
      clear hz WK
      by_cases h6 : z.k = 6
      rotate_left
      · have GN : Hid (GoD M M.w 0 L ↔ GoD M (M.w.drop (k + 1)) (k + 1) R) := Lib.hid (HGO.out.trans (by rw [GA.out, if_neg h6]))
        have t6 : (z.k != 6) = true := by rw [bne_iff_ne]; exact h6
        go_wp2
        go_roundw
        case rel => exact ⟨k + 1, _, _, _, R, by omega, by go_num, rfl, hnc, dfs_below HR.out (below_alloc (Below.refl _ _) _), GN.out, below_step HB.out (below_alloc (Below.refl _ _) _)⟩
        case measure => simp [intOf]; omega
      have K6 := WK6.out h6
      rw [h6] at x1
      have WX : Hid (Whole (wr.alloc (.cells cs 46)) wr.heap.size 46 cs) := Lib.hid (whole_new _ _ _)
      cases R with
      | nil =>
        obtain rfl : n = 0 := hnl
        have NO : Hid (¬ GoD M M.w 0 L) := Lib.hid fun h => by
          have := HGO.out.1 h
          rw [GA.out, if_pos h6] at this
          obtain ⟨_, _, e, _⟩ := this
          cases e
        have z0 : ((0 : Nat) : Int) = 0 := rfl
        go_wp2
        refine wp_region_held_drew (S := fun _ => True) (by kernel_rfl) trivial (fun hHeld => ?_)
        refine wpAnyH_take (i := 0) (oi := { dst := some _, op := _, type := _, pos := _, after := _, guard := _ }) (v := ?_) rfl (by kernel_rfl) (by kernel_rfl) (by kernel_rfl) (fun _ _ _ h => h) (Or.inl ⟨by rfl, ?_⟩) trivial ?_
        rotate_left 1
        · intro w hSw; go_simp; try with_reducible rfl
        try simp only [Act.put, List.setIfInBounds_toArray, List.set_cons_zero, List.set_cons_succ]
        refine wpAnyH_take (i := 1) (oi := { dst := some _, op := _, type := _, pos := _, after := _, guard := _ }) (v := ?_) rfl (by kernel_rfl) (by kernel_rfl) (by kernel_rfl) (fun _ _ _ h => h) (Or.inl ⟨by rfl, ?_⟩) trivial ?_
        rotate_left 1
        · intro w hSw; go_simp; try with_reducible rfl
        try simp only [Act.put, List.setIfInBounds_toArray, List.set_cons_zero, List.set_cons_succ]
        refine wpAnyH_take (i := 2) (oi := { dst := some _, op := _, type := _, pos := _, after := _, guard := _ }) (v := ?_) rfl (by kernel_rfl) (by kernel_rfl) (by kernel_rfl) (fun _ _ _ h => h) (Or.inl ⟨by rfl, ?_⟩) trivial ?_
        rotate_left 1
        · intro w hSw; go_simp; try with_reducible rfl
        try simp only [Act.put, List.setIfInBounds_toArray, List.set_cons_zero, List.set_cons_succ]
        refine wpAnyH_take (i := 3) (oi := { dst := some _, op := _, type := _, pos := _, after := _, guard := _ }) (v := ?_) rfl (by kernel_rfl) (by kernel_rfl) (by kernel_rfl) (fun _ _ _ h => h) (Or.inl ⟨by rfl, ?_⟩) trivial ?_
        rotate_left 1
        · intro w hSw; go_simp; try with_reducible rfl
        try simp only [Act.put, List.setIfInBounds_toArray, List.set_cons_zero, List.set_cons_succ]
        refine wpAnyH_take (i := 4) (oi := { dst := some _, op := _, type := _, pos := _, after := _, guard := _ }) (v := undef) rfl (by kernel_rfl) (by kernel_rfl) (by kernel_rfl) (fun _ _ _ h => h) (Or.inr ⟨by rfl, rfl⟩) trivial ?_
        try simp only [Act.put, List.setIfInBounds_toArray, List.set_cons_zero, List.set_cons_succ]
        refine wpAnyH_take (i := 5) (oi := { dst := some _, op := _, type := _, pos := _, after := _, guard := _ }) (v := undef) rfl (by kernel_rfl) (by kernel_rfl) (by kernel_rfl) (fun _ _ _ h => h) (Or.inr ⟨by rfl, rfl⟩) trivial ?_
        try simp only [Act.put, List.setIfInBounds_toArray, List.set_cons_zero, List.set_cons_succ]
        refine wpAnyH_take (i := 6) (oi := { dst := some _, op := _, type := _, pos := _, after := _, guard := _ }) (v := undef) rfl (by kernel_rfl) (by kernel_rfl) (by kernel_rfl) (fun _ _ _ h => h) (Or.inr ⟨by rfl, rfl⟩) trivial ?_
        try simp only [Act.put, List.setIfInBounds_toArray, List.set_cons_zero, List.set_cons_succ]
        refine wpAnyH_take (i := 7) (oi := { dst := some _, op := _, type := _, pos := _, after := _, guard := _ }) (v := undef) rfl (by kernel_rfl) (by kernel_rfl) (by kernel_rfl) (fun _ _ _ h => h) (Or.inr ⟨by rfl, rfl⟩) trivial ?_
        try simp only [Act.put, List.setIfInBounds_toArray, List.set_cons_zero, List.set_cons_succ]
        refine wpAnyH_take (i := 8) (oi := { dst := some _, op := _, type := _, pos := _, after := _, guard := _ }) (v := undef) rfl (by kernel_rfl) (by kernel_rfl) (by kernel_rfl) (fun _ _ _ h => h) (Or.inr ⟨by rfl, rfl⟩) trivial ?_
        try simp only [Act.put, List.setIfInBounds_toArray, List.set_cons_zero, List.set_cons_succ]
        refine wpAnyH_take (i := 9) (oi := { dst := some _, op := _, type := _, pos := _, after := _, guard := _ }) (v := undef) rfl (by kernel_rfl) (by kernel_rfl) (by kernel_rfl) (fun _ _ _ h => h) (Or.inr ⟨by rfl, rfl⟩) trivial ?_
        try simp only [Act.put, List.setIfInBounds_toArray, List.set_cons_zero, List.set_cons_succ]
        refine wpAnyH_take (i := 10) (oi := { dst := some _, op := _, type := _, pos := _, after := _, guard := _ }) (v := undef) rfl (by kernel_rfl) (by kernel_rfl) (by kernel_rfl) (fun _ _ _ h => h) (Or.inr ⟨by rfl, rfl⟩) trivial ?_
        try simp only [Act.put, List.setIfInBounds_toArray, List.set_cons_zero, List.set_cons_succ]
        refine wpAnyH_take (i := 11) (oi := { dst := some _, op := _, type := _, pos := _, after := _, guard := _ }) (v := ?_) rfl (by kernel_rfl) (by kernel_rfl) (by kernel_rfl) (fun _ _ _ h => h) (Or.inl ⟨by rfl, ?_⟩) trivial ?_
        rotate_left 1
        · intro w hSw; go_simp; try with_reducible rfl
        try simp only [Act.put, List.setIfInBounds_toArray, List.set_cons_zero, List.set_cons_succ]
        refine wpAnyH_take (i := 12) (oi := { dst := some _, op := _, type := _, pos := _, after := _, guard := _ }) (v := ?_) rfl (by kernel_rfl) (by kernel_rfl) (by kernel_rfl) (fun _ _ _ h => h) (Or.inl ⟨by rfl, ?_⟩) trivial ?_
        rotate_left 1
        · intro w hSw; go_simp; try with_reducible rfl
        try simp only [Act.put, List.setIfInBounds_toArray, List.set_cons_zero, List.set_cons_succ]
        refine wpAnyH_take (i := 13) (oi := { dst := some _, op := _, type := _, pos := _, after := _, guard := _ }) (v := undef) rfl (by kernel_rfl) (by kernel_rfl) (by kernel_rfl) (fun _ _ _ h => h) (Or.inr ⟨by rfl, rfl⟩) trivial ?_
        try simp only [Act.put, List.setIfInBounds_toArray, List.set_cons_zero, List.set_cons_succ]
        refine wpAnyH_take (i := 14) (oi := { dst := some _, op := _, type := _, pos := _, after := _, guard := _ }) (v := undef) rfl (by kernel_rfl) (by kernel_rfl) (by kernel_rfl) (fun _ _ _ h => h) (Or.inr ⟨by rfl, rfl⟩) trivial ?_
        try simp only [Act.put, List.setIfInBounds_toArray, List.set_cons_zero, List.set_cons_succ]
        refine wpAnyH_take (i := 15) (oi := { dst := some _, op := _, type := _, pos := _, after := _, guard := _ }) (v := undef) rfl (by kernel_rfl) (by kernel_rfl) (by kernel_rfl) (fun _ _ _ h => h) (Or.inr ⟨by rfl, rfl⟩) trivial ?_
        try simp only [Act.put, List.setIfInBounds_toArray, List.set_cons_zero, List.set_cons_succ]
        refine wpAnyH_take (i := 16) (oi := { dst := some _, op := _, type := _, pos := _, after := _, guard := _ }) (v := undef) rfl (by kernel_rfl) (by kernel_rfl) (by kernel_rfl) (fun _ _ _ h => h) (Or.inr ⟨by rfl, rfl⟩) trivial ?_
        try simp only [Act.put, List.setIfInBounds_toArray, List.set_cons_zero, List.set_cons_succ]
        refine wpAnyH_take (i := 17) (oi := { dst := some _, op := _, type := _, pos := _, after := _, guard := _ }) (v := undef) rfl (by kernel_rfl) (by kernel_rfl) (by kernel_rfl) (fun _ _ _ h => h) (Or.inr ⟨by rfl, rfl⟩) trivial ?_
        try simp only [Act.put, List.setIfInBounds_toArray, List.set_cons_zero, List.set_cons_succ]
        refine wpAnyH_take (i := 18) (oi := { dst := some _, op := _, type := _, pos := _, after := _, guard := _ }) (v := undef) rfl (by kernel_rfl) (by kernel_rfl) (by kernel_rfl) (fun _ _ _ h => h) (Or.inr ⟨by rfl, rfl⟩) trivial ?_
        try simp only [Act.put, List.setIfInBounds_toArray, List.set_cons_zero, List.set_cons_succ]
        refine wpAnyH_take (i := 19) (oi := { dst := some _, op := _, type := _, pos := _, after := _, guard := _ }) (v := ?_) rfl (by kernel_rfl) (by kernel_rfl) (by kernel_rfl) (fun _ _ _ h => h) (Or.inl ⟨by rfl, ?_⟩) trivial ?_
        rotate_left 1
        · intro w hSw; go_simp; try with_reducible rfl
        try simp only [Act.put, List.setIfInBounds_toArray, List.set_cons_zero, List.set_cons_succ]
        refine wpAnyH_done (by kernel_rfl) ?_ _
        go_wp2
        go_ret
        exact ⟨false, ⟨fun h => by simp at h, fun h => absurd h.2 NO.out⟩, rfl, below_step BW.out (below_alloc (Below.refl _ _) _).drew⟩
      | cons D ds =>
        have hr := HR.out
        obtain ⟨_, A', c', e', hc2⟩ := id hr
        simp only [Value.slice.injEq] at e'
        obtain ⟨rfl, rfl, rfl⟩ := e'
        obtain ⟨ad, hA, hd2⟩ := hc2 (by simp)
        subst hA
        obtain ⟨a0, u, a1, iu⟩ := hd2 0 (by simp)
        rw [Nat.zero_mul, Addr.add_zero'] at a0 a1
        simp only [List.getElem_cons_zero] at a0 iu
        have TL := Lib.hid (dfs_tail hr hnc)
        have IU := Lib.hid iu
        obtain ⟨_, Bu, cu, rfl, _⟩ := iu
        have NO1 : Hid (D.w ≠ (k : Int) + 1 ∨ ¬ HasD M D → ¬ GoD M M.w 0 L) := Lib.hid fun h q => by
          have := HGO.out.1 q
          rw [GA.out, if_pos h6] at this
          obtain ⟨d, es, e, e1, e2, _⟩ := this
          injection e with e3 e4
          subst e3
          rcases h with h | h
          · exact h e1
          · exact h e2
        have YES : Hid (D.w = (k : Int) + 1 → HasD M D → (GoD M M.w 0 L ↔ GoD M (M.w.drop (k + 1)) (k + 1) ds)) := Lib.hid fun e1 e2 => HGO.out.trans (by
          rw [GA.out, if_pos h6]
          constructor
          · rintro ⟨d, es, e, _, _, h⟩
            injection e with e3 e4
            subst e4
            exact h
          · intro h; exact ⟨D, ds, rfl, e1, e2, h⟩)
        obtain ⟨n, hn⟩ : ∃ n, (D :: ds).length = n := ⟨_, rfl⟩
        rw [hn] at hnc TL
        have n1 : 1 ≤ n := by rw [← hn]; simp
        rw [hn]
        have HN := Lib.hid hn
        clear hn hr hc2 hd2 HR hnl
        have nz : ((n : Int) == 0) = false := by rw [beq_eq_false_iff_ne]; omega
        have p0 : (0 : Int) < (n : Int) := by omega
        have pn : 0 < n := n1
        have p1 : (1 : Int) ≤ (n : Int) := by omega
        have lw : IntKind.i64.wrap ((k : Int) + 1) = (k : Int) + 1 := IntWalk.i64_in _ (by omega)
        go_wp2
        by_cases hw : D.w = (k : Int) + 1
        rotate_left
        · have tw : (D.w != (k : Int) + 1) = true := by rw [bne_iff_ne]; exact hw
          refine wp_region_held_drew (S := fun w' => w'.cell? ad = some (.int .i64 D.w)) (by kernel_rfl) (cell_keptI (below_alloc (Below.refl _ _) _).drew _ _ a0) (fun hHeld => ?_)
          refine wpAnyH_take (i := 0) (oi := { dst := some _, op := _, type := _, pos := _, after := _, guard := _ }) (v := ?_) rfl (by kernel_rfl) (by kernel_rfl) (by kernel_rfl) (fun _ _ _ h => h) (Or.inl ⟨by rfl, ?_⟩) hHeld ?_
          rotate_left 1
          · intro w hSw; have h0 : w.cell? ad = some (.int .i64 D.w) := hSw; go_simp; try with_reducible rfl
          try simp only [Act.put, List.setIfInBounds_toArray, List.set_cons_zero, List.set_cons_succ]
          refine wpAnyH_take (i := 1) (oi := { dst := some _, op := _, type := _, pos := _, after := _, guard := _ }) (v := ?_) rfl (by kernel_rfl) (by kernel_rfl) (by kernel_rfl) (fun _ _ _ h => h) (Or.inl ⟨by rfl, ?_⟩) hHeld ?_
          rotate_left 1
          · intro w hSw; have h0 : w.cell? ad = some (.int .i64 D.w) := hSw; go_simp; try with_reducible rfl
          try simp only [Act.put, List.setIfInBounds_toArray, List.set_cons_zero, List.set_cons_succ]
          refine wpAnyH_take (i := 2) (oi := { dst := some _, op := _, type := _, pos := _, after := _, guard := _ }) (v := ?_) rfl (by kernel_rfl) (by kernel_rfl) (by kernel_rfl) (fun _ _ _ h => h) (Or.inl ⟨by rfl, ?_⟩) hHeld ?_
          rotate_left 1
          · intro w hSw; have h0 : w.cell? ad = some (.int .i64 D.w) := hSw; go_simp; try with_reducible rfl
          try simp only [Act.put, List.setIfInBounds_toArray, List.set_cons_zero, List.set_cons_succ]
          refine wpAnyH_take (i := 3) (oi := { dst := some _, op := _, type := _, pos := _, after := _, guard := _ }) (v := ?_) rfl (by kernel_rfl) (by kernel_rfl) (by kernel_rfl) (fun _ _ _ h => h) (Or.inl ⟨by rfl, ?_⟩) hHeld ?_
          rotate_left 1
          · intro w hSw; have h0 : w.cell? ad = some (.int .i64 D.w) := hSw; go_simp; try with_reducible rfl
          try simp only [Act.put, List.setIfInBounds_toArray, List.set_cons_zero, List.set_cons_succ]
          refine wpAnyH_take (i := 4) (oi := { dst := some _, op := _, type := _, pos := _, after := _, guard := _ }) (v := ?_) rfl (by kernel_rfl) (by kernel_rfl) (by kernel_rfl) (fun _ _ _ h => h) (Or.inl ⟨by rfl, ?_⟩) hHeld ?_
          rotate_left 1
          · intro w hSw; have h0 : w.cell? ad = some (.int .i64 D.w) := hSw; go_simp; try with_reducible rfl
          try simp only [Act.put, List.setIfInBounds_toArray, List.set_cons_zero, List.set_cons_succ]
          refine wpAnyH_take (i := 5) (oi := { dst := some _, op := _, type := _, pos := _, after := _, guard := _ }) (v := ?_) rfl (by kernel_rfl) (by kernel_rfl) (by kernel_rfl) (fun _ _ _ h => h) (Or.inl ⟨by rfl, ?_⟩) hHeld ?_
          rotate_left 1
          · intro w hSw; have h0 : w.cell? ad = some (.int .i64 D.w) := hSw; go_simp; try with_reducible rfl
          try simp only [Act.put, List.setIfInBounds_toArray, List.set_cons_zero, List.set_cons_succ]
          refine wpAnyH_take (i := 6) (oi := { dst := some _, op := _, type := _, pos := _, after := _, guard := _ }) (v := ?_) rfl (by kernel_rfl) (by kernel_rfl) (by kernel_rfl) (fun _ _ _ h => h) (Or.inl ⟨by rfl, ?_⟩) hHeld ?_
          rotate_left 1
          · intro w hSw; have h0 : w.cell? ad = some (.int .i64 D.w) := hSw; go_simp; try with_reducible rfl
          try simp only [Act.put, List.setIfInBounds_toArray, List.set_cons_zero, List.set_cons_succ]
          refine wpAnyH_take (i := 7) (oi := { dst := some _, op := _, type := _, pos := _, after := _, guard := _ }) (v := ?_) rfl (by kernel_rfl) (by kernel_rfl) (by kernel_rfl) (fun _ _ _ h => h) (Or.inl ⟨by rfl, ?_⟩) hHeld ?_
          rotate_left 1
          · intro w hSw; have h0 : w.cell? ad = some (.int .i64 D.w) := hSw; go_simp; try with_reducible rfl
          try simp only [Act.put, List.setIfInBounds_toArray, List.set_cons_zero, List.set_cons_succ]
          refine wpAnyH_take (i := 8) (oi := { dst := some _, op := _, type := _, pos := _, after := _, guard := _ }) (v := ?_) rfl (by kernel_rfl) (by kernel_rfl) (by kernel_rfl) (fun _ _ _ h => h) (Or.inl ⟨by rfl, ?_⟩) hHeld ?_
          rotate_left 1
          · intro w hSw; have h0 : w.cell? ad = some (.int .i64 D.w) := hSw; go_simp; try with_reducible rfl
          try simp only [Act.put, List.setIfInBounds_toArray, List.set_cons_zero, List.set_cons_succ]
          refine wpAnyH_take (i := 9) (oi := { dst := some _, op := _, type := _, pos := _, after := _, guard := _ }) (v := ?_) rfl (by kernel_rfl) (by kernel_rfl) (by kernel_rfl) (fun _ _ _ h => h) (Or.inl ⟨by rfl, ?_⟩) hHeld ?_
          rotate_left 1
          · intro w hSw; have h0 : w.cell? ad = some (.int .i64 D.w) := hSw; go_simp; try with_reducible rfl
          try simp only [Act.put, List.setIfInBounds_toArray, List.set_cons_zero, List.set_cons_succ]
          refine wpAnyH_take (i := 10) (oi := { dst := some _, op := _, type := _, pos := _, after := _, guard := _ }) (v := ?_) rfl (by kernel_rfl) (by kernel_rfl) (by kernel_rfl) (fun _ _ _ h => h) (Or.inl ⟨by rfl, ?_⟩) hHeld ?_
          rotate_left 1
          · intro w hSw; have h0 : w.cell? ad = some (.int .i64 D.w) := hSw; go_simp; try with_reducible rfl
          try simp only [Act.put, List.setIfInBounds_toArray, List.set_cons_zero, List.set_cons_succ]
          refine wpAnyH_take (i := 11) (oi := { dst := some _, op := _, type := _, pos := _, after := _, guard := _ }) (v := ?_) rfl (by kernel_rfl) (by kernel_rfl) (by kernel_rfl) (fun _ _ _ h => h) (Or.inl ⟨by rfl, ?_⟩) hHeld ?_
          rotate_left 1
          · intro w hSw; have h0 : w.cell? ad = some (.int .i64 D.w) := hSw; go_simp; try with_reducible rfl
          try simp only [Act.put, List.setIfInBounds_toArray, List.set_cons_zero, List.set_cons_succ]
          refine wpAnyH_take (i := 12) (oi := { dst := some _, op := _, type := _, pos := _, after := _, guard := _ }) (v := ?_) rfl (by kernel_rfl) (by kernel_rfl) (by kernel_rfl) (fun _ _ _ h => h) (Or.inl ⟨by rfl, ?_⟩) hHeld ?_
          rotate_left 1
          · intro w hSw; have h0 : w.cell? ad = some (.int .i64 D.w) := hSw; go_simp; try with_reducible rfl
          try simp only [Act.put, List.setIfInBounds_toArray, List.set_cons_zero, List.set_cons_succ]
          refine wpAnyH_take (i := 13) (oi := { dst := some _, op := _, type := _, pos := _, after := _, guard := _ }) (v := undef) rfl (by kernel_rfl) (by kernel_rfl) (by kernel_rfl) (fun _ _ _ h => h) (Or.inr ⟨by rfl, rfl⟩) hHeld ?_
          try simp only [Act.put, List.setIfInBounds_toArray, List.set_cons_zero, List.set_cons_succ]
          refine wpAnyH_take (i := 14) (oi := { dst := some _, op := _, type := _, pos := _, after := _, guard := _ }) (v := undef) rfl (by kernel_rfl) (by kernel_rfl) (by kernel_rfl) (fun _ _ _ h => h) (Or.inr ⟨by rfl, rfl⟩) hHeld ?_
          try simp only [Act.put, List.setIfInBounds_toArray, List.set_cons_zero, List.set_cons_succ]
          refine wpAnyH_take (i := 15) (oi := { dst := some _, op := _, type := _, pos := _, after := _, guard := _ }) (v := undef) rfl (by kernel_rfl) (by kernel_rfl) (by kernel_rfl) (fun _ _ _ h => h) (Or.inr ⟨by rfl, rfl⟩) hHeld ?_
          try simp only [Act.put, List.setIfInBounds_toArray, List.set_cons_zero, List.set_cons_succ]
          refine wpAnyH_take (i := 16) (oi := { dst := some _, op := _, type := _, pos := _, after := _, guard := _ }) (v := undef) rfl (by kernel_rfl) (by kernel_rfl) (by kernel_rfl) (fun _ _ _ h => h) (Or.inr ⟨by rfl, rfl⟩) hHeld ?_
          try simp only [Act.put, List.setIfInBounds_toArray, List.set_cons_zero, List.set_cons_succ]
          refine wpAnyH_take (i := 17) (oi := { dst := some _, op := _, type := _, pos := _, after := _, guard := _ }) (v := undef) rfl (by kernel_rfl) (by kernel_rfl) (by kernel_rfl) (fun _ _ _ h => h) (Or.inr ⟨by rfl, rfl⟩) hHeld ?_
          try simp only [Act.put, List.setIfInBounds_toArray, List.set_cons_zero, List.set_cons_succ]
          refine wpAnyH_take (i := 18) (oi := { dst := some _, op := _, type := _, pos := _, after := _, guard := _ }) (v := undef) rfl (by kernel_rfl) (by kernel_rfl) (by kernel_rfl) (fun _ _ _ h => h) (Or.inr ⟨by rfl, rfl⟩) hHeld ?_
          try simp only [Act.put, List.setIfInBounds_toArray, List.set_cons_zero, List.set_cons_succ]
          refine wpAnyH_take (i := 19) (oi := { dst := some _, op := _, type := _, pos := _, after := _, guard := _ }) (v := ?_) rfl (by kernel_rfl) (by kernel_rfl) (by kernel_rfl) (fun _ _ _ h => h) (Or.inl ⟨by rfl, ?_⟩) hHeld ?_
          rotate_left 1
          · intro w hSw; have h0 : w.cell? ad = some (.int .i64 D.w) := hSw; go_simp; try with_reducible rfl
          try simp only [Act.put, List.setIfInBounds_toArray, List.set_cons_zero, List.set_cons_succ]
          refine wpAnyH_done (by kernel_rfl) ?_ _
          go_wp2
          go_ret
          exact ⟨false, ⟨fun h => by simp at h, fun h => absurd h.2 (NO1.out (.inl hw))⟩, rfl, below_step BW.out (below_alloc (Below.refl _ _) _).drew⟩
        · have tw : (D.w != (k : Int) + 1) = false := by rw [hw]; simp
          have HWK := Lib.hid hw
          clear hw
          have IH : Hid (∀ W, Below wr.heap.size wr W → Calls Tryz.prog 87 #[.agg cs, .agg #[.int .i64 D.w, .slice Bu D.q.length cu]] W (BIff W (HasD M D))) := Lib.hid fun W B => iHas_any cs M _ _ _ _ D _ W k (mrow_below HM.out (below_step BW.out B)) HDI.out hk4 (its_below IU.out B) HWK.out hlt K6
          refine wp_region_held_drew (S := fun w' => Whole w' w.heap.size 46 cs ∧ w'.cell? ad = some (.int .i64 D.w) ∧ w'.cell? ⟨ad.block, ad.off + 1, none⟩ = some (.slice Bu D.q.length cu)) (by kernel_rfl) ⟨whole_below VW.out (below_alloc (Below.refl _ _) _).drew, cell_keptI (below_alloc (Below.refl _ _) _).drew _ _ a0, cell_keptI (below_alloc (Below.refl _ _) _).drew _ _ a1⟩ (fun hHeld => ?_)
          refine wpAnyH_take (i := 0) (oi := { dst := some _, op := _, type := _, pos := _, after := _, guard := _ }) (v := ?_) rfl (by kernel_rfl) (by kernel_rfl) (by kernel_rfl) (fun _ _ _ h => h) (Or.inl ⟨by rfl, ?_⟩) hHeld ?_
          rotate_left 1
          · intro w hSw; obtain ⟨_, h0, h1⟩ := hSw; go_simp; try with_reducible rfl
          try simp only [Act.put, List.setIfInBounds_toArray, List.set_cons_zero, List.set_cons_succ]
          refine wpAnyH_take (i := 1) (oi := { dst := some _, op := _, type := _, pos := _, after := _, guard := _ }) (v := ?_) rfl (by kernel_rfl) (by kernel_rfl) (by kernel_rfl) (fun _ _ _ h => h) (Or.inl ⟨by rfl, ?_⟩) hHeld ?_
          rotate_left 1
          · intro w hSw; obtain ⟨_, h0, h1⟩ := hSw; go_simp; try with_reducible rfl
          try simp only [Act.put, List.setIfInBounds_toArray, List.set_cons_zero, List.set_cons_succ]
          refine wpAnyH_take (i := 2) (oi := { dst := some _, op := _, type := _, pos := _, after := _, guard := _ }) (v := ?_) rfl (by kernel_rfl) (by kernel_rfl) (by kernel_rfl) (fun _ _ _ h => h) (Or.inl ⟨by rfl, ?_⟩) hHeld ?_
          rotate_left 1
          · intro w hSw; obtain ⟨_, h0, h1⟩ := hSw; go_simp; try with_reducible rfl
          try simp only [Act.put, List.setIfInBounds_toArray, List.set_cons_zero, List.set_cons_succ]
          refine wpAnyH_take (i := 3) (oi := { dst := some _, op := _, type := _, pos := _, after := _, guard := _ }) (v := ?_) rfl (by kernel_rfl) (by kernel_rfl) (by kernel_rfl) (fun _ _ _ h => h) (Or.inl ⟨by rfl, ?_⟩) hHeld ?_
          rotate_left 1
          · intro w hSw; obtain ⟨_, h0, h1⟩ := hSw; go_simp; try with_reducible rfl
          try simp only [Act.put, List.setIfInBounds_toArray, List.set_cons_zero, List.set_cons_succ]
          refine wpAnyH_take (i := 4) (oi := { dst := some _, op := _, type := _, pos := _, after := _, guard := _ }) (v := ?_) rfl (by kernel_rfl) (by kernel_rfl) (by kernel_rfl) (fun _ _ _ h => h) (Or.inl ⟨by rfl, ?_⟩) hHeld ?_
          rotate_left 1
          · intro w hSw; obtain ⟨_, h0, h1⟩ := hSw; go_simp; try with_reducible rfl
          try simp only [Act.put, List.setIfInBounds_toArray, List.set_cons_zero, List.set_cons_succ]
          refine wpAnyH_take (i := 5) (oi := { dst := some _, op := _, type := _, pos := _, after := _, guard := _ }) (v := ?_) rfl (by kernel_rfl) (by kernel_rfl) (by kernel_rfl) (fun _ _ _ h => h) (Or.inl ⟨by rfl, ?_⟩) hHeld ?_
          rotate_left 1
          · intro w hSw; obtain ⟨_, h0, h1⟩ := hSw; go_simp; try with_reducible rfl
          try simp only [Act.put, List.setIfInBounds_toArray, List.set_cons_zero, List.set_cons_succ]
          refine wpAnyH_take (i := 6) (oi := { dst := some _, op := _, type := _, pos := _, after := _, guard := _ }) (v := ?_) rfl (by kernel_rfl) (by kernel_rfl) (by kernel_rfl) (fun _ _ _ h => h) (Or.inl ⟨by rfl, ?_⟩) hHeld ?_
          rotate_left 1
          · intro w hSw; obtain ⟨_, h0, h1⟩ := hSw; go_simp; try with_reducible rfl
          try simp only [Act.put, List.setIfInBounds_toArray, List.set_cons_zero, List.set_cons_succ]
          refine wpAnyH_take (i := 7) (oi := { dst := some _, op := _, type := _, pos := _, after := _, guard := _ }) (v := ?_) rfl (by kernel_rfl) (by kernel_rfl) (by kernel_rfl) (fun _ _ _ h => h) (Or.inl ⟨by rfl, ?_⟩) hHeld ?_
          rotate_left 1
          · intro w hSw; obtain ⟨_, h0, h1⟩ := hSw; go_simp; try with_reducible rfl
          try simp only [Act.put, List.setIfInBounds_toArray, List.set_cons_zero, List.set_cons_succ]
          refine wpAnyH_take (i := 8) (oi := { dst := some _, op := _, type := _, pos := _, after := _, guard := _ }) (v := ?_) rfl (by kernel_rfl) (by kernel_rfl) (by kernel_rfl) (fun _ _ _ h => h) (Or.inl ⟨by rfl, ?_⟩) hHeld ?_
          rotate_left 1
          · intro w hSw; obtain ⟨_, h0, h1⟩ := hSw; go_simp; try with_reducible rfl
          try simp only [Act.put, List.setIfInBounds_toArray, List.set_cons_zero, List.set_cons_succ]
          refine wpAnyH_take (i := 9) (oi := { dst := some _, op := _, type := _, pos := _, after := _, guard := _ }) (v := ?_) rfl (by kernel_rfl) (by kernel_rfl) (by kernel_rfl) (fun _ _ _ h => h) (Or.inl ⟨by rfl, ?_⟩) hHeld ?_
          rotate_left 1
          · intro w hSw; obtain ⟨_, h0, h1⟩ := hSw; go_simp; try with_reducible rfl
          try simp only [Act.put, List.setIfInBounds_toArray, List.set_cons_zero, List.set_cons_succ]
          refine wpAnyH_take (i := 10) (oi := { dst := some _, op := _, type := _, pos := _, after := _, guard := _ }) (v := ?_) rfl (by kernel_rfl) (by kernel_rfl) (by kernel_rfl) (fun _ _ _ h => h) (Or.inl ⟨by rfl, ?_⟩) hHeld ?_
          rotate_left 1
          · intro w hSw; obtain ⟨_, h0, h1⟩ := hSw; go_simp; try with_reducible rfl
          try simp only [Act.put, List.setIfInBounds_toArray, List.set_cons_zero, List.set_cons_succ]
          refine wpAnyH_take (i := 11) (oi := { dst := some _, op := _, type := _, pos := _, after := _, guard := _ }) (v := ?_) rfl (by kernel_rfl) (by kernel_rfl) (by kernel_rfl) (fun _ _ _ h => h) (Or.inl ⟨by rfl, ?_⟩) hHeld ?_
          rotate_left 1
          · intro w hSw; obtain ⟨_, h0, h1⟩ := hSw; go_simp; try with_reducible rfl
          try simp only [Act.put, List.setIfInBounds_toArray, List.set_cons_zero, List.set_cons_succ]
          refine wpAnyH_take (i := 12) (oi := { dst := some _, op := _, type := _, pos := _, after := _, guard := _ }) (v := ?_) rfl (by kernel_rfl) (by kernel_rfl) (by kernel_rfl) (fun _ _ _ h => h) (Or.inl ⟨by rfl, ?_⟩) hHeld ?_
          rotate_left 1
          · intro w hSw; obtain ⟨_, h0, h1⟩ := hSw; go_simp; try with_reducible rfl
          try simp only [Act.put, List.setIfInBounds_toArray, List.set_cons_zero, List.set_cons_succ]
          refine wpAnyH_take (i := 13) (oi := { dst := some _, op := _, type := _, pos := _, after := _, guard := _ }) rfl (by kernel_rfl) (by kernel_rfl) (by kernel_rfl) (fun _ _ _ h => h) (yields_load_mI (by rfl) _ rfl _ rfl (fun w h => h.1) SIX.out) hHeld ?_
          try simp only [Act.put, List.setIfInBounds_toArray, List.set_cons_zero, List.set_cons_succ]
          refine wpAnyH_take (i := 14) (oi := { dst := some _, op := _, type := _, pos := _, after := _, guard := _ }) (v := ?_) rfl (by kernel_rfl) (by kernel_rfl) (by kernel_rfl) (fun _ _ _ h => h) (Or.inl ⟨by rfl, ?_⟩) hHeld ?_
          rotate_left 1
          · intro w hSw; obtain ⟨_, h0, h1⟩ := hSw; go_simp; try with_reducible rfl
          try simp only [Act.put, List.setIfInBounds_toArray, List.set_cons_zero, List.set_cons_succ]
          refine wpAnyH_take (i := 15) (oi := { dst := some _, op := _, type := _, pos := _, after := _, guard := _ }) (v := ?_) rfl (by kernel_rfl) (by kernel_rfl) (by kernel_rfl) (fun _ _ _ h => h) (Or.inl ⟨by rfl, ?_⟩) hHeld ?_
          rotate_left 1
          · intro w hSw; obtain ⟨_, h0, h1⟩ := hSw; go_simp; try with_reducible rfl
          try simp only [Act.put, List.setIfInBounds_toArray, List.set_cons_zero, List.set_cons_succ]
          refine wpAnyH_take (i := 16) (oi := { dst := some _, op := _, type := _, pos := _, after := _, guard := _ }) (v := ?_) rfl (by kernel_rfl) (by kernel_rfl) (by kernel_rfl) (fun _ _ _ h => h) (Or.inl ⟨by rfl, ?_⟩) hHeld ?_
          rotate_left 1
          · intro w hSw; obtain ⟨_, h0, h1⟩ := hSw; go_simp; try with_reducible rfl
          try simp only [Act.put, List.setIfInBounds_toArray, List.set_cons_zero, List.set_cons_succ]
          refine wpAnyH_ready (rs := [17]) (by kernel_rfl) (by simp) ?_
          refine AllReadyH.cons (o := { dst := some _, op := _, type := _, pos := _, after := _, guard := _ }) rfl (fun K hK => ?_) AllReadyH.nil
          go_simp
          refine (IH.out _ (below_alloc (Below.refl _ _) _).drew).mono ?_
          rintro e w2 ⟨r, hr, rfl, hb2⟩
          have BQ : Below wr.heap.size wr w2 := ((below_alloc (Below.refl _ _) _).drew).trans (hb2.mono (by simp [World.drew] <;> omega))
          have B2 := Lib.hid (below_step BW.out BQ)
          have B3 := Lib.hid (below_step HB.out BQ)
          have VQ := Lib.hid (whole_below VW.out BQ)
          have HRR := Lib.hid hr
          have TL2 := Lib.hid (dfs_below TL.out BQ)
          clear hr hb2
          refine hK.out _ _ ⟨VQ.out, cell_keptI BQ _ _ a0, cell_keptI BQ _ _ a1⟩ (fun hHeld => ?_)
          cases r
          · refine wpAnyH_take (i := 18) (oi := { dst := some _, op := _, type := _, pos := _, after := _, guard := _ }) (v := ?_) rfl (by kernel_rfl) (by kernel_rfl) (by kernel_rfl) (fun _ _ _ h => h) (Or.inl ⟨by rfl, ?_⟩) hHeld ?_
            rotate_left 1
            · intro w hSw; go_simp; try with_reducible rfl
            try simp only [Act.put, List.setIfInBounds_toArray, List.set_cons_zero, List.set_cons_succ]
            refine wpAnyH_take (i := 19) (oi := { dst := some _, op := _, type := _, pos := _, after := _, guard := _ }) (v := ?_) rfl (by kernel_rfl) (by kernel_rfl) (by kernel_rfl) (fun _ _ _ h => h) (Or.inl ⟨by rfl, ?_⟩) hHeld ?_
            rotate_left 1
            · intro w hSw; go_simp; try with_reducible rfl
            try simp only [Act.put, List.setIfInBounds_toArray, List.set_cons_zero, List.set_cons_succ]
            refine wpAnyH_done (by kernel_rfl) ?_ _
            go_wp2
            go_ret
            exact ⟨false, ⟨fun h => by simp at h, fun h => absurd h.2 (NO1.out (.inr fun q => absurd (HRR.out.2 q) (by simp)))⟩, rfl, B2.out⟩
          · refine wpAnyH_take (i := 18) (oi := { dst := some _, op := _, type := _, pos := _, after := _, guard := _ }) (v := ?_) rfl (by kernel_rfl) (by kernel_rfl) (by kernel_rfl) (fun _ _ _ h => h) (Or.inl ⟨by rfl, ?_⟩) hHeld ?_
            rotate_left 1
            · intro w hSw; go_simp; try with_reducible rfl
            try simp only [Act.put, List.setIfInBounds_toArray, List.set_cons_zero, List.set_cons_succ]
            refine wpAnyH_take (i := 19) (oi := { dst := some _, op := _, type := _, pos := _, after := _, guard := _ }) (v := ?_) rfl (by kernel_rfl) (by kernel_rfl) (by kernel_rfl) (fun _ _ _ h => h) (Or.inl ⟨by rfl, ?_⟩) hHeld ?_
            rotate_left 1
            · intro w hSw; go_simp; try with_reducible rfl
            try simp only [Act.put, List.setIfInBounds_toArray, List.set_cons_zero, List.set_cons_succ]
            refine wpAnyH_done (by kernel_rfl) ?_ _
            have GN := Lib.hid (YES.out HWK.out (HRR.out.1 rfl))
            by_cases hc1 : c = 1
            · go_wp2
              go_roundw
              case rel => exact ⟨k + 1, _, _, _, ds, by omega, by go_num, rfl, by omega, by have h := TL2.out; simp [hc1] at h ⊢; exact h, GN.out, B3.out⟩
              case measure => simp [intOf]; omega
            · go_wp2
              go_roundw
              case rel => exact ⟨k + 1, _, _, _, ds, by omega, by go_num, rfl, by omega, by have h := TL2.out; simp [hc1] at h ⊢; exact h, GN.out, B3.out⟩
              case measure => simp [intOf]; omega
    · obtain rfl : k = M.w.length := by omega
      have GE : Hid (GoD M M.w 0 L ↔ R = []) := Lib.hid (HGO.out.trans (go_end M R))
      have EN : Hid (((n : Int) == 0) = true ↔ GoD M M.w 0 L) := Lib.hid (by
        rw [GE.out, beq_iff_eq, hnl]
        constructor
        · intro h; exact List.eq_nil_of_length_eq_zero (by omega)
        · rintro rfl; rfl)
      obtain ⟨rr, hrr⟩ : ∃ rr : Bool, ((n : Int) == 0) = rr := ⟨_, rfl⟩
      rw [hrr] at EN
      clear hlt hnl
      go_wp2
      go_ret
      exact ⟨rr, ⟨fun h => ⟨HMK.out, EN.out.1 h⟩, fun h => EN.out.2 h.2⟩, by first | rfl | rw [hrr], BW.out⟩

end Go.Proofs.YthnbaeamekolmaaGreatDoor
