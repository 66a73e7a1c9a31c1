/- FoldDeeds, impl's side: the map of the last deeds, keyed by an array. -/
import Derived.Test.YthhaimolcgkpaaaHiA
import Derived.Test.YthhaimolcgkpaaaHsI
import Derived.DeepKeys4
import Derived.Maps.OwnSet
namespace Go.Proofs.Ythhaimolcgkpaaa
open Go.RowKit
set_option linter.unusedVariables false
set_option linter.unusedSimpArgs false

theorem tgtLaid : laidOutB Try.prog = true := by kernel_rfl
theorem tgtRow : 97 < Try.prog.types.size := by decide +kernel
theorem tgtWide : (match Try.prog.underlying 97 with | some (.array _ _) | some (.struct _) => true | _ => false) = true := by kernel_rfl
set_option maxRecDepth 100000 in
theorem tgtLaw : Go.WideMaps.KeyLaw Try.prog 97 := deep_law_laid tgtLaid (m := 3) (by omega) tgtRow (by kernel_rfl) tgtWide
theorem tgtKeyed : Go.Maps.Keyed Try.prog 97 := Go.Maps.Keyed.of_law tgtLaw

/-- A key, as it reads. -/
def tlit (p a : Int) : Lit := .string (keyBytes [.int .i64 p, .int .i64 a])

theorem tgt_type : Try.prog.keyType 97 = true := by kernel_rfl
theorem tgt_cells : Try.prog.cellsOf 97 = 2 := by kernel_rfl
theorem tgt_one : Try.prog.cellsOf 3 = 1 := by kernel_rfl
theorem tgt_num : ∃ d, Try.prog.types.size = d + 1 := ⟨Try.prog.types.size - 1, by have := tgtRow; omega⟩

theorem tgt_lits (d : Nat) (p a : Int) (hp : (Lit.int .i64 p).wf = true) (ha : (Lit.int .i64 a).wf = true) : Try.prog.keyLits (d + 2) 97 [.int .i64 p, .int .i64 a] = some [.int .i64 p, .int .i64 a] := by
  simp [Program.keyLits, Try.underlying97, Try.underlying3, tgt_cells, tgt_one, hp, ha, List.range, List.range.loop]

theorem tgt_of (p a : Int) (hp : (Lit.int .i64 p).wf = true) (ha : (Lit.int .i64 a).wf = true) : keyOf Try.prog 97 (.agg #[.int .i64 p, .int .i64 a]) = some (tlit p a) := by
  obtain ⟨d, hd⟩ := tgt_num
  have h := tgt_lits d p a hp ha
  unfold keyOf
  rw [Try.underlying97]
  simp only [tgt_type, hd, Value.cells, Bool.true_and, Value.formed, Try.underlying97]
  simp [tgt_cells, h, tlit]

theorem wf_cell {n : Int} (h : cellB n = true) : (Lit.int .i64 n).wf = true := WalkArith.wf_i64 (by have := cellB_true.1 h; omega)

theorem tlit_inj {p a q b : Int} (hp : (Lit.int .i64 p).wf = true) (ha : (Lit.int .i64 a).wf = true) (hq : (Lit.int .i64 q).wf = true) (hb : (Lit.int .i64 b).wf = true) (h : tlit p a = tlit q b) : p = q ∧ a = b := by
  have h1 := tgt_of p a hp ha
  rw [h] at h1
  have h2 := tgtKeyed.inj h1 (tgt_of q b hq hb)
  simpa using h2

theorem tlit_key (p a : Int) (hp : (Lit.int .i64 p).wf = true) (ha : (Lit.int .i64 a).wf = true) : WideAt.IsKeyLit (tlit p a) := tgtKeyed.key (tgt_of p a hp ha)

/-- A deed as data. -/
def ddDat (x : Dd) : DataW Unit := .agg [.lit (.int .i64 x.p), .lit (.int .i64 x.a), .lit (.int .i64 x.b), .lit (.int .i64 x.r)]

/-- How a deed in a map reads. -/
def ddElem (v : Value) : Option (DataW Unit × List MemPlace) :=
  match v with
  | .agg ⟨[.int .i64 p, .int .i64 a, .int .i64 b, .int .i64 r]⟩ => some (ddDat ⟨p, a, b, r⟩, [])
  | _ => none

theorem ddElem_mk (x : Dd) : ddElem (.agg #[.int .i64 x.p, .int .i64 x.a, .int .i64 x.b, .int .i64 x.r]) = some (ddDat x, []) := rfl

theorem ddElem_inv {v : Value} {d : DataW Unit} {ps : List MemPlace} (h : ddElem v = some (d, ps)) : ∃ x : Dd, v = .agg #[.int .i64 x.p, .int .i64 x.a, .int .i64 x.b, .int .i64 x.r] ∧ d = ddDat x := by
  unfold ddElem at h
  split at h
  · rename_i p a b r
    simp only [Option.some.injEq, Prod.mk.injEq] at h
    exact ⟨⟨p, a, b, r⟩, rfl, h.1.symm⟩
  · cases h

theorem zeroDd (w : World) : (zeroValue 37).run Try.prog w = .ok (.agg #[.int .i64 0, .int .i64 0, .int .i64 0, .int .i64 0]) w := by kernel_rfl

theorem wpList_lookup_dd (w : World) {ops : Array Oper} {rest : List Oper} {o : Oper} {a : Act} {Q : Exit → Act → World → Prop} (hg : o.guard = none) (m x : Operand) (hop : o.op = Op.lookup 93 m x true)
    (b n : Nat) (D : DataW Unit) (hm : a.eval m = .map (some b)) (hown : w.ownsMap Try.prog 97 ddElem b n D) (key : Value) (kl : Lit) (hx : a.eval x = key) (hkey : keyOf Try.prog 97 key = some kl)
    (hK : ∀ y : Dd, D.atKey kl (ddDat noDd) = ddDat y → wpList Try.prog ops Q rest (a.put o.dst (.tuple #[.agg #[.int .i64 y.p, .int .i64 y.a, .int .i64 y.b, .int .i64 y.r], .bool (Go.Maps.has D kl)])) w) :
    wpList Try.prog ops Q (o :: rest) a w :=
  wpList_lookup_own_ok w hg m x 93 hop 97 37 tgtKeyed Try.underlying93 ddElem (zeroDd w) (ddDat noDd) [] (ddElem_mk noDd) b n D hm hown key kl hx hkey (fun v ps hv => by
    obtain ⟨y, rfl, hy⟩ := ddElem_inv hv
    exact hK y hy)

/-- The last of the first k deeds that writes cell i. -/
def lastW (Q : List Dd) (i : Int) : Nat → Option Dd
  | 0 => none
  | k + 1 => if (Q.getD k noDd).p = 1 ∧ (Q.getD k noDd).a = i then some (Q.getD k noDd) else lastW Q i k

theorem lastW_hit {Q : List Dd} {i : Int} {k : Nat} (hk : k < Q.length) (h : Q[k].p = 1 ∧ Q[k].a = i) : lastW Q i (k + 1) = some Q[k] := by
  rw [lastW, List.getD_eq_getElem?_getD, List.getElem?_eq_getElem hk]
  exact if_pos h

theorem lastW_miss {Q : List Dd} {i : Int} {k : Nat} (hk : k < Q.length) (h : ¬ (Q[k].p = 1 ∧ Q[k].a = i)) : lastW Q i (k + 1) = lastW Q i k := by
  rw [lastW, List.getD_eq_getElem?_getD, List.getElem?_eq_getElem hk]
  exact if_neg h

/-- What the map holds of each cell of a store. -/
def LatAt (D : DataW Unit) (Q : List Dd) (k : Nat) : Prop :=
  ∀ i : Nat, i < 8 → Go.Maps.has D (tlit 1 i) = (lastW Q i k).isSome ∧ ∀ x, lastW Q i k = some x → D.atKey (tlit 1 i) (ddDat noDd) = ddDat x

theorem latAt_none (Q : List Dd) : LatAt (.map []) Q 0 := fun i _ => ⟨rfl, fun x h => by cases h⟩

theorem latAt_next {D : DataW Unit} {Q : List Dd} {k : Nat} (h : LatAt D Q k) (hD : Go.Maps.IsMap D) (hk : k < Q.length) (hq : ddB Q[k] = true) : LatAt (D.put (tlit Q[k].p Q[k].a) (ddDat Q[k])) Q (k + 1) := by
  intro i hi
  rw [ddB_of] at hq
  simp only [Bool.and_eq_true] at hq
  obtain ⟨⟨⟨q1, q2⟩, _⟩, _⟩ := hq
  have w1 : (Lit.int .i64 Q[k].p).wf = true := WalkArith.wf_i64 (by have := of_inB q1; omega)
  have w2 := wf_cell q2
  have w3 : (Lit.int .i64 1).wf = true := by decide
  have w4 : (Lit.int .i64 (i : Int)).wf = true := WalkArith.wf_i64 (by omega)
  by_cases e : Q[k].p = 1 ∧ Q[k].a = i
  · rw [lastW_hit hk e, e.1, e.2]
    refine ⟨Go.Maps.has_put_same hD (tlit_key _ _ w3 w4) _, fun x hx => ?_⟩
    rw [Go.Maps.atKey_put_same hD (tlit_key _ _ w3 w4), Option.some.inj hx]
  · have hne : tlit 1 i ≠ tlit Q[k].p Q[k].a := fun q => by
      obtain ⟨e1, e2⟩ := tlit_inj w3 w4 w1 w2 q
      exact e ⟨e1.symm, e2.symm⟩
    rw [lastW_miss hk e, Go.Maps.has_put_other hne]
    refine ⟨(h i hi).1, fun x hx => ?_⟩
    rw [Go.Maps.atKey_put_other hne]
    exact (h i hi).2 x hx

/-- What the map of the last deeds leaves. -/
def LMapOf (w : World) (Q : List Dd) (e : Ending) (w' : World) : Prop :=
  ∃ (b n : Nat) (D : DataW Unit), e = .returned (.map (some b)) ∧ w'.ownsMap Try.prog 97 ddElem b n D ∧ LatAt D Q Q.length ∧ w.heap.size ≤ b ∧ Below w.heap.size w w'

theorem make_map0 (w : World) : (Instr.makeMap 93 none).run Try.prog w = .ok (.map (some w.heap.size)) (w.alloc (.map #[] 0)) := by
  simp [Instr.makeMap, run_underlying Try.underlying93, Result.andThen]

theorem dd_keyed {x : Dd} (h : ddB x = true) : keyOf Try.prog 97 (.agg #[.int .i64 x.p, .int .i64 x.a]) = some (tlit x.p x.a) := by
  rw [ddB_of] at h
  simp only [Bool.and_eq_true] at h
  exact tgt_of _ _ (WalkArith.wf_i64 (by have := of_inB h.1.1.1; omega)) (wf_cell h.1.1.2)

set_option maxRecDepth 100000 in
set_option maxHeartbeats 1000000 in
theorem latest_any6 (v : Value) (Q : List Dd) (w : World) (hv : Dds w v Q) (hd : ddsB Q = true) (hq : Q.length ≤ 4096) :
    Calls Try.prog 83 #[v] w (LMapOf w Q) := by
  have HV := Lib.hid hv
  have HDD := Lib.hid hd
  obtain ⟨l4, A4, k4, rfl, _⟩ := hv
  have hmm := make_map0
  clear hd l4
  go_enter Try.func83, Try.ntmps83
  go_wp2
  go_loopw [5, 9] (fun _ i wr => ∃ (k : Nat) (D : DataW Unit), k ≤ Q.length ∧ i = .int .i64 k ∧ wr.ownsMap Try.prog 97 ddElem w.heap.size k D ∧ LatAt D Q k ∧ Below w.heap.size w wr) (fun _ i _ => Q.length - (intOf i).toNat)
  case atStart => exact ⟨0, .map [], Nat.zero_le _, rfl, World.ownsMap_made _ _ _ _, latAt_none Q, below_alloc (Below.refl _ _) _⟩
  case round =>
    obtain ⟨k, D, hk, rfl, hm, hla, hb⟩ := hrel
    have HM := Lib.hid hm
    have HB := Lib.hid hb
    have HL := Lib.hid hla
    clear hm hb hla hmm
    by_cases hlt : k < Q.length
    · obtain ⟨_, A', cap', e', hc⟩ := dds_below HV.out HB.out
      simp only [Value.slice.injEq, true_and] at e'
      obtain ⟨rfl, rfl⟩ := e'
      obtain ⟨ad, rfl, hd⟩ := hc (by omega)
      obtain ⟨d0, d1, d2, d3⟩ := hd k hlt
      clear hc hd
      have hdk : ddB Q[k] = true := ddsB_at HDD.out (List.getElem_mem hlt)
      have NX := Lib.hid (latAt_next HL.out HM.out.isMap hlt hdk)
      have XK := Lib.hid (dd_keyed hdk)
      clear hdk
      generalize Q[k] = y at *
      obtain ⟨p, a, b, r⟩ := y
      simp only at *
      have M2 := Lib.hid (HM.out.alloc (.cells #[.int .i64 p, .int .i64 a, .int .i64 b, .int .i64 r] 37))
      have B2 := Lib.hid (below_alloc HB.out (.cells #[.int .i64 p, .int .i64 a, .int .i64 b, .int .i64 r] 37))
      go_wp2_with (first
        | (at_mapUpdate; refine wpList_mapUpdate_own _ rfl _ _ _ 93 rfl 97 37 tgtKeyed Try.underlying93 _ w.heap.size k D rfl M2.out (by unfold maxLen; omega) _ _ _ rfl rfl XK.out _ [] (ddElem_mk ⟨p, a, b, r⟩) ?_
           intro w2 hown2 hgrow2
           have B3 := Lib.hid (B2.out.grown hgrow2 B2.out.size (fun j hj => by cases hj; exact Nat.le_refl _))
           have M3 := Lib.hid hown2
           clear hown2 hgrow2))
      go_roundw
      case rel => exact ⟨k + 1, _, by omega, by go_num, M3.out, NX.out, B3.out⟩
      case measure => simp [intOf]; omega
    · obtain rfl : k = Q.length := by omega
      clear hlt
      go_wp2
      go_ret
      exact ⟨_, _, D, rfl, HM.out, HL.out, Nat.le_refl _, HB.out⟩

/-- The store with its first k cells as the last deeds leave them. -/
def turnTo (S : List Int) (Q : List Dd) (k : Nat) : List Int := (List.range S.length).map fun i => if i < k then (match lastW Q i Q.length with | some x => x.b | none => S.getD i 0) else S.getD i 0

theorem turnTo_len (S : List Int) (Q : List Dd) (k : Nat) : (turnTo S Q k).length = S.length := by unfold turnTo; simp

theorem turnTo_zero (S : List Int) (Q : List Dd) : turnTo S Q 0 = S := by
  apply List.ext_getElem
  · exact turnTo_len _ _ _
  · intro i h1 h2
    unfold turnTo
    simp [List.getD, h2]

theorem turnTo_at {S : List Int} {Q : List Dd} {k i : Nat} (h : i < (turnTo S Q k).length) : (turnTo S Q k)[i] = if i < k then (match lastW Q i Q.length with | some x => x.b | none => S.getD i 0) else S.getD i 0 := by
  unfold turnTo; simp

theorem turnTo_skip {S : List Int} {Q : List Dd} {k : Nat} (h : lastW Q k Q.length = none) : turnTo S Q (k + 1) = turnTo S Q k := by
  apply List.ext_getElem
  · rw [turnTo_len, turnTo_len]
  · intro i h1 h2
    rw [turnTo_at, turnTo_at]
    by_cases e : i = k
    · subst e; simp [h]
    · by_cases l : i < k
      · rw [if_pos (by omega), if_pos l]
      · rw [if_neg (by omega), if_neg l]

theorem turnTo_put {S : List Int} {Q : List Dd} {k : Nat} {x : Dd} (h : lastW Q k Q.length = some x) : turnTo S Q (k + 1) = (turnTo S Q k).set k x.b := by
  apply List.ext_getElem
  · rw [List.length_set, turnTo_len, turnTo_len]
  · intro i h1 h2
    rw [List.getElem_set, turnTo_at, turnTo_at]
    by_cases e : k = i
    · subst e; simp [h]
    · rw [if_neg e]
      by_cases l : i < k
      · rw [if_pos (by omega), if_pos l]
      · rw [if_neg (by omega), if_neg l]

theorem fold_at (S : List Int) (Q : List Dd) (h8 : S.length = 8) : ∀ k, k ≤ Q.length → ∀ i (hi : i < ((Q.take k).foldl foldD S).length), ((Q.take k).foldl foldD S)[i] = match lastW Q i k with | some x => x.b | none => S.getD i 0 := by
  intro k
  induction k with
  | zero =>
    intro _ i hi
    simp at hi
    simp [lastW, List.getD, hi]
  | succ k ih =>
    intro hk i hi
    have hi8 : i < 8 := by rw [foldl_len, h8] at hi; exact hi
    have hlt : k < Q.length := by omega
    have hi' : i < ((Q.take k).foldl foldD S).length := by rw [foldl_len, h8]; exact hi8
    have e := fold_next S Q k hlt
    by_cases c : Q[k].p = 1 ∧ Q[k].a = i
    · rw [lastW_hit hlt c]
      have hb : inB Q[k].a 0 7 = true := inB_of (by omega) (by omega)
      have e2 : (Q.take (k + 1)).foldl foldD S = ((Q.take k).foldl foldD S).set i Q[k].b := by rw [e]; unfold foldD; rw [if_pos ⟨c.1, hb⟩, c.2]; rfl
      simp only [e2, List.getElem_set_self]
    · rw [lastW_miss hlt c, ← ih (by omega) i hi']
      by_cases c2 : Q[k].p = 1 ∧ inB Q[k].a 0 7 = true
      · have hb := of_inB c2.2
        have e2 : (Q.take (k + 1)).foldl foldD S = ((Q.take k).foldl foldD S).set Q[k].a.toNat Q[k].b := by rw [e]; unfold foldD; rw [if_pos c2]
        simp only [e2]
        rw [List.getElem_set_ne (fun q => c ⟨c2.1, by omega⟩)]
      · have e2 : (Q.take (k + 1)).foldl foldD S = (Q.take k).foldl foldD S := by rw [e]; unfold foldD; rw [if_neg c2]
        simp only [e2]

theorem turnTo_end (S : List Int) (Q : List Dd) (h8 : S.length = 8) : turnTo S Q S.length = Q.foldl foldD S := by
  apply List.ext_getElem
  · rw [turnTo_len, foldl_len]
  · intro i h1 h2
    have h := fold_at S Q h8 Q.length (Nat.le_refl _) i (by rw [List.take_length]; exact h2)
    simp only [List.take_length] at h
    rw [h, turnTo_at, if_pos (by rw [turnTo_len] at h1; exact h1)]

end Go.Proofs.Ythhaimolcgkpaaa
