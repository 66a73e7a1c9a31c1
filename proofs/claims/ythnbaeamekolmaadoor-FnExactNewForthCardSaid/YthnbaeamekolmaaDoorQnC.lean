/- QnC: several of my texts, laid together: ImpB, CpA, HiA, McD, McE, MrW. -/
import Derived.Test.YthnbaeamekolmaaDoorQnB
import Derived.Test.YthnbaeamekolmaaDoorQnA
import Derived.Test.YthnbaeamekolmaaDoorDatD
import Derived.BigQuiet
namespace Go.Proofs.YthnbaeamekolmaaDoor
open Go.RowKit
set_option linter.unusedVariables false
set_option linter.unusedSimpArgs false

end Go.Proofs.YthnbaeamekolmaaDoor

namespace Go.Proofs.YthnbaeamekolmaaDoor
open Go.RowKit
set_option linter.unusedVariables false
set_option linter.unusedSimpArgs false

/-- 'copy(own, list)' where own was made of list's length. -/
theorem wpList_copy_whole {P : Program} {w : World} {ops : Array Oper} {rest : List Oper} {o : Oper} {a : Act} {Q : Exit → Act → World → Prop} (hgd : o.guard = none) (d s : Operand) (dT : TypeId)
    (ho : o.op = .call { callee := .builtin .copy, args := #[d, s], argTypes := #[dT, dT] }) (elem : TypeId) (hu : P.underlying dT = some (.slice elem)) (sz : Nat) (hsz : (P.info? elem).map (·.size) = some sz) (h0 : 0 < sz)
    (g n dCap sCap : Nat) (A : Option Addr) (hd : a.eval d = .slice (some ⟨g, 0, none⟩) n dCap) (hs : a.eval s = .slice A n sCap)
    (cur : Array Value) (t : TypeId) (hg : w.heap[g]? = some (.cells cur t (0, 0))) (hcur : cur.size = n * sz) (cs : List Value) (hn : cs.length = n * sz)
    (hpos : 0 < cs.length → ∃ ad, A = some ad ∧ ∀ j v, cs[j]? = some v → w.cell? (ad.add j) = some v) (h1 : ∀ v ∈ cs, v.oneCell' = true)
    (h : ∀ w', w'.heap[g]? = some (.cells cs.toArray t (0, 0)) → w.grownBy w' (some g) → wpList P ops Q rest (a.put o.dst (goInt n)) w') :
    wpList P ops Q (o :: rest) a w := by
  refine wpList_plain hgd fun K hK => ?_
  cases hq : P.info? elem with
  | none => simp [hq] at hsz
  | some i =>
    have hi : i.size = sz := by simpa [hq] using hsz
    have hmin : Nat.min n n = n := Nat.min_self n
    by_cases hz : n = 0
    · subst hz
      have hcs : cs = [] := List.eq_nil_of_length_eq_zero (by rw [hn]; simp)
      have hcu : cur = #[] := Array.eq_empty_of_size_eq_zero (by rw [hcur]; simp)
      subst hcs hcu
      have hl : ∀ (x : Addr), (loadCells x 0).run P w = .ok #[] w := fun x => by simpa using run_loadCells_list (P := P) w x [] (by simp)
      have hrun : (Builtin.copy_ #[dT, dT] o.type #[.slice (some ⟨g, 0, none⟩) 0 dCap, .slice A 0 sCap]).run P w = .ok (goInt 0) w := by
        cases A <;> simp [Builtin.copy_, run_underlying hu, Builtin.lenOf, Builtin.firstCells, sizeOf, typeInfo, hq, hmin, storeCells, hl]
      unfold Oper.wp
      simp [execOp, ho, resolve, invoke, builtin, hd, hs, hrun, Result.andThen]
      exact hK _ _ (h w hg ⟨rfl, rfl, rfl, Nat.le_refl _, fun k hk hne => rfl⟩)
    · have hp : 0 < n * sz := Nat.mul_pos (by omega) h0
      obtain ⟨ad, rfl, hc⟩ := hpos (by omega)
      have hl1 := run_loadCells_list (P := P) w ad cs hc
      have hst := run_storeCells_at P g 0 t cs 0 cur w hg (by rw [hcur, hn]; simp) h1
      rw [hn] at hl1
      simp only [Nat.add_zero, Nat.zero_add, List.take_zero, List.nil_append] at hst
      have hrun : (Builtin.copy_ #[dT, dT] o.type #[.slice (some ⟨g, 0, none⟩) n dCap, .slice (some ad) n sCap]).run P w = .ok (goInt n) (w.setRow g (cs ++ cur.toList.drop cs.length).toArray) := by
        simp [Builtin.copy_, run_underlying hu, Builtin.lenOf, Builtin.firstCells, sizeOf, typeInfo, hq, hi, hmin, hl1, hst, Result.andThen]
      have hdr : cs ++ cur.toList.drop cs.length = cs := by rw [List.drop_of_length_le (by rw [Array.length_toList, hcur, hn]; exact Nat.le_refl _), List.append_nil]
      rw [hdr] at hrun
      unfold Oper.wp
      simp [execOp, ho, resolve, invoke, builtin, hd, hs, hrun, Result.andThen]
      exact hK _ _ (h _ (setRow_heap w g cur _ t _ hg) ⟨rfl, rfl, rfl, by simp [World.setRow], fun k hk hne => setRow_other w g k _ (fun e => hne (by rw [e]))⟩)

theorem info_size1 : (Tryd.prog.info? 4).map (·.size) = some 1 := by kernel_rfl
theorem info_size4 : (Tryd.prog.info? 86).map (·.size) = some 4 := by kernel_rfl

/-- The block of a slice that was just made. -/
theorem own_block {w : World} {base g n sz : Nat} {t : TypeId} {cs : List Value} (h : w.ownsRow base t sz (.slice (some ⟨g, 0, none⟩) n n) n cs) : ∃ cur : Array Value, w.heap[g]? = some (.cells cur t (0, 0)) ∧ cur.size = n * sz := by
  rcases h.2 with ⟨hv, _⟩ | ⟨g', cap, cur, hv, hb, hg, h1, h2, h3, h4⟩
  · cases hv
  · simp only [Value.slice.injEq, Option.some.injEq, Addr.mk.injEq, true_and, and_true] at hv
    obtain ⟨rfl, rfl⟩ := hv
    exact ⟨cur, hg, h3⟩

theorem bols_src {w w1 : World} {A : Option Addr} {ca : Nat} {zs : List Bool} (hv : Bols w (.slice A zs.length ca) zs) (hb : Below w.heap.size w w1) :
    0 < (zs.map Value.bool).length → ∃ ad, A = some ad ∧ ∀ j v, (zs.map Value.bool)[j]? = some v → w1.cell? (ad.add j) = some v := fun hp => by
  obtain ⟨_, A', ca', hv', hc⟩ := bols_below hv hb
  simp only [Value.slice.injEq, true_and] at hv'
  obtain ⟨rfl, rfl⟩ := hv'
  obtain ⟨ad, rfl, hc'⟩ := hc (by simpa using hp)
  refine ⟨ad, rfl, fun j u hu => ?_⟩
  rcases Nat.lt_or_ge j zs.length with hj | hj
  · rw [hc' j hj]; simpa [hj] using hu
  · simp [hj] at hu

theorem dds_src {w w1 : World} {A : Option Addr} {ca : Nat} {Q : List Dd} (hv : Dds w (.slice A Q.length ca) Q) (hb : Below w.heap.size w w1) :
    0 < (dcells Q).length → ∃ ad, A = some ad ∧ ∀ j v, (dcells Q)[j]? = some v → w1.cell? (ad.add j) = some v := fun hp => by
  obtain ⟨_, A', ca', hv', hc⟩ := dds_below hv hb
  simp only [Value.slice.injEq, true_and] at hv'
  obtain ⟨rfl, rfl⟩ := hv'
  obtain ⟨ad, rfl, hc'⟩ := hc (by rw [dcells_len] at hp; omega)
  exact ⟨ad, rfl, fun j u hu => dds_cells hc' j u hu⟩

theorem drow_whole {w : World} {base g : Nat} {Q : List Dd} (h : w.heap[g]? = some (.cells (dcells Q).toArray 86 (0, 0))) (hb : base ≤ g) (hl : Q.length ≤ maxLen) : DRow w base (.slice (some ⟨g, 0, none⟩) Q.length Q.length) Q :=
  ⟨dcells_len Q, .inr ⟨g, Q.length, _, rfl, hb, h, Nat.le_refl _, hl, by simp [dcells_len], by rw [List.toList_toArray, List.take_of_length_le (by rw [dcells_len]; exact Nat.le_refl _)]⟩⟩

end Go.Proofs.YthnbaeamekolmaaDoor

namespace Go.Proofs.YthnbaeamekolmaaDoor
open Go.RowKit
set_option linter.unusedVariables false
set_option linter.unusedSimpArgs false

/-- A store that is valid. -/
def stoB (S : List Int) : Bool := decide (S.length = 8) && cellsB S

theorem ddB_of (x : Dd) : ddB x = (inB x.p 0 3 && cellB x.a && cellB x.b && cellB x.r) := rfl

theorem below_alloc' {a b : World} (h : Below a.heap.size a b) (o : Obj) : Below a.heap.size a (b.alloc o) := below_alloc h o

theorem stoB_fine {S : List Int} : stoB S = true ↔ S.length = 8 ∧ cellsB S = true := by unfold stoB; simp

end Go.Proofs.YthnbaeamekolmaaDoor

namespace Go.Proofs.YthnbaeamekolmaaDoor
open Go.RowKit
set_option linter.unusedVariables false
set_option linter.unusedSimpArgs false

/-- The call before this one, or none. -/
def prevC (Q : List Cl) : Nat → Cl
  | 0 => noCl
  | k + 1 => Q.getD k noCl

/-- A call that fits behind the floor of the one before it. -/
def clB (fl bk : Int) (x : Cl) : Bool := inB x.i 0 2147483647 && inB x.f fl bk && (if x.c then inB x.d 0 31 else x.d == 0)

/-- The first calls fit. -/
def CallsTo (bk : Int) (Q : List Cl) (k : Nat) : Prop := ∀ j, j < k → ∀ h : j < Q.length, clB (prevC Q j).f bk Q[j] = true

/-- Calls that fit, none too many, the last one no catch. -/
def callsB (bk : Int) (Q : List Cl) : Bool := decide (Q.length ≤ 16) && (decide (∀ j, ∀ h : j < Q.length, clB (prevC Q j).f bk Q[j] = true) && !(prevC Q Q.length).c)

theorem callsTo_zero (bk : Int) (Q : List Cl) : CallsTo bk Q 0 := fun j h => absurd h (Nat.not_lt_zero _)

theorem callsTo_next {bk : Int} {Q : List Cl} {k : Nat} (h : CallsTo bk Q k) (hk : k < Q.length) (e : clB (prevC Q k).f bk Q[k] = true) : CallsTo bk Q (k + 1) := fun j hj hq => by
  rcases Nat.lt_or_ge j k with hl | hl
  · exact h j hl hq
  · obtain rfl : j = k := by omega
    exact e

theorem callsB_end {bk : Int} {Q : List Cl} (h : CallsTo bk Q Q.length) (hl : Q.length ≤ 16) : callsB bk Q = !(prevC Q Q.length).c := by
  unfold callsB
  rw [decide_eq_true hl, decide_eq_true (fun j hj => h j hj hj)]
  simp

theorem callsB_not {bk : Int} {Q : List Cl} {k : Nat} (hk : k < Q.length) (e : clB (prevC Q k).f bk Q[k] = false) : callsB bk Q = false := by
  have : ¬ (∀ j, ∀ h : j < Q.length, clB (prevC Q j).f bk Q[j] = true) := fun h => by have := h k hk; rw [e] at this; cases this
  unfold callsB
  rw [decide_eq_false this]
  simp

theorem callsB_long {bk : Int} {Q : List Cl} (h : ¬ Q.length ≤ 16) : callsB bk Q = false := by
  unfold callsB
  rw [decide_eq_false h]
  simp

theorem callsB_is {bk : Int} {Q : List Cl} (h : callsB bk Q = true) : Q.length ≤ 16 ∧ (∀ j, ∀ h : j < Q.length, clB (prevC Q j).f bk Q[j] = true) ∧ (prevC Q Q.length).c = false := by
  unfold callsB at h
  simp only [Bool.and_eq_true, decide_eq_true_eq, Bool.not_eq_true'] at h
  exact ⟨h.1, h.2.1, h.2.2⟩

theorem prevC_next {Q : List Cl} {k : Nat} (hk : k < Q.length) : prevC Q (k + 1) = Q[k] := by
  show Q.getD k noCl = Q[k]
  rw [List.getD_eq_getElem?_getD, List.getElem?_eq_getElem hk]; rfl

theorem prevC_last {Q : List Cl} {j n : Nat} (hn : n = j + 1) (hj : j < Q.length) : prevC Q n = Q[j] := by
  subst hn
  exact prevC_next hj

theorem inB_eq {a lo hi : Int} : inB a lo hi = decide (lo ≤ a ∧ a ≤ hi) := rfl

theorem inB_out {a lo hi : Int} (h : ¬ (lo ≤ a ∧ a ≤ hi)) : inB a lo hi = false := decide_eq_false h

/-- A machine is valid. -/
def mOK (m : Mc) : Bool := dictB m.w && (decide (m.k.length ≤ 400) && (cellsB m.k && (dOK m.d && (hOK m.h && (callsB m.d.b.length m.c && (inB m.i 0 2147483647 && inB m.f 0 4000))))))

theorem mOK_is {m : Mc} (h : mOK m = true) : dictB m.w = true ∧ m.k.length ≤ 400 ∧ cellsB m.k = true ∧ dOK m.d = true ∧ hOK m.h = true ∧ callsB m.d.b.length m.c = true ∧ inB m.i 0 2147483647 = true ∧ inB m.f 0 4000 = true := by
  unfold mOK at h
  simp only [Bool.and_eq_true, decide_eq_true_eq] at h
  exact h

/-- The depth of a call. -/
def depB (x : Cl) : Bool := if x.c then inB x.d 0 31 else x.d == 0

theorem clB_of (fl bk : Int) (x : Cl) : clB fl bk x = (inB x.i 0 2147483647 && inB x.f fl bk && depB x) := rfl

end Go.Proofs.YthnbaeamekolmaaDoor

namespace Go.Proofs.YthnbaeamekolmaaDoor
open Go.RowKit
set_option linter.unusedVariables false
set_option linter.unusedSimpArgs false

end Go.Proofs.YthnbaeamekolmaaDoor

namespace Go.Proofs.YthnbaeamekolmaaDoor
open Go.RowKit
set_option linter.unusedVariables false
set_option linter.unusedSimpArgs false

theorem row_roomM {w : World} {lo n k : Nat} {A : Option Addr} {zs : List Int} (h : Row w lo (.slice A n k) zs) : n ≤ k := by
  rcases h.2 with ⟨hv, h0⟩ | ⟨g', cap', cur, hv, hb', hg, h1, h2, h3, h4⟩
  · simp only [Value.slice.injEq] at hv
    omega
  · simp only [Value.slice.injEq] at hv
    obtain ⟨_, rfl, rfl⟩ := hv
    omega

/-- A machine's row of cells, its words and its code in sight. -/
structure MRow (w : World) (cs : Array Value) (M : Mc) (A1 : Option Addr) (k1 : Nat) (A2 : Option Addr) (k2 : Nat) : Prop where
  six : Six10 cs
  c0 : cs[0]? = some (.slice A1 M.w.length k1)
  c1 : cs[1]? = some (.slice A2 M.k.length k2)
  words : Wds w (.slice A1 M.w.length k1) M.w
  code : Ints w (.slice A2 M.k.length k2) M.k
  room : M.k.length ≤ k2
  all : MchIn w (.agg cs) M

theorem mrow_below {w w' : World} {cs : Array Value} {M : Mc} {A1 : Option Addr} {k1 : Nat} {A2 : Option Addr} {k2 : Nat} (h : MRow w cs M A1 k1 A2 k2) (hb : Below w.heap.size w w') : MRow w' cs M A1 k1 A2 k2 :=
  ⟨h.six, h.c0, h.c1, wds_below h.words hb, ints_below h.code hb, h.room, mchIn_below h.all hb⟩

theorem mrow_of {w : World} {lo : Nat} {v : Value} {M : Mc} (h : MchT w lo v M) : ∃ cs A1 k1 A2 k2, v = .agg cs ∧ MRow w cs M A1 k1 A2 k2 := by
  have hin := mchT_in h
  have hroom : ∀ A n c, (match v with | .agg cs => cs[1]? | _ => none) = some (.slice A n c) → n ≤ c := by
    obtain ⟨x, k, a, b, c, g, s, n, q, z, rfl, h1, h2, _⟩ := h
    intro A n' c' e
    simp at e
    subst e
    exact (row_roomM h2)
  obtain ⟨A1, k1, A2, k2, A3, k3, A4, k4, A5, k5, A6, k6, A7, k7, A8, k8, A9, k9, A0, k0, rfl⟩ := mchIn_form hin
  obtain ⟨x, k, a, b, c, g, s, n, q, z, e, hx, hk, hd, hh, hz⟩ := id hin
  simp only [Value.agg.injEq, Array.mk.injEq, List.cons.injEq, and_true, true_and] at e
  obtain ⟨rfl, rfl, rfl, rfl, rfl, rfl, rfl, rfl, rfl, rfl⟩ := e
  refine ⟨_, A1, k1, A2, k2, rfl, ⟨rfl, by simp [Value.oneCell']⟩, rfl, rfl, hx, hk, hroom A2 _ k2 rfl, hin⟩

/-- What a test of a proposition leaves. -/
def BIff (w : World) (p : Prop) (e : Ending) (w' : World) : Prop := ∃ r : Bool, (r = true ↔ p) ∧ e = .returned (.bool r) ∧ Below w.heap.size w w'

end Go.Proofs.YthnbaeamekolmaaDoor
