/- QnB: several of my texts, laid together: KerC, KerD, ImpA, TabA, WdL, ClA, ClB, McA, McB, McC, McR. -/
import Derived.Test.YthnbaeamekolmaaDoorKerB
import Derived.BigRegion
import Derived.IntWalk
import Derived.OpenShut
import Derived.WalkKit
import Derived.ProofKit
import Derived.Test.YthnbaeamekolmaaDoorWdA
import Derived.Deep.Slices
import Derived.Lib.SmallJoins
import Derived.ChangeOld
import Derived.Test.YthnbaeamekolmaaDoorQnA
import Derived.Laws.StructEq
import Derived.Laws.CopyOwn
import Derived.Laws.Tables
import Derived.WalkSmall
import Derived.Deep.RegionHeld3
import Derived.Test.YthnbaeamekolmaaDoorDatL
import Derived.Deep.Grids
import Derived.Laws.Rows
import Derived.Deep.WholeRow
import Derived.OrdersHeld
namespace Go.Proofs.YthnbaeamekolmaaDoor
open Go.RowKit
set_option linter.unusedVariables false
set_option linter.unusedSimpArgs false

/-- Does the list begin with the kernel? -/
def kernB (Q : List Wd) : Bool := decide (Q.take 83 = kernW)

/-- The first k words are the kernel's. -/
def KernTo (Q : List Wd) (k : Nat) : Prop := Q.take k = kernW.take k

theorem kernTo_zero (Q : List Wd) : KernTo Q 0 := by unfold KernTo; simp

theorem kernTo_next {Q : List Wd} {k : Nat} (h : KernTo Q k) (hk : k < Q.length) (h83 : k < 83) (e : Q[k] = kernAt k) : KernTo Q (k + 1) := by
  unfold KernTo at *
  rw [List.take_succ_eq_append_getElem hk, kernW_take h83, h, e]

theorem kernTo_end {Q : List Wd} (h : KernTo Q 83) : kernB Q = true := by
  unfold KernTo at h
  unfold kernB
  rw [decide_eq_true_iff, h, List.take_of_length_le (by rw [kernW_len]; exact Nat.le_refl _)]

theorem kernB_short {Q : List Wd} (h : Q.length < 83) : kernB Q = false := by
  unfold kernB
  rw [decide_eq_false_iff_not]
  intro e
  have := congrArg List.length e
  rw [kernW_len, List.length_take] at this
  omega

theorem kernB_not {Q : List Wd} {k : Nat} (hk : k < Q.length) (h83 : k < 83) (e : Q[k] ≠ kernAt k) : kernB Q = false := by
  unfold kernB
  rw [decide_eq_false_iff_not]
  intro h
  apply e
  have h1 : (Q.take 83)[k]? = kernW[k]? := by rw [h]
  rw [List.getElem?_take_of_lt h83, List.getElem?_eq_getElem hk, List.getElem?_eq_getElem (by rw [kernW_len]; exact h83), kernW_at] at h1
  exact Option.some.inj h1

theorem kernB_len {Q : List Wd} (h : kernB Q = true) : 83 ≤ Q.length := by
  rcases Nat.lt_or_ge Q.length 83 with hl | hl
  · rw [kernB_short hl] at h; cases h
  · exact hl

theorem kernB_at {Q : List Wd} (h : kernB Q = true) {k : Nat} (hk : k < Q.length) (h83 : k < 83) : Q[k] = kernAt k := Classical.byContradiction fun e => by rw [kernB_not hk h83 e] at h; cases h

theorem text_same (a b : ByteArray) : (a.toList == b.toList) = decide (a = b) := by
  rw [Lib.toList_data, Lib.toList_data]
  by_cases h : a = b
  · subst h; simp
  · rw [decide_eq_false h, beq_eq_false_iff_ne]
    intro e
    exact h (by
      obtain ⟨⟨x⟩⟩ := a
      obtain ⟨⟨y⟩⟩ := b
      simp at e
      rw [e])

theorem wd_ext {x y : Wd} (h1 : x.n = y.n) (h2 : x.k = y.k) (h3 : x.v = y.v) : x = y := by
  obtain ⟨a, b, c⟩ := x
  obtain ⟨d, e, f⟩ := y
  simp only at h1 h2 h3
  subst h1 h2 h3
  rfl

/-- Is it the Value of a script's word of this Kind? -/
def valB (k v : Int) : Bool := if k = 6 then inB v 0 399 else if k = 7 then inB v 4096 4220 && decide (v % 4 = 0) else if k = 8 then cellB v else false

/-- Is it a word of a script? -/
def userB (x : Wd) : Bool := wordL x.n.data.toList && valB x.k x.v

end Go.Proofs.YthnbaeamekolmaaDoor

namespace Go.Proofs.YthnbaeamekolmaaDoor
open Go.RowKit
set_option linter.unusedVariables false
set_option linter.unusedSimpArgs false

/-- Is the list a dictionary? -/
def dictB (Q : List Wd) : Bool := decide (Q.length ≤ 103) && kernB Q && (Q.drop 83).all userB

/-- The words behind the kernel, up to the first k words of the list, are a script's. -/
def UserTo (Q : List Wd) (k : Nat) : Prop := ((Q.take k).drop 83).all userB = true

theorem userTo_start (Q : List Wd) : UserTo Q 83 := by
  unfold UserTo
  rw [List.drop_of_length_le (by rw [List.length_take]; omega)]
  rfl

theorem userTo_next {Q : List Wd} {k : Nat} (h : UserTo Q k) (hk : k < Q.length) (h83 : 83 ≤ k) (e : userB Q[k] = true) : UserTo Q (k + 1) := by
  unfold UserTo at *
  rw [List.take_succ_eq_append_getElem hk, List.drop_append_of_le_length (by rw [List.length_take]; omega), List.all_append, h]
  simp [e]

theorem dict_end {Q : List Wd} (h : UserTo Q Q.length) (hl : Q.length ≤ 103) (hk : kernB Q = true) : dictB Q = true := by
  unfold UserTo at h
  rw [List.take_length] at h
  unfold dictB
  rw [hk, h, decide_eq_true hl]
  rfl

theorem dict_not {Q : List Wd} {k : Nat} (hk : k < Q.length) (h83 : 83 ≤ k) (e : userB Q[k] = false) : dictB Q = false := by
  unfold dictB
  have : (Q.drop 83).all userB = false := by
    rw [List.all_eq_false]
    refine ⟨Q[k], ?_, by simp [e]⟩
    rw [List.mem_iff_getElem]
    refine ⟨k - 83, by rw [List.length_drop]; omega, ?_⟩
    rw [List.getElem_drop]
    congr 1
    omega
  rw [this, Bool.and_false]

theorem dict_long {Q : List Wd} (h : 103 < Q.length) : dictB Q = false := by
  unfold dictB
  rw [decide_eq_false (by omega)]
  rfl

theorem dict_kern {Q : List Wd} (h : kernB Q = false) : dictB Q = false := by
  unfold dictB
  rw [h, Bool.and_false]
  rfl

theorem dict_is {Q : List Wd} (h : dictB Q = true) : Q.length ≤ 103 ∧ kernB Q = true ∧ ∀ k (hk : k < Q.length), 83 ≤ k → userB Q[k] = true := by
  refine ⟨?_, ?_, fun k hk h83 => ?_⟩
  · rcases Nat.lt_or_ge 103 Q.length with hl | hl
    · rw [dict_long hl] at h; cases h
    · exact hl
  · cases hk : kernB Q
    · rw [dict_kern hk] at h; cases h
    · rfl
  · cases hu : userB Q[k]
    · rw [dict_not hk h83 hu] at h; cases h
    · rfl

theorem wordL_size {s : ByteArray} (h : wordL s.data.toList = true) : 1 ≤ s.size ∧ s.size ≤ 12 := Classical.byContradiction fun hn => by rw [wordL_len hn] at h; cases h

theorem user_word {x : Wd} (h : userB x = true) : wordL x.n.data.toList = true := by
  unfold userB at h
  rw [Bool.and_eq_true] at h
  exact h.1

theorem dict_names {Q : List Wd} (h : dictB Q = true) : ∀ k (hk : k < Q.length), Q[k].n.size ≤ 12 := by
  obtain ⟨_, h2, h3⟩ := dict_is h
  intro k hk
  rcases Nat.lt_or_ge k 83 with h83 | h83
  · rw [kernB_at h2 hk h83]
    have := kname_small k
    show (kname k).size ≤ 12
    omega
  · exact (wordL_size (user_word (h3 k hk h83))).2

/-- A word in a list, where it is owned or came in. -/
theorem wds_word {w : World} {g cap : Nat} {Q : List Wd} (h : Wds w (.slice (some ⟨g, 0, none⟩) Q.length cap) Q) (k : Nat) (hk : k < Q.length) : WdAt w ⟨g, k * 3, none⟩ Q[k] := by
  obtain ⟨_, _, A, c, e, _, hc⟩ := h
  obtain ⟨g', ha, hd⟩ := hc (by omega)
  subst ha
  simp only [Value.slice.injEq, Option.some.injEq, Addr.mk.injEq, and_true, true_and] at e
  obtain ⟨rfl, _⟩ := e
  exact hd k hk

theorem wds_block {w : World} {A : Option Addr} {cap : Nat} {Q : List Wd} (h : Wds w (.slice A Q.length cap) Q) (hp : 0 < Q.length) : ∃ g, A = some ⟨g, 0, none⟩ := by
  obtain ⟨_, _, A', c, e, _, hc⟩ := h
  obtain ⟨g', ha, hd⟩ := hc hp
  simp only [Value.slice.injEq, true_and] at e
  exact ⟨g', by rw [e.1, ha]⟩

theorem wds_form {w : World} {v : Value} {Q : List Wd} (h : Wds w v Q) : ∃ A cap, v = .slice A Q.length cap ∧ Q.length ≤ cap ∧ Q.length ≤ maxLen ∧ Names Q := by
  obtain ⟨h1, h2, A, c, e, h3, _⟩ := h
  exact ⟨A, c, e, h3, h1, h2⟩

theorem dict_huge {Q : List Wd} (h : 4096 < Q.length) : dictB Q = false := dict_long (by omega)

/-- KernelSame: a list that is too long is none. -/
def ksameB (Q : List Wd) : Bool := decide (Q.length ≤ 4096) && kernB Q

/-- Is the number, at this list, that of a word that a script may run? -/
def tokB (Q : List Wd) (n : Int) : Bool := decide (1 ≤ n ∧ n ≤ Q.length) && ((Q.getD (n - 1).toNat noWd).k != 3 && (Q.getD (n - 1).toNat noWd).k != 5)

theorem tok_out {Q : List Wd} {n : Int} (h : ¬ (1 ≤ n ∧ n ≤ Q.length)) : tokB Q n = false := by unfold tokB; rw [decide_eq_false h]; rfl

theorem tok_in {Q : List Wd} {k : Nat} (h : k < Q.length) : tokB Q ((k : Int) + 1) = (Q[k].k != 3 && Q[k].k != 5) := by
  unfold tokB
  rw [decide_eq_true (by omega), show ((k : Int) + 1 - 1).toNat = k by omega, List.getD_eq_getElem?_getD, List.getElem?_eq_getElem h]
  rfl

end Go.Proofs.YthnbaeamekolmaaDoor

namespace Go.Proofs.YthnbaeamekolmaaDoor
open Go.RowKit
set_option linter.unusedVariables false
set_option linter.unusedSimpArgs false

/-- The program's two tables hold the names and the ends. -/
def Tabs (w : World) : Prop := (∀ i, i < 6 → w.cell? ⟨0, i, none⟩ = some (.int .i64 (koff i))) ∧ ∀ j, j < 83 → w.cell? ⟨1, j, none⟩ = some (.string (kname j))

theorem tabs_below {w w' : World} (h : Tabs w) (hb : Below w.heap.size w w') : Tabs w' := ⟨fun i hi => cells_below hb _ _ (h.1 i hi), fun j hj => cells_below hb _ _ (h.2 j hj)⟩

theorem kkind_is {m j : Nat} (h : koff m ≤ j) (hm : m < 5) (h2 : j < koff (m + 1)) : kkind j = m := by
  match m, hm with
  | 0, _ => simp only [koff] at h h2; unfold kkind; (repeat' split) <;> omega
  | 1, _ => simp only [koff] at h h2; unfold kkind; (repeat' split) <;> omega
  | 2, _ => simp only [koff] at h h2; unfold kkind; (repeat' split) <;> omega
  | 3, _ => simp only [koff] at h h2; unfold kkind; (repeat' split) <;> omega
  | 4, _ => simp only [koff] at h h2; unfold kkind; (repeat' split) <;> omega

theorem koff_five {m : Nat} (hm : m < 5) (h : koff (m + 1) ≤ 82) : m + 1 < 5 := by
  match m, hm with
  | 0, _ => omega
  | 1, _ => omega
  | 2, _ => omega
  | 3, _ => omega
  | 4, _ => simp [koff] at h

set_option maxRecDepth 100000 in
set_option maxHeartbeats 4000000 in
theorem kernelWord_any (j : Nat) (w : World) (hj : j < 83) (ht : Tabs w) :
    Calls Tryd.prog 44 #[.int .i64 ((j : Int) + 1)] w fun e w' => e = .returned (.agg #[.string (kernAt j).n, .int .i64 (kernAt j).k, .int .i64 (kernAt j).v]) ∧ Below w.heap.size w w' := by
  have HT := Lib.hid ht
  clear ht
  go_enter Tryd.func44, Tryd.ntmps44
  go_wp2
  go_loop [3] (fun i => ∃ m : Nat, m < 5 ∧ i = .int .i64 ((m : Int) + 1) ∧ koff m ≤ j) (fun i => 6 - (intOf i).toNat)
  case atStart => exact ⟨0, by omega, rfl, Nat.zero_le _⟩
  case round =>
    obtain ⟨m, hm, rfl, hk⟩ := hrel
    have c0 := cells_below (below_allocW (Below.refl w.heap.size w) (.cells #[.string ⟨#[]⟩, .int .i64 0, .int .i64 0] 68)) _ _ (HT.out.1 (m + 1) (by omega))
    have c1 := cells_below (below_allocW (Below.refl w.heap.size w) (.cells #[.string ⟨#[]⟩, .int .i64 0, .int .i64 0] 68)) _ _ (HT.out.1 m (by omega))
    have c2 := cells_below (below_allocW (Below.refl w.heap.size w) (.cells #[.string ⟨#[]⟩, .int .i64 0, .int .i64 0] 68)) _ _ (HT.out.2 j hj)
    by_cases hlt : koff (m + 1) ≤ j
    · have h5 := koff_five hm (by omega)
      have HL := Lib.hid hlt
      generalize koff (m + 1) = c at c0 hlt
      clear c1 c2
      go_wp2
      go_round
      case rel => exact ⟨m + 1, h5, by go_num, HL.out⟩
      case measure => simp [intOf]; omega
    · have E : Hid (kernAt j = ⟨kname j, (m : Int) + 1, (j : Int) - koff m + 1⟩) := Lib.hid (by unfold kernAt; rw [kkind_is hk hm (by omega)])
      have hko := koff_le m
      have hko2 := koff_le (m + 1)
      generalize koff (m + 1) = c at *
      generalize koff m = d at *
      generalize kname j = s at *
      go_wp2
      go_region
      all_goals
        go_wp2
        exact bodyPost_ret (v := .agg #[.string s, .int .i64 ((m : Int) + 1), .int .i64 ((j : Int) + 1 - d)]) (by simp [results, Tryd.results44, go_sem, *]) rfl ⟨by rw [E.out]; simp only []; rw [show (j : Int) - d + 1 = (j : Int) + 1 - d by omega], ((Below.refl _ _).alloc (Nat.le_refl _) _).drew⟩

set_option maxRecDepth 100000 in
set_option maxHeartbeats 4000000 in
theorem iKernelWords_any (w : World) (ht : Tabs w) : Calls Tryd.prog 21 #[] w (ListOf w kernW) := by
  obtain ⟨i0, hi0, hz0, hz1, hz2⟩ := info_parts own_infoW
  have I0 := Lib.hid hi0
  have Z0 := Lib.hid hz0
  have Z1 := Lib.hid hz1
  have B8 : Hid (i0.bytes * 83 ≤ 281474976710656) := Lib.hid (by rw [hz2]; omega)
  have HT := Lib.hid ht
  have KL := Lib.hid kernW_len
  clear ht hi0 hz0 hz1 hz2
  go_enter Tryd.func21, Tryd.ntmps21
  go_wp2_with (first
    | (at_make; refine wpList_make_full _ rfl _ _ 22 rfl w.heap.size 68 i0 _ 3 Tryd.underlying22 I0.out Z0.out Z1.out .i64 .i64 _ _ 83 rfl rfl rfl rfl B8.out (by unfold maxLen; omega) (by simp) ?_
       intro w1 ho1 hg1
       rw [made_cells] at ho1
       have R1 : Hid (WRow w1 w.heap.size (.slice (some ⟨w.heap.size, 0, none⟩) 83 83) (wTo kernW 0)) := Lib.hid (by rw [wTo_zero, KL.out]; exact ⟨by simpa using ho1, fun x hx => by rw [(List.mem_replicate.1 hx).2]; decide⟩)
       have B1 : Hid (Below w.heap.size w w1) := Lib.hid ((Below.refl _ _).grown hg1 (Nat.le_refl _) (by simp))
       clear ho1 hg1))
  go_loopw [6] (fun i wr => ∃ k : Nat, k ≤ 83 ∧ i = .int .i64 k ∧ WRow wr w.heap.size (.slice (some ⟨w.heap.size, 0, none⟩) 83 83) (wTo kernW k) ∧ Below w.heap.size w wr) (fun i _ => 83 - (intOf i).toNat)
  case atStart => exact ⟨0, Nat.zero_le _, rfl, R1.out, B1.out⟩
  case round =>
    obtain ⟨k, hk, rfl, hr, hb⟩ := hrel
    have HR := Lib.hid hr
    have HB := Lib.hid hb
    clear hr hb
    have WL : Hid ((wTo kernW k).length = 83) := Lib.hid (by rw [wTo_len kernW (by rw [KL.out]; exact hk), KL.out])
    by_cases hlt : k < 83
    · go_wp2_with fail
      refine (kernelWord_any k _ hlt (tabs_below HT.out HB.out)).mono ?_
      rintro e w2 ⟨rfl, hb2⟩
      have B2 := Lib.hid (below_stepW HB.out hb2)
      have R2 := Lib.hid (wrow_below HR.out hb2)
      clear hb2
      have ST : Hid (WRow (((w2.setCell ⟨w.heap.size, k * 3, none⟩ (.string (kernAt k).n)).setCell ⟨w.heap.size, k * 3 + 1, none⟩ (.int .i64 (kernAt k).k)).setCell ⟨w.heap.size, k * 3 + 2, none⟩ (.int .i64 (kernAt k).v)) w.heap.size (.slice (some ⟨w.heap.size, 0, none⟩) 83 83) (wTo kernW (k + 1))) := Lib.hid (by
        have h := R2.out
        have hlk : k < kernW.length := by rw [KL.out]; exact hlt
        rw [← wTo_next kernW hlk, kernW_at]
        have h2 : WRow w2 w.heap.size (.slice (some ⟨w.heap.size, 0, none⟩) (wTo kernW k).length 83) (wTo kernW k) := by rw [WL.out]; exact h
        have h3 := wrow_set h2 k (by rw [WL.out]; exact hlt) (kernAt k) (by have := kname_small k; unfold kernAt maxLen; simp; omega)
        rw [WL.out] at h3
        exact h3)
      have SB := Lib.hid (below_set3 B2.out (g := w.heap.size) (Nat.le_refl _) (k * 3) (k * 3 + 1) (k * 3 + 2) (.string (kernAt k).n) (.int .i64 (kernAt k).k) (.int .i64 (kernAt k).v))
      have zl : w.heap.size < w2.heap.size := (wrow_lt R2.out _ rfl).2
      obtain ⟨o0, o1, o2⟩ := wrow_at (by have h := R2.out.1; rw [show 83 = (wTo kernW k).length from WL.out.symm] at h; exact h) k (by rw [WL.out]; exact hlt)
      have f0 := wrow_free R2.out (k * 3)
      have f1 := wrow_free R2.out (k * 3 + 1)
      have f2 := wrow_free R2.out (k * 3 + 2)
      generalize ((wTo kernW k)[k]'(by rw [WL.out]; exact hlt)) = old at *
      go_wp2
      go_roundw
      case rel => exact ⟨k + 1, by omega, by go_num, ST.out, SB.out⟩
      case measure => simp [intOf]; omega
    · obtain rfl : k = 83 := by omega
      clear hlt
      have R9 : Hid (WRow wr w.heap.size (.slice (some ⟨w.heap.size, 0, none⟩) 83 83) kernW) := Lib.hid (by have h := HR.out; have e := wTo_end kernW; rw [KL.out] at e; rwa [e] at h)
      go_wp2
      go_ret
      exact ⟨_, rfl, R9.out, by simp [Value.ownBlock], HB.out⟩

theorem tabs_drew {w : World} (h : Tabs w) : Tabs w.drew := h

theorem box_cells {W W' : World} {a b c : Value} {t : TypeId} (hb : Below (W.alloc (.cells #[a, b, c] t)).heap.size (W.alloc (.cells #[a, b, c] t)) W') :
    W'.cell? ⟨W.heap.size, 0, none⟩ = some a ∧ W'.cell? ⟨W.heap.size, 1, none⟩ = some b ∧ W'.cell? ⟨W.heap.size, 2, none⟩ = some c :=
  ⟨cells_below hb _ _ (by simp), cells_below hb _ _ (by simp), cells_below hb _ _ (by simp)⟩

end Go.Proofs.YthnbaeamekolmaaDoor

namespace Go.Proofs.YthnbaeamekolmaaDoor
open Go.ChangeShapes Go.WideShapes Go.ChangeAt Go.RowKit
set_option linter.unusedVariables false
set_option linter.unusedSimpArgs false

theorem strs_of_trod {H : Type} {enc : TypeId × Value → H} {P : Program} {w : World} {base : Nat} {spare : Nat → Bool} {held : Bool} {fuel n : Nat} {t e : TypeId} {cs : List Value} {L : List (List UInt8)} {q : List MemPlace}
    (ha : P.underlying t = some (.array n e)) (he : P.underlying e = some .string) (hc : P.cellsOf e = 1)
    (h : DataW.trod enc P w base spare held fuel t cs = some (.agg (L.map fun b => .lit (.string b)), q)) : ∀ k, k < n → cs[k]? = some (.string ⟨(L.getD k []).toArray⟩) := by
  intro k hk
  obtain ⟨xs, m, rfl, hx, hlen, hn, hel⟩ := DataW.trod_array ha h
  have hk' := hel k hk
  rw [hc, Nat.mul_one] at hk'
  have hkx : k < xs.length := by omega
  rw [List.getElem?_eq_getElem hkx] at hk'
  obtain ⟨s, e1, e2, _⟩ := DataW.trod_string he hk'
  simp only [Prod.mk.injEq, DataW.agg.injEq] at hx
  have hmap := congrArg (fun l => l[k]?) hx.1
  simp only [List.getElem?_map] at hmap
  rw [List.getElem?_eq_getElem hkx, e2] at hmap
  cases hL : L[k]? with
  | none => rw [hL] at hmap; simp at hmap
  | some b =>
    rw [hL] at hmap
    simp at hmap
    have hs : s = ⟨(L.getD k []).toArray⟩ := by
      rw [List.getD_eq_getElem?_getD, hL]
      apply ByteArray.ext
      apply Array.ext'
      simpa using hmap.symm
    have h1 := congrArg (fun l => l[0]?) e1
    simp at h1
    rw [h1, hs]

end Go.Proofs.YthnbaeamekolmaaDoor

namespace Go.Proofs.YthnbaeamekolmaaDoor
open Go.Joins Go.ChangeShapes Go.WideShapes Go.RowKit Go.Deep Go.ChangeAt
set_option linter.unusedVariables false
set_option linter.unusedSimpArgs false

/-- A struct that came in reads as this word. -/
def WdIn (w : World) (v : Value) (x : Wd) : Prop := v = .agg #[.string x.n, .int .i64 x.k, .int .i64 x.v] ∧ x.n.size ≤ maxLen

theorem wdsL_form {w : World} {v : Value} {Q : List Wd} (h : WdsL w v Q) : ∃ A cap, v = .slice A Q.length cap ∧ Q.length ≤ maxLen ∧ Names Q := by
  obtain ⟨h1, h2, A, c, e, _⟩ := h
  exact ⟨A, c, e, h1, h2⟩

/-- A row keeps its words where another block turns. -/
theorem wrow_apart {w w' : World} {base : Nat} {v : Value} {Q : List Wd} {r : Option Nat} (h : WRow w base v Q) (hg : w.grownBy w' r) (hne : ∀ g, v.ownBlock = some g → r ≠ some g) : WRow w' base v Q :=
  ⟨h.1.kept hg (by
    cases hv : v.ownBlock with
    | none => exact .inl rfl
    | some g => exact .inr (fun e => hne g hv e.symm)), h.2⟩

/-- Two rows, the one made before the other. -/
theorem wrow_before {w w' : World} {lo base : Nat} {u v : Value} {P Q : List Wd} (h : WRow w lo u P) (k : WRow w' base v Q) (hb : w.heap.size ≤ base) : ∀ g, u.ownBlock = some g → v.ownBlock ≠ some g := by
  intro g h1 h2
  have := wrow_lt h g h1
  have := wrow_lt k g h2
  omega

theorem below_marks {a b c : World} {base : Nat} {v : Value} {Q : List Wd} (h : Below a.heap.size a b) (k : b.grownBy c v.ownBlock) (hr : WRow b base v Q) (hb : a.heap.size ≤ base) : Below a.heap.size a c :=
  h.grown k h.size (fun g hg => Nat.le_trans hb (wrow_lt hr g hg).1)

section
variable {H : Type} {enc : TypeId × Value → H} {w : World} {base : Nat} {spare : Nat → Bool} {held : Bool}

theorem word_one : ∀ t, t = 3 ∨ t = 9 → Tryd.prog.cellsOf t = 1 := by
  rintro t (rfl | rfl) <;> kernel_rfl

theorem choose_words {len : Nat} {p : Nat → Wd → Prop} (h : ∀ i, i < len → ∃ x, p i x) : ∃ Q : List Wd, Q.length = len ∧ ∀ i (hi : i < Q.length), p i Q[i] := by
  induction len with
  | zero => exact ⟨[], rfl, fun i hi => by simp at hi⟩
  | succ m ih =>
    obtain ⟨Q, hl, hq⟩ := ih (fun i hi => h i (by omega))
    obtain ⟨x, hx⟩ := h m (by omega)
    refine ⟨Q ++ [x], by simp [hl], fun i hi => ?_⟩
    by_cases e : i < Q.length
    · rw [List.getElem_append_left e]; exact hq i e
    · have : i = m := by simp at hi; omega
      subst this
      rw [List.getElem_append_right (by omega)]
      simp [hl]
      exact hx

end

/-- What a listed table of numbers gives: its cells. -/
theorem nums_of_trod {H : Type} {enc : TypeId × Value → H} {P : Program} {w : World} {base : Nat} {spare : Nat → Bool} {held : Bool} {fuel n : Nat} {t e : TypeId} {cs : List Value} {L : List Int} {q : List MemPlace}
    (ha : P.underlying t = some (.array n e)) (he : P.underlying e = some (.int .i64)) (hc : P.cellsOf e = 1)
    (h : DataW.trod enc P w base spare held fuel t cs = some (.agg (L.map fun b => .lit (.int .i64 b)), q)) : ∀ k, k < n → cs[k]? = some (.int .i64 (L.getD k 0)) := by
  intro k hk
  obtain ⟨xs, m, rfl, hx, hlen, hn, hel⟩ := DataW.trod_array ha h
  have hk' := hel k hk
  rw [hc, Nat.mul_one] at hk'
  have hkx : k < xs.length := by omega
  rw [List.getElem?_eq_getElem hkx] at hk'
  obtain ⟨s, e1, e2, _⟩ := DataW.trod_int he hk'
  simp only [Prod.mk.injEq, DataW.agg.injEq] at hx
  have hmap := congrArg (fun l => l[k]?) hx.1
  simp only [List.getElem?_map] at hmap
  rw [List.getElem?_eq_getElem hkx, e2] at hmap
  cases hL : L[k]? with
  | none => rw [hL] at hmap; simp at hmap
  | some b =>
    rw [hL] at hmap
    simp at hmap
    have h1 := congrArg (fun l => l[0]?) e1
    simp at h1
    rw [h1, List.getD_eq_getElem?_getD, hL, hmap]
    rfl

end Go.Proofs.YthnbaeamekolmaaDoor

namespace Go.Proofs.YthnbaeamekolmaaDoor
open Go.RowKit
set_option linter.unusedVariables false
set_option linter.unusedSimpArgs false

/-- A call: its return address, its floor, its depth, whether it catches. -/
structure Cl where
  i : Int
  f : Int
  d : Int
  c : Bool
deriving DecidableEq

/-- Its cells. -/
def ccs (x : Cl) : List Value := [.int .i64 x.i, .int .i64 x.f, .int .i64 x.d, .bool x.c]

/-- The cells of a list of calls. -/
def ccells (Q : List Cl) : List Value := Q.flatMap ccs

theorem ccells_len (Q : List Cl) : (ccells Q).length = Q.length * 4 := by
  induction Q with
  | nil => rfl
  | cons q r ih => unfold ccells at *; rw [List.flatMap_cons, List.length_append, ih]; simp [ccs]; omega

theorem ccells_at (Q : List Cl) (k j : Nat) (hk : k < Q.length) (hj : j < 4) : (ccells Q)[k * 4 + j]? = (ccs Q[k])[j]? := by
  induction Q generalizing k with
  | nil => simp at hk
  | cons q r ih =>
    unfold ccells at *
    rw [List.flatMap_cons]
    match k with
    | 0 => rw [List.getElem?_append_left (by simp [ccs]; omega)]; simp
    | k + 1 =>
      rw [List.getElem?_append_right (by simp [ccs]; omega), show (k + 1) * 4 + j - (ccs q).length = k * 4 + j by simp [ccs]; omega]
      simp at hk
      rw [ih k (by omega)]
      simp

/-- The four cells of a call, from an address on. -/
def ClAt (w : World) (a : Addr) (x : Cl) : Prop := w.cell? a = some (.int .i64 x.i) ∧ w.cell? ⟨a.block, a.off + 1, none⟩ = some (.int .i64 x.f) ∧ w.cell? ⟨a.block, a.off + 2, none⟩ = some (.int .i64 x.d) ∧ w.cell? ⟨a.block, a.off + 3, none⟩ = some (.bool x.c)

/-- A slice, nil or not, that reads as these calls. -/
def Cls (w : World) (v : Value) (Q : List Cl) : Prop :=
  Q.length ≤ maxLen ∧ ∃ A cap, v = .slice A Q.length cap ∧ (0 < Q.length → ∃ ad, A = some ad ∧ ∀ k (h : k < Q.length), ClAt w (ad.add (k * 4)) Q[k])

/-- A slice of the call's own, perhaps nil, of these calls. -/
def CRow (w : World) (base : Nat) (v : Value) (Q : List Cl) : Prop := w.ownsRow base 75 4 v Q.length (ccells Q)

theorem clAt_keep {w w' : World} {a : Addr} {x : Cl} (h : ClAt w a x) (hk : ∀ (x : Addr) (u : Value), w.cell? x = some u → w'.cell? x = some u) : ClAt w' a x := ⟨hk _ _ h.1, hk _ _ h.2.1, hk _ _ h.2.2.1, hk _ _ h.2.2.2⟩

theorem cls_keep {w w' : World} {v : Value} {Q : List Cl} (h : Cls w v Q) (hk : ∀ (x : Addr) (u : Value), w.cell? x = some u → w'.cell? x = some u) : Cls w' v Q := by
  obtain ⟨h1, A, cap, hv, hc⟩ := h
  refine ⟨h1, A, cap, hv, fun hp => ?_⟩
  obtain ⟨ad, ha, hc⟩ := hc hp
  exact ⟨ad, ha, fun k hk' => clAt_keep (hc k hk') hk⟩

theorem clAt_below {w w' : World} (hb : Below w.heap.size w w') {a : Addr} {x : Cl} (h : ClAt w a x) : ClAt w' a x := clAt_keep h (cell_kept hb)

theorem cls_below {w w' : World} {v : Value} {Q : List Cl} (h : Cls w v Q) (hb : Below w.heap.size w w') : Cls w' v Q := cls_keep h (cell_kept hb)

theorem cls_nil (w : World) : Cls w (.slice none 0 0) [] := ⟨Nat.zero_le _, none, 0, rfl, fun h => absurd h (by simp)⟩

theorem crow_nil (w : World) (base : Nat) : CRow w base (.slice none 0 0) [] := World.ownsRow_nil w base _ 4

theorem crow_at {w : World} {base g cap : Nat} {Q : List Cl} (h : CRow w base (.slice (some ⟨g, 0, none⟩) Q.length cap) Q) (k : Nat) (hk : k < Q.length) : ClAt w ⟨g, k * 4, none⟩ Q[k] := by
  have c : ∀ j, j < 4 → w.cell? ⟨g, k * 4 + j, none⟩ = (ccs Q[k])[j]? := fun j hj => by rw [World.ownsRow.cellAt h (k * 4 + j) (by omega), ccells_at Q k j hk hj]
  exact ⟨c 0 (by omega), c 1 (by omega), c 2 (by omega), c 3 (by omega)⟩

theorem crow_dds {w : World} {base : Nat} {v : Value} {Q : List Cl} (h : CRow w base v Q) : Cls w v Q := by
  rcases h.2 with ⟨hv, h0⟩ | ⟨g, cap, cur, hv, hb, hg, h1, h2, h3, h4⟩
  · exact ⟨by rw [h0]; exact Nat.zero_le _, none, 0, by rw [hv, h0], fun hp => absurd hp (by omega)⟩
  · refine ⟨Nat.le_trans h1 h2, some ⟨g, 0, none⟩, cap, hv, fun _ => ⟨_, rfl, fun k hk => ?_⟩⟩
    subst hv
    have := crow_at h k hk
    rwa [show (⟨g, 0, none⟩ : Addr).add (k * 4) = ⟨g, k * 4, none⟩ by rw [Addr.add_lit, Nat.zero_add]]

theorem crow_lt {w : World} {base : Nat} {v : Value} {Q : List Cl} (h : CRow w base v Q) : ∀ g, v.ownBlock = some g → base ≤ g ∧ g < w.heap.size := h.lt

theorem crow_free {w : World} {base g cap n : Nat} {Q : List Cl} (h : CRow w base (.slice (some ⟨g, 0, none⟩) n cap) Q) (j : Nat) : w.frozen? ⟨g, j, none⟩ = false := by
  rcases h.2 with ⟨h', _⟩ | ⟨g', cap', cur, h', _, hg, _⟩
  · cases h'
  · simp only [Value.slice.injEq, Option.some.injEq, Addr.mk.injEq, and_true, true_and] at h'
    obtain ⟨rfl, _⟩ := h'
    simp [World.frozen?, hg]

theorem crow_keep {w w' : World} {base : Nat} {v : Value} {Q : List Cl} (h : CRow w base v Q) (hk : ∀ g, v.ownBlock = some g → w'.heap[g]? = w.heap[g]?) : CRow w' base v Q := by
  obtain ⟨h1, h2⟩ := h
  refine ⟨h1, ?_⟩
  rcases h2 with h2 | ⟨g, cap, cur, hv, hb, hg, r⟩
  · exact .inl h2
  · exact .inr ⟨g, cap, cur, hv, hb, by rw [hk g (by rw [hv]; rfl)]; exact hg, r⟩

theorem crow_below {w w' : World} {base : Nat} {v : Value} {Q : List Cl} (h : CRow w base v Q) (hb : Below w.heap.size w w') : CRow w' base v Q := crow_keep h fun g hg => hb.block g (crow_lt h g hg).2

theorem crow_alloc {w : World} {base : Nat} {v : Value} {Q : List Cl} (h : CRow w base v Q) (o : Obj) : CRow (w.alloc o) base v Q := crow_keep h fun g hg => Below.heap_alloc w o g (crow_lt h g hg).2

theorem crow_base {w : World} {base base' : Nat} {v : Value} {Q : List Cl} (h : CRow w base v Q) (hb : base' ≤ base) : CRow w base' v Q := by
  obtain ⟨h1, h2⟩ := h
  refine ⟨h1, ?_⟩
  rcases h2 with h2 | ⟨g, cap, cur, a1, a2, a3⟩
  · exact .inl h2
  · exact .inr ⟨g, cap, cur, a1, by omega, a3⟩

/-- No call. -/
def noCl : Cl := ⟨0, 0, 0, false⟩

theorem own_infoCl : (Tryd.prog.info? 75).map (fun i => (i.zero, i.size, i.bytes)) = some (some (.agg #[.int .i64 0, .int .i64 0, .int .i64 0, .bool false]), 4, 32) := by kernel_rfl

theorem ccells_set (Q : List Cl) (k : Nat) (x : Cl) (hk : k < Q.length) : ccells (Q.set k x) = ((((ccells Q).set (k * 4) (.int .i64 x.i)).set (k * 4 + 1) (.int .i64 x.f)).set (k * 4 + 2) (.int .i64 x.d)).set (k * 4 + 3) (.bool x.c) := by
  induction Q generalizing k with
  | nil => simp at hk
  | cons q r ih =>
    match k with
    | 0 => simp [ccells, ccs]
    | k + 1 =>
      simp at hk
      have := ih k (by omega)
      unfold ccells at *
      rw [List.set_cons_succ, List.flatMap_cons, List.flatMap_cons, this, show (k + 1) * 4 = k * 4 + 1 + 1 + 1 + 1 by omega]
      simp [ccs]

theorem cmade_cells (n : Nat) : (madeCells (Value.agg #[.int .i64 0, .int .i64 0, .int .i64 0, .bool false]).cells (n * 4)).toList = ccells (List.replicate n noCl) := by
  apply List.ext_getElem?
  intro j
  by_cases hj : j < n * 4
  · have hk : j / 4 < (List.replicate n noCl).length := by simp; omega
    have h := ccells_at (List.replicate n noCl) (j / 4) (j % 4) hk (by omega)
    rw [show j / 4 * 4 + j % 4 = j by omega] at h
    rw [h]
    have : j % 4 = 0 ∨ j % 4 = 1 ∨ j % 4 = 2 ∨ j % 4 = 3 := by omega
    rcases this with e | e | e | e <;> simp [madeCells, hj, Value.cells, ccs, noCl, e]
  · rw [(List.getElem?_eq_none (by rw [ccells_len]; simp; omega) : (ccells (List.replicate n noCl))[j]? = none)]
    simp [madeCells, hj]

/-- A call's four cells written. -/
def setC4 (w : World) (g k : Nat) (x : Cl) : World := (((w.setCell ⟨g, k * 4, none⟩ (.int .i64 x.i)).setCell ⟨g, k * 4 + 1, none⟩ (.int .i64 x.f)).setCell ⟨g, k * 4 + 2, none⟩ (.int .i64 x.d)).setCell ⟨g, k * 4 + 3, none⟩ (.bool x.c)

theorem crow_set {w : World} {base g cap : Nat} {Q : List Cl} (h : CRow w base (.slice (some ⟨g, 0, none⟩) Q.length cap) Q) (k : Nat) (hk : k < Q.length) (x : Cl) :
    CRow (setC4 w g k x) base (.slice (some ⟨g, 0, none⟩) Q.length cap) (Q.set k x) := by
  have h1 := (World.ownsRow.stored h (k * 4) (.int .i64 x.i)).1
  have h2 := (h1.stored (k * 4 + 1) (.int .i64 x.f)).1
  have h3 := (h2.stored (k * 4 + 2) (.int .i64 x.d)).1
  have h4 := (h3.stored (k * 4 + 3) (.bool x.c)).1
  rw [← ccells_set Q k x hk] at h4
  unfold CRow setC4
  rw [List.length_set]
  exact h4

theorem below_setC4 {B : Nat} {w0 w : World} (hb : Below B w0 w) {g : Nat} (hg : B ≤ g) (k : Nat) (x : Cl) : Below B w0 (setC4 w g k x) :=
  (((hb.setCell (p := ⟨g, k * 4, none⟩) hg _).setCell (p := ⟨g, k * 4 + 1, none⟩) hg _).setCell (p := ⟨g, k * 4 + 2, none⟩) hg _).setCell (p := ⟨g, k * 4 + 3, none⟩) hg _

theorem grown_setC4 (w : World) (g k : Nat) (x : Cl) : w.grownBy (setC4 w g k x) (some g) :=
  ⟨rfl, rfl, rfl, by simp [setC4], fun i hi hne => by
    have h : i ≠ g := fun e => hne (by rw [e])
    unfold setC4
    rw [Below.heap_setCell _ _ _ _ h, Below.heap_setCell _ _ _ _ h, Below.heap_setCell _ _ _ _ h, Below.heap_setCell _ _ _ _ h]⟩

/-- The first k calls, no calls behind them. -/
def clTo (Q : List Cl) (k : Nat) : List Cl := Q.take k ++ List.replicate (Q.length - k) noCl

theorem clTo_len (Q : List Cl) {k : Nat} (h : k ≤ Q.length) : (clTo Q k).length = Q.length := by unfold clTo; rw [List.length_append, List.length_take, List.length_replicate]; omega

theorem clTo_zero (Q : List Cl) : clTo Q 0 = List.replicate Q.length noCl := by unfold clTo; simp

theorem clTo_end (Q : List Cl) : clTo Q Q.length = Q := by unfold clTo; simp

theorem clTo_next (Q : List Cl) {k : Nat} (h : k < Q.length) : (clTo Q k).set k Q[k] = clTo Q (k + 1) := by
  unfold clTo
  rw [List.set_append_right _ _ (by rw [List.length_take]; omega), List.length_take, Nat.min_eq_left (by omega), Nat.sub_self, List.take_succ_eq_append_getElem h, show Q.length - k = (Q.length - (k + 1)) + 1 by omega, List.replicate_succ, List.set_cons_zero, List.append_assoc]
  rfl

/-- What makes a list of calls leaves: the list, in memory of its own. -/
def CListOf (w : World) (Q : List Cl) (e : Ending) (w' : World) : Prop := ∃ v, e = .returned v ∧ CRow w' w.heap.size v Q ∧ v.ownBlock ≠ none ∧ Below w.heap.size w w'

end Go.Proofs.YthnbaeamekolmaaDoor

namespace Go.Proofs.YthnbaeamekolmaaDoor
open Go.RowKit
set_option linter.unusedVariables false
set_option linter.unusedSimpArgs false

set_option maxRecDepth 100000 in
set_option maxHeartbeats 1000000 in
theorem eqCall_same (x : Cl) (w : World) :
    Calls Tryd.prog 48 #[.agg #[.int .i64 x.i, .int .i64 x.f, .int .i64 x.d, .bool x.c], .agg #[.int .i64 x.i, .int .i64 x.f, .int .i64 x.d, .bool x.c]] w fun e w' => e = .returned (.bool true) ∧ Below w.heap.size w w' := by
  have tp : (x.i != x.i) = false := by simp
  have ta : (x.f != x.f) = false := by simp
  have tb : (x.d != x.d) = false := by simp
  have tr : (x.c != x.c) = false := by simp
  go_enter Tryd.func48, Tryd.ntmps48
  go_wp2
  go_ret
  exact ⟨rfl, below_alloc (below_alloc (Below.refl _ _) _) _⟩

set_option maxRecDepth 100000 in
set_option maxHeartbeats 2000000 in
theorem eqCallS_same (u v : Value) (Q : List Cl) (w : World) (hu : Cls w u Q) (hv : Cls w v Q) :
    Calls Tryd.prog 28 #[u, v] w fun e w' => e = .returned (.bool true) ∧ Below w.heap.size w w' := by
  have HU := Lib.hid hu
  have HV := Lib.hid hv
  obtain ⟨hl, A, ca, rfl, _⟩ := hu
  obtain ⟨_, B, cb, rfl, _⟩ := hv
  unfold maxLen at hl
  have z0 : ((Q.length : Int) != (Q.length : Int)) = false := by simp
  go_enter Tryd.func28, Tryd.ntmps28
  go_wp2
  clear z0
  go_loopw [5] (fun i wr => ∃ k : Nat, k ≤ Q.length ∧ i = .int .i64 k ∧ Below w.heap.size w wr) (fun i _ => Q.length - (intOf i).toNat)
  case atStart => exact ⟨0, Nat.zero_le _, rfl, Below.refl _ _⟩
  case round =>
    obtain ⟨k, hk, rfl, hb⟩ := hrel
    have HB := Lib.hid hb
    clear hb
    by_cases hlt : k < Q.length
    · obtain ⟨_, A', ca', e', hc⟩ := cls_below HU.out HB.out
      simp only [Value.slice.injEq, true_and] at e'
      obtain ⟨rfl, rfl⟩ := e'
      obtain ⟨ga, rfl, ha⟩ := hc (by omega)
      obtain ⟨_, B', cb', e', hc⟩ := cls_below HV.out HB.out
      simp only [Value.slice.injEq, true_and] at e'
      obtain ⟨rfl, rfl⟩ := e'
      obtain ⟨gb, rfl, hb⟩ := hc (by omega)
      have WA := ha k hlt
      have WB := hb k hlt
      clear ha hb hc
      generalize Q[k] = x at *
      have KA := Lib.hid WA
      have KB := Lib.hid WB
      obtain ⟨a0, a1, a2, a3⟩ := WA
      obtain ⟨b0, b1, b2, b3⟩ := WB
      go_wp2
      go_region_held3 (fun w' => (w'.cell? (ga.add (k * 4)) = some (.int .i64 x.i) ∧ w'.cell? ⟨(ga.add (k * 4)).block, (ga.add (k * 4)).off + 1, none⟩ = some (.int .i64 x.f) ∧ w'.cell? ⟨(ga.add (k * 4)).block, (ga.add (k * 4)).off + 2, none⟩ = some (.int .i64 x.d) ∧ w'.cell? ⟨(ga.add (k * 4)).block, (ga.add (k * 4)).off + 3, none⟩ = some (.bool x.c)) ∧ (w'.cell? (gb.add (k * 4)) = some (.int .i64 x.i) ∧ w'.cell? ⟨(gb.add (k * 4)).block, (gb.add (k * 4)).off + 1, none⟩ = some (.int .i64 x.f) ∧ w'.cell? ⟨(gb.add (k * 4)).block, (gb.add (k * 4)).off + 2, none⟩ = some (.int .i64 x.d) ∧ w'.cell? ⟨(gb.add (k * 4)).block, (gb.add (k * 4)).off + 3, none⟩ = some (.bool x.c))) (first | exact ⟨K1, K2⟩ | exact ⟨KA.out, KB.out⟩)
        (first | (go_at_call 48; refine (eqCall_same x _).mono ?_; rintro e w1 ⟨rfl, hb1⟩; have K1 := clAt_below hb1 KA.out; have K2 := clAt_below hb1 KB.out))
      have HB2 := Lib.hid (HB.out.drew.trans (hb1.mono HB.out.drew.size))
      clear hb1 K1 K2 a0 a1 a2 a3 b0 b1 b2 b3
      go_wp2
      go_roundw
      case rel => exact ⟨k + 1, by omega, by go_num, HB2.out⟩
      case measure => simp [intOf]; omega
    · obtain rfl : k = Q.length := by omega
      clear hlt
      go_wp2
      go_ret
      exact ⟨rfl, HB.out⟩

theorem mkB_three (q : Nat) : (((q : Int) + 1 + 1 + 1).tmod 3 == 0) = mkB (q + 3) := by
  have h := mkB_eq q 3
  rw [← h, show ((q : Int) + 1 + 1 + 1) = (q : Int) + ((3 : Nat) : Int) by omega]

theorem mkB_three2 (q : Nat) : ((((q : Int) + 1 + 1 + 1) % 3) == 0) = mkB (q + 3) := by
  rw [← mkB_three, Int.tmod_eq_emod_of_nonneg (by omega)]

/-- The call with marks from K on. -/
def markCl (K : Nat) : Cl := ⟨(K : Int), (K : Int) + 1, (K : Int) + 1 + 1, mkB (K + 3)⟩

/-- The calls with marks from K on. -/
def marksC (K n : Nat) : List Cl := (List.range n).map fun j => markCl (K + 4 * j)

theorem marksC_len (K n : Nat) : (marksC K n).length = n := by unfold marksC; simp

theorem marksC_at {K n k : Nat} (h : k < (marksC K n).length) : (marksC K n)[k] = markCl (K + 4 * k) := by
  have e : (marksC K n)[k]? = some (markCl (K + 4 * k)) := by
    unfold marksC
    rw [List.getElem?_map, List.getElem?_range (by rwa [marksC_len] at h)]; rfl
  exact (List.getElem?_eq_some_iff.1 e).2

theorem marksC_succ (K n : Nat) : marksC K (n + 1) = marksC K n ++ [markCl (K + 4 * n)] := by unfold marksC; rw [List.range_succ]; simp

/-- Marks at the first k places. -/
def markedC (K k : Nat) (Q : List Cl) : List Cl := marksC K k ++ Q.drop k

theorem markedC_len {K k : Nat} {Q : List Cl} (h : k ≤ Q.length) : (markedC K k Q).length = Q.length := by unfold markedC; rw [List.length_append, marksC_len, List.length_drop]; omega

theorem markedC_zero (K : Nat) (Q : List Cl) : markedC K 0 Q = Q := by unfold markedC marksC; simp

theorem markedC_end (K : Nat) (Q : List Cl) : markedC K Q.length Q = marksC K Q.length := by unfold markedC; simp

theorem markedC_next {K k : Nat} {Q : List Cl} (h : k < Q.length) : (markedC K k Q).set k (markCl (K + 4 * k)) = markedC K (k + 1) Q := by
  unfold markedC
  rw [marksC_succ, List.drop_eq_getElem_cons h, List.set_append_right _ _ (by rw [marksC_len]; exact Nat.le_refl _), marksC_len, Nat.sub_self, List.set_cons_zero]
  simp

/-- What laying marks leaves: the calls bear them; no other block that was there has turned. -/
def MarkedCOf (w : World) (base : Nat) (v : Value) (n K : Nat) (e : Ending) (w' : World) : Prop := e = .returned (.int .i64 ((K + 4 * n : Nat) : Int)) ∧ CRow w' base v (marksC K n) ∧ w.grownBy w' v.ownBlock

set_option maxRecDepth 100000 in
set_option maxHeartbeats 2000000 in
theorem markCalls_any (v : Value) (base K : Nat) (Q : List Cl) (w : World) (h : CRow w base v Q) (hQ : Q.length ≤ 2097152) (hK : K ≤ 1099511627776) :
    Calls Tryd.prog 35 #[v, .int .i64 K] w (MarkedCOf w base v Q.length K) := by
  obtain ⟨_, A, cap, rfl, _⟩ := crow_dds h
  have H := Lib.hid h
  clear h
  go_enter Tryd.func35, Tryd.ntmps35
  go_wp2
  go_loopw [5, 1] (fun i m wr => ∃ k : Nat, k ≤ Q.length ∧ i = .int .i64 k ∧ m = .int .i64 ((K + 4 * k : Nat) : Int) ∧ CRow wr base (.slice A Q.length cap) (markedC K k Q) ∧ w.grownBy wr (Value.ownBlock (.slice A Q.length cap))) (fun i _ _ => Q.length - (intOf i).toNat)
  case atStart => exact ⟨0, Nat.zero_le _, rfl, rfl, by rw [markedC_zero]; exact H.out, World.grownBy.refl w _⟩
  case round =>
    obtain ⟨k, hk, rfl, rfl, ho, hg⟩ := hrel
    have HO := Lib.hid ho
    have HG := Lib.hid hg
    have HL := Lib.hid (markedC_len (K := K) hk)
    clear ho hg
    by_cases hlt : k < Q.length
    · obtain ⟨g, cap', hv, hglt⟩ : ∃ g cap', Value.slice A Q.length cap = .slice (some ⟨g, 0, none⟩) Q.length cap' ∧ g < wr.heap.size := by
        have h1 := HO.out
        unfold CRow at h1
        rw [HL.out] at h1
        rcases h1.2 with ⟨_, h0⟩ | ⟨g, cap', cur, hv, hb, hg, _⟩
        · omega
        · exact ⟨g, cap', hv, (Array.getElem?_eq_some_iff.1 hg).1⟩
      simp only [Value.slice.injEq, true_and] at hv
      obtain ⟨rfl, rfl⟩ := hv
      have R3 : CRow wr base (.slice (some ⟨g, 0, none⟩) (markedC K k Q).length cap) (markedC K k Q) := by rw [HL.out]; exact HO.out
      obtain ⟨o0, o1, o2, o3⟩ := crow_at R3 k (by rw [HL.out]; exact hlt)
      have f0 := crow_free HO.out (k * 4)
      have f1 := crow_free HO.out (k * 4 + 1)
      have f2 := crow_free HO.out (k * 4 + 2)
      have f3 := crow_free HO.out (k * 4 + 3)
      have SO : Hid (CRow (setC4 wr g k (markCl (K + 4 * k))) base (.slice (some ⟨g, 0, none⟩) Q.length cap) (markedC K (k + 1) Q)) := Lib.hid (by
        have h2 := crow_set R3 k (by rw [HL.out]; exact hlt) (markCl (K + 4 * k))
        rw [markedC_next hlt, HL.out] at h2
        exact h2)
      have SG := Lib.hid (gb_comp HG.out (grown_setC4 wr g k (markCl (K + 4 * k))))
      clear R3
      generalize ((markedC K k Q)[k]'(by rw [HL.out]; exact hlt)) = old at *
      obtain ⟨q, hq⟩ : ∃ q : Nat, q = K + 4 * k := ⟨_, rfl⟩
      have hq2 : q ≤ 1099520016384 := by omega
      rw [← hq] at SO SG
      unfold setC4 markCl at SO SG
      have em := mkB_three q
      have em2 := mkB_three2 q
      generalize mkB (q + 3) = mk at *
      simp only at o0 o1 o2 o3 SO SG
      have HQ := Lib.hid hq
      have eK : ((K + 4 * k : Nat) : Int) = (q : Int) := by rw [hq]
      rw [eK]
      clear hq eK
      go_wp2
      go_roundw
      case rel => exact ⟨k + 1, by omega, by go_num, by rw [show K + 4 * (k + 1) = q + 1 + 1 + 1 + 1 by rw [HQ.out]; omega]; go_num, SO.out, SG.out⟩
      case measure => simp [intOf]; omega
    · obtain rfl : k = Q.length := by omega
      clear hlt
      go_wp2
      go_ret
      exact ⟨rfl, by rw [← markedC_end]; exact HO.out, HG.out⟩

set_option maxRecDepth 100000 in
set_option maxHeartbeats 2000000 in
theorem heldCalls_any (v : Value) (n K : Nat) (w : World) (h : Cls w v (marksC K n)) (hn : n ≤ 2097152) (hK : K ≤ 1099511627776) :
    Calls Tryd.prog 40 #[v, .int .i64 K] w fun e w' => e = .returned (.int .i64 ((K + 4 * n : Nat) : Int)) ∧ w = w' := by
  obtain ⟨_, A, cap, rfl, hc⟩ := h
  have HC : Hid (0 < n → ∃ ad, A = some ad ∧ ∀ k, k < n → ClAt w (ad.add (k * 4)) (markCl (K + 4 * k))) := Lib.hid fun hp => by
    obtain ⟨ad, ha, hc⟩ := hc (by rw [marksC_len]; exact hp)
    refine ⟨ad, ha, fun k hk => ?_⟩
    have h2 := hc k (by rw [marksC_len]; exact hk)
    rwa [marksC_at] at h2
  clear hc
  rw [marksC_len]
  go_enter Tryd.func40, Tryd.ntmps40
  go_wp2
  go_loop [5, 1] (fun i m => ∃ k : Nat, k ≤ n ∧ i = .int .i64 k ∧ m = .int .i64 ((K + 4 * k : Nat) : Int)) (fun i _ => n - (intOf i).toNat)
  case atStart => exact ⟨0, Nat.zero_le _, rfl, rfl⟩
  case round =>
    obtain ⟨k, hk, rfl, rfl⟩ := hrel
    by_cases hlt : k < n
    · obtain ⟨ad, rfl, hc⟩ := HC.out (by omega)
      have WA := hc k hlt
      clear hc
      obtain ⟨q, hq⟩ : ∃ q : Nat, q = K + 4 * k := ⟨_, rfl⟩
      have hq2 : q ≤ 1099520016384 := by omega
      rw [← hq] at WA
      unfold markCl at WA
      obtain ⟨a0, a1, a2, a3⟩ := WA
      simp only at a0 a1 a2 a3
      have HQ := Lib.hid hq
      have eK : ((K + 4 * k : Nat) : Int) = (q : Int) := by rw [hq]
      rw [eK]
      clear hq eK
      have t0 : ((q : Int) != (q : Int)) = false := by simp
      have t1 : (((q : Int) + 1) != ((q : Int) + 1)) = false := by simp
      have t2 : (((q : Int) + 1 + 1) != ((q : Int) + 1 + 1)) = false := by simp
      have em := mkB_three q
      have em2 := mkB_three2 q
      generalize mkB (q + 3) = mk at *
      cases mk
      all_goals
        go_wp2
        go_round
        case rel => exact ⟨k + 1, by omega, by go_num, by rw [show K + 4 * (k + 1) = q + 1 + 1 + 1 + 1 by rw [HQ.out]; omega]; go_num⟩
        case measure => simp [intOf]; omega
    · obtain rfl : k = n := by omega
      go_wp2
      go_ret
      exact ⟨rfl, rfl⟩

end Go.Proofs.YthnbaeamekolmaaDoor

namespace Go.Proofs.YthnbaeamekolmaaDoor
open Go.Joins Go.ChangeShapes Go.WideShapes Go.RowKit Go.Deep Go.ChangeAt
set_option linter.unusedVariables false
set_option linter.unusedSimpArgs false

/-- A machine: its words, its code, its data, its host, its calls, the next address, the fuel. -/
structure Mc where
  w : List Wd
  k : List Int
  d : Dt
  h : Ht
  c : List Cl
  i : Int
  f : Int

/-- The argument reads as this machine. -/
def MchL (w : World) (v : Value) (m : Mc) : Prop :=
  ∃ x k a b c g s n q z, v = .agg #[x, k, a, b, c, .int .i64 m.d.h, .int .i64 m.d.n, .string m.d.o, g, s, n, .int .i64 m.h.c, q, z, .int .i64 m.i, .int .i64 m.f] ∧ WdsL w x m.w ∧ Ints w k m.k ∧ DatIn w (.agg #[a, b, c, .int .i64 m.d.h, .int .i64 m.d.n, .string m.d.o]) m.d ∧ HostIn w (.agg #[g, s, n, .int .i64 m.h.c, q]) m.h ∧ Cls w z m.c

/-- The value reads as this machine. -/
def MchIn (w : World) (v : Value) (m : Mc) : Prop :=
  ∃ x k a b c g s n q z, v = .agg #[x, k, a, b, c, .int .i64 m.d.h, .int .i64 m.d.n, .string m.d.o, g, s, n, .int .i64 m.h.c, q, z, .int .i64 m.i, .int .i64 m.f] ∧ Wds w x m.w ∧ Ints w k m.k ∧ DatIn w (.agg #[a, b, c, .int .i64 m.d.h, .int .i64 m.d.n, .string m.d.o]) m.d ∧ HostIn w (.agg #[g, s, n, .int .i64 m.h.c, q]) m.h ∧ Cls w z m.c

/-- The block is the value's own. -/
def Blk (v : Value) (g : Nat) : Prop := v.ownBlock = some g ∨ Mine v g

/-- No block is both's. -/
def Sep (u v : Value) : Prop := ∀ g, Blk u g → ¬ Blk v g

/-- The value is this machine, its rows in blocks of their own from lo on. -/
def MchT (w : World) (lo : Nat) (v : Value) (m : Mc) : Prop :=
  ∃ x k a b c g s n q z, v = .agg #[x, k, a, b, c, .int .i64 m.d.h, .int .i64 m.d.n, .string m.d.o, g, s, n, .int .i64 m.h.c, q, z, .int .i64 m.i, .int .i64 m.f] ∧ WRow w lo x m.w ∧ Row w lo k m.k ∧ DatOf w lo w.heap.size (.agg #[a, b, c, .int .i64 m.d.h, .int .i64 m.d.n, .string m.d.o]) m.d ∧ HostT w lo (.agg #[g, s, n, .int .i64 m.h.c, q]) m.h ∧ CRow w lo z m.c ∧
    Sep x k ∧ Sep x (.agg #[a, b, c, .int .i64 m.d.h, .int .i64 m.d.n, .string m.d.o]) ∧ Sep x (.agg #[g, s, n, .int .i64 m.h.c, q]) ∧ Sep x z ∧ Sep k (.agg #[a, b, c, .int .i64 m.d.h, .int .i64 m.d.n, .string m.d.o]) ∧ Sep k (.agg #[g, s, n, .int .i64 m.h.c, q]) ∧ Sep k z ∧ Sep (.agg #[a, b, c, .int .i64 m.d.h, .int .i64 m.d.n, .string m.d.o]) (.agg #[g, s, n, .int .i64 m.h.c, q]) ∧ Sep (.agg #[a, b, c, .int .i64 m.d.h, .int .i64 m.d.n, .string m.d.o]) z ∧ Sep (.agg #[g, s, n, .int .i64 m.h.c, q]) z

theorem mchL_keep {w w' : World} {v : Value} {m : Mc} (hv : MchL w v m) (hk : ∀ (x : Addr) (u : Value), w.cell? x = some u → w'.cell? x = some u) : MchL w' v m := by
  obtain ⟨x, k, a, b, c, g, s, n, q, z, e, h1, h2, h3, h4, h5⟩ := hv
  exact ⟨x, k, a, b, c, g, s, n, q, z, e, wdsL_keep h1 hk, ints_keep h2 hk, datIn_keep h3 hk, hostIn_keep h4 hk, cls_keep h5 hk⟩

theorem mchL_below {w w' : World} {v : Value} {m : Mc} (hv : MchL w v m) (hb : Below w.heap.size w w') : MchL w' v m := mchL_keep hv (cell_kept hb)

theorem mchIn_keep {w w' : World} {v : Value} {m : Mc} (hv : MchIn w v m) (hk : ∀ (x : Addr) (u : Value), w.cell? x = some u → w'.cell? x = some u) : MchIn w' v m := by
  obtain ⟨x, k, a, b, c, g, s, n, q, z, e, h1, h2, h3, h4, h5⟩ := hv
  exact ⟨x, k, a, b, c, g, s, n, q, z, e, wds_keep h1 hk, ints_keep h2 hk, datIn_keep h3 hk, hostIn_keep h4 hk, cls_keep h5 hk⟩

theorem mchIn_below {w w' : World} {v : Value} {m : Mc} (hv : MchIn w v m) (hb : Below w.heap.size w w') : MchIn w' v m := mchIn_keep hv (cell_kept hb)

theorem mchT_in {w : World} {lo : Nat} {v : Value} {m : Mc} (hv : MchT w lo v m) : MchIn w v m := by
  obtain ⟨x, k, a, b, c, g, s, n, q, z, e, h1, h2, h3, h4, h5, _⟩ := hv
  exact ⟨x, k, a, b, c, g, s, n, q, z, e, wrow_wds h1, row_ints h2, datOf_in h3, hostT_in h4, crow_dds h5⟩

theorem mchIn_form {w : World} {v : Value} {m : Mc} (hv : MchIn w v m) : ∃ A1 k1 A2 k2 A3 k3 A4 k4 A5 k5 A6 k6 A7 k7 A8 k8 A9 k9 A0 k0, v = .agg #[.slice A1 m.w.length k1, .slice A2 m.k.length k2, .slice A3 m.d.s.length k3, .slice A4 m.d.b.length k4, .slice A5 m.d.c.length k5, .int .i64 m.d.h, .int .i64 m.d.n, .string m.d.o, .slice A6 m.h.g.length k6, .slice A7 m.h.s.length k7, .slice A8 m.h.n.length k8, .int .i64 m.h.c, .slice A9 m.h.d.length k9, .slice A0 m.c.length k0, .int .i64 m.i, .int .i64 m.f] := by
  obtain ⟨x, k, a, b, c, g, s, n, q, z, rfl, h1, ⟨_, A2, k2, rfl, _⟩, h3, h4, ⟨_, A0, k0, rfl, _⟩⟩ := hv
  obtain ⟨A1, k1, rfl, _⟩ := wds_form h1
  obtain ⟨A3, k3, A4, k4, A5, k5, e3⟩ := datIn_form h3
  obtain ⟨A6, k6, A7, k7, A8, k8, A9, k9, e4⟩ := hostIn_form h4
  simp only [Value.agg.injEq, Array.mk.injEq, List.cons.injEq, and_true, true_and] at e3 e4
  obtain ⟨rfl, rfl, rfl⟩ := e3
  obtain ⟨rfl, rfl, rfl, rfl⟩ := e4
  exact ⟨_, _, _, _, _, _, _, _, _, _, _, _, _, _, _, _, _, _, _, _, rfl⟩

theorem mchL_form {w : World} {v : Value} {m : Mc} (hv : MchL w v m) : ∃ A1 k1 A2 k2 A3 k3 A4 k4 A5 k5 A6 k6 A7 k7 A8 k8 A9 k9 A0 k0, v = .agg #[.slice A1 m.w.length k1, .slice A2 m.k.length k2, .slice A3 m.d.s.length k3, .slice A4 m.d.b.length k4, .slice A5 m.d.c.length k5, .int .i64 m.d.h, .int .i64 m.d.n, .string m.d.o, .slice A6 m.h.g.length k6, .slice A7 m.h.s.length k7, .slice A8 m.h.n.length k8, .int .i64 m.h.c, .slice A9 m.h.d.length k9, .slice A0 m.c.length k0, .int .i64 m.i, .int .i64 m.f] := by
  obtain ⟨x, k, a, b, c, g, s, n, q, z, rfl, h1, ⟨_, A2, k2, rfl, _⟩, h3, h4, ⟨_, A0, k0, rfl, _⟩⟩ := hv
  obtain ⟨A1, k1, rfl, _⟩ := wdsL_form h1
  obtain ⟨A3, k3, A4, k4, A5, k5, e3⟩ := datIn_form h3
  obtain ⟨A6, k6, A7, k7, A8, k8, A9, k9, e4⟩ := hostIn_form h4
  simp only [Value.agg.injEq, Array.mk.injEq, List.cons.injEq, and_true, true_and] at e3 e4
  obtain ⟨rfl, rfl, rfl⟩ := e3
  obtain ⟨rfl, rfl, rfl, rfl⟩ := e4
  exact ⟨_, _, _, _, _, _, _, _, _, _, _, _, _, _, _, _, _, _, _, _, rfl⟩

theorem only_gb {G : Nat} {w w' : World} (h : Only (fun k => k = G) w w') : w.grownBy w' (some G) := ⟨h.os, h.tape, h.output, h.size, fun k hk hne => h.block k hk (fun e => hne (by rw [e]))⟩

theorem wrow_on {w w' : World} {lo G : Nat} {v : Value} {Q : List Wd} (hn : Only (fun k => k = G) w w') (hg : G < lo) (h : WRow w lo v Q) : WRow w' lo v Q := wrow_apart h (only_gb hn) (fun g e q => by have := wrow_lt h g e; simp only [Option.some.injEq] at q; omega)
theorem row_on {w w' : World} {lo G : Nat} {v : Value} {Q : List Int} (hn : Only (fun k => k = G) w w') (hg : G < lo) (h : Row w lo v Q) : Row w' lo v Q := row_keep h fun g e => hn.block g (row_lt h g e).2 (fun q => by have := row_lt h g e; omega)
theorem crow_on {w w' : World} {lo G : Nat} {v : Value} {Q : List Cl} (hn : Only (fun k => k = G) w w') (hg : G < lo) (h : CRow w lo v Q) : CRow w' lo v Q := crow_keep h fun g e => hn.block g (crow_lt h g e).2 (fun q => by have := crow_lt h g e; omega)
theorem hostT_on {w w' : World} {lo G : Nat} {v : Value} {h : Ht} (hn : Only (fun k => k = G) w w') (hg : G < lo) (H : HostT w lo v h) : HostT w' lo v h := hostT_only H hn fun g e q => by have := hostT_mine H e; omega
theorem datOf_on {w w' : World} {lo hi G : Nat} {v : Value} {d : Dt} (hn : Only (fun k => k = G) w w') (hg : G < lo) (H : DatOf w lo hi v d) : DatOf w' lo hi v d := datOf_only H hn fun g e q => by have := datOf_mine H e; omega

theorem blk_slice {A : Option Addr} {n c g : Nat} (h : Blk (.slice A n c) g) : (Value.slice A n c).ownBlock = some g := by
  rcases h with h | ⟨cs, e, _⟩
  · exact h
  · cases e

theorem blk_agg {cs : Array Value} {g : Nat} (h : Blk (.agg cs) g) : Mine (.agg cs) g := by
  rcases h with h | h
  · simp [Value.ownBlock] at h
  · exact h

theorem sep_lt {u v : Value} {n : Nat} (h : ∀ g, Blk u g → g < n) (k : ∀ g, Blk v g → n ≤ g) : Sep u v := fun g hg hv => by
  have h1 := h g hg
  have h2 := k g hv
  omega

/-- The machine is small. -/
def SmallM (m : Mc) : Prop := SmallW m.w ∧ m.k.length ≤ 1048576 ∧ SmallD m.d ∧ SmallH m.h ∧ m.c.length ≤ 1048576

/-- What is left of a size: below 0, or the machine is small. -/
def SzMOf (w : World) (m : Mc) (e : Ending) (w' : World) : Prop := ∃ r : Int, e = .returned (.int .i64 r) ∧ (r = -1 ∨ (0 ≤ r ∧ r ≤ 1048576 ∧ SmallM m)) ∧ Below w.heap.size w w'

theorem cells_sixteen {w : World} {g : Nat} {t : TypeId} {c0 c1 c2 c3 c4 c5 c6 c7 c8 c9 c10 c11 c12 c13 c14 c15 : Value} (h : Whole w g t #[c0, c1, c2, c3, c4, c5, c6, c7, c8, c9, c10, c11, c12, c13, c14, c15]) :
    w.cell? ⟨g, 0, none⟩ = some c0 ∧ w.cell? ⟨g, 1, none⟩ = some c1 ∧ w.cell? ⟨g, 2, none⟩ = some c2 ∧ w.cell? ⟨g, 3, none⟩ = some c3 ∧ w.cell? ⟨g, 4, none⟩ = some c4 ∧ w.cell? ⟨g, 5, none⟩ = some c5 ∧ w.cell? ⟨g, 6, none⟩ = some c6 ∧ w.cell? ⟨g, 7, none⟩ = some c7 ∧ w.cell? ⟨g, 8, none⟩ = some c8 ∧ w.cell? ⟨g, 9, none⟩ = some c9 ∧ w.cell? ⟨g, 10, none⟩ = some c10 ∧ w.cell? ⟨g, 11, none⟩ = some c11 ∧ w.cell? ⟨g, 12, none⟩ = some c12 ∧ w.cell? ⟨g, 13, none⟩ = some c13 ∧ w.cell? ⟨g, 14, none⟩ = some c14 ∧ w.cell? ⟨g, 15, none⟩ = some c15 :=
  ⟨whole_cell h 0, whole_cell h 1, whole_cell h 2, whole_cell h 3, whole_cell h 4, whole_cell h 5, whole_cell h 6, whole_cell h 7, whole_cell h 8, whole_cell h 9, whole_cell h 10, whole_cell h 11, whole_cell h 12, whole_cell h 13, whole_cell h 14, whole_cell h 15⟩

end Go.Proofs.YthnbaeamekolmaaDoor

namespace Go.Proofs.YthnbaeamekolmaaDoor
open Go.RowKit
set_option linter.unusedVariables false
set_option linter.unusedSimpArgs false

theorem whole_onl {S : Nat → Prop} {w w' : World} {g : Nat} {t : TypeId} {cs : Array Value} (h : Whole w g t cs) (hb : Only S w w') (hs : ¬ S g) : Whole w' g t cs := whole_keep h (hb.block g (whole_lt h) hs)

theorem mc_put {w : World} {G i : Nat} (u : Value) : Only (fun k => k = G) w (w.setCell ⟨G, i, none⟩ u) := ⟨rfl, rfl, rfl, by simp, fun k hk hne => Below.heap_setCell w _ u k (fun e => hne e)⟩

end Go.Proofs.YthnbaeamekolmaaDoor

namespace Go.Proofs.YthnbaeamekolmaaDoor
open Go.RowKit
set_option linter.unusedVariables false
set_option linter.unusedSimpArgs false

set_option maxRecDepth 100000 in
set_option maxHeartbeats 4000000 in
theorem eqMachine_same (u v : Value) (m : Mc) (w : World) (hu : MchIn w u m) (hv : MchIn w v m) :
    Calls Tryd.prog 11 #[u, v] w fun e w' => e = .returned (.bool true) ∧ Below w.heap.size w w' := by
  obtain ⟨A1, k1, A2, k2, A3, k3, A4, k4, A5, k5, A6, k6, A7, k7, A8, k8, A9, k9, A0, k0, rfl⟩ := mchIn_form hu
  obtain ⟨x, k, a, b, c, g, s, n, q, z, e, hx, hk, hd, hh, hz⟩ := hu
  simp only [Value.agg.injEq, Array.mk.injEq, List.cons.injEq, and_true, true_and] at e
  obtain ⟨rfl, rfl, rfl, rfl, rfl, rfl, rfl, rfl, rfl, rfl⟩ := e
  have UX := Lib.hid hx
  have UK := Lib.hid hk
  have UD := Lib.hid hd
  have UH := Lib.hid hh
  have UZ := Lib.hid hz
  clear hx hk hd hh hz
  obtain ⟨B1, j1, B2, j2, B3, j3, B4, j4, B5, j5, B6, j6, B7, j7, B8, j8, B9, j9, B0, j0, rfl⟩ := mchIn_form hv
  obtain ⟨x, k, a, b, c, g, s, n, q, z, e, hx, hk, hd, hh, hz⟩ := hv
  simp only [Value.agg.injEq, Array.mk.injEq, List.cons.injEq, and_true, true_and] at e
  obtain ⟨rfl, rfl, rfl, rfl, rfl, rfl, rfl, rfl, rfl, rfl⟩ := e
  have VX := Lib.hid hx
  have VK := Lib.hid hk
  have VD := Lib.hid hd
  have VH := Lib.hid hh
  have VZ := Lib.hid hz
  clear hx hk hd hh hz
  have BB : Below w.heap.size w ((w.alloc (.cells #[.slice A1 m.w.length k1, .slice A2 m.k.length k2, .slice A3 m.d.s.length k3, .slice A4 m.d.b.length k4, .slice A5 m.d.c.length k5, .int .i64 m.d.h, .int .i64 m.d.n, .string m.d.o, .slice A6 m.h.g.length k6, .slice A7 m.h.s.length k7, .slice A8 m.h.n.length k8, .int .i64 m.h.c, .slice A9 m.h.d.length k9, .slice A0 m.c.length k0, .int .i64 m.i, .int .i64 m.f] 32)).alloc (.cells #[.slice B1 m.w.length j1, .slice B2 m.k.length j2, .slice B3 m.d.s.length j3, .slice B4 m.d.b.length j4, .slice B5 m.d.c.length j5, .int .i64 m.d.h, .int .i64 m.d.n, .string m.d.o, .slice B6 m.h.g.length j6, .slice B7 m.h.s.length j7, .slice B8 m.h.n.length j8, .int .i64 m.h.c, .slice B9 m.h.d.length j9, .slice B0 m.c.length j0, .int .i64 m.i, .int .i64 m.f] 32)) := below_alloc (below_alloc (Below.refl _ _) _) _
  have ti : (m.i != m.i) = false := by simp
  have tf : (m.f != m.f) = false := by simp
  go_enter Tryd.func11, Tryd.ntmps11
  go_wp2_with fail
  refine (eqWordS_same _ _ m.w _ (wds_below UX.out BB) (wds_below VX.out BB)).mono ?_
  rintro e w1 ⟨rfl, hb⟩
  have B1 := Lib.hid (below_step BB hb)
  have W1 := Lib.hid (whole_b hb (whole_alloc (whole_new w _ _) _))
  have Y1 := Lib.hid (whole_b hb (whole_new1 w _ _ _))
  clear hb BB
  have zw := whole_lt W1.out
  have zy := whole_lt Y1.out
  obtain ⟨c0, c1, c2, c3, c4, c5, c6, c7, c8, c9, c10, c11, c12, c13, c14, c15⟩ := cells_sixteen W1.out
  obtain ⟨d0, d1, d2, d3, d4, d5, d6, d7, d8, d9, d10, d11, d12, d13, d14, d15⟩ := cells_sixteen Y1.out
  go_wp2_with fail
  clear zw zy c0 c1 c2 c3 c4 c5 c6 c7 c8 c9 c10 c11 c12 c13 c14 c15 d0 d1 d2 d3 d4 d5 d6 d7 d8 d9 d10 d11 d12 d13 d14 d15
  refine (eqInts_any _ _ m.k m.k _ (ints_below UK.out B1.out) (ints_below VK.out B1.out)).mono ?_
  intro e w2 hr
  obtain ⟨n2, rfl, rfl⟩ := boolOf_true hr
  clear hr
  have B2 := Lib.hid (below_drewN B1.out n2)
  have W2 : Hid (Whole (w1.drewN n2) _ _ _) := W1
  have Y2 : Hid (Whole (w1.drewN n2) _ _ _) := Y1
  generalize w1.drewN n2 = w2 at *
  have zw := whole_lt W2.out
  have zy := whole_lt Y2.out
  obtain ⟨c0, c1, c2, c3, c4, c5, c6, c7, c8, c9, c10, c11, c12, c13, c14, c15⟩ := cells_sixteen W2.out
  obtain ⟨d0, d1, d2, d3, d4, d5, d6, d7, d8, d9, d10, d11, d12, d13, d14, d15⟩ := cells_sixteen Y2.out
  go_wp2_with fail
  clear zw zy c0 c1 c2 c3 c4 c5 c6 c7 c8 c9 c10 c11 c12 c13 c14 c15 d0 d1 d2 d3 d4 d5 d6 d7 d8 d9 d10 d11 d12 d13 d14 d15
  refine (eqData_same _ _ m.d _ (datIn_below UD.out B2.out) (datIn_below VD.out B2.out)).mono ?_
  rintro e w3 ⟨rfl, hb⟩
  have B3 := Lib.hid (below_step B2.out hb)
  have W3 := Lib.hid (whole_b hb W2.out)
  have Y3 := Lib.hid (whole_b hb Y2.out)
  clear hb
  have zw := whole_lt W3.out
  have zy := whole_lt Y3.out
  obtain ⟨c0, c1, c2, c3, c4, c5, c6, c7, c8, c9, c10, c11, c12, c13, c14, c15⟩ := cells_sixteen W3.out
  obtain ⟨d0, d1, d2, d3, d4, d5, d6, d7, d8, d9, d10, d11, d12, d13, d14, d15⟩ := cells_sixteen Y3.out
  go_wp2_with fail
  clear zw zy c0 c1 c2 c3 c4 c5 c6 c7 c8 c9 c10 c11 c12 c13 c14 c15 d0 d1 d2 d3 d4 d5 d6 d7 d8 d9 d10 d11 d12 d13 d14 d15
  refine (eqHost_same _ _ m.h _ (hostIn_below UH.out B3.out) (hostIn_below VH.out B3.out)).mono ?_
  rintro e w4 ⟨rfl, hb⟩
  have B4 := Lib.hid (below_step B3.out hb)
  have W4 := Lib.hid (whole_b hb W3.out)
  have Y4 := Lib.hid (whole_b hb Y3.out)
  clear hb
  have zw := whole_lt W4.out
  have zy := whole_lt Y4.out
  obtain ⟨c0, c1, c2, c3, c4, c5, c6, c7, c8, c9, c10, c11, c12, c13, c14, c15⟩ := cells_sixteen W4.out
  obtain ⟨d0, d1, d2, d3, d4, d5, d6, d7, d8, d9, d10, d11, d12, d13, d14, d15⟩ := cells_sixteen Y4.out
  go_wp2_with fail
  clear zw zy c0 c1 c2 c3 c4 c5 c6 c7 c8 c9 c10 c11 c12 c13 c14 c15 d0 d1 d2 d3 d4 d5 d6 d7 d8 d9 d10 d11 d12 d13 d14 d15
  refine (eqCallS_same _ _ m.c _ (cls_below UZ.out B4.out) (cls_below VZ.out B4.out)).mono ?_
  rintro e w5 ⟨rfl, hb⟩
  have B5 := Lib.hid (below_step B4.out hb)
  have W5 := Lib.hid (whole_b hb W4.out)
  have Y5 := Lib.hid (whole_b hb Y4.out)
  clear hb
  have zw := whole_lt W5.out
  have zy := whole_lt Y5.out
  obtain ⟨c0, c1, c2, c3, c4, c5, c6, c7, c8, c9, c10, c11, c12, c13, c14, c15⟩ := cells_sixteen W5.out
  obtain ⟨d0, d1, d2, d3, d4, d5, d6, d7, d8, d9, d10, d11, d12, d13, d14, d15⟩ := cells_sixteen Y5.out
  go_wp2
  go_ret
  exact ⟨rfl, B5.out⟩

end Go.Proofs.YthnbaeamekolmaaDoor

namespace Go.Proofs.YthnbaeamekolmaaDoor
open Go.RowKit
set_option linter.unusedVariables false
set_option linter.unusedSimpArgs false

theorem size_mI : (Tryd.prog.info? 32).map (·.size) = some 16 := by kernel_rfl

/-- A row of sixteen cells, each of one cell. -/
def Six10 (cs : Array Value) : Prop := cs.size = 16 ∧ cs.all (·.oneCell') = true

theorem mchL_cells {w : World} {v : Value} {m : Mc} (h : MchL w v m) : ∃ cs, v = .agg cs ∧ Six10 cs := by
  obtain ⟨A1, k1, A2, k2, A3, k3, A4, k4, A5, k5, A6, k6, A7, k7, A8, k8, A9, k9, A0, k0, rfl⟩ := mchL_form h
  exact ⟨_, rfl, rfl, by simp [Value.oneCell']⟩

theorem mchIn_cells {w : World} {v : Value} {m : Mc} (h : MchIn w v m) : ∃ cs, v = .agg cs ∧ Six10 cs := by
  obtain ⟨A1, k1, A2, k2, A3, k3, A4, k4, A5, k5, A6, k6, A7, k7, A8, k8, A9, k9, A0, k0, rfl⟩ := mchIn_form h
  exact ⟨_, rfl, rfl, by simp [Value.oneCell']⟩

theorem wpList_load_mI {ops : Array Oper} {rest : List Oper} {o : Oper} {a : Act} {w : World} {Q : Exit → Act → World → Prop} (hgd : o.guard = none) (x : Operand) (ho : o.op = .load 32 x)
    (g : Nat) (hx : a.eval x = .pointer (some ⟨g, 0, none⟩)) {t : TypeId} {cs : Array Value} (hg : Whole w g t cs) (hs : Six10 cs)
    (h : wpList Tryd.prog ops Q rest (a.put o.dst (.agg cs)) w) : wpList Tryd.prog ops Q (o :: rest) a w :=
  wpList_load_row hgd 32 x ho g hx t _ (0, 0) _ hg Tryd.underlying32 rfl (by rw [hs.1]; exact size_mI) h

theorem wpList_load_mIw {ops : Array Oper} {rest : List Oper} {o : Oper} {a : Act} {w : World} {Q : Exit → Act → World → Prop} (hw : Region.wanted o (yielded ops a.tmps) = true) (x : Operand) (ho : o.op = .load 32 x)
    (g : Nat) (hx : a.eval x = .pointer (some ⟨g, 0, none⟩)) {t : TypeId} {cs : Array Value} (hg : Whole w g t cs) (hs : Six10 cs)
    (h : wpList Tryd.prog ops Q rest (a.put o.dst (.agg cs)) w) : wpList Tryd.prog ops Q (o :: rest) a w :=
  wpList_step fun _ hK => by rw [if_pos hw]; exact wp_load_row 32 x ho g hx t _ (0, 0) _ hg Tryd.underlying32 rfl (by rw [hs.1]; exact size_mI) (hK _ _ h)

theorem wpList_store_mI {ops : Array Oper} {rest : List Oper} {o : Oper} {a : Act} {w : World} {Q : Exit → Act → World → Prop} (hgd : o.guard = none) (x y : Operand) (ho : o.op = .store 32 x y)
    (cs : Array Value) (hx : a.eval x = .pointer (some ⟨w.heap.size, 0, none⟩)) (hy : a.eval y = .agg cs) (t : TypeId) (hs : Six10 cs)
    (h : wpList Tryd.prog ops Q rest (a.put o.dst undef) (w.alloc (.cells cs t))) : wpList Tryd.prog ops Q (o :: rest) a (w.alloc (.cells #[.slice none 0 0, .slice none 0 0, .slice none 0 0, .slice none 0 0, .slice none 0 0, .int .i64 0, .int .i64 0, .string ⟨#[]⟩, .slice none 0 0, .slice none 0 0, .slice none 0 0, .int .i64 0, .slice none 0 0, .slice none 0 0, .int .i64 0, .int .i64 0] t)) :=
  wpList_store_row hgd 32 x y ho w.heap.size cs hx hy t #[.slice none 0 0, .slice none 0 0, .slice none 0 0, .slice none 0 0, .slice none 0 0, .int .i64 0, .int .i64 0, .string ⟨#[]⟩, .slice none 0 0, .slice none 0 0, .slice none 0 0, .int .i64 0, .slice none 0 0, .slice none 0 0, .int .i64 0, .int .i64 0] (heap_alloc_last w _) (by rw [hs.1]; exact size_mI) (by rw [hs.1]; rfl) hs.2 (by rw [World.setRow_alloc_new]; exact h)

theorem yields_load_row {P : Program} {ops : Array Oper} {S : World → Prop} {o : Oper} {a : Act} (hw : Region.wanted o (yielded ops a.tmps) = true) (ty : TypeId) (x : Operand) (ho : o.op = .load ty x)
    (g : Nat) (hx : a.eval x = .pointer (some ⟨g, 0, none⟩)) (t : TypeId) (cs : Array Value) (d : TypeDesc) (hS : ∀ w, S w → Whole w g t cs)
    (hu : P.underlying ty = some d) (hd : (match d with | .struct _ | .array _ _ => true | _ => false) = true) (hi : (P.info? ty).map (·.size) = some cs.size) : YieldsIf P ops S o (.agg cs) a :=
  .inl ⟨hw, fun w h => by
    unfold execOp
    simp only [ho, hx, Instr.loadAt, Instr.sureAddr, Sem.run_bind, Sem.run_pure, Result.andThen_ok, run_loadVar_row w g t ty cs (0, 0) d (hS w h) hu hd hi]⟩

theorem yields_load_mI {ops : Array Oper} {S : World → Prop} {o : Oper} {a : Act} (hw : Region.wanted o (yielded ops a.tmps) = true) (x : Operand) (ho : o.op = .load 32 x)
    (g : Nat) (hx : a.eval x = .pointer (some ⟨g, 0, none⟩)) {t : TypeId} {cs : Array Value} (hS : ∀ w, S w → Whole w g t cs) (hs : Six10 cs) : YieldsIf Tryd.prog ops S o (.agg cs) a :=
  yields_load_row hw _ x ho g hx t cs _ hS Tryd.underlying32 rfl (by rw [hs.1]; exact size_mI)

end Go.Proofs.YthnbaeamekolmaaDoor
