/- Walks over slices of numbers: alike, cells all, marks laid and found, copies. -/
import Derived.Test.YthnbaeamekolmaaDoorRowA
namespace Go.Proofs.YthnbaeamekolmaaDoor
open Go.RowKit
set_option linter.unusedVariables false
set_option linter.unusedSimpArgs false

set_option maxRecDepth 100000 in
set_option maxHeartbeats 1000000 in
theorem eqInts_any (u v : Value) (P Q : List Int) (w : World) (hu : Ints w u P) (hv : Ints w v Q) :
    Calls Tryd.prog 25 #[u, v] w (BoolOf w (P == Q)) := by
  obtain ⟨pm, A, ca, rfl, ha⟩ := hu
  obtain ⟨qm, B, cb, rfl, hb⟩ := hv
  unfold maxLen at pm qm
  by_cases hl : P.length = Q.length
  · have z0 : ((P.length : Int) != (Q.length : Int)) = false := by simp [hl]
    have LE := Lib.hid hl
    have hlq : P.length ≤ Q.length := by omega
    have HA := Lib.hid ha
    have HB := Lib.hid hb
    clear hl ha hb
    go_enter Tryd.func25, Tryd.ntmps25
    go_wp2
    clear z0
    go_loopw [5] (fun i wr => ∃ k n : Nat, k ≤ P.length ∧ i = .int .i64 k ∧ SameTo P Q k ∧ wr = w.drewN n) (fun i _ => P.length - (intOf i).toNat)
    case atStart => exact ⟨0, 0, Nat.zero_le _, rfl, sameTo_zero _ _, rfl⟩
    case round =>
      obtain ⟨k, n, hk, rfl, hat, rfl⟩ := hrel
      have AT := Lib.hid hat
      clear hat
      by_cases hlt : k < P.length
      · have hlt2 : k < Q.length := by omega
        obtain ⟨ga, rfl, hca⟩ := HA.out (by omega)
        obtain ⟨gb, rfl, hcb⟩ := HB.out (by omega)
        have ka := hca k hlt
        have kb := hcb k hlt2
        clear hca hcb
        by_cases e : P[k] = Q[k]
        · have t1 : (P[k] == Q[k]) = true := by rw [beq_iff_eq]; exact e
          have NX := Lib.hid (sameTo_next AT.out hlt hlt2 e)
          clear e
          generalize P[k] = x at *
          generalize Q[k] = y at *
          go_wp2
          go_quiet (fail)
          go_wp2
          go_roundw
          case rel => exact ⟨k + 1, _, by omega, by go_num, NX.out, rfl⟩
          case measure => simp [intOf]; omega
        · have t1 : (P[k] == Q[k]) = false := by rw [beq_eq_false_iff_ne]; exact e
          have NO := Lib.hid (same_not hlt hlt2 e)
          clear e
          generalize P[k] = x at *
          generalize Q[k] = y at *
          go_wp2
          go_quiet (fail)
          go_wp2
          go_ret
          exact ⟨_, ret_bool NO.out.symm, by rw [World.drewN_drewN]⟩
      · obtain rfl : k = P.length := by omega
        have E := Lib.hid (sameTo_end LE.out AT.out)
        go_wp2
        go_ret
        exact ⟨_, ret_bool E.out.symm, rfl⟩
  · have z0 : ((P.length : Int) != (Q.length : Int)) = true := by rw [bne_iff_ne]; omega
    have E := Lib.hid (same_len hl)
    clear hl ha hb
    go_enter Tryd.func25, Tryd.ntmps25
    go_wp2
    go_ret
    exact ⟨0, ret_bool E.out.symm, rfl⟩

/-- Are all the numbers cells? -/
def cellsB (l : List Int) : Bool := l.all cellB

theorem cellsB_at {l : List Int} (h : cellsB l = true) {n : Int} (hn : n ∈ l) : cellB n = true := List.all_eq_true.1 h n hn

/-- The first k are cells. -/
def CellsTo (l : List Int) (k : Nat) : Prop := ∀ n ∈ l.take k, cellB n = true

theorem cellsTo_zero (l : List Int) : CellsTo l 0 := by intro n hn; simp at hn

theorem cellsTo_next {l : List Int} {k : Nat} (h : CellsTo l k) (hk : k < l.length) (e : cellB l[k] = true) : CellsTo l (k + 1) := by
  intro n hn
  rw [List.take_succ_eq_append_getElem hk] at hn
  rcases List.mem_append.1 hn with hn | hn
  · exact h n hn
  · rw [List.mem_singleton.1 hn]; exact e

theorem cells_end {l : List Int} (h : CellsTo l l.length) : cellsB l = true := by
  unfold CellsTo at h; rw [List.take_length] at h; exact List.all_eq_true.2 h

theorem cells_not {l : List Int} {k : Nat} (hk : k < l.length) (e : cellB l[k] = false) : cellsB l = false := by
  cases h : cellsB l
  · rfl
  · rw [cellsB_at h (List.getElem_mem hk)] at e; cases e

/-- What is left of a size. -/
def leftOf (left : Int) (n : Nat) : Int := if left - n < 0 then -1 else left - n

/-- A slice handed back, of the call's own, of these numbers. -/
def RowOf (w : World) (zs : List Int) (e : Ending) (w' : World) : Prop := ∃ v, e = .returned v ∧ Row w' w.heap.size v zs ∧ v.ownBlock ≠ none ∧ Below w.heap.size w w'

/-- The first k numbers, then zeros. -/
def partI (zs : List Int) (k : Nat) : List Int := zs.take k ++ List.replicate (zs.length - k) 0

theorem partI_len {zs : List Int} {k : Nat} (h : k ≤ zs.length) : (partI zs k).length = zs.length := by unfold partI; simp; omega

theorem partI_next {zs : List Int} {k : Nat} (h : k < zs.length) : (partI zs k).set k zs[k] = partI zs (k + 1) := by
  unfold partI
  rw [List.set_append_right _ _ (by simp; omega)]
  rw [List.length_take, Nat.min_eq_left (by omega), Nat.sub_self, show zs.length - k = (zs.length - (k + 1)) + 1 by omega, List.replicate_succ, List.set_cons_zero, List.take_succ_eq_append_getElem h, List.append_assoc]
  rfl

theorem partI_end (zs : List Int) : partI zs zs.length = zs := by unfold partI; simp

theorem zeros_cells (n : Nat) : (madeCells (Value.int .i64 0).cells (n * 1)).toList = (List.replicate n (0 : Int)).map (Value.int .i64) := by
  rw [Nat.mul_one, show (Value.int .i64 0).cells = #[Value.int .i64 0] from rfl, toList_madeCells_one]; simp

theorem zeros_row {w' : World} {base g n : Nat} (h : w'.ownsRow base 3 1 (.slice (some ⟨g, 0, none⟩) n n) n (madeCells (Value.int .i64 0).cells (n * 1)).toList) : Row w' base (.slice (some ⟨g, 0, none⟩) n n) (List.replicate n 0) := by
  unfold Row
  rw [List.length_replicate, ← zeros_cells]; exact h

theorem copy_parts {w w1 : World} {A : Option Addr} {ca : Nat} {zs : List Int} (hv : Ints w (.slice A zs.length ca) zs) (ho : w1.ownsRow w.heap.size 3 1 (.slice (some ⟨w.heap.size, 0, none⟩) zs.length zs.length) zs.length (madeCells (Value.int .i64 0).cells (zs.length * 1)).toList) (hg : w.grownBy w1 none) (hl : zs.length ≤ 1099511627776) :
    w1.heap[w.heap.size]? = some (.cells ((List.replicate zs.length (0 : Int)).map (Value.int .i64)).toArray 3 (0, 0)) ∧ (zs.map (Value.int .i64)).length = Nat.min zs.length zs.length ∧
    (0 < (zs.map (Value.int .i64)).length → some (⟨w.heap.size, 0, none⟩ : Addr) = some ⟨w.heap.size, 0, none⟩ ∧ ∃ ad, A = some ad ∧ ∀ j v, (zs.map (Value.int .i64))[j]? = some v → w1.cell? (ad.add j) = some v) ∧
    0 + (zs.map (Value.int .i64)).length ≤ ((List.replicate zs.length (0 : Int)).map (Value.int .i64)).length ∧ Below w.heap.size w w1 := by
  have B1 : Below w.heap.size w w1 := (Below.refl _ _).grown hg (Nat.le_refl _) (by simp)
  refine ⟨?_, by simp [Nat.min_def], fun hp => ⟨rfl, ?_⟩, by simp, B1⟩
  · have R1 := zeros_row ho
    rw [show (Value.slice (some ⟨w.heap.size, 0, none⟩) zs.length zs.length) = .slice (some ⟨w.heap.size, 0, none⟩) (List.replicate zs.length (0 : Int)).length (List.replicate zs.length (0 : Int)).length by simp] at R1
    exact row_full R1
  · obtain ⟨_, A', ca', hv', hc⟩ := ints_below hv B1
    simp only [Value.slice.injEq, true_and] at hv'
    obtain ⟨rfl, rfl⟩ := hv'
    obtain ⟨ad, rfl, hc'⟩ := hc (by simpa using hp)
    refine ⟨ad, rfl, fun j u hu => ?_⟩
    rcases Nat.lt_or_ge j zs.length with hj | hj
    · rw [hc' j hj]; simpa [hj] using hu
    · simp [hj] at hu

theorem splice_all (zs : List Int) : Go.splice ((List.replicate zs.length (0 : Int)).map (Value.int .i64)) 0 (zs.map (Value.int .i64)) = zs.map (Value.int .i64) := by
  unfold Go.splice; simp

/-- Marks from K on. -/
def marksI (K n : Nat) : List Int := (List.range n).map fun j => ((K + j : Nat) : Int)

theorem marksI_len (K n : Nat) : (marksI K n).length = n := by unfold marksI; simp

theorem marksI_at {K n k : Nat} (h : k < (marksI K n).length) : (marksI K n)[k] = ((K + k : Nat) : Int) := by unfold marksI; simp

/-- Marks at the first k places. -/
def markToI (K k : Nat) (Q : List Int) : List Int := marksI K k ++ Q.drop k

theorem markToI_len {K k : Nat} {Q : List Int} (h : k ≤ Q.length) : (markToI K k Q).length = Q.length := by unfold markToI; simp [marksI_len]; omega

theorem markToI_zero (K : Nat) (Q : List Int) : markToI K 0 Q = Q := by unfold markToI marksI; simp

theorem markToI_end (K : Nat) (Q : List Int) : markToI K Q.length Q = marksI K Q.length := by unfold markToI; simp

theorem markToI_next {K k : Nat} {Q : List Int} (h : k < Q.length) : (markToI K k Q).set k ((K + k : Nat) : Int) = markToI K (k + 1) Q := by
  unfold markToI
  rw [show marksI K (k + 1) = marksI K k ++ [((K + k : Nat) : Int)] by unfold marksI; rw [List.range_succ]; simp, List.drop_eq_getElem_cons h, List.set_append_right _ _ (by rw [marksI_len]; exact Nat.le_refl _), marksI_len, Nat.sub_self, List.set_cons_zero]
  simp

theorem gb_comp {a b c : World} {row : Option Nat} (h : a.grownBy b row) (k : b.grownBy c row) : a.grownBy c row :=
  ⟨k.os.trans h.os, k.tape.trans h.tape, k.output.trans h.output, Nat.le_trans h.size k.size, fun i hi hr => (k.block i (Nat.lt_of_lt_of_le hi h.size) hr).trans (h.block i hi hr)⟩

/-- What laying marks leaves: the row bears them; no other block has turned. -/
def MarkIOf (w : World) (base : Nat) (v : Value) (n K : Nat) (e : Ending) (w' : World) : Prop := e = .returned (.int .i64 ((K : Int) + n)) ∧ Row w' base v (marksI K n) ∧ w.grownBy w' v.ownBlock

set_option maxRecDepth 100000 in
set_option maxHeartbeats 1000000 in
theorem markInts_any (v : Value) (base K : Nat) (Q : List Int) (w : World) (h : Row w base v Q) (hQ : Q.length ≤ 1099511627776) (hK : K ≤ 1099511627776) :
    Calls Tryd.prog 32 #[v, .int .i64 K] w (MarkIOf w base v Q.length K) := by
  obtain ⟨_, A, cap, rfl, _⟩ := row_ints h
  have H := Lib.hid h
  clear h
  go_enter Tryd.func32, Tryd.ntmps32
  go_wp2
  go_loopw [5, 1] (fun i m wr => ∃ k : Nat, k ≤ Q.length ∧ i = .int .i64 k ∧ m = .int .i64 ((K : Int) + k) ∧ Row wr base (.slice A Q.length cap) (markToI K k Q) ∧ w.grownBy wr (Value.ownBlock (.slice A Q.length cap))) (fun i _ _ => Q.length - (intOf i).toNat)
  case atStart => exact ⟨0, Nat.zero_le _, rfl, by simp, by rw [markToI_zero]; exact H.out, World.grownBy.refl w _⟩
  case round =>
    obtain ⟨k, hk, rfl, rfl, hr, hg⟩ := hrel
    have HG := Lib.hid hg
    have HR := Lib.hid hr
    clear hg hr
    by_cases hlt : k < Q.length
    · have pl := markToI_len (K := K) (Nat.le_of_lt hlt)
      have HR' := HR.out
      rw [← pl] at HR'
      obtain ⟨g, cap', hv, _, hglt, _⟩ := row_form HR' (by omega)
      simp only [Value.slice.injEq, true_and] at hv
      obtain ⟨rfl, rfl⟩ := hv
      have ko := row_cell HR' k (by omega)
      have kf := row_free HR' k
      have ST := row_set HR' k ((K + k : Nat) : Int)
      rw [markToI_next hlt, pl, show (((K + k : Nat) : Int)) = (K : Int) + k by omega] at ST
      have SR := Lib.hid ST.1
      have SG := Lib.hid (gb_comp HG.out ST.2)
      clear ST HR'
      generalize (markToI K k Q)[k]'_ = old at *
      go_wp2
      go_roundw
      case rel => exact ⟨k + 1, by omega, by go_num, by go_num, SR.out, SG.out⟩
      case measure => simp [intOf]; omega
    · obtain rfl : k = Q.length := by omega
      rw [markToI_end] at HR
      go_wp2
      go_ret
      exact ⟨rfl, HR.out, HG.out⟩

set_option maxRecDepth 100000 in
set_option maxHeartbeats 1000000 in
theorem heldInts_any (v : Value) (n K : Nat) (w : World) (h : Ints w v (marksI K n)) (hn : n ≤ 1099511627776) (hK : K ≤ 1099511627776) :
    Calls Tryd.prog 37 #[v, .int .i64 K] w fun e w' => e = .returned (.int .i64 ((K : Int) + n)) ∧ w = w' := by
  obtain ⟨_, A, cap, rfl, hc⟩ := h
  have HC : Hid (0 < n → ∃ ad, A = some ad ∧ ∀ k, k < n → w.cell? (ad.add k) = some (.int .i64 ((K : Int) + k))) := Lib.hid fun hp => by
    obtain ⟨ad, ha, hc⟩ := hc (by rw [marksI_len]; exact hp)
    refine ⟨ad, ha, fun k hk => ?_⟩
    rw [hc k (by rw [marksI_len]; exact hk), marksI_at, show (((K + k : Nat) : Int)) = (K : Int) + k by omega]
  clear hc
  rw [marksI_len]
  go_enter Tryd.func37, Tryd.ntmps37
  go_wp2
  go_loop [5, 1] (fun i m => ∃ k : Nat, k ≤ n ∧ i = .int .i64 k ∧ m = .int .i64 ((K : Int) + k)) (fun i _ => n - (intOf i).toNat)
  case atStart => exact ⟨0, Nat.zero_le _, rfl, by simp⟩
  case round =>
    obtain ⟨k, hk, rfl, rfl⟩ := hrel
    by_cases hlt : k < n
    · obtain ⟨ad, rfl, hc⟩ := HC.out (by omega)
      have kc := hc k hlt
      clear hc
      have t1 : (((K : Int) + k) != ((K : Int) + k)) = false := by simp
      go_wp2
      go_round
      case rel => exact ⟨k + 1, by omega, by go_num, by go_num⟩
      case measure => simp [intOf]; omega
    · obtain rfl : k = n := by omega
      go_wp2
      go_ret
      exact ⟨rfl, rfl⟩

end Go.Proofs.YthnbaeamekolmaaDoor
