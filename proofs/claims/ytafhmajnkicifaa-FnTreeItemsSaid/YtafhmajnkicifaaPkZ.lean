/- PkZ: several of my texts, laid together: IdE, DsF, IdF, DsG, AtA, IdG, DsH. -/
import Derived.Test.YtafhmajnkicifaaPkY
import Derived.Deep.DeepCutAuto
import Derived.BigRegion
import Derived.Test.YtafhmajnkicifaaSrcA
import Derived.Test.YtafhmajnkicifaaFlS
namespace Go.Proofs.Ytafhmajnkicifaa
open Go.RowKit
set_option linter.unusedVariables false
set_option linter.unusedSimpArgs false

/-- What drawn items that fit leave. -/
def FitDrew (w : World) (b : Nat) (a : Option Addr) (len cap : Nat) (zs : List Int) (N : Nat) (e : Ending) (w' : World) : Prop :=
  ∃ v Q, e = .returned v ∧ IRow w' w.heap.size v Q ∧ Fits 2 Q ∧ Q.length ≤ 60 ∧ Src w' b a len cap zs N ∧ w.grownBy w' (some b)

set_option maxRecDepth 100000 in
set_option maxHeartbeats 4000000 in
theorem items_drew (b : Nat) (a : Option Addr) (len cap : Nat) (zs : List Int) (N : Nat) (w : World) (h : Src w b a len cap zs N) (hN : N ≤ 10000) :
    Calls Try.prog 27 #[.pointer (some ⟨b, 0, none⟩), .int .i64 86] w (FitDrew w b a len cap zs (N + 11000)) := by
  have hb0 := src_lt h
  have HA := Lib.hid (src_code_lt h)
  have H := Lib.hid h
  clear h
  go_enter Try.func27, Try.ntmps27
  go_wp2_with fail
  refine (block2_drew _ _ _ _ _ _ _ H.out (by omega)).mono ?_
  rintro e w1 ⟨v1, Q1, rfl, hr, F1, L1, hs, hg⟩
  obtain ⟨A1, n1, c1, rfl⟩ := irow_form hr
  have z1 : w.heap.size ≤ w1.heap.size := hg.size
  have G1 := hg
  have R1 := hr
  have S1 := hs
  clear hr hs hg
  go_wp2_with fail
  refine (chance_i _ _ _ _ _ _ _ _ S1 (by unfold Few; omega) (by omega) (by omega)).mono ?_
  rintro e w2 ⟨y, rfl, hs, hg⟩
  have R2 := irow_gb hg R1 hb0
  have G2 := grown_trans G1 hg
  have S2 := hs
  have z2 : w.heap.size ≤ w2.heap.size := G2.size
  clear hs hg R1 G1 S1
  have LEN : ∀ {W : World} {A n c} {Q : List It}, IRow W w.heap.size (.slice A n c) Q → n = Q.length := fun h => by
    obtain ⟨_, _, _, e, _⟩ := irow_its h
    cases e; rfl
  cases y
  · have e1 := Lib.hid (LEN R2)
    by_cases h60 : Q1.length ≤ 60
    · have t : ¬ (60 : Int) < (n1 : Int) := by have := e1.out; omega
      go_wp2
      go_ret
      exact ⟨_, Q1, rfl, R2, F1, h60, src_mono S2 (by omega), G2⟩
    · have t : (60 : Int) < (n1 : Int) := by have := e1.out; omega
      go_wp2_with fail
      refine (block0_drew _ _ _ _ _ _ _ S2 (by omega)).mono ?_
      rintro e w3 ⟨v3, Q3, rfl, hr, F3, L3, hs, hg⟩
      go_wp2
      go_ret
      exact ⟨_, Q3, rfl, irow_base hr z2, fits_mono F3 (by omega), by omega, src_mono hs (by omega), grown_trans G2 hg⟩
  · by_cases h60 : Q1.length + 1 ≤ 60
    · have FN : Fits 2 (Q1 ++ [(⟨13, 0⟩ : It)]) := fits_app F1 (fits_mono (fits_one (by decide) (by simp)) (by omega))
      have LN : (Q1 ++ [(⟨13, 0⟩ : It)]).length ≤ 60 := by simpa using h60
      go_wp2_with (first | (at_builtin; refine wpList_append_items rfl (.tmp 11) (.tmp 13) rfl rfl w.heap.size _ Q1 (irow_below R2 (by repeat (first | with_reducible exact Below.refl _ _ | with_reducible refine Below.alloc ?_ (by first | omega | (simp; done) | (simp; omega)) _))) _ [⟨13, 0⟩] (its_lit ⟨13, 0⟩ (by simp)) rfl rfl (by simp; omega) (by simp; omega) ?_; intro v3 w3 hr hgr hat; obtain ⟨A3, n3, c3, rfl⟩ := irow_form hr; have BX : Below w.heap.size w2 w3 := Below.grown (by repeat (first | with_reducible exact Below.refl _ _ | with_reducible refine Below.alloc ?_ (by first | omega | (simp; done) | (simp; omega)) _)) hgr (by simp; omega) (fun g hg => (irow_lt R2 g hg).1); have S3 := src_lo S2 hb0 HA.out BX; have G3 := gb_of_lo G2 BX; have z3 : w.heap.size ≤ w3.heap.size := G3.size; have t : ¬ (60 : Int) < (n3 : Int) := (by have := LEN hr; simp at this; omega); clear BX hgr hat))
      go_ret
      exact ⟨_, _, rfl, hr, FN, LN, src_mono S3 (by omega), G3⟩
    · go_wp2_with (first | (at_builtin; refine wpList_append_items rfl (.tmp 11) (.tmp 13) rfl rfl w.heap.size _ Q1 (irow_below R2 (by repeat (first | with_reducible exact Below.refl _ _ | with_reducible refine Below.alloc ?_ (by first | omega | (simp; done) | (simp; omega)) _))) _ [⟨13, 0⟩] (its_lit ⟨13, 0⟩ (by simp)) rfl rfl (by simp; omega) (by simp; omega) ?_; intro v3 w3 hr hgr hat; obtain ⟨A3, n3, c3, rfl⟩ := irow_form hr; have BX : Below w.heap.size w2 w3 := Below.grown (by repeat (first | with_reducible exact Below.refl _ _ | with_reducible refine Below.alloc ?_ (by first | omega | (simp; done) | (simp; omega)) _)) hgr (by simp; omega) (fun g hg => (irow_lt R2 g hg).1); have S3 := src_lo S2 hb0 HA.out BX; have G3 := gb_of_lo G2 BX; have z3 : w.heap.size ≤ w3.heap.size := G3.size; have t : (60 : Int) < (n3 : Int) := (by have := LEN hr; simp at this; omega); clear BX hgr hat))
      refine (block0_drew _ _ _ _ _ _ _ S3 (by omega)).mono ?_
      rintro e w4 ⟨v4, Q4, rfl, hr4, F4, L4, hs4, hg4⟩
      go_wp2
      go_ret
      exact ⟨_, Q4, rfl, irow_base hr4 z3, fits_mono F4 (by omega), by omega, src_mono hs4 (by omega), grown_trans G3 hg4⟩

end Go.Proofs.Ytafhmajnkicifaa

namespace Go.Proofs.Ytafhmajnkicifaa
open Go.RowKit
set_option linter.unusedVariables false
set_option linter.unusedSimpArgs false

def dItems (len : Nat) (zs : List Int) (s : DSt) : List It × DSt :=
  let x := dBlk2 len zs s
  let c := dNx len zs 10 x.2
  let Q := if chB c.1 10 = true then x.1 ++ [⟨13, 0⟩] else x.1
  if 60 < Q.length then dBlk0 len zs c.2 else (Q, c.2)

set_option maxRecDepth 100000 in
set_option maxHeartbeats 4000000 in
theorem itemsD (b : Nat) (a : Option Addr) (len cap : Nat) (zs : List Int) (s0 : DSt) (w : World) (h : SrcS w b a len cap zs s0) (hN : s0.1 ≤ 100000000) :
    Calls Try.prog 27 #[.pointer (some ⟨b, 0, none⟩), .int .i64 86] w (BlkD (dItems len zs) 11000 2 60 w b a len cap zs s0) := by
  have hb0 := srcS_lt h
  have HA := Lib.hid (srcS_code_lt h)
  have H := Lib.hid h
  clear h
  go_enter Try.func27, Try.ntmps27
  go_wp2_with fail
  refine (block2D _ _ _ _ _ _ _ H.out (by omega)).mono ?_
  rintro e w1 ⟨v1, Q1, t1, he1, rfl, hr, F1, L1, hp1, hs, hg⟩
  have E1 := Lib.hid he1
  clear he1
  obtain ⟨A1, n1, c1, rfl⟩ := irow_form hr
  have z1 : w.heap.size ≤ w1.heap.size := hg.size
  have G1 := hg
  have R1 := hr
  have S1 := hs
  clear hr hs hg
  go_wp2_with fail
  refine (chanceE _ _ _ _ _ _ 10 _ S1 (by omega) (by omega) (by omega)).mono ?_
  rintro e w2 ⟨y, vc, t2, he2, hc2, hp2, rfl, hs, hg⟩
  have E2 := Lib.hid he2
  have HC2 := Lib.hid hc2
  clear he2 hc2
  have R2 := irow_gb hg R1 hb0
  have G2 := grown_trans G1 hg
  have S2 := hs
  have z2 : w.heap.size ≤ w2.heap.size := G2.size
  clear hs hg R1 G1 S1
  have LEN : ∀ {W : World} {A n c} {Q : List It}, IRow W w.heap.size (.slice A n c) Q → n = Q.length := fun h => by
    obtain ⟨_, _, _, e, _⟩ := irow_its h
    cases e; rfl
  cases y
  · have e1 := Lib.hid (LEN R2)
    by_cases h60 : Q1.length ≤ 60
    · have t : ¬ (60 : Int) < (n1 : Int) := by have := e1.out; omega
      go_wp2
      go_ret
      exact ⟨_, Q1, t2, by unfold dItems; simp [E1.out, E2.out, HC2.out, show ¬ 60 < Q1.length from by omega], rfl, R2, F1, h60, by omega, S2, G2⟩
    · have t : (60 : Int) < (n1 : Int) := by have := e1.out; omega
      go_wp2_with fail
      refine (block0D _ _ _ _ _ _ _ S2 (by omega)).mono ?_
      rintro e w3 ⟨v3, Q3, t3, he3, rfl, hr, F3, L3, hp3, hs, hg⟩
      have E3 := Lib.hid he3
      clear he3
      go_wp2
      go_ret
      exact ⟨_, Q3, t3, by unfold dItems; simp [E1.out, E2.out, HC2.out, E3.out, show 60 < Q1.length from by omega], rfl, irow_base hr z2, fits_mono F3 (by omega), by omega, by omega, hs, grown_trans G2 hg⟩
  · by_cases h60 : Q1.length + 1 ≤ 60
    · have FN : Fits 2 (Q1 ++ [(⟨13, 0⟩ : It)]) := fits_app F1 (fits_mono (fits_one (by decide) (by simp)) (by omega))
      have LN : (Q1 ++ [(⟨13, 0⟩ : It)]).length ≤ 60 := by simpa using h60
      go_wp2_with (first | (at_builtin; refine wpList_append_items rfl (.tmp 11) (.tmp 13) rfl rfl w.heap.size _ Q1 (irow_below R2 (by repeat (first | with_reducible exact Below.refl _ _ | with_reducible refine Below.alloc ?_ (by first | omega | (simp; done) | (simp; omega)) _))) _ [⟨13, 0⟩] (its_lit ⟨13, 0⟩ (by simp)) rfl rfl (by simp; omega) (by simp; omega) ?_; intro v3 w3 hr hgr hat; obtain ⟨A3, n3, c3, rfl⟩ := irow_form hr; have BX : Below w.heap.size w2 w3 := Below.grown (by repeat (first | with_reducible exact Below.refl _ _ | with_reducible refine Below.alloc ?_ (by first | omega | (simp; done) | (simp; omega)) _)) hgr (by simp; omega) (fun g hg => (irow_lt R2 g hg).1); have S3 := srcS_lo S2 hb0 HA.out BX; have G3 := gb_of_lo G2 BX; have z3 : w.heap.size ≤ w3.heap.size := G3.size; have t : ¬ (60 : Int) < (n3 : Int) := (by have := LEN hr; simp at this; omega); clear BX hgr hat))
      go_ret
      exact ⟨_, _, t2, by unfold dItems; simp [E1.out, E2.out, HC2.out, show ¬ 60 < Q1.length + 1 from by omega], rfl, hr, FN, LN, by omega, S3, G3⟩
    · go_wp2_with (first | (at_builtin; refine wpList_append_items rfl (.tmp 11) (.tmp 13) rfl rfl w.heap.size _ Q1 (irow_below R2 (by repeat (first | with_reducible exact Below.refl _ _ | with_reducible refine Below.alloc ?_ (by first | omega | (simp; done) | (simp; omega)) _))) _ [⟨13, 0⟩] (its_lit ⟨13, 0⟩ (by simp)) rfl rfl (by simp; omega) (by simp; omega) ?_; intro v3 w3 hr hgr hat; obtain ⟨A3, n3, c3, rfl⟩ := irow_form hr; have BX : Below w.heap.size w2 w3 := Below.grown (by repeat (first | with_reducible exact Below.refl _ _ | with_reducible refine Below.alloc ?_ (by first | omega | (simp; done) | (simp; omega)) _)) hgr (by simp; omega) (fun g hg => (irow_lt R2 g hg).1); have S3 := srcS_lo S2 hb0 HA.out BX; have G3 := gb_of_lo G2 BX; have z3 : w.heap.size ≤ w3.heap.size := G3.size; have t : (60 : Int) < (n3 : Int) := (by have := LEN hr; simp at this; omega); clear BX hgr hat))
      refine (block0D _ _ _ _ _ _ _ S3 (by omega)).mono ?_
      rintro e w4 ⟨v4, Q4, t4, he4, rfl, hr4, F4, L4, hp4, hs4, hg4⟩
      have E4 := Lib.hid he4
      clear he4
      go_wp2
      go_ret
      exact ⟨_, Q4, t4, by unfold dItems; simp [E1.out, E2.out, HC2.out, E4.out, show 60 < Q1.length + 1 from by omega], rfl, irow_base hr4 z3, fits_mono F4 (by omega), by omega, by omega, hs4, grown_trans G3 hg4⟩

end Go.Proofs.Ytafhmajnkicifaa

namespace Go.Proofs.Ytafhmajnkicifaa
open Go.RowKit
set_option linter.unusedVariables false
set_option linter.unusedSimpArgs false

theorem next_upto (b : Nat) (a : Option Addr) (len cap : Nat) (zs : List Int) (N : Nat) (n : Int) (w : World) (h : Src w b a len cap zs N) (hN : Few N) (h1 : 1 ≤ n) (h2 : n ≤ 256) :
    Calls Try.prog 54 #[.pointer (some ⟨b, 0, none⟩), .int .i64 n] w (Drew w b a len cap zs (N + 1) fun v => 0 ≤ v ∧ v < n) := by
  by_cases h : 1 < n
  · exact next_small _ _ _ _ _ _ _ _ ‹_› hN h h2
  · refine (next_one _ _ _ _ _ _ n _ ‹_› (by omega)).mono ?_
    rintro e w1 ⟨v, rfl, rfl, hs, hg⟩
    exact ⟨0, ⟨by omega, by omega⟩, rfl, src_mono hs (by omega), hg⟩

theorem irow_len {w : World} {lo : Nat} {A : Option Addr} {n c : Nat} {Q : List It} (h : IRow w lo (.slice A n c) Q) : n = Q.length := by
  obtain ⟨_, _, _, e, _⟩ := irow_its h
  cases e; rfl

theorem irow_cap {w : World} {lo n k : Nat} {A : Option Addr} {Q : List It} (h : IRow w lo (.slice A n k) Q) : n ≤ k := by
  rcases h.2 with ⟨hv, h0⟩ | ⟨g', cap', cur, hv, hb', hg, h1, h2, h3, h4⟩
  · simp only [Value.slice.injEq] at hv
    omega
  · simp only [Value.slice.injEq] at hv
    obtain ⟨_, rfl, rfl⟩ := hv
    omega

theorem irow_block {w : World} {lo : Nat} {A : Option Addr} {n c : Nat} {Q : List It} (h : IRow w lo (.slice A n c) Q) (h0 : 0 < n) : ∃ g, A = some ⟨g, 0, none⟩ ∧ lo ≤ g ∧ g < w.heap.size := by
  rcases h.2 with ⟨hv, _⟩ | ⟨g, cap, cur, hv, hb, hg, h1, h2, h3, h4⟩
  · have : n = 0 := by injection hv
    omega
  · refine ⟨g, by injection hv, hb, ?_⟩
    exact (irow_lt h g (by rw [hv]; rfl)).2

theorem irow_oneG {w : World} {g : Nat} (x : It) (hg : g = w.heap.size) : IRow (w.alloc (.cells #[.int .i64 x.k, .int .i64 x.v] 59)) w.heap.size (.slice (some ⟨g, 0, none⟩) 1 1) [x] := by subst hg; exact irow_one w x

theorem irow_emptyG {w : World} {g base : Nat} (hg : g = w.heap.size) (hb : base ≤ w.heap.size) : IRow (w.alloc (.cells #[] 59)) base (.slice (some ⟨g, 0, none⟩) 0 0) [] := by subst hg; exact irow_empty w hb

theorem next_head : (Try.prog.funcs[54]?).map (fun fn => (fn.name == "runtime.NumGoroutine", fn.body.isNone)) = some (false, false) := by kernel_rfl

/-- A call of the source's next, as one step of a region that draws its order: by its contract. -/
theorem step_next {w : World} {ops : Array Oper} {o : Oper} {a : Act} {K : Act → World → Prop} {Q : Exit → Act → World → Prop} {E : Prop} (hgd : o.guard = none) (s x : Operand) (ts : Array TypeId)
    (ho : o.op = .call { callee := .value (.func 54), args := #[s, x], argTypes := ts }) (u v : Value) (hs : a.eval s = u) (hx : a.eval x = v) {R : Ending → World → Prop} (hc : Calls Try.prog 54 #[u, v] w R)
    (h : ∀ e w', R e w' → ∃ r, e = .returned r ∧ K (a.put o.dst r) w') :
    if Region.wanted o (yielded ops a.tmps) = true then Oper.wp Try.prog o a w K Q else E := by
  have hw : Region.wanted o (yielded ops a.tmps) = true := by simp [Region.wanted, hgd]
  rw [if_pos hw]
  obtain ⟨fn, hfn, hp⟩ : ∃ fn, Try.prog.funcs[54]? = some fn ∧ (fn.name == "runtime.NumGoroutine", fn.body.isNone) = (false, false) := by
    have q := next_head
    rw [Option.map_eq_some_iff] at q
    exact q
  simp only [Prod.mk.injEq] at hp
  have hr : (execOp a.eval o).run Try.prog w = .ok (.enter 54 #[u, v]) w := by
    unfold execOp
    simp only [ho, resolve, invoke, Sem.run_bind, Sem.run_pure, Result.andThen_ok, List.map_toArray, List.map_cons, List.map_nil, hs, hx]
    have h1 : ¬ fn.name = "runtime.NumGoroutine" := by simpa using hp.1
    have h2 : ¬ fn.body = none := fun e => by rw [e] at hp; simp at hp
    simp [callFunc, go_sem, hfn, h1, h2]
  unfold Oper.wp
  rw [hr, Oper.upon_enter]
  refine hc.mono ?_
  intro e w' hq
  obtain ⟨r, rfl, hk⟩ := h e w' hq
  exact hk

/-- A change of blocks made since, beside one's own source. -/
theorem gb_own {a w w' : World} {b : Nat} {r : Option Nat} (h : a.grownBy w (some b)) (k : w.grownBy w' r) (hv : ∀ g, r = some g → a.heap.size ≤ g) : a.grownBy w' (some b) :=
  ⟨k.os.trans h.os, k.tape.trans h.tape, k.output.trans h.output, Nat.le_trans h.size k.size, fun i hi hne => (k.block i (Nat.lt_of_lt_of_le hi h.size) (fun e => by have := hv i e.symm; omega)).trans (h.block i hi hne)⟩

/-- The items behind the first so many, as the language's own part of a slice. -/
theorem its_from {w : World} {lo : Nat} {A : Option Addr} {n c : Nat} {Q : List It} (h : IRow w lo (.slice A n c) Q) (k : Nat) (hk : k ≤ n) : Its w (.slice (if c = k then A else Option.map (fun x => x.add (k * 2)) A) (n - k) (c - k)) (Q.drop k) := by
  have e := irow_len h
  have r := irow_cap h
  have hm := (irow_its h).1
  subst e
  have hl : (Q.drop k).length = Q.length - k := List.length_drop
  refine ⟨by rw [hl]; omega, _, _, by rw [hl], fun h0 => ?_⟩
  rw [hl] at h0
  obtain ⟨g, rfl, _⟩ := irow_block h (by omega)
  refine ⟨⟨g, k * 2, none⟩, by rw [if_neg (by omega)]; simp [Addr.add_lit], fun i hi => ?_⟩
  rw [hl] at hi
  have q := irow_at h (k + i) (by omega)
  rw [List.getElem_drop]
  rw [show (⟨g, k * 2, none⟩ : Addr).add (i * 2) = ⟨g, (k + i) * 2, none⟩ by rw [Addr.add_lit]; congr 1; omega]
  exact q

/-- What drawn items leave, whether they fit or not. -/
def AnyDrew (w : World) (b : Nat) (a : Option Addr) (len cap : Nat) (zs : List Int) (N : Nat) (e : Ending) (w' : World) : Prop :=
  ∃ A n c Q, e = .returned (.slice A n c) ∧ IRow w' w.heap.size (.slice A n c) Q ∧ Q.length ≤ 100 ∧ Src w' b a len cap zs N ∧ w.grownBy w' (some b)

set_option maxRecDepth 100000 in
set_option maxHeartbeats 8000000 in
theorem any_drew (b : Nat) (a : Option Addr) (len cap : Nat) (zs : List Int) (w : World) (h : Src w b a len cap zs 0) :
    Calls Try.prog 34 #[.pointer (some ⟨b, 0, none⟩)] w (AnyDrew w b a len cap zs 20000) := by
  have hb0 := src_lt h
  have HA := Lib.hid (src_code_lt h)
  have H := Lib.hid h
  clear h
  go_enter Try.func34, Try.ntmps34
  go_wp2_with fail
  refine (items_drew _ _ _ _ _ _ _ H.out (by omega)).mono ?_
  rintro e w1 ⟨v1, Q, rfl, hr, -, L1, hs, hg⟩
  obtain ⟨A, n, c, rfl⟩ := irow_form hr
  have R1 := hr
  have G1 := hg
  have S1 := hs
  have ln : n ≤ 60 := by have := irow_len hr; omega
  have li : IntKind.i64.wrap ((n : Int) + 1) = (n : Int) + 1 := IntWalk.i64_in _ (by omega)
  clear hr hs hg
  go_wp2_with fail
  refine (next_upto _ _ _ _ _ _ _ _ S1 (by unfold Few; omega) (by omega) (by omega)).mono ?_
  rintro e w2 ⟨k, ⟨k0, k1⟩, rfl, hs, hg⟩
  have R2 := irow_gb hg R1 hb0
  have G2 := grown_trans G1 hg
  have S2 := hs
  clear hs hg R1 G1 S1
  obtain ⟨k, rfl⟩ := Int.eq_ofNat_of_zero_le k0
  go_wp2_with fail
  refine (next_small _ _ _ _ _ _ _ _ S2 (by unfold Few; omega) (by omega) (by omega)).mono ?_
  rintro e w3 ⟨v8, ⟨l8, u8⟩, rfl, hs, hg⟩
  have R := irow_gb hg R2 hb0
  have G := grown_trans G2 hg
  have S := hs
  have zz : w.heap.size ≤ w3.heap.size := G.size
  have LQ : Q.length ≤ 100 := by omega
  clear hs hg R2 G2 S2
  rcases (by omega : v8 = 0 ∨ v8 = 1 ∨ v8 = 2 ∨ v8 = 3 ∨ (v8 ≠ 0 ∧ v8 ≠ 1 ∧ v8 ≠ 2 ∧ v8 ≠ 3)) with rfl | rfl | rfl | rfl | ⟨n0, n1, n2, n3⟩
  · have RM := irow_cap R
    have LE := irow_len R
    have h0 : (0 : Int) ≤ (k : Int) := by omega
    have s1 : (k : Int) ≤ (c : Int) := by omega
    have s2 : (k : Int) ≤ (n : Int) := by omega
    have IT1 := Lib.hid (fun W (B : w3.grownBy W (some b)) => prow_its (prow_cut (irow_prow (irow_gb B R hb0)) (show k ≤ Q.length by omega)))
    have LT := Lib.hid (show (Q.take k).length = k from by rw [List.length_take]; omega)
    have LD := Lib.hid (show (Q.drop k).length = Q.length - k from by rw [List.length_drop])
    have OWE := Lib.hid (irow_empty w3 (Nat.le_refl _))
    have hb3 : b < w3.heap.size := by omega
    have HA3 := Lib.hid (fun x (h1 : a = some x) (h2 : 0 < cap) => Nat.lt_of_lt_of_le (HA.out x h1 h2) zz)
    have HR := Lib.hid R
    have HS := Lib.hid S
    have HG := Lib.hid G
    have HL := Lib.hid LE
    have HF := Lib.hid (fun W (B : w3.grownBy W (some b)) => its_from (irow_gb B R hb0) k (by omega))
    clear R S G LE RM
    go_upto_region 5 with fail
    go_region_law (first
        | (refine step_next rfl (.tmp 22) _ _ rfl (.pointer (some ⟨b, 0, none⟩)) (.int .i64 11) rfl rfl (next_small b a len cap zs _ 11 _ (src_lo HS.out hb3 HA3.out (by repeat (first | with_reducible exact B4 | with_reducible exact Below.refl _ _ | with_reducible refine below_alloc ?_ _ | with_reducible refine Below.drew ?_))) (by unfold Few; omega) (by omega) (by omega)) ?_
           rintro e mc ⟨vc, ⟨lc, uc⟩, rfl, hsc, hgc⟩
           refine ⟨_, rfl, ?_⟩
           have KC : w3.grownBy mc (some b) := grown_trans (gb_of_lo (World.grownBy.refl w3 _) (by repeat (first | with_reducible exact B4 | with_reducible exact Below.refl _ _ | with_reducible refine below_alloc ?_ _ | with_reducible refine Below.drew ?_))) hgc
           have zc : w3.heap.size ≤ mc.heap.size := KC.size
           have BC : Below w3.heap.size mc mc := Below.refl _ _
           have lv : IntKind.i64.wrap (3 + vc) = 3 + vc := IntWalk.i64_in _ (by omega)
           try (have hr4 := irow_gb hgc (irow_keep hr4 (fun _ _ => rfl)) hb3)
           try (have OW := irow_gb hgc (irow_keep OWE.out (fun _ _ => rfl)) hb3)
           clear hgc)
        | (refine step_append_items (w := (w3.alloc (.cells #[] 59)).drew) rfl (.tmp 17) (.tmp 20) rfl rfl w3.heap.size (.slice (some ⟨w3.heap.size, 0, none⟩) 0 0) [] rfl (show IRow _ w3.heap.size _ [] from irow_keep OWE.out (fun _ _ => rfl)) (.slice A k c) (Q.take k) rfl (IT1.out _ (by repeat (first | with_reducible exact K5 | with_reducible exact K4 | with_reducible exact KC | with_reducible exact World.grownBy.refl _ _ | with_reducible refine gb_alloc ?_ _ | with_reducible refine gb_drew ?_))) (by have := LT.out; simp; omega) (by first | omega | (simp [World.drew]; done) | (simp [World.drew]; omega)) ?_
           intro v4 m4 hr4 hg4 hat4
           obtain ⟨A4, n4, c4, rfl⟩ := irow_form hr4
           have K4 : w3.grownBy m4 (some b) := gb_own (by repeat (first | with_reducible exact K5 | with_reducible exact K4 | with_reducible exact KC | with_reducible exact World.grownBy.refl _ _ | with_reducible refine gb_alloc ?_ _ | with_reducible refine gb_drew ?_)) hg4 (fun g hg => (irow_lt (show IRow _ w3.heap.size _ [] from irow_keep OWE.out (fun _ _ => rfl)) g hg).1)
           have z4 : w3.heap.size ≤ m4.heap.size := K4.size
           have B4 : Below w3.heap.size w3 m4 := Below.grown (by repeat (first | with_reducible exact B4 | with_reducible exact Below.refl _ _ | with_reducible refine below_alloc ?_ _ | with_reducible refine Below.drew ?_)) hg4 (by first | omega | (simp [World.drew]; done) | (simp [World.drew]; omega)) (fun g hg => (irow_lt (show IRow _ w3.heap.size _ [] from irow_keep OWE.out (fun _ _ => rfl)) g hg).1)
           clear hat4 hg4)
        | (refine step_append_items (w := mc) rfl (.tmp 17) (.tmp 20) rfl rfl w3.heap.size (.slice (some ⟨w3.heap.size, 0, none⟩) 0 0) [] rfl (show IRow _ w3.heap.size _ [] from OW) (.slice A k c) (Q.take k) rfl (IT1.out _ (by repeat (first | with_reducible exact K5 | with_reducible exact K4 | with_reducible exact KC | with_reducible exact World.grownBy.refl _ _ | with_reducible refine gb_alloc ?_ _ | with_reducible refine gb_drew ?_))) (by have := LT.out; simp; omega) (by first | omega | (simp [World.drew]; done) | (simp [World.drew]; omega)) ?_
           intro v4 m4 hr4 hg4 hat4
           obtain ⟨A4, n4, c4, rfl⟩ := irow_form hr4
           have K4 : w3.grownBy m4 (some b) := gb_own (by repeat (first | with_reducible exact K5 | with_reducible exact K4 | with_reducible exact KC | with_reducible exact World.grownBy.refl _ _ | with_reducible refine gb_alloc ?_ _ | with_reducible refine gb_drew ?_)) hg4 (fun g hg => (irow_lt (show IRow _ w3.heap.size _ [] from OW) g hg).1)
           have z4 : w3.heap.size ≤ m4.heap.size := K4.size
           have BC4 : Below w3.heap.size mc m4 := Below.grown (by repeat (first | with_reducible exact BC5 | with_reducible exact BC4 | with_reducible exact BC | with_reducible refine Below.alloc ?_ (by first | omega | (simp; done) | (simp; omega)) _ | with_reducible refine Below.drew ?_)) hg4 (by first | omega | (simp [World.drew]; done) | (simp [World.drew]; omega)) (fun g hg => (irow_lt (show IRow _ w3.heap.size _ [] from OW) g hg).1)
           clear hat4 hg4)
        | (refine step_append_items (w := mc.alloc (.cells #[] 59)) rfl (.tmp 17) (.tmp 20) rfl rfl w3.heap.size (.slice (some ⟨mc.heap.size, 0, none⟩) 0 0) [] rfl (show IRow _ w3.heap.size _ [] from irow_empty mc zc) (.slice A k c) (Q.take k) rfl (IT1.out _ (by repeat (first | with_reducible exact K5 | with_reducible exact K4 | with_reducible exact KC | with_reducible exact World.grownBy.refl _ _ | with_reducible refine gb_alloc ?_ _ | with_reducible refine gb_drew ?_))) (by have := LT.out; simp; omega) (by first | omega | (simp [World.drew]; done) | (simp [World.drew]; omega)) ?_
           intro v4 m4 hr4 hg4 hat4
           obtain ⟨A4, n4, c4, rfl⟩ := irow_form hr4
           have K4 : w3.grownBy m4 (some b) := gb_own (by repeat (first | with_reducible exact K5 | with_reducible exact K4 | with_reducible exact KC | with_reducible exact World.grownBy.refl _ _ | with_reducible refine gb_alloc ?_ _ | with_reducible refine gb_drew ?_)) hg4 (fun g hg => (irow_lt (show IRow _ w3.heap.size _ [] from irow_empty mc zc) g hg).1)
           have z4 : w3.heap.size ≤ m4.heap.size := K4.size
           have BC4 : Below w3.heap.size mc m4 := Below.grown (by repeat (first | with_reducible exact BC5 | with_reducible exact BC4 | with_reducible exact BC | with_reducible refine Below.alloc ?_ (by first | omega | (simp; done) | (simp; omega)) _ | with_reducible refine Below.drew ?_)) hg4 (by first | omega | (simp [World.drew]; done) | (simp [World.drew]; omega)) (fun g hg => (irow_lt (show IRow _ w3.heap.size _ [] from irow_empty mc zc) g hg).1)
           clear hat4 hg4)
        | (refine step_append_items (w := mc.alloc (.cells #[.int .i64 (3 + vc), .int .i64 0] 59)) rfl (.tmp 17) (.tmp 20) rfl rfl w3.heap.size (.slice (some ⟨w3.heap.size, 0, none⟩) 0 0) [] rfl (show IRow _ w3.heap.size _ [] from irow_alloc OW _) (.slice A k c) (Q.take k) rfl (IT1.out _ (by repeat (first | with_reducible exact K5 | with_reducible exact K4 | with_reducible exact KC | with_reducible exact World.grownBy.refl _ _ | with_reducible refine gb_alloc ?_ _ | with_reducible refine gb_drew ?_))) (by have := LT.out; simp; omega) (by first | omega | (simp [World.drew]; done) | (simp [World.drew]; omega)) ?_
           intro v4 m4 hr4 hg4 hat4
           obtain ⟨A4, n4, c4, rfl⟩ := irow_form hr4
           have K4 : w3.grownBy m4 (some b) := gb_own (by repeat (first | with_reducible exact K5 | with_reducible exact K4 | with_reducible exact KC | with_reducible exact World.grownBy.refl _ _ | with_reducible refine gb_alloc ?_ _ | with_reducible refine gb_drew ?_)) hg4 (fun g hg => (irow_lt (show IRow _ w3.heap.size _ [] from irow_alloc OW _) g hg).1)
           have z4 : w3.heap.size ≤ m4.heap.size := K4.size
           have BC4 : Below w3.heap.size mc m4 := Below.grown (by repeat (first | with_reducible exact BC5 | with_reducible exact BC4 | with_reducible exact BC | with_reducible refine Below.alloc ?_ (by first | omega | (simp; done) | (simp; omega)) _ | with_reducible refine Below.drew ?_)) hg4 (by first | omega | (simp [World.drew]; done) | (simp [World.drew]; omega)) (fun g hg => (irow_lt (show IRow _ w3.heap.size _ [] from irow_alloc OW _) g hg).1)
           have IL : Its m4 (.slice (some ⟨mc.heap.size, 0, none⟩) 1 1) [⟨3 + vc, 0⟩] := irow_its (irow_keep (irow_one mc ⟨3 + vc, 0⟩) (fun g hg => by simp [Value.ownBlock] at hg; subst hg; exact hg4.block _ (by simp [World.drew] <;> omega) (by simp [Value.ownBlock] <;> omega)))
           clear hat4 hg4)
        | (refine step_append_items (w := (mc.alloc (.cells #[] 59)).alloc (.cells #[.int .i64 (3 + vc), .int .i64 0] 59)) rfl (.tmp 17) (.tmp 20) rfl rfl w3.heap.size (.slice (some ⟨mc.heap.size, 0, none⟩) 0 0) [] rfl (show IRow _ w3.heap.size _ [] from irow_alloc (irow_empty mc zc) _) (.slice A k c) (Q.take k) rfl (IT1.out _ (by repeat (first | with_reducible exact K5 | with_reducible exact K4 | with_reducible exact KC | with_reducible exact World.grownBy.refl _ _ | with_reducible refine gb_alloc ?_ _ | with_reducible refine gb_drew ?_))) (by have := LT.out; simp; omega) (by first | omega | (simp [World.drew]; done) | (simp [World.drew]; omega)) ?_
           intro v4 m4 hr4 hg4 hat4
           obtain ⟨A4, n4, c4, rfl⟩ := irow_form hr4
           have K4 : w3.grownBy m4 (some b) := gb_own (by repeat (first | with_reducible exact K5 | with_reducible exact K4 | with_reducible exact KC | with_reducible exact World.grownBy.refl _ _ | with_reducible refine gb_alloc ?_ _ | with_reducible refine gb_drew ?_)) hg4 (fun g hg => (irow_lt (show IRow _ w3.heap.size _ [] from irow_alloc (irow_empty mc zc) _) g hg).1)
           have z4 : w3.heap.size ≤ m4.heap.size := K4.size
           have BC4 : Below w3.heap.size mc m4 := Below.grown (by repeat (first | with_reducible exact BC5 | with_reducible exact BC4 | with_reducible exact BC | with_reducible refine Below.alloc ?_ (by first | omega | (simp; done) | (simp; omega)) _ | with_reducible refine Below.drew ?_)) hg4 (by first | omega | (simp [World.drew]; done) | (simp [World.drew]; omega)) (fun g hg => (irow_lt (show IRow _ w3.heap.size _ [] from irow_alloc (irow_empty mc zc) _) g hg).1)
           have IL : Its m4 (.slice (some ⟨mc.heap.size + 1, 0, none⟩) 1 1) [⟨3 + vc, 0⟩] := irow_its (irow_keep (irow_oneG (w := mc.alloc (.cells #[] 59)) (g := mc.heap.size + 1) ⟨3 + vc, 0⟩ (by simp)) (fun g hg => by simp [Value.ownBlock] at hg; subst hg; exact hg4.block _ (by simp [World.drew] <;> omega) (by simp [Value.ownBlock] <;> omega)))
           clear hat4 hg4)
        | (refine step_append_items (w := (mc.alloc (.cells #[.int .i64 (3 + vc), .int .i64 0] 59)).alloc (.cells #[] 59)) rfl (.tmp 17) (.tmp 20) rfl rfl w3.heap.size (.slice (some ⟨mc.heap.size + 1, 0, none⟩) 0 0) [] rfl (show IRow _ w3.heap.size _ [] from irow_emptyG (w := mc.alloc (.cells #[.int .i64 (3 + vc), .int .i64 0] 59)) (g := mc.heap.size + 1) (base := w3.heap.size) (by simp) (by simp; omega)) (.slice A k c) (Q.take k) rfl (IT1.out _ (by repeat (first | with_reducible exact K5 | with_reducible exact K4 | with_reducible exact KC | with_reducible exact World.grownBy.refl _ _ | with_reducible refine gb_alloc ?_ _ | with_reducible refine gb_drew ?_))) (by have := LT.out; simp; omega) (by first | omega | (simp [World.drew]; done) | (simp [World.drew]; omega)) ?_
           intro v4 m4 hr4 hg4 hat4
           obtain ⟨A4, n4, c4, rfl⟩ := irow_form hr4
           have K4 : w3.grownBy m4 (some b) := gb_own (by repeat (first | with_reducible exact K5 | with_reducible exact K4 | with_reducible exact KC | with_reducible exact World.grownBy.refl _ _ | with_reducible refine gb_alloc ?_ _ | with_reducible refine gb_drew ?_)) hg4 (fun g hg => (irow_lt (show IRow _ w3.heap.size _ [] from irow_emptyG (w := mc.alloc (.cells #[.int .i64 (3 + vc), .int .i64 0] 59)) (g := mc.heap.size + 1) (base := w3.heap.size) (by simp) (by simp; omega)) g hg).1)
           have z4 : w3.heap.size ≤ m4.heap.size := K4.size
           have BC4 : Below w3.heap.size mc m4 := Below.grown (by repeat (first | with_reducible exact BC5 | with_reducible exact BC4 | with_reducible exact BC | with_reducible refine Below.alloc ?_ (by first | omega | (simp; done) | (simp; omega)) _ | with_reducible refine Below.drew ?_)) hg4 (by first | omega | (simp [World.drew]; done) | (simp [World.drew]; omega)) (fun g hg => (irow_lt (show IRow _ w3.heap.size _ [] from irow_emptyG (w := mc.alloc (.cells #[.int .i64 (3 + vc), .int .i64 0] 59)) (g := mc.heap.size + 1) (base := w3.heap.size) (by simp) (by simp; omega)) g hg).1)
           have IL : Its m4 (.slice (some ⟨mc.heap.size, 0, none⟩) 1 1) [⟨3 + vc, 0⟩] := irow_its (irow_keep (irow_alloc (irow_one mc ⟨3 + vc, 0⟩) _) (fun g hg => by simp [Value.ownBlock] at hg; subst hg; exact hg4.block _ (by simp [World.drew] <;> omega) (by simp [Value.ownBlock] <;> omega)))
           clear hat4 hg4)
        | (refine step_append_items (w := _) rfl (.tmp 21) (.tmp 26) rfl rfl w3.heap.size (.slice A4 n4 c4) ([] ++ Q.take k) rfl (show IRow _ w3.heap.size _ _ from irow_alloc hr4 _) _ [⟨3 + vc, 0⟩] rfl (its_lit ⟨3 + vc, 0⟩ (by simp)) (by have := LT.out; simp; omega) (by first | omega | (simp [World.drew]; done) | (simp [World.drew]; omega)) ?_
           intro v5 m5 hr5 hg5 hat5
           obtain ⟨A5, n5, c5, rfl⟩ := irow_form hr5
           have K5 : w3.grownBy m5 (some b) := gb_own (by repeat (first | with_reducible exact K5 | with_reducible exact K4 | with_reducible exact KC | with_reducible exact World.grownBy.refl _ _ | with_reducible refine gb_alloc ?_ _ | with_reducible refine gb_drew ?_)) hg5 (fun g hg => (irow_lt hr4 g hg).1)
           have z5 : w3.heap.size ≤ m5.heap.size := K5.size
           have BC5 : Below w3.heap.size mc m5 := Below.grown (by repeat (first | with_reducible exact BC5 | with_reducible exact BC4 | with_reducible exact BC | with_reducible refine Below.alloc ?_ (by first | omega | (simp; done) | (simp; omega)) _ | with_reducible refine Below.drew ?_)) hg5 (by first | omega | (simp [World.drew]; done) | (simp [World.drew]; omega)) (fun g hg => (irow_lt hr4 g hg).1)
           clear hat5 hg5)
        | (refine step_append_items (w := _) rfl (.tmp 21) (.tmp 26) rfl rfl w3.heap.size (.slice A4 n4 c4) ([] ++ Q.take k) rfl hr4 _ [⟨3 + vc, 0⟩] rfl IL (by have := LT.out; simp; omega) (by first | omega | (simp [World.drew]; done) | (simp [World.drew]; omega)) ?_
           intro v5 m5 hr5 hg5 hat5
           obtain ⟨A5, n5, c5, rfl⟩ := irow_form hr5
           have K5 : w3.grownBy m5 (some b) := gb_own (by repeat (first | with_reducible exact K5 | with_reducible exact K4 | with_reducible exact KC | with_reducible exact World.grownBy.refl _ _ | with_reducible refine gb_alloc ?_ _ | with_reducible refine gb_drew ?_)) hg5 (fun g hg => (irow_lt hr4 g hg).1)
           have z5 : w3.heap.size ≤ m5.heap.size := K5.size
           have BC5 : Below w3.heap.size mc m5 := Below.grown (by repeat (first | with_reducible exact BC5 | with_reducible exact BC4 | with_reducible exact BC | with_reducible refine Below.alloc ?_ (by first | omega | (simp; done) | (simp; omega)) _ | with_reducible refine Below.drew ?_)) hg5 (by first | omega | (simp [World.drew]; done) | (simp [World.drew]; omega)) (fun g hg => (irow_lt hr4 g hg).1)
           clear hat5 hg5)
        | (refine step_append_items (w := m5) rfl (.tmp 27) (.tmp 30) rfl rfl w3.heap.size (.slice A5 n5 c5) ([] ++ Q.take k ++ [⟨3 + vc, 0⟩]) rfl hr5 (.slice (if c = k then A else Option.map (fun x => x.add (k * 2)) A) (n - k) (c - k)) (Q.drop k) rfl (HF.out m5 K5) (by have := LT.out; have := LD.out; simp; omega) z5 ?_
           intro v6 m6 hr6 hg6 hat6
           obtain ⟨A6, n6, c6, rfl⟩ := irow_form hr6
           have BX : Below w3.heap.size mc m6 := Below.grown BC5 hg6 z5 (fun g hg => (irow_lt hr5 g hg).1)
           have S6 := Lib.hid (src_lo hsc hb3 HA3.out BX)
           have G6 := Lib.hid (grown_trans HG.out (gb_own K5 hg6 (fun g hg => (irow_lt hr5 g hg).1)))
           have R6 := Lib.hid (irow_base (prow_irow hr6) zz)
           have L6 : ([] ++ Q.take k ++ [(⟨3 + vc, 0⟩ : It)] ++ Q.drop k).length ≤ 61 := (by have := LT.out; have := LD.out; have := HL.out; simp only [List.nil_append, List.length_append, List.length_drop, List.length_cons, List.length_nil]; omega)
           have hm6 : m6.heap.size = m6.heap.size := rfl
           clear BX hg6 hat6))
    all_goals
      have R := R6.out
      have S := S6.out
      have G := G6.out
      generalize ([] ++ Q.take k ++ [(⟨3 + vc, 0⟩ : It)] ++ Q.drop k) = Q6 at *
      clear R6 S6 G6 hr6 hr5 hr4
      have LE := Lib.hid (irow_len R)
      have RM := irow_cap R
      by_cases h60 : (60 : Int) < (n6 : Int)
      · go_wp2_with fail
        all_goals
          refine (chance_i _ _ _ _ _ _ _ _ S (by unfold Few; omega) (by omega) (by omega)).mono ?_
          rintro e wz ⟨y, rfl, hs, hg⟩
          have RZ := irow_gb hg R hb0
          have GZ := grown_trans G hg
          have s60 : (60 : Int) ≤ (c6 : Int) := by omega
          cases y
          · go_wp2
            go_ret
            exact ⟨_, _, _, Q6.take 60, rfl, prow_cut RZ (by have := LE.out; omega), by rw [List.length_take]; omega, src_mono hs (by omega), GZ⟩
          · go_wp2
            go_ret
            exact ⟨_, _, _, Q6, rfl, RZ, by omega, src_mono hs (by omega), GZ⟩
      · go_wp2
        all_goals go_ret
        all_goals exact ⟨_, _, _, Q6, rfl, R, by omega, src_mono S (by omega), G⟩
  · by_cases hk : (k : Int) < (n : Int)
    · have RM := irow_cap R
      have LE := irow_len R
      have h0 : (0 : Int) ≤ (k : Int) := by omega
      have s1 : (k : Int) ≤ (c : Int) := by omega
      have s2 : (k : Int) + 1 ≤ (n : Int) := by omega
      have s3 : (0 : Int) ≤ (k : Int) + 1 := by omega
      have la : IntKind.i64.wrap ((k : Int) + 1) = (k : Int) + 1 := IntWalk.i64_in _ (by omega)
      have OWN := Lib.hid (show PRow 59 ((w3.alloc (.cells #[] 59)).drew) w.heap.size (.slice (some ⟨w3.heap.size, 0, none⟩) 0 0) [] from irow_keep (irow_empty w3 zz) (fun g _ => rfl))
      have IT1 := Lib.hid (show Its ((w3.alloc (.cells #[] 59)).drew) (.slice A k c) (Q.take k) from its_below (prow_its (prow_cut R (by omega))) (below_alloc (Below.refl _ _) _).drew)
      have LT := Lib.hid (show (Q.take k).length = k from by rw [List.length_take]; omega)
      have LD := Lib.hid (show (Q.drop (k + 1)).length ≤ 60 from by rw [List.length_drop]; omega)
      have HR := Lib.hid R
      have HS := Lib.hid S
      have HG := Lib.hid G
      have HL := Lib.hid LE
      have HF := Lib.hid (fun W (B : Below w3.heap.size w3 W) => its_below (its_from R (k + 1) (by omega)) B)
      clear R S G LE
      go_upto_region 8 with fail
      go_region_law (first
        | (refine step_append_items (w := (w3.alloc (.cells #[] 59)).drew) rfl (.tmp 38) (.tmp 41) rfl rfl w.heap.size (.slice (some ⟨w3.heap.size, 0, none⟩) 0 0) [] rfl OWN.out (.slice A k c) (Q.take k) rfl IT1.out (by have := LT.out; simp; omega) (by simp [World.drew]; omega) ?_
           intro v4 m4 hr4 hg4 hat4
           obtain ⟨A4, n4, c4, rfl⟩ := irow_form hr4
           have B4 : Below w3.heap.size w3 m4 := Below.grown (below_alloc (Below.refl _ _) _).drew hg4 (by simp [World.drew]) (fun g hg => by simp [Value.ownBlock] at hg; omega)
           have z4 : w.heap.size ≤ m4.heap.size := Nat.le_trans zz B4.size
           clear hat4 hg4)
        | (refine step_append_items (w := m4) rfl (.tmp 42) (.tmp 46) rfl rfl w.heap.size (.slice A4 n4 c4) ([] ++ Q.take k) rfl hr4 (.slice (if c = k + 1 then A else Option.map (fun x => x.add ((k + 1) * 2)) A) (n - (k + 1)) (c - (k + 1))) (Q.drop (k + 1)) rfl (HF.out m4 B4) (by have := LT.out; have := LD.out; simp; omega) z4 ?_
           intro v5 m5 hr5 hg5 hat5
           obtain ⟨A5, n5, c5, rfl⟩ := irow_form hr5
           have BX : Below w.heap.size w3 m5 := Below.grown (B4.mono zz) hg5 z4 (fun g hg => (irow_lt hr4 g hg).1)
           have S5 := Lib.hid (src_lo HS.out hb0 HA.out BX)
           have G5 := Lib.hid (gb_of_lo HG.out BX)
           have L5 : ([] ++ Q.take k ++ Q.drop (k + 1)).length ≤ 60 := (by have := LT.out; have := HL.out; simp only [List.nil_append, List.length_append, List.length_drop]; omega)
           have n60 : ¬ (60 : Int) < (n5 : Int) := (by have := irow_len hr5; omega)
           clear BX hg5 hat5))
      all_goals go_wp2
      all_goals go_ret
      all_goals exact ⟨_, _, _, _, rfl, hr5, Nat.le_trans L5 (by omega), src_mono S5.out (by omega), G5.out⟩
    · have h60 : ¬ (60 : Int) < (n : Int) := by omega
      go_wp2
      go_ret
      exact ⟨_, _, _, Q, rfl, R, LQ, src_mono S (by omega), G⟩
  · by_cases hk : (k : Int) < (n : Int)
    · obtain ⟨g, rfl, hg0, hg1⟩ := irow_block R (by omega)
      go_wp2_with fail
      refine (next_small _ _ _ _ _ _ _ _ S (by unfold Few; omega) (by omega) (by omega)).mono ?_
      rintro e w4 ⟨v4, ⟨l4, u4⟩, rfl, hs, hg⟩
      have R4 := irow_gb hg R hb0
      have G4 := grown_trans G hg
      have S4 := hs
      clear hs hg R G S
      go_wp2_with fail
      refine (next_small _ _ _ _ _ _ _ _ S4 (by unfold Few; omega) (by omega) (by omega)).mono ?_
      rintro e w5 ⟨v5, ⟨l5, u5⟩, rfl, hs, hg⟩
      have R5 := irow_gb hg R4 hb0
      have G5 := grown_trans G4 hg
      have S5 := hs
      have z5 : w.heap.size ≤ w5.heap.size := G5.size
      clear hs hg R4 G4 S4
      have e5 := irow_len R5
      have kq : k < Q.length := by omega
      obtain ⟨q0, q1⟩ := irow_at (show IRow w5 w.heap.size (.slice (some ⟨g, 0, none⟩) Q.length c) Q by rw [← e5]; exact R5) k kq
      have R6 : IRow (set2 w5 g k ⟨v4, v5⟩) w.heap.size (.slice (some ⟨g, 0, none⟩) n c) (Q.set k ⟨v4, v5⟩) := by
        have := irow_set (show IRow w5 w.heap.size (.slice (some ⟨g, 0, none⟩) Q.length c) Q by rw [← e5]; exact R5) k kq ⟨v4, v5⟩
        rw [e5]; exact this
      have f0 := irow_free R5
      have B6 : Below w.heap.size w5 (set2 w5 g k ⟨v4, v5⟩) := below_set2 (Below.refl _ _) hg0 k _
      have S6 := src_lo S5 hb0 HA.out B6
      have G6 := gb_of_lo G5 B6
      have LQ6 : (Q.set k (⟨v4, v5⟩ : It)).length ≤ 100 := by rw [List.length_set]; exact LQ
      unfold set2 at R6 S6 G6
      have HR6 := Lib.hid R6
      have HS6 := Lib.hid S6
      have HG6 := Lib.hid G6
      have RM := irow_cap R5
      clear R5 S5 G5 R6 S6 G6 B6 e5
      have LE := Lib.hid (irow_len HR6.out)
      by_cases h60 : (60 : Int) < (n : Int)
      · omega
      · go_wp2
        go_ret
        exact ⟨_, _, _, Q.set k ⟨v4, v5⟩, rfl, HR6.out, LQ6, src_mono HS6.out (by omega), HG6.out⟩
    · have h60 : ¬ (60 : Int) < (n : Int) := by omega
      go_wp2
      go_ret
      exact ⟨_, _, _, Q, rfl, R, LQ, src_mono S (by omega), G⟩
  · have LQ60 : Q.length ≤ 60 := by have := irow_len R; omega
    go_wp2
    go_loopw [3, 5] (fun o i wr => ∃ (j : Nat) (A' : Option Addr) (n' c' : Nat) (Q' : List It), j ≤ 9 ∧ i = .int .i64 j ∧ o = .slice A' n' c' ∧ IRow wr w.heap.size (.slice A' n' c') Q' ∧ Q'.length ≤ 60 + 2 * j ∧ Src wr b a len cap zs (11010 + 2 * j) ∧ w.grownBy wr (some b)) (fun _ i _ => 9 - (intOf i).toNat)
    case atStart => exact ⟨0, _, _, _, Q, by omega, rfl, rfl, R, by omega, src_mono S (by omega), G⟩
    case round =>
      clear R S G zz
      obtain ⟨j, A', n', c', Q', hj, rfl, rfl, R, LJ, S, G⟩ := hrel
      have zz : w.heap.size ≤ wr.heap.size := G.size
      go_wp2_with fail
      refine (next_small _ _ _ _ _ _ _ _ S (by unfold Few; omega) (by omega) (by omega)).mono ?_
      rintro e w4 ⟨v4, ⟨l4, u4⟩, rfl, hs, hg⟩
      have R4 := irow_gb hg R hb0
      have G4 := grown_trans G hg
      have S4 := hs
      have z4 : w.heap.size ≤ w4.heap.size := G4.size
      have la : IntKind.i64.wrap (7 + v4) = 7 + v4 := IntWalk.i64_in _ (by omega)
      clear hs hg R G S
      by_cases hlt : (j : Int) < 7 + v4
      · go_wp2_with fail
        refine (item1_any 3 _).mono ?_
        rintro e w5 ⟨v5, rfl, hr, hbb⟩
        obtain ⟨A5, n5, c5, rfl⟩ := irow_form hr
        have R5 := irow_below R4 hbb
        have BX := hbb.mono z4
        have S5 := src_lo S4 hb0 HA.out BX
        have G5 := gb_of_lo G4 BX
        have z5 : w.heap.size ≤ w5.heap.size := G5.size
        have V5 : IRow w5 w.heap.size (.slice A5 n5 c5) [⟨3, 0⟩] := irow_base hr z4
        clear hbb BX hr R4 S4 G4
        go_wp2_with (first | (at_builtin; refine wpList_append_items rfl (.tmp 71) (.tmp 72) rfl rfl w.heap.size _ [⟨3, 0⟩] V5 _ Q' (irow_its R5) rfl rfl (by simp; omega) z5 ?_; intro v6 w6 hr6 hgr hat; obtain ⟨A6, n6, c6, rfl⟩ := irow_form hr6; have BX : Below w.heap.size w5 w6 := Below.grown (Below.refl _ _) hgr z5 (fun g hg => (irow_lt V5 g hg).1); have S6 := src_lo S5 hb0 HA.out BX; have G6 := gb_of_lo G5 BX; have z6 : w.heap.size ≤ w6.heap.size := G6.size; clear BX hgr hat) | fail)
        have L6 : ([⟨3, 0⟩] ++ Q' : List It).length ≤ 61 + 2 * j := by simp; omega
        generalize ([⟨3, 0⟩] ++ Q' : List It) = Q6 at *
        refine (chance_i _ _ _ _ _ _ _ _ S6 (by unfold Few; omega) (by omega) (by omega)).mono ?_
        rintro e w7 ⟨y, rfl, hs, hg⟩
        have R7 := irow_gb hg hr6 hb0
        have G7 := grown_trans G6 hg
        have S7 := hs
        have z7 : w.heap.size ≤ w7.heap.size := G7.size
        clear hs hg hr6 G6 S6 V5 R5 S5 G5
        cases y
        · go_wp2
          go_roundw
          case rel => exact ⟨j + 1, _, _, _, Q6, by omega, by go_num, rfl, R7, by omega, src_mono S7 (by omega), G7⟩
          case measure => simp [intOf]; omega
        · go_wp2_with (first | (at_builtin; refine wpList_append_items rfl (.tmp 76) (.tmp 78) rfl rfl w.heap.size _ Q6 (irow_below R7 (by repeat (first | with_reducible exact Below.refl _ _ | with_reducible refine Below.setCell ?_ (by first | omega | (simp; done) | (simp; omega)) _ | with_reducible refine Below.alloc ?_ (by first | omega | (simp; done) | (simp; omega)) _))) _ [⟨5, 0⟩] (its_lit ⟨5, 0⟩ (by simp)) rfl rfl (by simp; omega) (by simp; omega) ?_; intro v8 w8 hr8 hgr hat; obtain ⟨A8, n8, c8, rfl⟩ := irow_form hr8; have BX : Below w.heap.size w7 w8 := Below.grown (by repeat (first | with_reducible exact Below.refl _ _ | with_reducible refine Below.setCell ?_ (by first | omega | (simp; done) | (simp; omega)) _ | with_reducible refine Below.alloc ?_ (by first | omega | (simp; done) | (simp; omega)) _)) hgr (by simp; omega) (fun g hg => (irow_lt R7 g hg).1); have S8 := src_lo S7 hb0 HA.out BX; have G8 := gb_of_lo G7 BX; clear BX hgr hat))
          have L8 : (Q6 ++ [(⟨5, 0⟩ : It)]).length ≤ 60 + 2 * (j + 1) := by simp; omega
          generalize (Q6 ++ [(⟨5, 0⟩ : It)]) = Q8 at *
          go_roundw
          case rel => exact ⟨j + 1, _, _, _, Q8, by omega, by go_num, rfl, hr8, L8, src_mono S8 (by omega), G8⟩
          case measure => simp [intOf]; omega
      · have R := R4
        have S := S4
        have G := G4
        have LQ : Q'.length ≤ 100 := by omega
        clear R4 S4 G4
        have LE := Lib.hid (irow_len R)
        have RM := irow_cap R
        by_cases h60 : (60 : Int) < (n' : Int)
        · go_wp2_with fail
          refine (chance_i _ _ _ _ _ _ _ _ S (by unfold Few; omega) (by omega) (by omega)).mono ?_
          rintro e wz ⟨y, rfl, hs, hg⟩
          have RZ := irow_gb hg R hb0
          have GZ := grown_trans G hg
          have s0 : (60 : Int) ≤ (c' : Int) := by omega
          cases y
          · go_wp2
            go_ret
            exact ⟨_, _, _, Q'.take 60, rfl, prow_cut RZ (by have := LE.out; omega), by rw [List.length_take]; omega, src_mono hs (by omega), GZ⟩
          · go_wp2
            go_ret
            exact ⟨_, _, _, Q', rfl, RZ, LQ, src_mono hs (by omega), GZ⟩
        · go_wp2
          go_ret
          exact ⟨_, _, _, Q', rfl, R, LQ, src_mono S (by omega), G⟩
  · have e0 : (v8 == 0) = false := by rw [beq_eq_false_iff_ne]; exact n0
    have e1 : (v8 == 1) = false := by rw [beq_eq_false_iff_ne]; exact n1
    have e2 : (v8 == 2) = false := by rw [beq_eq_false_iff_ne]; exact n2
    have e3 : (v8 == 3) = false := by rw [beq_eq_false_iff_ne]; exact n3
    clear n0 n1 n2 n3
    have h60 : ¬ (60 : Int) < (n : Int) := by omega
    go_wp2
    go_ret
    exact ⟨_, _, _, Q, rfl, R, LQ, src_mono S (by omega), G⟩

end Go.Proofs.Ytafhmajnkicifaa

namespace Go.Proofs.Ytafhmajnkicifaa
open Go.RowKit
set_option linter.unusedVariables false
set_option linter.unusedSimpArgs false

/-- The next number below n; 0, and no draw, where n is at most 1. -/
def dUp (len : Nat) (zs : List Int) (n : Nat) (s : DSt) : Int × DSt := if 1 < n then dNx len zs n s else (0, s)

theorem upD (b : Nat) (a : Option Addr) (len cap : Nat) (zs : List Int) (s : DSt) (n : Nat) (w : World) (h : SrcS w b a len cap zs s) (hN : s.1 < 1000000000) (h2 : n + 1 ≤ 256) :
    Calls Try.prog 54 #[.pointer (some ⟨b, 0, none⟩), .int .i64 ((n : Int) + 1)] w (fun e w' => ∃ (v : Int) (s' : DSt), dUp len zs (n + 1) s = (v, s') ∧ (0 ≤ v ∧ v < (n : Int) + 1) ∧ s'.1 ≤ s.1 + 1 ∧ e = .returned (.int .i64 v) ∧ SrcS w' b a len cap zs s' ∧ w.grownBy w' (some b)) := by
  by_cases h1 : 1 < n + 1
  · have c := nextD b a len cap zs s (n + 1) w h hN h1 h2
    rw [show (((n + 1 : Nat)) : Int) = (n : Int) + 1 by omega] at c
    refine c.mono ?_
    rintro e w' ⟨v, s', he, hv, hp, hr, hs, hg⟩
    exact ⟨v, s', by unfold dUp; rw [if_pos h1]; exact he, by omega, by omega, hr, hs, hg⟩
  · obtain rfl : n = 0 := by omega
    have H := Lib.hid h
    have EU : Hid (dUp len zs (0 + 1) s = (0, s)) := Lib.hid rfl
    clear h h1
    go_enter Try.func54, Try.ntmps54
    go_wp2
    go_ret
    exact ⟨0, s, EU.out, ⟨by omega, by omega⟩, by omega, rfl, H.out, World.grownBy.refl _ _⟩

/-- Conditionals laid around items, as long as the draws say. -/
def dWhile (len : Nat) (zs : List Int) : Nat → Int → List It → DSt → List It
  | 0, _, Q, _ => Q
  | f + 1, i, Q, s => if i < 7 + (dNx len zs 3 s).1 then dWhile len zs f (i + 1) (if chB (dNx len zs 2 (dNx len zs 3 s).2).1 2 = true then ([⟨3, 0⟩] ++ Q) ++ [⟨5, 0⟩] else [⟨3, 0⟩] ++ Q) (dNx len zs 2 (dNx len zs 3 s).2).2 else Q

theorem dWhile_succ (len : Nat) (zs : List Int) (f : Nat) (i : Int) (Q : List It) (s : DSt) : dWhile len zs (f + 1) i Q s = if i < 7 + (dNx len zs 3 s).1 then dWhile len zs f (i + 1) (if chB (dNx len zs 2 (dNx len zs 3 s).2).1 2 = true then ([⟨3, 0⟩] ++ Q) ++ [⟨5, 0⟩] else [⟨3, 0⟩] ++ Q) (dNx len zs 2 (dNx len zs 3 s).2).2 else Q := rfl

/-- The first 60 of the items drawn. -/
def dDoubt (len : Nat) (zs : List Int) (s : DSt) : List It :=
  let x := dItems len zs s
  let u := dUp len zs (x.1.length + 1) x.2
  let p := dNx len zs 8 u.2
  if p.1 = 0 then (x.1.take u.1.toNat ++ [(⟨3 + (dNx len zs 11 p.2).1, 0⟩ : It)] ++ x.1.drop u.1.toNat).take 60
  else if p.1 = 1 then (if u.1.toNat < x.1.length then x.1.take u.1.toNat ++ x.1.drop (u.1.toNat + 1) else x.1).take 60
  else if p.1 = 2 then (if u.1.toNat < x.1.length then x.1.set u.1.toNat ⟨(dNx len zs 15 p.2).1, (dNx len zs 3 (dNx len zs 15 p.2).2).1⟩ else x.1).take 60
  else if p.1 = 3 then (dWhile len zs 10 0 x.1 p.2).take 60
  else x.1.take 60

/-- What drawn items leave, whether they fit or not. -/
def AnyD (w : World) (b len : Nat) (zs : List Int) (s : DSt) (e : Ending) (w' : World) : Prop :=
  ∃ A n c Q, e = .returned (.slice A n c) ∧ IRow w' w.heap.size (.slice A n c) Q ∧ Q.length ≤ 100 ∧ Q.take 60 = dDoubt len zs s ∧ w.grownBy w' (some b)

set_option maxRecDepth 100000 in
set_option maxHeartbeats 8000000 in
theorem anyD (b : Nat) (a : Option Addr) (len cap : Nat) (zs : List Int) (s0 : DSt) (w : World) (h : SrcS w b a len cap zs s0) (hN : s0.1 ≤ 1000) :
    Calls Try.prog 34 #[.pointer (some ⟨b, 0, none⟩)] w (AnyD w b len zs s0) := by
  have hb0 := srcS_lt h
  have HA := Lib.hid (srcS_code_lt h)
  have H := Lib.hid h
  clear h
  go_enter Try.func34, Try.ntmps34
  go_wp2_with fail
  refine (itemsD _ _ _ _ _ _ _ H.out (by omega)).mono ?_
  rintro e w1 ⟨v1, Q, t1, he1, rfl, hr, -, L1, hp1, hs, hg⟩
  have E1 := Lib.hid he1
  clear he1
  obtain ⟨A, n, c, rfl⟩ := irow_form hr
  have R1 := hr
  have G1 := hg
  have S1 := hs
  have ln : n ≤ 60 := by have := irow_len hr; omega
  have NQ := Lib.hid (irow_len hr)
  have li : IntKind.i64.wrap ((n : Int) + 1) = (n : Int) + 1 := IntWalk.i64_in _ (by omega)
  clear hr hs hg
  go_wp2_with fail
  refine (upD _ _ _ _ _ _ n _ S1 (by omega) (by omega)).mono ?_
  rintro e w2 ⟨k, t2, he2, ⟨k0, k1⟩, hp2, rfl, hs, hg⟩
  have E2 := Lib.hid he2
  clear he2
  have R2 := irow_gb hg R1 hb0
  have G2 := grown_trans G1 hg
  have S2 := hs
  clear hs hg R1 G1 S1
  obtain ⟨k, rfl⟩ := Int.eq_ofNat_of_zero_le k0
  go_wp2_with fail
  refine (nextD _ _ _ _ _ _ 8 _ S2 (by omega) (by omega) (by omega)).mono ?_
  rintro e w3 ⟨v8, t3, he3, ⟨l8, u8⟩, hp3, rfl, hs, hg⟩
  have E3 := Lib.hid he3
  clear he3
  have E2' : Hid (dUp len zs (Q.length + 1) t1 = ((k : Int), t2)) := Lib.hid (by rw [← NQ.out]; exact E2.out)
  have R := irow_gb hg R2 hb0
  have G := grown_trans G2 hg
  have S := hs
  have zz : w.heap.size ≤ w3.heap.size := G.size
  have LQ : Q.length ≤ 100 := by omega
  clear hs hg R2 G2 S2
  rcases (by omega : v8 = 0 ∨ v8 = 1 ∨ v8 = 2 ∨ v8 = 3 ∨ (v8 ≠ 0 ∧ v8 ≠ 1 ∧ v8 ≠ 2 ∧ v8 ≠ 3)) with rfl | rfl | rfl | rfl | ⟨n0, n1, n2, n3⟩
  · have RM := irow_cap R
    have LE := irow_len R
    have h0 : (0 : Int) ≤ (k : Int) := by omega
    have s1 : (k : Int) ≤ (c : Int) := by omega
    have s2 : (k : Int) ≤ (n : Int) := by omega
    have IT1 := Lib.hid (fun W (B : w3.grownBy W (some b)) => prow_its (prow_cut (irow_prow (irow_gb B R hb0)) (show k ≤ Q.length by omega)))
    have LT := Lib.hid (show (Q.take k).length = k from by rw [List.length_take]; omega)
    have LD := Lib.hid (show (Q.drop k).length = Q.length - k from by rw [List.length_drop])
    have OWE := Lib.hid (irow_empty w3 (Nat.le_refl _))
    have hb3 : b < w3.heap.size := by omega
    have HA3 := Lib.hid (fun x (h1 : a = some x) (h2 : 0 < cap) => Nat.lt_of_lt_of_le (HA.out x h1 h2) zz)
    have HR := Lib.hid R
    have HS := Lib.hid S
    have HG := Lib.hid G
    have HL := Lib.hid LE
    have HF := Lib.hid (fun W (B : w3.grownBy W (some b)) => its_from (irow_gb B R hb0) k (by omega))
    clear R S G LE RM
    go_upto_region 5 with fail
    go_region_law (first
        | (refine step_next rfl (.tmp 22) _ _ rfl (.pointer (some ⟨b, 0, none⟩)) (.int .i64 11) rfl rfl (nextD b a len cap zs _ 11 _ (srcS_lo HS.out hb3 HA3.out (by repeat (first | with_reducible exact B4 | with_reducible exact Below.refl _ _ | with_reducible refine below_alloc ?_ _ | with_reducible refine Below.drew ?_))) (by omega) (by omega) (by omega)) ?_
           rintro e mc ⟨vc, tc, hec, ⟨lc, uc⟩, hpc, rfl, hsc, hgc⟩
           have EC := Lib.hid hec
           clear hec
           refine ⟨_, rfl, ?_⟩
           have KC : w3.grownBy mc (some b) := grown_trans (gb_of_lo (World.grownBy.refl w3 _) (by repeat (first | with_reducible exact B4 | with_reducible exact Below.refl _ _ | with_reducible refine below_alloc ?_ _ | with_reducible refine Below.drew ?_))) hgc
           have zc : w3.heap.size ≤ mc.heap.size := KC.size
           have BC : Below w3.heap.size mc mc := Below.refl _ _
           have lv : IntKind.i64.wrap (3 + vc) = 3 + vc := IntWalk.i64_in _ (by omega)
           try (have hr4 := irow_gb hgc (irow_keep hr4 (fun _ _ => rfl)) hb3)
           try (have OW := irow_gb hgc (irow_keep OWE.out (fun _ _ => rfl)) hb3)
           clear hgc)
        | (refine step_append_items (w := (w3.alloc (.cells #[] 59)).drew) rfl (.tmp 17) (.tmp 20) rfl rfl w3.heap.size (.slice (some ⟨w3.heap.size, 0, none⟩) 0 0) [] rfl (show IRow _ w3.heap.size _ [] from irow_keep OWE.out (fun _ _ => rfl)) (.slice A k c) (Q.take k) rfl (IT1.out _ (by repeat (first | with_reducible exact K5 | with_reducible exact K4 | with_reducible exact KC | with_reducible exact World.grownBy.refl _ _ | with_reducible refine gb_alloc ?_ _ | with_reducible refine gb_drew ?_))) (by have := LT.out; simp; omega) (by first | omega | (simp [World.drew]; done) | (simp [World.drew]; omega)) ?_
           intro v4 m4 hr4 hg4 hat4
           obtain ⟨A4, n4, c4, rfl⟩ := irow_form hr4
           have K4 : w3.grownBy m4 (some b) := gb_own (by repeat (first | with_reducible exact K5 | with_reducible exact K4 | with_reducible exact KC | with_reducible exact World.grownBy.refl _ _ | with_reducible refine gb_alloc ?_ _ | with_reducible refine gb_drew ?_)) hg4 (fun g hg => (irow_lt (show IRow _ w3.heap.size _ [] from irow_keep OWE.out (fun _ _ => rfl)) g hg).1)
           have z4 : w3.heap.size ≤ m4.heap.size := K4.size
           have B4 : Below w3.heap.size w3 m4 := Below.grown (by repeat (first | with_reducible exact B4 | with_reducible exact Below.refl _ _ | with_reducible refine below_alloc ?_ _ | with_reducible refine Below.drew ?_)) hg4 (by first | omega | (simp [World.drew]; done) | (simp [World.drew]; omega)) (fun g hg => (irow_lt (show IRow _ w3.heap.size _ [] from irow_keep OWE.out (fun _ _ => rfl)) g hg).1)
           clear hat4 hg4)
        | (refine step_append_items (w := mc) rfl (.tmp 17) (.tmp 20) rfl rfl w3.heap.size (.slice (some ⟨w3.heap.size, 0, none⟩) 0 0) [] rfl (show IRow _ w3.heap.size _ [] from OW) (.slice A k c) (Q.take k) rfl (IT1.out _ (by repeat (first | with_reducible exact K5 | with_reducible exact K4 | with_reducible exact KC | with_reducible exact World.grownBy.refl _ _ | with_reducible refine gb_alloc ?_ _ | with_reducible refine gb_drew ?_))) (by have := LT.out; simp; omega) (by first | omega | (simp [World.drew]; done) | (simp [World.drew]; omega)) ?_
           intro v4 m4 hr4 hg4 hat4
           obtain ⟨A4, n4, c4, rfl⟩ := irow_form hr4
           have K4 : w3.grownBy m4 (some b) := gb_own (by repeat (first | with_reducible exact K5 | with_reducible exact K4 | with_reducible exact KC | with_reducible exact World.grownBy.refl _ _ | with_reducible refine gb_alloc ?_ _ | with_reducible refine gb_drew ?_)) hg4 (fun g hg => (irow_lt (show IRow _ w3.heap.size _ [] from OW) g hg).1)
           have z4 : w3.heap.size ≤ m4.heap.size := K4.size
           have BC4 : Below w3.heap.size mc m4 := Below.grown (by repeat (first | with_reducible exact BC5 | with_reducible exact BC4 | with_reducible exact BC | with_reducible refine Below.alloc ?_ (by first | omega | (simp; done) | (simp; omega)) _ | with_reducible refine Below.drew ?_)) hg4 (by first | omega | (simp [World.drew]; done) | (simp [World.drew]; omega)) (fun g hg => (irow_lt (show IRow _ w3.heap.size _ [] from OW) g hg).1)
           clear hat4 hg4)
        | (refine step_append_items (w := mc.alloc (.cells #[] 59)) rfl (.tmp 17) (.tmp 20) rfl rfl w3.heap.size (.slice (some ⟨mc.heap.size, 0, none⟩) 0 0) [] rfl (show IRow _ w3.heap.size _ [] from irow_empty mc zc) (.slice A k c) (Q.take k) rfl (IT1.out _ (by repeat (first | with_reducible exact K5 | with_reducible exact K4 | with_reducible exact KC | with_reducible exact World.grownBy.refl _ _ | with_reducible refine gb_alloc ?_ _ | with_reducible refine gb_drew ?_))) (by have := LT.out; simp; omega) (by first | omega | (simp [World.drew]; done) | (simp [World.drew]; omega)) ?_
           intro v4 m4 hr4 hg4 hat4
           obtain ⟨A4, n4, c4, rfl⟩ := irow_form hr4
           have K4 : w3.grownBy m4 (some b) := gb_own (by repeat (first | with_reducible exact K5 | with_reducible exact K4 | with_reducible exact KC | with_reducible exact World.grownBy.refl _ _ | with_reducible refine gb_alloc ?_ _ | with_reducible refine gb_drew ?_)) hg4 (fun g hg => (irow_lt (show IRow _ w3.heap.size _ [] from irow_empty mc zc) g hg).1)
           have z4 : w3.heap.size ≤ m4.heap.size := K4.size
           have BC4 : Below w3.heap.size mc m4 := Below.grown (by repeat (first | with_reducible exact BC5 | with_reducible exact BC4 | with_reducible exact BC | with_reducible refine Below.alloc ?_ (by first | omega | (simp; done) | (simp; omega)) _ | with_reducible refine Below.drew ?_)) hg4 (by first | omega | (simp [World.drew]; done) | (simp [World.drew]; omega)) (fun g hg => (irow_lt (show IRow _ w3.heap.size _ [] from irow_empty mc zc) g hg).1)
           clear hat4 hg4)
        | (refine step_append_items (w := mc.alloc (.cells #[.int .i64 (3 + vc), .int .i64 0] 59)) rfl (.tmp 17) (.tmp 20) rfl rfl w3.heap.size (.slice (some ⟨w3.heap.size, 0, none⟩) 0 0) [] rfl (show IRow _ w3.heap.size _ [] from irow_alloc OW _) (.slice A k c) (Q.take k) rfl (IT1.out _ (by repeat (first | with_reducible exact K5 | with_reducible exact K4 | with_reducible exact KC | with_reducible exact World.grownBy.refl _ _ | with_reducible refine gb_alloc ?_ _ | with_reducible refine gb_drew ?_))) (by have := LT.out; simp; omega) (by first | omega | (simp [World.drew]; done) | (simp [World.drew]; omega)) ?_
           intro v4 m4 hr4 hg4 hat4
           obtain ⟨A4, n4, c4, rfl⟩ := irow_form hr4
           have K4 : w3.grownBy m4 (some b) := gb_own (by repeat (first | with_reducible exact K5 | with_reducible exact K4 | with_reducible exact KC | with_reducible exact World.grownBy.refl _ _ | with_reducible refine gb_alloc ?_ _ | with_reducible refine gb_drew ?_)) hg4 (fun g hg => (irow_lt (show IRow _ w3.heap.size _ [] from irow_alloc OW _) g hg).1)
           have z4 : w3.heap.size ≤ m4.heap.size := K4.size
           have BC4 : Below w3.heap.size mc m4 := Below.grown (by repeat (first | with_reducible exact BC5 | with_reducible exact BC4 | with_reducible exact BC | with_reducible refine Below.alloc ?_ (by first | omega | (simp; done) | (simp; omega)) _ | with_reducible refine Below.drew ?_)) hg4 (by first | omega | (simp [World.drew]; done) | (simp [World.drew]; omega)) (fun g hg => (irow_lt (show IRow _ w3.heap.size _ [] from irow_alloc OW _) g hg).1)
           have IL : Its m4 (.slice (some ⟨mc.heap.size, 0, none⟩) 1 1) [⟨3 + vc, 0⟩] := irow_its (irow_keep (irow_one mc ⟨3 + vc, 0⟩) (fun g hg => by simp [Value.ownBlock] at hg; subst hg; exact hg4.block _ (by simp [World.drew] <;> omega) (by simp [Value.ownBlock] <;> omega)))
           clear hat4 hg4)
        | (refine step_append_items (w := (mc.alloc (.cells #[] 59)).alloc (.cells #[.int .i64 (3 + vc), .int .i64 0] 59)) rfl (.tmp 17) (.tmp 20) rfl rfl w3.heap.size (.slice (some ⟨mc.heap.size, 0, none⟩) 0 0) [] rfl (show IRow _ w3.heap.size _ [] from irow_alloc (irow_empty mc zc) _) (.slice A k c) (Q.take k) rfl (IT1.out _ (by repeat (first | with_reducible exact K5 | with_reducible exact K4 | with_reducible exact KC | with_reducible exact World.grownBy.refl _ _ | with_reducible refine gb_alloc ?_ _ | with_reducible refine gb_drew ?_))) (by have := LT.out; simp; omega) (by first | omega | (simp [World.drew]; done) | (simp [World.drew]; omega)) ?_
           intro v4 m4 hr4 hg4 hat4
           obtain ⟨A4, n4, c4, rfl⟩ := irow_form hr4
           have K4 : w3.grownBy m4 (some b) := gb_own (by repeat (first | with_reducible exact K5 | with_reducible exact K4 | with_reducible exact KC | with_reducible exact World.grownBy.refl _ _ | with_reducible refine gb_alloc ?_ _ | with_reducible refine gb_drew ?_)) hg4 (fun g hg => (irow_lt (show IRow _ w3.heap.size _ [] from irow_alloc (irow_empty mc zc) _) g hg).1)
           have z4 : w3.heap.size ≤ m4.heap.size := K4.size
           have BC4 : Below w3.heap.size mc m4 := Below.grown (by repeat (first | with_reducible exact BC5 | with_reducible exact BC4 | with_reducible exact BC | with_reducible refine Below.alloc ?_ (by first | omega | (simp; done) | (simp; omega)) _ | with_reducible refine Below.drew ?_)) hg4 (by first | omega | (simp [World.drew]; done) | (simp [World.drew]; omega)) (fun g hg => (irow_lt (show IRow _ w3.heap.size _ [] from irow_alloc (irow_empty mc zc) _) g hg).1)
           have IL : Its m4 (.slice (some ⟨mc.heap.size + 1, 0, none⟩) 1 1) [⟨3 + vc, 0⟩] := irow_its (irow_keep (irow_oneG (w := mc.alloc (.cells #[] 59)) (g := mc.heap.size + 1) ⟨3 + vc, 0⟩ (by simp)) (fun g hg => by simp [Value.ownBlock] at hg; subst hg; exact hg4.block _ (by simp [World.drew] <;> omega) (by simp [Value.ownBlock] <;> omega)))
           clear hat4 hg4)
        | (refine step_append_items (w := (mc.alloc (.cells #[.int .i64 (3 + vc), .int .i64 0] 59)).alloc (.cells #[] 59)) rfl (.tmp 17) (.tmp 20) rfl rfl w3.heap.size (.slice (some ⟨mc.heap.size + 1, 0, none⟩) 0 0) [] rfl (show IRow _ w3.heap.size _ [] from irow_emptyG (w := mc.alloc (.cells #[.int .i64 (3 + vc), .int .i64 0] 59)) (g := mc.heap.size + 1) (base := w3.heap.size) (by simp) (by simp; omega)) (.slice A k c) (Q.take k) rfl (IT1.out _ (by repeat (first | with_reducible exact K5 | with_reducible exact K4 | with_reducible exact KC | with_reducible exact World.grownBy.refl _ _ | with_reducible refine gb_alloc ?_ _ | with_reducible refine gb_drew ?_))) (by have := LT.out; simp; omega) (by first | omega | (simp [World.drew]; done) | (simp [World.drew]; omega)) ?_
           intro v4 m4 hr4 hg4 hat4
           obtain ⟨A4, n4, c4, rfl⟩ := irow_form hr4
           have K4 : w3.grownBy m4 (some b) := gb_own (by repeat (first | with_reducible exact K5 | with_reducible exact K4 | with_reducible exact KC | with_reducible exact World.grownBy.refl _ _ | with_reducible refine gb_alloc ?_ _ | with_reducible refine gb_drew ?_)) hg4 (fun g hg => (irow_lt (show IRow _ w3.heap.size _ [] from irow_emptyG (w := mc.alloc (.cells #[.int .i64 (3 + vc), .int .i64 0] 59)) (g := mc.heap.size + 1) (base := w3.heap.size) (by simp) (by simp; omega)) g hg).1)
           have z4 : w3.heap.size ≤ m4.heap.size := K4.size
           have BC4 : Below w3.heap.size mc m4 := Below.grown (by repeat (first | with_reducible exact BC5 | with_reducible exact BC4 | with_reducible exact BC | with_reducible refine Below.alloc ?_ (by first | omega | (simp; done) | (simp; omega)) _ | with_reducible refine Below.drew ?_)) hg4 (by first | omega | (simp [World.drew]; done) | (simp [World.drew]; omega)) (fun g hg => (irow_lt (show IRow _ w3.heap.size _ [] from irow_emptyG (w := mc.alloc (.cells #[.int .i64 (3 + vc), .int .i64 0] 59)) (g := mc.heap.size + 1) (base := w3.heap.size) (by simp) (by simp; omega)) g hg).1)
           have IL : Its m4 (.slice (some ⟨mc.heap.size, 0, none⟩) 1 1) [⟨3 + vc, 0⟩] := irow_its (irow_keep (irow_alloc (irow_one mc ⟨3 + vc, 0⟩) _) (fun g hg => by simp [Value.ownBlock] at hg; subst hg; exact hg4.block _ (by simp [World.drew] <;> omega) (by simp [Value.ownBlock] <;> omega)))
           clear hat4 hg4)
        | (refine step_append_items (w := _) rfl (.tmp 21) (.tmp 26) rfl rfl w3.heap.size (.slice A4 n4 c4) ([] ++ Q.take k) rfl (show IRow _ w3.heap.size _ _ from irow_alloc hr4 _) _ [⟨3 + vc, 0⟩] rfl (its_lit ⟨3 + vc, 0⟩ (by simp)) (by have := LT.out; simp; omega) (by first | omega | (simp [World.drew]; done) | (simp [World.drew]; omega)) ?_
           intro v5 m5 hr5 hg5 hat5
           obtain ⟨A5, n5, c5, rfl⟩ := irow_form hr5
           have K5 : w3.grownBy m5 (some b) := gb_own (by repeat (first | with_reducible exact K5 | with_reducible exact K4 | with_reducible exact KC | with_reducible exact World.grownBy.refl _ _ | with_reducible refine gb_alloc ?_ _ | with_reducible refine gb_drew ?_)) hg5 (fun g hg => (irow_lt hr4 g hg).1)
           have z5 : w3.heap.size ≤ m5.heap.size := K5.size
           have BC5 : Below w3.heap.size mc m5 := Below.grown (by repeat (first | with_reducible exact BC5 | with_reducible exact BC4 | with_reducible exact BC | with_reducible refine Below.alloc ?_ (by first | omega | (simp; done) | (simp; omega)) _ | with_reducible refine Below.drew ?_)) hg5 (by first | omega | (simp [World.drew]; done) | (simp [World.drew]; omega)) (fun g hg => (irow_lt hr4 g hg).1)
           clear hat5 hg5)
        | (refine step_append_items (w := _) rfl (.tmp 21) (.tmp 26) rfl rfl w3.heap.size (.slice A4 n4 c4) ([] ++ Q.take k) rfl hr4 _ [⟨3 + vc, 0⟩] rfl IL (by have := LT.out; simp; omega) (by first | omega | (simp [World.drew]; done) | (simp [World.drew]; omega)) ?_
           intro v5 m5 hr5 hg5 hat5
           obtain ⟨A5, n5, c5, rfl⟩ := irow_form hr5
           have K5 : w3.grownBy m5 (some b) := gb_own (by repeat (first | with_reducible exact K5 | with_reducible exact K4 | with_reducible exact KC | with_reducible exact World.grownBy.refl _ _ | with_reducible refine gb_alloc ?_ _ | with_reducible refine gb_drew ?_)) hg5 (fun g hg => (irow_lt hr4 g hg).1)
           have z5 : w3.heap.size ≤ m5.heap.size := K5.size
           have BC5 : Below w3.heap.size mc m5 := Below.grown (by repeat (first | with_reducible exact BC5 | with_reducible exact BC4 | with_reducible exact BC | with_reducible refine Below.alloc ?_ (by first | omega | (simp; done) | (simp; omega)) _ | with_reducible refine Below.drew ?_)) hg5 (by first | omega | (simp [World.drew]; done) | (simp [World.drew]; omega)) (fun g hg => (irow_lt hr4 g hg).1)
           clear hat5 hg5)
        | (refine step_append_items (w := m5) rfl (.tmp 27) (.tmp 30) rfl rfl w3.heap.size (.slice A5 n5 c5) ([] ++ Q.take k ++ [⟨3 + vc, 0⟩]) rfl hr5 (.slice (if c = k then A else Option.map (fun x => x.add (k * 2)) A) (n - k) (c - k)) (Q.drop k) rfl (HF.out m5 K5) (by have := LT.out; have := LD.out; simp; omega) z5 ?_
           intro v6 m6 hr6 hg6 hat6
           obtain ⟨A6, n6, c6, rfl⟩ := irow_form hr6
           have BX : Below w3.heap.size mc m6 := Below.grown BC5 hg6 z5 (fun g hg => (irow_lt hr5 g hg).1)
           have S6 := Lib.hid (srcS_lo hsc hb3 HA3.out BX)
           have G6 := Lib.hid (grown_trans HG.out (gb_own K5 hg6 (fun g hg => (irow_lt hr5 g hg).1)))
           have R6 := Lib.hid (irow_base (prow_irow hr6) zz)
           have L6 : ([] ++ Q.take k ++ [(⟨3 + vc, 0⟩ : It)] ++ Q.drop k).length ≤ 61 := (by have := LT.out; have := LD.out; have := HL.out; simp only [List.nil_append, List.length_append, List.length_drop, List.length_cons, List.length_nil]; omega)
           have hm6 : m6.heap.size = m6.heap.size := rfl
           clear BX hg6 hat6))
    all_goals
      have R := R6.out
      have S := S6.out
      have G := G6.out
      have DD : Hid (([] ++ Q.take k ++ [(⟨3 + vc, 0⟩ : It)] ++ Q.drop k).take 60 = dDoubt len zs s0) := Lib.hid (by unfold dDoubt; simp [E1.out, E2'.out, E3.out, EC.out])
      generalize ([] ++ Q.take k ++ [(⟨3 + vc, 0⟩ : It)] ++ Q.drop k) = Q6 at *
      clear R6 S6 G6 hr6 hr5 hr4
      have LE := Lib.hid (irow_len R)
      have RM := irow_cap R
      by_cases h60 : (60 : Int) < (n6 : Int)
      · go_wp2_with fail
        all_goals
          refine (chanceE _ _ _ _ _ _ 4 _ S (by omega) (by omega) (by omega)).mono ?_
          rintro e wz ⟨y, vz, tz, -, -, -, rfl, hs, hg⟩
          have RZ := irow_gb hg R hb0
          have GZ := grown_trans G hg
          have s60 : (60 : Int) ≤ (c6 : Int) := by omega
          cases y
          · go_wp2
            go_ret
            exact ⟨_, _, _, Q6.take 60, rfl, prow_cut RZ (by have := LE.out; omega), by rw [List.length_take]; omega, by rw [List.take_take]; simpa using DD.out, GZ⟩
          · go_wp2
            go_ret
            exact ⟨_, _, _, Q6, rfl, RZ, by omega, DD.out, GZ⟩
      · go_wp2
        all_goals go_ret
        all_goals exact ⟨_, _, _, Q6, rfl, R, by omega, DD.out, G⟩
  · by_cases hk : (k : Int) < (n : Int)
    · have RM := irow_cap R
      have LE := irow_len R
      have h0 : (0 : Int) ≤ (k : Int) := by omega
      have s1 : (k : Int) ≤ (c : Int) := by omega
      have s2 : (k : Int) + 1 ≤ (n : Int) := by omega
      have s3 : (0 : Int) ≤ (k : Int) + 1 := by omega
      have la : IntKind.i64.wrap ((k : Int) + 1) = (k : Int) + 1 := IntWalk.i64_in _ (by omega)
      have OWN := Lib.hid (show PRow 59 ((w3.alloc (.cells #[] 59)).drew) w.heap.size (.slice (some ⟨w3.heap.size, 0, none⟩) 0 0) [] from irow_keep (irow_empty w3 zz) (fun g _ => rfl))
      have IT1 := Lib.hid (show Its ((w3.alloc (.cells #[] 59)).drew) (.slice A k c) (Q.take k) from its_below (prow_its (prow_cut R (by omega))) (below_alloc (Below.refl _ _) _).drew)
      have LT := Lib.hid (show (Q.take k).length = k from by rw [List.length_take]; omega)
      have LD := Lib.hid (show (Q.drop (k + 1)).length ≤ 60 from by rw [List.length_drop]; omega)
      have HR := Lib.hid R
      have HS := Lib.hid S
      have HG := Lib.hid G
      have HL := Lib.hid LE
      have HF := Lib.hid (fun W (B : Below w3.heap.size w3 W) => its_below (its_from R (k + 1) (by omega)) B)
      clear R S G LE
      go_upto_region 8 with fail
      go_region_law (first
        | (refine step_append_items (w := (w3.alloc (.cells #[] 59)).drew) rfl (.tmp 38) (.tmp 41) rfl rfl w.heap.size (.slice (some ⟨w3.heap.size, 0, none⟩) 0 0) [] rfl OWN.out (.slice A k c) (Q.take k) rfl IT1.out (by have := LT.out; simp; omega) (by simp [World.drew]; omega) ?_
           intro v4 m4 hr4 hg4 hat4
           obtain ⟨A4, n4, c4, rfl⟩ := irow_form hr4
           have B4 : Below w3.heap.size w3 m4 := Below.grown (below_alloc (Below.refl _ _) _).drew hg4 (by simp [World.drew]) (fun g hg => by simp [Value.ownBlock] at hg; omega)
           have z4 : w.heap.size ≤ m4.heap.size := Nat.le_trans zz B4.size
           clear hat4 hg4)
        | (refine step_append_items (w := m4) rfl (.tmp 42) (.tmp 46) rfl rfl w.heap.size (.slice A4 n4 c4) ([] ++ Q.take k) rfl hr4 (.slice (if c = k + 1 then A else Option.map (fun x => x.add ((k + 1) * 2)) A) (n - (k + 1)) (c - (k + 1))) (Q.drop (k + 1)) rfl (HF.out m4 B4) (by have := LT.out; have := LD.out; simp; omega) z4 ?_
           intro v5 m5 hr5 hg5 hat5
           obtain ⟨A5, n5, c5, rfl⟩ := irow_form hr5
           have BX : Below w.heap.size w3 m5 := Below.grown (B4.mono zz) hg5 z4 (fun g hg => (irow_lt hr4 g hg).1)
           have S5 := Lib.hid (srcS_lo HS.out hb0 HA.out BX)
           have G5 := Lib.hid (gb_of_lo HG.out BX)
           have L5 : ([] ++ Q.take k ++ Q.drop (k + 1)).length ≤ 60 := (by have := LT.out; have := HL.out; simp only [List.nil_append, List.length_append, List.length_drop]; omega)
           have n60 : ¬ (60 : Int) < (n5 : Int) := (by have := irow_len hr5; omega)
           clear BX hg5 hat5))
      all_goals go_wp2
      all_goals go_ret
      all_goals exact ⟨_, _, _, _, rfl, hr5, Nat.le_trans L5 (by omega), by unfold dDoubt; simp [E1.out, E2'.out, E3.out, show k < Q.length from by have := NQ.out; omega], G5.out⟩
    · have h60 : ¬ (60 : Int) < (n : Int) := by omega
      go_wp2
      go_ret
      exact ⟨_, _, _, Q, rfl, R, LQ, by unfold dDoubt; simp [E1.out, E2'.out, E3.out, show ¬ k < Q.length from by have := NQ.out; omega], G⟩
  · by_cases hk : (k : Int) < (n : Int)
    · obtain ⟨g, rfl, hg0, hg1⟩ := irow_block R (by omega)
      go_wp2_with fail
      refine (nextD _ _ _ _ _ _ 15 _ S (by omega) (by omega) (by omega)).mono ?_
      rintro e w4 ⟨v4, t4, he4, ⟨l4, u4⟩, hp4, rfl, hs, hg⟩
      have E4 := Lib.hid he4
      clear he4
      have R4 := irow_gb hg R hb0
      have G4 := grown_trans G hg
      have S4 := hs
      clear hs hg R G S
      go_wp2_with fail
      refine (nextD _ _ _ _ _ _ 3 _ S4 (by omega) (by omega) (by omega)).mono ?_
      rintro e w5 ⟨v5, t5, he5, ⟨l5, u5⟩, hp5, rfl, hs, hg⟩
      have E5 := Lib.hid he5
      clear he5
      have R5 := irow_gb hg R4 hb0
      have G5 := grown_trans G4 hg
      have S5 := hs
      have z5 : w.heap.size ≤ w5.heap.size := G5.size
      clear hs hg R4 G4 S4
      have e5 := irow_len R5
      have kq : k < Q.length := by omega
      obtain ⟨q0, q1⟩ := irow_at (show IRow w5 w.heap.size (.slice (some ⟨g, 0, none⟩) Q.length c) Q by rw [← e5]; exact R5) k kq
      have R6 : IRow (set2 w5 g k ⟨v4, v5⟩) w.heap.size (.slice (some ⟨g, 0, none⟩) n c) (Q.set k ⟨v4, v5⟩) := by
        have := irow_set (show IRow w5 w.heap.size (.slice (some ⟨g, 0, none⟩) Q.length c) Q by rw [← e5]; exact R5) k kq ⟨v4, v5⟩
        rw [e5]; exact this
      have f0 := irow_free R5
      have B6 : Below w.heap.size w5 (set2 w5 g k ⟨v4, v5⟩) := below_set2 (Below.refl _ _) hg0 k _
      have S6 := srcS_lo S5 hb0 HA.out B6
      have G6 := gb_of_lo G5 B6
      have LQ6 : (Q.set k (⟨v4, v5⟩ : It)).length ≤ 100 := by rw [List.length_set]; exact LQ
      unfold set2 at R6 S6 G6
      have HR6 := Lib.hid R6
      have HS6 := Lib.hid S6
      have HG6 := Lib.hid G6
      have RM := irow_cap R5
      clear R5 S5 G5 R6 S6 G6 B6 e5
      have LE := Lib.hid (irow_len HR6.out)
      by_cases h60 : (60 : Int) < (n : Int)
      · omega
      · go_wp2
        go_ret
        exact ⟨_, _, _, Q.set k ⟨v4, v5⟩, rfl, HR6.out, LQ6, by unfold dDoubt; simp [E1.out, E2'.out, E3.out, E4.out, E5.out, show k < Q.length from kq], HG6.out⟩
    · have h60 : ¬ (60 : Int) < (n : Int) := by omega
      go_wp2
      go_ret
      exact ⟨_, _, _, Q, rfl, R, LQ, by unfold dDoubt; simp [E1.out, E2'.out, E3.out, show ¬ k < Q.length from by have := NQ.out; omega], G⟩
  · have LQ60 : Q.length ≤ 60 := by have := irow_len R; omega
    obtain ⟨R0, hR0⟩ : ∃ R, dWhile len zs 10 0 Q t3 = R := ⟨_, rfl⟩
    have RES : Hid (R0.take 60 = dDoubt len zs s0) := Lib.hid (by unfold dDoubt; simp [E1.out, E2'.out, E3.out, hR0])
    have HR0 := Lib.hid hR0
    clear hR0
    go_wp2
    go_loopw [3, 5] (fun o i wr => ∃ (j : Nat) (A' : Option Addr) (n' c' : Nat) (Q' : List It) (t : DSt), j ≤ 9 ∧ i = .int .i64 j ∧ o = .slice A' n' c' ∧ IRow wr w.heap.size (.slice A' n' c') Q' ∧ Q'.length ≤ 60 + 2 * j ∧ SrcS wr b a len cap zs t ∧ t.1 ≤ s0.1 + 11010 + 2 * j ∧ dWhile len zs (10 - j) (j : Int) Q' t = R0 ∧ w.grownBy wr (some b)) (fun _ i _ => 9 - (intOf i).toNat)
    case atStart => exact ⟨0, _, _, _, Q, t3, by omega, rfl, rfl, R, by omega, S, by omega, HR0.out, G⟩
    case round =>
      clear R S G zz
      obtain ⟨j, A', n', c', Q', t, hj, rfl, rfl, R, LJ, S, hpt, RT, G⟩ := hrel
      have HRT := Lib.hid RT
      clear RT
      have zz : w.heap.size ≤ wr.heap.size := G.size
      go_wp2_with fail
      refine (nextD _ _ _ _ _ _ 3 _ S (by omega) (by omega) (by omega)).mono ?_
      rintro e w4 ⟨v4, t4, he4, ⟨l4, u4⟩, hp4, rfl, hs, hg⟩
      have E4 := Lib.hid he4
      clear he4
      have R4 := irow_gb hg R hb0
      have G4 := grown_trans G hg
      have S4 := hs
      have z4 : w.heap.size ≤ w4.heap.size := G4.size
      have la : IntKind.i64.wrap (7 + v4) = 7 + v4 := IntWalk.i64_in _ (by omega)
      clear hs hg R G S
      by_cases hlt : (j : Int) < 7 + v4
      · go_wp2_with fail
        refine (item1_any 3 _).mono ?_
        rintro e w5 ⟨v5, rfl, hr, hbb⟩
        obtain ⟨A5, n5, c5, rfl⟩ := irow_form hr
        have R5 := irow_below R4 hbb
        have BX := hbb.mono z4
        have S5 := srcS_lo S4 hb0 HA.out BX
        have G5 := gb_of_lo G4 BX
        have z5 : w.heap.size ≤ w5.heap.size := G5.size
        have V5 : IRow w5 w.heap.size (.slice A5 n5 c5) [⟨3, 0⟩] := irow_base hr z4
        clear hbb BX hr R4 S4 G4
        go_wp2_with (first | (at_builtin; refine wpList_append_items rfl (.tmp 71) (.tmp 72) rfl rfl w.heap.size _ [⟨3, 0⟩] V5 _ Q' (irow_its R5) rfl rfl (by simp; omega) z5 ?_; intro v6 w6 hr6 hgr hat; obtain ⟨A6, n6, c6, rfl⟩ := irow_form hr6; have BX : Below w.heap.size w5 w6 := Below.grown (Below.refl _ _) hgr z5 (fun g hg => (irow_lt V5 g hg).1); have S6 := srcS_lo S5 hb0 HA.out BX; have G6 := gb_of_lo G5 BX; have z6 : w.heap.size ≤ w6.heap.size := G6.size; clear BX hgr hat) | fail)
        have L6 : ([⟨3, 0⟩] ++ Q' : List It).length ≤ 61 + 2 * j := by simp; omega
        have NX : Hid (∀ y t7 vc, dNx len zs 2 t4 = (vc, t7) → chB vc 2 = y → dWhile len zs (10 - (j + 1)) ((j + 1 : Nat) : Int) (if y = true then ([⟨3, 0⟩] ++ Q') ++ [⟨5, 0⟩] else [⟨3, 0⟩] ++ Q') t7 = R0) := Lib.hid (fun y t7 vc h1 h2 => by
          have q := HRT.out
          rw [show 10 - j = (10 - (j + 1)) + 1 by omega, dWhile_succ, E4.out] at q
          simp only at q
          rw [if_pos hlt, h1] at q
          simp only [h2] at q
          rw [show ((j + 1 : Nat) : Int) = (j : Int) + 1 by omega]
          exact q)
        generalize ([⟨3, 0⟩] ++ Q' : List It) = Q6 at *
        refine (chanceE _ _ _ _ _ _ 2 _ S6 (by omega) (by omega) (by omega)).mono ?_
        rintro e w7 ⟨y, vc, t7, he7, hc7, hp7, rfl, hs, hg⟩
        have E7 := Lib.hid he7
        have HC7 := Lib.hid hc7
        clear he7 hc7
        have R7 := irow_gb hg hr6 hb0
        have G7 := grown_trans G6 hg
        have S7 := hs
        have z7 : w.heap.size ≤ w7.heap.size := G7.size
        clear hs hg hr6 G6 S6 V5 R5 S5 G5
        cases y
        · go_wp2
          go_roundw
          case rel => exact ⟨j + 1, _, _, _, Q6, t7, by omega, by go_num, rfl, R7, by omega, S7, by omega, by simpa using NX.out _ _ _ E7.out HC7.out, G7⟩
          case measure => simp [intOf]; omega
        · go_wp2_with (first | (at_builtin; refine wpList_append_items rfl (.tmp 76) (.tmp 78) rfl rfl w.heap.size _ Q6 (irow_below R7 (by repeat (first | with_reducible exact Below.refl _ _ | with_reducible refine Below.setCell ?_ (by first | omega | (simp; done) | (simp; omega)) _ | with_reducible refine Below.alloc ?_ (by first | omega | (simp; done) | (simp; omega)) _))) _ [⟨5, 0⟩] (its_lit ⟨5, 0⟩ (by simp)) rfl rfl (by simp; omega) (by simp; omega) ?_; intro v8 w8 hr8 hgr hat; obtain ⟨A8, n8, c8, rfl⟩ := irow_form hr8; have BX : Below w.heap.size w7 w8 := Below.grown (by repeat (first | with_reducible exact Below.refl _ _ | with_reducible refine Below.setCell ?_ (by first | omega | (simp; done) | (simp; omega)) _ | with_reducible refine Below.alloc ?_ (by first | omega | (simp; done) | (simp; omega)) _)) hgr (by simp; omega) (fun g hg => (irow_lt R7 g hg).1); have S8 := srcS_lo S7 hb0 HA.out BX; have G8 := gb_of_lo G7 BX; clear BX hgr hat))
          have L8 : (Q6 ++ [(⟨5, 0⟩ : It)]).length ≤ 60 + 2 * (j + 1) := by simp; omega
          have NY : Hid (dWhile len zs (10 - (j + 1)) ((j + 1 : Nat) : Int) (Q6 ++ [(⟨5, 0⟩ : It)]) t7 = R0) := Lib.hid (by simpa using NX.out _ _ _ E7.out HC7.out)
          generalize (Q6 ++ [(⟨5, 0⟩ : It)]) = Q8 at *
          go_roundw
          case rel => exact ⟨j + 1, _, _, _, Q8, t7, by omega, by go_num, rfl, hr8, L8, S8, by omega, NY.out, G8⟩
          case measure => simp [intOf]; omega
      · have FQ : Hid (Q'.take 60 = dDoubt len zs s0) := Lib.hid (by
          have q := HRT.out
          rw [show 10 - j = (9 - j) + 1 by omega, dWhile_succ, E4.out] at q
          simp only at q
          rw [if_neg hlt] at q
          rw [q]; exact RES.out)
        have R := R4
        have S := S4
        have G := G4
        have LQ : Q'.length ≤ 100 := by omega
        clear R4 S4 G4
        have LE := Lib.hid (irow_len R)
        have RM := irow_cap R
        by_cases h60 : (60 : Int) < (n' : Int)
        · go_wp2_with fail
          refine (chanceE _ _ _ _ _ _ 4 _ S (by omega) (by omega) (by omega)).mono ?_
          rintro e wz ⟨y, vz, tz, -, -, -, rfl, hs, hg⟩
          have RZ := irow_gb hg R hb0
          have GZ := grown_trans G hg
          have s0 : (60 : Int) ≤ (c' : Int) := by omega
          cases y
          · go_wp2
            go_ret
            exact ⟨_, _, _, Q'.take 60, rfl, prow_cut RZ (by have := LE.out; omega), by rw [List.length_take]; omega, by rw [List.take_take]; simpa using FQ.out, GZ⟩
          · go_wp2
            go_ret
            exact ⟨_, _, _, Q', rfl, RZ, LQ, FQ.out, GZ⟩
        · go_wp2
          go_ret
          exact ⟨_, _, _, Q', rfl, R, LQ, FQ.out, G⟩
  · have e0 : (v8 == 0) = false := by rw [beq_eq_false_iff_ne]; exact n0
    have e1 : (v8 == 1) = false := by rw [beq_eq_false_iff_ne]; exact n1
    have e2 : (v8 == 2) = false := by rw [beq_eq_false_iff_ne]; exact n2
    have e3 : (v8 == 3) = false := by rw [beq_eq_false_iff_ne]; exact n3
    have N8 := Lib.hid (And.intro n0 (And.intro n1 (And.intro n2 n3)))
    clear n0 n1 n2 n3
    have h60 : ¬ (60 : Int) < (n : Int) := by omega
    go_wp2
    go_ret
    exact ⟨_, _, _, Q, rfl, R, LQ, by unfold dDoubt; simp [E1.out, E2'.out, E3.out, N8.out.1, N8.out.2.1, N8.out.2.2.1, N8.out.2.2.2], G⟩

end Go.Proofs.Ytafhmajnkicifaa

namespace Go.Proofs.Ytafhmajnkicifaa
open Go.RowKit
set_option linter.unusedVariables false
set_option linter.unusedSimpArgs false

/-- What 'at' leaves: a number from 0 on, below the bound; draws alone. -/
def AtPost (w : World) (n : Int) (e : Ending) (w' : World) : Prop := ∃ (v : Int) (k : Nat), (0 ≤ v ∧ v < n) ∧ e = .returned (.int .i64 v) ∧ w' = w.drewN k

end Go.Proofs.Ytafhmajnkicifaa

namespace Go.Proofs.Ytafhmajnkicifaa
open Go.RowKit
set_option linter.unusedVariables false
set_option linter.unusedSimpArgs false

/-- What drawn items leave. -/
def DrawnI (w : World) (P : List It → Prop) (e : Ending) (w' : World) : Prop := ∃ A n c Q, e = .returned (.slice A n c) ∧ IRow w' w.heap.size (.slice A n c) Q ∧ P Q ∧ Below w.heap.size w w'

set_option maxRecDepth 100000 in
set_option maxHeartbeats 400000 in
theorem itemsDrawn_any (a : Option Addr) (len cap : Nat) (zs : List Int) (w : World) (h : BRow w a len cap zs) (hl : len ≤ 9223372036854775807) :
    Calls Try.prog 7 #[.slice a len cap] w (DrawnI w fun Q => Fits 2 Q ∧ Q.length ≤ 60) := by
  have S := Lib.hid (src_new h)
  clear h
  go_enter Try.func7, Try.ntmps7
  go_wp2_with fail
  refine (source_any _ _ _ _ hl).mono ?_
  rintro e w' ⟨rfl, rfl⟩
  go_wp2_with fail
  refine (items_drew _ _ _ _ _ _ _ S.out (by omega)).mono ?_
  rintro e w1 ⟨v, Q, rfl, hr, F1, L1, hs, hg⟩
  obtain ⟨A, n, c, rfl⟩ := irow_form hr
  have G := Lib.hid (below_newS _ hg)
  have R := Lib.hid (irow_base hr (show w.heap.size ≤ _ by simp))
  clear hs hg hr
  go_wp2
  go_ret
  exact ⟨_, _, _, Q, rfl, R.out, ⟨F1, L1⟩, G.out⟩

set_option maxRecDepth 100000 in
set_option maxHeartbeats 400000 in
theorem doubtItems_any (a : Option Addr) (len cap : Nat) (zs : List Int) (w : World) (h : BRow w a len cap zs) (hl : len ≤ 9223372036854775807) :
    Calls Try.prog 11 #[.slice a len cap] w (DrawnI w fun Q => Q.length ≤ 60) := by
  have S := Lib.hid (src_new h)
  clear h
  go_enter Try.func11, Try.ntmps11
  go_wp2_with fail
  refine (source_any _ _ _ _ hl).mono ?_
  rintro e w' ⟨rfl, rfl⟩
  go_wp2_with fail
  refine (any_drew _ _ _ _ _ _ S.out).mono ?_
  rintro e w1 ⟨A, n, c, Q, rfl, hr, L1, hs, hg⟩
  have G := Lib.hid (below_newS _ hg)
  have R := irow_base hr (show w.heap.size ≤ _ by simp)
  have RM := irow_cap R
  have LE := Lib.hid (irow_len R)
  have HR := Lib.hid R
  clear hs hg hr R
  by_cases h60 : n ≤ 60
  · have e1 : min (n : Int) 60 = (n : Int) := by omega
    have s1 : (n : Int) ≤ (c : Int) := by omega
    have s0 : (0 : Int) ≤ (n : Int) := by omega
    go_wp2
    go_ret
    exact ⟨_, _, _, Q, rfl, HR.out, by have := LE.out; omega, G.out⟩
  · have e1 : min (n : Int) 60 = 60 := by omega
    have s1 : (60 : Int) ≤ (c : Int) := by omega
    go_wp2
    go_ret
    exact ⟨_, _, _, Q.take 60, rfl, prow_cut HR.out (by have := LE.out; omega), by show (Q.take 60).length ≤ 60; rw [List.length_take]; omega, G.out⟩

theorem goO_take (Q : List It) (o : List Int) (h : (goO Q o).1 = Q.length) (p : Nat) (hp : p ≤ Q.length) : (goO (Q.take p) o).1 = p := by
  induction Q generalizing o p with
  | nil => simp at hp; subst hp; simp [goO]
  | cons x r ih =>
    cases p with
    | zero => simp [goO]
    | succ p =>
      rw [List.take_succ_cons]
      unfold goO at h ⊢
      by_cases hf : fitB o x.k = true
      · rw [if_pos hf] at h ⊢
        simp at h hp ⊢
        exact ih _ h p hp
      · rw [if_neg hf] at h
        simp at h

theorem wf_small (n : Nat) (h : n ≤ 1000000) : (Lit.int .i64 (n : Int)).wf = true := by
  have h1 : IntKind.i64.min = -9223372036854775808 := by decide
  have h2 : IntKind.i64.max = 9223372036854775807 := by decide
  unfold Lit.wf
  simp
  omega

end Go.Proofs.Ytafhmajnkicifaa

namespace Go.Proofs.Ytafhmajnkicifaa
open Go.RowKit
set_option linter.unusedVariables false
set_option linter.unusedSimpArgs false

theorem srcS_start {w : World} {a : Option Addr} {len cap : Nat} {zs : List Int} (h : BRow w a len cap zs) :
    SrcS (w.alloc (.cells #[.slice a len cap, .int .i64 0, .int .i64 ((len : Int) % 1000)] 73)) w.heap.size a len cap zs (0, (len : Int) % 1000) := by
  have hb := brow_lt h
  refine ⟨?_, ?_, ?_, ?_, ?_, ?_, ?_, ?_, ?_⟩
  · simp
  · simp
  · simp
  · simp
  · simp
  · rcases h with h | ⟨x, rfl, h1, h2, h3, h4, h5⟩
    · exact .inl h
    · exact .inr ⟨x, rfl, h1, h2, h3, fun i hi => by rw [World.cell?_alloc_lt _ _ _ (by rw [add_block]; exact hb x rfl (by omega))]; exact h4 i hi, h5⟩
  · intro x hx hc; have := hb x hx hc; omega
  · show 0 ≤ (len : Int) % 1000; omega
  · show (len : Int) % 1000 < 2147483648; omega

set_option maxRecDepth 100000 in
set_option maxHeartbeats 400000 in
theorem itemsDrawn2 (a : Option Addr) (len cap : Nat) (zs : List Int) (w : World) (h : BRow w a len cap zs) (hl : len ≤ 9223372036854775807) :
    Calls Try.prog 7 #[.slice a len cap] w (fun e w' => DrawnI w (fun Q => Fits 2 Q ∧ Q.length ≤ 60) e w' ∧ 0 < w'.heap.size) := by
  have S := Lib.hid (src_new h)
  clear h
  go_enter Try.func7, Try.ntmps7
  go_wp2_with fail
  refine (source_any _ _ _ _ hl).mono ?_
  rintro e w' ⟨rfl, rfl⟩
  go_wp2_with fail
  refine (items_drew _ _ _ _ _ _ _ S.out (by omega)).mono ?_
  rintro e w1 ⟨v, Q, rfl, hr, F1, L1, hs, hg⟩
  obtain ⟨A, n, c, rfl⟩ := irow_form hr
  have G := Lib.hid (below_newS _ hg)
  have R := Lib.hid (irow_base hr (show w.heap.size ≤ _ by simp))
  have ZP := src_lt hs
  clear hs hg hr
  go_wp2
  go_ret
  exact ⟨⟨_, _, _, Q, rfl, R.out, ⟨F1, L1⟩, G.out⟩, by omega⟩

set_option maxRecDepth 100000 in
set_option maxHeartbeats 400000 in
theorem doubtD (a : Option Addr) (len cap : Nat) (zs : List Int) (w : World) (h : BRow w a len cap zs) (hl : len ≤ 9223372036854775807) :
    Calls Try.prog 11 #[.slice a len cap] w (DrawnI w fun Q => Q = dDoubt len zs (0, (len : Int) % 1000) ∧ Q.length ≤ 60) := by
  have S := Lib.hid (srcS_start h)
  clear h
  go_enter Try.func11, Try.ntmps11
  go_wp2_with fail
  refine (source_any _ _ _ _ hl).mono ?_
  rintro e w' ⟨rfl, rfl⟩
  go_wp2_with fail
  refine (anyD _ _ _ _ _ _ _ S.out (by simp)).mono ?_
  rintro e w1 ⟨A, n, c, Q, rfl, hr, L1, hd, hg⟩
  have HD := Lib.hid hd
  have G := Lib.hid (below_newS _ hg)
  have R := irow_base hr (show w.heap.size ≤ _ by simp)
  have RM := irow_cap R
  have LE := Lib.hid (irow_len R)
  have HR := Lib.hid R
  clear hd hg hr R
  by_cases h60 : n ≤ 60
  · have e1 : min (n : Int) 60 = (n : Int) := by omega
    have s1 : (n : Int) ≤ (c : Int) := by omega
    have s0 : (0 : Int) ≤ (n : Int) := by omega
    go_wp2
    go_ret
    exact ⟨_, _, _, Q, rfl, HR.out, ⟨by rw [← HD.out, List.take_of_length_le (by have := LE.out; omega)], by have := LE.out; omega⟩, G.out⟩
  · have e1 : min (n : Int) 60 = 60 := by omega
    have s1 : (60 : Int) ≤ (c : Int) := by omega
    go_wp2
    go_ret
    exact ⟨_, _, _, Q.take 60, rfl, prow_cut HR.out (by have := LE.out; omega), ⟨HD.out, by show (Q.take 60).length ≤ 60; rw [List.length_take]; omega⟩, G.out⟩

set_option maxRecDepth 100000 in
set_option maxHeartbeats 2000000 in
theorem sameItems_any (u v : Value) (P Q : List It) (w : World) (hu : Its w u P) (hv : Its w v Q) :
    Calls Try.prog 13 #[u, v] w (SamT (P = Q) w) := by
  obtain ⟨pm, A, ca, rfl, ha⟩ := hu
  obtain ⟨qm, B, cb, rfl, hb⟩ := hv
  unfold maxLen at pm qm
  by_cases hl : P.length = Q.length
  · have z0 : ((P.length : Int) != (Q.length : Int)) = false := by simp [hl]
    have LE := Lib.hid hl
    have hlq : P.length ≤ Q.length := by omega
    have HA := Lib.hid ha
    have HB := Lib.hid hb
    clear hl ha hb
    go_enter Try.func13, Try.ntmps13
    go_wp2
    clear z0
    go_loopw [5] (fun i wr => ∃ k n : Nat, k ≤ P.length ∧ i = .int .i64 k ∧ P.take k = Q.take k ∧ wr = w.drewN n) (fun i _ => P.length - (intOf i).toNat)
    case atStart => exact ⟨0, 0, Nat.zero_le _, rfl, by simp, rfl⟩
    case round =>
      obtain ⟨k, n, hk, rfl, hat, rfl⟩ := hrel
      have AT := Lib.hid hat
      clear hat
      by_cases hlt : k < P.length
      · have hlt2 : k < Q.length := by omega
        obtain ⟨ga, rfl, hca2⟩ := HA.out (by omega)
        obtain ⟨gb, rfl, hcb2⟩ := HB.out (by omega)
        have ka := hca2 k hlt
        have kb := hcb2 k hlt2
        clear hca2 hcb2
        by_cases e : P[k] = Q[k]
        · have NX : Hid (P.take (k + 1) = Q.take (k + 1)) := Lib.hid (by rw [List.take_succ_eq_append_getElem hlt, List.take_succ_eq_append_getElem hlt2, AT.out, e])
          rw [← e] at kb
          clear e
          generalize P[k] = x at *
          obtain ⟨a0, a1⟩ := ka
          obtain ⟨b0, b1⟩ := kb
          have t0 : (x.k == x.k) = true := by simp
          have t1 : (x.v == x.v) = true := by simp
          go_wp2
          go_quiet (fail)
          go_wp2
          go_roundw
          case rel => exact ⟨k + 1, _, by omega, by go_num, NX.out, by first | rfl | (rw [World.drewN_drewN])⟩
          case measure => simp [intOf]; omega
        · have NO : Hid (¬ P = Q) := Lib.hid (fun h => e (by subst h; rfl))
          have hne : P[k].k ≠ Q[k].k ∨ (P[k].k = Q[k].k ∧ P[k].v ≠ Q[k].v) := by
            by_cases q : P[k].k = Q[k].k
            · refine .inr ⟨q, fun q2 => e ?_⟩
              cases hx : P[k]; cases hy : Q[k]
              rw [hx, hy] at q q2
              simp at q q2
              rw [q, q2]
            · exact .inl q
          clear e
          generalize P[k] = x at *
          generalize Q[k] = y at *
          obtain ⟨a0, a1⟩ := ka
          obtain ⟨b0, b1⟩ := kb
          rcases hne with q0 | ⟨q0, q1⟩
          · have t0 : (x.k == y.k) = false := by rw [beq_eq_false_iff_ne]; exact q0
            clear q0
            go_wp2
            go_quiet (fail)
            go_wp2
            go_ret
            exact samT_no NO.out (below_draws (below_draws (Below.refl _ _) _) _)
          · have t0 : (x.k == y.k) = true := by rw [beq_iff_eq]; exact q0
            have t1 : (x.v == y.v) = false := by rw [beq_eq_false_iff_ne]; exact q1
            clear q0 q1
            go_wp2
            go_quiet (fail)
            go_wp2
            go_ret
            exact samT_no NO.out (below_draws (below_draws (Below.refl _ _) _) _)
      · obtain rfl : k = P.length := by omega
        have YES : Hid (P = Q) := Lib.hid (by have h := AT.out; rwa [List.take_length, LE.out, List.take_length] at h)
        clear hlt
        go_wp2
        go_ret
        exact samT_yes YES.out (below_draws (Below.refl _ _) _)
  · have z0 : ((P.length : Int) != (Q.length : Int)) = true := by simp; omega
    have NO : Hid (¬ P = Q) := Lib.hid (fun h => hl (by rw [h]))
    clear hl ha hb
    go_enter Try.func13, Try.ntmps13
    go_wp2
    go_ret
    exact samT_no NO.out (Below.refl _ _)

end Go.Proofs.Ytafhmajnkicifaa
