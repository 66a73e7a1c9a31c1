/- The given side's items: valid or not, what is open behind them, their size. -/
import Derived.Test.YthnbaeamekolmaaGreatDoorMkC
import Derived.Test.YthnbaeamekolmaaGreatDoorDatO
namespace Go.Proofs.YthnbaeamekolmaaGreatDoor
open Go.RowKit
set_option linter.unusedVariables false
set_option linter.unusedSimpArgs false

set_option maxRecDepth 100000 in
set_option maxHeartbeats 1000000 in
theorem sItemOK_any (x : It) (w : World) :
    Calls Tryz.prog 208 #[.agg #[.int .i64 x.k, .int .i64 x.v]] w fun e w' => e = .returned (.bool (itB x)) ∧ Below w.heap.size w w' := by
  obtain ⟨k, v⟩ := x
  by_cases h1 : k = 1
  · subst h1
    go_enter Tryz.func208, Tryz.ntmps208
    go_wp2_with fail
    refine (sIn_any _ _ _ _).mono ?_
    rintro e w' ⟨rfl, rfl⟩
    go_wp2
    go_ret
    exact ⟨rfl, below_alloc (Below.refl _ _) _⟩
  by_cases h2 : k = 2
  · subst h2
    go_enter Tryz.func208, Tryz.ntmps208
    go_wp2_with fail
    refine (sCell_any _ _).mono ?_
    rintro e w' ⟨rfl, rfl⟩
    go_wp2
    go_ret
    exact ⟨rfl, below_alloc (Below.refl _ _) _⟩
  have t1 : (k == 1) = false := by simpa using h1
  have t2 : (k == 2) = false := by simpa using h2
  have E : itB ⟨k, v⟩ = (inB k 3 13 && decide (v = 0)) := by unfold itB inB; simp [h1, h2]
  rw [E]
  clear E h1 h2
  obtain ⟨q, hq⟩ : ∃ q, inB k 3 13 = q := ⟨_, rfl⟩
  have HQ := Lib.hid hq
  rw [hq]
  clear hq
  cases q with
  | true =>
    by_cases h5 : v = 0
    · subst h5
      go_enter Tryz.func208, Tryz.ntmps208
      go_wp2_with (refine (sIn_any _ _ _ _).mono ?_; rintro e w' ⟨rfl, rfl⟩; rw [HQ.out])
      go_ret
      exact ⟨rfl, below_alloc (Below.refl _ _) _⟩
    · have t5 : (v == 0) = false := by simpa using h5
      go_enter Tryz.func208, Tryz.ntmps208
      go_wp2_with (refine (sIn_any _ _ _ _).mono ?_; rintro e w' ⟨rfl, rfl⟩; rw [HQ.out])
      go_ret
      exact ⟨ret_bool (by simp [h5]), below_alloc (Below.refl _ _) _⟩
  | false =>
    go_enter Tryz.func208, Tryz.ntmps208
    go_wp2_with (refine (sIn_any _ _ _ _).mono ?_; rintro e w' ⟨rfl, rfl⟩; rw [HQ.out])
    go_ret
    exact ⟨rfl, below_alloc (Below.refl _ _) _⟩

set_option maxRecDepth 100000 in
set_option maxHeartbeats 1000000 in
theorem sAsk_any (v : Value) (Q : List It) (w : World) (hv : Its w v Q) :
    Calls Tryz.prog 151 #[v] w fun e w' => e = .returned (.int .i64 (askI Q)) ∧ Below w.heap.size w w' := by
  have HV := Lib.hid hv
  obtain ⟨hl, A, cap, rfl, _⟩ := hv
  unfold maxLen at hl
  by_cases h1 : 4096 < Q.length
  · have E : Hid (askI Q = 2) := Lib.hid (by unfold askI; rw [if_pos h1])
    have t1 : (4096 : Int) < (Q.length : Int) := by omega
    clear h1
    go_enter Tryz.func151, Tryz.ntmps151
    go_wp2
    go_ret
    exact ⟨ret_int E.out.symm, Below.refl _ _⟩
  have t1 : ¬ (4096 : Int) < (Q.length : Int) := by omega
  by_cases h2 : 60 < Q.length
  · have E : Hid (askI Q = 6) := Lib.hid (by unfold askI; rw [if_neg h1, if_pos h2])
    have t2 : (60 : Int) < (Q.length : Int) := by omega
    clear h1 h2
    go_enter Tryz.func151, Tryz.ntmps151
    go_wp2
    go_ret
    exact ⟨ret_int E.out.symm, Below.refl _ _⟩
  have t2 : ¬ (60 : Int) < (Q.length : Int) := by omega
  have E : Hid (askI Q = if Q.all itB = true then 0 else 1) := Lib.hid (by unfold askI; rw [if_neg h1, if_neg h2])
  have hl2 : Q.length ≤ 60 := by omega
  clear h1 h2
  go_enter Tryz.func151, Tryz.ntmps151
  go_wp2
  go_loopw [3] (fun i wr => ∃ k : Nat, k ≤ Q.length ∧ i = .int .i64 k ∧ (∀ j (h : j < Q.length), j < k → itB Q[j] = true) ∧ Below w.heap.size w wr) (fun i _ => Q.length - (intOf i).toNat)
  case atStart => exact ⟨0, Nat.zero_le _, rfl, fun j _ hj => by omega, Below.refl _ _⟩
  case round =>
    obtain ⟨k, hk, rfl, ha, hb⟩ := hrel
    have HA := Lib.hid ha
    have HB := Lib.hid hb
    clear ha hb
    by_cases hlt : k < Q.length
    · obtain ⟨_, A', ca', e', hc⟩ := its_below HV.out HB.out
      simp only [Value.slice.injEq, true_and] at e'
      obtain ⟨rfl, rfl⟩ := e'
      obtain ⟨ga, rfl, ha⟩ := hc (by omega)
      obtain ⟨c0, c1⟩ := ha k hlt
      clear ha hc
      go_wp2_with fail
      refine (sItemOK_any Q[k] _).mono ?_
      rintro e w2 ⟨rfl, hb2⟩
      have B2 := Lib.hid (below_step HB.out hb2)
      clear hb2 c0 c1
      by_cases hi : itB Q[k] = true
      · have HI := Lib.hid hi
        rw [hi]
        clear hi
        go_wp2
        go_roundw
        case rel => exact ⟨k + 1, by omega, by go_num, fun j h hj => by
          rcases Nat.lt_succ_iff_lt_or_eq.1 hj with q | rfl
          · exact HA.out j h q
          · exact HI.out, B2.out⟩
        case measure => simp [intOf]; omega
      · have hi : itB Q[k] = false := by simpa using hi
        have EE : Hid (askI Q = 1) := Lib.hid (by
          rw [E.out, if_neg]
          intro h
          have := List.all_eq_true.1 h Q[k] (List.getElem_mem hlt)
          rw [hi] at this; cases this)
        rw [hi]
        clear hi
        go_wp2
        go_ret
        exact ⟨ret_int EE.out.symm, B2.out⟩
    · obtain rfl : k = Q.length := by omega
      have EE : Hid (askI Q = 0) := Lib.hid (by
        rw [E.out, if_pos]
        exact List.all_eq_true.2 fun x hx => by
          obtain ⟨j, hj, rfl⟩ := List.getElem_of_mem hx
          exact HA.out j hj hj)
      clear hlt
      go_wp2
      go_ret
      exact ⟨ret_int EE.out.symm, HB.out⟩

theorem ints_top {w : World} {v : Value} {o : List Int} {m : Nat} (h : Ints w v o) (hm : o.length = m + 1) : ∃ ad c, v = .slice (some ad) (m + 1) c ∧ w.cell? (ad.add m) = some (.int .i64 (topO o)) := by
  obtain ⟨_, A, c, rfl, hr⟩ := h
  obtain ⟨ad, rfl, hq⟩ := hr (by omega)
  have hx := hq (o.length - 1) (by omega)
  rw [← topO_get (by omega), show o.length - 1 = m by omega] at hx
  exact ⟨ad, c, by rw [hm], hx⟩

theorem row_room {w : World} {lo n k : Nat} {A : Option Addr} {zs : List Int} (h : Row w lo (.slice A n k) zs) : n ≤ k := by
  rcases h.2 with ⟨hv, h0⟩ | ⟨g', cap', cur, hv, hb', hg, h1, h2, h3, h4⟩
  · simp only [Value.slice.injEq] at hv
    omega
  · simp only [Value.slice.injEq] at hv
    obtain ⟨_, rfl, rfl⟩ := hv
    omega

theorem drop_of {o : List Int} {m : Nat} (hm : o.length = m + 1) : o.dropLast = o.take m := by
  rw [List.dropLast_eq_take]; congr 1; omega

/-- What l07Step leaves. -/
def StepOf (w : World) (lo : Nat) (o : List Int) (k : Int) (e : Ending) (w' : World) : Prop := ∃ u, e = .returned (.tuple #[u, .bool (fitB o k)]) ∧ Row w' lo u (nextO o k) ∧ Below w.heap.size w w'

theorem ret_vb {v : Value} {c d : Bool} (h : c = d) : Ending.returned (.tuple #[v, .bool c]) = .returned (.tuple #[v, .bool d]) := by rw [h]

/-- 'append([]int{}, xs...)', the length of xs written otherwise. -/
theorem wpList_append_newL {W0 : World} {ops : Array Oper} {rest : List Oper} {o : Oper} {a : Act} {Q : Exit → Act → World → Prop} (hgd : o.guard = none) (s x : Operand)
    (ho : o.op = .call { callee := .builtin .append, args := #[s, x], argTypes := #[23, 23] }) (hty : o.type = 23)
    (g : Nat) (hs : a.eval s = .slice (some ⟨g, 0, none⟩) 0 0) (hgs : g = W0.heap.size) (u : Value) (zs : List Int) (hx : a.eval x = u) (hz : Ints W0 u zs) (n : Nat) (hn : zs.length = n) (hl : n ≤ 1099511627776)
    (h : ∀ B m w', Row w' W0.heap.size (.slice B n m) zs → Below W0.heap.size W0 w' → wpList Tryz.prog ops Q rest (a.put o.dst (.slice B n m)) w') :
    wpList Tryz.prog ops Q (o :: rest) a (W0.alloc (.cells #[] 3)) := by
  subst hn
  exact wpList_append_new hgd s x ho hty g hs hgs u zs hx hz hl h

set_option maxRecDepth 100000 in
set_option maxHeartbeats 400000 in
theorem step_1_0 (w : World) (lo : Nat) (v : Value) (o : List Int) (hr : Row w lo v o) (hl : o.length ≤ 1000000) (hlo : lo ≤ w.heap.size) (h0 : o = []) :
    Calls Tryz.prog 152 #[v, .int .i64 1] w (StepOf w lo o 1) := by
  have HR := Lib.hid hr
  have HI := Lib.hid (row_ints hr)
  have EF : Hid (fitB o 1 = true) := Lib.hid rfl
  have EN : Hid (nextO o 1 = o) := Lib.hid rfl
  subst h0
  obtain ⟨_, A, c, rfl, _⟩ := row_ints hr
  have HC : Hid (Row w lo (.slice A 0 c) ([] : List Int)) := Lib.hid hr
  have HD : Hid (([] : List Int).dropLast = []) := Lib.hid rfl
  have z1 : IntKind.i64.wrap (((0 : Nat) : Int) - 1) = -1 := by decide
  clear hr hl
  simp only [List.length_nil] at *
  go_enter Tryz.func152, Tryz.ntmps152
  go_wp2
  go_ret2
  exact ⟨_, by rw [EF.out]; rfl, by rw [EN.out]; exact HR.out, Below.refl _ _⟩

set_option maxRecDepth 100000 in
set_option maxHeartbeats 400000 in
theorem step_1_1 (w : World) (lo : Nat) (v : Value) (o : List Int) (hr : Row w lo v o) (hl : o.length ≤ 1000000) (hlo : lo ≤ w.heap.size) (hm : o.length = 0 + 1) :
    Calls Tryz.prog 152 #[v, .int .i64 1] w (StepOf w lo o 1) := by
  have HR := Lib.hid hr
  have HI := Lib.hid (row_ints hr)
  have EF : Hid (fitB o 1 = true) := Lib.hid rfl
  have EN : Hid (nextO o 1 = o) := Lib.hid rfl
  obtain ⟨ad, c, rfl, hx⟩ := ints_top (row_ints hr) hm
  have HC : Hid (Row w lo (.slice (some ad) 0 c) (o.take 0)) := Lib.hid (row_cut hr (by omega))
  have HD : Hid (o.dropLast = o.take 0) := Lib.hid (drop_of hm)
  have hcap := row_room hr
  rw [Addr.add_zero'] at hx
  have z1 : IntKind.i64.wrap (((0 + 1 : Nat) : Int) - 1) = 0 := by decide
  have HL := Lib.hid hm
  have TL : Hid ((o.take 0).length = 0) := Lib.hid (by rw [List.length_take]; omega)
  generalize topO o = t at *
  clear hr hl hm
  go_enter Tryz.func152, Tryz.ntmps152
  go_wp2
  go_ret2
  exact ⟨_, by rw [EF.out]; rfl, by rw [EN.out]; exact HR.out, Below.refl _ _⟩

set_option maxRecDepth 100000 in
set_option maxHeartbeats 400000 in
theorem step_1_2 (w : World) (lo : Nat) (v : Value) (o : List Int) (hr : Row w lo v o) (hl : o.length ≤ 1000000) (hlo : lo ≤ w.heap.size) (m : Nat) (hm : o.length = m + 1) (hp : 0 < m) :
    Calls Tryz.prog 152 #[v, .int .i64 1] w (StepOf w lo o 1) := by
  have HR := Lib.hid hr
  have HI := Lib.hid (row_ints hr)
  have EF : Hid (fitB o 1 = true) := Lib.hid rfl
  have EN : Hid (nextO o 1 = o) := Lib.hid rfl
  obtain ⟨ad, c, rfl, hx⟩ := ints_top (row_ints hr) hm
  have HC : Hid (Row w lo (.slice (some ad) m c) (o.take m)) := Lib.hid (row_cut hr (by omega))
  have HD : Hid (o.dropLast = o.take m) := Lib.hid (drop_of hm)
  have hcap := row_room hr
  have hm2 : m ≤ 1000000 := by omega
  have z1 : IntKind.i64.wrap (((m + 1 : Nat) : Int) - 1) = (m : Int) := by rw [show ((m + 1 : Nat) : Int) - 1 = m by omega]; exact IntWalk.i64_in _ (by omega)
  have z2 : (0 : Int) < (m : Int) := by omega
  have z3 : (m : Int) < ((m + 1 : Nat) : Int) := by omega
  have z4 : (0 : Int) < ((m + 1 : Nat) : Int) := by omega
  have HL := Lib.hid hm
  have TL : Hid ((o.take m).length = m) := Lib.hid (by rw [List.length_take]; omega)
  generalize topO o = t at *
  clear hr hl hm
  go_enter Tryz.func152, Tryz.ntmps152
  go_wp2
  go_ret2
  exact ⟨_, by rw [EF.out]; rfl, by rw [EN.out]; exact HR.out, Below.refl _ _⟩

set_option maxRecDepth 100000 in
set_option maxHeartbeats 400000 in
theorem step_2_0 (w : World) (lo : Nat) (v : Value) (o : List Int) (hr : Row w lo v o) (hl : o.length ≤ 1000000) (hlo : lo ≤ w.heap.size) (h0 : o = []) :
    Calls Tryz.prog 152 #[v, .int .i64 2] w (StepOf w lo o 2) := by
  have HR := Lib.hid hr
  have HI := Lib.hid (row_ints hr)
  have EF : Hid (fitB o 2 = true) := Lib.hid rfl
  have EN : Hid (nextO o 2 = o) := Lib.hid rfl
  subst h0
  obtain ⟨_, A, c, rfl, _⟩ := row_ints hr
  have HC : Hid (Row w lo (.slice A 0 c) ([] : List Int)) := Lib.hid hr
  have HD : Hid (([] : List Int).dropLast = []) := Lib.hid rfl
  have z1 : IntKind.i64.wrap (((0 : Nat) : Int) - 1) = -1 := by decide
  clear hr hl
  simp only [List.length_nil] at *
  go_enter Tryz.func152, Tryz.ntmps152
  go_wp2
  go_ret2
  exact ⟨_, by rw [EF.out]; rfl, by rw [EN.out]; exact HR.out, Below.refl _ _⟩

set_option maxRecDepth 100000 in
set_option maxHeartbeats 400000 in
theorem step_2_1 (w : World) (lo : Nat) (v : Value) (o : List Int) (hr : Row w lo v o) (hl : o.length ≤ 1000000) (hlo : lo ≤ w.heap.size) (hm : o.length = 0 + 1) :
    Calls Tryz.prog 152 #[v, .int .i64 2] w (StepOf w lo o 2) := by
  have HR := Lib.hid hr
  have HI := Lib.hid (row_ints hr)
  have EF : Hid (fitB o 2 = true) := Lib.hid rfl
  have EN : Hid (nextO o 2 = o) := Lib.hid rfl
  obtain ⟨ad, c, rfl, hx⟩ := ints_top (row_ints hr) hm
  have HC : Hid (Row w lo (.slice (some ad) 0 c) (o.take 0)) := Lib.hid (row_cut hr (by omega))
  have HD : Hid (o.dropLast = o.take 0) := Lib.hid (drop_of hm)
  have hcap := row_room hr
  rw [Addr.add_zero'] at hx
  have z1 : IntKind.i64.wrap (((0 + 1 : Nat) : Int) - 1) = 0 := by decide
  have HL := Lib.hid hm
  have TL : Hid ((o.take 0).length = 0) := Lib.hid (by rw [List.length_take]; omega)
  generalize topO o = t at *
  clear hr hl hm
  go_enter Tryz.func152, Tryz.ntmps152
  go_wp2
  go_ret2
  exact ⟨_, by rw [EF.out]; rfl, by rw [EN.out]; exact HR.out, Below.refl _ _⟩

set_option maxRecDepth 100000 in
set_option maxHeartbeats 400000 in
theorem step_2_2 (w : World) (lo : Nat) (v : Value) (o : List Int) (hr : Row w lo v o) (hl : o.length ≤ 1000000) (hlo : lo ≤ w.heap.size) (m : Nat) (hm : o.length = m + 1) (hp : 0 < m) :
    Calls Tryz.prog 152 #[v, .int .i64 2] w (StepOf w lo o 2) := by
  have HR := Lib.hid hr
  have HI := Lib.hid (row_ints hr)
  have EF : Hid (fitB o 2 = true) := Lib.hid rfl
  have EN : Hid (nextO o 2 = o) := Lib.hid rfl
  obtain ⟨ad, c, rfl, hx⟩ := ints_top (row_ints hr) hm
  have HC : Hid (Row w lo (.slice (some ad) m c) (o.take m)) := Lib.hid (row_cut hr (by omega))
  have HD : Hid (o.dropLast = o.take m) := Lib.hid (drop_of hm)
  have hcap := row_room hr
  have hm2 : m ≤ 1000000 := by omega
  have z1 : IntKind.i64.wrap (((m + 1 : Nat) : Int) - 1) = (m : Int) := by rw [show ((m + 1 : Nat) : Int) - 1 = m by omega]; exact IntWalk.i64_in _ (by omega)
  have z2 : (0 : Int) < (m : Int) := by omega
  have z3 : (m : Int) < ((m + 1 : Nat) : Int) := by omega
  have z4 : (0 : Int) < ((m + 1 : Nat) : Int) := by omega
  have HL := Lib.hid hm
  have TL : Hid ((o.take m).length = m) := Lib.hid (by rw [List.length_take]; omega)
  generalize topO o = t at *
  clear hr hl hm
  go_enter Tryz.func152, Tryz.ntmps152
  go_wp2
  go_ret2
  exact ⟨_, by rw [EF.out]; rfl, by rw [EN.out]; exact HR.out, Below.refl _ _⟩

set_option maxRecDepth 100000 in
set_option maxHeartbeats 400000 in
theorem step_3_0 (w : World) (lo : Nat) (v : Value) (o : List Int) (hr : Row w lo v o) (hl : o.length ≤ 1000000) (hlo : lo ≤ w.heap.size) (h0 : o = []) :
    Calls Tryz.prog 152 #[v, .int .i64 3] w (StepOf w lo o 3) := by
  have HR := Lib.hid hr
  have HI := Lib.hid (row_ints hr)
  have EF : Hid (fitB o 3 = decide (o.length < 8)) := Lib.hid rfl
  have EN : Hid (nextO o 3 = o ++ [3]) := Lib.hid rfl
  subst h0
  obtain ⟨_, A, c, rfl, _⟩ := row_ints hr
  have HC : Hid (Row w lo (.slice A 0 c) ([] : List Int)) := Lib.hid hr
  have HD : Hid (([] : List Int).dropLast = []) := Lib.hid rfl
  have z1 : IntKind.i64.wrap (((0 : Nat) : Int) - 1) = -1 := by decide
  clear hr hl
  simp only [List.length_nil] at *
  go_enter Tryz.func152, Tryz.ntmps152
  go_wp2_with (first
    | (at_builtin; refine wpList_append_newL rfl (.tmp 22) (.tmp 23) rfl rfl _ rfl (by simp) (.slice A 0 c) [] rfl (row_ints HR.out) 0 (by exact rfl) (by omega) ?_
       intro B1 m1 w1 hr1 hb1
       have R1 := Lib.hid hr1
       have S1 := Lib.hid hb1
       have zz : w.heap.size ≤ w1.heap.size := hb1.size
       clear hr1 hb1)
    | (at_builtin; refine wpList_append_ints rfl (.tmp 24) (.tmp 26) rfl rfl w.heap.size (.slice B1 0 m1) [] (row_alloc R1.out _) _ [3] (ints_one _ _) rfl rfl (by have := (show ([] : List Int).length = 0 from rfl); simp <;> omega) (by simp <;> omega) ?_
       intro v2 w2 hr2 hg2 _
       have S2 : Hid (Below w.heap.size w w2) := Lib.hid ((below_alloc S1.out _).grown hg2 (by simp <;> omega) (fun k hk => (row_lt R1.out k hk).1))
       obtain ⟨_, C, j, hv, _⟩ := row_ints hr2
       rw [show (([] : List Int) ++ [(3 : Int)]).length = 0 + 1 by rw [List.length_append, List.length_nil, List.length_singleton]] at hv
       subst hv
       have R2 := Lib.hid hr2
       clear hr2 hg2))
  go_ret2
  exact ⟨_, by rw [EF.out]; rfl, by rw [EN.out]; exact row_base R2.out hlo, S2.out⟩

set_option maxRecDepth 100000 in
set_option maxHeartbeats 400000 in
theorem step_3_1 (w : World) (lo : Nat) (v : Value) (o : List Int) (hr : Row w lo v o) (hl : o.length ≤ 1000000) (hlo : lo ≤ w.heap.size) (hm : o.length = 0 + 1) :
    Calls Tryz.prog 152 #[v, .int .i64 3] w (StepOf w lo o 3) := by
  have HR := Lib.hid hr
  have HI := Lib.hid (row_ints hr)
  have EF : Hid (fitB o 3 = decide (o.length < 8)) := Lib.hid rfl
  have EN : Hid (nextO o 3 = o ++ [3]) := Lib.hid rfl
  obtain ⟨ad, c, rfl, hx⟩ := ints_top (row_ints hr) hm
  have HC : Hid (Row w lo (.slice (some ad) 0 c) (o.take 0)) := Lib.hid (row_cut hr (by omega))
  have HD : Hid (o.dropLast = o.take 0) := Lib.hid (drop_of hm)
  have hcap := row_room hr
  rw [Addr.add_zero'] at hx
  have z1 : IntKind.i64.wrap (((0 + 1 : Nat) : Int) - 1) = 0 := by decide
  have ED : Hid (decide (o.length < 8) = decide (((0 + 1 : Nat) : Int) < 8)) := Lib.hid (by simp only [decide_eq_decide]; omega)
  have HL := Lib.hid hm
  have TL : Hid ((o.take 0).length = 0) := Lib.hid (by rw [List.length_take]; omega)
  generalize topO o = t at *
  clear hr hl hm
  go_enter Tryz.func152, Tryz.ntmps152
  go_wp2_with (first
    | (at_builtin; refine wpList_append_newL rfl (.tmp 22) (.tmp 23) rfl rfl _ rfl (by simp) (.slice (some ad) (0 + 1) c) o rfl (row_ints HR.out) (0 + 1) (by exact HL.out) (by omega) ?_
       intro B1 m1 w1 hr1 hb1
       have R1 := Lib.hid hr1
       have S1 := Lib.hid hb1
       have zz : w.heap.size ≤ w1.heap.size := hb1.size
       clear hr1 hb1)
    | (at_builtin; refine wpList_append_ints rfl (.tmp 24) (.tmp 26) rfl rfl w.heap.size (.slice B1 (0 + 1) m1) o (row_alloc R1.out _) _ [3] (ints_one _ _) rfl rfl (by have := HL.out; simp <;> omega) (by simp <;> omega) ?_
       intro v2 w2 hr2 hg2 _
       have S2 : Hid (Below w.heap.size w w2) := Lib.hid ((below_alloc S1.out _).grown hg2 (by simp <;> omega) (fun k hk => (row_lt R1.out k hk).1))
       obtain ⟨_, C, j, hv, _⟩ := row_ints hr2
       rw [show ((o : List Int) ++ [(3 : Int)]).length = (0 + 1) + 1 by rw [List.length_append, HL.out, List.length_singleton]] at hv
       subst hv
       have R2 := Lib.hid hr2
       clear hr2 hg2))
  go_ret2
  exact ⟨_, by rw [EF.out, ED.out]; rfl, by rw [EN.out]; exact row_base R2.out hlo, S2.out⟩

set_option maxRecDepth 100000 in
set_option maxHeartbeats 400000 in
theorem step_3_2 (w : World) (lo : Nat) (v : Value) (o : List Int) (hr : Row w lo v o) (hl : o.length ≤ 1000000) (hlo : lo ≤ w.heap.size) (m : Nat) (hm : o.length = m + 1) (hp : 0 < m) :
    Calls Tryz.prog 152 #[v, .int .i64 3] w (StepOf w lo o 3) := by
  have HR := Lib.hid hr
  have HI := Lib.hid (row_ints hr)
  have EF : Hid (fitB o 3 = decide (o.length < 8)) := Lib.hid rfl
  have EN : Hid (nextO o 3 = o ++ [3]) := Lib.hid rfl
  obtain ⟨ad, c, rfl, hx⟩ := ints_top (row_ints hr) hm
  have HC : Hid (Row w lo (.slice (some ad) m c) (o.take m)) := Lib.hid (row_cut hr (by omega))
  have HD : Hid (o.dropLast = o.take m) := Lib.hid (drop_of hm)
  have hcap := row_room hr
  have hm2 : m ≤ 1000000 := by omega
  have z1 : IntKind.i64.wrap (((m + 1 : Nat) : Int) - 1) = (m : Int) := by rw [show ((m + 1 : Nat) : Int) - 1 = m by omega]; exact IntWalk.i64_in _ (by omega)
  have z2 : (0 : Int) < (m : Int) := by omega
  have z3 : (m : Int) < ((m + 1 : Nat) : Int) := by omega
  have z4 : (0 : Int) < ((m + 1 : Nat) : Int) := by omega
  have ED : Hid (decide (o.length < 8) = decide (((m + 1 : Nat) : Int) < 8)) := Lib.hid (by simp only [decide_eq_decide]; omega)
  have HL := Lib.hid hm
  have TL : Hid ((o.take m).length = m) := Lib.hid (by rw [List.length_take]; omega)
  generalize topO o = t at *
  clear hr hl hm
  go_enter Tryz.func152, Tryz.ntmps152
  go_wp2_with (first
    | (at_builtin; refine wpList_append_newL rfl (.tmp 22) (.tmp 23) rfl rfl _ rfl (by simp) (.slice (some ad) (m + 1) c) o rfl (row_ints HR.out) (m + 1) (by exact HL.out) (by omega) ?_
       intro B1 m1 w1 hr1 hb1
       have R1 := Lib.hid hr1
       have S1 := Lib.hid hb1
       have zz : w.heap.size ≤ w1.heap.size := hb1.size
       clear hr1 hb1)
    | (at_builtin; refine wpList_append_ints rfl (.tmp 24) (.tmp 26) rfl rfl w.heap.size (.slice B1 (m + 1) m1) o (row_alloc R1.out _) _ [3] (ints_one _ _) rfl rfl (by have := HL.out; simp <;> omega) (by simp <;> omega) ?_
       intro v2 w2 hr2 hg2 _
       have S2 : Hid (Below w.heap.size w w2) := Lib.hid ((below_alloc S1.out _).grown hg2 (by simp <;> omega) (fun k hk => (row_lt R1.out k hk).1))
       obtain ⟨_, C, j, hv, _⟩ := row_ints hr2
       rw [show ((o : List Int) ++ [(3 : Int)]).length = (m + 1) + 1 by rw [List.length_append, HL.out, List.length_singleton]] at hv
       subst hv
       have R2 := Lib.hid hr2
       clear hr2 hg2))
  go_ret2
  exact ⟨_, by rw [EF.out, ED.out]; rfl, by rw [EN.out]; exact row_base R2.out hlo, S2.out⟩

set_option maxRecDepth 100000 in
set_option maxHeartbeats 400000 in
theorem step_4_0 (w : World) (lo : Nat) (v : Value) (o : List Int) (hr : Row w lo v o) (hl : o.length ≤ 1000000) (hlo : lo ≤ w.heap.size) (h0 : o = []) :
    Calls Tryz.prog 152 #[v, .int .i64 4] w (StepOf w lo o 4) := by
  have HR := Lib.hid hr
  have HI := Lib.hid (row_ints hr)
  have EF : Hid (fitB o 4 = (topO o == 3)) := Lib.hid rfl
  have EN : Hid (nextO o 4 = o.dropLast ++ [4]) := Lib.hid rfl
  subst h0
  obtain ⟨_, A, c, rfl, _⟩ := row_ints hr
  have HC : Hid (Row w lo (.slice A 0 c) ([] : List Int)) := Lib.hid hr
  have HD : Hid (([] : List Int).dropLast = []) := Lib.hid rfl
  have z1 : IntKind.i64.wrap (((0 : Nat) : Int) - 1) = -1 := by decide
  clear hr hl
  simp only [List.length_nil] at *
  go_enter Tryz.func152, Tryz.ntmps152
  go_wp2_with (first
    | (at_builtin; refine wpList_append_newL rfl (.tmp 32) (.tmp 37) rfl rfl _ rfl (by simp) (.slice A 0 c) [] rfl (row_ints HC.out) 0 (by exact rfl) (by omega) ?_
       intro B1 m1 w1 hr1 hb1
       have R1 := Lib.hid hr1
       have S1 := Lib.hid hb1
       have zz : w.heap.size ≤ w1.heap.size := hb1.size
       clear hr1 hb1)
    | (at_builtin; refine wpList_append_ints rfl (.tmp 38) (.tmp 40) rfl rfl w.heap.size (.slice B1 0 m1) [] (row_alloc R1.out _) _ [4] (ints_one _ _) rfl rfl (by have := (show ([] : List Int).length = 0 from rfl); simp <;> omega) (by simp <;> omega) ?_
       intro v2 w2 hr2 hg2 _
       have S2 : Hid (Below w.heap.size w w2) := Lib.hid ((below_alloc S1.out _).grown hg2 (by simp <;> omega) (fun k hk => (row_lt R1.out k hk).1))
       obtain ⟨_, C, j, hv, _⟩ := row_ints hr2
       rw [show (([] : List Int) ++ [(4 : Int)]).length = 0 + 1 by rw [List.length_append, List.length_nil, List.length_singleton]] at hv
       subst hv
       have R2 := Lib.hid hr2
       clear hr2 hg2))
  go_ret2
  exact ⟨_, by rw [EF.out]; rfl, by rw [EN.out, HD.out]; exact row_base R2.out hlo, S2.out⟩

set_option maxRecDepth 100000 in
set_option maxHeartbeats 400000 in
theorem step_4_1 (w : World) (lo : Nat) (v : Value) (o : List Int) (hr : Row w lo v o) (hl : o.length ≤ 1000000) (hlo : lo ≤ w.heap.size) (hm : o.length = 0 + 1) :
    Calls Tryz.prog 152 #[v, .int .i64 4] w (StepOf w lo o 4) := by
  have HR := Lib.hid hr
  have HI := Lib.hid (row_ints hr)
  have EF : Hid (fitB o 4 = (topO o == 3)) := Lib.hid rfl
  have EN : Hid (nextO o 4 = o.dropLast ++ [4]) := Lib.hid rfl
  obtain ⟨ad, c, rfl, hx⟩ := ints_top (row_ints hr) hm
  have HC : Hid (Row w lo (.slice (some ad) 0 c) (o.take 0)) := Lib.hid (row_cut hr (by omega))
  have HD : Hid (o.dropLast = o.take 0) := Lib.hid (drop_of hm)
  have hcap := row_room hr
  rw [Addr.add_zero'] at hx
  have z1 : IntKind.i64.wrap (((0 + 1 : Nat) : Int) - 1) = 0 := by decide
  have HL := Lib.hid hm
  have TL : Hid ((o.take 0).length = 0) := Lib.hid (by rw [List.length_take]; omega)
  generalize topO o = t at *
  clear hr hl hm
  go_enter Tryz.func152, Tryz.ntmps152
  go_wp2_with (first
    | (at_builtin; refine wpList_append_newL rfl (.tmp 32) (.tmp 37) rfl rfl _ rfl (by simp) (.slice (some ad) 0 c) (o.take 0) rfl (row_ints HC.out) 0 (by exact TL.out) (by omega) ?_
       intro B1 m1 w1 hr1 hb1
       have R1 := Lib.hid hr1
       have S1 := Lib.hid hb1
       have zz : w.heap.size ≤ w1.heap.size := hb1.size
       clear hr1 hb1)
    | (at_builtin; refine wpList_append_ints rfl (.tmp 38) (.tmp 40) rfl rfl w.heap.size (.slice B1 0 m1) (o.take 0) (row_alloc R1.out _) _ [4] (ints_one _ _) rfl rfl (by have := TL.out; simp <;> omega) (by simp <;> omega) ?_
       intro v2 w2 hr2 hg2 _
       have S2 : Hid (Below w.heap.size w w2) := Lib.hid ((below_alloc S1.out _).grown hg2 (by simp <;> omega) (fun k hk => (row_lt R1.out k hk).1))
       obtain ⟨_, C, j, hv, _⟩ := row_ints hr2
       rw [show (((o.take 0) : List Int) ++ [(4 : Int)]).length = 0 + 1 by rw [List.length_append, TL.out, List.length_singleton]] at hv
       subst hv
       have R2 := Lib.hid hr2
       clear hr2 hg2))
  go_ret2
  exact ⟨_, by rw [EF.out]; rfl, by rw [EN.out, HD.out]; exact row_base R2.out hlo, S2.out⟩

set_option maxRecDepth 100000 in
set_option maxHeartbeats 400000 in
theorem step_4_2 (w : World) (lo : Nat) (v : Value) (o : List Int) (hr : Row w lo v o) (hl : o.length ≤ 1000000) (hlo : lo ≤ w.heap.size) (m : Nat) (hm : o.length = m + 1) (hp : 0 < m) :
    Calls Tryz.prog 152 #[v, .int .i64 4] w (StepOf w lo o 4) := by
  have HR := Lib.hid hr
  have HI := Lib.hid (row_ints hr)
  have EF : Hid (fitB o 4 = (topO o == 3)) := Lib.hid rfl
  have EN : Hid (nextO o 4 = o.dropLast ++ [4]) := Lib.hid rfl
  obtain ⟨ad, c, rfl, hx⟩ := ints_top (row_ints hr) hm
  have HC : Hid (Row w lo (.slice (some ad) m c) (o.take m)) := Lib.hid (row_cut hr (by omega))
  have HD : Hid (o.dropLast = o.take m) := Lib.hid (drop_of hm)
  have hcap := row_room hr
  have hm2 : m ≤ 1000000 := by omega
  have z1 : IntKind.i64.wrap (((m + 1 : Nat) : Int) - 1) = (m : Int) := by rw [show ((m + 1 : Nat) : Int) - 1 = m by omega]; exact IntWalk.i64_in _ (by omega)
  have z2 : (0 : Int) < (m : Int) := by omega
  have z3 : (m : Int) < ((m + 1 : Nat) : Int) := by omega
  have z4 : (0 : Int) < ((m + 1 : Nat) : Int) := by omega
  have HL := Lib.hid hm
  have TL : Hid ((o.take m).length = m) := Lib.hid (by rw [List.length_take]; omega)
  generalize topO o = t at *
  clear hr hl hm
  go_enter Tryz.func152, Tryz.ntmps152
  go_wp2_with (first
    | (at_builtin; refine wpList_append_newL rfl (.tmp 32) (.tmp 37) rfl rfl _ rfl (by simp) (.slice (some ad) m c) (o.take m) rfl (row_ints HC.out) m (by exact TL.out) (by omega) ?_
       intro B1 m1 w1 hr1 hb1
       have R1 := Lib.hid hr1
       have S1 := Lib.hid hb1
       have zz : w.heap.size ≤ w1.heap.size := hb1.size
       clear hr1 hb1)
    | (at_builtin; refine wpList_append_ints rfl (.tmp 38) (.tmp 40) rfl rfl w.heap.size (.slice B1 m m1) (o.take m) (row_alloc R1.out _) _ [4] (ints_one _ _) rfl rfl (by have := TL.out; simp <;> omega) (by simp <;> omega) ?_
       intro v2 w2 hr2 hg2 _
       have S2 : Hid (Below w.heap.size w w2) := Lib.hid ((below_alloc S1.out _).grown hg2 (by simp <;> omega) (fun k hk => (row_lt R1.out k hk).1))
       obtain ⟨_, C, j, hv, _⟩ := row_ints hr2
       rw [show (((o.take m) : List Int) ++ [(4 : Int)]).length = m + 1 by rw [List.length_append, TL.out, List.length_singleton]] at hv
       subst hv
       have R2 := Lib.hid hr2
       clear hr2 hg2))
  go_ret2
  exact ⟨_, by rw [EF.out]; rfl, by rw [EN.out, HD.out]; exact row_base R2.out hlo, S2.out⟩

set_option maxRecDepth 100000 in
set_option maxHeartbeats 400000 in
theorem step_5_0 (w : World) (lo : Nat) (v : Value) (o : List Int) (hr : Row w lo v o) (hl : o.length ≤ 1000000) (hlo : lo ≤ w.heap.size) (h0 : o = []) :
    Calls Tryz.prog 152 #[v, .int .i64 5] w (StepOf w lo o 5) := by
  have HR := Lib.hid hr
  have HI := Lib.hid (row_ints hr)
  have EF : Hid (fitB o 5 = (topO o == 3 || topO o == 4)) := Lib.hid rfl
  have EN : Hid (nextO o 5 = o.dropLast) := Lib.hid rfl
  subst h0
  obtain ⟨_, A, c, rfl, _⟩ := row_ints hr
  have HC : Hid (Row w lo (.slice A 0 c) ([] : List Int)) := Lib.hid hr
  have HD : Hid (([] : List Int).dropLast = []) := Lib.hid rfl
  have z1 : IntKind.i64.wrap (((0 : Nat) : Int) - 1) = -1 := by decide
  clear hr hl
  simp only [List.length_nil] at *
  go_enter Tryz.func152, Tryz.ntmps152
  go_wp2
  go_ret2
  exact ⟨_, by rw [EF.out]; rfl, by rw [EN.out, HD.out]; exact HC.out, Below.refl _ _⟩

set_option maxRecDepth 100000 in
set_option maxHeartbeats 400000 in
theorem step_5_1 (w : World) (lo : Nat) (v : Value) (o : List Int) (hr : Row w lo v o) (hl : o.length ≤ 1000000) (hlo : lo ≤ w.heap.size) (hm : o.length = 0 + 1) :
    Calls Tryz.prog 152 #[v, .int .i64 5] w (StepOf w lo o 5) := by
  have HR := Lib.hid hr
  have HI := Lib.hid (row_ints hr)
  have EF : Hid (fitB o 5 = (topO o == 3 || topO o == 4)) := Lib.hid rfl
  have EN : Hid (nextO o 5 = o.dropLast) := Lib.hid rfl
  obtain ⟨ad, c, rfl, hx⟩ := ints_top (row_ints hr) hm
  have HC : Hid (Row w lo (.slice (some ad) 0 c) (o.take 0)) := Lib.hid (row_cut hr (by omega))
  have HD : Hid (o.dropLast = o.take 0) := Lib.hid (drop_of hm)
  have hcap := row_room hr
  rw [Addr.add_zero'] at hx
  have z1 : IntKind.i64.wrap (((0 + 1 : Nat) : Int) - 1) = 0 := by decide
  have HL := Lib.hid hm
  have TL : Hid ((o.take 0).length = 0) := Lib.hid (by rw [List.length_take]; omega)
  generalize topO o = t at *
  clear hr hl hm
  go_enter Tryz.func152, Tryz.ntmps152
  go_wp2
  all_goals
    go_ret2
    exact ⟨_, by rw [EF.out]; exact ret_vb (by simp [*]), by rw [EN.out, HD.out]; exact HC.out, Below.refl _ _⟩

set_option maxRecDepth 100000 in
set_option maxHeartbeats 400000 in
theorem step_5_2 (w : World) (lo : Nat) (v : Value) (o : List Int) (hr : Row w lo v o) (hl : o.length ≤ 1000000) (hlo : lo ≤ w.heap.size) (m : Nat) (hm : o.length = m + 1) (hp : 0 < m) :
    Calls Tryz.prog 152 #[v, .int .i64 5] w (StepOf w lo o 5) := by
  have HR := Lib.hid hr
  have HI := Lib.hid (row_ints hr)
  have EF : Hid (fitB o 5 = (topO o == 3 || topO o == 4)) := Lib.hid rfl
  have EN : Hid (nextO o 5 = o.dropLast) := Lib.hid rfl
  obtain ⟨ad, c, rfl, hx⟩ := ints_top (row_ints hr) hm
  have HC : Hid (Row w lo (.slice (some ad) m c) (o.take m)) := Lib.hid (row_cut hr (by omega))
  have HD : Hid (o.dropLast = o.take m) := Lib.hid (drop_of hm)
  have hcap := row_room hr
  have hm2 : m ≤ 1000000 := by omega
  have z1 : IntKind.i64.wrap (((m + 1 : Nat) : Int) - 1) = (m : Int) := by rw [show ((m + 1 : Nat) : Int) - 1 = m by omega]; exact IntWalk.i64_in _ (by omega)
  have z2 : (0 : Int) < (m : Int) := by omega
  have z3 : (m : Int) < ((m + 1 : Nat) : Int) := by omega
  have z4 : (0 : Int) < ((m + 1 : Nat) : Int) := by omega
  have HL := Lib.hid hm
  have TL : Hid ((o.take m).length = m) := Lib.hid (by rw [List.length_take]; omega)
  generalize topO o = t at *
  clear hr hl hm
  go_enter Tryz.func152, Tryz.ntmps152
  go_wp2
  all_goals
    go_ret2
    exact ⟨_, by rw [EF.out]; exact ret_vb (by simp [*]), by rw [EN.out, HD.out]; exact HC.out, Below.refl _ _⟩

set_option maxRecDepth 100000 in
set_option maxHeartbeats 400000 in
theorem step_6_0 (w : World) (lo : Nat) (v : Value) (o : List Int) (hr : Row w lo v o) (hl : o.length ≤ 1000000) (hlo : lo ≤ w.heap.size) (h0 : o = []) :
    Calls Tryz.prog 152 #[v, .int .i64 6] w (StepOf w lo o 6) := by
  have HR := Lib.hid hr
  have HI := Lib.hid (row_ints hr)
  have EF : Hid (fitB o 6 = decide (o.length < 8)) := Lib.hid rfl
  have EN : Hid (nextO o 6 = o ++ [6]) := Lib.hid rfl
  subst h0
  obtain ⟨_, A, c, rfl, _⟩ := row_ints hr
  have HC : Hid (Row w lo (.slice A 0 c) ([] : List Int)) := Lib.hid hr
  have HD : Hid (([] : List Int).dropLast = []) := Lib.hid rfl
  have z1 : IntKind.i64.wrap (((0 : Nat) : Int) - 1) = -1 := by decide
  clear hr hl
  simp only [List.length_nil] at *
  go_enter Tryz.func152, Tryz.ntmps152
  go_wp2_with (first
    | (at_builtin; refine wpList_append_newL rfl (.tmp 22) (.tmp 23) rfl rfl _ rfl (by simp) (.slice A 0 c) [] rfl (row_ints HR.out) 0 (by exact rfl) (by omega) ?_
       intro B1 m1 w1 hr1 hb1
       have R1 := Lib.hid hr1
       have S1 := Lib.hid hb1
       have zz : w.heap.size ≤ w1.heap.size := hb1.size
       clear hr1 hb1)
    | (at_builtin; refine wpList_append_ints rfl (.tmp 24) (.tmp 26) rfl rfl w.heap.size (.slice B1 0 m1) [] (row_alloc R1.out _) _ [6] (ints_one _ _) rfl rfl (by have := (show ([] : List Int).length = 0 from rfl); simp <;> omega) (by simp <;> omega) ?_
       intro v2 w2 hr2 hg2 _
       have S2 : Hid (Below w.heap.size w w2) := Lib.hid ((below_alloc S1.out _).grown hg2 (by simp <;> omega) (fun k hk => (row_lt R1.out k hk).1))
       obtain ⟨_, C, j, hv, _⟩ := row_ints hr2
       rw [show (([] : List Int) ++ [(6 : Int)]).length = 0 + 1 by rw [List.length_append, List.length_nil, List.length_singleton]] at hv
       subst hv
       have R2 := Lib.hid hr2
       clear hr2 hg2))
  go_ret2
  exact ⟨_, by rw [EF.out]; rfl, by rw [EN.out]; exact row_base R2.out hlo, S2.out⟩

set_option maxRecDepth 100000 in
set_option maxHeartbeats 400000 in
theorem step_6_1 (w : World) (lo : Nat) (v : Value) (o : List Int) (hr : Row w lo v o) (hl : o.length ≤ 1000000) (hlo : lo ≤ w.heap.size) (hm : o.length = 0 + 1) :
    Calls Tryz.prog 152 #[v, .int .i64 6] w (StepOf w lo o 6) := by
  have HR := Lib.hid hr
  have HI := Lib.hid (row_ints hr)
  have EF : Hid (fitB o 6 = decide (o.length < 8)) := Lib.hid rfl
  have EN : Hid (nextO o 6 = o ++ [6]) := Lib.hid rfl
  obtain ⟨ad, c, rfl, hx⟩ := ints_top (row_ints hr) hm
  have HC : Hid (Row w lo (.slice (some ad) 0 c) (o.take 0)) := Lib.hid (row_cut hr (by omega))
  have HD : Hid (o.dropLast = o.take 0) := Lib.hid (drop_of hm)
  have hcap := row_room hr
  rw [Addr.add_zero'] at hx
  have z1 : IntKind.i64.wrap (((0 + 1 : Nat) : Int) - 1) = 0 := by decide
  have ED : Hid (decide (o.length < 8) = decide (((0 + 1 : Nat) : Int) < 8)) := Lib.hid (by simp only [decide_eq_decide]; omega)
  have HL := Lib.hid hm
  have TL : Hid ((o.take 0).length = 0) := Lib.hid (by rw [List.length_take]; omega)
  generalize topO o = t at *
  clear hr hl hm
  go_enter Tryz.func152, Tryz.ntmps152
  go_wp2_with (first
    | (at_builtin; refine wpList_append_newL rfl (.tmp 22) (.tmp 23) rfl rfl _ rfl (by simp) (.slice (some ad) (0 + 1) c) o rfl (row_ints HR.out) (0 + 1) (by exact HL.out) (by omega) ?_
       intro B1 m1 w1 hr1 hb1
       have R1 := Lib.hid hr1
       have S1 := Lib.hid hb1
       have zz : w.heap.size ≤ w1.heap.size := hb1.size
       clear hr1 hb1)
    | (at_builtin; refine wpList_append_ints rfl (.tmp 24) (.tmp 26) rfl rfl w.heap.size (.slice B1 (0 + 1) m1) o (row_alloc R1.out _) _ [6] (ints_one _ _) rfl rfl (by have := HL.out; simp <;> omega) (by simp <;> omega) ?_
       intro v2 w2 hr2 hg2 _
       have S2 : Hid (Below w.heap.size w w2) := Lib.hid ((below_alloc S1.out _).grown hg2 (by simp <;> omega) (fun k hk => (row_lt R1.out k hk).1))
       obtain ⟨_, C, j, hv, _⟩ := row_ints hr2
       rw [show ((o : List Int) ++ [(6 : Int)]).length = (0 + 1) + 1 by rw [List.length_append, HL.out, List.length_singleton]] at hv
       subst hv
       have R2 := Lib.hid hr2
       clear hr2 hg2))
  go_ret2
  exact ⟨_, by rw [EF.out, ED.out]; rfl, by rw [EN.out]; exact row_base R2.out hlo, S2.out⟩

set_option maxRecDepth 100000 in
set_option maxHeartbeats 400000 in
theorem step_6_2 (w : World) (lo : Nat) (v : Value) (o : List Int) (hr : Row w lo v o) (hl : o.length ≤ 1000000) (hlo : lo ≤ w.heap.size) (m : Nat) (hm : o.length = m + 1) (hp : 0 < m) :
    Calls Tryz.prog 152 #[v, .int .i64 6] w (StepOf w lo o 6) := by
  have HR := Lib.hid hr
  have HI := Lib.hid (row_ints hr)
  have EF : Hid (fitB o 6 = decide (o.length < 8)) := Lib.hid rfl
  have EN : Hid (nextO o 6 = o ++ [6]) := Lib.hid rfl
  obtain ⟨ad, c, rfl, hx⟩ := ints_top (row_ints hr) hm
  have HC : Hid (Row w lo (.slice (some ad) m c) (o.take m)) := Lib.hid (row_cut hr (by omega))
  have HD : Hid (o.dropLast = o.take m) := Lib.hid (drop_of hm)
  have hcap := row_room hr
  have hm2 : m ≤ 1000000 := by omega
  have z1 : IntKind.i64.wrap (((m + 1 : Nat) : Int) - 1) = (m : Int) := by rw [show ((m + 1 : Nat) : Int) - 1 = m by omega]; exact IntWalk.i64_in _ (by omega)
  have z2 : (0 : Int) < (m : Int) := by omega
  have z3 : (m : Int) < ((m + 1 : Nat) : Int) := by omega
  have z4 : (0 : Int) < ((m + 1 : Nat) : Int) := by omega
  have ED : Hid (decide (o.length < 8) = decide (((m + 1 : Nat) : Int) < 8)) := Lib.hid (by simp only [decide_eq_decide]; omega)
  have HL := Lib.hid hm
  have TL : Hid ((o.take m).length = m) := Lib.hid (by rw [List.length_take]; omega)
  generalize topO o = t at *
  clear hr hl hm
  go_enter Tryz.func152, Tryz.ntmps152
  go_wp2_with (first
    | (at_builtin; refine wpList_append_newL rfl (.tmp 22) (.tmp 23) rfl rfl _ rfl (by simp) (.slice (some ad) (m + 1) c) o rfl (row_ints HR.out) (m + 1) (by exact HL.out) (by omega) ?_
       intro B1 m1 w1 hr1 hb1
       have R1 := Lib.hid hr1
       have S1 := Lib.hid hb1
       have zz : w.heap.size ≤ w1.heap.size := hb1.size
       clear hr1 hb1)
    | (at_builtin; refine wpList_append_ints rfl (.tmp 24) (.tmp 26) rfl rfl w.heap.size (.slice B1 (m + 1) m1) o (row_alloc R1.out _) _ [6] (ints_one _ _) rfl rfl (by have := HL.out; simp <;> omega) (by simp <;> omega) ?_
       intro v2 w2 hr2 hg2 _
       have S2 : Hid (Below w.heap.size w w2) := Lib.hid ((below_alloc S1.out _).grown hg2 (by simp <;> omega) (fun k hk => (row_lt R1.out k hk).1))
       obtain ⟨_, C, j, hv, _⟩ := row_ints hr2
       rw [show ((o : List Int) ++ [(6 : Int)]).length = (m + 1) + 1 by rw [List.length_append, HL.out, List.length_singleton]] at hv
       subst hv
       have R2 := Lib.hid hr2
       clear hr2 hg2))
  go_ret2
  exact ⟨_, by rw [EF.out, ED.out]; rfl, by rw [EN.out]; exact row_base R2.out hlo, S2.out⟩

set_option maxRecDepth 100000 in
set_option maxHeartbeats 400000 in
theorem step_7_0 (w : World) (lo : Nat) (v : Value) (o : List Int) (hr : Row w lo v o) (hl : o.length ≤ 1000000) (hlo : lo ≤ w.heap.size) (h0 : o = []) :
    Calls Tryz.prog 152 #[v, .int .i64 7] w (StepOf w lo o 7) := by
  have HR := Lib.hid hr
  have HI := Lib.hid (row_ints hr)
  have EF : Hid (fitB o 7 = (topO o == 6)) := Lib.hid rfl
  have EN : Hid (nextO o 7 = o.dropLast) := Lib.hid rfl
  subst h0
  obtain ⟨_, A, c, rfl, _⟩ := row_ints hr
  have HC : Hid (Row w lo (.slice A 0 c) ([] : List Int)) := Lib.hid hr
  have HD : Hid (([] : List Int).dropLast = []) := Lib.hid rfl
  have z1 : IntKind.i64.wrap (((0 : Nat) : Int) - 1) = -1 := by decide
  clear hr hl
  simp only [List.length_nil] at *
  go_enter Tryz.func152, Tryz.ntmps152
  go_wp2
  go_ret2
  exact ⟨_, by rw [EF.out]; rfl, by rw [EN.out, HD.out]; exact HC.out, Below.refl _ _⟩

set_option maxRecDepth 100000 in
set_option maxHeartbeats 400000 in
theorem step_7_1 (w : World) (lo : Nat) (v : Value) (o : List Int) (hr : Row w lo v o) (hl : o.length ≤ 1000000) (hlo : lo ≤ w.heap.size) (hm : o.length = 0 + 1) :
    Calls Tryz.prog 152 #[v, .int .i64 7] w (StepOf w lo o 7) := by
  have HR := Lib.hid hr
  have HI := Lib.hid (row_ints hr)
  have EF : Hid (fitB o 7 = (topO o == 6)) := Lib.hid rfl
  have EN : Hid (nextO o 7 = o.dropLast) := Lib.hid rfl
  obtain ⟨ad, c, rfl, hx⟩ := ints_top (row_ints hr) hm
  have HC : Hid (Row w lo (.slice (some ad) 0 c) (o.take 0)) := Lib.hid (row_cut hr (by omega))
  have HD : Hid (o.dropLast = o.take 0) := Lib.hid (drop_of hm)
  have hcap := row_room hr
  rw [Addr.add_zero'] at hx
  have z1 : IntKind.i64.wrap (((0 + 1 : Nat) : Int) - 1) = 0 := by decide
  have HL := Lib.hid hm
  have TL : Hid ((o.take 0).length = 0) := Lib.hid (by rw [List.length_take]; omega)
  generalize topO o = t at *
  clear hr hl hm
  go_enter Tryz.func152, Tryz.ntmps152
  go_wp2
  go_ret2
  exact ⟨_, by rw [EF.out]; rfl, by rw [EN.out, HD.out]; exact HC.out, Below.refl _ _⟩

set_option maxRecDepth 100000 in
set_option maxHeartbeats 400000 in
theorem step_7_2 (w : World) (lo : Nat) (v : Value) (o : List Int) (hr : Row w lo v o) (hl : o.length ≤ 1000000) (hlo : lo ≤ w.heap.size) (m : Nat) (hm : o.length = m + 1) (hp : 0 < m) :
    Calls Tryz.prog 152 #[v, .int .i64 7] w (StepOf w lo o 7) := by
  have HR := Lib.hid hr
  have HI := Lib.hid (row_ints hr)
  have EF : Hid (fitB o 7 = (topO o == 6)) := Lib.hid rfl
  have EN : Hid (nextO o 7 = o.dropLast) := Lib.hid rfl
  obtain ⟨ad, c, rfl, hx⟩ := ints_top (row_ints hr) hm
  have HC : Hid (Row w lo (.slice (some ad) m c) (o.take m)) := Lib.hid (row_cut hr (by omega))
  have HD : Hid (o.dropLast = o.take m) := Lib.hid (drop_of hm)
  have hcap := row_room hr
  have hm2 : m ≤ 1000000 := by omega
  have z1 : IntKind.i64.wrap (((m + 1 : Nat) : Int) - 1) = (m : Int) := by rw [show ((m + 1 : Nat) : Int) - 1 = m by omega]; exact IntWalk.i64_in _ (by omega)
  have z2 : (0 : Int) < (m : Int) := by omega
  have z3 : (m : Int) < ((m + 1 : Nat) : Int) := by omega
  have z4 : (0 : Int) < ((m + 1 : Nat) : Int) := by omega
  have HL := Lib.hid hm
  have TL : Hid ((o.take m).length = m) := Lib.hid (by rw [List.length_take]; omega)
  generalize topO o = t at *
  clear hr hl hm
  go_enter Tryz.func152, Tryz.ntmps152
  go_wp2
  go_ret2
  exact ⟨_, by rw [EF.out]; rfl, by rw [EN.out, HD.out]; exact HC.out, Below.refl _ _⟩

set_option maxRecDepth 100000 in
set_option maxHeartbeats 400000 in
theorem step_8_0 (w : World) (lo : Nat) (v : Value) (o : List Int) (hr : Row w lo v o) (hl : o.length ≤ 1000000) (hlo : lo ≤ w.heap.size) (h0 : o = []) :
    Calls Tryz.prog 152 #[v, .int .i64 8] w (StepOf w lo o 8) := by
  have HR := Lib.hid hr
  have HI := Lib.hid (row_ints hr)
  have EF : Hid (fitB o 8 = (topO o == 6)) := Lib.hid rfl
  have EN : Hid (nextO o 8 = o.dropLast ++ [8]) := Lib.hid rfl
  subst h0
  obtain ⟨_, A, c, rfl, _⟩ := row_ints hr
  have HC : Hid (Row w lo (.slice A 0 c) ([] : List Int)) := Lib.hid hr
  have HD : Hid (([] : List Int).dropLast = []) := Lib.hid rfl
  have z1 : IntKind.i64.wrap (((0 : Nat) : Int) - 1) = -1 := by decide
  clear hr hl
  simp only [List.length_nil] at *
  go_enter Tryz.func152, Tryz.ntmps152
  go_wp2_with (first
    | (at_builtin; refine wpList_append_newL rfl (.tmp 46) (.tmp 51) rfl rfl _ rfl (by simp) (.slice A 0 c) [] rfl (row_ints HC.out) 0 (by exact rfl) (by omega) ?_
       intro B1 m1 w1 hr1 hb1
       have R1 := Lib.hid hr1
       have S1 := Lib.hid hb1
       have zz : w.heap.size ≤ w1.heap.size := hb1.size
       clear hr1 hb1)
    | (at_builtin; refine wpList_append_ints rfl (.tmp 52) (.tmp 54) rfl rfl w.heap.size (.slice B1 0 m1) [] (row_alloc R1.out _) _ [8] (ints_one _ _) rfl rfl (by have := (show ([] : List Int).length = 0 from rfl); simp <;> omega) (by simp <;> omega) ?_
       intro v2 w2 hr2 hg2 _
       have S2 : Hid (Below w.heap.size w w2) := Lib.hid ((below_alloc S1.out _).grown hg2 (by simp <;> omega) (fun k hk => (row_lt R1.out k hk).1))
       obtain ⟨_, C, j, hv, _⟩ := row_ints hr2
       rw [show (([] : List Int) ++ [(8 : Int)]).length = 0 + 1 by rw [List.length_append, List.length_nil, List.length_singleton]] at hv
       subst hv
       have R2 := Lib.hid hr2
       clear hr2 hg2))
  go_ret2
  exact ⟨_, by rw [EF.out]; rfl, by rw [EN.out, HD.out]; exact row_base R2.out hlo, S2.out⟩

set_option maxRecDepth 100000 in
set_option maxHeartbeats 400000 in
theorem step_8_1 (w : World) (lo : Nat) (v : Value) (o : List Int) (hr : Row w lo v o) (hl : o.length ≤ 1000000) (hlo : lo ≤ w.heap.size) (hm : o.length = 0 + 1) :
    Calls Tryz.prog 152 #[v, .int .i64 8] w (StepOf w lo o 8) := by
  have HR := Lib.hid hr
  have HI := Lib.hid (row_ints hr)
  have EF : Hid (fitB o 8 = (topO o == 6)) := Lib.hid rfl
  have EN : Hid (nextO o 8 = o.dropLast ++ [8]) := Lib.hid rfl
  obtain ⟨ad, c, rfl, hx⟩ := ints_top (row_ints hr) hm
  have HC : Hid (Row w lo (.slice (some ad) 0 c) (o.take 0)) := Lib.hid (row_cut hr (by omega))
  have HD : Hid (o.dropLast = o.take 0) := Lib.hid (drop_of hm)
  have hcap := row_room hr
  rw [Addr.add_zero'] at hx
  have z1 : IntKind.i64.wrap (((0 + 1 : Nat) : Int) - 1) = 0 := by decide
  have HL := Lib.hid hm
  have TL : Hid ((o.take 0).length = 0) := Lib.hid (by rw [List.length_take]; omega)
  generalize topO o = t at *
  clear hr hl hm
  go_enter Tryz.func152, Tryz.ntmps152
  go_wp2_with (first
    | (at_builtin; refine wpList_append_newL rfl (.tmp 46) (.tmp 51) rfl rfl _ rfl (by simp) (.slice (some ad) 0 c) (o.take 0) rfl (row_ints HC.out) 0 (by exact TL.out) (by omega) ?_
       intro B1 m1 w1 hr1 hb1
       have R1 := Lib.hid hr1
       have S1 := Lib.hid hb1
       have zz : w.heap.size ≤ w1.heap.size := hb1.size
       clear hr1 hb1)
    | (at_builtin; refine wpList_append_ints rfl (.tmp 52) (.tmp 54) rfl rfl w.heap.size (.slice B1 0 m1) (o.take 0) (row_alloc R1.out _) _ [8] (ints_one _ _) rfl rfl (by have := TL.out; simp <;> omega) (by simp <;> omega) ?_
       intro v2 w2 hr2 hg2 _
       have S2 : Hid (Below w.heap.size w w2) := Lib.hid ((below_alloc S1.out _).grown hg2 (by simp <;> omega) (fun k hk => (row_lt R1.out k hk).1))
       obtain ⟨_, C, j, hv, _⟩ := row_ints hr2
       rw [show (((o.take 0) : List Int) ++ [(8 : Int)]).length = 0 + 1 by rw [List.length_append, TL.out, List.length_singleton]] at hv
       subst hv
       have R2 := Lib.hid hr2
       clear hr2 hg2))
  go_ret2
  exact ⟨_, by rw [EF.out]; rfl, by rw [EN.out, HD.out]; exact row_base R2.out hlo, S2.out⟩

set_option maxRecDepth 100000 in
set_option maxHeartbeats 400000 in
theorem step_8_2 (w : World) (lo : Nat) (v : Value) (o : List Int) (hr : Row w lo v o) (hl : o.length ≤ 1000000) (hlo : lo ≤ w.heap.size) (m : Nat) (hm : o.length = m + 1) (hp : 0 < m) :
    Calls Tryz.prog 152 #[v, .int .i64 8] w (StepOf w lo o 8) := by
  have HR := Lib.hid hr
  have HI := Lib.hid (row_ints hr)
  have EF : Hid (fitB o 8 = (topO o == 6)) := Lib.hid rfl
  have EN : Hid (nextO o 8 = o.dropLast ++ [8]) := Lib.hid rfl
  obtain ⟨ad, c, rfl, hx⟩ := ints_top (row_ints hr) hm
  have HC : Hid (Row w lo (.slice (some ad) m c) (o.take m)) := Lib.hid (row_cut hr (by omega))
  have HD : Hid (o.dropLast = o.take m) := Lib.hid (drop_of hm)
  have hcap := row_room hr
  have hm2 : m ≤ 1000000 := by omega
  have z1 : IntKind.i64.wrap (((m + 1 : Nat) : Int) - 1) = (m : Int) := by rw [show ((m + 1 : Nat) : Int) - 1 = m by omega]; exact IntWalk.i64_in _ (by omega)
  have z2 : (0 : Int) < (m : Int) := by omega
  have z3 : (m : Int) < ((m + 1 : Nat) : Int) := by omega
  have z4 : (0 : Int) < ((m + 1 : Nat) : Int) := by omega
  have HL := Lib.hid hm
  have TL : Hid ((o.take m).length = m) := Lib.hid (by rw [List.length_take]; omega)
  generalize topO o = t at *
  clear hr hl hm
  go_enter Tryz.func152, Tryz.ntmps152
  go_wp2_with (first
    | (at_builtin; refine wpList_append_newL rfl (.tmp 46) (.tmp 51) rfl rfl _ rfl (by simp) (.slice (some ad) m c) (o.take m) rfl (row_ints HC.out) m (by exact TL.out) (by omega) ?_
       intro B1 m1 w1 hr1 hb1
       have R1 := Lib.hid hr1
       have S1 := Lib.hid hb1
       have zz : w.heap.size ≤ w1.heap.size := hb1.size
       clear hr1 hb1)
    | (at_builtin; refine wpList_append_ints rfl (.tmp 52) (.tmp 54) rfl rfl w.heap.size (.slice B1 m m1) (o.take m) (row_alloc R1.out _) _ [8] (ints_one _ _) rfl rfl (by have := TL.out; simp <;> omega) (by simp <;> omega) ?_
       intro v2 w2 hr2 hg2 _
       have S2 : Hid (Below w.heap.size w w2) := Lib.hid ((below_alloc S1.out _).grown hg2 (by simp <;> omega) (fun k hk => (row_lt R1.out k hk).1))
       obtain ⟨_, C, j, hv, _⟩ := row_ints hr2
       rw [show (((o.take m) : List Int) ++ [(8 : Int)]).length = m + 1 by rw [List.length_append, TL.out, List.length_singleton]] at hv
       subst hv
       have R2 := Lib.hid hr2
       clear hr2 hg2))
  go_ret2
  exact ⟨_, by rw [EF.out]; rfl, by rw [EN.out, HD.out]; exact row_base R2.out hlo, S2.out⟩

set_option maxRecDepth 100000 in
set_option maxHeartbeats 400000 in
theorem step_9_0 (w : World) (lo : Nat) (v : Value) (o : List Int) (hr : Row w lo v o) (hl : o.length ≤ 1000000) (hlo : lo ≤ w.heap.size) (h0 : o = []) :
    Calls Tryz.prog 152 #[v, .int .i64 9] w (StepOf w lo o 9) := by
  have HR := Lib.hid hr
  have HI := Lib.hid (row_ints hr)
  have EF : Hid (fitB o 9 = (topO o == 8)) := Lib.hid rfl
  have EN : Hid (nextO o 9 = o.dropLast) := Lib.hid rfl
  subst h0
  obtain ⟨_, A, c, rfl, _⟩ := row_ints hr
  have HC : Hid (Row w lo (.slice A 0 c) ([] : List Int)) := Lib.hid hr
  have HD : Hid (([] : List Int).dropLast = []) := Lib.hid rfl
  have z1 : IntKind.i64.wrap (((0 : Nat) : Int) - 1) = -1 := by decide
  clear hr hl
  simp only [List.length_nil] at *
  go_enter Tryz.func152, Tryz.ntmps152
  go_wp2
  go_ret2
  exact ⟨_, by rw [EF.out]; rfl, by rw [EN.out, HD.out]; exact HC.out, Below.refl _ _⟩

set_option maxRecDepth 100000 in
set_option maxHeartbeats 400000 in
theorem step_9_1 (w : World) (lo : Nat) (v : Value) (o : List Int) (hr : Row w lo v o) (hl : o.length ≤ 1000000) (hlo : lo ≤ w.heap.size) (hm : o.length = 0 + 1) :
    Calls Tryz.prog 152 #[v, .int .i64 9] w (StepOf w lo o 9) := by
  have HR := Lib.hid hr
  have HI := Lib.hid (row_ints hr)
  have EF : Hid (fitB o 9 = (topO o == 8)) := Lib.hid rfl
  have EN : Hid (nextO o 9 = o.dropLast) := Lib.hid rfl
  obtain ⟨ad, c, rfl, hx⟩ := ints_top (row_ints hr) hm
  have HC : Hid (Row w lo (.slice (some ad) 0 c) (o.take 0)) := Lib.hid (row_cut hr (by omega))
  have HD : Hid (o.dropLast = o.take 0) := Lib.hid (drop_of hm)
  have hcap := row_room hr
  rw [Addr.add_zero'] at hx
  have z1 : IntKind.i64.wrap (((0 + 1 : Nat) : Int) - 1) = 0 := by decide
  have HL := Lib.hid hm
  have TL : Hid ((o.take 0).length = 0) := Lib.hid (by rw [List.length_take]; omega)
  generalize topO o = t at *
  clear hr hl hm
  go_enter Tryz.func152, Tryz.ntmps152
  go_wp2
  go_ret2
  exact ⟨_, by rw [EF.out]; rfl, by rw [EN.out, HD.out]; exact HC.out, Below.refl _ _⟩

set_option maxRecDepth 100000 in
set_option maxHeartbeats 400000 in
theorem step_9_2 (w : World) (lo : Nat) (v : Value) (o : List Int) (hr : Row w lo v o) (hl : o.length ≤ 1000000) (hlo : lo ≤ w.heap.size) (m : Nat) (hm : o.length = m + 1) (hp : 0 < m) :
    Calls Tryz.prog 152 #[v, .int .i64 9] w (StepOf w lo o 9) := by
  have HR := Lib.hid hr
  have HI := Lib.hid (row_ints hr)
  have EF : Hid (fitB o 9 = (topO o == 8)) := Lib.hid rfl
  have EN : Hid (nextO o 9 = o.dropLast) := Lib.hid rfl
  obtain ⟨ad, c, rfl, hx⟩ := ints_top (row_ints hr) hm
  have HC : Hid (Row w lo (.slice (some ad) m c) (o.take m)) := Lib.hid (row_cut hr (by omega))
  have HD : Hid (o.dropLast = o.take m) := Lib.hid (drop_of hm)
  have hcap := row_room hr
  have hm2 : m ≤ 1000000 := by omega
  have z1 : IntKind.i64.wrap (((m + 1 : Nat) : Int) - 1) = (m : Int) := by rw [show ((m + 1 : Nat) : Int) - 1 = m by omega]; exact IntWalk.i64_in _ (by omega)
  have z2 : (0 : Int) < (m : Int) := by omega
  have z3 : (m : Int) < ((m + 1 : Nat) : Int) := by omega
  have z4 : (0 : Int) < ((m + 1 : Nat) : Int) := by omega
  have HL := Lib.hid hm
  have TL : Hid ((o.take m).length = m) := Lib.hid (by rw [List.length_take]; omega)
  generalize topO o = t at *
  clear hr hl hm
  go_enter Tryz.func152, Tryz.ntmps152
  go_wp2
  go_ret2
  exact ⟨_, by rw [EF.out]; rfl, by rw [EN.out, HD.out]; exact HC.out, Below.refl _ _⟩

set_option maxRecDepth 100000 in
set_option maxHeartbeats 400000 in
theorem step_10_0 (w : World) (lo : Nat) (v : Value) (o : List Int) (hr : Row w lo v o) (hl : o.length ≤ 1000000) (hlo : lo ≤ w.heap.size) (h0 : o = []) :
    Calls Tryz.prog 152 #[v, .int .i64 10] w (StepOf w lo o 10) := by
  have HR := Lib.hid hr
  have HI := Lib.hid (row_ints hr)
  have EF : Hid (fitB o 10 = decide (o.length < 8)) := Lib.hid rfl
  have EN : Hid (nextO o 10 = o ++ [10]) := Lib.hid rfl
  subst h0
  obtain ⟨_, A, c, rfl, _⟩ := row_ints hr
  have HC : Hid (Row w lo (.slice A 0 c) ([] : List Int)) := Lib.hid hr
  have HD : Hid (([] : List Int).dropLast = []) := Lib.hid rfl
  have z1 : IntKind.i64.wrap (((0 : Nat) : Int) - 1) = -1 := by decide
  clear hr hl
  simp only [List.length_nil] at *
  go_enter Tryz.func152, Tryz.ntmps152
  go_wp2_with (first
    | (at_builtin; refine wpList_append_newL rfl (.tmp 22) (.tmp 23) rfl rfl _ rfl (by simp) (.slice A 0 c) [] rfl (row_ints HR.out) 0 (by exact rfl) (by omega) ?_
       intro B1 m1 w1 hr1 hb1
       have R1 := Lib.hid hr1
       have S1 := Lib.hid hb1
       have zz : w.heap.size ≤ w1.heap.size := hb1.size
       clear hr1 hb1)
    | (at_builtin; refine wpList_append_ints rfl (.tmp 24) (.tmp 26) rfl rfl w.heap.size (.slice B1 0 m1) [] (row_alloc R1.out _) _ [10] (ints_one _ _) rfl rfl (by have := (show ([] : List Int).length = 0 from rfl); simp <;> omega) (by simp <;> omega) ?_
       intro v2 w2 hr2 hg2 _
       have S2 : Hid (Below w.heap.size w w2) := Lib.hid ((below_alloc S1.out _).grown hg2 (by simp <;> omega) (fun k hk => (row_lt R1.out k hk).1))
       obtain ⟨_, C, j, hv, _⟩ := row_ints hr2
       rw [show (([] : List Int) ++ [(10 : Int)]).length = 0 + 1 by rw [List.length_append, List.length_nil, List.length_singleton]] at hv
       subst hv
       have R2 := Lib.hid hr2
       clear hr2 hg2))
  go_ret2
  exact ⟨_, by rw [EF.out]; rfl, by rw [EN.out]; exact row_base R2.out hlo, S2.out⟩

set_option maxRecDepth 100000 in
set_option maxHeartbeats 400000 in
theorem step_10_1 (w : World) (lo : Nat) (v : Value) (o : List Int) (hr : Row w lo v o) (hl : o.length ≤ 1000000) (hlo : lo ≤ w.heap.size) (hm : o.length = 0 + 1) :
    Calls Tryz.prog 152 #[v, .int .i64 10] w (StepOf w lo o 10) := by
  have HR := Lib.hid hr
  have HI := Lib.hid (row_ints hr)
  have EF : Hid (fitB o 10 = decide (o.length < 8)) := Lib.hid rfl
  have EN : Hid (nextO o 10 = o ++ [10]) := Lib.hid rfl
  obtain ⟨ad, c, rfl, hx⟩ := ints_top (row_ints hr) hm
  have HC : Hid (Row w lo (.slice (some ad) 0 c) (o.take 0)) := Lib.hid (row_cut hr (by omega))
  have HD : Hid (o.dropLast = o.take 0) := Lib.hid (drop_of hm)
  have hcap := row_room hr
  rw [Addr.add_zero'] at hx
  have z1 : IntKind.i64.wrap (((0 + 1 : Nat) : Int) - 1) = 0 := by decide
  have ED : Hid (decide (o.length < 8) = decide (((0 + 1 : Nat) : Int) < 8)) := Lib.hid (by simp only [decide_eq_decide]; omega)
  have HL := Lib.hid hm
  have TL : Hid ((o.take 0).length = 0) := Lib.hid (by rw [List.length_take]; omega)
  generalize topO o = t at *
  clear hr hl hm
  go_enter Tryz.func152, Tryz.ntmps152
  go_wp2_with (first
    | (at_builtin; refine wpList_append_newL rfl (.tmp 22) (.tmp 23) rfl rfl _ rfl (by simp) (.slice (some ad) (0 + 1) c) o rfl (row_ints HR.out) (0 + 1) (by exact HL.out) (by omega) ?_
       intro B1 m1 w1 hr1 hb1
       have R1 := Lib.hid hr1
       have S1 := Lib.hid hb1
       have zz : w.heap.size ≤ w1.heap.size := hb1.size
       clear hr1 hb1)
    | (at_builtin; refine wpList_append_ints rfl (.tmp 24) (.tmp 26) rfl rfl w.heap.size (.slice B1 (0 + 1) m1) o (row_alloc R1.out _) _ [10] (ints_one _ _) rfl rfl (by have := HL.out; simp <;> omega) (by simp <;> omega) ?_
       intro v2 w2 hr2 hg2 _
       have S2 : Hid (Below w.heap.size w w2) := Lib.hid ((below_alloc S1.out _).grown hg2 (by simp <;> omega) (fun k hk => (row_lt R1.out k hk).1))
       obtain ⟨_, C, j, hv, _⟩ := row_ints hr2
       rw [show ((o : List Int) ++ [(10 : Int)]).length = (0 + 1) + 1 by rw [List.length_append, HL.out, List.length_singleton]] at hv
       subst hv
       have R2 := Lib.hid hr2
       clear hr2 hg2))
  go_ret2
  exact ⟨_, by rw [EF.out, ED.out]; rfl, by rw [EN.out]; exact row_base R2.out hlo, S2.out⟩

set_option maxRecDepth 100000 in
set_option maxHeartbeats 400000 in
theorem step_10_2 (w : World) (lo : Nat) (v : Value) (o : List Int) (hr : Row w lo v o) (hl : o.length ≤ 1000000) (hlo : lo ≤ w.heap.size) (m : Nat) (hm : o.length = m + 1) (hp : 0 < m) :
    Calls Tryz.prog 152 #[v, .int .i64 10] w (StepOf w lo o 10) := by
  have HR := Lib.hid hr
  have HI := Lib.hid (row_ints hr)
  have EF : Hid (fitB o 10 = decide (o.length < 8)) := Lib.hid rfl
  have EN : Hid (nextO o 10 = o ++ [10]) := Lib.hid rfl
  obtain ⟨ad, c, rfl, hx⟩ := ints_top (row_ints hr) hm
  have HC : Hid (Row w lo (.slice (some ad) m c) (o.take m)) := Lib.hid (row_cut hr (by omega))
  have HD : Hid (o.dropLast = o.take m) := Lib.hid (drop_of hm)
  have hcap := row_room hr
  have hm2 : m ≤ 1000000 := by omega
  have z1 : IntKind.i64.wrap (((m + 1 : Nat) : Int) - 1) = (m : Int) := by rw [show ((m + 1 : Nat) : Int) - 1 = m by omega]; exact IntWalk.i64_in _ (by omega)
  have z2 : (0 : Int) < (m : Int) := by omega
  have z3 : (m : Int) < ((m + 1 : Nat) : Int) := by omega
  have z4 : (0 : Int) < ((m + 1 : Nat) : Int) := by omega
  have ED : Hid (decide (o.length < 8) = decide (((m + 1 : Nat) : Int) < 8)) := Lib.hid (by simp only [decide_eq_decide]; omega)
  have HL := Lib.hid hm
  have TL : Hid ((o.take m).length = m) := Lib.hid (by rw [List.length_take]; omega)
  generalize topO o = t at *
  clear hr hl hm
  go_enter Tryz.func152, Tryz.ntmps152
  go_wp2_with (first
    | (at_builtin; refine wpList_append_newL rfl (.tmp 22) (.tmp 23) rfl rfl _ rfl (by simp) (.slice (some ad) (m + 1) c) o rfl (row_ints HR.out) (m + 1) (by exact HL.out) (by omega) ?_
       intro B1 m1 w1 hr1 hb1
       have R1 := Lib.hid hr1
       have S1 := Lib.hid hb1
       have zz : w.heap.size ≤ w1.heap.size := hb1.size
       clear hr1 hb1)
    | (at_builtin; refine wpList_append_ints rfl (.tmp 24) (.tmp 26) rfl rfl w.heap.size (.slice B1 (m + 1) m1) o (row_alloc R1.out _) _ [10] (ints_one _ _) rfl rfl (by have := HL.out; simp <;> omega) (by simp <;> omega) ?_
       intro v2 w2 hr2 hg2 _
       have S2 : Hid (Below w.heap.size w w2) := Lib.hid ((below_alloc S1.out _).grown hg2 (by simp <;> omega) (fun k hk => (row_lt R1.out k hk).1))
       obtain ⟨_, C, j, hv, _⟩ := row_ints hr2
       rw [show ((o : List Int) ++ [(10 : Int)]).length = (m + 1) + 1 by rw [List.length_append, HL.out, List.length_singleton]] at hv
       subst hv
       have R2 := Lib.hid hr2
       clear hr2 hg2))
  go_ret2
  exact ⟨_, by rw [EF.out, ED.out]; rfl, by rw [EN.out]; exact row_base R2.out hlo, S2.out⟩

set_option maxRecDepth 100000 in
set_option maxHeartbeats 400000 in
theorem step_11_0 (w : World) (lo : Nat) (v : Value) (o : List Int) (hr : Row w lo v o) (hl : o.length ≤ 1000000) (hlo : lo ≤ w.heap.size) (h0 : o = []) :
    Calls Tryz.prog 152 #[v, .int .i64 11] w (StepOf w lo o 11) := by
  have HR := Lib.hid hr
  have HI := Lib.hid (row_ints hr)
  have EF : Hid (fitB o 11 = (topO o == 10)) := Lib.hid rfl
  have EN : Hid (nextO o 11 = o.dropLast) := Lib.hid rfl
  subst h0
  obtain ⟨_, A, c, rfl, _⟩ := row_ints hr
  have HC : Hid (Row w lo (.slice A 0 c) ([] : List Int)) := Lib.hid hr
  have HD : Hid (([] : List Int).dropLast = []) := Lib.hid rfl
  have z1 : IntKind.i64.wrap (((0 : Nat) : Int) - 1) = -1 := by decide
  clear hr hl
  simp only [List.length_nil] at *
  go_enter Tryz.func152, Tryz.ntmps152
  go_wp2
  go_ret2
  exact ⟨_, by rw [EF.out]; rfl, by rw [EN.out, HD.out]; exact HC.out, Below.refl _ _⟩

set_option maxRecDepth 100000 in
set_option maxHeartbeats 400000 in
theorem step_11_1 (w : World) (lo : Nat) (v : Value) (o : List Int) (hr : Row w lo v o) (hl : o.length ≤ 1000000) (hlo : lo ≤ w.heap.size) (hm : o.length = 0 + 1) :
    Calls Tryz.prog 152 #[v, .int .i64 11] w (StepOf w lo o 11) := by
  have HR := Lib.hid hr
  have HI := Lib.hid (row_ints hr)
  have EF : Hid (fitB o 11 = (topO o == 10)) := Lib.hid rfl
  have EN : Hid (nextO o 11 = o.dropLast) := Lib.hid rfl
  obtain ⟨ad, c, rfl, hx⟩ := ints_top (row_ints hr) hm
  have HC : Hid (Row w lo (.slice (some ad) 0 c) (o.take 0)) := Lib.hid (row_cut hr (by omega))
  have HD : Hid (o.dropLast = o.take 0) := Lib.hid (drop_of hm)
  have hcap := row_room hr
  rw [Addr.add_zero'] at hx
  have z1 : IntKind.i64.wrap (((0 + 1 : Nat) : Int) - 1) = 0 := by decide
  have HL := Lib.hid hm
  have TL : Hid ((o.take 0).length = 0) := Lib.hid (by rw [List.length_take]; omega)
  generalize topO o = t at *
  clear hr hl hm
  go_enter Tryz.func152, Tryz.ntmps152
  go_wp2
  go_ret2
  exact ⟨_, by rw [EF.out]; rfl, by rw [EN.out, HD.out]; exact HC.out, Below.refl _ _⟩

set_option maxRecDepth 100000 in
set_option maxHeartbeats 400000 in
theorem step_11_2 (w : World) (lo : Nat) (v : Value) (o : List Int) (hr : Row w lo v o) (hl : o.length ≤ 1000000) (hlo : lo ≤ w.heap.size) (m : Nat) (hm : o.length = m + 1) (hp : 0 < m) :
    Calls Tryz.prog 152 #[v, .int .i64 11] w (StepOf w lo o 11) := by
  have HR := Lib.hid hr
  have HI := Lib.hid (row_ints hr)
  have EF : Hid (fitB o 11 = (topO o == 10)) := Lib.hid rfl
  have EN : Hid (nextO o 11 = o.dropLast) := Lib.hid rfl
  obtain ⟨ad, c, rfl, hx⟩ := ints_top (row_ints hr) hm
  have HC : Hid (Row w lo (.slice (some ad) m c) (o.take m)) := Lib.hid (row_cut hr (by omega))
  have HD : Hid (o.dropLast = o.take m) := Lib.hid (drop_of hm)
  have hcap := row_room hr
  have hm2 : m ≤ 1000000 := by omega
  have z1 : IntKind.i64.wrap (((m + 1 : Nat) : Int) - 1) = (m : Int) := by rw [show ((m + 1 : Nat) : Int) - 1 = m by omega]; exact IntWalk.i64_in _ (by omega)
  have z2 : (0 : Int) < (m : Int) := by omega
  have z3 : (m : Int) < ((m + 1 : Nat) : Int) := by omega
  have z4 : (0 : Int) < ((m + 1 : Nat) : Int) := by omega
  have HL := Lib.hid hm
  have TL : Hid ((o.take m).length = m) := Lib.hid (by rw [List.length_take]; omega)
  generalize topO o = t at *
  clear hr hl hm
  go_enter Tryz.func152, Tryz.ntmps152
  go_wp2
  go_ret2
  exact ⟨_, by rw [EF.out]; rfl, by rw [EN.out, HD.out]; exact HC.out, Below.refl _ _⟩

set_option maxRecDepth 100000 in
set_option maxHeartbeats 400000 in
theorem step_12_0 (w : World) (lo : Nat) (v : Value) (o : List Int) (hr : Row w lo v o) (hl : o.length ≤ 1000000) (hlo : lo ≤ w.heap.size) (h0 : o = []) :
    Calls Tryz.prog 152 #[v, .int .i64 12] w (StepOf w lo o 12) := by
  have HR := Lib.hid hr
  have HI := Lib.hid (row_ints hr)
  have EF : Hid (fitB o 12 = (topO o == 10)) := Lib.hid rfl
  have EN : Hid (nextO o 12 = o.dropLast) := Lib.hid rfl
  subst h0
  obtain ⟨_, A, c, rfl, _⟩ := row_ints hr
  have HC : Hid (Row w lo (.slice A 0 c) ([] : List Int)) := Lib.hid hr
  have HD : Hid (([] : List Int).dropLast = []) := Lib.hid rfl
  have z1 : IntKind.i64.wrap (((0 : Nat) : Int) - 1) = -1 := by decide
  clear hr hl
  simp only [List.length_nil] at *
  go_enter Tryz.func152, Tryz.ntmps152
  go_wp2
  go_ret2
  exact ⟨_, by rw [EF.out]; rfl, by rw [EN.out, HD.out]; exact HC.out, Below.refl _ _⟩

set_option maxRecDepth 100000 in
set_option maxHeartbeats 400000 in
theorem step_12_1 (w : World) (lo : Nat) (v : Value) (o : List Int) (hr : Row w lo v o) (hl : o.length ≤ 1000000) (hlo : lo ≤ w.heap.size) (hm : o.length = 0 + 1) :
    Calls Tryz.prog 152 #[v, .int .i64 12] w (StepOf w lo o 12) := by
  have HR := Lib.hid hr
  have HI := Lib.hid (row_ints hr)
  have EF : Hid (fitB o 12 = (topO o == 10)) := Lib.hid rfl
  have EN : Hid (nextO o 12 = o.dropLast) := Lib.hid rfl
  obtain ⟨ad, c, rfl, hx⟩ := ints_top (row_ints hr) hm
  have HC : Hid (Row w lo (.slice (some ad) 0 c) (o.take 0)) := Lib.hid (row_cut hr (by omega))
  have HD : Hid (o.dropLast = o.take 0) := Lib.hid (drop_of hm)
  have hcap := row_room hr
  rw [Addr.add_zero'] at hx
  have z1 : IntKind.i64.wrap (((0 + 1 : Nat) : Int) - 1) = 0 := by decide
  have HL := Lib.hid hm
  have TL : Hid ((o.take 0).length = 0) := Lib.hid (by rw [List.length_take]; omega)
  generalize topO o = t at *
  clear hr hl hm
  go_enter Tryz.func152, Tryz.ntmps152
  go_wp2
  go_ret2
  exact ⟨_, by rw [EF.out]; rfl, by rw [EN.out, HD.out]; exact HC.out, Below.refl _ _⟩

set_option maxRecDepth 100000 in
set_option maxHeartbeats 400000 in
theorem step_12_2 (w : World) (lo : Nat) (v : Value) (o : List Int) (hr : Row w lo v o) (hl : o.length ≤ 1000000) (hlo : lo ≤ w.heap.size) (m : Nat) (hm : o.length = m + 1) (hp : 0 < m) :
    Calls Tryz.prog 152 #[v, .int .i64 12] w (StepOf w lo o 12) := by
  have HR := Lib.hid hr
  have HI := Lib.hid (row_ints hr)
  have EF : Hid (fitB o 12 = (topO o == 10)) := Lib.hid rfl
  have EN : Hid (nextO o 12 = o.dropLast) := Lib.hid rfl
  obtain ⟨ad, c, rfl, hx⟩ := ints_top (row_ints hr) hm
  have HC : Hid (Row w lo (.slice (some ad) m c) (o.take m)) := Lib.hid (row_cut hr (by omega))
  have HD : Hid (o.dropLast = o.take m) := Lib.hid (drop_of hm)
  have hcap := row_room hr
  have hm2 : m ≤ 1000000 := by omega
  have z1 : IntKind.i64.wrap (((m + 1 : Nat) : Int) - 1) = (m : Int) := by rw [show ((m + 1 : Nat) : Int) - 1 = m by omega]; exact IntWalk.i64_in _ (by omega)
  have z2 : (0 : Int) < (m : Int) := by omega
  have z3 : (m : Int) < ((m + 1 : Nat) : Int) := by omega
  have z4 : (0 : Int) < ((m + 1 : Nat) : Int) := by omega
  have HL := Lib.hid hm
  have TL : Hid ((o.take m).length = m) := Lib.hid (by rw [List.length_take]; omega)
  generalize topO o = t at *
  clear hr hl hm
  go_enter Tryz.func152, Tryz.ntmps152
  go_wp2
  go_ret2
  exact ⟨_, by rw [EF.out]; rfl, by rw [EN.out, HD.out]; exact HC.out, Below.refl _ _⟩

set_option maxRecDepth 100000 in
set_option maxHeartbeats 400000 in
theorem step_13_0 (w : World) (lo : Nat) (v : Value) (o : List Int) (hr : Row w lo v o) (hl : o.length ≤ 1000000) (hlo : lo ≤ w.heap.size) (h0 : o = []) :
    Calls Tryz.prog 152 #[v, .int .i64 13] w (StepOf w lo o 13) := by
  have HR := Lib.hid hr
  have HI := Lib.hid (row_ints hr)
  have EF : Hid (fitB o 13 = true) := Lib.hid rfl
  have EN : Hid (nextO o 13 = o) := Lib.hid rfl
  subst h0
  obtain ⟨_, A, c, rfl, _⟩ := row_ints hr
  have HC : Hid (Row w lo (.slice A 0 c) ([] : List Int)) := Lib.hid hr
  have HD : Hid (([] : List Int).dropLast = []) := Lib.hid rfl
  have z1 : IntKind.i64.wrap (((0 : Nat) : Int) - 1) = -1 := by decide
  clear hr hl
  simp only [List.length_nil] at *
  go_enter Tryz.func152, Tryz.ntmps152
  go_wp2
  go_ret2
  exact ⟨_, by rw [EF.out]; rfl, by rw [EN.out]; exact HR.out, Below.refl _ _⟩

set_option maxRecDepth 100000 in
set_option maxHeartbeats 400000 in
theorem step_13_1 (w : World) (lo : Nat) (v : Value) (o : List Int) (hr : Row w lo v o) (hl : o.length ≤ 1000000) (hlo : lo ≤ w.heap.size) (hm : o.length = 0 + 1) :
    Calls Tryz.prog 152 #[v, .int .i64 13] w (StepOf w lo o 13) := by
  have HR := Lib.hid hr
  have HI := Lib.hid (row_ints hr)
  have EF : Hid (fitB o 13 = true) := Lib.hid rfl
  have EN : Hid (nextO o 13 = o) := Lib.hid rfl
  obtain ⟨ad, c, rfl, hx⟩ := ints_top (row_ints hr) hm
  have HC : Hid (Row w lo (.slice (some ad) 0 c) (o.take 0)) := Lib.hid (row_cut hr (by omega))
  have HD : Hid (o.dropLast = o.take 0) := Lib.hid (drop_of hm)
  have hcap := row_room hr
  rw [Addr.add_zero'] at hx
  have z1 : IntKind.i64.wrap (((0 + 1 : Nat) : Int) - 1) = 0 := by decide
  have HL := Lib.hid hm
  have TL : Hid ((o.take 0).length = 0) := Lib.hid (by rw [List.length_take]; omega)
  generalize topO o = t at *
  clear hr hl hm
  go_enter Tryz.func152, Tryz.ntmps152
  go_wp2
  go_ret2
  exact ⟨_, by rw [EF.out]; rfl, by rw [EN.out]; exact HR.out, Below.refl _ _⟩

set_option maxRecDepth 100000 in
set_option maxHeartbeats 400000 in
theorem step_13_2 (w : World) (lo : Nat) (v : Value) (o : List Int) (hr : Row w lo v o) (hl : o.length ≤ 1000000) (hlo : lo ≤ w.heap.size) (m : Nat) (hm : o.length = m + 1) (hp : 0 < m) :
    Calls Tryz.prog 152 #[v, .int .i64 13] w (StepOf w lo o 13) := by
  have HR := Lib.hid hr
  have HI := Lib.hid (row_ints hr)
  have EF : Hid (fitB o 13 = true) := Lib.hid rfl
  have EN : Hid (nextO o 13 = o) := Lib.hid rfl
  obtain ⟨ad, c, rfl, hx⟩ := ints_top (row_ints hr) hm
  have HC : Hid (Row w lo (.slice (some ad) m c) (o.take m)) := Lib.hid (row_cut hr (by omega))
  have HD : Hid (o.dropLast = o.take m) := Lib.hid (drop_of hm)
  have hcap := row_room hr
  have hm2 : m ≤ 1000000 := by omega
  have z1 : IntKind.i64.wrap (((m + 1 : Nat) : Int) - 1) = (m : Int) := by rw [show ((m + 1 : Nat) : Int) - 1 = m by omega]; exact IntWalk.i64_in _ (by omega)
  have z2 : (0 : Int) < (m : Int) := by omega
  have z3 : (m : Int) < ((m + 1 : Nat) : Int) := by omega
  have z4 : (0 : Int) < ((m + 1 : Nat) : Int) := by omega
  have HL := Lib.hid hm
  have TL : Hid ((o.take m).length = m) := Lib.hid (by rw [List.length_take]; omega)
  generalize topO o = t at *
  clear hr hl hm
  go_enter Tryz.func152, Tryz.ntmps152
  go_wp2
  go_ret2
  exact ⟨_, by rw [EF.out]; rfl, by rw [EN.out]; exact HR.out, Below.refl _ _⟩

theorem sStep_any (w : World) (lo : Nat) (v : Value) (o : List Int) (k : Int) (hr : Row w lo v o) (hl : o.length ≤ 1000000) (hlo : lo ≤ w.heap.size) (hk : 1 ≤ k ∧ k ≤ 13) :
    Calls Tryz.prog 152 #[v, .int .i64 k] w (StepOf w lo o k) := by
  by_cases h0 : o.length = 0
  · have h0 : o = [] := List.eq_nil_of_length_eq_zero h0
    rcases (by omega : k = 1 ∨ k = 2 ∨ k = 3 ∨ k = 4 ∨ k = 5 ∨ k = 6 ∨ k = 7 ∨ k = 8 ∨ k = 9 ∨ k = 10 ∨ k = 11 ∨ k = 12 ∨ k = 13) with rfl | rfl | rfl | rfl | rfl | rfl | rfl | rfl | rfl | rfl | rfl | rfl | rfl
    · exact step_1_0 w lo v o hr hl hlo h0
    · exact step_2_0 w lo v o hr hl hlo h0
    · exact step_3_0 w lo v o hr hl hlo h0
    · exact step_4_0 w lo v o hr hl hlo h0
    · exact step_5_0 w lo v o hr hl hlo h0
    · exact step_6_0 w lo v o hr hl hlo h0
    · exact step_7_0 w lo v o hr hl hlo h0
    · exact step_8_0 w lo v o hr hl hlo h0
    · exact step_9_0 w lo v o hr hl hlo h0
    · exact step_10_0 w lo v o hr hl hlo h0
    · exact step_11_0 w lo v o hr hl hlo h0
    · exact step_12_0 w lo v o hr hl hlo h0
    · exact step_13_0 w lo v o hr hl hlo h0
  by_cases h1 : o.length = 1
  · rcases (by omega : k = 1 ∨ k = 2 ∨ k = 3 ∨ k = 4 ∨ k = 5 ∨ k = 6 ∨ k = 7 ∨ k = 8 ∨ k = 9 ∨ k = 10 ∨ k = 11 ∨ k = 12 ∨ k = 13) with rfl | rfl | rfl | rfl | rfl | rfl | rfl | rfl | rfl | rfl | rfl | rfl | rfl
    · exact step_1_1 w lo v o hr hl hlo h1
    · exact step_2_1 w lo v o hr hl hlo h1
    · exact step_3_1 w lo v o hr hl hlo h1
    · exact step_4_1 w lo v o hr hl hlo h1
    · exact step_5_1 w lo v o hr hl hlo h1
    · exact step_6_1 w lo v o hr hl hlo h1
    · exact step_7_1 w lo v o hr hl hlo h1
    · exact step_8_1 w lo v o hr hl hlo h1
    · exact step_9_1 w lo v o hr hl hlo h1
    · exact step_10_1 w lo v o hr hl hlo h1
    · exact step_11_1 w lo v o hr hl hlo h1
    · exact step_12_1 w lo v o hr hl hlo h1
    · exact step_13_1 w lo v o hr hl hlo h1
  obtain ⟨m, hm⟩ : ∃ m, o.length = m + 1 := ⟨o.length - 1, by omega⟩
  rcases (by omega : k = 1 ∨ k = 2 ∨ k = 3 ∨ k = 4 ∨ k = 5 ∨ k = 6 ∨ k = 7 ∨ k = 8 ∨ k = 9 ∨ k = 10 ∨ k = 11 ∨ k = 12 ∨ k = 13) with rfl | rfl | rfl | rfl | rfl | rfl | rfl | rfl | rfl | rfl | rfl | rfl | rfl
  · exact step_1_2 w lo v o hr hl hlo m hm (by omega)
  · exact step_2_2 w lo v o hr hl hlo m hm (by omega)
  · exact step_3_2 w lo v o hr hl hlo m hm (by omega)
  · exact step_4_2 w lo v o hr hl hlo m hm (by omega)
  · exact step_5_2 w lo v o hr hl hlo m hm (by omega)
  · exact step_6_2 w lo v o hr hl hlo m hm (by omega)
  · exact step_7_2 w lo v o hr hl hlo m hm (by omega)
  · exact step_8_2 w lo v o hr hl hlo m hm (by omega)
  · exact step_9_2 w lo v o hr hl hlo m hm (by omega)
  · exact step_10_2 w lo v o hr hl hlo m hm (by omega)
  · exact step_11_2 w lo v o hr hl hlo m hm (by omega)
  · exact step_12_2 w lo v o hr hl hlo m hm (by omega)
  · exact step_13_2 w lo v o hr hl hlo m hm (by omega)

end Go.Proofs.YthnbaeamekolmaaGreatDoor
