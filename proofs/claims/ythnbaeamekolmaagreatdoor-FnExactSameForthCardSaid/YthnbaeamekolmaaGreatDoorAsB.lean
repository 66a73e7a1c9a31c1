/- impl's assembler: pop, here, emit, emitHole, fill. -/
import Derived.Test.YthnbaeamekolmaaGreatDoorAsA
import Derived.Deep.RegionHeld3
namespace Go.Proofs.YthnbaeamekolmaaGreatDoor
open Go.RowKit
set_option linter.unusedVariables false
set_option linter.unusedSimpArgs false

/-- What pop leaves. -/
def AsPopOf (w : World) (lo G : Nat) (a s : Int) (code : List Int) (marks : List It) (x : It) (e : Ending) (w' : World) : Prop := e = .returned (.agg #[.int .i64 x.k, .int .i64 x.v]) ∧ AsAt w' lo G a s code marks ∧ Below lo w w'

theorem below_ge {lo : Nat} {a b c : World} (h : Below lo a b) (k : Below b.heap.size b c) (hl : lo ≤ b.heap.size) : Below lo a c := h.trans (k.mono hl)

theorem asAt_popped {w : World} {lo G R n c : Nat} {a s : Int} {code : List Int} {Q : List It} {vc : Value} {A : Option Addr} (hw : Whole w G 211 #[vc, .int .i64 a, .int .i64 s, .slice A (n + 1) c]) (hr : Row w lo vc code) (hc : PRow 253 w lo (.slice A n c) (Q.map sw)) (hg : lo ≤ G) (ne : R ≠ G)
    (nr : vc.ownBlock ≠ some R) (nc : (Value.slice A n c).ownBlock ≠ some R) (x y : Value) (o : Obj) : AsAt ((((w.setCell ⟨G, 3, none⟩ (.slice A n c)).setCell ⟨R, 0, none⟩ x).setCell ⟨R, 1, none⟩ y).alloc o).drew lo G a s code Q := by
  have n1 := row_off (by decide) hr hw
  have n2 := prow_off (by decide) hc hw
  have k1 := whole_alloc (whole_far (whole_far (whole_set hw 3 (.slice A n c)) (p := ⟨R, 0, none⟩) (fun e => ne e.symm) x) (p := ⟨R, 1, none⟩) (fun e => ne e.symm) y) o
  have k2 := row_alloc (row_apart (row_apart (row_apart hr (i := 3) (u := .slice A n c) n1) (i := 0) (u := x) nr) (i := 1) (u := y) nr) o
  have k3 := prow_alloc (prow_apart (prow_apart (prow_apart hc (i := 3) (u := .slice A n c) n2) (i := 0) (u := x) nc) (i := 1) (u := y) nc) o
  exact ⟨vc, _, k1, k2, k3, hg⟩

set_option maxRecDepth 100000 in
set_option maxHeartbeats 1600000 in
theorem popJ_any (w : World) (lo G : Nat) (a s : Int) (code : List Int) (m : List It) (h : AsAt w lo G a s code m) (h0 : 0 < m.length) (hl : m.length ≤ 1000000) :
    Calls Tryz.prog 261 #[.pointer (some ⟨G, 3, none⟩)] w (AsPopOf w lo G a s code m.dropLast (sw (topM m))) := by
  have hlo := asAt_lo h
  have H1 := Lib.hid (asAt_below h (below_alloc (Below.refl _ _) (.cells #[.int .i64 0, .int .i64 0] 253)))
  obtain ⟨n, hn⟩ : ∃ n, m.length = n + 1 := ⟨m.length - 1, by omega⟩
  have hn2 : n ≤ 1000000 := by omega
  have z1 : IntKind.i64.wrap (((n + 1 : Nat) : Int) - 1) = (n : Int) := by rw [show ((n + 1 : Nat) : Int) - 1 = n by omega]; exact IntWalk.i64_in _ (by omega)
  have ED : Hid (m.dropLast = m.take n) := Lib.hid (by rw [List.dropLast_eq_take]; congr 1; omega)
  obtain ⟨vc, vm, hw, hr, hm, hg⟩ := h
  obtain ⟨_, A, c, rfl, _⟩ := prow_its hm
  rw [show (m.map sw).length = n + 1 by simp [hn]] at hm hw
  have hcap := prow_room hm
  have HW := Lib.hid hw
  have HR := Lib.hid hr
  have HC : Hid (PRow 253 w lo (.slice A n c) ((m.take n).map sw)) := Lib.hid (by
    have h := prow_cut hm (show n ≤ (m.map sw).length by simp; omega)
    rwa [← List.map_take] at h)
  have hlt := whole_lt hw
  have HT := Lib.hid (topJ_any _ lo G a s code m H1.out hl)
  clear hn h0 hw hr hm
  rw [ED.out]
  generalize sw (topM m) = x at *
  go_enter Tryz.func261, Tryz.ntmps261
  go_wp2_with fail
  refine HT.out.mono ?_
  rintro e w1 ⟨rfl, hb⟩
  have W1 := whole_below (whole_new w 253 #[.int .i64 0, .int .i64 0]) hb
  have B1 := Lib.hid (below_step (below_alloc (Below.refl _ _) _) hb)
  have zw := whole_lt W1
  have r0 := whole_cell W1 0
  have r1 := whole_cell W1 1
  have f0 := whole_free W1 0
  have f1 := whole_free W1 1
  have KW := Lib.hid (whole_below (whole_alloc HW.out _) hb)
  have KR := Lib.hid (row_below (row_alloc HR.out _) hb)
  have KC := Lib.hid (prow_below (prow_alloc HC.out _) hb)
  have c3 := whole_cell KW.out 3
  have e3 := whole_free KW.out 3
  have zg := whole_lt KW.out
  have zlo : lo ≤ w1.heap.size := by have := B1.out.size; omega
  have ne : w.heap.size ≠ G := by omega
  clear W1 hb
  rcases Nat.eq_zero_or_pos n with hz | hp
  · subst hz
    go_wp2
    go_region
    go_wp2
    refine bodyPost_ret (v := .agg #[.int .i64 x.k, .int .i64 x.v]) (by simp [results, Tryz.results261, go_sem, *]) rfl ⟨rfl, ?_, ?_⟩
    · exact asAt_popped KW.out KR.out KC.out hg ne (fun e => Nat.lt_irrefl _ (row_lt HR.out _ e).2) (fun e => Nat.lt_irrefl _ (prow_lt HC.out _ e).2) _ _ _
    · exact (((((B1.out.mono hlo).setCell (by exact hg) _).setCell (by exact hlo) _).setCell (by exact hlo) _).alloc (by simp; omega) _).drew
  · have z2 : (0 : Int) < (n : Int) := by omega
    go_wp2
    go_region
    go_wp2
    refine bodyPost_ret (v := .agg #[.int .i64 x.k, .int .i64 x.v]) (by simp [results, Tryz.results261, go_sem, *]) rfl ⟨rfl, ?_, ?_⟩
    · exact asAt_popped KW.out KR.out KC.out hg ne (fun e => Nat.lt_irrefl _ (row_lt HR.out _ e).2) (fun e => Nat.lt_irrefl _ (prow_lt HC.out _ e).2) _ _ _
    · exact (((((B1.out.mono hlo).setCell (by exact hg) _).setCell (by exact hlo) _).setCell (by exact hlo) _).alloc (by simp; omega) _).drew

set_option maxRecDepth 100000 in
set_option maxHeartbeats 400000 in
theorem here_any (w : World) (lo G : Nat) (a s : Int) (code : List Int) (m : List It) (h : AsAt w lo G a s code m) (ha : 0 ≤ a ∧ a ≤ 1000) (hl : code.length ≤ 1000) :
    Calls Tryz.prog 262 #[.pointer (some ⟨G, 0, none⟩)] w (TopOf w (a + code.length)) := by
  obtain ⟨vc, vm, hw, hr, hm, hg⟩ := h
  obtain ⟨_, A, c, rfl, _⟩ := row_ints hr
  have c0 := whole_cell hw 0
  have c1 := whole_cell hw 1
  have z1 : IntKind.i64.wrap (a + (code.length : Int)) = a + (code.length : Int) := IntWalk.i64_in _ (by omega)
  clear hw hr hm
  go_enter Tryz.func262, Tryz.ntmps262
  go_wp2
  go_quiet (fail)
  go_wp2
  go_ret
  exact ⟨_, rfl, rfl⟩

/-- Blocks of other types than numbers' and the assembler's are as they were. -/
def Keeps (w w' : World) : Prop := ∀ g t cs, t ≠ 3 → t ≠ 211 → Whole w g t cs → Whole w' g t cs

/-- What emit leaves. -/
def EmOf (w : World) (lo G : Nat) (a s : Int) (code : List Int) (marks : List It) (e : Ending) (w' : World) : Prop := AsOf w lo G a s code marks e w' ∧ Keeps w w'

set_option maxRecDepth 100000 in
set_option maxHeartbeats 400000 in
theorem emit2_any (w : World) (lo G : Nat) (a s : Int) (code : List Int) (m : List It) (u : Value) (zs : List Int) (h : AsAt w lo G a s code m) (hu : Ints w u zs) (hl : code.length + zs.length ≤ 1000) :
    Calls Tryz.prog 218 #[.pointer (some ⟨G, 0, none⟩), u] w (EmOf w lo G a s (code ++ zs) m) := by
  have hlo := asAt_lo h
  obtain ⟨vc, vm, hw, hr, hm, hg⟩ := h
  have HW := Lib.hid hw
  have HR := Lib.hid hr
  have HM := Lib.hid hm
  have HU := Lib.hid hu
  have c0 := whole_cell hw 0
  have hlt := whole_lt hw
  obtain ⟨_, A, c, rfl, _⟩ := row_ints hr
  obtain ⟨_, B, d, rfl, _⟩ := hu
  clear hw hr hm
  go_enter Tryz.func218, Tryz.ntmps218
  go_wp2_with (at_builtin; refine wpList_append_ints rfl (.tmp 8) (.tmp 9) rfl rfl lo (.slice A code.length c) code HR.out (.slice B zs.length d) zs HU.out rfl rfl (by omega) hlo ?_
               intro v' w2 hr2 hg2 hat
               have n2 := row_off (by decide) HR.out HW.out
               have W2 := whole_keep HW.out (hg2.block _ hlt (fun e => n2 e.symm))
               have hbk : Below lo w w2 := (Below.refl _ _).grown hg2 hlo (fun k hk => (row_lt HR.out k hk).1)
               have M2 := prow_keep HM.out (fun g hv => hg2.block g (prow_lt HM.out g hv).2 (fun e => prow_row_off (by decide) HM.out HR.out hv e.symm))
               have d0 := whole_cell W2 0
               have f0 := whole_free W2 0
               have HR2 := Lib.hid hr2
               have HW2 := Lib.hid W2
               have HM2 := Lib.hid M2
               have HBK := Lib.hid hbk
               have KP : Hid (Keeps w w2) := Lib.hid fun g t cs h1 h2 hh => whole_keep hh (hg2.block _ (whole_lt hh) (fun e => row_off (Ne.symm h1) HR.out hh e.symm))
               obtain ⟨_, C, j, rfl, _⟩ := row_ints hr2
               rw [show (code ++ zs).length = code.length + zs.length by simp] at HR2
               clear hg2 hat hr2 W2 hbk c0 n2 M2)
  go_end0
  refine ⟨⟨rfl, ⟨_, _, whole_set HW2.out 0 _, row_apart HR2.out (row_off (by decide) HR2.out HW2.out), prow_apart HM2.out (prow_off (by decide) HM2.out HW2.out), hg⟩, HBK.out.setCell hg _⟩, fun g t cs h1 h2 hh => whole_far (KP.out g t cs h1 h2 hh) (p := ⟨G, 0, none⟩) (fun e => ?_) _⟩
  have q := KP.out g t cs h1 h2 hh
  have q2 := HW2.out
  rw [show g = G from e] at q
  unfold Whole at q q2
  rw [q2] at q
  injection q with q
  injection q with _ q
  exact h2 q.symm

theorem emit_any (w : World) (lo G : Nat) (a s : Int) (code : List Int) (m : List It) (u : Value) (zs : List Int) (h : AsAt w lo G a s code m) (hu : Ints w u zs) (hl : code.length + zs.length ≤ 1000) :
    Calls Tryz.prog 218 #[.pointer (some ⟨G, 0, none⟩), u] w (AsOf w lo G a s (code ++ zs) m) := (emit2_any w lo G a s code m u zs h hu hl).mono fun _ _ h => h.1

/-- A literal of two numbers. -/
theorem ints_two (w : World) (x y : Int) : Ints (w.alloc (.cells #[.int .i64 x, .int .i64 y] 3)) (.slice (some ⟨w.heap.size, 0, none⟩) 2 2) [x, y] := by
  refine ⟨by unfold maxLen; simp, _, _, rfl, fun _ => ⟨_, rfl, fun k hk => ?_⟩⟩
  have hk : k < 2 := hk
  rcases (by omega : k = 0 ∨ k = 1) with rfl | rfl <;> simp [Addr.add]

/-- What emitHole leaves. -/
def HoleOf (w : World) (lo G : Nat) (a s : Int) (code : List Int) (marks : List It) (n : Nat) (e : Ending) (w' : World) : Prop := e = .returned (.int .i64 (n : Int)) ∧ AsAt w' lo G a s code marks ∧ Below lo w w'

set_option maxRecDepth 100000 in
set_option maxHeartbeats 400000 in
theorem emitHole_any (w : World) (lo G : Nat) (a s j : Int) (code : List Int) (m : List It) (h : AsAt w lo G a s code m) (hl : code.length ≤ 900) :
    Calls Tryz.prog 259 #[.pointer (some ⟨G, 0, none⟩), .int .i64 j] w (HoleOf w lo G a s (code ++ [j, 0]) m (code.length + 1)) := by
  have hlo := asAt_lo h
  have H1 := Lib.hid (asAt_below h (below_alloc (Below.refl _ _) (.cells #[.int .i64 j, .int .i64 0] 3)))
  have I1 := Lib.hid (ints_two w j 0)
  clear h
  go_enter Tryz.func259, Tryz.ntmps259
  go_wp2_with fail
  refine (emit_any _ lo G a s code m _ [j, 0] H1.out I1.out (by simp; omega)).mono ?_
  rintro e w1 ⟨rfl, ha, hb⟩
  have HA := Lib.hid ha
  have HB := Lib.hid (((Below.refl lo w).alloc hlo _).trans hb)
  obtain ⟨vc, vm, hw, hr, _, _⟩ := ha
  obtain ⟨_, A, c, rfl, _⟩ := row_ints hr
  rw [show (code ++ [j, 0]).length = code.length + 1 + 1 by simp] at hw
  have c0 := whole_cell hw 0
  have hlt := whole_lt hw
  have z1 : IntKind.i64.wrap (((code.length + 1 + 1 : Nat) : Int) - 1) = ((code.length + 1 : Nat) : Int) := by rw [show ((code.length + 1 + 1 : Nat) : Int) - 1 = ((code.length + 1 : Nat) : Int) by omega]; exact IntWalk.i64_in _ (by omega)
  clear hw hr hb
  go_wp2
  go_ret
  exact ⟨ret_int (by simp), HA.out, HB.out⟩

set_option maxRecDepth 100000 in
set_option maxHeartbeats 800000 in
theorem fill_any (w : World) (lo G : Nat) (a s : Int) (code : List Int) (m : List It) (k : Nat) (h : AsAt w lo G a s code m) (ha : 0 ≤ a ∧ a ≤ 1000) (hl : code.length ≤ 1000) (hk : k < code.length) :
    Calls Tryz.prog 260 #[.pointer (some ⟨G, 0, none⟩), .int .i64 (k : Int)] w (AsOf w lo G a s (code.set k (a + code.length)) m) := by
  have hlo := asAt_lo h
  have H := Lib.hid h
  obtain ⟨vc, vm, hw, hr, hm, hg⟩ := h
  have HW := Lib.hid hw
  have HR := Lib.hid hr
  have HM := Lib.hid hm
  obtain ⟨g, c, rfl, hgl⟩ : ∃ g c, vc = .slice (some ⟨g, 0, none⟩) code.length c ∧ lo ≤ g := by
    rcases hr.2 with ⟨_, h0⟩ | ⟨g, c, cur, hv, hb, _⟩
    · omega
    · exact ⟨g, c, hv, hb⟩
  have c0 := whole_cell hw 0
  have hlt := whole_lt hw
  have x0 : w.cell? ⟨g, k, none⟩ = some (.int .i64 code[k]) := by
    obtain ⟨_, A, c', e, hq⟩ := row_ints hr
    simp only [Value.slice.injEq, true_and] at e
    obtain ⟨rfl, rfl⟩ := e
    obtain ⟨ad, ha, hq⟩ := hq (by omega)
    obtain rfl := Option.some.inj ha
    have := hq k hk
    rwa [Addr.add_lit, Nat.zero_add] at this
  have x1 : w.frozen? ⟨g, k, none⟩ = false := by
    rcases hr.2 with ⟨h', _⟩ | ⟨g', cap', cur, h', _, hh, _⟩
    · cases h'
    · simp only [Value.slice.injEq, Option.some.injEq, Addr.mk.injEq, and_true, true_and] at h'
      obtain ⟨rfl, _⟩ := h'
      simp [World.frozen?, hh]
  have zg := (row_lt hr g rfl).2
  have NG := Lib.hid (row_off (by decide) hr hw)
  have NM := Lib.hid (fun e => prow_row_off (by decide) hm hr (g := g) e rfl)
  have ST : Hid (∀ n, Row ((w.drewN n).setCell ⟨g, k, none⟩ (.int .i64 (a + code.length))) lo (.slice (some ⟨g, 0, none⟩) code.length c) (code.set k (a + code.length))) := Lib.hid fun n => by
    have h := (World.ownsRow.stored (show (w.drewN n).ownsRow lo 3 1 (.slice (some ⟨g, 0, none⟩) code.length c) code.length (code.map (Value.int .i64)) from hr) k (.int .i64 (a + code.length))).1
    unfold Row
    rw [List.length_set, List.map_set]
    exact h
  generalize code[k] = old at *
  clear hw hr hm
  go_enter Tryz.func260, Tryz.ntmps260
  go_wp2
  go_region_held3 (fun W => W.cell? ⟨G, 0, none⟩ = some (.slice (some ⟨g, 0, none⟩) code.length c)) (first | exact c0 | exact whole_cell (whole_far (whole_below HW.out (below_drewN (Below.refl _ _) _)) (p := ⟨g, k, none⟩) (fun e => NG.out (by rw [e]; rfl)) _) 0)
    (first | (go_at_call 262; refine (here_any _ lo G a s code m (asAt_below H.out (Below.refl _ _).drew) ha hl).mono ?_; rintro e w1 ⟨n, rfl, rfl⟩))
  all_goals
    go_wp2
    go_end0
    exact ⟨rfl, ⟨_, _, whole_far (whole_below HW.out (below_drewN (Below.refl _ _) _)) (p := ⟨g, k, none⟩) (fun e => NG.out (by rw [e]; rfl)) _, ST.out _, prow_apart (prow_below HM.out (below_drewN (Below.refl _ _) _)) NM.out, hg⟩, (below_drewN (Below.refl _ _) _).setCell (by exact hgl) _⟩

end Go.Proofs.YthnbaeamekolmaaGreatDoor
