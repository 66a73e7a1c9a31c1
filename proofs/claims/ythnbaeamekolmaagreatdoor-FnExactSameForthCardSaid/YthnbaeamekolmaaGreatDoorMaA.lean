/- The given side's code that is being made: here, put, pop, fill. -/
import Derived.Test.YthnbaeamekolmaaGreatDoorAsB
import Derived.Test.YthnbaeamekolmaaGreatDoorWoA
namespace Go.Proofs.YthnbaeamekolmaaGreatDoor
open Go.RowKit
set_option linter.unusedVariables false
set_option linter.unusedSimpArgs false

/-- Code in the making in block G. -/
def MdAt (w : World) (lo G : Nat) (a : Int) (code : List Int) (marks : List It) : Prop :=
  ∃ vc vm, Whole w G 225 #[.int .i64 a, vc, vm] ∧ Row w lo vc code ∧ PRow 245 w lo vm marks ∧ lo ≤ G

theorem mdAt_lo {w : World} {lo G : Nat} {a : Int} {code : List Int} {marks : List It} (h : MdAt w lo G a code marks) : lo ≤ w.heap.size := by
  obtain ⟨_, _, h1, _, _, h2⟩ := h
  have := whole_lt h1; omega

theorem mdAt_below {w w' : World} {lo G : Nat} {a : Int} {code : List Int} {marks : List It} (h : MdAt w lo G a code marks) (hb : Below w.heap.size w w') : MdAt w' lo G a code marks := by
  obtain ⟨vc, vm, h1, h2, h3, h4⟩ := h
  exact ⟨vc, vm, whole_below h1 hb, row_below h2 hb, prow_below h3 hb, h4⟩

theorem mdAt_drew {w : World} {lo G : Nat} {a : Int} {code : List Int} {marks : List It} (h : MdAt w lo G a code marks) : MdAt w.drew lo G a code marks := mdAt_below h (Below.refl _ _).drew

theorem mdAt_alloc {w : World} {lo G : Nat} {a : Int} {code : List Int} {marks : List It} (h : MdAt w lo G a code marks) (ob : Obj) : MdAt (w.alloc ob) lo G a code marks := mdAt_below h (below_alloc (Below.refl _ _) ob)

/-- Blocks of other types than numbers' and the code's are as they were. -/
def KeepsM (w w' : World) : Prop := ∀ g t cs, t ≠ 3 → t ≠ 225 → Whole w g t cs → Whole w' g t cs

/-- What leaves code in the making. -/
def MdOf (w : World) (lo G : Nat) (a : Int) (code : List Int) (marks : List It) (e : Ending) (w' : World) : Prop := e = .returned (.tuple #[]) ∧ MdAt w' lo G a code marks ∧ Below lo w w'

/-- The same, where only the code has turned. -/
def MdKOf (w : World) (lo G : Nat) (a : Int) (code : List Int) (marks : List It) (e : Ending) (w' : World) : Prop := MdOf w lo G a code marks e w' ∧ KeepsM w w'

/-- What pop leaves. -/
def MdPopOf (w : World) (lo G : Nat) (a : Int) (code : List Int) (marks : List It) (x : It) (e : Ending) (w' : World) : Prop := e = .returned (.agg #[.int .i64 x.k, .int .i64 x.v]) ∧ MdAt w' lo G a code marks ∧ Below lo w w'

set_option maxRecDepth 100000 in
set_option maxHeartbeats 400000 in
theorem sHere_any (w : World) (lo G : Nat) (a : Int) (code : List Int) (m : List It) (h : MdAt w lo G a code m) (ha : 0 ≤ a ∧ a ≤ 1000) (hl : code.length ≤ 1000) :
    Calls Tryz.prog 256 #[.pointer (some ⟨G, 0, none⟩)] w (TopOf w (a + code.length)) := by
  obtain ⟨vc, vm, hw, hr, hm, hg⟩ := h
  obtain ⟨_, A, c, rfl, _⟩ := row_ints hr
  have c0 := whole_cell hw 0
  have c1 := whole_cell hw 1
  have z1 : IntKind.i64.wrap (a + (code.length : Int)) = a + (code.length : Int) := IntWalk.i64_in _ (by omega)
  clear hw hr hm
  go_enter Tryz.func256, Tryz.ntmps256
  go_wp2
  go_quiet (fail)
  go_wp2
  go_ret
  exact ⟨_, rfl, rfl⟩

set_option maxRecDepth 100000 in
set_option maxHeartbeats 400000 in
theorem sPut_any (w : World) (lo G : Nat) (a : Int) (code : List Int) (m : List It) (u : Value) (zs : List Int) (h : MdAt w lo G a code m) (hu : Ints w u zs) (hl : code.length + zs.length ≤ 1000) :
    Calls Tryz.prog 231 #[.pointer (some ⟨G, 0, none⟩), u] w (MdKOf w lo G a (code ++ zs) m) := by
  have hlo := mdAt_lo h
  obtain ⟨vc, vm, hw, hr, hm, hg⟩ := h
  have HW := Lib.hid hw
  have HR := Lib.hid hr
  have HM := Lib.hid hm
  have HU := Lib.hid hu
  have c0 := whole_cell hw 1
  have hlt := whole_lt hw
  obtain ⟨_, A, c, rfl, _⟩ := row_ints hr
  obtain ⟨_, B, d, rfl, _⟩ := hu
  clear hw hr hm
  go_enter Tryz.func231, Tryz.ntmps231
  go_wp2_with (at_builtin; refine wpList_append_ints rfl (.tmp 8) (.tmp 9) rfl rfl lo (.slice A code.length c) code HR.out (.slice B zs.length d) zs HU.out rfl rfl (by omega) hlo ?_
               intro v' w2 hr2 hg2 hat
               have n2 := row_off (by decide) HR.out HW.out
               have W2 := whole_keep HW.out (hg2.block _ hlt (fun e => n2 e.symm))
               have hbk : Below lo w w2 := (Below.refl _ _).grown hg2 hlo (fun k hk => (row_lt HR.out k hk).1)
               have M2 := prow_keep HM.out (fun g hv => hg2.block g (prow_lt HM.out g hv).2 (fun e => prow_row_off (by decide) HM.out HR.out hv e.symm))
               have d0 := whole_cell W2 1
               have f0 := whole_free W2 1
               have HR2 := Lib.hid hr2
               have HW2 := Lib.hid W2
               have HM2 := Lib.hid M2
               have HBK := Lib.hid hbk
               have KP : Hid (KeepsM w w2) := Lib.hid fun g t cs h1 h2 hh => whole_keep hh (hg2.block _ (whole_lt hh) (fun e => row_off (Ne.symm h1) HR.out hh e.symm))
               obtain ⟨_, C, j, rfl, _⟩ := row_ints hr2
               rw [show (code ++ zs).length = code.length + zs.length by simp] at HR2
               clear hg2 hat hr2 W2 hbk c0 n2 M2)
  go_end0
  refine ⟨⟨rfl, ⟨_, _, whole_set HW2.out 1 _, row_apart HR2.out (row_off (by decide) HR2.out HW2.out), prow_apart HM2.out (prow_off (by decide) HM2.out HW2.out), hg⟩, HBK.out.setCell hg _⟩, fun g t cs h1 h2 hh => whole_far (KP.out g t cs h1 h2 hh) (p := ⟨G, 1, none⟩) (fun e => ?_) _⟩
  have q := KP.out g t cs h1 h2 hh
  have q2 := HW2.out
  rw [show g = G from e] at q
  unfold Whole at q q2
  rw [q2] at q
  injection q with q
  injection q with _ q
  exact h2 q.symm

set_option maxRecDepth 100000 in
set_option maxHeartbeats 800000 in
theorem sFill_any (w : World) (lo G : Nat) (a : Int) (code : List Int) (m : List It) (k : Nat) (h : MdAt w lo G a code m) (ha : 0 ≤ a ∧ a ≤ 1000) (hl : code.length ≤ 1000) (hk : k < code.length) :
    Calls Tryz.prog 255 #[.pointer (some ⟨G, 0, none⟩), .int .i64 (k : Int)] w (MdOf w lo G a (code.set k (a + code.length)) m) := by
  have hlo := mdAt_lo h
  have H := Lib.hid h
  obtain ⟨vc, vm, hw, hr, hm, hg⟩ := h
  have HW := Lib.hid hw
  have HR := Lib.hid hr
  have HM := Lib.hid hm
  obtain ⟨g, c, rfl, hgl⟩ : ∃ g c, vc = .slice (some ⟨g, 0, none⟩) code.length c ∧ lo ≤ g := by
    rcases hr.2 with ⟨_, h0⟩ | ⟨g, c, cur, hv, hb, _⟩
    · omega
    · exact ⟨g, c, hv, hb⟩
  have c0 := whole_cell hw 1
  have hlt := whole_lt hw
  have x0 : w.cell? ⟨g, k, none⟩ = some (.int .i64 code[k]) := by
    obtain ⟨_, A, c', e, hq⟩ := row_ints hr
    simp only [Value.slice.injEq, true_and] at e
    obtain ⟨rfl, rfl⟩ := e
    obtain ⟨ad, ha, hq⟩ := hq (by omega)
    obtain rfl := Option.some.inj ha
    have := hq k hk
    rwa [Addr.add_lit, Nat.zero_add] at this
  have x1 : w.frozen? ⟨g, k, none⟩ = false := by
    rcases hr.2 with ⟨h', _⟩ | ⟨g', cap', cur, h', _, hh, _⟩
    · cases h'
    · simp only [Value.slice.injEq, Option.some.injEq, Addr.mk.injEq, and_true, true_and] at h'
      obtain ⟨rfl, _⟩ := h'
      simp [World.frozen?, hh]
  have zg := (row_lt hr g rfl).2
  have NG := Lib.hid (row_off (by decide) hr hw)
  have NM := Lib.hid (fun e => prow_row_off (by decide) hm hr (g := g) e rfl)
  have ST : Hid (∀ n, Row ((w.drewN n).setCell ⟨g, k, none⟩ (.int .i64 (a + code.length))) lo (.slice (some ⟨g, 0, none⟩) code.length c) (code.set k (a + code.length))) := Lib.hid fun n => by
    have h := (World.ownsRow.stored (show (w.drewN n).ownsRow lo 3 1 (.slice (some ⟨g, 0, none⟩) code.length c) code.length (code.map (Value.int .i64)) from hr) k (.int .i64 (a + code.length))).1
    unfold Row
    rw [List.length_set, List.map_set]
    exact h
  generalize code[k] = old at *
  clear hw hr hm
  go_enter Tryz.func255, Tryz.ntmps255
  go_wp2
  go_region_held3 (fun W => W.cell? ⟨G, 1, none⟩ = some (.slice (some ⟨g, 0, none⟩) code.length c)) (first | exact c0 | exact whole_cell (whole_far (whole_below HW.out (below_drewN (Below.refl _ _) _)) (p := ⟨g, k, none⟩) (fun e => NG.out (by rw [e]; rfl)) _) 1)
    (first | (go_at_call 256; refine (sHere_any _ lo G a code m (mdAt_below H.out (Below.refl _ _).drew) ha hl).mono ?_; rintro e w1 ⟨n, rfl, rfl⟩))
  all_goals
    go_wp2
    go_end0
    exact ⟨rfl, ⟨_, _, whole_far (whole_below HW.out (below_drewN (Below.refl _ _) _)) (p := ⟨g, k, none⟩) (fun e => NG.out (by rw [e]; rfl)) _, ST.out _, prow_apart (prow_below HM.out (below_drewN (Below.refl _ _) _)) NM.out, hg⟩, (below_drewN (Below.refl _ _) _).setCell (by exact hgl) _⟩

set_option maxRecDepth 100000 in
set_option maxHeartbeats 1600000 in
theorem sPop_any (w : World) (lo G : Nat) (a : Int) (code : List Int) (m : List It) (h : MdAt w lo G a code m) (h0 : 0 < m.length) (hl : m.length ≤ 1000000) :
    Calls Tryz.prog 254 #[.pointer (some ⟨G, 0, none⟩)] w (MdPopOf w lo G a code m.dropLast (topM m)) := by
  have hlo := mdAt_lo h
  obtain ⟨n, hn⟩ : ∃ n, m.length = n + 1 := ⟨m.length - 1, by omega⟩
  have hn2 : n ≤ 1000000 := by omega
  have z1 : IntKind.i64.wrap (((n + 1 : Nat) : Int) - 1) = (n : Int) := by rw [show ((n + 1 : Nat) : Int) - 1 = n by omega]; exact IntWalk.i64_in _ (by omega)
  have z2 : (n : Int) < ((n + 1 : Nat) : Int) := by omega
  have ED : Hid (m.dropLast = m.take n) := Lib.hid (by rw [List.dropLast_eq_take]; congr 1; omega)
  obtain ⟨vc, vm, hw, hr, hm, hg⟩ := h
  obtain ⟨_, A, c, rfl, hq⟩ := prow_its hm
  obtain ⟨ad, rfl, hx⟩ := hq h0
  have hx := hx (m.length - 1) (by omega)
  rw [← topM_get h0, show m.length - 1 = n by omega] at hx
  rw [hn] at hm hw
  have hcap := prow_room hm
  have HW := Lib.hid hw
  have HR := Lib.hid hr
  have HC : Hid (PRow 245 w lo (.slice (some ad) n c) (m.take n)) := Lib.hid (prow_cut hm (by omega))
  have hlt := whole_lt hw
  have c2 := whole_cell hw 2
  have f2 := whole_free hw 2
  have ne : w.heap.size ≠ G := by omega
  obtain ⟨x0, x1⟩ := itAt_below (below_alloc (Below.refl _ _) (.cells #[.int .i64 0, .int .i64 0] 245)) hx
  rw [ED.out]
  generalize topM m = x at *
  clear hn h0 hw hr hm hq hl hx
  go_enter Tryz.func254, Tryz.ntmps254
  go_wp2
  refine bodyPost_ret (v := .agg #[.int .i64 x.k, .int .i64 x.v]) (by simp [results, Tryz.results254, go_sem, *]) rfl ⟨rfl, ?_, ?_⟩
  · exact ⟨vc, _, whole_alloc (whole_alloc (whole_set HW.out 2 _) _) _, row_alloc (row_alloc (row_apart HR.out (row_off (by decide) HR.out HW.out)) _) _, prow_alloc (prow_alloc (prow_apart HC.out (prow_off (by decide) HC.out HW.out)) _) _, hg⟩
  · exact (((Below.refl lo w).setCell (by exact hg) _).alloc (by simp; omega) _).alloc (by simp; omega) _

end Go.Proofs.YthnbaeamekolmaaGreatDoor
