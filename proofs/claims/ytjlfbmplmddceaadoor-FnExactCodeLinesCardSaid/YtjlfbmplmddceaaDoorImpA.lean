/- impl's kernel: one word of it, the list, the test whether a list begins with it. -/
import Derived.Test.YtjlfbmplmddceaaDoorKerD
import Derived.BigRegion
import Derived.IntWalk
namespace Go.Proofs.YtjlfbmplmddceaaDoor
open Go.RowKit
set_option linter.unusedVariables false
set_option linter.unusedSimpArgs false

/-- The program's two tables hold the names and the ends. -/
def Tabs (w : World) : Prop := (∀ i, i < 6 → w.cell? ⟨0, i, none⟩ = some (.int .i64 (koff i))) ∧ ∀ j, j < 83 → w.cell? ⟨1, j, none⟩ = some (.string (kname j))

theorem tabs_below {w w' : World} (h : Tabs w) (hb : Below w.heap.size w w') : Tabs w' := ⟨fun i hi => cells_below hb _ _ (h.1 i hi), fun j hj => cells_below hb _ _ (h.2 j hj)⟩

theorem kkind_is {m j : Nat} (h : koff m ≤ j) (hm : m < 5) (h2 : j < koff (m + 1)) : kkind j = m := by
  match m, hm with
  | 0, _ => simp only [koff] at h h2; unfold kkind; (repeat' split) <;> omega
  | 1, _ => simp only [koff] at h h2; unfold kkind; (repeat' split) <;> omega
  | 2, _ => simp only [koff] at h h2; unfold kkind; (repeat' split) <;> omega
  | 3, _ => simp only [koff] at h h2; unfold kkind; (repeat' split) <;> omega
  | 4, _ => simp only [koff] at h h2; unfold kkind; (repeat' split) <;> omega

theorem koff_five {m : Nat} (hm : m < 5) (h : koff (m + 1) ≤ 82) : m + 1 < 5 := by
  match m, hm with
  | 0, _ => omega
  | 1, _ => omega
  | 2, _ => omega
  | 3, _ => omega
  | 4, _ => simp [koff] at h

set_option maxRecDepth 100000 in
set_option maxHeartbeats 4000000 in
theorem kernelWord_any (j : Nat) (w : World) (hj : j < 83) (ht : Tabs w) :
    Calls Tryd.prog 84 #[.int .i64 ((j : Int) + 1)] w fun e w' => e = .returned (.agg #[.string (kernAt j).n, .int .i64 (kernAt j).k, .int .i64 (kernAt j).v]) ∧ Below w.heap.size w w' := by
  have HT := Lib.hid ht
  clear ht
  go_enter Tryd.func84, Tryd.ntmps84
  go_wp2
  go_loop [3] (fun i => ∃ m : Nat, m < 5 ∧ i = .int .i64 ((m : Int) + 1) ∧ koff m ≤ j) (fun i => 6 - (intOf i).toNat)
  case atStart => exact ⟨0, by omega, rfl, Nat.zero_le _⟩
  case round =>
    obtain ⟨m, hm, rfl, hk⟩ := hrel
    have c0 := cells_below (below_allocW (Below.refl w.heap.size w) (.cells #[.string ⟨#[]⟩, .int .i64 0, .int .i64 0] 69)) _ _ (HT.out.1 (m + 1) (by omega))
    have c1 := cells_below (below_allocW (Below.refl w.heap.size w) (.cells #[.string ⟨#[]⟩, .int .i64 0, .int .i64 0] 69)) _ _ (HT.out.1 m (by omega))
    have c2 := cells_below (below_allocW (Below.refl w.heap.size w) (.cells #[.string ⟨#[]⟩, .int .i64 0, .int .i64 0] 69)) _ _ (HT.out.2 j hj)
    by_cases hlt : koff (m + 1) ≤ j
    · have h5 := koff_five hm (by omega)
      have HL := Lib.hid hlt
      generalize koff (m + 1) = c at c0 hlt
      clear c1 c2
      go_wp2
      go_round
      case rel => exact ⟨m + 1, h5, by go_num, HL.out⟩
      case measure => simp [intOf]; omega
    · have E : Hid (kernAt j = ⟨kname j, (m : Int) + 1, (j : Int) - koff m + 1⟩) := Lib.hid (by unfold kernAt; rw [kkind_is hk hm (by omega)])
      have hko := koff_le m
      have hko2 := koff_le (m + 1)
      generalize koff (m + 1) = c at *
      generalize koff m = d at *
      generalize kname j = s at *
      go_wp2
      go_region
      all_goals
        go_wp2
        exact bodyPost_ret (v := .agg #[.string s, .int .i64 ((m : Int) + 1), .int .i64 ((j : Int) + 1 - d)]) (by simp [results, Tryd.results84, go_sem, *]) rfl ⟨by rw [E.out]; simp only []; rw [show (j : Int) - d + 1 = (j : Int) + 1 - d by omega], ((Below.refl _ _).alloc (Nat.le_refl _) _).drew⟩

set_option maxRecDepth 100000 in
set_option maxHeartbeats 4000000 in
theorem iKernelWords_any (w : World) (ht : Tabs w) : Calls Tryd.prog 42 #[] w (ListOf w kernW) := by
  obtain ⟨i0, hi0, hz0, hz1, hz2⟩ := info_parts own_infoW
  have I0 := Lib.hid hi0
  have Z0 := Lib.hid hz0
  have Z1 := Lib.hid hz1
  have B8 : Hid (i0.bytes * 83 ≤ 281474976710656) := Lib.hid (by rw [hz2]; omega)
  have HT := Lib.hid ht
  have KL := Lib.hid kernW_len
  clear ht hi0 hz0 hz1 hz2
  go_enter Tryd.func42, Tryd.ntmps42
  go_wp2_with (first
    | (at_make; refine wpList_make_full _ rfl _ _ 28 rfl w.heap.size 69 i0 _ 3 Tryd.underlying28 I0.out Z0.out Z1.out .i64 .i64 _ _ 83 rfl rfl rfl rfl B8.out (by unfold maxLen; omega) (by simp) ?_
       intro w1 ho1 hg1
       rw [made_cells] at ho1
       have R1 : Hid (WRow w1 w.heap.size (.slice (some ⟨w.heap.size, 0, none⟩) 83 83) (wTo kernW 0)) := Lib.hid (by rw [wTo_zero, KL.out]; exact ⟨by simpa using ho1, fun x hx => by rw [(List.mem_replicate.1 hx).2]; decide⟩)
       have B1 : Hid (Below w.heap.size w w1) := Lib.hid ((Below.refl _ _).grown hg1 (Nat.le_refl _) (by simp))
       clear ho1 hg1))
  go_loopw [6] (fun i wr => ∃ k : Nat, k ≤ 83 ∧ i = .int .i64 k ∧ WRow wr w.heap.size (.slice (some ⟨w.heap.size, 0, none⟩) 83 83) (wTo kernW k) ∧ Below w.heap.size w wr) (fun i _ => 83 - (intOf i).toNat)
  case atStart => exact ⟨0, Nat.zero_le _, rfl, R1.out, B1.out⟩
  case round =>
    obtain ⟨k, hk, rfl, hr, hb⟩ := hrel
    have HR := Lib.hid hr
    have HB := Lib.hid hb
    clear hr hb
    have WL : Hid ((wTo kernW k).length = 83) := Lib.hid (by rw [wTo_len kernW (by rw [KL.out]; exact hk), KL.out])
    by_cases hlt : k < 83
    · go_wp2_with fail
      refine (kernelWord_any k _ hlt (tabs_below HT.out HB.out)).mono ?_
      rintro e w2 ⟨rfl, hb2⟩
      have B2 := Lib.hid (below_stepW HB.out hb2)
      have R2 := Lib.hid (wrow_below HR.out hb2)
      clear hb2
      have ST : Hid (WRow (((w2.setCell ⟨w.heap.size, k * 3, none⟩ (.string (kernAt k).n)).setCell ⟨w.heap.size, k * 3 + 1, none⟩ (.int .i64 (kernAt k).k)).setCell ⟨w.heap.size, k * 3 + 2, none⟩ (.int .i64 (kernAt k).v)) w.heap.size (.slice (some ⟨w.heap.size, 0, none⟩) 83 83) (wTo kernW (k + 1))) := Lib.hid (by
        have h := R2.out
        have hlk : k < kernW.length := by rw [KL.out]; exact hlt
        rw [← wTo_next kernW hlk, kernW_at]
        have h2 : WRow w2 w.heap.size (.slice (some ⟨w.heap.size, 0, none⟩) (wTo kernW k).length 83) (wTo kernW k) := by rw [WL.out]; exact h
        have h3 := wrow_set h2 k (by rw [WL.out]; exact hlt) (kernAt k) (by have := kname_small k; unfold kernAt maxLen; simp; omega)
        rw [WL.out] at h3
        exact h3)
      have SB := Lib.hid (below_set3 B2.out (g := w.heap.size) (Nat.le_refl _) (k * 3) (k * 3 + 1) (k * 3 + 2) (.string (kernAt k).n) (.int .i64 (kernAt k).k) (.int .i64 (kernAt k).v))
      have zl : w.heap.size < w2.heap.size := (wrow_lt R2.out _ rfl).2
      obtain ⟨o0, o1, o2⟩ := wrow_at (by have h := R2.out.1; rw [show 83 = (wTo kernW k).length from WL.out.symm] at h; exact h) k (by rw [WL.out]; exact hlt)
      have f0 := wrow_free R2.out (k * 3)
      have f1 := wrow_free R2.out (k * 3 + 1)
      have f2 := wrow_free R2.out (k * 3 + 2)
      generalize ((wTo kernW k)[k]'(by rw [WL.out]; exact hlt)) = old at *
      go_wp2
      go_roundw
      case rel => exact ⟨k + 1, by omega, by go_num, ST.out, SB.out⟩
      case measure => simp [intOf]; omega
    · obtain rfl : k = 83 := by omega
      clear hlt
      have R9 : Hid (WRow wr w.heap.size (.slice (some ⟨w.heap.size, 0, none⟩) 83 83) kernW) := Lib.hid (by have h := HR.out; have e := wTo_end kernW; rw [KL.out] at e; rwa [e] at h)
      go_wp2
      go_ret
      exact ⟨_, rfl, R9.out, by simp [Value.ownBlock], HB.out⟩

theorem tabs_drew {w : World} (h : Tabs w) : Tabs w.drew := h

theorem box_cells {W W' : World} {a b c : Value} {t : TypeId} (hb : Below (W.alloc (.cells #[a, b, c] t)).heap.size (W.alloc (.cells #[a, b, c] t)) W') :
    W'.cell? ⟨W.heap.size, 0, none⟩ = some a ∧ W'.cell? ⟨W.heap.size, 1, none⟩ = some b ∧ W'.cell? ⟨W.heap.size, 2, none⟩ = some c :=
  ⟨cells_below hb _ _ (by simp), cells_below hb _ _ (by simp), cells_below hb _ _ (by simp)⟩

set_option maxRecDepth 100000 in
set_option maxHeartbeats 4000000 in
theorem iStarts_any (v : Value) (Q : List Wd) (w : World) (hv : Wds w v Q) (ht : Tabs w) :
    Calls Tryd.prog 78 #[v] w fun e w' => e = .returned (.bool (kernB Q)) ∧ Below w.heap.size w w' := by
  have HV := Lib.hid hv
  have HT := Lib.hid ht
  obtain ⟨A, ca, rfl, hcap, hl, hn⟩ := wds_form hv
  unfold maxLen at hl
  clear hn hv ht
  by_cases hs : Q.length < 83
  · have E := Lib.hid (kernB_short hs)
    go_enter Tryd.func78, Tryd.ntmps78
    go_wp2
    go_ret
    exact ⟨ret_bool E.out.symm, Below.refl _ _⟩
  · obtain ⟨g, rfl⟩ := wds_block HV.out (by omega)
    go_enter Tryd.func78, Tryd.ntmps78
    go_wp2
    go_loopw [11] (fun i wr => ∃ k : Nat, k ≤ 83 ∧ i = .int .i64 k ∧ KernTo Q k ∧ Below w.heap.size w wr) (fun i _ => 83 - (intOf i).toNat)
    case atStart => exact ⟨0, Nat.zero_le _, rfl, kernTo_zero Q, Below.refl _ _⟩
    case round =>
      obtain ⟨k, hk, rfl, hkt, hb⟩ := hrel
      have HB := Lib.hid hb
      have HK := Lib.hid hkt
      clear hb hkt
      by_cases hlt : k < 83
      · have hlq : k < Q.length := by omega
        obtain ⟨c0, c1, c2⟩ := wds_word (wds_below HV.out HB.out) k hlq
        have NX : Hid (Q[k] = kernAt k → KernTo Q (k + 1)) := Lib.hid (kernTo_next HK.out hlq hlt)
        have NN : Hid (Q[k] ≠ kernAt k → kernB Q = false) := Lib.hid (kernB_not hlq hlt)
        have CC : Hid (∀ W, Tabs W → Calls Tryd.prog 84 #[.int .i64 ((k : Int) + 1)] W fun e w' => e = .returned (.agg #[.string (kernAt k).n, .int .i64 (kernAt k).k, .int .i64 (kernAt k).v]) ∧ Below W.heap.size W w') := Lib.hid (fun W hW => kernelWord_any k W hlt hW)
        generalize Q[k] = x at *
        generalize kernAt k = y at *
        simp only [] at c0 c1 c2
        have TB : Hid (Tabs (wr.alloc (.cells #[.string x.n, .int .i64 x.k, .int .i64 x.v] 69))) := Lib.hid (tabs_below HT.out (below_allocW HB.out _))
        have BX : Hid ((wr.alloc (.cells #[.string x.n, .int .i64 x.k, .int .i64 x.v] 69)).cell? ⟨wr.heap.size, 0, none⟩ = some (.string x.n) ∧ (wr.alloc (.cells #[.string x.n, .int .i64 x.k, .int .i64 x.v] 69)).cell? ⟨wr.heap.size, 1, none⟩ = some (.int .i64 x.k) ∧ (wr.alloc (.cells #[.string x.n, .int .i64 x.k, .int .i64 x.v] 69)).cell? ⟨wr.heap.size, 2, none⟩ = some (.int .i64 x.v)) := Lib.hid (by simp)
        have BA : Hid (Below w.heap.size w (wr.alloc (.cells #[.string x.n, .int .i64 x.k, .int .i64 x.v] 69))) := Lib.hid (below_allocW HB.out _)
        by_cases e1 : x.n = y.n
        · have t1 : (x.n.toList == y.n.toList) = true := by rw [text_same, e1]; simp
          by_cases e2 : x.k = y.k
          · have t2 : (x.k == y.k) = true := by simp [e2]
            by_cases e3 : x.v = y.v
            · have t3 : (x.v == y.v) = true := by simp [e3]
              have NY := Lib.hid (NX.out (wd_ext e1 e2 e3))
              clear e1 e2 e3
              go_wp2
              generalize hW : wr.alloc (.cells #[.string x.n, .int .i64 x.k, .int .i64 x.v] 69) = W at *
              clear hW c0 c1 c2
              obtain ⟨x0, x1, x2⟩ := BX.out
              have s1 : IntKind.i64.wrap ((k : Int) + 1) = (k : Int) + 1 := IntWalk.i64_in _ (by omega)
              go_region_held3 (fun w' => w'.cell? ⟨wr.heap.size, 0, none⟩ = some (.string x.n) ∧ w'.cell? ⟨wr.heap.size, 1, none⟩ = some (.int .i64 x.k) ∧ w'.cell? ⟨wr.heap.size, 2, none⟩ = some (.int .i64 x.v)) (first | exact ⟨x0, x1, x2⟩ | exact ⟨cells_below hb2 _ _ x0, cells_below hb2 _ _ x1, cells_below hb2 _ _ x2⟩)
                (first | (go_at_call 84; refine (CC.out _ ?_).mono ?_; (first | exact TB.out | exact tabs_drew TB.out); rintro e w2 ⟨rfl, hb2⟩))
              have B2 := Lib.hid (BA.out.drew.trans (hb2.mono BA.out.drew.size))
              clear hb2 x0 x1 x2 s1
              go_wp2
              go_roundw
              case rel => exact ⟨k + 1, by omega, by go_num, NY.out, B2.out⟩
              case measure => simp [intOf]; omega
            · have t3 : (x.v == y.v) = false := by simp [e3]
              have NY := Lib.hid (NN.out (fun e => e3 (by rw [e])))
              clear e1 e2 e3
              go_wp2
              generalize hW : wr.alloc (.cells #[.string x.n, .int .i64 x.k, .int .i64 x.v] 69) = W at *
              clear hW c0 c1 c2
              obtain ⟨x0, x1, x2⟩ := BX.out
              have s1 : IntKind.i64.wrap ((k : Int) + 1) = (k : Int) + 1 := IntWalk.i64_in _ (by omega)
              go_region_held3 (fun w' => w'.cell? ⟨wr.heap.size, 0, none⟩ = some (.string x.n) ∧ w'.cell? ⟨wr.heap.size, 1, none⟩ = some (.int .i64 x.k) ∧ w'.cell? ⟨wr.heap.size, 2, none⟩ = some (.int .i64 x.v)) (first | exact ⟨x0, x1, x2⟩ | exact ⟨cells_below hb2 _ _ x0, cells_below hb2 _ _ x1, cells_below hb2 _ _ x2⟩)
                (first | (go_at_call 84; refine (CC.out _ ?_).mono ?_; (first | exact TB.out | exact tabs_drew TB.out); rintro e w2 ⟨rfl, hb2⟩))
              have B2 := Lib.hid (BA.out.drew.trans (hb2.mono BA.out.drew.size))
              clear hb2 x0 x1 x2 s1
              go_wp2
              go_ret
              exact ⟨ret_bool NY.out.symm, B2.out⟩
          · have t2 : (x.k == y.k) = false := by simp [e2]
            have NY := Lib.hid (NN.out (fun e => e2 (by rw [e])))
            clear e1 e2
            go_wp2
            generalize hW : wr.alloc (.cells #[.string x.n, .int .i64 x.k, .int .i64 x.v] 69) = W at *
            clear hW c0 c1 c2
            obtain ⟨x0, x1, x2⟩ := BX.out
            have s1 : IntKind.i64.wrap ((k : Int) + 1) = (k : Int) + 1 := IntWalk.i64_in _ (by omega)
            go_region_held3 (fun w' => w'.cell? ⟨wr.heap.size, 0, none⟩ = some (.string x.n) ∧ w'.cell? ⟨wr.heap.size, 1, none⟩ = some (.int .i64 x.k) ∧ w'.cell? ⟨wr.heap.size, 2, none⟩ = some (.int .i64 x.v)) (first | exact ⟨x0, x1, x2⟩ | exact ⟨cells_below hb2 _ _ x0, cells_below hb2 _ _ x1, cells_below hb2 _ _ x2⟩)
              (first | (go_at_call 84; refine (CC.out _ ?_).mono ?_; (first | exact TB.out | exact tabs_drew TB.out); rintro e w2 ⟨rfl, hb2⟩))
            have B2 := Lib.hid (BA.out.drew.trans (hb2.mono BA.out.drew.size))
            clear hb2 x0 x1 x2 s1
            go_wp2
            go_ret
            exact ⟨ret_bool NY.out.symm, B2.out⟩
        · have t1 : (x.n.toList == y.n.toList) = false := by rw [text_same]; simp [e1]
          have NY := Lib.hid (NN.out (fun e => e1 (by rw [e])))
          clear e1
          go_wp2
          generalize hW : wr.alloc (.cells #[.string x.n, .int .i64 x.k, .int .i64 x.v] 69) = W at *
          clear hW c0 c1 c2
          obtain ⟨x0, x1, x2⟩ := BX.out
          have s1 : IntKind.i64.wrap ((k : Int) + 1) = (k : Int) + 1 := IntWalk.i64_in _ (by omega)
          go_region_held3 (fun w' => w'.cell? ⟨wr.heap.size, 0, none⟩ = some (.string x.n) ∧ w'.cell? ⟨wr.heap.size, 1, none⟩ = some (.int .i64 x.k) ∧ w'.cell? ⟨wr.heap.size, 2, none⟩ = some (.int .i64 x.v)) (first | exact ⟨x0, x1, x2⟩ | exact ⟨cells_below hb2 _ _ x0, cells_below hb2 _ _ x1, cells_below hb2 _ _ x2⟩)
            (first | (go_at_call 84; refine (CC.out _ ?_).mono ?_; (first | exact TB.out | exact tabs_drew TB.out); rintro e w2 ⟨rfl, hb2⟩))
          have B2 := Lib.hid (BA.out.drew.trans (hb2.mono BA.out.drew.size))
          clear hb2 x0 x1 x2 s1
          go_wp2
          go_ret
          exact ⟨ret_bool NY.out.symm, B2.out⟩
      · obtain rfl : k = 83 := by omega
        have E := Lib.hid (kernTo_end HK.out)
        clear hlt
        go_wp2
        go_ret
        exact ⟨ret_bool E.out.symm, HB.out⟩

end Go.Proofs.YtjlfbmplmddceaaDoor
