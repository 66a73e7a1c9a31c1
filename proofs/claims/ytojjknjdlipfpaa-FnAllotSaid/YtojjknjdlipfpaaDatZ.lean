/- What impl's operations on a script's data hand back, whole; new data. -/
import Derived.Test.YtojjknjdlipfpaaDatY
import Derived.Test.YtojjknjdlipfpaaDatM
namespace Go.Proofs.Ytojjknjdlipfpaa
open Go.RowKit
set_option linter.unusedVariables false
set_option linter.unusedSimpArgs false

theorem iPush_any (v : Value) (d : Dt) (n : Int) (w : World) (hv : DatIn w v d) (hs : SmallD d) :
    Calls Try.prog 12 #[v, .int .i64 n] w (ResOf w (dPush d n).1 [(dPush d n).2.1, (dPush d n).2.2]) := by
  cases hk : dOK d
  · have e : dPush d n = (noDt, 0, 1) := by unfold dPush; rw [if_pos hk]
    rw [e]; exact iPush_bad v d n w hv hs hk
  · cases hn : cellB n
    · have e : dPush d n = (noDt, 0, 4) := by unfold dPush; rw [if_neg (by rw [hk]; decide), if_pos hn]
      rw [e]; exact iPush_range v d n w hv hs hk hn
    · by_cases h : d.s.length = 32
      · have e : dPush d n = (d, -3, 0) := by unfold dPush; rw [if_neg (by rw [hk]; decide), if_neg (by rw [hn]; decide), if_pos h]
        rw [e]; exact iPush_main v d n w hv hs hk hn d (-3) (Lib.hid fun W lo g hb => push_full lo g d n W hb h)
      · have e : dPush d n = ({ d with s := d.s ++ [n] }, 0, 0) := by unfold dPush; rw [if_neg (by rw [hk]; decide), if_neg (by rw [hn]; decide), if_neg h]
        have hl := fine_sl (dOK_fine hk)
        rw [e]; exact iPush_main v d n w hv hs hk hn _ 0 (Lib.hid fun W lo g hb => push_more lo g d n W hb (by omega))

theorem iStore_any (v : Value) (d : Dt) (x n : Int) (w : World) (hv : DatIn w v d) (hs : SmallD d) (hx : x ≤ 9223372036854775807) :
    Calls Try.prog 17 #[v, .int .i64 x, .int .i64 n] w (ResOf w (dStore d x n).1 [(dStore d x n).2.1, (dStore d x n).2.2]) := by
  cases hk : dOK d
  · have e : dStore d x n = (noDt, 0, 1) := by unfold dStore; rw [if_pos hk]
    rw [e]; exact iStore_bad v d x n w hv hs hk
  · cases hn : cellB n
    · have e : dStore d x n = (noDt, 0, 4) := by unfold dStore; rw [if_neg (by rw [hk]; decide), if_pos hn]
      rw [e]; exact iStore_range v d x n w hv hs hk hn
    · cases h : dPlace d x with
      | none =>
        have e : dStore d x n = (d, -9, 0) := by unfold dStore; rw [if_neg (by rw [hk]; decide), if_neg (by rw [hn]; decide), h]
        rw [e]; exact iStore_main v d x n w hv hs hk hn d (-9) (Lib.hid fun W lo g hb => store_none lo g d x n W hb (dOK_fine hk) hx h)
      | some k =>
        have e : dStore d x n = ({ d with c := d.c.set k n }, 0, 0) := by unfold dStore; rw [if_neg (by rw [hk]; decide), if_neg (by rw [hn]; decide), h]
        rw [e]; exact iStore_main v d x n w hv hs hk hn _ 0 (Lib.hid fun W lo g hb => store_some lo g d x n k W hb (dOK_fine hk) h)

theorem iAllot_any (v : Value) (d : Dt) (n : Int) (w : World) (hv : DatIn w v d) (hs : SmallD d) :
    Calls Try.prog 20 #[v, .int .i64 n] w (ResOf w (dAllot d n).1 [(dAllot d n).2.1, (dAllot d n).2.2]) := by
  cases hk : dOK d
  · have e : dAllot d n = (noDt, 0, 1) := by unfold dAllot; rw [if_pos hk]
    rw [e]; exact iAllot_bad v d n w hv hs hk
  · cases hn : cellB n
    · have e : dAllot d n = (noDt, 0, 4) := by unfold dAllot; rw [if_neg (by rw [hk]; decide), if_pos hn]
      rw [e]; exact iAllot_range v d n w hv hs hk hn
    · by_cases h : goodMove d n
      · have e : dAllot d n = ({ d with c := zeroN d.c d.h.toNat (n.tdiv 4).toNat, h := d.h + n.tdiv 4 }, 0, 0) := by unfold dAllot; rw [if_neg (by rw [hk]; decide), if_neg (by rw [hn]; decide), if_pos h]
        rw [e]
        by_cases hq : n.tdiv 4 ≤ 0
        · exact iAllot_main v d n w hv hs hk hn _ 0 (Lib.hid fun W lo g hb => allot_down lo g d n W hb (dOK_fine hk) hn h hq)
        · exact iAllot_main v d n w hv hs hk hn _ 0 (Lib.hid fun W lo g hb => allot_up lo g d n W hb (dOK_fine hk) hn h (by omega))
      · have e : dAllot d n = (d, -8, 0) := by unfold dAllot; rw [if_neg (by rw [hk]; decide), if_neg (by rw [hn]; decide), if_neg h]
        rw [e]; exact iAllot_main v d n w hv hs hk hn d (-8) (Lib.hid fun W lo g hb => allot_no lo g d n W hb (dOK_fine hk) hn h)

theorem iPop_any (v : Value) (d : Dt) (w : World) (hv : DatIn w v d) (hs : SmallD d) :
    Calls Try.prog 15 #[v] w (ResOf w (dPop d).1 [(dPop d).2.1, (dPop d).2.2.1, (dPop d).2.2.2]) := by
  cases hk : dOK d
  · have e : dPop d = (noDt, 0, 0, 1) := by unfold dPop; rw [if_pos hk]
    rw [e]; exact iPop_bad v d w hv hs hk
  · by_cases h : d.s.length = 0
    · have e : dPop d = (d, 0, -4, 0) := by unfold dPop; rw [if_neg (by rw [hk]; decide), if_pos h]
      rw [e]; exact iPop_main v d w hv hs hk d 0 (-4) (Lib.hid fun W lo g hb => pop_none lo g d W hb h)
    · have e : dPop d = ({ d with s := d.s.dropLast }, topOf d, 0, 0) := by unfold dPop; rw [if_neg (by rw [hk]; decide), if_neg h]
      rw [e]; exact iPop_main v d w hv hs hk _ (topOf d) 0 (Lib.hid fun W lo g hb => pop_some lo g d W hb (by omega) hs.1)

set_option maxRecDepth 100000 in
set_option maxHeartbeats 2000000 in
theorem iSay_long (v : Value) (d : Dt) (s : ByteArray) (w : World) (hv : DatIn w v d) (h0 : 65536 < s.size) (h1 : s.size ≤ maxLen) :
    Calls Try.prog 23 #[v, .string s] w (ResOf w noDt [0, 2]) := by
  obtain ⟨A1, k1, A2, k2, A3, k3, rfl⟩ := datIn_form hv
  clear hv
  unfold maxLen at h1
  go_enter Try.func23, Try.ntmps23
  go_wp2_with fail
  refine bodyPost_ret (v := .tuple #[.agg #[.slice none 0 0, .slice none 0 0, .slice none 0 0, .int .i64 0, .int .i64 0, .string ByteArray.empty], .int .i64 0, .int .i64 2]) (by simp [results, Try.results23, go_sem]; try rfl) rfl ⟨_, rfl, datOf_none _ _ _, ?_⟩
  repeat (first | with_reducible exact Below.refl _ _ | with_reducible refine below_alloc ?_ _)

theorem iSay_any (v : Value) (d : Dt) (s : ByteArray) (w : World) (hv : DatIn w v d) (hs : SmallD d) (hl : s.size ≤ maxLen) :
    Calls Try.prog 23 #[v, .string s] w (ResOf w (dSay d s).1 [(dSay d s).2.1, (dSay d s).2.2]) := by
  by_cases h0 : 65536 < s.size
  · have e : dSay d s = (noDt, 0, 2) := by unfold dSay; rw [if_pos h0]
    rw [e]; exact iSay_long v d s w hv h0 hl
  · cases hk : dOK d
    · have e : dSay d s = (noDt, 0, 1) := by unfold dSay; rw [if_neg h0, if_pos hk]
      rw [e]; exact iSay_bad v d s w hv hs (by omega) hk
    · have ho := fine_o (dOK_fine hk)
      by_cases h : 300 < d.o.size + s.size
      · have e : dSay d s = (d, -17, 0) := by unfold dSay; rw [if_neg h0, if_neg (by rw [hk]; decide), if_pos h]
        rw [e]; exact iSay_main v d s w hv hs (by omega) hk d (-17) (Lib.hid fun W lo g hb => say_full lo g d s W hb ho (by omega) h)
      · have e : dSay d s = ({ d with o := d.o ++ s }, 0, 0) := by unfold dSay; rw [if_neg h0, if_neg (by rw [hk]; decide), if_neg h]
        rw [e]; exact iSay_main v d s w hv hs (by omega) hk _ 0 (Lib.hid fun W lo g hb => say_more lo g d s W hb ho (by omega) (by omega))

set_option maxRecDepth 100000 in
set_option maxHeartbeats 2000000 in
theorem iFetch_any (v : Value) (d : Dt) (x : Int) (w : World) (hv : DatIn w v d) (hx : x ≤ 9223372036854775807) :
    Calls Try.prog 19 #[v, .int .i64 x] w (NumsOf w [(dFetch d x).1, (dFetch d x).2.1, (dFetch d x).2.2]) := by
  have HD := hv
  obtain ⟨A1, k1, A2, k2, A3, k3, rfl⟩ := datIn_form hv
  clear hv
  cases hk : dOK d
  · have e : dFetch d x = (0, 0, 1) := by unfold dFetch; rw [if_pos hk]
    rw [e]
    go_enter Try.func19, Try.ntmps19
    go_wp2_with fail
    refine (dataOK_any _ d _ (datIn_below HD (below_alloc (Below.refl _ _) _))).mono ?_
    rintro e w1 ⟨rfl, hb⟩
    have B1 := below_step (below_alloc (Below.refl _ _) _) hb
    clear hb
    go_wp2
    go_ret3
    exact ⟨rfl, B1⟩
  · have hd := dOK_fine hk
    cases h : dPlace d x with
    | none =>
      have e : dFetch d x = (0, -9, 0) := by unfold dFetch; rw [if_neg (by rw [hk]; decide), h]
      have H := Lib.hid h
      rw [e]
      clear h e
      go_enter Try.func19, Try.ntmps19
      go_wp2_with fail
      refine (dataOK_any _ d _ (datIn_below HD (below_alloc (Below.refl _ _) _))).mono ?_
      rintro e w1 ⟨rfl, hb⟩
      have B1 := below_step (below_alloc (Below.refl _ _) _) hb
      have V1 := whole_b hb (whole_new w _ _)
      clear hb
      go_wp2_with fail
      refine (fetch_none _ _ _ _ _ d x _ V1 (fine_h0 hd) (fine_h1 hd) hx H.out).mono ?_
      rintro e w2 ⟨rfl, rfl⟩
      go_wp2
      go_ret3
      exact ⟨rfl, B1⟩
    | some k =>
      have hk2 := (place_lt h hd).2
      have e : dFetch d x = (d.c[k], 0, 0) := by unfold dFetch; rw [if_neg (by rw [hk]; decide), h]; simp [hk2]
      have H := Lib.hid h
      have hcl := fine_cl hd
      obtain ⟨y, hy⟩ : ∃ y, y = d.c[k] := ⟨_, rfl⟩
      rw [← hy] at e
      have HY := Lib.hid hy
      rw [e]
      clear h e hy
      obtain ⟨_, A', c', hv', hc⟩ := datIn_third HD
      simp only [Value.slice.injEq, true_and] at hv'
      obtain ⟨rfl, rfl⟩ := hv'
      obtain ⟨ad, rfl, hc'⟩ := hc (by omega)
      have CM := Lib.hid (hc' k hk2)
      clear hc hc' hcl
      go_enter Try.func19, Try.ntmps19
      go_wp2_with fail
      refine (dataOK_any _ d _ (datIn_below HD (below_alloc (Below.refl _ _) _))).mono ?_
      rintro e w1 ⟨rfl, hb⟩
      have B1 := below_step (below_alloc (Below.refl _ _) _) hb
      have V1 := whole_b hb (whole_new w _ _)
      clear hb
      go_wp2_with fail
      refine (fetch_some _ _ _ _ ad _ d x k y _ V1 (fine_h0 hd) (fine_h1 hd) (fine_cl hd) H.out (by rw [B1.cell (World.block_lt_of_cell? w _ CM.out), CM.out, HY.out])).mono ?_
      rintro e w2 ⟨rfl, rfl⟩
      go_wp2
      go_ret3
      exact ⟨rfl, B1⟩

theorem dPush_small {d : Dt} (hs : SmallD d) (n : Int) : SmallD (dPush d n).1 := by
  unfold dPush
  split
  · exact small_noDt
  · split
    · exact small_noDt
    · split
      · exact hs
      · rename_i h _ _
        exact small_push (dOK_fine (by simpa using h)) n

theorem dPop_small {d : Dt} (hs : SmallD d) : SmallD (dPop d).1 := by
  unfold dPop
  split
  · exact small_noDt
  · split
    · exact hs
    · exact small_pop hs

theorem dStore_small {d : Dt} (hs : SmallD d) (x n : Int) : SmallD (dStore d x n).1 := by
  unfold dStore
  split
  · exact small_noDt
  · split
    · exact small_noDt
    · split
      · exact hs
      · exact small_store hs _ n

theorem dAllot_small {d : Dt} (hs : SmallD d) (n : Int) : SmallD (dAllot d n).1 := by
  unfold dAllot
  split
  · exact small_noDt
  · split
    · exact small_noDt
    · split
      · rename_i h _ hg
        exact small_allot hs (dOK_fine (by simpa using h)) n hg
      · exact hs

theorem dSay_small {d : Dt} (hs : SmallD d) (s : ByteArray) : SmallD (dSay d s).1 := by
  unfold dSay
  split
  · exact small_noDt
  · split
    · exact small_noDt
    · split
      · exact hs
      · exact small_say hs (by omega)

end Go.Proofs.Ytojjknjdlipfpaa
