/- What spec's operations on a script's data hand back, whole. -/
import Derived.Test.YtojjknjdlipfpaaDatT
namespace Go.Proofs.Ytojjknjdlipfpaa
open Go.RowKit
set_option linter.unusedVariables false
set_option linter.unusedSimpArgs false

theorem small_noDt : SmallD noDt := by unfold noDt SmallD; decide

theorem small_push {d : Dt} (h : DtFine d) (n : Int) : SmallD { d with s := d.s ++ [n] } := by
  have h1 := fine_small h; have h2 := fine_sl h
  exact ⟨by simp; omega, h1.2.1, h1.2.2.1, h1.2.2.2⟩

theorem sPush_any (v : Value) (d : Dt) (n : Int) (w : World) (hv : DatIn w v d) (hs : SmallD d) :
    Calls Try.prog 13 #[v, .int .i64 n] w (ResOf w (dPush d n).1 [(dPush d n).2.1, (dPush d n).2.2]) := by
  cases hk : dOK d
  · have e : dPush d n = (noDt, 0, 1) := by unfold dPush; rw [if_pos hk]
    rw [e]; exact sPush_bad v d n w hv hs hk
  · cases hn : cellB n
    · have e : dPush d n = (noDt, 0, 4) := by unfold dPush; rw [if_neg (by rw [hk]; decide), if_pos hn]
      rw [e]; exact sPush_range v d n w hv hs hk hn
    · by_cases h : d.s.length = 32
      · have e : dPush d n = (d, -3, 0) := by unfold dPush; rw [if_neg (by rw [hk]; decide), if_neg (by rw [hn]; decide), if_pos h]
        rw [e]; exact sPush_main v d n w hv hs hk hn d (-3) hs (Lib.hid fun W hW => sPushFull_any v d n W hW h)
      · have e : dPush d n = ({ d with s := d.s ++ [n] }, 0, 0) := by unfold dPush; rw [if_neg (by rw [hk]; decide), if_neg (by rw [hn]; decide), if_neg h]
        rw [e]; exact sPush_main v d n w hv hs hk hn _ 0 (small_push (dOK_fine hk) n) (Lib.hid fun W hW => sPushMore_any v d n W hW hs h)

theorem small_store {d : Dt} (h : SmallD d) (k : Nat) (n : Int) : SmallD { d with c := d.c.set k n } := ⟨h.1, h.2.1, by simp; exact h.2.2.1, h.2.2.2⟩

theorem sStore_any (v : Value) (d : Dt) (x n : Int) (w : World) (hv : DatIn w v d) (hs : SmallD d) :
    Calls Try.prog 18 #[v, .int .i64 x, .int .i64 n] w (ResOf w (dStore d x n).1 [(dStore d x n).2.1, (dStore d x n).2.2]) := by
  cases hk : dOK d
  · have e : dStore d x n = (noDt, 0, 1) := by unfold dStore; rw [if_pos hk]
    rw [e]; exact sStore_bad v d x n w hv hs hk
  · cases hn : cellB n
    · have e : dStore d x n = (noDt, 0, 4) := by unfold dStore; rw [if_neg (by rw [hk]; decide), if_pos hn]
      rw [e]; exact sStore_range v d x n w hv hs hk hn
    · cases h : dPlace d x with
      | none =>
        have e : dStore d x n = (d, -9, 0) := by unfold dStore; rw [if_neg (by rw [hk]; decide), if_neg (by rw [hn]; decide), h]
        rw [e]; exact sStore_main v d x n w hv hs hk hn d (-9) hs (Lib.hid fun W hW => sStore_none v d x n W hW (dOK_fine hk) h)
      | some k =>
        have e : dStore d x n = ({ d with c := d.c.set k n }, 0, 0) := by unfold dStore; rw [if_neg (by rw [hk]; decide), if_neg (by rw [hn]; decide), h]
        rw [e]; exact sStore_main v d x n w hv hs hk hn _ 0 (small_store hs k n) (Lib.hid fun W hW => sStore_some v d x n k W hW (dOK_fine hk) h)

theorem small_allot {d : Dt} (h : SmallD d) (hd : DtFine d) (n : Int) (hg : goodMove d n) : SmallD { d with c := zeroN d.c d.h.toNat (n.tdiv 4).toNat, h := d.h + n.tdiv 4 } := by
  obtain ⟨h1, h2, h3⟩ := hg
  have q0 := fine_h0 hd
  have q1 := fine_h1 hd
  have q2 := fine_cl hd
  refine ⟨h.1, h.2.1, ?_, h.2.2.2⟩
  show (zeroN d.c d.h.toNat (n.tdiv 4).toNat).length ≤ 1048576
  rw [zeroN_len (by omega)]; exact h.2.2.1

theorem sAllot_any (v : Value) (d : Dt) (n : Int) (w : World) (hv : DatIn w v d) (hs : SmallD d) :
    Calls Try.prog 21 #[v, .int .i64 n] w (ResOf w (dAllot d n).1 [(dAllot d n).2.1, (dAllot d n).2.2]) := by
  cases hk : dOK d
  · have e : dAllot d n = (noDt, 0, 1) := by unfold dAllot; rw [if_pos hk]
    rw [e]; exact sAllot_bad v d n w hv hs hk
  · cases hn : cellB n
    · have e : dAllot d n = (noDt, 0, 4) := by unfold dAllot; rw [if_neg (by rw [hk]; decide), if_pos hn]
      rw [e]; exact sAllot_range v d n w hv hs hk hn
    · by_cases h : goodMove d n
      · have e : dAllot d n = ({ d with c := zeroN d.c d.h.toNat (n.tdiv 4).toNat, h := d.h + n.tdiv 4 }, 0, 0) := by unfold dAllot; rw [if_neg (by rw [hk]; decide), if_neg (by rw [hn]; decide), if_pos h]
        rw [e]; exact sAllot_main v d n w hv hs hk hn _ 0 (small_allot hs (dOK_fine hk) n h) (Lib.hid fun W hW => sAllot_yes v d n W hW (dOK_fine hk) hn h)
      · have e : dAllot d n = (d, -8, 0) := by unfold dAllot; rw [if_neg (by rw [hk]; decide), if_neg (by rw [hn]; decide), if_neg h]
        rw [e]; exact sAllot_main v d n w hv hs hk hn d (-8) hs (Lib.hid fun W hW => sAllot_no v d n W hW (dOK_fine hk) hn h)

theorem small_pop {d : Dt} (h : SmallD d) : SmallD { d with s := d.s.dropLast } := ⟨by have := h.1; simp; omega, h.2.1, h.2.2.1, h.2.2.2⟩

theorem sPop_any (v : Value) (d : Dt) (w : World) (hv : DatIn w v d) (hs : SmallD d) (hc : CapS v) :
    Calls Try.prog 32 #[v] w (ResOf w (dPop d).1 [(dPop d).2.1, (dPop d).2.2.1, (dPop d).2.2.2]) := by
  cases hk : dOK d
  · have e : dPop d = (noDt, 0, 0, 1) := by unfold dPop; rw [if_pos hk]
    rw [e]; exact sPop_bad v d w hv hs hk
  · by_cases h : d.s.length = 0
    · have e : dPop d = (d, 0, -4, 0) := by unfold dPop; rw [if_neg (by rw [hk]; decide), if_pos h]
      rw [e]; exact sPop_main v d w hv hs hk d 0 (-4) hs (Lib.hid fun W hW => sPop_none v d W hW h)
    · have e : dPop d = ({ d with s := d.s.dropLast }, topOf d, 0, 0) := by unfold dPop; rw [if_neg (by rw [hk]; decide), if_neg h]
      rw [e]; exact sPop_main v d w hv hs hk _ (topOf d) 0 (small_pop hs) (Lib.hid fun W hW => sPop_some v d W hW hs hc (by omega))

set_option maxRecDepth 100000 in
set_option maxHeartbeats 2000000 in
theorem sSay_long (v : Value) (d : Dt) (s : ByteArray) (w : World) (hv : DatIn w v d) (h0 : 65536 < s.size) (h1 : s.size ≤ maxLen) :
    Calls Try.prog 24 #[v, .string s] w (ResOf w noDt [0, 2]) := by
  obtain ⟨A1, k1, A2, k2, A3, k3, rfl⟩ := datIn_form hv
  clear hv
  unfold maxLen at h1
  go_enter Try.func24, Try.ntmps24
  go_wp2_with fail
  refine bodyPost_ret (v := .tuple #[.agg #[.slice none 0 0, .slice none 0 0, .slice none 0 0, .int .i64 0, .int .i64 0, .string ByteArray.empty], .int .i64 0, .int .i64 2]) (by simp [results, Try.results24, go_sem]; try rfl) rfl ⟨_, rfl, datOf_none _ _ _, ?_⟩
  repeat (first | with_reducible exact Below.refl _ _ | with_reducible refine below_alloc ?_ _)

theorem small_say {d : Dt} (h : SmallD d) {s : ByteArray} (hs : d.o.size + s.size ≤ 300) : SmallD { d with o := d.o ++ s } := ⟨h.1, h.2.1, h.2.2.1, by simp [ByteArray.size_append]; omega⟩

theorem sSay_any (v : Value) (d : Dt) (s : ByteArray) (w : World) (hv : DatIn w v d) (hs : SmallD d) (hl : s.size ≤ maxLen) :
    Calls Try.prog 24 #[v, .string s] w (ResOf w (dSay d s).1 [(dSay d s).2.1, (dSay d s).2.2]) := by
  by_cases h0 : 65536 < s.size
  · have e : dSay d s = (noDt, 0, 2) := by unfold dSay; rw [if_pos h0]
    rw [e]; exact sSay_long v d s w hv h0 hl
  · cases hk : dOK d
    · have e : dSay d s = (noDt, 0, 1) := by unfold dSay; rw [if_neg h0, if_pos hk]
      rw [e]; exact sSay_bad v d s w hv hs (by omega) hk
    · by_cases h : 300 < d.o.size + s.size
      · have e : dSay d s = (d, -17, 0) := by unfold dSay; rw [if_neg h0, if_neg (by rw [hk]; decide), if_pos h]
        rw [e]; exact sSay_main v d s w hv hs (by omega) hk d (-17) hs (Lib.hid fun W hW => sSay_full v d s W hW hs (by omega) h)
      · have e : dSay d s = ({ d with o := d.o ++ s }, 0, 0) := by unfold dSay; rw [if_neg h0, if_neg (by rw [hk]; decide), if_neg h]
        rw [e]; exact sSay_main v d s w hv hs (by omega) hk _ 0 (small_say hs (by omega)) (Lib.hid fun W hW => sSay_more v d s W hW hs (by omega) (by omega))

/-- Three numbers. -/
def NumsOf (w : World) (ns : List Int) (e : Ending) (w' : World) : Prop := e = .returned (.tuple (ns.map (Value.int .i64)).toArray) ∧ Below w.heap.size w w'

end Go.Proofs.Ytojjknjdlipfpaa
