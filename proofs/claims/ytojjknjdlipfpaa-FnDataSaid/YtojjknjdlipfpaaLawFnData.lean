/- laws.FnData returns true at every two codes: what is pushed is popped and what lies below stays; what is stored is fetched and no other cell is turned; the answers are the specification's. No condition. -/
import Derived.Test.YtojjknjdlipfpaaRows
import Derived.Test.YtojjknjdlipfpaaDrC
import Derived.Test.YtojjknjdlipfpaaDatZ
import Derived.Test.YtojjknjdlipfpaaDatL
import Derived.WalkKit
import Derived.ProofKit
import Derived.OpenShut
import Derived.ShutString
import Derived.ChangeOld
import Derived.Below
namespace Go.Proofs.Ytojjknjdlipfpaa.fnData
open Go.ChangeShapes Go.WideShapes Go.ChangeAt Go.RowKit
open Go.ChangeMaps (open_string shut_string)
set_option linter.unusedSimpArgs false
set_option linter.unusedVariables false

theorem own : ownKnob Try.prog.godebug = none := by kernel_rfl
theorem laidOut : laidOutB Try.prog = true := by kernel_rfl

theorem at32 (a : Option Addr) (len cap : Nat) (zs : List Int) (w : World) (h : BRow w a len cap zs) (hlx : len ≤ 1048576) :
    Calls Try.prog 16 #[.slice a len cap, .int .i64 0, .int .i64 32] w (AtPost w 32) :=
  at_any a len cap zs 0 32 w h hlx (by omega) (by omega) (by omega)

/-- What a push comes to at valid data: full; or the push is taken back by a pop. -/
theorem push_key {d : Dt} (hd : DtFine d) {n : Int} (hn : cellB n = true) : ∃ (r : Dt) (th : Int), dPush d n = (r, th, 0) ∧ DtFine r ∧ SmallD r ∧ (th = -3 ∨ (th = 0 ∧ dPop r = (d, n, 0, 0))) := by
  have hk := dOK_true hd
  have hl := fine_sl hd
  by_cases h : d.s.length = 32
  · exact ⟨d, -3, by unfold dPush; rw [if_neg (by rw [hk]; decide), if_neg (by rw [hn]; decide), if_pos h], hd, fine_small hd, .inl rfl⟩
  · have hf : DtFine { d with s := d.s ++ [n] } := ⟨by show (d.s ++ [n]).length ≤ 32; simp; omega, show d.b.length ≤ 32 from fine_bl hd, show d.c.length = 32 from fine_cl hd, cellsB_snoc (fine_sc hd) (cellB_true.1 hn), show cellsB d.b = true from fine_bc hd,
      show cellsB d.c = true from fine_cc hd, show 0 ≤ d.h from fine_h0 hd, show d.h ≤ 32 from fine_h1 hd, show baseB d.n = true from fine_n hd, show d.o.size ≤ 300 from fine_o hd⟩
    refine ⟨{ d with s := d.s ++ [n] }, 0, by unfold dPush; rw [if_neg (by rw [hk]; decide), if_neg (by rw [hn]; decide), if_neg h], hf, fine_small hf, .inr ⟨rfl, ?_⟩⟩
    unfold dPop topOf
    rw [if_neg (by rw [dOK_true hf]; decide), if_neg (by simp)]
    simp

/-- What a store comes to at valid data and an address of the area. -/
theorem store_key {d : Dt} (hd : DtFine d) {n : Int} (hn : cellB n = true) {a : Nat} (ha : a < 32) : ∃ (z : Dt) (th : Int), dStore d (4096 + 4 * (a : Int)) n = (z, th, 0) ∧ DtFine z ∧ z.h = d.h ∧
    ∀ j : Nat, (j : Int) < d.h → z.c.getD j 0 = if j = a then n else d.c.getD j 0 := by
  have hk := dOK_true hd
  have hc := fine_cl hd
  have hh := fine_h1 hd
  by_cases h : (a : Int) < d.h
  · have hp : dPlace d (4096 + 4 * (a : Int)) = some a := by
      unfold dPlace
      rw [if_pos ⟨by omega, by omega, by omega⟩]
      congr 1; omega
    have hf : DtFine { d with c := d.c.set a n } := ⟨show d.s.length ≤ 32 from fine_sl hd, show d.b.length ≤ 32 from fine_bl hd, by show (d.c.set a n).length = 32; rw [List.length_set]; exact hc, show cellsB d.s = true from fine_sc hd, show cellsB d.b = true from fine_bc hd,
      cellsB_set (fine_cc hd) (cellB_true.1 hn), show 0 ≤ d.h from fine_h0 hd, show d.h ≤ 32 from fine_h1 hd, show baseB d.n = true from fine_n hd, show d.o.size ≤ 300 from fine_o hd⟩
    refine ⟨{ d with c := d.c.set a n }, 0, by unfold dStore; rw [if_neg (by rw [hk]; decide), if_neg (by rw [hn]; decide), hp], hf, rfl, fun j hj => ?_⟩
    simp only [List.getD_eq_getElem?_getD, List.getElem?_set]
    by_cases e : a = j
    · subst e; rw [if_pos rfl, if_pos rfl, if_pos (by omega)]; rfl
    · rw [if_neg e, if_neg (fun h => e h.symm)]
  · have hp : dPlace d (4096 + 4 * (a : Int)) = none := by
      unfold dPlace
      rw [if_neg (by rintro ⟨_, h2, _⟩; omega)]
    refine ⟨d, -9, by unfold dStore; rw [if_neg (by rw [hk]; decide), if_neg (by rw [hn]; decide), hp], hd, rfl, fun j hj => ?_⟩
    rw [if_neg (by omega)]

theorem fetch_odd {d : Dt} (hd : DtFine d) {a : Nat} : dFetch d (4096 + 4 * (a : Int) + 1) = (0, -9, 0) := by
  have hp : dPlace d (4096 + 4 * (a : Int) + 1) = none := by
    unfold dPlace
    rw [if_neg (by rintro ⟨_, _, h⟩; omega)]
  unfold dFetch
  rw [if_neg (by rw [dOK_true hd]; decide), hp]

theorem fetch_at {z : Dt} (hd : DtFine z) {j : Nat} (hj : j < 32) : dFetch z (4096 + 4 * (j : Int)) = if (j : Int) < z.h then (z.c.getD j 0, 0, 0) else (0, -9, 0) := by
  have hh := fine_h1 hd
  unfold dFetch
  rw [if_neg (by rw [dOK_true hd]; decide)]
  by_cases h : (j : Int) < z.h
  · have hp : dPlace z (4096 + 4 * (j : Int)) = some j := by
      unfold dPlace
      rw [if_pos ⟨by omega, by omega, by omega⟩]
      congr 1; omega
    rw [hp, if_pos h]
  · have hp : dPlace z (4096 + 4 * (j : Int)) = none := by
      unfold dPlace
      rw [if_neg (by rintro ⟨_, h2, _⟩; omega)]
    rw [hp, if_neg h]

set_option maxRecDepth 100000 in
set_option maxHeartbeats 2000000 in
theorem walk (a0 : Option Addr) (len0 cap0 : Nat) (z0 : List Int) (a1 : Option Addr) (len1 cap1 : Nat) (z1 : List Int) (w : World) (w0 : BRow w a0 len0 cap0 z0) (w1 : BRow w a1 len1 cap1 z1) :
    Calls Try.prog 3 #[.slice a0 len0 cap0, .slice a1 len1 cap1] w fun e w' => e = .returned (.bool true) ∧ Below w.heap.size w w' := by
  have g0 : BRow w a0 len0 cap0 z0 := w0
  have g1 : BRow w a1 len1 cap1 z1 := w1
  have W0 := Lib.hid g0
  have W1 := Lib.hid g1
  have l0m : len0 ≤ maxLen := by rcases g0 with ⟨_, h, _⟩ | ⟨_, _, h1, h2, _⟩ <;> omega
  have l1m : len1 ≤ maxLen := by rcases g1 with ⟨_, h, _⟩ | ⟨_, _, h1, h2, _⟩ <;> omega
  unfold maxLen at l0m l1m
  clear w0 w1 g0 g1
  by_cases l0 : len0 ≤ 1048576
  rotate_left
  · go_enter Try.func3, Try.ntmps3
    go_wp2
    go_ret
    exact ⟨rfl, Below.refl _ _⟩
  by_cases l1 : len1 ≤ 1048576
  rotate_left
  · go_enter Try.func3, Try.ntmps3
    go_wp2
    go_ret
    exact ⟨rfl, Below.refl _ _⟩
  go_enter Try.func3, Try.ntmps3
  go_wp2_with fail
  refine (dataDrawn_any _ _ _ _ _ W0.out (by omega)).mono ?_
  rintro e m1 ⟨u, d, rfl, hd, UD1, hb⟩
  obtain ⟨A1, k1, A2, k2, A3, k3, rfl⟩ := datIn_form (datOf_in UD1)
  have hs := fine_small hd
  have q0 := fine_h0 hd
  have q1 := fine_h1 hd
  have B1 := hb
  clear hb
  go_wp2_with fail
  refine (cellDrawn_any _ _ _ _ _ (brow_alloc (brow_below W1.out B1) _) (by omega)).mono ?_
  rintro e m2 ⟨n, hnr, rfl, hb⟩
  have B2 := below_b hb (below_alloc B1 _)
  have X2 := whole_b hb (whole_new m1 _ _)
  have UD2 := datOf_b hb (datOf_below UD1 (below_alloc (Below.refl _ _) _))
  clear hb B1 UD1
  have hn := cellB_true.2 hnr
  obtain ⟨n0, n1⟩ := hnr
  obtain ⟨r, th, hr, hrf, hrs, hcs⟩ := push_key hd hn
  have IA : Hid (∀ u W, DatIn W u d → Calls Try.prog 12 #[u, .int .i64 n] W (ResOf W r [th, 0])) := Lib.hid fun u W h => by
    have := iPush_any u d n W h hs
    rw [hr] at this; exact this
  have SA : Hid (∀ u W, DatIn W u d → Calls Try.prog 13 #[u, .int .i64 n] W (ResOf W r [th, 0])) := Lib.hid fun u W h => by
    have := sPush_any u d n W h hs
    rw [hr] at this; exact this
  have IS : Hid (∀ u u' W, DatIn W u r → DatIn W u' r → Calls Try.prog 14 #[u, u'] W fun e w' => e = .returned (.bool true) ∧ Below W.heap.size W w') := Lib.hid fun u u' W h h' => by
    have := iSameData_any u u' r r W h h'
    rw [sameV_self hrf] at this; exact this
  have ID : Hid (∀ u u' W, DatIn W u d → DatIn W u' d → Calls Try.prog 14 #[u, u'] W fun e w' => e = .returned (.bool true) ∧ Below W.heap.size W w') := Lib.hid fun u u' W h h' => by
    have := iSameData_any u u' d d W h h'
    rw [sameV_self hd] at this; exact this
  have HD := Lib.hid hd
  have HS := Lib.hid hs
  have HN := Lib.hid hn
  have HR := Lib.hid hrs
  clear hr hrf hd hs hn hrs
  rcases hcs with rfl | ⟨rfl, hpop⟩
  · obtain ⟨c0, c1, c2, c3, c4, c5⟩ := six_cells X2
    go_wp2_with fail
    clear c0 c1 c2 c3 c4 c5
    refine (IA.out _ _ (datOf_in UD2)).mono ?_
    rintro e m3 ⟨ur, rfl, UR3, hb⟩
    obtain ⟨C1, j1, C2, j2, C3, j3, rfl⟩ := datIn_form (datOf_in UR3)
    have B3 := below_b hb B2
    have X3 := whole_b hb X2
    have UD3 := datOf_b hb UD2
    clear hb B2 X2 UD2
    simp only [List.map_cons, List.map_nil]
    have zx := whole_lt X3
    obtain ⟨c0, c1, c2, c3, c4, c5⟩ := six_cells X3
    go_wp2_with fail
    clear c0 c1 c2 c3 c4 c5 zx
    refine (SA.out _ _ (datOf_in (datOf_below UD3 (below_alloc (Below.refl _ _) _)))).mono ?_
    rintro e m4 ⟨uw, rfl, UW4, hb⟩
    obtain ⟨D1, d1, D2, d2, D3, d3, rfl⟩ := datIn_form (datOf_in UW4)
    have B4 := below_b hb (below_alloc B3 _)
    have X4 := whole_b hb (whole_alloc X3 _)
    have P4 := whole_b hb (whole_new m3 _ _)
    have UD4 := datOf_b hb (datOf_below UD3 (below_alloc (Below.refl _ _) _))
    have UR4 := datOf_b hb (datOf_below UR3 (below_alloc (Below.refl _ _) _))
    clear hb B3 X3 UD3 UR3
    simp only [List.map_cons, List.map_nil]
    have zp := whole_lt P4
    obtain ⟨c0, c1, c2, c3, c4, c5⟩ := six_cells P4
    go_wp2_with fail
    clear c0 c1 c2 c3 c4 c5 zp
    refine (IS.out _ _ _ (datOf_in (datOf_below UR4 (below_alloc (Below.refl _ _) _))) (datOf_in (datOf_below UW4 (below_alloc (Below.refl _ _) _)))).mono ?_
    rintro e m5 ⟨rfl, hb⟩
    have B := below_b hb (below_alloc B4 _)
    have X := whole_b hb (whole_alloc X4 _)
    have UD := datOf_b hb (datOf_below UD4 (below_alloc (Below.refl _ _) _))
    clear hb B4 X4 P4 UD4 UR4 UW4
    go_wp2_with fail
    refine (at32 _ _ _ _ _ (brow_below W1.out B) l1).mono ?_
    rintro e w' ⟨v, k, ⟨v0, v1⟩, rfl, rfl⟩
    obtain ⟨a, rfl⟩ := Int.eq_ofNat_of_zero_le v0
    have ha : a < 32 := by omega
    have X8 : Whole (m5.drewN k) m1.heap.size 25 _ := X
    have UD8 : DatOf (m5.drewN k) w.heap.size m1.heap.size _ d := datOf_below UD (below_drewN (Below.refl _ _) k)
    have B8 := below_drewN B k
    clear X UD B v0 v1
    generalize m5.drewN k = m8 at *
    obtain ⟨z, th2, hz, hzf, hzh, hzc⟩ := store_key HD.out HN.out ha
    have IT : Hid (∀ u W, DatIn W u d → Calls Try.prog 17 #[u, .int .i64 (4096 + 4 * (a : Int)), .int .i64 n] W (ResOf W z [th2, 0])) := Lib.hid fun u W h => by
      have := iStore_any u d (4096 + 4 * (a : Int)) n W h HS.out (by omega)
      rw [hz] at this; exact this
    have ST : Hid (∀ u W, DatIn W u d → Calls Try.prog 18 #[u, .int .i64 (4096 + 4 * (a : Int)), .int .i64 n] W (ResOf W z [th2, 0])) := Lib.hid fun u W h => by
      have := sStore_any u d (4096 + 4 * (a : Int)) n W h HS.out
      rw [hz] at this; exact this
    have IZ : Hid (∀ u u' W, DatIn W u z → DatIn W u' z → Calls Try.prog 14 #[u, u'] W fun e w' => e = .returned (.bool true) ∧ Below W.heap.size W w') := Lib.hid fun u u' W h h' => by
      have := iSameData_any u u' z z W h h'
      rw [sameV_self hzf] at this; exact this
    have FB : Hid (∀ u W, DatIn W u d → Calls Try.prog 19 #[u, .int .i64 (4096 + 4 * (a : Int) + 1)] W (NumsOf W [0, -9, 0])) := Lib.hid fun u W h => by
      have := iFetch_any u d (4096 + 4 * (a : Int) + 1) W h (by omega)
      rw [fetch_odd HD.out] at this; exact this
    have FZ : Hid (∀ (j : Nat), j < 32 → ∀ u W, DatIn W u z → Calls Try.prog 19 #[u, .int .i64 (4096 + 4 * (j : Int))] W (NumsOf W (if (j : Int) < d.h then [z.c.getD j 0, 0, 0] else [0, -9, 0]))) := Lib.hid fun j hj u W h => by
      have := iFetch_any u z (4096 + 4 * (j : Int)) W h (by omega)
      rw [fetch_at hzf hj, hzh] at this
      by_cases hc : (j : Int) < d.h
      · rw [if_pos hc] at this ⊢; exact this
      · rw [if_neg hc] at this ⊢; exact this
    have t2 : (th2 != th2) = false := by simp
    have ZC := Lib.hid hzc
    clear hz hzf hzh hzc
    have zx := whole_lt X8
    obtain ⟨c0, c1, c2, c3, c4, c5⟩ := six_cells X8
    go_wp2_with fail
    clear c0 c1 c2 c3 c4 c5 zx
    refine (IT.out _ _ (datOf_in UD8)).mono ?_
    rintro e m9 ⟨uz, rfl, UZ9, hb⟩
    obtain ⟨E1, i1, E2, i2, E3, i3, rfl⟩ := datIn_form (datOf_in UZ9)
    have B9 := below_b hb B8
    have X9 := whole_b hb X8
    have UD9 := datOf_b hb UD8
    clear hb B8 X8 UD8
    simp only [List.map_cons, List.map_nil]
    have zx := whole_lt X9
    obtain ⟨c0, c1, c2, c3, c4, c5⟩ := six_cells X9
    go_wp2_with fail
    clear c0 c1 c2 c3 c4 c5 zx
    refine (ST.out _ _ (datOf_in (datOf_below UD9 (below_alloc (Below.refl _ _) _)))).mono ?_
    rintro e m10 ⟨ut, rfl, UT10, hb⟩
    obtain ⟨F1, f1, F2, f2, F3, f3, rfl⟩ := datIn_form (datOf_in UT10)
    have B10 := below_b hb (below_alloc B9 _)
    have X10 := whole_b hb (whole_alloc X9 _)
    have Z10 := whole_b hb (whole_new m9 _ _)
    have UD10 := datOf_b hb (datOf_below UD9 (below_alloc (Below.refl _ _) _))
    have UZ10 := datOf_b hb (datOf_below UZ9 (below_alloc (Below.refl _ _) _))
    clear hb B9 X9 UD9 UZ9
    simp only [List.map_cons, List.map_nil]
    have zp := whole_lt Z10
    obtain ⟨c0, c1, c2, c3, c4, c5⟩ := six_cells Z10
    go_wp2_with fail
    clear c0 c1 c2 c3 c4 c5 zp
    refine (IZ.out _ _ _ (datOf_in (datOf_below UZ10 (below_alloc (Below.refl _ _) _))) (datOf_in (datOf_below UT10 (below_alloc (Below.refl _ _) _)))).mono ?_
    rintro e m11 ⟨rfl, hb⟩
    have B11 := below_b hb (below_alloc B10 _)
    have X11 := whole_b hb (whole_alloc X10 _)
    have Z11 := whole_b hb (whole_alloc Z10 _)
    have UD11 := datOf_b hb (datOf_below UD10 (below_alloc (Below.refl _ _) _))
    have UZ11 := datOf_b hb (datOf_below UZ10 (below_alloc (Below.refl _ _) _))
    clear hb B10 X10 Z10 UD10 UZ10 UT10
    obtain ⟨c0, c1, c2, c3, c4, c5⟩ := six_cells X11
    go_wp2_with fail
    clear c0 c1 c2 c3 c4 c5
    refine (FB.out _ _ (datOf_in UD11)).mono ?_
    rintro e m12 ⟨rfl, hb⟩
    have B12 := below_b hb B11
    have X12 := whole_b hb X11
    have Z12 := whole_b hb Z11
    have UD12 := datOf_b hb UD11
    have UZ12 := datOf_b hb UZ11
    clear hb B11 X11 Z11 UD11 UZ11
    simp only [List.map_cons, List.map_nil]
    go_wp2
    go_loopw [27] (fun i wr => ∃ j : Nat, j ≤ 32 ∧ i = .int .i64 j ∧ Whole wr m1.heap.size 25 #[.slice A1 d.s.length k1, .slice A2 d.b.length k2, .slice A3 d.c.length k3, .int .i64 d.h, .int .i64 d.n, .string d.o] ∧ Whole wr m9.heap.size 25 #[.slice E1 z.s.length i1, .slice E2 z.b.length i2, .slice E3 z.c.length i3, .int .i64 z.h, .int .i64 z.n, .string z.o] ∧
        DatOf wr w.heap.size m1.heap.size (.agg #[.slice A1 d.s.length k1, .slice A2 d.b.length k2, .slice A3 d.c.length k3, .int .i64 d.h, .int .i64 d.n, .string d.o]) d ∧ DatOf wr m8.heap.size m9.heap.size (.agg #[.slice E1 z.s.length i1, .slice E2 z.b.length i2, .slice E3 z.c.length i3, .int .i64 z.h, .int .i64 z.n, .string z.o]) z ∧ Below w.heap.size w wr) (fun i _ => 64 - (intOf i).toNat)
    case atStart => exact ⟨0, by omega, rfl, X12, Z12, UD12, UZ12, B12⟩
    case round =>
      obtain ⟨j, hj, rfl, X, Z, UD, UZ, B⟩ := hrel
      clear X12 Z12 UD12 UZ12 B12
      by_cases hlt : j < 32
      · by_cases hh : (j : Int) < d.h
        · have FJ := Lib.hid (FZ.out j hlt)
          rw [if_pos hh] at FJ
          obtain ⟨y, hy⟩ : ∃ y, y = z.c.getD j 0 := ⟨_, rfl⟩
          rw [← hy] at FJ
          have HY := Lib.hid (hy.trans (ZC.out j hh))
          clear hy
          obtain ⟨c0, c1, c2, c3, c4, c5⟩ := six_cells Z
          go_wp2_with fail
          clear c0 c1 c2 c3 c4 c5
          refine (FJ.out _ _ (datOf_in UZ)).mono ?_
          rintro e m13 ⟨rfl, hb⟩
          have B := below_b hb B
          have X := whole_b hb X
          have Z := whole_b hb Z
          have UD := datOf_b hb UD
          have UZ := datOf_b hb UZ
          clear hb
          simp only [List.map_cons, List.map_nil]
          have xc := (six_cells X).2.2.2.1
          have xd := (six_cells X).2.2.1
          by_cases hja : j = a
          · subst hja
            have ey : y = n := by rw [HY.out, if_pos rfl]
            have ty : (y != n) = false := by rw [ey]; simp
            have te : ((4096 + 4 * (j : Int)) == (4096 + 4 * (j : Int))) = true := by simp
            have te' : ((4096 + 4 * (j : Int)) != (4096 + 4 * (j : Int))) = false := by simp
            clear ey
            go_wp2
            go_roundw
            case rel => exact ⟨j + 1, by omega, by go_num, X, Z, UD, UZ, B⟩
            case measure => simp [intOf]; omega
          · have te : ((4096 + 4 * (j : Int)) == (4096 + 4 * (a : Int))) = false := by rw [beq_eq_false_iff_ne]; omega
            have te' : ((4096 + 4 * (j : Int)) != (4096 + 4 * (a : Int))) = true := by rw [bne_iff_ne]; omega
            have hcl := fine_cl HD.out
            have hj2 : j < d.c.length := by omega
            obtain ⟨_, A', c', hv', hc⟩ := datIn_third (datOf_in UD)
            simp only [Value.slice.injEq, true_and] at hv'
            obtain ⟨rfl, rfl⟩ := hv'
            obtain ⟨ad, rfl, hc'⟩ := hc (by omega)
            have cm := hc' j hj2
            have ey : y = d.c[j] := by rw [HY.out, if_neg hja]; simp [hj2]
            rw [← ey] at cm
            have ty : (y != y) = false := by simp
            have hcl' : d.c.length ≤ 32 := by omega
            clear ey hc hc' hcl hja
            go_wp2
            go_roundw
            case rel => exact ⟨j + 1, by omega, by go_num, X, Z, UD, UZ, B⟩
            case measure => simp [intOf]; omega
        · have FJ := Lib.hid (FZ.out j hlt)
          rw [if_neg hh] at FJ
          obtain ⟨c0, c1, c2, c3, c4, c5⟩ := six_cells Z
          go_wp2_with fail
          clear c0 c1 c2 c3 c4 c5
          refine (FJ.out _ _ (datOf_in UZ)).mono ?_
          rintro e m13 ⟨rfl, hb⟩
          have B := below_b hb B
          have X := whole_b hb X
          have Z := whole_b hb Z
          have UD := datOf_b hb UD
          have UZ := datOf_b hb UZ
          clear hb
          simp only [List.map_cons, List.map_nil]
          have xc := (six_cells X).2.2.2.1
          go_wp2
          go_roundw
          case rel => exact ⟨j + 1, by omega, by go_num, X, Z, UD, UZ, B⟩
          case measure => simp [intOf]; omega
      · go_wp2
        go_ret
        exact ⟨rfl, B⟩
  · obtain ⟨c0, c1, c2, c3, c4, c5⟩ := six_cells X2
    go_wp2_with fail
    clear c0 c1 c2 c3 c4 c5
    refine (IA.out _ _ (datOf_in UD2)).mono ?_
    rintro e m3 ⟨ur, rfl, UR3, hb⟩
    obtain ⟨C1, j1, C2, j2, C3, j3, rfl⟩ := datIn_form (datOf_in UR3)
    have B3 := below_b hb B2
    have X3 := whole_b hb X2
    have UD3 := datOf_b hb UD2
    clear hb B2 X2 UD2
    simp only [List.map_cons, List.map_nil]
    have zx := whole_lt X3
    obtain ⟨c0, c1, c2, c3, c4, c5⟩ := six_cells X3
    go_wp2_with fail
    clear c0 c1 c2 c3 c4 c5 zx
    refine (SA.out _ _ (datOf_in (datOf_below UD3 (below_alloc (Below.refl _ _) _)))).mono ?_
    rintro e m4 ⟨uw, rfl, UW4, hb⟩
    obtain ⟨D1, d1, D2, d2, D3, d3, rfl⟩ := datIn_form (datOf_in UW4)
    have B4 := below_b hb (below_alloc B3 _)
    have X4 := whole_b hb (whole_alloc X3 _)
    have P4 := whole_b hb (whole_new m3 _ _)
    have UD4 := datOf_b hb (datOf_below UD3 (below_alloc (Below.refl _ _) _))
    have UR4 := datOf_b hb (datOf_below UR3 (below_alloc (Below.refl _ _) _))
    clear hb B3 X3 UD3 UR3
    simp only [List.map_cons, List.map_nil]
    have zp := whole_lt P4
    obtain ⟨c0, c1, c2, c3, c4, c5⟩ := six_cells P4
    go_wp2_with fail
    clear c0 c1 c2 c3 c4 c5 zp
    refine (IS.out _ _ _ (datOf_in (datOf_below UR4 (below_alloc (Below.refl _ _) _))) (datOf_in (datOf_below UW4 (below_alloc (Below.refl _ _) _)))).mono ?_
    rintro e m5 ⟨rfl, hb⟩
    have B := below_b hb (below_alloc B4 _)
    have X := whole_b hb (whole_alloc X4 _)
    have UD := datOf_b hb (datOf_below UD4 (below_alloc (Below.refl _ _) _))
    have P5 := whole_b hb (whole_alloc P4 _)
    have UR5 := datOf_b hb (datOf_below UR4 (below_alloc (Below.refl _ _) _))
    clear hb B4 X4 P4 UD4 UR4 UW4
    have IP : Hid (∀ u W, DatIn W u r → Calls Try.prog 15 #[u] W (ResOf W d [n, 0, 0])) := Lib.hid fun u W h => by
      have := iPop_any u r W h HR.out
      rw [hpop] at this; exact this
    clear hpop
    have tn : (n != n) = false := by simp
    obtain ⟨c0, c1, c2, c3, c4, c5⟩ := six_cells P5
    go_wp2_with fail
    clear c0 c1 c2 c3 c4 c5
    refine (IP.out _ _ (datOf_in UR5)).mono ?_
    rintro e m6 ⟨uy, rfl, UY6, hb⟩
    obtain ⟨G1, g1, G2, g2, G3, g3, rfl⟩ := datIn_form (datOf_in UY6)
    have B6 := below_b hb B
    have X6 := whole_b hb X
    have UD6 := datOf_b hb UD
    clear hb B X UD P5 UR5
    simp only [List.map_cons, List.map_nil]
    have zx := whole_lt X6
    obtain ⟨c0, c1, c2, c3, c4, c5⟩ := six_cells X6
    go_wp2_with fail
    clear c0 c1 c2 c3 c4 c5 zx
    refine (ID.out _ _ _ (datOf_in (datOf_below UY6 (below_alloc (Below.refl _ _) _))) (datOf_in (datOf_below UD6 (below_alloc (Below.refl _ _) _)))).mono ?_
    rintro e m7 ⟨rfl, hb⟩
    have B := below_b hb (below_alloc B6 _)
    have X := whole_b hb (whole_alloc X6 _)
    have UD := datOf_b hb (datOf_below UD6 (below_alloc (Below.refl _ _) _))
    clear hb B6 X6 UD6 UY6
    go_wp2_with fail
    refine (at32 _ _ _ _ _ (brow_below W1.out B) l1).mono ?_
    rintro e w' ⟨v, k, ⟨v0, v1⟩, rfl, rfl⟩
    obtain ⟨a, rfl⟩ := Int.eq_ofNat_of_zero_le v0
    have ha : a < 32 := by omega
    have X8 : Whole (m7.drewN k) m1.heap.size 25 _ := X
    have UD8 : DatOf (m7.drewN k) w.heap.size m1.heap.size _ d := datOf_below UD (below_drewN (Below.refl _ _) k)
    have B8 := below_drewN B k
    clear X UD B v0 v1
    generalize m7.drewN k = m8 at *
    obtain ⟨z, th2, hz, hzf, hzh, hzc⟩ := store_key HD.out HN.out ha
    have IT : Hid (∀ u W, DatIn W u d → Calls Try.prog 17 #[u, .int .i64 (4096 + 4 * (a : Int)), .int .i64 n] W (ResOf W z [th2, 0])) := Lib.hid fun u W h => by
      have := iStore_any u d (4096 + 4 * (a : Int)) n W h HS.out (by omega)
      rw [hz] at this; exact this
    have ST : Hid (∀ u W, DatIn W u d → Calls Try.prog 18 #[u, .int .i64 (4096 + 4 * (a : Int)), .int .i64 n] W (ResOf W z [th2, 0])) := Lib.hid fun u W h => by
      have := sStore_any u d (4096 + 4 * (a : Int)) n W h HS.out
      rw [hz] at this; exact this
    have IZ : Hid (∀ u u' W, DatIn W u z → DatIn W u' z → Calls Try.prog 14 #[u, u'] W fun e w' => e = .returned (.bool true) ∧ Below W.heap.size W w') := Lib.hid fun u u' W h h' => by
      have := iSameData_any u u' z z W h h'
      rw [sameV_self hzf] at this; exact this
    have FB : Hid (∀ u W, DatIn W u d → Calls Try.prog 19 #[u, .int .i64 (4096 + 4 * (a : Int) + 1)] W (NumsOf W [0, -9, 0])) := Lib.hid fun u W h => by
      have := iFetch_any u d (4096 + 4 * (a : Int) + 1) W h (by omega)
      rw [fetch_odd HD.out] at this; exact this
    have FZ : Hid (∀ (j : Nat), j < 32 → ∀ u W, DatIn W u z → Calls Try.prog 19 #[u, .int .i64 (4096 + 4 * (j : Int))] W (NumsOf W (if (j : Int) < d.h then [z.c.getD j 0, 0, 0] else [0, -9, 0]))) := Lib.hid fun j hj u W h => by
      have := iFetch_any u z (4096 + 4 * (j : Int)) W h (by omega)
      rw [fetch_at hzf hj, hzh] at this
      by_cases hc : (j : Int) < d.h
      · rw [if_pos hc] at this ⊢; exact this
      · rw [if_neg hc] at this ⊢; exact this
    have t2 : (th2 != th2) = false := by simp
    have ZC := Lib.hid hzc
    clear hz hzf hzh hzc
    have zx := whole_lt X8
    obtain ⟨c0, c1, c2, c3, c4, c5⟩ := six_cells X8
    go_wp2_with fail
    clear c0 c1 c2 c3 c4 c5 zx
    refine (IT.out _ _ (datOf_in UD8)).mono ?_
    rintro e m9 ⟨uz, rfl, UZ9, hb⟩
    obtain ⟨E1, i1, E2, i2, E3, i3, rfl⟩ := datIn_form (datOf_in UZ9)
    have B9 := below_b hb B8
    have X9 := whole_b hb X8
    have UD9 := datOf_b hb UD8
    clear hb B8 X8 UD8
    simp only [List.map_cons, List.map_nil]
    have zx := whole_lt X9
    obtain ⟨c0, c1, c2, c3, c4, c5⟩ := six_cells X9
    go_wp2_with fail
    clear c0 c1 c2 c3 c4 c5 zx
    refine (ST.out _ _ (datOf_in (datOf_below UD9 (below_alloc (Below.refl _ _) _)))).mono ?_
    rintro e m10 ⟨ut, rfl, UT10, hb⟩
    obtain ⟨F1, f1, F2, f2, F3, f3, rfl⟩ := datIn_form (datOf_in UT10)
    have B10 := below_b hb (below_alloc B9 _)
    have X10 := whole_b hb (whole_alloc X9 _)
    have Z10 := whole_b hb (whole_new m9 _ _)
    have UD10 := datOf_b hb (datOf_below UD9 (below_alloc (Below.refl _ _) _))
    have UZ10 := datOf_b hb (datOf_below UZ9 (below_alloc (Below.refl _ _) _))
    clear hb B9 X9 UD9 UZ9
    simp only [List.map_cons, List.map_nil]
    have zp := whole_lt Z10
    obtain ⟨c0, c1, c2, c3, c4, c5⟩ := six_cells Z10
    go_wp2_with fail
    clear c0 c1 c2 c3 c4 c5 zp
    refine (IZ.out _ _ _ (datOf_in (datOf_below UZ10 (below_alloc (Below.refl _ _) _))) (datOf_in (datOf_below UT10 (below_alloc (Below.refl _ _) _)))).mono ?_
    rintro e m11 ⟨rfl, hb⟩
    have B11 := below_b hb (below_alloc B10 _)
    have X11 := whole_b hb (whole_alloc X10 _)
    have Z11 := whole_b hb (whole_alloc Z10 _)
    have UD11 := datOf_b hb (datOf_below UD10 (below_alloc (Below.refl _ _) _))
    have UZ11 := datOf_b hb (datOf_below UZ10 (below_alloc (Below.refl _ _) _))
    clear hb B10 X10 Z10 UD10 UZ10 UT10
    obtain ⟨c0, c1, c2, c3, c4, c5⟩ := six_cells X11
    go_wp2_with fail
    clear c0 c1 c2 c3 c4 c5
    refine (FB.out _ _ (datOf_in UD11)).mono ?_
    rintro e m12 ⟨rfl, hb⟩
    have B12 := below_b hb B11
    have X12 := whole_b hb X11
    have Z12 := whole_b hb Z11
    have UD12 := datOf_b hb UD11
    have UZ12 := datOf_b hb UZ11
    clear hb B11 X11 Z11 UD11 UZ11
    simp only [List.map_cons, List.map_nil]
    go_wp2
    go_loopw [27] (fun i wr => ∃ j : Nat, j ≤ 32 ∧ i = .int .i64 j ∧ Whole wr m1.heap.size 25 #[.slice A1 d.s.length k1, .slice A2 d.b.length k2, .slice A3 d.c.length k3, .int .i64 d.h, .int .i64 d.n, .string d.o] ∧ Whole wr m9.heap.size 25 #[.slice E1 z.s.length i1, .slice E2 z.b.length i2, .slice E3 z.c.length i3, .int .i64 z.h, .int .i64 z.n, .string z.o] ∧
        DatOf wr w.heap.size m1.heap.size (.agg #[.slice A1 d.s.length k1, .slice A2 d.b.length k2, .slice A3 d.c.length k3, .int .i64 d.h, .int .i64 d.n, .string d.o]) d ∧ DatOf wr m8.heap.size m9.heap.size (.agg #[.slice E1 z.s.length i1, .slice E2 z.b.length i2, .slice E3 z.c.length i3, .int .i64 z.h, .int .i64 z.n, .string z.o]) z ∧ Below w.heap.size w wr) (fun i _ => 64 - (intOf i).toNat)
    case atStart => exact ⟨0, by omega, rfl, X12, Z12, UD12, UZ12, B12⟩
    case round =>
      obtain ⟨j, hj, rfl, X, Z, UD, UZ, B⟩ := hrel
      clear X12 Z12 UD12 UZ12 B12
      by_cases hlt : j < 32
      · by_cases hh : (j : Int) < d.h
        · have FJ := Lib.hid (FZ.out j hlt)
          rw [if_pos hh] at FJ
          obtain ⟨y, hy⟩ : ∃ y, y = z.c.getD j 0 := ⟨_, rfl⟩
          rw [← hy] at FJ
          have HY := Lib.hid (hy.trans (ZC.out j hh))
          clear hy
          obtain ⟨c0, c1, c2, c3, c4, c5⟩ := six_cells Z
          go_wp2_with fail
          clear c0 c1 c2 c3 c4 c5
          refine (FJ.out _ _ (datOf_in UZ)).mono ?_
          rintro e m13 ⟨rfl, hb⟩
          have B := below_b hb B
          have X := whole_b hb X
          have Z := whole_b hb Z
          have UD := datOf_b hb UD
          have UZ := datOf_b hb UZ
          clear hb
          simp only [List.map_cons, List.map_nil]
          have xc := (six_cells X).2.2.2.1
          have xd := (six_cells X).2.2.1
          by_cases hja : j = a
          · subst hja
            have ey : y = n := by rw [HY.out, if_pos rfl]
            have ty : (y != n) = false := by rw [ey]; simp
            have te : ((4096 + 4 * (j : Int)) == (4096 + 4 * (j : Int))) = true := by simp
            have te' : ((4096 + 4 * (j : Int)) != (4096 + 4 * (j : Int))) = false := by simp
            clear ey
            go_wp2
            go_roundw
            case rel => exact ⟨j + 1, by omega, by go_num, X, Z, UD, UZ, B⟩
            case measure => simp [intOf]; omega
          · have te : ((4096 + 4 * (j : Int)) == (4096 + 4 * (a : Int))) = false := by rw [beq_eq_false_iff_ne]; omega
            have te' : ((4096 + 4 * (j : Int)) != (4096 + 4 * (a : Int))) = true := by rw [bne_iff_ne]; omega
            have hcl := fine_cl HD.out
            have hj2 : j < d.c.length := by omega
            obtain ⟨_, A', c', hv', hc⟩ := datIn_third (datOf_in UD)
            simp only [Value.slice.injEq, true_and] at hv'
            obtain ⟨rfl, rfl⟩ := hv'
            obtain ⟨ad, rfl, hc'⟩ := hc (by omega)
            have cm := hc' j hj2
            have ey : y = d.c[j] := by rw [HY.out, if_neg hja]; simp [hj2]
            rw [← ey] at cm
            have ty : (y != y) = false := by simp
            have hcl' : d.c.length ≤ 32 := by omega
            clear ey hc hc' hcl hja
            go_wp2
            go_roundw
            case rel => exact ⟨j + 1, by omega, by go_num, X, Z, UD, UZ, B⟩
            case measure => simp [intOf]; omega
        · have FJ := Lib.hid (FZ.out j hlt)
          rw [if_neg hh] at FJ
          obtain ⟨c0, c1, c2, c3, c4, c5⟩ := six_cells Z
          go_wp2_with fail
          clear c0 c1 c2 c3 c4 c5
          refine (FJ.out _ _ (datOf_in UZ)).mono ?_
          rintro e m13 ⟨rfl, hb⟩
          have B := below_b hb B
          have X := whole_b hb X
          have Z := whole_b hb Z
          have UD := datOf_b hb UD
          have UZ := datOf_b hb UZ
          clear hb
          simp only [List.map_cons, List.map_nil]
          have xc := (six_cells X).2.2.2.1
          go_wp2
          go_roundw
          case rel => exact ⟨j + 1, by omega, by go_num, X, Z, UD, UZ, B⟩
          case measure => simp [intOf]; omega
      · go_wp2
        go_ret
        exact ⟨rfl, B⟩

set_option maxRecDepth 100000 in
theorem lifted (os : Os) (started : os.Started) (H : Type) (enc : TypeId × Value → H) :
    ReturnsInHanded {} Try.checked os 3 .any (Rows.fnDataSpec.pre6 enc Try.prog Try.f3 Rows.fnDataRow.domain false) (Rows.fnDataSpec.post enc Try.prog Try.f3 false true false false) := by
  refine returnsInHanded_of_change (C := Try.checked) own started (by kernel_rfl) Try.func3
    (ChangeSpec.witness6 (enc := enc) (C := Try.checked) false ⟨#[], #[.slice none 0 0, .slice none 0 0], []⟩ 8 (by kernel_rfl) (by kernel_rfl) (by kernel_rfl) (by kernel_rfl)) ?_
  intro W base args ds gs before hval0 hW hcnd _
  have hval : ∀ (j : Nat) t v, Try.f3.params[j]? = some t → args[j]? = some v → Value.okWide Try.prog W .any base t v := hval0
  have hW' := hW
  obtain ⟨p, q, hA0, hV, rfl, hfz, hnd⟩ := hW
  have hA : DataW.TrodAll enc Try.prog W 0 (fun _ => true) true Try.f3.params.toList args.toList ds p := hA0
  rw [Try.params3] at hA hval
  obtain ⟨v0, vs0, d0, ds0, p0, q0, hargs, rfl, rfl, h0, r0⟩ := trodAll_cons hA
  obtain ⟨v1, vs1, d1, ds1, p1, q1, rfl, rfl, rfl, h1, r1⟩ := trodAll_cons r0
  obtain ⟨rfl, rfl, rfl⟩ := trodAll_nil r1
  obtain rfl : args = #[v0, v1] := by cases args; simp_all
  obtain ⟨rfl, rfl⟩ := trodVars_none hV
  obtain ⟨a0, len0, cap0, rfl⟩ := okWide_slice Try.underlying22 (hval 0 22 v0 rfl rfl)
  have k0 := h0
  have lt0 : ∀ x ∈ p0, x.block < W.heap.size := by obtain ⟨m, hm⟩ := k0; exact DataW.trod_lt m _ _ _ hm
  obtain ⟨z0, w0⟩ : ∃ zs, BRow W a0 len0 cap0 zs := by
    obtain ⟨fuel, hf⟩ := h0
    rcases open_ints Try.underlying22 Try.underlying5 (by kernel_rfl) hf with ⟨hcs, _⟩ | ⟨x, l, c, zs, hcs, _, hl, hm, hz, _, hcell, hwz⟩
    · simp [Value.cells] at hcs
      obtain ⟨rfl, rfl, rfl⟩ := hcs
      exact ⟨[], .inl ⟨rfl, rfl, rfl, rfl⟩⟩
    · simp [Value.cells] at hcs
      obtain ⟨rfl, rfl, rfl⟩ := hcs
      exact ⟨zs, .inr ⟨_, rfl, hl, hm, by simpa using hz, hcell, hwz⟩⟩
  obtain ⟨a1, len1, cap1, rfl⟩ := okWide_slice Try.underlying22 (hval 1 22 v1 rfl rfl)
  have k1 := h1
  have lt1 : ∀ x ∈ p1, x.block < W.heap.size := by obtain ⟨m, hm⟩ := k1; exact DataW.trod_lt m _ _ _ hm
  obtain ⟨z1, w1⟩ : ∃ zs, BRow W a1 len1 cap1 zs := by
    obtain ⟨fuel, hf⟩ := h1
    rcases open_ints Try.underlying22 Try.underlying5 (by kernel_rfl) hf with ⟨hcs, _⟩ | ⟨x, l, c, zs, hcs, _, hl, hm, hz, _, hcell, hwz⟩
    · simp [Value.cells] at hcs
      obtain ⟨rfl, rfl, rfl⟩ := hcs
      exact ⟨[], .inl ⟨rfl, rfl, rfl, rfl⟩⟩
    · simp [Value.cells] at hcs
      obtain ⟨rfl, rfl, rfl⟩ := hcs
      exact ⟨zs, .inr ⟨_, rfl, hl, hm, by simpa using hz, hcell, hwz⟩⟩
  clear hA0 hval0
  refine (walk a0 len0 cap0 z0 a1 len1 cap1 z1 W w0 w1).mono fun e W' ⟨he, bel⟩ => ?_
  subst he
  exact ⟨_, rfl, _, _, _, [], _, [], hW', trodAll_mk1 (shut_bool Try.underlying4 _), (trodAll_cons_mk (Below.trod laidOut (by kernel_rfl) (of_decide_eq_true (by kernel_rfl)) k0 bel lt0) (trodAll_cons_mk (Below.trod laidOut (by kernel_rfl) (of_decide_eq_true (by kernel_rfl)) k1 bel lt1) trodAll_mk0)), rfl, bel.frame _, fun h => by cases h⟩

theorem over : Rows.fnDataRow.holds Try.pinned (OpenSpec.ofChange Rows.fnDataSpec) :=
  OpenClaim.holds_of_wide 3 Try.f3 rfl rfl rfl rfl rfl rfl rfl ⟨rfl, rfl, rfl, rfl, rfl⟩ rfl rfl rfl rfl rfl (by kernel_rfl) Try.func3 (by kernel_rfl)
    (of_decide_eq_true (by kernel_rfl)) (by unfold Func.isWrapper; first | (rw [if_pos (by decide +kernel)]; kernel_rfl) | (rw [if_neg (by decide +kernel)]; exact ⟨rfl, rfl⟩))
    (fun os started H enc _ => lifted os started H enc)

/-- The statement. -/
theorem proved : Rows.FnDataSaid := over
#print axioms proved
end Go.Proofs.Ytojjknjdlipfpaa.fnData
