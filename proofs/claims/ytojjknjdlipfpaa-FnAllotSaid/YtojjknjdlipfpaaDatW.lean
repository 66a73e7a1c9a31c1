/- impl's methods on a script's data, behind a pointer: the place of an address, fetch, store, allot. -/
import Derived.Test.YtojjknjdlipfpaaDatV
import Derived.Lib.SliceRun
import Derived.RegionTactic
namespace Go.Proofs.Ytojjknjdlipfpaa
open Go.RowKit
set_option linter.unusedVariables false
set_option linter.unusedSimpArgs false

set_option maxRecDepth 100000 in
set_option maxHeartbeats 1000000 in
theorem cellAt_none (g : Nat) (t : TypeId) (x y z : Value) (d : Dt) (n : Int) (w : World) (hw : Whole w g t #[x, y, z, .int .i64 d.h, .int .i64 d.n, .string d.o]) (h0 : 0 ≤ d.h) (h1 : d.h ≤ 32) (hr1 : n ≤ 9223372036854775807) (hk : dPlace d n = none) :
    Calls Try.prog 74 #[.pointer (some ⟨g, 0, none⟩), .int .i64 n] w fun e w' => e = .returned (.pointer none) ∧ w = w' := by
  have c3 := (six_cells hw).2.2.2.1
  have h := place_none hk
  clear hw hk
  by_cases q1 : n < 4096
  · clear h
    go_enter Try.func74, Try.ntmps74
    go_wp2
    go_ret
    exact ⟨rfl, rfl⟩
  · by_cases q2 : (n - 4096) % 4 = 0
    · have t2 : ((n - 4096) % 4 != 0) = false := by rw [q2]; rfl
      have q3 : d.h ≤ (n - 4096) / 4 := by omega
      clear h q2
      go_enter Try.func74, Try.ntmps74
      go_wp2
      go_ret
      exact ⟨rfl, rfl⟩
    · have t2 : ((n - 4096) % 4 != 0) = true := by rw [bne_iff_ne]; exact q2
      clear h q2
      go_enter Try.func74, Try.ntmps74
      go_wp2
      go_ret
      exact ⟨rfl, rfl⟩

set_option maxRecDepth 100000 in
set_option maxHeartbeats 1000000 in
theorem cellAt_some (g : Nat) (t : TypeId) (x y : Value) (ad : Addr) (k3 : Nat) (d : Dt) (n : Int) (k : Nat) (w : World) (hw : Whole w g t #[x, y, .slice (some ad) d.c.length k3, .int .i64 d.h, .int .i64 d.n, .string d.o]) (h0 : 0 ≤ d.h) (h1 : d.h ≤ 32) (hc : d.c.length = 32) (hk : dPlace d n = some k) :
    Calls Try.prog 74 #[.pointer (some ⟨g, 0, none⟩), .int .i64 n] w fun e w' => e = .returned (.pointer (some (ad.add k))) ∧ w = w' := by
  have c3 := (six_cells hw).2.2.2.1
  have c2 := (six_cells hw).2.2.1
  obtain ⟨p1, p2, p3, p4⟩ := place_some hk
  have t2 : ((n - 4096) % 4 != 0) = false := by have e : (n - 4096) % 4 = 0 := by omega
                                                rw [e]; rfl
  have q3 : (n - 4096) / 4 < d.h := by omega
  have K := Lib.hid p4
  have q4 : (n - 4096) / 4 < d.c.length := by omega
  have kk : ((n - 4096) / 4).toNat = k := by omega
  have KK := Lib.hid kk
  have hcl : d.c.length ≤ 32 := by omega
  have q5 : 0 ≤ (n - 4096) / 4 := by omega
  clear hw hk p3 p4 hc kk
  go_enter Try.func74, Try.ntmps74
  go_wp2
  go_ret
  exact ⟨by first | (simp only [KK.out]; done) | (simp only [KK.out]; rfl) | rw [KK.out], rfl⟩

set_option maxRecDepth 100000 in
set_option maxHeartbeats 1000000 in
theorem fetch_none (g : Nat) (t : TypeId) (x y z : Value) (d : Dt) (n : Int) (w : World) (hw : Whole w g t #[x, y, z, .int .i64 d.h, .int .i64 d.n, .string d.o]) (h0 : 0 ≤ d.h) (h1 : d.h ≤ 32) (hr1 : n ≤ 9223372036854775807) (hk : dPlace d n = none) :
    Calls Try.prog 48 #[.pointer (some ⟨g, 0, none⟩), .int .i64 n] w fun e w' => e = .returned (.tuple #[.int .i64 0, .int .i64 (-9)]) ∧ w = w' := by
  have HK := Lib.hid hk
  clear hk
  go_enter Try.func48, Try.ntmps48
  go_wp2_with (go_at_call 74; refine (cellAt_none g t x y z d n _ hw h0 h1 hr1 HK.out).mono ?_; rintro e w' ⟨rfl, rfl⟩)
  go_ret2
  exact ⟨rfl, rfl⟩

set_option maxRecDepth 100000 in
set_option maxHeartbeats 1000000 in
theorem fetch_some (g : Nat) (t : TypeId) (x y : Value) (ad : Addr) (k3 : Nat) (d : Dt) (n : Int) (k : Nat) (v : Int) (w : World) (hw : Whole w g t #[x, y, .slice (some ad) d.c.length k3, .int .i64 d.h, .int .i64 d.n, .string d.o]) (h0 : 0 ≤ d.h) (h1 : d.h ≤ 32) (hc : d.c.length = 32) (hk : dPlace d n = some k)
    (hv : w.cell? (ad.add k) = some (.int .i64 v)) :
    Calls Try.prog 48 #[.pointer (some ⟨g, 0, none⟩), .int .i64 n] w fun e w' => e = .returned (.tuple #[.int .i64 v, .int .i64 0]) ∧ w = w' := by
  have HK := Lib.hid hk
  have HC := Lib.hid hc
  clear hk hc
  go_enter Try.func48, Try.ntmps48
  go_wp2_with (go_at_call 74; refine (cellAt_some g t x y ad k3 d n k _ hw h0 h1 HC.out HK.out).mono ?_; rintro e w' ⟨rfl, rfl⟩)
  go_ret2
  exact ⟨rfl, rfl⟩

set_option maxRecDepth 100000 in
set_option maxHeartbeats 1000000 in
theorem store_none (lo g : Nat) (d : Dt) (x n : Int) (w : World) (hb : BoxIs w lo g d) (hd : DtFine d) (hr1 : x ≤ 9223372036854775807) (hk : dPlace d x = none) :
    Calls Try.prog 46 #[.pointer (some ⟨g, 0, none⟩), .int .i64 x, .int .i64 n] w (MethOf w lo g d (.int .i64 (-9))) := by
  obtain ⟨hg, A1, k1, A2, k2, A3, k3, hw, _⟩ := box_parts hb
  have HK := Lib.hid hk
  have HB := Lib.hid hb
  clear hk hb
  go_enter Try.func46, Try.ntmps46
  go_wp2_with (go_at_call 74; refine (cellAt_none g _ _ _ _ d x _ hw (fine_h0 hd) (fine_h1 hd) hr1 HK.out).mono ?_; rintro e w' ⟨rfl, rfl⟩)
  go_ret
  exact ⟨rfl, HB.out, Below.refl _ _⟩

set_option maxRecDepth 100000 in
set_option maxHeartbeats 1000000 in
theorem store_some (lo g : Nat) (d : Dt) (x n : Int) (k : Nat) (w : World) (hb : BoxIs w lo g d) (hd : DtFine d) (hk : dPlace d x = some k) :
    Calls Try.prog 46 #[.pointer (some ⟨g, 0, none⟩), .int .i64 x, .int .i64 n] w (MethOf w lo g { d with c := d.c.set k n } (.int .i64 0)) := by
  obtain ⟨hg, A1, k1, A2, k2, A3, k3, hw, r1, r2, r3, h4, p1, p2, p3⟩ := box_parts hb
  have HK := Lib.hid hk
  have hk2 := (place_lt hk hd).2
  obtain ⟨g3, k3', hA, hg1, hg1', hlc, hcm⟩ := row_form r3 (by omega)
  simp only [Value.slice.injEq, true_and] at hA
  obtain ⟨rfl, rfl⟩ := hA
  have ko := row_cell r3 k hk2
  have kf := row_free r3 k
  have n3 := row_not_whole r3 hw
  have n3' : g ≠ g3 := fun e => n3 (by rw [e]; rfl)
  have q1 : (Value.slice A1 d.s.length k1).ownBlock ≠ some g3 := fun e => p2 g3 e rfl
  have q2 : (Value.slice A2 d.b.length k2).ownBlock ≠ some g3 := fun e => p3 g3 e rfl
  have ST : Hid (BoxIs (w.setCell ⟨g3, k, none⟩ (.int .i64 n)) lo g { d with c := d.c.set k n }) := Lib.hid (by
    have hl : (d.c.set k n).length = d.c.length := List.length_set ..
    have := (row_set r3 k n).1
    refine box_of (z := .slice (some ⟨g3, 0, none⟩) d.c.length k3) hg (whole_far hw (by exact n3') _) (row_apart r1 q1) (row_apart r2 q2) this h4 p1 p2 p3)
  clear hk hb n3 n3' q1 q2 p1 p2 p3
  generalize d.c[k] = old at *
  have ea : (⟨g3, 0, none⟩ : Addr).add k = ⟨g3, k, none⟩ := by rw [Addr.add_lit, Nat.zero_add]
  have EA := Lib.hid ea
  clear ea
  go_enter Try.func46, Try.ntmps46
  go_wp2_with (go_at_call 74; refine (cellAt_some g _ _ _ ⟨g3, 0, none⟩ k3 d x k _ hw (fine_h0 hd) (fine_h1 hd) (fine_cl hd) HK.out).mono ?_; rintro e w' ⟨rfl, rfl⟩; rw [EA.out])
  go_ret
  exact ⟨rfl, ST.out, (Below.refl _ _).setCell (show lo ≤ g3 by omega) _⟩

end Go.Proofs.Ytojjknjdlipfpaa
