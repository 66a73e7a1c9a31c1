/- Drawn data. -/
import Derived.Test.YtojjknjdlipfpaaDrA
import Derived.Deep.RegionHeld3
namespace Go.Proofs.Ytojjknjdlipfpaa
open Go.RowKit
set_option linter.unusedVariables false
set_option linter.unusedSimpArgs false

theorem src_alloc {w : World} {b : Nat} {a : Option Addr} {len cap : Nat} {zs : List Int} {N : Nat} (h : Src w b a len cap zs N) (o : Obj) : Src (w.alloc o) b a len cap zs N :=
  src_lo h (src_lt h) (src_code_lt h) (below_alloc (Below.refl _ _) _)

theorem src_draws' {w : World} {b : Nat} {a : Option Addr} {len cap : Nat} {zs : List Int} {N : Nat} (h : Src w b a len cap zs N) : Src w.drew b a len cap zs N :=
  src_lo h (src_lt h) (src_code_lt h) (Below.refl _ _).drew

theorem gb_drew {a w : World} {r : Option Nat} (h : a.grownBy w r) : a.grownBy w.drew r := ⟨h.os, h.tape, h.output, h.size, h.block⟩

theorem gb_set {a w : World} {b : Nat} (h : a.grownBy w (some b)) {p : Addr} (hp : a.heap.size ≤ p.block) (u : Value) : a.grownBy (w.setCell p u) (some b) :=
  gb_of_lo h ((Below.refl _ _).setCell hp u)

theorem cellsB_set {zs : List Int} {k : Nat} {v : Int} (h : cellsB zs = true) (hv : -2147483648 ≤ v ∧ v ≤ 2147483647) : cellsB (zs.set k v) = true := by
  unfold cellsB at *
  rw [List.all_eq_true] at *
  intro x hx
  rcases List.mem_or_eq_of_mem_set hx with hx | rfl
  · exact h x hx
  · exact cellB_true.2 hv

theorem toList_madeCells_one' (n : Nat) : (madeCells (Value.cells (.int .u8 0)) (n * 1)).toList = List.replicate n (.int .u8 0) := by
  rw [Nat.mul_one]; exact toList_madeCells_one _ _

theorem zeros_str (W : World) (g n : Nat) (h : W.ownsRow 0 5 1 (.slice (some ⟨g, 0, none⟩) n n) n (List.replicate n (.int .u8 0))) :
    ∃ st : ByteArray, st.size = n ∧ (convert 22 9 (.slice (some ⟨g, 0, none⟩) n n)).run Try.prog W = .ok (.string st) W :=
  ⟨⟨(List.replicate n (0 : UInt8)).toArray⟩, by simp [ByteArray.size], owns_text (by simpa using h) (by simp)⟩

theorem texts_three (W : World) {st : ByteArray} (h : st.size = 298) : Texts (W.alloc (.cells #[.string ByteArray.empty, .string ⟨#[49, 32, 50, 32]⟩, .string st] 9)) W.heap.size 3 298 := fun k hk => by
  have hw := whole_cell (whole_new W 9 #[.string ByteArray.empty, .string ⟨#[49, 32, 50, 32]⟩, .string st]) k
  rcases (by omega : k = 0 ∨ k = 1 ∨ k = 2) with rfl | rfl | rfl
  · exact ⟨_, hw, by decide⟩
  · exact ⟨_, hw, by decide⟩
  · exact ⟨_, hw, by omega⟩

/-- What drawn data leaves. -/
def DataDrew (w : World) (b : Nat) (e : Ending) (w' : World) : Prop := ∃ u d, e = .returned u ∧ DtFine d ∧ DatOf w' w.heap.size w'.heap.size u d ∧ w.grownBy w' (some b)

set_option maxRecDepth 100000 in
set_option maxHeartbeats 8000000 in
theorem data_drew (b : Nat) (a : Option Addr) (len cap : Nat) (code : List Int) (w : World) (h : Src w b a len cap code 0) :
    Calls Try.prog 34 #[.pointer (some ⟨b, 0, none⟩)] w (DataDrew w b) := by
  have hb := src_lt h
  have HA := Lib.hid (src_code_lt h)
  have H := Lib.hid h
  clear h
  obtain ⟨i0, hi0, hz0, hz1, hz2⟩ := info_parts own_info5
  have I0 := Lib.hid hi0
  have Z0 := Lib.hid hz0
  have Z1 := Lib.hid hz1
  have B8 : Hid (i0.bytes * 298 ≤ 281474976710656) := Lib.hid (by rw [hz2]; omega)
  clear hi0 hz0 hz1 hz2
  go_enter Try.func34, Try.ntmps34
  go_wp2_with fail
  refine (sNew_any _).mono ?_
  rintro e m1 ⟨u, rfl, hu, hbl⟩
  obtain ⟨x, y, z, rfl, rx, ry, rz, _⟩ := hu
  have z1 : w.heap.size + 1 ≤ m1.heap.size := by have := hbl.size; simpa using this
  obtain ⟨_, D1, t1, rfl, _⟩ := row_ints rx
  obtain ⟨_, D2, t2, rfl, _⟩ := row_ints ry
  have rz' : Row m1 (w.heap.size + 1) z (List.replicate 32 0) := row_base rz (by simp)
  obtain ⟨g3, k3, rfl, hg3, hg3', hk3, hm3⟩ := row_form rz' (by simp)
  have R1 : Row m1 (w.heap.size + 1) (.slice (some ⟨g3, 0, none⟩) 32 k3) (List.replicate 32 0) := rz'
  have B1 := below_step (below_alloc (Below.refl _ _) _) hbl
  have S1 := src_lo H.out hb HA.out B1
  have G1 : w.grownBy m1 (some b) := gb_of_lo (World.grownBy.refl w _) B1
  have T1 := whole_b hbl (whole_new w _ _)
  clear hbl rx ry rz rz' B1
  go_wp2_with fail
  refine (next_small _ _ _ _ _ _ _ _ (src_alloc S1 _) (by unfold Few; omega) (by omega) (by omega)).mono ?_
  rintro e m2 ⟨v2, ⟨l2, u2⟩, rfl, hs, hg⟩
  have z2 : m1.heap.size + 1 ≤ m2.heap.size := by have := hg.size; (try simp at this); omega
  have T2 := whole_gb hg (whole_alloc T1 _) (by omega)
  have R2 := row_gb hg (row_alloc R1 _) (by omega)
  have X2 := whole_gb hg (whole_new m1 _ _) (by omega)
  have S2 := hs
  have G2 := grown_trans (gb_alloc G1 _) hg
  clear hg hs S1 G1 T1 R1
  go_wp2_with fail
  refine (next_small _ _ _ _ _ _ _ _ S2 (by unfold Few; omega) (by omega) (by omega)).mono ?_
  rintro e m3 ⟨v3, ⟨l3, u3⟩, rfl, hs, hg⟩
  have z3 : m2.heap.size + 0 ≤ m3.heap.size := by have := hg.size; (try simp at this); omega
  have T3 := whole_gb hg T2 (by omega)
  have X3 := whole_gb hg X2 (by omega)
  have R3 := row_gb hg R2 (by omega)
  have S3 := hs
  have G3 := grown_trans G2 hg
  clear hg hs S2 G2 T2 X2 R2
  go_wp2_with fail
  refine (next_small _ _ _ _ _ _ _ _ S3 (by unfold Few; omega) (by omega) (by omega)).mono ?_
  rintro e m4 ⟨v4, ⟨l4, u4⟩, rfl, hs, hg⟩
  have z4 : m3.heap.size + 0 ≤ m4.heap.size := by have := hg.size; (try simp at this); omega
  have T4 := whole_gb hg T3 (by omega)
  have X4 := whole_gb hg X3 (by omega)
  have R4 := row_gb hg R3 (by omega)
  have S4 := hs
  have G4 := grown_trans G3 hg
  clear hg hs S3 G3 T3 X3 R3
  go_wp2_with fail
  refine (next_small _ _ _ _ _ _ _ _ S4 (by unfold Few; omega) (by omega) (by omega)).mono ?_
  rintro e m5 ⟨v5, ⟨l5, u5⟩, rfl, hs, hg⟩
  have z5 : m4.heap.size + 0 ≤ m5.heap.size := by have := hg.size; (try simp at this); omega
  have T5 := whole_gb hg T4 (by omega)
  have X5 := whole_gb hg X4 (by omega)
  have R5 := row_gb hg R4 (by omega)
  have S5 := hs
  have G5 := grown_trans G4 hg
  clear hg hs S4 G4 T4 X4 R4
  go_wp2_with fail
  refine (next_small _ _ _ _ _ _ _ _ (src_alloc S5 _) (by unfold Few; omega) (by omega) (by omega)).mono ?_
  rintro e m6 ⟨v6, ⟨l6, u6⟩, rfl, hs, hg⟩
  have z6 : m5.heap.size + 1 ≤ m6.heap.size := by have := hg.size; (try simp at this); omega
  have T6 := whole_gb hg (whole_alloc T5 _) (by omega)
  have X6 := whole_gb hg (whole_alloc X5 _) (by omega)
  have R6 := row_gb hg (row_alloc R5 _) (by omega)
  have L6 := whole_gb hg (whole_new m5 _ _) (by omega)
  have S6 := hs
  have G6 := grown_trans (gb_alloc G5 _) hg
  clear hg hs S5 G5 T5 X5 R5
  obtain ⟨i6, rfl⟩ := Int.eq_ofNat_of_zero_le l6
  have ui6 : i6 < 4 := by omega
  obtain ⟨q, hcq, q0, q1⟩ : ∃ q : Int, m6.cell? ⟨m5.heap.size, i6, none⟩ = some (.int .i64 q) ∧ 0 ≤ q ∧ q ≤ 32 := by
    have hw := whole_cell L6 i6
    rcases (by omega : i6 = 0 ∨ i6 = 1 ∨ i6 = 2 ∨ i6 = 3) with rfl | rfl | rfl | rfl
    · exact ⟨v2, hw, by omega, by omega⟩
    · exact ⟨v3, hw, by omega, by omega⟩
    · exact ⟨v4, hw, by omega, by omega⟩
    · exact ⟨30 + v5, hw, by omega, by omega⟩
  obtain ⟨qn, rfl⟩ := Int.eq_ofNat_of_zero_le q0
  have q2 : qn ≤ 32 := by omega
  clear L6
  go_wp2_with fail
  clear hcq
  refine (cells_drew _ _ _ _ _ _ qn _ S6 (by omega) (by omega)).mono ?_
  rintro e m7 ⟨AE, kE, zsE, rfl, hlE, hcE, E7, hs, hg⟩
  have loE : m6.heap.size ≤ m6.heap.size := Nat.le_refl _
  have z7 : m6.heap.size + 0 ≤ m7.heap.size := by have := hg.size; (try simp at this); omega
  have T7 := whole_gb hg T6 (by omega)
  have X7 := whole_gb hg X6 (by omega)
  have R7 := row_gb hg R6 (by omega)
  have S7 := hs
  have G7 := grown_trans G6 hg
  clear hg hs S6 G6 T6 X6 R6
  obtain ⟨c0, c1, c2, c3, c4, c5⟩ := six_cells X7
  have cf := whole_free X7
  have cz := whole_lt X7
  go_wp2_with fail
  clear c0 c1 c2 c3 c4 c5 cf cz
  refine (next_small _ _ _ _ _ _ _ _ (src_lo S7 hb HA.out ((Below.refl _ _).setCell (p := ⟨m1.heap.size, 0, none⟩) (show w.heap.size ≤ m1.heap.size by omega) (.slice AE qn kE))) (by unfold Few; omega) (by omega) (by omega)).mono ?_
  rintro e m8 ⟨v8, ⟨l8, u8⟩, rfl, hs, hg⟩
  have z8 : m7.heap.size + 0 ≤ m8.heap.size := by have := hg.size; (try simp at this); omega
  have T8 := whole_gb hg (whole_far T7 (p := ⟨m1.heap.size, 0, none⟩) (by simp; omega) (.slice AE qn kE)) (by omega)
  have X8 := whole_gb hg (whole_set X7 0 (.slice AE qn kE)) (by omega)
  have R8 := row_gb hg (row_apart (i := 0) (u := (.slice AE qn kE)) R7 (row_unlike R7 X7)) (by omega)
  have E8 := row_gb hg (row_apart (i := 0) (u := (.slice AE qn kE)) E7 (row_unlike E7 X7)) (by omega)
  have S8 := hs
  have G8 := grown_trans (gb_set G7 (p := ⟨m1.heap.size, 0, none⟩) (show w.heap.size ≤ m1.heap.size by omega) (.slice AE qn kE)) hg
  clear hg hs S7 G7 T7 X7 R7 E7
  go_wp2_with fail
  refine (next_small _ _ _ _ _ _ _ _ S8 (by unfold Few; omega) (by omega) (by omega)).mono ?_
  rintro e m9 ⟨v9, ⟨l9, u9⟩, rfl, hs, hg⟩
  have z9 : m8.heap.size + 0 ≤ m9.heap.size := by have := hg.size; (try simp at this); omega
  have T9 := whole_gb hg T8 (by omega)
  have X9 := whole_gb hg X8 (by omega)
  have R9 := row_gb hg R8 (by omega)
  have E9 := row_gb hg E8 (by omega)
  have S9 := hs
  have G9 := grown_trans G8 hg
  clear hg hs S8 G8 T8 X8 R8 E8
  go_wp2_with fail
  refine (next_small _ _ _ _ _ _ _ _ S9 (by unfold Few; omega) (by omega) (by omega)).mono ?_
  rintro e m10 ⟨v10, ⟨l10, u10⟩, rfl, hs, hg⟩
  have z10 : m9.heap.size + 0 ≤ m10.heap.size := by have := hg.size; (try simp at this); omega
  have T10 := whole_gb hg T9 (by omega)
  have X10 := whole_gb hg X9 (by omega)
  have R10 := row_gb hg R9 (by omega)
  have E10 := row_gb hg E9 (by omega)
  have S10 := hs
  have G10 := grown_trans G9 hg
  clear hg hs S9 G9 T9 X9 R9 E9
  go_wp2_with fail
  refine (next_small _ _ _ _ _ _ _ _ (src_alloc S10 _) (by unfold Few; omega) (by omega) (by omega)).mono ?_
  rintro e m11 ⟨v11, ⟨l11, u11⟩, rfl, hs, hg⟩
  have z11 : m10.heap.size + 1 ≤ m11.heap.size := by have := hg.size; (try simp at this); omega
  have T11 := whole_gb hg (whole_alloc T10 _) (by omega)
  have X11 := whole_gb hg (whole_alloc X10 _) (by omega)
  have R11 := row_gb hg (row_alloc R10 _) (by omega)
  have E11 := row_gb hg (row_alloc E10 _) (by omega)
  have L11 := whole_gb hg (whole_new m10 _ _) (by omega)
  have S11 := hs
  have G11 := grown_trans (gb_alloc G10 _) hg
  clear hg hs S10 G10 T10 X10 R10 E10
  obtain ⟨i11, rfl⟩ := Int.eq_ofNat_of_zero_le l11
  have ui11 : i11 < 3 := by omega
  obtain ⟨r, hcr, r0, r1⟩ : ∃ r : Int, m11.cell? ⟨m10.heap.size, i11, none⟩ = some (.int .i64 r) ∧ 0 ≤ r ∧ r ≤ 32 := by
    have hw := whole_cell L11 i11
    rcases (by omega : i11 = 0 ∨ i11 = 1 ∨ i11 = 2) with rfl | rfl | rfl
    · exact ⟨v8, hw, by omega, by omega⟩
    · exact ⟨v9, hw, by omega, by omega⟩
    · exact ⟨30 + v10, hw, by omega, by omega⟩
  obtain ⟨rn, rfl⟩ := Int.eq_ofNat_of_zero_le r0
  have r2 : rn ≤ 32 := by omega
  clear L11
  go_wp2_with fail
  clear hcr
  refine (cells_drew _ _ _ _ _ _ rn _ S11 (by omega) (by omega)).mono ?_
  rintro e m12 ⟨AF, kF, zsF, rfl, hlF, hcF, F12, hs, hg⟩
  have loF : m11.heap.size ≤ m11.heap.size := Nat.le_refl _
  have PEF : Parted (.slice AE qn kE) (.slice AF rn kF) := fun k hk hk2 => by have h1 := row_lt E11 k hk; have h2 := row_lt F12 k hk2; omega
  have z12 : m11.heap.size + 0 ≤ m12.heap.size := by have := hg.size; (try simp at this); omega
  have T12 := whole_gb hg T11 (by omega)
  have X12 := whole_gb hg X11 (by omega)
  have R12 := row_gb hg R11 (by omega)
  have E12 := row_gb hg E11 (by omega)
  have S12 := hs
  have G12 := grown_trans G11 hg
  clear hg hs S11 G11 T11 X11 R11 E11
  obtain ⟨c0, c1, c2, c3, c4, c5⟩ := six_cells X12
  have cf := whole_free X12
  have cz := whole_lt X12
  go_wp2_with fail
  clear c0 c1 c2 c3 c4 c5 cf cz
  refine (next_small _ _ _ _ _ _ _ _ (src_lo S12 hb HA.out ((Below.refl _ _).setCell (p := ⟨m1.heap.size, 1, none⟩) (show w.heap.size ≤ m1.heap.size by omega) (.slice AF rn kF))) (by unfold Few; omega) (by omega) (by omega)).mono ?_
  rintro e m13 ⟨v13, ⟨l13, u13⟩, rfl, hs, hg⟩
  have z13 : m12.heap.size + 0 ≤ m13.heap.size := by have := hg.size; (try simp at this); omega
  have T13 := whole_gb hg (whole_far T12 (p := ⟨m1.heap.size, 1, none⟩) (by simp; omega) (.slice AF rn kF)) (by omega)
  have X13 := whole_gb hg (whole_set X12 1 (.slice AF rn kF)) (by omega)
  have R13 := row_gb hg (row_apart (i := 1) (u := (.slice AF rn kF)) R12 (row_unlike R12 X12)) (by omega)
  have E13 := row_gb hg (row_apart (i := 1) (u := (.slice AF rn kF)) E12 (row_unlike E12 X12)) (by omega)
  have F13 := row_gb hg (row_apart (i := 1) (u := (.slice AF rn kF)) F12 (row_unlike F12 X12)) (by omega)
  have S13 := hs
  have G13 := grown_trans (gb_set G12 (p := ⟨m1.heap.size, 1, none⟩) (show w.heap.size ≤ m1.heap.size by omega) (.slice AF rn kF)) hg
  clear hg hs S12 G12 T12 X12 R12 E12 F12
  go_wp2_with fail
  refine (next_small _ _ _ _ _ _ _ _ (src_alloc S13 _) (by unfold Few; omega) (by omega) (by omega)).mono ?_
  rintro e m14 ⟨v14, ⟨l14, u14⟩, rfl, hs, hg⟩
  have z14 : m13.heap.size + 1 ≤ m14.heap.size := by have := hg.size; (try simp at this); omega
  have T14 := whole_gb hg (whole_alloc T13 _) (by omega)
  have X14 := whole_gb hg (whole_alloc X13 _) (by omega)
  have R14 := row_gb hg (row_alloc R13 _) (by omega)
  have E14 := row_gb hg (row_alloc E13 _) (by omega)
  have F14 := row_gb hg (row_alloc F13 _) (by omega)
  have L14 := whole_gb hg (whole_new m13 _ _) (by omega)
  have S14 := hs
  have G14 := grown_trans (gb_alloc G13 _) hg
  clear hg hs S13 G13 T13 X13 R13 E13 F13
  obtain ⟨i14, rfl⟩ := Int.eq_ofNat_of_zero_le l14
  have ui14 : i14 < 3 := by omega
  obtain ⟨h, hch, h0, h1⟩ : ∃ h : Int, m14.cell? ⟨m13.heap.size, i14, none⟩ = some (.int .i64 h) ∧ 0 ≤ h ∧ h ≤ 32 := by
    have hw := whole_cell L14 i14
    rcases (by omega : i14 = 0 ∨ i14 = 1 ∨ i14 = 2) with rfl | rfl | rfl
    · exact ⟨v13, hw, by omega, by omega⟩
    · exact ⟨4, hw, by omega, by omega⟩
    · exact ⟨32, hw, by omega, by omega⟩
  obtain ⟨hn, rfl⟩ := Int.eq_ofNat_of_zero_le h0
  have h2 : hn ≤ 32 := by omega
  clear L14
  obtain ⟨c0, c1, c2, c3, c4, c5⟩ := six_cells X14
  have cf := whole_free X14
  have cz := whole_lt X14
  go_wp2
  clear hch
  clear c0 c1 c2 c3 c4 c5 cf cz
  have X99 := (whole_set X14 3 (.int .i64 hn))
  have T99 := (whole_far T14 (p := ⟨m1.heap.size, 3, none⟩) (by simp; omega) (.int .i64 hn))
  have R99 := (row_apart (i := 3) (u := (.int .i64 hn)) R14 (row_unlike R14 X14))
  have E99 := (row_apart (i := 3) (u := (.int .i64 hn)) E14 (row_unlike E14 X14))
  have F99 := (row_apart (i := 3) (u := (.int .i64 hn)) F14 (row_unlike F14 X14))
  have S99 := (src_lo S14 hb HA.out ((Below.refl _ _).setCell (p := ⟨m1.heap.size, 3, none⟩) (show w.heap.size ≤ m1.heap.size by omega) (.int .i64 hn)))
  have G99 := (gb_set G14 (p := ⟨m1.heap.size, 3, none⟩) (show w.heap.size ≤ m1.heap.size by omega) (.int .i64 hn))
  have z99 : m14.heap.size ≤ (m14.setCell ⟨m1.heap.size, 3, none⟩ (.int .i64 hn)).heap.size := by simp
  clear S14 G14 X14 T14 R14 E14 F14
  generalize m14.setCell ⟨m1.heap.size, 3, none⟩ (.int .i64 hn) = m99 at *
  have hgE : g3 < m6.heap.size := by omega
  have hgF : g3 < m11.heap.size := by omega
  have hgX : g3 ≠ m1.heap.size := by omega
  have X99' : Whole m99 m1.heap.size 25 #[.slice AE qn kE, .slice AF rn kF, .slice (some ⟨g3, 0, none⟩) 32 k3, .int .i64 hn, .int .i64 10, .string ByteArray.empty] := X99
  go_loopw [4] (fun i wr => ∃ (k : Nat) (zs : List Int), k ≤ hn ∧ i = .int .i64 k ∧ zs.length = 32 ∧ cellsB zs = true ∧ Whole wr m1.heap.size 25 #[.slice AE qn kE, .slice AF rn kF, .slice (some ⟨g3, 0, none⟩) 32 k3, .int .i64 hn, .int .i64 10, .string ByteArray.empty] ∧ Whole wr w.heap.size 25 #[.slice none 0 0, .slice none 0 0, .slice none 0 0, .int .i64 0, .int .i64 0, .string ByteArray.empty] ∧ Row wr (w.heap.size + 1) (.slice (some ⟨g3, 0, none⟩) 32 k3) zs ∧ Row wr m6.heap.size (.slice AE qn kE) zsE ∧ Row wr m11.heap.size (.slice AF rn kF) zsF ∧ Src wr b a len cap code (1000 + 5 * k) ∧ w.grownBy wr (some b) ∧ m14.heap.size ≤ wr.heap.size) (fun i _ => hn - (intOf i).toNat)
  case atStart => exact ⟨0, List.replicate 32 0, Nat.zero_le _, rfl, by simp, by decide, X99', T99, R99, E99, F99, src_mono S99 (by omega), G99, z99⟩
  case round =>
    obtain ⟨k, zs, hk, rfl, hzl, hzc, X4, T4, R4, E4, F4, S4, G4, z4⟩ := hrel
    clear X99 X99' T99 R99 E99 F99 S99 G99 z99
    have LC := Lib.hid hzc
    have LL := Lib.hid hzl
    clear hzc
    obtain ⟨c0, c1, c2, c3, c4, c5⟩ := six_cells X4
    by_cases hlt : k < hn
    · have hk32 : k < zs.length := by omega
      clear hzl
      have ki0 : (0 : Int) ≤ (k : Int) := by omega
      have ki1 : (k : Int) < 32 := by omega
      have ki2 : k < 32 := by omega
      go_wp2
      go_region_held3 (fun w' => w'.cell? ⟨m1.heap.size, 2, none⟩ = some (.slice (some ⟨g3, 0, none⟩) 32 k3)) (first | exact (six_cells (by assumption)).2.2.1 | exact (six_cells (whole_far X5 (p := ⟨g3, k, none⟩) (by simp; omega) (.int .i64 v))).2.2.1)
        (first | (go_at_call 35; refine (cell_any b a len cap code (1000 + 5 * k) _ (by first | exact S4 | exact src_draws' S4) (by unfold Few; omega)).mono ?_; rintro e m5' ⟨v, hv, rfl, hs, hg⟩; have X5 := whole_gb hg X4 (by omega); have T5 := whole_gb hg T4 (by omega); have R5 := row_gb hg R4 (by omega); have E5 := row_gb hg E4 (by omega); have F5 := row_gb hg F4 (by omega); have G5 := grown_trans (by first | exact G4 | exact gb_drew G4) hg; have z5 : wr.heap.size ≤ m5'.heap.size := hg.size; have ll := LL.out; have R5' : Row m5' (w.heap.size + 1) (.slice (some ⟨g3, 0, none⟩) zs.length k3) zs := (by rw [ll]; exact R5); have ko := row_cell R5' k hk32; have kf := row_free R5' k; have RS := (row_set R5' k v).1; have V := Lib.hid hv; clear hg ll hv))
      have X6 := whole_far X5 (p := ⟨g3, k, none⟩) (by simp; omega) (.int .i64 v)
      have T6 := whole_far T5 (p := ⟨g3, k, none⟩) (by simp; omega) (.int .i64 v)
      have E6 := row_store (g := g3) (i := k) (u := .int .i64 v) E5 hgE
      have F6 := row_store (g := g3) (i := k) (u := .int .i64 v) F5 hgF
      have BL : Below w.heap.size m5' (m5'.setCell ⟨g3, k, none⟩ (.int .i64 v)) := (Below.refl _ _).setCell (by simp; omega) _
      have S6 := src_lo hs hb HA.out BL
      have G6 := gb_of_lo G5 BL
      have L6 : Hid ((zs.set k v).length = 32) := Lib.hid (by rw [List.length_set]; exact LL.out)
      have C6 : Hid (cellsB (zs.set k v) = true) := Lib.hid (cellsB_set LC.out V.out)
      rw [LL.out] at RS
      go_wp2
      go_roundw
      case rel => exact ⟨k + 1, zs.set k v, by omega, by go_num, L6.out, C6.out, X6, T6, RS, E6, F6, src_mono S6 (by omega), G6, by simp; omega⟩
      case measure => simp [intOf]; omega
    · obtain rfl : k = hn := by omega
      clear hzl hlt c0 c1 c4 c5
      go_wp2_with fail
      clear c2 c3
      refine (next_small _ _ _ _ _ _ _ _ (src_alloc S4 _) (by unfold Few; omega) (by omega) (by omega)).mono ?_
      rintro e y1 ⟨v, ⟨l1, u1⟩, rfl, hs, hg⟩
      have zy : wr.heap.size + 1 ≤ y1.heap.size := by have := hg.size; simpa using this
      have X5 := whole_gb hg (whole_alloc X4 _) (by omega)
      have T5 := whole_gb hg (whole_alloc T4 _) (by omega)
      have R5 := row_gb hg (row_alloc R4 _) (by omega)
      have E5 := row_gb hg (row_alloc E4 _) (by omega)
      have F5 := row_gb hg (row_alloc F4 _) (by omega)
      have L5 := whole_gb hg (whole_new wr _ _) (by omega)
      have G5 := grown_trans (gb_alloc G4 _) hg
      obtain ⟨i, rfl⟩ := Int.eq_ofNat_of_zero_le l1
      obtain ⟨bs, hbs, bs0, bs1⟩ : ∃ bs : Int, y1.cell? ⟨wr.heap.size, i, none⟩ = some (.int .i64 bs) ∧ 2 ≤ bs ∧ bs ≤ 16 := by
        have hw := whole_cell L5 i
        rcases (by omega : i = 0 ∨ i = 1 ∨ i = 2 ∨ i = 3) with rfl | rfl | rfl | rfl
        · exact ⟨10, hw, by omega, by omega⟩
        · exact ⟨10, hw, by omega, by omega⟩
        · exact ⟨16, hw, by omega, by omega⟩
        · exact ⟨2, hw, by omega, by omega⟩
      clear hg X4 T4 R4 E4 F4 S4 G4 L5
      obtain ⟨c0, c1, c2, c3, c4, c5⟩ := six_cells X5
      have cf := whole_free X5
      have cz := whole_lt X5
      go_wp2_with (at_make; refine wpList_make_full _ rfl _ _ 22 rfl 0 5 i0 (.int .u8 0) 1 Try.underlying22 I0.out Z0.out Z1.out .i64 .i64 _ _ 298 rfl rfl rfl rfl B8.out (by unfold maxLen; omega) (Nat.zero_le _) ?_
                   intro y2 ho3 hg3'
                   have BL : Below w.heap.size y1 y2 := ((Below.refl _ _).setCell (show w.heap.size ≤ m1.heap.size by omega) (.int .i64 bs)).grown hg3' (by simp; omega) (fun k hk => by cases hk)
                   have X6 := whole_keep (whole_set X5 4 (.int .i64 bs)) (hg3'.block _ (by simp; omega) (by simp))
                   have T6 := whole_keep (whole_far T5 (p := ⟨m1.heap.size, 4, none⟩) (by simp; omega) (.int .i64 bs)) (hg3'.block _ (by simp; have := whole_lt T5; omega) (by simp))
                   have R6 := row_keep (row_apart R5 (row_unlike R5 X5)) (fun k hk => hg3'.block k (by simp; exact (row_lt R5 k hk).2) (by simp))
                   have E6 := row_keep (row_apart E5 (row_unlike E5 X5)) (fun k hk => hg3'.block k (by simp; exact (row_lt E5 k hk).2) (by simp))
                   have F6 := row_keep (row_apart F5 (row_unlike F5 X5)) (fun k hk => hg3'.block k (by simp; exact (row_lt F5 k hk).2) (by simp))
                   have S6 := src_lo hs hb HA.out BL
                   have G6 := gb_of_lo G5 BL
                   have zy2 : y1.heap.size ≤ y2.heap.size := BL.size
                   rw [toList_madeCells_one'] at ho3
                   rw [show (y1.setCell ⟨m1.heap.size, 4, none⟩ (.int .i64 bs)).heap.size = y1.heap.size by simp] at ho3
                   obtain ⟨st, hst, hcv⟩ := zeros_str _ _ 298 ho3
                   have ST := Lib.hid hst
                   clear ho3 hg3' hst BL)
      have TX := Lib.hid (texts_three y2 ST.out)
      refine (pick_drew _ _ _ _ _ _ _ 3 _ 298 _ (src_alloc S6 _) (by omega) (by have h := TX.out; exact h) (by simp; omega) (by omega) (by omega)).mono ?_
      rintro e y3 ⟨tx, rfl, htx, hg⟩
      have zy3 : y2.heap.size + 1 ≤ y3.heap.size := by have := hg.size; simpa using this
      have X7 := whole_gb hg (whole_alloc X6 _) (by omega)
      have T7 := whole_gb hg (whole_alloc T6 _) (by omega)
      have R7 := row_gb hg (row_alloc R6 _) (by omega)
      have E7 := row_gb hg (row_alloc E6 _) (by omega)
      have F7 := row_gb hg (row_alloc F6 _) (by omega)
      have G7 := grown_trans (gb_alloc G6 _) hg
      clear hg X5 X6 T5 T6 R5 R6 E5 E6 F5 F6 G5 G6 S6 c0 c1 c2 c3 c4 c5 cf cz hcv
      obtain ⟨c0, c1, c2, c3, c4, c5⟩ := six_cells X7
      have cf := whole_free X7
      obtain ⟨r0, r1, r2, r3, r4, r5⟩ := six_cells T7
      have rf := whole_free T7
      go_wp2
      have R8 := row_apart (i := 5) (u := .string tx) R7 (row_unlike R7 X7)
      have E8 := row_store (g := m1.heap.size) (i := 5) (u := .string tx) E7 (by omega)
      have F8 := row_store (g := m1.heap.size) (i := 5) (u := .string tx) F7 (by omega)
      refine bodyPost_ret (v := .agg #[.slice AE qn kE, .slice AF rn kF, .slice (some ⟨g3, 0, none⟩) 32 k3, .int .i64 k, .int .i64 bs, .string tx]) (by simp [results, Try.results34, go_sem, *]) rfl ⟨_, ⟨zsE, zsF, zs, k, bs, tx⟩, rfl, ?_, ?_, ?_⟩
      · exact ⟨by show zsE.length ≤ 32; omega, by show zsF.length ≤ 32; omega, LL.out, hcE, hcF, LC.out, by show (0 : Int) ≤ (k : Int); omega, by show (k : Int) ≤ 32; omega, inB_of (by show (2 : Int) ≤ bs; omega) (by show bs ≤ (16 : Int); omega), by show tx.size ≤ 300; omega⟩
      · refine datOf_top (datOf_base (datOf_rows (d := ⟨zsE, zsF, zs, k, bs, tx⟩) (lo := w.heap.size + 1) ?_ ?_ ?_ ?_ PEF ?_ ?_) (by omega)) (Nat.le_refl _)
        · have h := row_base (base' := w.heap.size + 1) E8 (by omega)
          show Row _ _ _ zsE
          repeat (first | with_reducible exact h | ((with_reducible refine row_store ?_ ?hh); case hh => omega))
        · have h := row_base (base' := w.heap.size + 1) F8 (by omega)
          show Row _ _ _ zsF
          repeat (first | with_reducible exact h | ((with_reducible refine row_store ?_ ?hh); case hh => omega))
        · show Row _ _ _ zs
          repeat (first | with_reducible exact R8 | ((with_reducible refine row_store ?_ ?hh); case hh => omega))
        · show tx.size ≤ maxLen; unfold maxLen; omega
        · intro q hq hq2; have h1 := (row_lt E7 q hq).1; have e : g3 = q := by simpa [Value.ownBlock] using hq2
          omega
        · intro q hq hq2; have h1 := (row_lt F7 q hq).1; have e : g3 = q := by simpa [Value.ownBlock] using hq2
          omega
      · exact gb_of_lo G7 (by repeat (first | with_reducible exact Below.refl _ _ | with_reducible refine Below.setCell ?_ (by simp; try omega) _))

end Go.Proofs.Ytojjknjdlipfpaa
