/- Draws of a host: chance, the row of grants. -/
import Derived.Test.YtkcogfgjabemfaaHsG
import Derived.Test.YtkcogfgjabemfaaHsD
import Derived.Test.YtkcogfgjabemfaaDrB
import Derived.Deep.RegionHeld3
namespace Go.Proofs.Ytkcogfgjabemfaa
open Go.RowKit
set_option linter.unusedVariables false
set_option linter.unusedSimpArgs false

/-- What a drawn yes or no leaves. -/
def YesNo (w : World) (b : Nat) (a : Option Addr) (len cap : Nat) (zs : List Int) (N : Nat) (e : Ending) (w' : World) : Prop :=
  ∃ y : Bool, e = .returned (.bool y) ∧ Src w' b a len cap zs N ∧ w.grownBy w' (some b)

set_option maxRecDepth 100000 in
set_option maxHeartbeats 400000 in
theorem chance_drew (b : Nat) (a : Option Addr) (len cap : Nat) (zs : List Int) (N : Nat) (n : Int) (w : World) (h : Src w b a len cap zs N) (hN : Few N) (h1 : 1 < n) (h2 : n ≤ 256) :
    Calls Try.prog 92 #[.pointer (some ⟨b, 0, none⟩), .int .i64 n] w (YesNo w b a len cap zs (N + 1)) := by
  have C := Lib.hid (next_small b a len cap zs N n w h hN h1 h2)
  clear h hN
  go_enter Try.func92, Try.ntmps92
  go_wp2_with fail
  refine C.out.mono ?_
  rintro e w1 ⟨v, _, rfl, hs, hg⟩
  have S := Lib.hid hs
  have G := Lib.hid hg
  clear hs hg
  go_wp2
  go_ret
  exact ⟨_, rfl, S.out, G.out⟩

theorem hostOf_gb {w w' : World} {b lo hi : Nat} {v : Value} {h : Ht} (hg : w.grownBy w' (some b)) (H : HostOf w lo hi v h) (hb : b < lo) : HostOf w' lo hi v h :=
  hostOf_keep H fun k h1 h2 _ => hg.block k h1 (fun e => by cases e; omega)

theorem borow_gb {w w' : World} {b lo : Nat} {v : Value} {zs : List Bool} (hg : w.grownBy w' (some b)) (h : BoRow w lo v zs) (hb : b < lo) : BoRow w' lo v zs :=
  borow_keep h (fun g hv => hg.block g (borow_lt h g hv).2 (fun e => by have := borow_lt h g hv; simp at e; omega))

theorem drow_gb {w w' : World} {b lo : Nat} {v : Value} {zs : List Dd} (hg : w.grownBy w' (some b)) (h : DRow w lo v zs) (hb : b < lo) : DRow w' lo v zs :=
  drow_keep h (fun g hv => hg.block g (drow_lt h g hv).2 (fun e => by have := drow_lt h g hv; simp at e; omega))

/-- What a drawn host leaves. -/
def HostDrew (w : World) (b : Nat) (e : Ending) (w' : World) : Prop := ∃ u h, e = .returned u ∧ HtFine h ∧ h.n.length < 20 ∧ HostOf w' w.heap.size w'.heap.size u h ∧ w.grownBy w' (some b)

theorem dds_zero (n : Nat) : ddsB (List.replicate n noDd) = true := by
  unfold ddsB
  rw [List.all_eq_true]
  intro x hx
  rw [List.eq_of_mem_replicate hx]
  decide

set_option maxRecDepth 100000 in
set_option maxHeartbeats 8000000 in
theorem host_drew (b : Nat) (a : Option Addr) (len cap : Nat) (code : List Int) (w : World) (h : Src w b a len cap code 0) :
    Calls Try.prog 48 #[.pointer (some ⟨b, 0, none⟩)] w (HostDrew w b) := by
  have hb := src_lt h
  have HA := Lib.hid (src_code_lt h)
  have H := Lib.hid h
  clear h
  obtain ⟨i0, hi0, hz0, hz1, hz2⟩ := info_parts own_infoDd
  have I0 := Lib.hid hi0
  have Z0 := Lib.hid hz0
  have Z1 := Lib.hid hz1
  have BY := Lib.hid hz2
  clear hi0 hz0 hz1 hz2
  go_enter Try.func48, Try.ntmps48
  go_wp2_with fail
  refine (sHNew_any _).mono ?_
  rintro e m1 ⟨u, rfl, hu, hbl⟩
  have z1 : w.heap.size + 1 ≤ m1.heap.size := by have := hbl.size; simpa using this
  obtain ⟨x, y, z, q, rfl, rx, ry, rz, rq, p1, p2, p3, p4, p5, p6, hh⟩ := hu
  have rx' : BoRow m1 (w.heap.size + 1) x (List.replicate 4 false) := borow_base rx (by simp)
  obtain ⟨g3, k3, rfl, hg3, hg3', hk3, hm3⟩ := borow_form rx' (by simp)
  have R1 : BoRow m1 (w.heap.size + 1) (.slice (some ⟨g3, 0, none⟩) 4 k3) (List.replicate 4 false) := rx'
  obtain ⟨_, D1, t1, rfl, _⟩ := row_ints ry
  obtain ⟨_, D2, t2, rfl, _⟩ := row_ints rz
  obtain ⟨_, D4, t4, rfl, _⟩ := drow_dds rq
  have Q1 : DRow m1 (w.heap.size + 1) (.slice D4 0 t4) [] := drow_base rq (by simp)
  have LQ : ∀ k, (Value.slice D4 0 t4).ownBlock = some k → w.heap.size + 1 ≤ k ∧ k < m1.heap.size := fun k hk => ⟨(drow_lt Q1 k hk).1, hh k (.inr (.inr (.inr hk)))⟩
  have PRQ : Parted (.slice (some ⟨g3, 0, none⟩) 4 k3) (.slice D4 0 t4) := p3
  have LG : w.heap.size + 1 ≤ g3 ∧ g3 < m1.heap.size := ⟨hg3, hg3'⟩
  have B1 := below_step (below_alloc (Below.refl _ _) _) hbl
  have S1 := src_lo H.out hb HA.out B1
  have G1 : w.grownBy m1 (some b) := gb_of_lo (World.grownBy.refl w _) B1
  have T1 := whole_b hbl (whole_new w _ _)
  have X1 := whole_new m1 27 #[.slice (some ⟨g3, 0, none⟩) 4 k3, .slice D1 8 t1, .slice D2 0 t2, .int .i64 0, .slice D4 0 t4]
  clear hbl rx ry rz rq rx' B1 p1 p2 p3 p4 p5 p6 hh hg3 hg3'
  go_wp2
  go_loopw [4] (fun i wr => ∃ (k : Nat) (gs : List Bool), k ≤ 4 ∧ i = .int .i64 k ∧ gs.length = 4 ∧ Whole wr m1.heap.size 27 #[.slice (some ⟨g3, 0, none⟩) 4 k3, .slice D1 8 t1, .slice D2 0 t2, .int .i64 0, .slice D4 0 t4] ∧ Whole wr w.heap.size 27 #[.slice none 0 0, .slice none 0 0, .slice none 0 0, .int .i64 0, .slice none 0 0] ∧ BoRow wr (w.heap.size + 1) (.slice (some ⟨g3, 0, none⟩) 4 k3) gs ∧ DRow wr (w.heap.size + 1) (.slice D4 0 t4) [] ∧ Src wr b a len cap code k ∧ w.grownBy wr (some b) ∧ m1.heap.size + 1 ≤ wr.heap.size) (fun i _ => 4 - (intOf i).toNat)
  case atStart => exact ⟨0, List.replicate 4 false, Nat.zero_le _, rfl, rfl, X1, whole_alloc T1 _, borow_alloc R1 _, drow_alloc Q1 _, src_alloc S1 _, gb_alloc G1 _, by simp⟩
  case round =>
    obtain ⟨k, gs, hk, rfl, hzl, X4, T4, R4, Q4, S4, G4, z4⟩ := hrel
    clear X1 T1 R1 Q1 S1 G1
    have LL := Lib.hid hzl
    clear hzl
    obtain ⟨c0, c1, c2, c3, c4⟩ := five_cells X4
    by_cases hlt : k < 4
    · have hk32 : k < gs.length := by have := LL.out; omega
      have ki0 : (0 : Int) ≤ (k : Int) := by omega
      have ki1 : (k : Int) < 4 := by omega
      clear c1 c2 c3 c4
      go_wp2
      go_region_held3 (fun w' => w'.cell? ⟨m1.heap.size, 0, none⟩ = some (.slice (some ⟨g3, 0, none⟩) 4 k3)) (first | exact (five_cells (by assumption)).1 | exact (five_cells (whole_far X5 (p := ⟨g3, k, none⟩) (by simp; omega) (.bool (!y)))).1)
        (first | (go_at_call 92; refine (chance_drew b a len cap code k 3 _ (by first | exact S4 | exact src_draws' S4) (by unfold Few; omega) (by omega) (by omega)).mono ?_; rintro e m5' ⟨y, rfl, hs, hg⟩; have X5 := whole_gb hg X4 (by omega); have T5 := whole_gb hg T4 (by omega); have R5 := borow_gb hg R4 (by omega); have Q5 := drow_gb hg Q4 (by omega); have G5 := grown_trans (by first | exact G4 | exact gb_drew G4) hg; have z5 : wr.heap.size ≤ m5'.heap.size := hg.size; have ll := LL.out; have R5' : BoRow m5' (w.heap.size + 1) (.slice (some ⟨g3, 0, none⟩) gs.length k3) gs := (by rw [ll]; exact R5); have ko := borow_cell R5' k hk32; have kf := borow_free R5' k; have RS := (borow_set R5' k (!y)).1; clear hg ll))
      have X6 := whole_far X5 (p := ⟨g3, k, none⟩) (by simp; omega) (.bool (!y))
      have T6 := whole_far T5 (p := ⟨g3, k, none⟩) (by simp; omega) (.bool (!y))
      have Q6 := drow_far (g := g3) (i := k) (u := .bool (!y)) Q5 (parted_ne PRQ)
      have BL : Below w.heap.size m5' (m5'.setCell ⟨g3, k, none⟩ (.bool (!y))) := (Below.refl _ _).setCell (by simp; omega) _
      have S6 := src_lo hs hb HA.out BL
      have G6 := gb_of_lo G5 BL
      have L6 : Hid ((gs.set k (!y)).length = 4) := Lib.hid (by rw [List.length_set]; exact LL.out)
      rw [LL.out] at RS
      go_wp2
      go_roundw
      case rel => exact ⟨k + 1, gs.set k (!y), by omega, by go_num, L6.out, X6, T6, RS, Q6, src_mono S6 (by omega), G6, by simp; omega⟩
      case measure => simp [intOf]; omega
    · obtain rfl : k = 4 := by omega
      clear hlt c0 c1 c2 c3 c4
      go_wp2_with fail
      refine (cells_drew _ _ _ _ _ _ 8 _ S4 (by omega) (by omega)).mono ?_
      rintro e m7 ⟨AE, kE, zsE, rfl, hlE, hcE, E7, hs, hg⟩
      have X7 := whole_gb hg X4 (by omega)
      have T7 := whole_gb hg T4 (by omega)
      have R7 := borow_gb hg R4 (by omega)
      have Q7 := drow_gb hg Q4 (by omega)
      have S7 := hs
      have G7 := grown_trans G4 hg
      have z7 : wr.heap.size ≤ m7.heap.size := by have := hg.size; (try simp at this); omega
      clear hg hs S4 G4 X4 T4 R4 Q4
      obtain ⟨c0, c1, c2, c3, c4⟩ := five_cells X7
      have cf := whole_free X7
      have cz := whole_lt X7
      go_wp2_with fail
      clear c0 c1 c2 c3 c4 cf cz
      refine (next_small _ _ _ _ _ _ _ _ (src_lo S7 hb HA.out ((Below.refl _ _).setCell (p := ⟨m1.heap.size, 1, none⟩) (show w.heap.size ≤ m1.heap.size by omega) (.slice AE 8 kE))) (by unfold Few; omega) (by omega) (by omega)).mono ?_
      rintro e m8 ⟨v8, ⟨l8, u8⟩, rfl, hs, hg⟩
      have X8 := whole_gb hg (whole_set X7 1 (.slice AE 8 kE)) (by omega)
      have T8 := whole_gb hg (whole_far T7 (p := ⟨m1.heap.size, 1, none⟩) (by simp; omega) (.slice AE 8 kE)) (by omega)
      have R8 := borow_gb hg (borow_far (g := m1.heap.size) (i := 1) (u := .slice AE 8 kE) R7 (fun k hk => by have e : g3 = k := (by simpa [Value.ownBlock] using hk); omega)) (by omega)
      have Q8 := drow_gb hg (drow_far (g := m1.heap.size) (i := 1) (u := .slice AE 8 kE) Q7 (fun k hk => by have := LQ k hk; omega)) (by omega)
      have E8 := row_gb hg (row_store (g := m1.heap.size) (i := 1) (u := .slice AE 8 kE) E7 (by omega)) (by omega)
      have S8 := hs
      have G8 := grown_trans (gb_set G7 (p := ⟨m1.heap.size, 1, none⟩) (show w.heap.size ≤ m1.heap.size by omega) (.slice AE 8 kE)) hg
      have z8 : m7.heap.size ≤ m8.heap.size := by have := hg.size; (try simp at this); omega
      clear hg hs S7 G7 X7 T7 R7 Q7 E7
      obtain ⟨n8, rfl⟩ := Int.eq_ofNat_of_zero_le l8
      have q8 : n8 < 4 := by omega
      go_wp2_with fail
      refine (cells_drew _ _ _ _ _ _ n8 _ S8 (by omega) (by omega)).mono ?_
      rintro e m9 ⟨AF, kF, zsF, rfl, hlF, hcF, F9, hs, hg⟩
      have X9 := whole_gb hg X8 (by omega)
      have T9 := whole_gb hg T8 (by omega)
      have R9 := borow_gb hg R8 (by omega)
      have Q9 := drow_gb hg Q8 (by omega)
      have E9 := row_gb hg E8 (by omega)
      have E8s := E8
      have S9 := hs
      have G9 := grown_trans G8 hg
      have z9 : m8.heap.size ≤ m9.heap.size := by have := hg.size; (try simp at this); omega
      clear hg hs S8 G8 X8 T8 R8 Q8 E8
      obtain ⟨c0, c1, c2, c3, c4⟩ := five_cells X9
      have cf := whole_free X9
      have cz := whole_lt X9
      go_wp2_with fail
      clear c0 c1 c2 c3 c4 cf cz
      refine (next_small _ _ _ _ _ _ _ _ (src_lo S9 hb HA.out ((Below.refl _ _).setCell (p := ⟨m1.heap.size, 2, none⟩) (show w.heap.size ≤ m1.heap.size by omega) (.slice AF n8 kF))) (by unfold Few; omega) (by omega) (by omega)).mono ?_
      rintro e m10 ⟨v10, ⟨l10, u10⟩, rfl, hs, hg⟩
      have X10 := whole_gb hg (whole_set X9 2 (.slice AF n8 kF)) (by omega)
      have T10 := whole_gb hg (whole_far T9 (p := ⟨m1.heap.size, 2, none⟩) (by simp; omega) (.slice AF n8 kF)) (by omega)
      have R10 := borow_gb hg (borow_far (g := m1.heap.size) (i := 2) (u := .slice AF n8 kF) R9 (fun k hk => by have e : g3 = k := (by simpa [Value.ownBlock] using hk); omega)) (by omega)
      have Q10 := drow_gb hg (drow_far (g := m1.heap.size) (i := 2) (u := .slice AF n8 kF) Q9 (fun k hk => by have := LQ k hk; omega)) (by omega)
      have E10 := row_gb hg (row_store (g := m1.heap.size) (i := 2) (u := .slice AF n8 kF) E9 (by omega)) (by omega)
      have F10 := row_gb hg (row_store (g := m1.heap.size) (i := 2) (u := .slice AF n8 kF) F9 (by omega)) (by omega)
      have S10 := hs
      have G10 := grown_trans (gb_set G9 (p := ⟨m1.heap.size, 2, none⟩) (show w.heap.size ≤ m1.heap.size by omega) (.slice AF n8 kF)) hg
      have z10 : m9.heap.size ≤ m10.heap.size := by have := hg.size; (try simp at this); omega
      clear hg hs S9 G9 X9 T9 R9 Q9 E9 F9
      obtain ⟨c0, c1, c2, c3, c4⟩ := five_cells X10
      have cf := whole_free X10
      have cz := whole_lt X10
      go_wp2_with fail
      clear c0 c1 c2 c3 c4 cf cz
      refine (chance_drew _ _ _ _ _ _ _ _ (src_lo S10 hb HA.out ((Below.refl _ _).setCell (p := ⟨m1.heap.size, 3, none⟩) (show w.heap.size ≤ m1.heap.size by omega) (.int .i64 v10))) (by unfold Few; omega) (by omega) (by omega)).mono ?_
      rintro e m11 ⟨y, rfl, hs, hg⟩
      have X11 := whole_gb hg (whole_set X10 3 (.int .i64 v10)) (by omega)
      have T11 := whole_gb hg (whole_far T10 (p := ⟨m1.heap.size, 3, none⟩) (by simp; omega) (.int .i64 v10)) (by omega)
      have R11 := borow_gb hg (borow_far (g := m1.heap.size) (i := 3) (u := .int .i64 v10) R10 (fun k hk => by have e : g3 = k := (by simpa [Value.ownBlock] using hk); omega)) (by omega)
      have Q11 := drow_gb hg (drow_far (g := m1.heap.size) (i := 3) (u := .int .i64 v10) Q10 (fun k hk => by have := LQ k hk; omega)) (by omega)
      have E11 := row_gb hg (row_store (g := m1.heap.size) (i := 3) (u := .int .i64 v10) E10 (by omega)) (by omega)
      have F11 := row_gb hg (row_store (g := m1.heap.size) (i := 3) (u := .int .i64 v10) F10 (by omega)) (by omega)
      have S11 := hs
      have G11 := grown_trans (gb_set G10 (p := ⟨m1.heap.size, 3, none⟩) (show w.heap.size ≤ m1.heap.size by omega) (.int .i64 v10)) hg
      have z11 : m10.heap.size ≤ m11.heap.size := by have := hg.size; (try simp at this); omega
      clear hg hs S10 G10 X10 T10 R10 Q10 E10 F10
      have LE := fun k hk => row_lt E11 k hk
      have LF := fun k hk => row_lt F11 k hk
      have PRE : Parted (.slice (some ⟨g3, 0, none⟩) 4 k3) (.slice AE 8 kE) := fun k hk hk2 => by have h1 := LE k hk2; have e : g3 = k := (by simpa [Value.ownBlock] using hk); omega
      have PRF : Parted (.slice (some ⟨g3, 0, none⟩) 4 k3) (.slice AF n8 kF) := fun k hk hk2 => by have h1 := LF k hk2; have e : g3 = k := (by simpa [Value.ownBlock] using hk); omega
      have PEF : Parted (.slice AE 8 kE) (.slice AF n8 kF) := fun k hk hk2 => by have h1 := row_lt E8s k hk; have h2 := LF k hk2; omega
      have PEQ : Parted (.slice AE 8 kE) (.slice D4 0 t4) := fun k hk hk2 => by have h1 := LE k hk; have h2 := LQ k hk2; omega
      have PFQ : Parted (.slice AF n8 kF) (.slice D4 0 t4) := fun k hk hk2 => by have h1 := LF k hk; have h2 := LQ k hk2; omega
      cases y
      · have E9s := E11
        obtain ⟨c0, c1, c2, c3, c4⟩ := five_cells X11
        have cf := whole_free X11
        have cz := whole_lt X11
        obtain ⟨r0, r1, r2, r3, r4⟩ := five_cells T11
        have rf := whole_free T11
        go_wp2
        have RZ := R11
        have EZ := E11
        have FZ := F11
        have QZ := Q11
        have GZ := G11
        refine bodyPost_ret (v := .agg #[.slice (some ⟨g3, 0, none⟩) 4 k3, .slice AE 8 kE, .slice AF n8 kF, .int .i64 v10, .slice D4 0 t4]) (by simp [results, Try.results48, go_sem, *]) rfl ⟨_, ⟨gs, zsE, zsF, v10, []⟩, rfl, ?_, by show zsF.length < 20; omega, ?_, ?_⟩
        · exact ⟨LL.out, hlE, by show zsF.length ≤ 20; omega, by show ([] : List Dd).length ≤ 40; simp, hcE, hcF, by show inB v10 0 2147483647 = true; exact decide_eq_true ⟨by omega, by omega⟩, by show ddsB [] = true; first | rfl | exact dds_zero _⟩
        · refine hostOf_top (hostOf_base (hostOf_rows (h := ⟨gs, zsE, zsF, v10, []⟩) (lo := w.heap.size + 1) ?_ ?_ ?_ ?_ PRE PRF PRQ PEF PEQ PFQ) (by omega)) (Nat.le_refl _)
          · show BoRow _ _ _ gs
            repeat (first | with_reducible exact RZ | ((with_reducible refine borow_store ?_ ?hh); case hh => omega))
          · show Row _ _ _ zsE
            have h := row_base (base' := w.heap.size + 1) EZ (by omega)
            repeat (first | with_reducible exact h | ((with_reducible refine row_store ?_ ?hh); case hh => omega))
          · show Row _ _ _ zsF
            have h := row_base (base' := w.heap.size + 1) FZ (by omega)
            repeat (first | with_reducible exact h | ((with_reducible refine row_store ?_ ?hh); case hh => omega))
          · show DRow _ _ _ []
            have h := drow_base (base' := w.heap.size + 1) QZ (by omega)
            repeat (first | with_reducible exact h | ((with_reducible refine drow_store ?_ ?hh); case hh => omega))
        · exact gb_of_lo GZ (by repeat (first | with_reducible exact Below.refl _ _ | with_reducible refine Below.setCell ?_ (by simp; try omega) _))
      · go_wp2_with fail
        refine (next_small _ _ _ _ _ _ _ _ S11 (by unfold Few; omega) (by omega) (by omega)).mono ?_
        rintro e m12 ⟨v12, ⟨l12, u12⟩, rfl, hs, hg⟩
        have X12 := whole_gb hg X11 (by omega)
        have T12 := whole_gb hg T11 (by omega)
        have R12 := borow_gb hg R11 (by omega)
        have Q12 := drow_gb hg Q11 (by omega)
        have E12 := row_gb hg E11 (by omega)
        have F12 := row_gb hg F11 (by omega)
        have S12 := hs
        have G12 := grown_trans G11 hg
        have z12 : m11.heap.size ≤ m12.heap.size := by have := hg.size; (try simp at this); omega
        clear hg hs S11 G11 X11 T11 R11 Q11 E11 F11
        obtain ⟨n12, rfl⟩ := Int.eq_ofNat_of_zero_le l12
        have LR12 := fun k hk => borow_lt R12 k hk
        have LE12 := fun k hk => row_lt E12 k hk
        have LF12 := fun k hk => row_lt F12 k hk
        obtain ⟨c0, c1, c2, c3, c4⟩ := five_cells X12
        have cf := whole_free X12
        have cz := whole_lt X12
        obtain ⟨r0, r1, r2, r3, r4⟩ := five_cells T12
        have rf := whole_free T12
        rcases (by omega : n12 = 0 ∨ n12 = 1) with rfl | rfl
        · go_wp2_with (at_make; refine wpList_make_full _ rfl _ _ 25 rfl m12.heap.size 37 i0 _ 4 Try.underlying25 I0.out Z0.out Z1.out .i64 .i64 _ _ 40 rfl rfl rfl rfl (by rw [BY.out]; omega) (by unfold maxLen; omega) (by simp) ?_
                       intro y2 ho1 hg1
                       rw [dmade_cells] at ho1
                       have D2 : DRow y2 m12.heap.size (.slice (some ⟨m12.heap.size, 0, none⟩) 40 40) (List.replicate 40 noDd) := by unfold DRow; simpa using ho1
                       have BL : Below w.heap.size m12 y2 := (Below.refl _ _).grown hg1 (by omega) (fun k hk => by simp at hk)
                       have X13 := whole_keep X12 (hg1.block _ (by omega) (by simp))
                       have T13 := whole_keep T12 (hg1.block _ (by have := whole_lt T12; omega) (by simp))
                       have R13 := borow_keep R12 (fun k hk => hg1.block k (borow_lt R12 k hk).2 (by simp))
                       have E13 := row_keep E12 (fun k hk => hg1.block k (row_lt E12 k hk).2 (by simp))
                       have F13 := row_keep F12 (fun k hk => hg1.block k (row_lt F12 k hk).2 (by simp))
                       have G13 := gb_of_lo G12 BL
                       have zy2 : m12.heap.size ≤ y2.heap.size := BL.size
                       clear ho1 hg1 BL c0 c1 c2 c3 c4 cf cz r0 r1 r2 r3 r4 rf
                       obtain ⟨c0, c1, c2, c3, c4⟩ := five_cells X13
                       have cf := whole_free X13
                       have cz := whole_lt X13
                       obtain ⟨r0, r1, r2, r3, r4⟩ := five_cells T13
                       have rf := whole_free T13)
          have RZ := borow_far (g := m1.heap.size) (i := 4) (u := .slice (some ⟨m12.heap.size, 0, none⟩) 40 40) R13 (fun k hk => by have e : g3 = k := (by simpa [Value.ownBlock] using hk); omega)
          have EZ := row_store (g := m1.heap.size) (i := 4) (u := .slice (some ⟨m12.heap.size, 0, none⟩) 40 40) E13 (by omega)
          have FZ := row_store (g := m1.heap.size) (i := 4) (u := .slice (some ⟨m12.heap.size, 0, none⟩) 40 40) F13 (by omega)
          have QZ := drow_store (g := m1.heap.size) (i := 4) (u := .slice (some ⟨m12.heap.size, 0, none⟩) 40 40) D2 (by omega)
          have GZ := G13
          have PRD : Parted (.slice (some ⟨g3, 0, none⟩) 4 k3) (.slice (some ⟨m12.heap.size, 0, none⟩) 40 40) := fun k hk hk2 => by have e : g3 = k := (by simpa [Value.ownBlock] using hk); have e2 : m12.heap.size = k := (by simpa [Value.ownBlock] using hk2); omega
          have PED : Parted (.slice AE 8 kE) (.slice (some ⟨m12.heap.size, 0, none⟩) 40 40) := fun k hk hk2 => by have h1 := LE12 k hk; have e2 : m12.heap.size = k := (by simpa [Value.ownBlock] using hk2); omega
          have PFD : Parted (.slice AF n8 kF) (.slice (some ⟨m12.heap.size, 0, none⟩) 40 40) := fun k hk hk2 => by have h1 := LF12 k hk; have e2 : m12.heap.size = k := (by simpa [Value.ownBlock] using hk2); omega
          refine bodyPost_ret (v := .agg #[.slice (some ⟨g3, 0, none⟩) 4 k3, .slice AE 8 kE, .slice AF n8 kF, .int .i64 v10, .slice (some ⟨m12.heap.size, 0, none⟩) 40 40]) (by simp [results, Try.results48, go_sem, *]) rfl ⟨_, ⟨gs, zsE, zsF, v10, (List.replicate 40 noDd)⟩, rfl, ?_, by show zsF.length < 20; omega, ?_, ?_⟩
          · exact ⟨LL.out, hlE, by show zsF.length ≤ 20; omega, by show ((List.replicate 40 noDd) : List Dd).length ≤ 40; simp, hcE, hcF, by show inB v10 0 2147483647 = true; exact decide_eq_true ⟨by omega, by omega⟩, by show ddsB (List.replicate 40 noDd) = true; first | rfl | exact dds_zero _⟩
          · refine hostOf_top (hostOf_base (hostOf_rows (h := ⟨gs, zsE, zsF, v10, (List.replicate 40 noDd)⟩) (lo := w.heap.size + 1) ?_ ?_ ?_ ?_ PRE PRF PRD PEF PED PFD) (by omega)) (Nat.le_refl _)
            · show BoRow _ _ _ gs
              repeat (first | with_reducible exact RZ | ((with_reducible refine borow_store ?_ ?hh); case hh => omega))
            · show Row _ _ _ zsE
              have h := row_base (base' := w.heap.size + 1) EZ (by omega)
              repeat (first | with_reducible exact h | ((with_reducible refine row_store ?_ ?hh); case hh => omega))
            · show Row _ _ _ zsF
              have h := row_base (base' := w.heap.size + 1) FZ (by omega)
              repeat (first | with_reducible exact h | ((with_reducible refine row_store ?_ ?hh); case hh => omega))
            · show DRow _ _ _ (List.replicate 40 noDd)
              have h := drow_base (base' := w.heap.size + 1) QZ (by omega)
              repeat (first | with_reducible exact h | ((with_reducible refine drow_store ?_ ?hh); case hh => omega))
          · exact gb_of_lo GZ (by repeat (first | with_reducible exact Below.refl _ _ | with_reducible refine Below.setCell ?_ (by simp; try omega) _))
        · go_wp2_with (at_make; refine wpList_make_full _ rfl _ _ 25 rfl m12.heap.size 37 i0 _ 4 Try.underlying25 I0.out Z0.out Z1.out .i64 .i64 _ _ 39 rfl rfl rfl rfl (by rw [BY.out]; omega) (by unfold maxLen; omega) (by simp) ?_
                       intro y2 ho1 hg1
                       rw [dmade_cells] at ho1
                       have D2 : DRow y2 m12.heap.size (.slice (some ⟨m12.heap.size, 0, none⟩) 39 39) (List.replicate 39 noDd) := by unfold DRow; simpa using ho1
                       have BL : Below w.heap.size m12 y2 := (Below.refl _ _).grown hg1 (by omega) (fun k hk => by simp at hk)
                       have X13 := whole_keep X12 (hg1.block _ (by omega) (by simp))
                       have T13 := whole_keep T12 (hg1.block _ (by have := whole_lt T12; omega) (by simp))
                       have R13 := borow_keep R12 (fun k hk => hg1.block k (borow_lt R12 k hk).2 (by simp))
                       have E13 := row_keep E12 (fun k hk => hg1.block k (row_lt E12 k hk).2 (by simp))
                       have F13 := row_keep F12 (fun k hk => hg1.block k (row_lt F12 k hk).2 (by simp))
                       have G13 := gb_of_lo G12 BL
                       have zy2 : m12.heap.size ≤ y2.heap.size := BL.size
                       clear ho1 hg1 BL c0 c1 c2 c3 c4 cf cz r0 r1 r2 r3 r4 rf
                       obtain ⟨c0, c1, c2, c3, c4⟩ := five_cells X13
                       have cf := whole_free X13
                       have cz := whole_lt X13
                       obtain ⟨r0, r1, r2, r3, r4⟩ := five_cells T13
                       have rf := whole_free T13)
          have RZ := borow_far (g := m1.heap.size) (i := 4) (u := .slice (some ⟨m12.heap.size, 0, none⟩) 39 39) R13 (fun k hk => by have e : g3 = k := (by simpa [Value.ownBlock] using hk); omega)
          have EZ := row_store (g := m1.heap.size) (i := 4) (u := .slice (some ⟨m12.heap.size, 0, none⟩) 39 39) E13 (by omega)
          have FZ := row_store (g := m1.heap.size) (i := 4) (u := .slice (some ⟨m12.heap.size, 0, none⟩) 39 39) F13 (by omega)
          have QZ := drow_store (g := m1.heap.size) (i := 4) (u := .slice (some ⟨m12.heap.size, 0, none⟩) 39 39) D2 (by omega)
          have GZ := G13
          have PRD : Parted (.slice (some ⟨g3, 0, none⟩) 4 k3) (.slice (some ⟨m12.heap.size, 0, none⟩) 39 39) := fun k hk hk2 => by have e : g3 = k := (by simpa [Value.ownBlock] using hk); have e2 : m12.heap.size = k := (by simpa [Value.ownBlock] using hk2); omega
          have PED : Parted (.slice AE 8 kE) (.slice (some ⟨m12.heap.size, 0, none⟩) 39 39) := fun k hk hk2 => by have h1 := LE12 k hk; have e2 : m12.heap.size = k := (by simpa [Value.ownBlock] using hk2); omega
          have PFD : Parted (.slice AF n8 kF) (.slice (some ⟨m12.heap.size, 0, none⟩) 39 39) := fun k hk hk2 => by have h1 := LF12 k hk; have e2 : m12.heap.size = k := (by simpa [Value.ownBlock] using hk2); omega
          refine bodyPost_ret (v := .agg #[.slice (some ⟨g3, 0, none⟩) 4 k3, .slice AE 8 kE, .slice AF n8 kF, .int .i64 v10, .slice (some ⟨m12.heap.size, 0, none⟩) 39 39]) (by simp [results, Try.results48, go_sem, *]) rfl ⟨_, ⟨gs, zsE, zsF, v10, (List.replicate 39 noDd)⟩, rfl, ?_, by show zsF.length < 20; omega, ?_, ?_⟩
          · exact ⟨LL.out, hlE, by show zsF.length ≤ 20; omega, by show ((List.replicate 39 noDd) : List Dd).length ≤ 40; simp, hcE, hcF, by show inB v10 0 2147483647 = true; exact decide_eq_true ⟨by omega, by omega⟩, by show ddsB (List.replicate 39 noDd) = true; first | rfl | exact dds_zero _⟩
          · refine hostOf_top (hostOf_base (hostOf_rows (h := ⟨gs, zsE, zsF, v10, (List.replicate 39 noDd)⟩) (lo := w.heap.size + 1) ?_ ?_ ?_ ?_ PRE PRF PRD PEF PED PFD) (by omega)) (Nat.le_refl _)
            · show BoRow _ _ _ gs
              repeat (first | with_reducible exact RZ | ((with_reducible refine borow_store ?_ ?hh); case hh => omega))
            · show Row _ _ _ zsE
              have h := row_base (base' := w.heap.size + 1) EZ (by omega)
              repeat (first | with_reducible exact h | ((with_reducible refine row_store ?_ ?hh); case hh => omega))
            · show Row _ _ _ zsF
              have h := row_base (base' := w.heap.size + 1) FZ (by omega)
              repeat (first | with_reducible exact h | ((with_reducible refine row_store ?_ ?hh); case hh => omega))
            · show DRow _ _ _ (List.replicate 39 noDd)
              have h := drow_base (base' := w.heap.size + 1) QZ (by omega)
              repeat (first | with_reducible exact h | ((with_reducible refine drow_store ?_ ?hh); case hh => omega))
          · exact gb_of_lo GZ (by repeat (first | with_reducible exact Below.refl _ _ | with_reducible refine Below.setCell ?_ (by simp; try omega) _))

end Go.Proofs.Ytkcogfgjabemfaa
