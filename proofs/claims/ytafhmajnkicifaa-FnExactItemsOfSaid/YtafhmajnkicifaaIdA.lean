/- Drawn items: one without control; rows of one item; rows laid behind each other. -/
import Derived.Test.YtafhmajnkicifaaSrcE
import Derived.Test.YtafhmajnkicifaaPrA
namespace Go.Proofs.Ytafhmajnkicifaa
open Go.RowKit
set_option linter.unusedVariables false
set_option linter.unusedSimpArgs false

theorem whole_gbI {w w' : World} {b g : Nat} {t : TypeId} {cs : Array Value} (hg : w.grownBy w' (some b)) (h : Whole w g t cs) (hne : g ≠ b) : Whole w' g t cs :=
  whole_keep h (hg.block g (whole_lt h) (fun e => hne (Option.some.inj e)))

theorem irow_gb {w w' : World} {b lo : Nat} {v : Value} {Q : List It} (hg : w.grownBy w' (some b)) (h : IRow w lo v Q) (hb : b < lo) : IRow w' lo v Q :=
  irow_keep h fun g hv => hg.block g (irow_lt h g hv).2 (fun e => by have := irow_lt h g hv; simp at e; omega)

theorem its_gb {w w' : World} {b lo : Nat} {v : Value} {Q : List It} (hg : w.grownBy w' (some b)) (h : IRow w lo v Q) (hb : b < lo) : Its w' v Q := irow_its (irow_gb hg h hb)

theorem irow_form {w : World} {lo : Nat} {v : Value} {Q : List It} (h : IRow w lo v Q) : ∃ A n c, v = .slice A n c := by
  obtain ⟨_, A, c, rfl, _⟩ := irow_its h
  exact ⟨_, _, _, rfl⟩

/-- What a drawn yes or no leaves. -/
def YesI (w : World) (b : Nat) (a : Option Addr) (len cap : Nat) (zs : List Int) (N : Nat) (e : Ending) (w' : World) : Prop :=
  ∃ y : Bool, e = .returned (.bool y) ∧ Src w' b a len cap zs N ∧ w.grownBy w' (some b)

set_option maxRecDepth 100000 in
set_option maxHeartbeats 400000 in
theorem chance_i (b : Nat) (a : Option Addr) (len cap : Nat) (zs : List Int) (N : Nat) (n : Int) (w : World) (h : Src w b a len cap zs N) (hN : Few N) (h1 : 1 < n) (h2 : n ≤ 256) :
    Calls Try.prog 44 #[.pointer (some ⟨b, 0, none⟩), .int .i64 n] w (YesI w b a len cap zs (N + 1)) := by
  have C := Lib.hid (next_small b a len cap zs N n w h hN h1 h2)
  clear h hN
  go_enter Try.func44, Try.ntmps44
  go_wp2_with fail
  refine C.out.mono ?_
  rintro e w1 ⟨v, _, rfl, hs, hg⟩
  have S := Lib.hid hs
  have G := Lib.hid hg
  clear hs hg
  go_wp2
  go_ret
  exact ⟨_, rfl, S.out, G.out⟩

set_option maxRecDepth 100000 in
set_option maxHeartbeats 2000000 in
theorem addr_drew (b : Nat) (a : Option Addr) (len cap : Nat) (zs : List Int) (N : Nat) (w : World) (h : Src w b a len cap zs N) (hN : N ≤ 1000000) :
    Calls Try.prog 71 #[.pointer (some ⟨b, 0, none⟩)] w (Drew w b a len cap zs (N + 8) fun v => -2147483648 ≤ v ∧ v ≤ 2147483647) := by
  have hb := src_lt h
  have H := Lib.hid h
  clear h
  go_enter Try.func71, Try.ntmps71
  go_wp2_with fail
  refine (next_small _ _ _ _ _ _ _ _ H.out (by unfold Few; omega) (by omega) (by omega)).mono ?_
  rintro e w1 ⟨v1, ⟨l1, u1⟩, rfl, hs1, hg1⟩
  have S1 := Lib.hid hs1
  have G1 := Lib.hid hg1
  have z1 : w.heap.size ≤ w1.heap.size := hg1.size
  clear hs1 hg1
  go_wp2_with fail
  refine (next_small _ _ _ _ _ _ _ _ S1.out (by unfold Few; omega) (by omega) (by omega)).mono ?_
  rintro e w2 ⟨v2, ⟨l2, u2⟩, rfl, hs2, hg2⟩
  have S2 := Lib.hid hs2
  have G2 := Lib.hid (grown_trans G1.out hg2)
  have z2 : w1.heap.size ≤ w2.heap.size := hg2.size
  clear hs2 hg2
  go_wp2_with fail
  refine (cell_any _ _ _ _ _ _ _ S2.out (by unfold Few; omega)).mono ?_
  rintro e w3 ⟨v3, ⟨l3, u3⟩, rfl, hs3, hg3⟩
  have S3 := Lib.hid hs3
  have G3 := Lib.hid (grown_trans G2.out hg3)
  have z3 : w2.heap.size ≤ w3.heap.size := hg3.size
  clear hs3 hg3
  go_wp2_with fail
  refine (next_small _ _ _ _ _ _ _ _ (src_alloc S3.out _) (by unfold Few; omega) (by omega) (by omega)).mono ?_
  rintro e w4 ⟨v4, ⟨l4, u4⟩, rfl, hs4, hg4⟩
  have S4 := Lib.hid hs4
  have G4 := Lib.hid (grown_trans (gb_alloc G3.out _) hg4)
  have X4 := whole_gbI hg4 (whole_new w3 _ _) (by omega)
  clear hs4 hg4
  rcases (by omega : v4 = 0 ∨ v4 = 1 ∨ v4 = 2 ∨ v4 = 3) with rfl | rfl | rfl | rfl
  · have c := whole_cell X4 0
    simp at c
    go_wp2
    go_ret
    exact ⟨_, ⟨by omega, by omega⟩, rfl, src_mono S4.out (by omega), G4.out⟩
  · have c := whole_cell X4 1
    simp at c
    go_wp2
    go_ret
    exact ⟨_, ⟨by omega, by omega⟩, rfl, src_mono S4.out (by omega), G4.out⟩
  · have c := whole_cell X4 2
    simp at c
    go_wp2
    go_ret
    exact ⟨_, ⟨by omega, by omega⟩, rfl, src_mono S4.out (by omega), G4.out⟩
  · have c := whole_cell X4 3
    simp at c
    go_wp2
    go_ret
    exact ⟨_, ⟨by omega, by omega⟩, rfl, src_mono S4.out (by omega), G4.out⟩
/-- What a drawn item leaves. -/
def ItDrew (w : World) (b : Nat) (a : Option Addr) (len cap : Nat) (zs : List Int) (N : Nat) (e : Ending) (w' : World) : Prop :=
  ∃ x : It, e = .returned (.agg #[.int .i64 x.k, .int .i64 x.v]) ∧ itB x = true ∧ (x.k = 1 ∨ x.k = 2) ∧ Src w' b a len cap zs N ∧ w.grownBy w' (some b)

theorem itB_word {n : Int} (h : 1 ≤ n ∧ n ≤ 103) : itB ⟨1, n⟩ = true := by unfold itB; simp; omega

theorem itB_lit {n : Int} (h : -2147483648 ≤ n ∧ n ≤ 2147483647) : itB ⟨2, n⟩ = true := by unfold itB; simp; omega

set_option maxRecDepth 100000 in
set_option maxHeartbeats 4000000 in
theorem flat_drew (b : Nat) (a : Option Addr) (len cap : Nat) (zs : List Int) (N : Nat) (w : World) (h : Src w b a len cap zs N) (hN : N ≤ 100000) :
    Calls Try.prog 58 #[.pointer (some ⟨b, 0, none⟩), .int .i64 86] w (ItDrew w b a len cap zs (N + 20)) := by
  have hb := src_lt h
  have HA := Lib.hid (src_code_lt h)
  have H := Lib.hid h
  clear h
  go_enter Try.func58, Try.ntmps58
  go_wp2_with fail
  refine (next_small _ _ _ _ _ _ _ _ (src_alloc H.out _) (by unfold Few; omega) (by omega) (by omega)).mono ?_
  rintro e w1 ⟨v, ⟨v0, v1⟩, rfl, hs1, hg1⟩
  have S1 := Lib.hid hs1
  have G1 := Lib.hid (grown_trans (gb_alloc (World.grownBy.refl w _) _) hg1)
  have X1 := whole_gbI hg1 (whole_new w _ _) (by omega)
  have z1 : w.heap.size < w1.heap.size := whole_lt X1
  clear hs1 hg1
  rcases (by omega : (v = 0 ∨ v = 1) ∨ v = 2 ∨ v = 3 ∨ (v ≠ 0 ∧ v ≠ 1 ∧ v ≠ 2 ∧ v ≠ 3)) with hv | rfl | rfl | ⟨n0, n1, n2, n3⟩
  · rcases hv with rfl | rfl
    · go_wp2_with fail
      refine (next_small _ _ _ _ _ _ _ _ S1.out (by unfold Few; omega) (by omega) (by omega)).mono ?_
      rintro e w2 ⟨v2, ⟨l2, u2⟩, rfl, hs2, hg2⟩
      have S2 := Lib.hid hs2
      have G2 := Lib.hid (grown_trans G1.out hg2)
      have X2 := whole_gbI hg2 X1 (by omega)
      have z2 := whole_lt X2
      clear hs2 hg2 G1 S1 X1
      go_wp2_with fail
      refine (cell_any _ _ _ _ _ _ _ S2.out (by unfold Few; omega)).mono ?_
      rintro e w3 ⟨v3, ⟨l3, u3⟩, rfl, hs3, hg3⟩
      have S3 := Lib.hid hs3
      have G3 := Lib.hid (grown_trans G2.out hg3)
      have X3 := whole_gbI hg3 X2 (by omega)
      have z3 := whole_lt X3
      clear hs3 hg3 G2 S2 X2
      go_wp2_with fail
      refine (addr_drew _ _ _ _ _ _ _ S3.out (by omega)).mono ?_
      rintro e w4 ⟨v4, ⟨l4, u4⟩, rfl, hs4, hg4⟩
      have S4 := Lib.hid hs4
      have G4 := Lib.hid (grown_trans G3.out hg4)
      have X4 := whole_gbI hg4 X3 (by omega)
      have z4 := whole_lt X4
      clear hs4 hg4 G3 S3 X3
      go_wp2_with fail
      refine (next_small _ _ _ _ _ _ _ _ (src_alloc S4.out _) (by unfold Few; omega) (by omega) (by omega)).mono ?_
      rintro e w5 ⟨v5, ⟨l5, u5⟩, rfl, hs5, hg5⟩
      have S5 := Lib.hid hs5
      have Y5 := whole_gbI hg5 (whole_new w4 _ _) (by omega)
      have G5 := Lib.hid (grown_trans (gb_alloc G4.out _) hg5)
      have X5 := whole_gbI hg5 (whole_alloc X4 _) (by omega)
      have B5 : Hid (Below w.heap.size w5 w5) := Lib.hid (Below.refl _ _)
      clear hs5 hg5 G4 S4 X4
      rcases (by omega : v5 = 0 ∨ v5 = 1 ∨ v5 = 2) with rfl | rfl | rfl
      · have y := whole_cell Y5 0
        simp at y
        have c0 := whole_cell X5 0
        have c1 := whole_cell X5 1
        have cf := whole_free X5
        have cz := whole_lt X5
        simp at c0 c1
        go_wp2
        refine bodyPost_ret (v := .agg #[.int .i64 2, .int .i64 (v2)]) (by simp [results, Try.results58, go_sem, *]) rfl ⟨⟨2, v2⟩, rfl, itB_lit (by omega), by simp, src_mono (src_lo S5.out hb HA.out ?_) (by omega), ?_⟩
        · repeat (first | with_reducible exact B5.out | with_reducible refine Below.setCell ?_ (by simp; try omega) _)
        · repeat (first | with_reducible exact G5.out | with_reducible refine gb_set ?_ (by simp; try omega) _)
      · have y := whole_cell Y5 1
        simp at y
        have c0 := whole_cell X5 0
        have c1 := whole_cell X5 1
        have cf := whole_free X5
        have cz := whole_lt X5
        simp at c0 c1
        go_wp2
        refine bodyPost_ret (v := .agg #[.int .i64 2, .int .i64 (v3)]) (by simp [results, Try.results58, go_sem, *]) rfl ⟨⟨2, v3⟩, rfl, itB_lit (by omega), by simp, src_mono (src_lo S5.out hb HA.out ?_) (by omega), ?_⟩
        · repeat (first | with_reducible exact B5.out | with_reducible refine Below.setCell ?_ (by simp; try omega) _)
        · repeat (first | with_reducible exact G5.out | with_reducible refine gb_set ?_ (by simp; try omega) _)
      · have y := whole_cell Y5 2
        simp at y
        have c0 := whole_cell X5 0
        have c1 := whole_cell X5 1
        have cf := whole_free X5
        have cz := whole_lt X5
        simp at c0 c1
        go_wp2
        refine bodyPost_ret (v := .agg #[.int .i64 2, .int .i64 (v4)]) (by simp [results, Try.results58, go_sem, *]) rfl ⟨⟨2, v4⟩, rfl, itB_lit (by omega), by simp, src_mono (src_lo S5.out hb HA.out ?_) (by omega), ?_⟩
        · repeat (first | with_reducible exact B5.out | with_reducible refine Below.setCell ?_ (by simp; try omega) _)
        · repeat (first | with_reducible exact G5.out | with_reducible refine gb_set ?_ (by simp; try omega) _)
    · go_wp2_with fail
      refine (next_small _ _ _ _ _ _ _ _ S1.out (by unfold Few; omega) (by omega) (by omega)).mono ?_
      rintro e w2 ⟨v2, ⟨l2, u2⟩, rfl, hs2, hg2⟩
      have S2 := Lib.hid hs2
      have G2 := Lib.hid (grown_trans G1.out hg2)
      have X2 := whole_gbI hg2 X1 (by omega)
      have z2 := whole_lt X2
      clear hs2 hg2 G1 S1 X1
      go_wp2_with fail
      refine (cell_any _ _ _ _ _ _ _ S2.out (by unfold Few; omega)).mono ?_
      rintro e w3 ⟨v3, ⟨l3, u3⟩, rfl, hs3, hg3⟩
      have S3 := Lib.hid hs3
      have G3 := Lib.hid (grown_trans G2.out hg3)
      have X3 := whole_gbI hg3 X2 (by omega)
      have z3 := whole_lt X3
      clear hs3 hg3 G2 S2 X2
      go_wp2_with fail
      refine (addr_drew _ _ _ _ _ _ _ S3.out (by omega)).mono ?_
      rintro e w4 ⟨v4, ⟨l4, u4⟩, rfl, hs4, hg4⟩
      have S4 := Lib.hid hs4
      have G4 := Lib.hid (grown_trans G3.out hg4)
      have X4 := whole_gbI hg4 X3 (by omega)
      have z4 := whole_lt X4
      clear hs4 hg4 G3 S3 X3
      go_wp2_with fail
      refine (next_small _ _ _ _ _ _ _ _ (src_alloc S4.out _) (by unfold Few; omega) (by omega) (by omega)).mono ?_
      rintro e w5 ⟨v5, ⟨l5, u5⟩, rfl, hs5, hg5⟩
      have S5 := Lib.hid hs5
      have Y5 := whole_gbI hg5 (whole_new w4 _ _) (by omega)
      have G5 := Lib.hid (grown_trans (gb_alloc G4.out _) hg5)
      have X5 := whole_gbI hg5 (whole_alloc X4 _) (by omega)
      have B5 : Hid (Below w.heap.size w5 w5) := Lib.hid (Below.refl _ _)
      clear hs5 hg5 G4 S4 X4
      rcases (by omega : v5 = 0 ∨ v5 = 1 ∨ v5 = 2) with rfl | rfl | rfl
      · have y := whole_cell Y5 0
        simp at y
        have c0 := whole_cell X5 0
        have c1 := whole_cell X5 1
        have cf := whole_free X5
        have cz := whole_lt X5
        simp at c0 c1
        go_wp2
        refine bodyPost_ret (v := .agg #[.int .i64 2, .int .i64 (v2)]) (by simp [results, Try.results58, go_sem, *]) rfl ⟨⟨2, v2⟩, rfl, itB_lit (by omega), by simp, src_mono (src_lo S5.out hb HA.out ?_) (by omega), ?_⟩
        · repeat (first | with_reducible exact B5.out | with_reducible refine Below.setCell ?_ (by simp; try omega) _)
        · repeat (first | with_reducible exact G5.out | with_reducible refine gb_set ?_ (by simp; try omega) _)
      · have y := whole_cell Y5 1
        simp at y
        have c0 := whole_cell X5 0
        have c1 := whole_cell X5 1
        have cf := whole_free X5
        have cz := whole_lt X5
        simp at c0 c1
        go_wp2
        refine bodyPost_ret (v := .agg #[.int .i64 2, .int .i64 (v3)]) (by simp [results, Try.results58, go_sem, *]) rfl ⟨⟨2, v3⟩, rfl, itB_lit (by omega), by simp, src_mono (src_lo S5.out hb HA.out ?_) (by omega), ?_⟩
        · repeat (first | with_reducible exact B5.out | with_reducible refine Below.setCell ?_ (by simp; try omega) _)
        · repeat (first | with_reducible exact G5.out | with_reducible refine gb_set ?_ (by simp; try omega) _)
      · have y := whole_cell Y5 2
        simp at y
        have c0 := whole_cell X5 0
        have c1 := whole_cell X5 1
        have cf := whole_free X5
        have cz := whole_lt X5
        simp at c0 c1
        go_wp2
        refine bodyPost_ret (v := .agg #[.int .i64 2, .int .i64 (v4)]) (by simp [results, Try.results58, go_sem, *]) rfl ⟨⟨2, v4⟩, rfl, itB_lit (by omega), by simp, src_mono (src_lo S5.out hb HA.out ?_) (by omega), ?_⟩
        · repeat (first | with_reducible exact B5.out | with_reducible refine Below.setCell ?_ (by simp; try omega) _)
        · repeat (first | with_reducible exact G5.out | with_reducible refine gb_set ?_ (by simp; try omega) _)
  · go_wp2_with fail
    refine (next_small _ _ _ _ _ _ _ _ S1.out (by unfold Few; omega) (by omega) (by omega)).mono ?_
    rintro e w2 ⟨v2, ⟨l2, u2⟩, rfl, hs2, hg2⟩
    have S2 := Lib.hid hs2
    have G2 := Lib.hid (grown_trans G1.out hg2)
    have X2 := whole_gbI hg2 X1 (by omega)
    have B2 : Hid (Below w.heap.size w2 w2) := Lib.hid (Below.refl _ _)
    clear hs2 hg2 G1 S1 X1
    have c0 := whole_cell X2 0
    have c1 := whole_cell X2 1
    have cf := whole_free X2
    have cz := whole_lt X2
    simp at c0 c1
    go_wp2
    refine bodyPost_ret (v := .agg #[.int .i64 1, .int .i64 (84 + v2)]) (by simp [results, Try.results58, go_sem, *]) rfl ⟨⟨1, 84 + v2⟩, rfl, itB_word (by omega), by simp, src_mono (src_lo S2.out hb HA.out ?_) (by omega), ?_⟩
    · repeat (first | with_reducible exact B2.out | with_reducible refine Below.setCell ?_ (by simp; try omega) _)
    · repeat (first | with_reducible exact G2.out | with_reducible refine gb_set ?_ (by simp; try omega) _)
  · go_wp2_with fail
    refine (next_small _ _ _ _ _ _ _ _ (src_alloc S1.out _) (by unfold Few; omega) (by omega) (by omega)).mono ?_
    rintro e w2 ⟨v2, ⟨l2, u2⟩, rfl, hs2, hg2⟩
    have Y2 := whole_gbI hg2 (whole_new w1 _ _) (by omega)
    have G2 := Lib.hid (grown_trans (gb_alloc G1.out _) hg2)
    have X2 := whole_gbI hg2 (whole_alloc X1 _) (by omega)
    have S2 := Lib.hid hs2
    have B2 : Hid (Below w.heap.size w2 w2) := Lib.hid (Below.refl _ _)
    clear hs2 hg2 G1 S1 X1
    obtain ⟨j, rfl⟩ := Int.eq_ofNat_of_zero_le l2
    rcases (by omega : j = 0 ∨ j = 1 ∨ j = 2 ∨ j = 3 ∨ j = 4 ∨ j = 5 ∨ j = 6 ∨ j = 7 ∨ j = 8 ∨ j = 9) with rfl | rfl | rfl | rfl | rfl | rfl | rfl | rfl | rfl | rfl
    · have y := whole_cell Y2 0
      simp at y
      have c0 := whole_cell X2 0
      have c1 := whole_cell X2 1
      have cf := whole_free X2
      have cz := whole_lt X2
      simp at c0 c1
      go_wp2
      refine bodyPost_ret (v := .agg #[.int .i64 1, .int .i64 (1)]) (by simp [results, Try.results58, go_sem, *]) rfl ⟨⟨1, 1⟩, rfl, itB_word (by omega), by simp, src_mono (src_lo S2.out hb HA.out ?_) (by omega), ?_⟩
      · repeat (first | with_reducible exact B2.out | with_reducible refine Below.setCell ?_ (by simp; try omega) _)
      · repeat (first | with_reducible exact G2.out | with_reducible refine gb_set ?_ (by simp; try omega) _)
    · have y := whole_cell Y2 1
      simp at y
      have c0 := whole_cell X2 0
      have c1 := whole_cell X2 1
      have cf := whole_free X2
      have cz := whole_lt X2
      simp at c0 c1
      go_wp2
      refine bodyPost_ret (v := .agg #[.int .i64 1, .int .i64 (2)]) (by simp [results, Try.results58, go_sem, *]) rfl ⟨⟨1, 2⟩, rfl, itB_word (by omega), by simp, src_mono (src_lo S2.out hb HA.out ?_) (by omega), ?_⟩
      · repeat (first | with_reducible exact B2.out | with_reducible refine Below.setCell ?_ (by simp; try omega) _)
      · repeat (first | with_reducible exact G2.out | with_reducible refine gb_set ?_ (by simp; try omega) _)
    · have y := whole_cell Y2 2
      simp at y
      have c0 := whole_cell X2 0
      have c1 := whole_cell X2 1
      have cf := whole_free X2
      have cz := whole_lt X2
      simp at c0 c1
      go_wp2
      refine bodyPost_ret (v := .agg #[.int .i64 1, .int .i64 (3)]) (by simp [results, Try.results58, go_sem, *]) rfl ⟨⟨1, 3⟩, rfl, itB_word (by omega), by simp, src_mono (src_lo S2.out hb HA.out ?_) (by omega), ?_⟩
      · repeat (first | with_reducible exact B2.out | with_reducible refine Below.setCell ?_ (by simp; try omega) _)
      · repeat (first | with_reducible exact G2.out | with_reducible refine gb_set ?_ (by simp; try omega) _)
    · have y := whole_cell Y2 3
      simp at y
      have c0 := whole_cell X2 0
      have c1 := whole_cell X2 1
      have cf := whole_free X2
      have cz := whole_lt X2
      simp at c0 c1
      go_wp2
      refine bodyPost_ret (v := .agg #[.int .i64 1, .int .i64 (4)]) (by simp [results, Try.results58, go_sem, *]) rfl ⟨⟨1, 4⟩, rfl, itB_word (by omega), by simp, src_mono (src_lo S2.out hb HA.out ?_) (by omega), ?_⟩
      · repeat (first | with_reducible exact B2.out | with_reducible refine Below.setCell ?_ (by simp; try omega) _)
      · repeat (first | with_reducible exact G2.out | with_reducible refine gb_set ?_ (by simp; try omega) _)
    · have y := whole_cell Y2 4
      simp at y
      have c0 := whole_cell X2 0
      have c1 := whole_cell X2 1
      have cf := whole_free X2
      have cz := whole_lt X2
      simp at c0 c1
      go_wp2
      refine bodyPost_ret (v := .agg #[.int .i64 1, .int .i64 (15)]) (by simp [results, Try.results58, go_sem, *]) rfl ⟨⟨1, 15⟩, rfl, itB_word (by omega), by simp, src_mono (src_lo S2.out hb HA.out ?_) (by omega), ?_⟩
      · repeat (first | with_reducible exact B2.out | with_reducible refine Below.setCell ?_ (by simp; try omega) _)
      · repeat (first | with_reducible exact G2.out | with_reducible refine gb_set ?_ (by simp; try omega) _)
    · have y := whole_cell Y2 5
      simp at y
      have c0 := whole_cell X2 0
      have c1 := whole_cell X2 1
      have cf := whole_free X2
      have cz := whole_lt X2
      simp at c0 c1
      go_wp2
      refine bodyPost_ret (v := .agg #[.int .i64 1, .int .i64 (16)]) (by simp [results, Try.results58, go_sem, *]) rfl ⟨⟨1, 16⟩, rfl, itB_word (by omega), by simp, src_mono (src_lo S2.out hb HA.out ?_) (by omega), ?_⟩
      · repeat (first | with_reducible exact B2.out | with_reducible refine Below.setCell ?_ (by simp; try omega) _)
      · repeat (first | with_reducible exact G2.out | with_reducible refine gb_set ?_ (by simp; try omega) _)
    · have y := whole_cell Y2 6
      simp at y
      have c0 := whole_cell X2 0
      have c1 := whole_cell X2 1
      have cf := whole_free X2
      have cz := whole_lt X2
      simp at c0 c1
      go_wp2
      refine bodyPost_ret (v := .agg #[.int .i64 1, .int .i64 (17)]) (by simp [results, Try.results58, go_sem, *]) rfl ⟨⟨1, 17⟩, rfl, itB_word (by omega), by simp, src_mono (src_lo S2.out hb HA.out ?_) (by omega), ?_⟩
      · repeat (first | with_reducible exact B2.out | with_reducible refine Below.setCell ?_ (by simp; try omega) _)
      · repeat (first | with_reducible exact G2.out | with_reducible refine gb_set ?_ (by simp; try omega) _)
    · have y := whole_cell Y2 7
      simp at y
      have c0 := whole_cell X2 0
      have c1 := whole_cell X2 1
      have cf := whole_free X2
      have cz := whole_lt X2
      simp at c0 c1
      go_wp2
      refine bodyPost_ret (v := .agg #[.int .i64 1, .int .i64 (46)]) (by simp [results, Try.results58, go_sem, *]) rfl ⟨⟨1, 46⟩, rfl, itB_word (by omega), by simp, src_mono (src_lo S2.out hb HA.out ?_) (by omega), ?_⟩
      · repeat (first | with_reducible exact B2.out | with_reducible refine Below.setCell ?_ (by simp; try omega) _)
      · repeat (first | with_reducible exact G2.out | with_reducible refine gb_set ?_ (by simp; try omega) _)
    · have y := whole_cell Y2 8
      simp at y
      have c0 := whole_cell X2 0
      have c1 := whole_cell X2 1
      have cf := whole_free X2
      have cz := whole_lt X2
      simp at c0 c1
      go_wp2
      refine bodyPost_ret (v := .agg #[.int .i64 1, .int .i64 (32)]) (by simp [results, Try.results58, go_sem, *]) rfl ⟨⟨1, 32⟩, rfl, itB_word (by omega), by simp, src_mono (src_lo S2.out hb HA.out ?_) (by omega), ?_⟩
      · repeat (first | with_reducible exact B2.out | with_reducible refine Below.setCell ?_ (by simp; try omega) _)
      · repeat (first | with_reducible exact G2.out | with_reducible refine gb_set ?_ (by simp; try omega) _)
    · have y := whole_cell Y2 9
      simp at y
      have c0 := whole_cell X2 0
      have c1 := whole_cell X2 1
      have cf := whole_free X2
      have cz := whole_lt X2
      simp at c0 c1
      go_wp2
      refine bodyPost_ret (v := .agg #[.int .i64 1, .int .i64 (34)]) (by simp [results, Try.results58, go_sem, *]) rfl ⟨⟨1, 34⟩, rfl, itB_word (by omega), by simp, src_mono (src_lo S2.out hb HA.out ?_) (by omega), ?_⟩
      · repeat (first | with_reducible exact B2.out | with_reducible refine Below.setCell ?_ (by simp; try omega) _)
      · repeat (first | with_reducible exact G2.out | with_reducible refine gb_set ?_ (by simp; try omega) _)
  · have e0 : (v == 0) = false := by rw [beq_eq_false_iff_ne]; exact n0
    have e1 : (v == 1) = false := by rw [beq_eq_false_iff_ne]; exact n1
    have e2 : (v == 2) = false := by rw [beq_eq_false_iff_ne]; exact n2
    have e3 : (v == 3) = false := by rw [beq_eq_false_iff_ne]; exact n3
    clear n0 n1 n2 n3
    go_wp2_with fail
    refine (next_small _ _ _ _ _ _ _ _ S1.out (by unfold Few; omega) (by omega) (by omega)).mono ?_
    rintro e w2 ⟨v2, ⟨l2, u2⟩, rfl, hs2, hg2⟩
    have S2 := Lib.hid hs2
    have G2 := Lib.hid (grown_trans G1.out hg2)
    have X2 := whole_gbI hg2 X1 (by omega)
    have B2 : Hid (Below w.heap.size w2 w2) := Lib.hid (Below.refl _ _)
    clear hs2 hg2 G1 S1 X1
    have c0 := whole_cell X2 0
    have c1 := whole_cell X2 1
    have cf := whole_free X2
    have cz := whole_lt X2
    simp at c0 c1
    go_wp2
    refine bodyPost_ret (v := .agg #[.int .i64 1, .int .i64 (1 + v2)]) (by simp [results, Try.results58, go_sem, *]) rfl ⟨⟨1, 1 + v2⟩, rfl, itB_word (by omega), by simp, src_mono (src_lo S2.out hb HA.out ?_) (by omega), ?_⟩
    · repeat (first | with_reducible exact B2.out | with_reducible refine Below.setCell ?_ (by simp; try omega) _)
    · repeat (first | with_reducible exact G2.out | with_reducible refine gb_set ?_ (by simp; try omega) _)
theorem irow_one (w : World) (x : It) : IRow (w.alloc (.cells #[.int .i64 x.k, .int .i64 x.v] 59)) w.heap.size (.slice (some ⟨w.heap.size, 0, none⟩) 1 1) [x] :=
  World.ownsRow_lit w #[.int .i64 x.k, .int .i64 x.v] 1 (Nat.le_refl _) (by unfold maxLen; omega) rfl

theorem its_lit {w : World} (x : It) {g : Nat} (hg : g = w.heap.size) : Its (w.alloc (.cells #[.int .i64 x.k, .int .i64 x.v] 59)) (.slice (some ⟨g, 0, none⟩) 1 1) [x] := by subst hg; exact its_one w x _

theorem irow_empty (w : World) {base : Nat} (hb : base ≤ w.heap.size) : IRow (w.alloc (.cells #[] 59)) base (.slice (some ⟨w.heap.size, 0, none⟩) 0 0) [] := World.ownsRow_made w #[] 0 hb (by unfold maxLen; omega) rfl

/-- What a function leaves that hands back a new row of items. -/
def RowI (w : World) (Q : List It) (e : Ending) (w' : World) : Prop := ∃ v, e = .returned v ∧ IRow w' w.heap.size v Q ∧ Below w.heap.size w w'

set_option maxRecDepth 100000 in
set_option maxHeartbeats 400000 in
theorem item1_any (k : Int) (w : World) : Calls Try.prog 55 #[.int .i64 k] w (RowI w [⟨k, 0⟩]) := by
  go_enter Try.func55, Try.ntmps55
  go_wp2
  go_ret
  exact ⟨_, rfl, irow_one w ⟨k, 0⟩, below_alloc (Below.refl _ _) _⟩

set_option maxRecDepth 100000 in
set_option maxHeartbeats 400000 in
theorem lit1_any (k : Int) (w : World) : Calls Try.prog 60 #[.int .i64 k] w (RowI w [⟨2, k⟩]) := by
  go_enter Try.func60, Try.ntmps60
  go_wp2
  go_ret
  exact ⟨_, rfl, irow_one w ⟨2, k⟩, below_alloc (Below.refl _ _) _⟩

set_option maxRecDepth 100000 in
set_option maxHeartbeats 400000 in
theorem word1_any (k : Int) (w : World) : Calls Try.prog 61 #[.int .i64 k] w (RowI w [⟨1, k⟩]) := by
  go_enter Try.func61, Try.ntmps61
  go_wp2
  go_ret
  exact ⟨_, rfl, irow_one w ⟨1, k⟩, below_alloc (Below.refl _ _) _⟩

/-- A block of slices that read so. -/
def Cats (w : World) (g : Nat) (L : List (List It)) : Prop := ∀ k (hk : k < L.length), ∃ v, w.cell? ⟨g, k, none⟩ = some v ∧ Its w v L[k]

theorem flat_take (L : List (List It)) {k : Nat} (hk : k < L.length) : (L.take (k + 1)).flatten = (L.take k).flatten ++ L[k] := by
  rw [List.take_succ_eq_append_getElem hk, List.flatten_append]; simp

theorem flat_le (L : List (List It)) {k : Nat} (hk : k < L.length) : (L.take k).flatten.length + L[k].length ≤ L.flatten.length := by
  have h := congrArg List.length (congrArg List.flatten (List.take_append_drop (k + 1) L))
  rw [List.flatten_append, List.length_append, flat_take L hk, List.length_append] at h
  omega

set_option maxRecDepth 100000 in
set_option maxHeartbeats 2000000 in
theorem cat_any (g n : Nat) (L : List (List It)) (w : World) (h : Cats w g L) (hg : g < w.heap.size) (hn : L.length = n) (h8 : n ≤ 8) (hs : L.flatten.length ≤ 100000) :
    Calls Try.prog 56 #[.slice (some ⟨g, 0, none⟩) n n] w (RowI w L.flatten) := by
  have H := Lib.hid h
  have LN := Lib.hid hn
  have HS := Lib.hid hs
  clear h hn hs
  go_enter Try.func56, Try.ntmps56
  go_wp2
  go_loopw [3, 4] (fun o i wr => ∃ (k : Nat) (ov : Value), k ≤ n ∧ i = .int .i64 k ∧ o = ov ∧ IRow wr w.heap.size ov (L.take k).flatten ∧ Below w.heap.size w wr) (fun _ i _ => n - (intOf i).toNat)
  case atStart => exact ⟨0, _, Nat.zero_le _, rfl, rfl, irow_empty w (Nat.le_refl _), below_alloc (Below.refl _ _) _⟩
  case round =>
    obtain ⟨k, ov, hk, rfl, rfl, hr, hb⟩ := hrel
    have zw := hb.size
    by_cases hlt : k < n
    · have hk' : k < L.length := by rw [LN.out]; exact hlt
      obtain ⟨v, hc, hi⟩ := H.out k hk'
      have c : wr.cell? ⟨g, k, none⟩ = some v := by rw [hb.cell (p := ⟨g, k, none⟩) hg]; exact hc
      have I := Lib.hid (its_below hi hb)
      have R := Lib.hid hr
      have B := Lib.hid hb
      have E := Lib.hid (flat_take L hk')
      have EL := Lib.hid (flat_le L hk')
      generalize hx : L[k] = x at *
      generalize hq : (L.take k).flatten = q at *
      clear hc hi hr hb hx hq
      go_wp2_with (first
        | (at_builtin; refine wpList_append_items rfl (.tmp 12) (.tmp 16) rfl rfl w.heap.size _ q R.out _ x I.out rfl rfl (by have := HS.out; have := EL.out; omega) zw ?_
           intro v2 w2 hr2 hg2 hat
           have R2 := Lib.hid hr2
           have B2 := Lib.hid (B.out.grown hg2 zw (fun g hg => (irow_lt R.out g hg).1))
           clear hr2 hg2 hat R B I c))
      go_roundw
      case rel => exact ⟨k + 1, _, by omega, by go_num, rfl, by rw [E.out]; exact R2.out, B2.out⟩
      case measure => simp [intOf]; omega
    · obtain rfl : k = n := by omega
      have R : Hid (IRow wr w.heap.size _ L.flatten) := Lib.hid (by rw [← LN.out, List.take_length] at hr; exact hr)
      have B := Lib.hid hb
      clear hr hb
      go_wp2
      go_ret
      exact ⟨_, rfl, R.out, B.out⟩

end Go.Proofs.Ytafhmajnkicifaa
