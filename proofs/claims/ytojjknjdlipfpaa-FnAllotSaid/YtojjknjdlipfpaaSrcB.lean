/- The source of draws, made: and a drawn cell. -/
import Derived.Test.YtojjknjdlipfpaaSrcA
namespace Go.Proofs.Ytojjknjdlipfpaa
open Go.RowKit
set_option linter.unusedVariables false
set_option linter.unusedSimpArgs false

set_option maxRecDepth 100000 in
set_option maxHeartbeats 400000 in
theorem source_any (a : Option Addr) (len cap : Nat) (w : World) (hl : len ≤ 9223372036854775807) :
    Calls Try.prog 33 #[.slice a len cap] w fun e w' => e = .returned (.pointer (some ⟨w.heap.size, 0, none⟩)) ∧ w' = w.alloc (.cells #[.slice a len cap, .int .i64 0, .int .i64 ((len : Int) % 1000)] 71) := by
  go_enter Try.func33, Try.ntmps33
  go_wp2
  go_ret
  exact ⟨rfl, rfl⟩

theorem src_new {w : World} {a : Option Addr} {len cap : Nat} {zs : List Int} (h : BRow w a len cap zs) :
    Src (w.alloc (.cells #[.slice a len cap, .int .i64 0, .int .i64 ((len : Int) % 1000)] 71)) w.heap.size a len cap zs 0 := by
  have hb := brow_lt h
  refine ⟨0, (len : Int) % 1000, Nat.le_refl _, ?_, ?_, ?_, ?_, ?_, ?_, ?_, ?_, ?_⟩
  · simp
  · simp
  · simp
  · simp
  · simp
  · rcases h with h | ⟨x, rfl, h1, h2, h3, h4, h5⟩
    · exact .inl h
    · exact .inr ⟨x, rfl, h1, h2, h3, fun i hi => by rw [World.cell?_alloc_lt _ _ _ (by rw [add_block]; exact hb x rfl (by omega))]; exact h4 i hi, h5⟩
  · intro x hx hc; have := hb x hx hc; omega
  · omega
  · omega

set_option maxRecDepth 100000 in
set_option maxHeartbeats 2000000 in
theorem cell_any (b : Nat) (a : Option Addr) (len cap : Nat) (zs : List Int) (N : Nat) (w : World) (h : Src w b a len cap zs N) (hN : Few (N + 4)) :
    Calls Try.prog 35 #[.pointer (some ⟨b, 0, none⟩)] w (Drew w b a len cap zs (N + 5) fun v => -2147483648 ≤ v ∧ v ≤ 2147483647) := by
  have H := Lib.hid h
  have HN : Hid (∀ m, m ≤ N + 4 → Few m) := Lib.hid fun m hm => by unfold Few at *; omega
  clear h hN
  go_enter Try.func35, Try.ntmps35
  go_wp2_with fail
  refine (next_small _ _ _ _ _ _ _ _ H.out (HN.out _ (by omega)) (by omega) (by omega)).mono ?_
  rintro e w1 ⟨v, hv1, rfl, hs1, hg1⟩
  obtain ⟨v0, v1⟩ := hv1
  have S1 := Lib.hid hs1
  have G1 := Lib.hid hg1
  clear hs1 hg1
  rcases (by omega : v = 0 ∨ v = 1 ∨ v = 2 ∨ v = 3 ∨ (v ≠ 0 ∧ v ≠ 1 ∧ v ≠ 2 ∧ v ≠ 3)) with rfl | rfl | rfl | rfl | ⟨n0, n1, n2, n3⟩
  · go_wp2_with fail
    refine (next_small _ _ _ _ _ _ _ _ S1.out (HN.out _ (by omega)) (by omega) (by omega)).mono ?_
    rintro e w2 ⟨u, hv2, rfl, hs2, hg2⟩
    obtain ⟨u0, u1⟩ := hv2
    have S2 := Lib.hid hs2
    have G2 := Lib.hid (grown_trans G1.out hg2)
    clear hs2 hg2
    go_wp2
    go_ret
    exact ⟨_, ⟨by omega, by omega⟩, rfl, src_mono S2.out (by omega), G2.out⟩
  · go_wp2_with fail
    refine (next_small _ _ _ _ _ _ _ _ S1.out (HN.out _ (by omega)) (by omega) (by omega)).mono ?_
    rintro e w2 ⟨u, hv2, rfl, hs2, hg2⟩
    obtain ⟨u0, u1⟩ := hv2
    have S2 := Lib.hid hs2
    have G2 := Lib.hid (grown_trans G1.out hg2)
    clear hs2 hg2
    go_wp2
    go_ret
    exact ⟨_, ⟨by omega, by omega⟩, rfl, src_mono S2.out (by omega), G2.out⟩
  · go_wp2_with fail
    refine (byte_any _ _ _ _ _ _ _ S1.out (HN.out _ (by omega))).mono ?_
    rintro e w2 ⟨u, hv2, rfl, hs2, hg2⟩
    obtain ⟨u0, u1⟩ := hv2
    have S2 := Lib.hid hs2
    have G2 := Lib.hid (grown_trans G1.out hg2)
    clear hs2 hg2
    go_wp2_with fail
    refine (byte_any _ _ _ _ _ _ _ S2.out (HN.out _ (by omega))).mono ?_
    rintro e w3 ⟨t, hv3, rfl, hs3, hg3⟩
    obtain ⟨t0, t1⟩ := hv3
    have S3 := Lib.hid hs3
    have G3 := Lib.hid (grown_trans G2.out hg3)
    clear hs3 hg3
    go_wp2_with fail
    refine (byte_any _ _ _ _ _ _ _ S3.out (HN.out _ (by omega))).mono ?_
    rintro e w4 ⟨r, hv4, rfl, hs4, hg4⟩
    obtain ⟨r0, r1⟩ := hv4
    have S4 := Lib.hid hs4
    have G4 := Lib.hid (grown_trans G3.out hg4)
    clear hs4 hg4
    go_wp2_with fail
    refine (byte_any _ _ _ _ _ _ _ S4.out (HN.out _ (by omega))).mono ?_
    rintro e w5 ⟨q, hv5, rfl, hs5, hg5⟩
    obtain ⟨q0, q1⟩ := hv5
    have S5 := Lib.hid hs5
    have G5 := Lib.hid (grown_trans G4.out hg5)
    clear hs5 hg5
    go_wp2_with fail
    refine (sWrap_any _ _).mono ?_
    rintro e w6 ⟨rfl, rfl⟩
    go_wp2
    go_ret
    exact ⟨_, wrap32_cell _, rfl, src_mono S5.out (by omega), G5.out⟩
  · go_wp2_with fail
    refine (next_small _ _ _ _ _ _ _ _ S1.out (HN.out _ (by omega)) (by omega) (by omega)).mono ?_
    rintro e w2 ⟨u, hv2, rfl, hs2, hg2⟩
    obtain ⟨u0, u1⟩ := hv2
    have S2 := Lib.hid hs2
    have G2 := Lib.hid (grown_trans G1.out hg2)
    clear hs2 hg2
    go_wp2
    go_ret
    exact ⟨_, ⟨by omega, by omega⟩, rfl, src_mono S2.out (by omega), G2.out⟩
  · have m0 : (v == 0) = false := by simpa using n0
    have m1 : (v == 1) = false := by simpa using n1
    have m2 : (v == 2) = false := by simpa using n2
    have m3 : (v == 3) = false := by simpa using n3
    go_wp2_with fail
    refine (next_small _ _ _ _ _ _ _ _ S1.out (HN.out _ (by omega)) (by omega) (by omega)).mono ?_
    rintro e w2 ⟨u, hv2, rfl, hs2, hg2⟩
    obtain ⟨u0, u1⟩ := hv2
    have S2 := Lib.hid hs2
    have G2 := Lib.hid (grown_trans G1.out hg2)
    clear hs2 hg2
    go_wp2
    go_ret
    exact ⟨_, ⟨by omega, by omega⟩, rfl, src_mono S2.out (by omega), G2.out⟩

/-- What a drawn cell leaves: a cell; of what was there nothing has turned. -/
def CellDrew (w : World) (e : Ending) (w' : World) : Prop := ∃ v : Int, (-2147483648 ≤ v ∧ v ≤ 2147483647) ∧ e = .returned (.int .i64 v) ∧ Below w.heap.size w w'

theorem below_newS {w w' : World} (o : Obj) (h : (w.alloc o).grownBy w' (some w.heap.size)) : Below w.heap.size w w' :=
  ((Below.refl w.heap.size w).alloc (Nat.le_refl _) o).grown h (by simp) (fun k hk => by cases hk; exact Nat.le_refl _)

set_option maxRecDepth 100000 in
set_option maxHeartbeats 400000 in
theorem cellDrawn_any (a : Option Addr) (len cap : Nat) (zs : List Int) (w : World) (h : BRow w a len cap zs) (hl : len ≤ 9223372036854775807) :
    Calls Try.prog 11 #[.slice a len cap] w (CellDrew w) := by
  have S := Lib.hid (src_new h)
  clear h
  go_enter Try.func11, Try.ntmps11
  go_wp2_with fail
  refine (source_any _ _ _ _ hl).mono ?_
  rintro e w' ⟨rfl, rfl⟩
  go_wp2_with fail
  refine (cell_any _ _ _ _ _ _ _ S.out (by unfold Few; omega)).mono ?_
  rintro e w1 ⟨v, hv, rfl, hs, hg⟩
  have G := Lib.hid (below_newS _ hg)
  clear hs hg
  go_wp2
  go_ret
  exact ⟨v, hv, rfl, G.out⟩

end Go.Proofs.Ytojjknjdlipfpaa
