/- PkV: several of my texts, laid together: SrcA, SrcB, AtA, DatM, DatJ, DrA, DrB, DrC. -/
import Derived.Test.YthnbaeamekolmaaGreatDoorPkA
import Derived.BigRegion
import Derived.Laws.AppendOwn
import Derived.OwnWalk
import Derived.OpenShut
import Derived.Test.YthnbaeamekolmaaGreatDoorPkB
import Derived.Test.YthnbaeamekolmaaGreatDoorPkC
import Derived.Deep.RegionHeld3
namespace Go.Proofs.YthnbaeamekolmaaGreatDoor
open Go.RowKit
set_option linter.unusedVariables false
set_option linter.unusedSimpArgs false

/-- A slice of bytes that came in: nil, or a row of numbers that fit. -/
def BRow (w : World) (a : Option Addr) (len cap : Nat) (zs : List Int) : Prop :=
  (a = none ∧ len = 0 ∧ cap = 0 ∧ zs = []) ∨
  ∃ x, a = some x ∧ len ≤ cap ∧ cap ≤ maxLen ∧ zs.length = cap ∧ (∀ i, i < zs.length → w.cell? (x.add i) = some (.int .u8 (zs.getD i 0))) ∧ ∀ n ∈ zs, (Lit.int .u8 n).wf = true

/-- The source of draws lies in block b, over the code a; at most N bytes have been drawn of it. -/
structure SrcAt (w : World) (b : Nat) (a : Option Addr) (len cap : Nat) (zs : List Int) (at_ : Nat) (seed : Int) : Prop where
  c0 : w.cell? ⟨b, 0, none⟩ = some (.slice a len cap)
  c1 : w.cell? ⟨b, 1, none⟩ = some (.int .i64 at_)
  c2 : w.cell? ⟨b, 2, none⟩ = some (.int .i64 seed)
  f1 : w.frozen? ⟨b, 1, none⟩ = false
  f2 : w.frozen? ⟨b, 2, none⟩ = false
  row : BRow w a len cap zs
  apart : ∀ x, a = some x → 0 < cap → x.block ≠ b
  s0 : 0 ≤ seed
  s1 : seed < 2147483648

/-- What a draw of a number leaves: a number of which P holds; of what was there, the source alone has turned. -/
def Drawn (w : World) (b : Nat) (a : Option Addr) (len cap : Nat) (zs : List Int) (N : Nat) (P : Int → Prop) (e : Ending) (w' : World) : Prop :=
  ∃ (v : Int) (k : Nat) (seed : Int), P v ∧ e = .returned (.int .i64 v) ∧ k ≤ N ∧ SrcAt w' b a len cap zs k seed ∧ w.grownBy w' (some b)

theorem grown_set (w : World) (b o : Nat) (v : Value) : w.grownBy (w.setCell ⟨b, o, none⟩ v) (some b) :=
  ⟨rfl, rfl, rfl, by simp [World.setCell], fun k hk hne => Below.heap_setCell _ _ _ _ (by intro e; exact hne (by rw [e]))⟩

theorem grown_trans {a b c : World} {r : Option Nat} (h : a.grownBy b r) (k : b.grownBy c r) : a.grownBy c r :=
  ⟨k.os.trans h.os, k.tape.trans h.tape, k.output.trans h.output, Nat.le_trans h.size k.size, fun i hi hne => (k.block i (Nat.lt_of_lt_of_le hi h.size) hne).trans (h.block i hi hne)⟩

theorem grown_draws (w : World) (n : Nat) (r : Option Nat) : w.grownBy (w.drewN n) r := ⟨rfl, rfl, rfl, Nat.le_refl _, fun _ _ _ => rfl⟩

theorem add_block (x : Addr) (i : Nat) : (x.add i).block = x.block := by simp only [Addr.add]; split <;> rfl

theorem lt_of_cell {w : World} {x : Addr} {v : Value} (h : w.cell? x = some v) : x.block < w.heap.size := by
  rcases Nat.lt_or_ge x.block w.heap.size with h1 | h1
  · exact h1
  · simp [World.cell?, h1] at h

theorem brow_lt {w : World} {a : Option Addr} {len cap : Nat} {zs : List Int} (h : BRow w a len cap zs) : ∀ x, a = some x → 0 < cap → x.block < w.heap.size := by
  intro x hx hc
  rcases h with ⟨h, _⟩ | ⟨y, hy, h1, h2, h3, h4, h5⟩
  · rw [h] at hx; cases hx
  · rw [hy] at hx
    obtain rfl := Option.some.inj hx
    have := lt_of_cell (h4 0 (by omega))
    rwa [add_block] at this

theorem brow_below {w w' : World} {a : Option Addr} {len cap : Nat} {zs : List Int} (h : BRow w a len cap zs) (hb : Below w.heap.size w w') : BRow w' a len cap zs := by
  have hl := brow_lt h
  rcases h with h | ⟨x, rfl, h1, h2, h3, h4, h5⟩
  · exact .inl h
  · exact .inr ⟨x, rfl, h1, h2, h3, fun i hi => by rw [hb.cell (by rw [add_block]; exact hl x rfl (by omega))]; exact h4 i hi, h5⟩

theorem brow_kept {w w' : World} {b : Nat} {a : Option Addr} {len cap : Nat} {zs : List Int} (h : BRow w a len cap zs) (ha : ∀ x, a = some x → 0 < cap → x.block ≠ b) (hw : w.grownBy w' (some b)) : BRow w' a len cap zs := by
  rcases h with h | ⟨x, rfl, h1, h2, h3, h4, h5⟩
  · exact .inl h
  · exact .inr ⟨x, rfl, h1, h2, h3, fun i hi => hw.cell (h4 i hi) (by intro e; rw [add_block] at e; exact ha x rfl (by omega) (Option.some.inj e)), h5⟩

section
variable {w : World} {b : Nat} {a : Option Addr} {len cap : Nat} {zs : List Int} {k : Nat} {seed : Int}

theorem src_one (h : SrcAt w b a len cap zs k seed) : SrcAt (w.setCell ⟨b, 1, none⟩ (.int .i64 ((k : Int) + 1))) b a len cap zs (k + 1) seed := by
  have hw := grown_set w b 1 (.int .i64 ((k : Int) + 1))
  obtain ⟨c0, c1, c2, f1, f2, row, ap, s0, s1⟩ := h
  refine ⟨?_, ?_, ?_, ?_, ?_, brow_kept row ap hw, ap, s0, s1⟩
  · rw [World.cell?_setCell_other _ _ _ _ (by simp)]; exact c0
  · rw [World.cell?_setCell_same _ _ _ c1]; simp
  · rw [World.cell?_setCell_other _ _ _ _ (by simp)]; exact c2
  · simpa using f1
  · simpa using f2

theorem src_two (h : SrcAt w b a len cap zs k seed) (seed' : Int) (s0' : 0 ≤ seed') (s1' : seed' < 2147483648) : SrcAt (w.setCell ⟨b, 2, none⟩ (.int .i64 seed')) b a len cap zs k seed' := by
  have hw := grown_set w b 2 (.int .i64 seed')
  obtain ⟨c0, c1, c2, f1, f2, row, ap, s0, s1⟩ := h
  refine ⟨?_, ?_, ?_, ?_, ?_, brow_kept row ap hw, ap, s0', s1'⟩
  · rw [World.cell?_setCell_other _ _ _ _ (by simp)]; exact c0
  · rw [World.cell?_setCell_other _ _ _ _ (by simp)]; exact c1
  · rw [World.cell?_setCell_same _ _ _ c2]
  · simpa using f1
  · simpa using f2

theorem src_draws (h : SrcAt w b a len cap zs k seed) (n : Nat) : SrcAt (w.drewN n) b a len cap zs k seed := by
  obtain ⟨c0, c1, c2, f1, f2, row, ap, s0, s1⟩ := h
  exact ⟨c0, c1, c2, f1, f2, brow_kept row ap (grown_draws w n _), ap, s0, s1⟩

end

set_option maxRecDepth 100000 in
set_option maxHeartbeats 1000000 in
theorem byte_late (b : Nat) (a : Option Addr) (len cap : Nat) (zs : List Int) (k : Nat) (seed : Int) (w : World) (h : SrcAt w b a len cap zs k seed) (hN : k < 1000000000) (hl : len < k + 1) (h3 : 3000 < k + 1) :
    Calls Tryz.prog 142 #[.pointer (some ⟨b, 0, none⟩)] w (Drawn w b a len cap zs (k + 1) fun v => 0 ≤ v ∧ v ≤ 255) := by
  have H := Lib.hid h
  obtain ⟨c0, c1, c2, f1, f2, row, apart, s0, s1⟩ := h
  clear row apart
  go_enter Tryz.func142, Tryz.ntmps142
  go_wp2
  go_quiet (fail)
  go_wp2
  go_ret
  exact ⟨0, k + 1, seed, by omega, rfl, Nat.le_refl _, src_draws (src_one H.out) _, grown_trans (grown_set _ _ _ _) (grown_draws _ _ _)⟩

set_option maxRecDepth 100000 in
set_option maxHeartbeats 1000000 in
theorem byte_mid (b : Nat) (a : Option Addr) (len cap : Nat) (zs : List Int) (k : Nat) (seed : Int) (w : World) (h : SrcAt w b a len cap zs k seed) (hN : k < 1000000000) (hl : len < k + 1) (h3 : k + 1 ≤ 3000) :
    Calls Tryz.prog 142 #[.pointer (some ⟨b, 0, none⟩)] w (Drawn w b a len cap zs (k + 1) fun v => 0 ≤ v ∧ v ≤ 255) := by
  have H := Lib.hid h
  obtain ⟨c0, c1, c2, f1, f2, row, apart, s0, s1⟩ := h
  clear row apart
  go_enter Tryz.func142, Tryz.ntmps142
  go_wp2
  go_quiet (fail)
  go_wp2
  go_ret
  exact ⟨_, k + 1, (seed * 1103515245 + 12345) % 2147483648, ⟨by omega, by omega⟩, rfl, Nat.le_refl _, src_two (src_draws (src_one H.out) _) _ (by omega) (by omega), grown_trans (grown_trans (grown_set _ _ _ _) (grown_draws _ _ _)) (grown_set _ _ _ _)⟩

set_option maxRecDepth 100000 in
set_option maxHeartbeats 1000000 in
theorem byte_code (b bc off : Nat) (len cap : Nat) (zs : List Int) (k : Nat) (seed : Int) (w : World) (h : SrcAt w b (some ⟨bc, off, none⟩) len cap zs k seed) (hl : k < len) :
    Calls Tryz.prog 142 #[.pointer (some ⟨b, 0, none⟩)] w (Drawn w b (some ⟨bc, off, none⟩) len cap zs (k + 1) fun v => 0 ≤ v ∧ v ≤ 255) := by
  have H := Lib.hid h
  obtain ⟨c0, c1, c2, f1, f2, row, apart, s0, s1⟩ := h
  rcases row with ⟨h, _⟩ | ⟨x, hx, h1, h2, hz, h4, h5⟩
  · cases h
  obtain rfl := Option.some.inj hx
  have hne : ¬ bc = b := apart _ rfl (by omega)
  have hc : w.cell? ⟨bc, off + k, none⟩ = some (.int .u8 (zs.getD k 0)) := by have := h4 k (by omega); rwa [Addr.add_lit] at this
  have hv : 0 ≤ zs.getD k 0 ∧ zs.getD k 0 ≤ 255 := by
    have := range_u8 h5 k
    rwa [← List.getD_eq_getElem?_getD] at this
  unfold maxLen at h2
  generalize zs.getD k 0 = v at *
  obtain ⟨v0, v1⟩ := hv
  clear h4 h5 apart hz hx
  go_enter Tryz.func142, Tryz.ntmps142
  go_wp2
  go_quiet (fail)
  go_wp2
  go_region
  go_wp2
  go_quiet (fail)
  go_wp2
  go_ret
  exact ⟨v, k + 1, (seed * 31 + v + 7) % 2147483648, ⟨v0, v1⟩, rfl, Nat.le_refl _, src_draws (src_two (src_draws (src_one H.out) _) _ (by omega) (by omega)) _, grown_trans (grown_trans (grown_trans (grown_set _ _ _ _) (grown_draws _ _ _)) (grown_set _ _ _ _)) (grown_draws _ _ _)⟩

/-- The source lies in block b; at most N bytes have been drawn of it. -/
def Src (w : World) (b : Nat) (a : Option Addr) (len cap : Nat) (zs : List Int) (N : Nat) : Prop := ∃ (k : Nat) (seed : Int), k ≤ N ∧ SrcAt w b a len cap zs k seed

/-- What a draw of a number leaves: a number of which P holds; of what was there, the source alone has turned. -/
def Drew (w : World) (b : Nat) (a : Option Addr) (len cap : Nat) (zs : List Int) (N : Nat) (P : Int → Prop) (e : Ending) (w' : World) : Prop :=
  ∃ v : Int, P v ∧ e = .returned (.int .i64 v) ∧ Src w' b a len cap zs N ∧ w.grownBy w' (some b)

theorem drew_of {w : World} {b : Nat} {a : Option Addr} {len cap : Nat} {zs : List Int} {k N : Nat} {P : Int → Prop} {e : Ending} {w' : World} (h : Drawn w b a len cap zs k P e w') (hk : k ≤ N) : Drew w b a len cap zs N P e w' := by
  obtain ⟨v, k', seed, hv, he, hk', hs, hg⟩ := h
  exact ⟨v, hv, he, ⟨k', seed, by omega, hs⟩, hg⟩

/-- So many draws are within bounds. -/
def Few (N : Nat) : Prop := N < 1000000000

theorem byte_any (b : Nat) (a : Option Addr) (len cap : Nat) (zs : List Int) (N : Nat) (w : World) (h : Src w b a len cap zs N) (hN : Few N) :
    Calls Tryz.prog 142 #[.pointer (some ⟨b, 0, none⟩)] w (Drew w b a len cap zs (N + 1) fun v => 0 ≤ v ∧ v ≤ 255) := by
  obtain ⟨k, seed, hk, h⟩ := h
  unfold Few at hN
  by_cases hl : k < len
  · rcases h.row with ⟨_, h0, _⟩ | ⟨x, rfl, h1, h2, hz, h4, h5⟩
    · omega
    · have hx : w.cell? (x.add 0) = some (.int .u8 (zs.getD 0 0)) := h4 0 (by omega)
      obtain ⟨bc, off, spot⟩ := x
      have hspot : spot = none := by simpa [Addr.add] using World.cell?_spot hx
      subst hspot
      exact (byte_code b bc off len cap zs k seed w h hl).mono fun e w' q => drew_of q (by omega)
  · by_cases h3 : k + 1 ≤ 3000
    · exact (byte_mid b a len cap zs k seed w h (by omega) (by omega) h3).mono fun e w' q => drew_of q (by omega)
    · exact (byte_late b a len cap zs k seed w h (by omega) (by omega) (by omega)).mono fun e w' q => drew_of q (by omega)

theorem src_mono {w : World} {b : Nat} {a : Option Addr} {len cap : Nat} {zs : List Int} {N M : Nat} (h : Src w b a len cap zs N) (hm : N ≤ M) : Src w b a len cap zs M := by
  obtain ⟨k, seed, hk, h⟩ := h
  exact ⟨k, seed, by omega, h⟩

set_option maxRecDepth 100000 in
set_option maxHeartbeats 400000 in
theorem next_small (b : Nat) (a : Option Addr) (len cap : Nat) (zs : List Int) (N : Nat) (n : Int) (w : World) (h : Src w b a len cap zs N) (hN : Few N) (h1 : 1 < n) (h2 : n ≤ 256) :
    Calls Tryz.prog 101 #[.pointer (some ⟨b, 0, none⟩), .int .i64 n] w (Drew w b a len cap zs (N + 1) fun v => 0 ≤ v ∧ v < n) := by
  have H := Lib.hid h
  have HN := Lib.hid hN
  clear h hN
  go_enter Tryz.func101, Tryz.ntmps101
  go_wp2_with fail
  refine (byte_any _ _ _ _ _ _ _ H.out HN.out).mono ?_
  rintro e w1 ⟨v, hv, rfl, hs, hg⟩
  obtain ⟨v0, v1⟩ := hv
  have S := Lib.hid hs
  have G := Lib.hid hg
  clear hs hg
  go_wp2
  go_ret
  exact ⟨v % n, ⟨Int.emod_nonneg _ (by omega), Int.emod_lt_of_pos _ (by omega)⟩, rfl, S.out, G.out⟩

set_option maxRecDepth 100000 in
set_option maxHeartbeats 400000 in
theorem next_one (b : Nat) (a : Option Addr) (len cap : Nat) (zs : List Int) (N : Nat) (n : Int) (w : World) (h : Src w b a len cap zs N) (h1 : n ≤ 1) :
    Calls Tryz.prog 101 #[.pointer (some ⟨b, 0, none⟩), .int .i64 n] w (Drew w b a len cap zs N fun v => v = 0) := by
  have H := Lib.hid h
  clear h
  go_enter Tryz.func101, Tryz.ntmps101
  go_wp2
  go_ret
  exact ⟨0, rfl, rfl, H.out, World.grownBy.refl _ _⟩

set_option maxRecDepth 100000 in
set_option maxHeartbeats 1000000 in
theorem next_large (b : Nat) (a : Option Addr) (len cap : Nat) (zs : List Int) (N : Nat) (n : Int) (w : World) (h : Src w b a len cap zs N) (hN : Few (N + 2)) (h1 : 256 < n) (h2 : n ≤ 9223372036854775807) :
    Calls Tryz.prog 101 #[.pointer (some ⟨b, 0, none⟩), .int .i64 n] w (Drew w b a len cap zs (N + 3) fun v => 0 ≤ v ∧ v < n) := by
  have H := Lib.hid h
  have HN := Lib.hid hN
  clear h hN
  go_enter Tryz.func101, Tryz.ntmps101
  go_wp2_with fail
  refine (byte_any _ _ _ _ _ _ _ H.out (by have := HN.out; unfold Few at *; omega)).mono ?_
  rintro e w1 ⟨v, hv, rfl, hs, hg⟩
  obtain ⟨v0, v1⟩ := hv
  have S := Lib.hid hs
  have G := Lib.hid hg
  clear hs hg
  go_wp2_with fail
  refine (byte_any _ _ _ _ _ _ _ S.out (by have := HN.out; unfold Few at *; omega)).mono ?_
  rintro e w2 ⟨u, hu, rfl, hs, hg⟩
  obtain ⟨u0, u1⟩ := hu
  have S2 := Lib.hid hs
  have G2 := Lib.hid (grown_trans G.out hg)
  clear hs hg
  go_wp2_with fail
  refine (byte_any _ _ _ _ _ _ _ S2.out HN.out).mono ?_
  rintro e w3 ⟨t, ht, rfl, hs, hg⟩
  obtain ⟨t0, t1⟩ := ht
  have S3 := Lib.hid hs
  have G3 := Lib.hid (grown_trans G2.out hg)
  clear hs hg
  go_wp2
  go_ret
  exact ⟨_, ⟨Int.emod_nonneg _ (by omega), Int.emod_lt_of_pos _ (by omega)⟩, rfl, S3.out, G3.out⟩

end Go.Proofs.YthnbaeamekolmaaGreatDoor

namespace Go.Proofs.YthnbaeamekolmaaGreatDoor
open Go.RowKit
set_option linter.unusedVariables false
set_option linter.unusedSimpArgs false

set_option maxRecDepth 100000 in
set_option maxHeartbeats 400000 in
theorem source_any (a : Option Addr) (len cap : Nat) (w : World) (hl : len ≤ 9223372036854775807) :
    Calls Tryz.prog 56 #[.slice a len cap] w fun e w' => e = .returned (.pointer (some ⟨w.heap.size, 0, none⟩)) ∧ w' = w.alloc (.cells #[.slice a len cap, .int .i64 0, .int .i64 ((len : Int) % 1000)] 142) := by
  go_enter Tryz.func56, Tryz.ntmps56
  go_wp2
  go_ret
  exact ⟨rfl, rfl⟩

theorem src_new {w : World} {a : Option Addr} {len cap : Nat} {zs : List Int} (h : BRow w a len cap zs) :
    Src (w.alloc (.cells #[.slice a len cap, .int .i64 0, .int .i64 ((len : Int) % 1000)] 142)) w.heap.size a len cap zs 0 := by
  have hb := brow_lt h
  refine ⟨0, (len : Int) % 1000, Nat.le_refl _, ?_, ?_, ?_, ?_, ?_, ?_, ?_, ?_, ?_⟩
  · simp
  · simp
  · simp
  · simp
  · simp
  · rcases h with h | ⟨x, rfl, h1, h2, h3, h4, h5⟩
    · exact .inl h
    · exact .inr ⟨x, rfl, h1, h2, h3, fun i hi => by rw [World.cell?_alloc_lt _ _ _ (by rw [add_block]; exact hb x rfl (by omega))]; exact h4 i hi, h5⟩
  · intro x hx hc; have := hb x hx hc; omega
  · omega
  · omega

set_option maxRecDepth 100000 in
set_option maxHeartbeats 2000000 in
theorem cell_any (b : Nat) (a : Option Addr) (len cap : Nat) (zs : List Int) (N : Nat) (w : World) (h : Src w b a len cap zs N) (hN : Few (N + 4)) :
    Calls Tryz.prog 71 #[.pointer (some ⟨b, 0, none⟩)] w (Drew w b a len cap zs (N + 5) fun v => -2147483648 ≤ v ∧ v ≤ 2147483647) := by
  have H := Lib.hid h
  have HN : Hid (∀ m, m ≤ N + 4 → Few m) := Lib.hid fun m hm => by unfold Few at *; omega
  clear h hN
  go_enter Tryz.func71, Tryz.ntmps71
  go_wp2_with fail
  refine (next_small _ _ _ _ _ _ _ _ H.out (HN.out _ (by omega)) (by omega) (by omega)).mono ?_
  rintro e w1 ⟨v, hv1, rfl, hs1, hg1⟩
  obtain ⟨v0, v1⟩ := hv1
  have S1 := Lib.hid hs1
  have G1 := Lib.hid hg1
  clear hs1 hg1
  rcases (by omega : v = 0 ∨ v = 1 ∨ v = 2 ∨ v = 3 ∨ (v ≠ 0 ∧ v ≠ 1 ∧ v ≠ 2 ∧ v ≠ 3)) with rfl | rfl | rfl | rfl | ⟨n0, n1, n2, n3⟩
  · go_wp2_with fail
    refine (next_small _ _ _ _ _ _ _ _ S1.out (HN.out _ (by omega)) (by omega) (by omega)).mono ?_
    rintro e w2 ⟨u, hv2, rfl, hs2, hg2⟩
    obtain ⟨u0, u1⟩ := hv2
    have S2 := Lib.hid hs2
    have G2 := Lib.hid (grown_trans G1.out hg2)
    clear hs2 hg2
    go_wp2
    go_ret
    exact ⟨_, ⟨by omega, by omega⟩, rfl, src_mono S2.out (by omega), G2.out⟩
  · go_wp2_with fail
    refine (next_small _ _ _ _ _ _ _ _ S1.out (HN.out _ (by omega)) (by omega) (by omega)).mono ?_
    rintro e w2 ⟨u, hv2, rfl, hs2, hg2⟩
    obtain ⟨u0, u1⟩ := hv2
    have S2 := Lib.hid hs2
    have G2 := Lib.hid (grown_trans G1.out hg2)
    clear hs2 hg2
    go_wp2
    go_ret
    exact ⟨_, ⟨by omega, by omega⟩, rfl, src_mono S2.out (by omega), G2.out⟩
  · go_wp2_with fail
    refine (byte_any _ _ _ _ _ _ _ S1.out (HN.out _ (by omega))).mono ?_
    rintro e w2 ⟨u, hv2, rfl, hs2, hg2⟩
    obtain ⟨u0, u1⟩ := hv2
    have S2 := Lib.hid hs2
    have G2 := Lib.hid (grown_trans G1.out hg2)
    clear hs2 hg2
    go_wp2_with fail
    refine (byte_any _ _ _ _ _ _ _ S2.out (HN.out _ (by omega))).mono ?_
    rintro e w3 ⟨t, hv3, rfl, hs3, hg3⟩
    obtain ⟨t0, t1⟩ := hv3
    have S3 := Lib.hid hs3
    have G3 := Lib.hid (grown_trans G2.out hg3)
    clear hs3 hg3
    go_wp2_with fail
    refine (byte_any _ _ _ _ _ _ _ S3.out (HN.out _ (by omega))).mono ?_
    rintro e w4 ⟨r, hv4, rfl, hs4, hg4⟩
    obtain ⟨r0, r1⟩ := hv4
    have S4 := Lib.hid hs4
    have G4 := Lib.hid (grown_trans G3.out hg4)
    clear hs4 hg4
    go_wp2_with fail
    refine (byte_any _ _ _ _ _ _ _ S4.out (HN.out _ (by omega))).mono ?_
    rintro e w5 ⟨q, hv5, rfl, hs5, hg5⟩
    obtain ⟨q0, q1⟩ := hv5
    have S5 := Lib.hid hs5
    have G5 := Lib.hid (grown_trans G4.out hg5)
    clear hs5 hg5
    go_wp2_with fail
    refine (sWrap_any _ _).mono ?_
    rintro e w6 ⟨rfl, rfl⟩
    go_wp2
    go_ret
    exact ⟨_, wrap32_cell _, rfl, src_mono S5.out (by omega), G5.out⟩
  · go_wp2_with fail
    refine (next_small _ _ _ _ _ _ _ _ S1.out (HN.out _ (by omega)) (by omega) (by omega)).mono ?_
    rintro e w2 ⟨u, hv2, rfl, hs2, hg2⟩
    obtain ⟨u0, u1⟩ := hv2
    have S2 := Lib.hid hs2
    have G2 := Lib.hid (grown_trans G1.out hg2)
    clear hs2 hg2
    go_wp2
    go_ret
    exact ⟨_, ⟨by omega, by omega⟩, rfl, src_mono S2.out (by omega), G2.out⟩
  · have m0 : (v == 0) = false := by simpa using n0
    have m1 : (v == 1) = false := by simpa using n1
    have m2 : (v == 2) = false := by simpa using n2
    have m3 : (v == 3) = false := by simpa using n3
    go_wp2_with fail
    refine (next_small _ _ _ _ _ _ _ _ S1.out (HN.out _ (by omega)) (by omega) (by omega)).mono ?_
    rintro e w2 ⟨u, hv2, rfl, hs2, hg2⟩
    obtain ⟨u0, u1⟩ := hv2
    have S2 := Lib.hid hs2
    have G2 := Lib.hid (grown_trans G1.out hg2)
    clear hs2 hg2
    go_wp2
    go_ret
    exact ⟨_, ⟨by omega, by omega⟩, rfl, src_mono S2.out (by omega), G2.out⟩

/-- What a drawn cell leaves: a cell; of what was there nothing has turned. -/
def CellDrew (w : World) (e : Ending) (w' : World) : Prop := ∃ v : Int, (-2147483648 ≤ v ∧ v ≤ 2147483647) ∧ e = .returned (.int .i64 v) ∧ Below w.heap.size w w'

theorem below_newS {w w' : World} (o : Obj) (h : (w.alloc o).grownBy w' (some w.heap.size)) : Below w.heap.size w w' :=
  ((Below.refl w.heap.size w).alloc (Nat.le_refl _) o).grown h (by simp) (fun k hk => by cases hk; exact Nat.le_refl _)

set_option maxRecDepth 100000 in
set_option maxHeartbeats 400000 in
theorem cellDrawn_any (a : Option Addr) (len cap : Nat) (zs : List Int) (w : World) (h : BRow w a len cap zs) (hl : len ≤ 9223372036854775807) :
    Calls Tryz.prog 25 #[.slice a len cap] w (CellDrew w) := by
  have S := Lib.hid (src_new h)
  clear h
  go_enter Tryz.func25, Tryz.ntmps25
  go_wp2_with fail
  refine (source_any _ _ _ _ hl).mono ?_
  rintro e w' ⟨rfl, rfl⟩
  go_wp2_with fail
  refine (cell_any _ _ _ _ _ _ _ S.out (by unfold Few; omega)).mono ?_
  rintro e w1 ⟨v, hv, rfl, hs, hg⟩
  have G := Lib.hid (below_newS _ hg)
  clear hs hg
  go_wp2
  go_ret
  exact ⟨v, hv, rfl, G.out⟩

end Go.Proofs.YthnbaeamekolmaaGreatDoor

namespace Go.Proofs.YthnbaeamekolmaaGreatDoor
open Go.RowKit
set_option linter.unusedVariables false
set_option linter.unusedSimpArgs false

/-- What 'at' leaves: a number from 0 on, below the bound; draws alone. -/
def AtPost (w : World) (n : Int) (e : Ending) (w' : World) : Prop := ∃ (v : Int) (k : Nat), (0 ≤ v ∧ v < n) ∧ e = .returned (.int .i64 v) ∧ w' = w.drewN k

set_option maxRecDepth 100000 in
set_option maxHeartbeats 1000000 in
theorem at_row (bc off len cap : Nat) (zs : List Int) (i n : Nat) (w : World) (h : BRow w (some ⟨bc, off, none⟩) len cap zs) (hl : 0 < len) (hlx : len ≤ 1048576) (hi : i ≤ 1000000) (h1 : 1 < n) (h2 : n ≤ 1000000000) :
    Calls Tryz.prog 17 #[.slice (some ⟨bc, off, none⟩) len cap, .int .i64 i, .int .i64 n] w (AtPost w n) := by
  rcases h with ⟨h, _⟩ | ⟨x, hx, g1, g2, hz, h4, h5⟩
  · cases h
  obtain rfl := Option.some.inj hx
  unfold maxLen at g2
  obtain ⟨r1, hr1⟩ : ∃ r : Nat, r = i % len := ⟨_, rfl⟩
  obtain ⟨r2, hr2⟩ : ∃ r : Nat, r = (i + 1) % len := ⟨_, rfl⟩
  obtain ⟨q, hq⟩ : ∃ q : Nat, q = i / len := ⟨_, rfl⟩
  have l1 : r1 < len := by rw [hr1]; exact Nat.mod_lt _ hl
  have l2 : r2 < len := by rw [hr2]; exact Nat.mod_lt _ hl
  have l3 : q ≤ i := by rw [hq]; exact Nat.div_le_self _ _
  have e1 : ((i : Int) % (len : Int)) = r1 := by rw [hr1]; omega
  have e2 : (((i : Int) + 1) % (len : Int)) = r2 := by rw [hr2]; simp
  have e3 : ((i : Int) / (len : Int)) = q := by rw [hq]; omega
  have c1 : w.cell? ⟨bc, off + r1, none⟩ = some (.int .u8 (zs.getD r1 0)) := by have := h4 r1 (by omega); rwa [Addr.add_lit] at this
  have c2 : w.cell? ⟨bc, off + r2, none⟩ = some (.int .u8 (zs.getD r2 0)) := by have := h4 r2 (by omega); rwa [Addr.add_lit] at this
  have b1 := range_u8 h5 r1
  have b2 := range_u8 h5 r2
  rw [← List.getD_eq_getElem?_getD] at b1 b2
  generalize zs.getD r1 0 = x1 at *
  generalize zs.getD r2 0 = x2 at *
  obtain ⟨x1a, x1b⟩ := b1
  obtain ⟨x2a, x2b⟩ := b2
  have z0 : ((len : Int) == 0) = false := by simp; omega
  have P := Lib.hid (show 0 < n by omega)
  clear h4 h5 hr1 hr2 hq hx hz
  go_enter Tryz.func17, Tryz.ntmps17
  go_wp2
  go_quiet (fail)
  go_wp2
  go_ret
  exact ⟨_, _, ⟨Int.emod_nonneg _ (by have := P.out; omega), Int.emod_lt_of_pos _ (by have := P.out; omega)⟩, rfl, rfl⟩

set_option maxRecDepth 100000 in
set_option maxHeartbeats 1000000 in
theorem at_none (a : Option Addr) (cap : Nat) (i n : Nat) (w : World) (hi : i ≤ 1000000) (h1 : 1 < n) (h2 : n ≤ 1000000000) :
    Calls Tryz.prog 17 #[.slice a 0 cap, .int .i64 i, .int .i64 n] w (AtPost w n) := by
  have P := Lib.hid (show 0 < n by omega)
  go_enter Tryz.func17, Tryz.ntmps17
  go_wp2
  go_ret
  exact ⟨_, 0, ⟨Int.emod_nonneg _ (by have := P.out; omega), Int.emod_lt_of_pos _ (by have := P.out; omega)⟩, rfl, rfl⟩

theorem at_any (a : Option Addr) (len cap : Nat) (zs : List Int) (i n : Nat) (w : World) (h : BRow w a len cap zs) (hlx : len ≤ 1048576) (hi : i ≤ 1000000) (h1 : 1 < n) (h2 : n ≤ 1000000000) :
    Calls Tryz.prog 17 #[.slice a len cap, .int .i64 i, .int .i64 n] w (AtPost w n) := by
  by_cases hl : 0 < len
  · rcases h with ⟨_, h0, _⟩ | ⟨x, rfl, g1, g2, hz, h4, h5⟩
    · omega
    · have hx : w.cell? (x.add 0) = some (.int .u8 (zs.getD 0 0)) := h4 0 (by omega)
      obtain ⟨bc, off, spot⟩ := x
      have hspot : spot = none := by simpa [Addr.add] using World.cell?_spot hx
      subst hspot
      exact at_row bc off len cap zs i n w (.inr ⟨_, rfl, g1, g2, hz, h4, h5⟩) hl hlx hi h1 h2
  · obtain rfl : len = 0 := by omega
    exact at_none a cap i n w hi h1 h2

end Go.Proofs.YthnbaeamekolmaaGreatDoor

namespace Go.Proofs.YthnbaeamekolmaaGreatDoor
open Go.RowKit
set_option linter.unusedVariables false
set_option linter.unusedSimpArgs false

/-- New data. -/
def newDt : Dt := ⟨[], [], List.replicate 32 0, 0, 10, ByteArray.empty⟩

theorem row_empty {w : World} {base g : Nat} (h : Whole w g 3 #[]) (hb : base ≤ g) : Row w base (.slice (some ⟨g, 0, none⟩) 0 0) [] :=
  ⟨by simp, .inr ⟨g, 0, #[], rfl, hb, h, Nat.le_refl _, by unfold maxLen; simp, by simp, by simp⟩⟩

set_option maxRecDepth 100000 in
set_option maxHeartbeats 2000000 in
theorem sNew_any (w : World) : Calls Tryz.prog 70 #[] w (CopyOf w newDt) := by
  obtain ⟨i0, hi0, hz0, hz1, hz2⟩ := info_parts own_info3
  have I0 := Lib.hid hi0
  have Z0 := Lib.hid hz0
  have Z1 := Lib.hid hz1
  have B8 : Hid (i0.bytes * 32 ≤ 281474976710656) := Lib.hid (by rw [hz2]; omega)
  clear hi0 hz0 hz1 hz2
  go_enter Tryz.func70, Tryz.ntmps70
  go_wp2_with (first
    | (at_make; refine wpList_make_full _ rfl _ _ 23 rfl (w.heap.size + 1 + 1 + 1) 3 i0 _ 1 Tryz.underlying23 I0.out Z0.out Z1.out .i64 .i64 _ _ 32 rfl rfl rfl rfl B8.out (by unfold maxLen; omega) (by simp) ?_
       intro w1 ho1 hg1
       have hb : Below _ _ w1 := (Below.refl _ _).grown hg1 (Nat.le_refl _) (by simp)
       have B1 : Below w.heap.size w w1 := below_step (below_alloc (below_alloc (below_alloc (Below.refl _ _) _) _) _) hb
       have R3 : Row w1 (w.heap.size + 1 + 1 + 1) (.slice (some ⟨w.heap.size + 1 + 1 + 1, 0, none⟩) 32 32) (List.replicate 32 0) := by have h := zeros_row ho1; simpa using h
       have T1 := whole_b hb (whole_alloc (whole_alloc (whole_new w _ _) _) _)
       have E1 := whole_b hb (whole_alloc (whole_new1 w _ _ _) _)
       have E2 := whole_b hb (whole_new2 w _ _ _ _)
       obtain ⟨r0, r1, r2, r3, r4, r5⟩ := six_cells T1
       have fr := whole_free T1
       clear ho1 hg1 hb))
  refine bodyPost_ret (v := .agg #[.slice (some ⟨w.heap.size + 1, 0, none⟩) 0 0, .slice (some ⟨w.heap.size + 1 + 1, 0, none⟩) 0 0, .slice (some ⟨w.heap.size + 1 + 1 + 1, 0, none⟩) 32 32, .int .i64 0, .int .i64 10, .string ByteArray.empty]) (by simp [results, Tryz.results70, go_sem, *]; try rfl) rfl ⟨_, rfl, datOf_top (datOf_base (datOf_rows (d := newDt) (lo := w.heap.size + 1) ?_ ?_ ?_ (by decide) ?_ ?_ ?_) (by omega)) (Nat.le_refl _), ?_⟩
  · have h := row_empty (base := w.heap.size + 1) E1 (Nat.le_refl _)
    show Row _ _ _ []
    repeat (first | with_reducible exact h | ((with_reducible refine row_store ?_ ?hh); case hh => omega))
  · have h := row_empty (base := w.heap.size + 1) E2 (by omega)
    show Row _ _ _ []
    repeat (first | with_reducible exact h | ((with_reducible refine row_store ?_ ?hh); case hh => omega))
  · have h := row_base (base' := w.heap.size + 1) R3 (by omega)
    show Row _ _ _ (List.replicate 32 0)
    repeat (first | with_reducible exact h | ((with_reducible refine row_store ?_ ?hh); case hh => omega))
  · intro k hk hk2; simp [Value.ownBlock] at hk hk2; omega
  · intro k hk hk2; simp [Value.ownBlock] at hk hk2; omega
  · intro k hk hk2; simp [Value.ownBlock] at hk hk2; omega
  · repeat (first | with_reducible exact B1 | with_reducible refine Below.setCell ?_ (by simp) _)

set_option maxRecDepth 100000 in
set_option maxHeartbeats 2000000 in
theorem sNewData_any (w : World) : Calls Tryz.prog 24 #[] w (CopyOf w newDt) := by
  go_enter Tryz.func24, Tryz.ntmps24
  go_wp2_with fail
  refine (sNew_any _).mono ?_
  rintro e w1 ⟨u, rfl, hu, hb⟩
  obtain ⟨C1, j1, C2, j2, C3, j3, rfl⟩ := datIn_form (datOf_in hu)
  have B1 := below_step (below_alloc (Below.refl _ _) _) hb
  have T1 := whole_b hb (whole_new w _ _)
  clear hb
  obtain ⟨r0, r1, r2, r3, r4, r5⟩ := six_cells T1
  have fr := whole_free T1
  go_wp2
  refine bodyPost_ret (v := .agg #[.slice C1 newDt.s.length j1, .slice C2 newDt.b.length j2, .slice C3 newDt.c.length j3, .int .i64 newDt.h, .int .i64 newDt.n, .string newDt.o]) (by simp [results, Tryz.results24, go_sem, *]) rfl ⟨_, rfl, ?_, ?_⟩
  · refine datOf_top (datOf_base (datOf_keep (lo := w.heap.size + 1) (by simpa using hu) (fun g h1 h2 h3 => ?_)) (by omega)) (by simp)
    iterate 6 rw [Below.heap_setCell _ _ _ _ (by show g ≠ w.heap.size; omega)]
  · repeat (first | with_reducible exact B1 | with_reducible refine Below.setCell ?_ (by simp) _)

end Go.Proofs.YthnbaeamekolmaaGreatDoor

namespace Go.Proofs.YthnbaeamekolmaaGreatDoor
open Go.RowKit
set_option linter.unusedVariables false
set_option linter.unusedSimpArgs false

/-- Alike in every field. -/
def SameP (p q : Dt) : Prop := p.s = q.s ∧ p.b = q.b ∧ p.c = q.c ∧ p.h = q.h ∧ p.n = q.n ∧ p.o.toList = q.o.toList
instance (p q : Dt) : Decidable (SameP p q) := by unfold SameP; infer_instance
def sameD (p q : Dt) : Bool := decide (SameP p q)
/-- Both valid, and alike. -/
def sameV (p q : Dt) : Bool := dOK p && (dOK q && sameD p q)

theorem sameD_of {p q : Dt} (h0 : p.s = q.s) (h1 : p.b = q.b) (h2 : p.c = q.c) (h3 : p.h = q.h) (h4 : p.n = q.n) (h5 : p.o.toList = q.o.toList) : sameD p q = true := decide_eq_true ⟨h0, h1, h2, h3, h4, h5⟩
theorem sameD_not {p q : Dt} (h : ¬ SameP p q) : sameD p q = false := decide_eq_false h

set_option maxRecDepth 100000 in
set_option maxHeartbeats 2000000 in
theorem sSameD_0 (u v : Value) (p q : Dt) (w : World) (hu : DatIn w u p) (hv : DatIn w v q) (h0 : ¬ p.s = q.s) :
    Calls Tryz.prog 172 #[u, v] w fun e w' => e = .returned (.bool false) ∧ Below w.heap.size w w' := by
  have HU := hu
  have HV := hv
  obtain ⟨x, y, z, rfl, hx, hy, hz, _⟩ := hu
  obtain ⟨x', y', z', rfl, hx', hy', hz', _⟩ := hv
  have BB : Hid (∀ (o o' : Obj) (n : Nat), Below w.heap.size w (((w.alloc o).alloc o').drewN n)) := Lib.hid fun o o' n => below_drewN (below_alloc (below_alloc (Below.refl _ _) _) _) n
  have B0 : Hid (∀ (o o' : Obj), Below w.heap.size w ((w.alloc o).alloc o')) := Lib.hid fun o o' => below_alloc (below_alloc (Below.refl _ _) _) _
  have HX : Hid (∀ o o' : Obj, Ints ((w.alloc o).alloc o') x p.s) := Lib.hid fun o o' => (ints_below hx (B0.out o o'))
  have NX : Hid (∀ o o' : Obj, ∀ m : Nat, Ints (((w.alloc o).alloc o').drewN m) x p.s) := Lib.hid fun o o' => (fun m => ints_draws (ints_below hx (B0.out o o')) m)
  have HY : Hid (∀ o o' : Obj, Ints ((w.alloc o).alloc o') y p.b) := Lib.hid fun o o' => (ints_below hy (B0.out o o'))
  have NY : Hid (∀ o o' : Obj, ∀ m : Nat, Ints (((w.alloc o).alloc o').drewN m) y p.b) := Lib.hid fun o o' => (fun m => ints_draws (ints_below hy (B0.out o o')) m)
  have HZ : Hid (∀ o o' : Obj, Ints ((w.alloc o).alloc o') z p.c) := Lib.hid fun o o' => (ints_below hz (B0.out o o'))
  have NZ : Hid (∀ o o' : Obj, ∀ m : Nat, Ints (((w.alloc o).alloc o').drewN m) z p.c) := Lib.hid fun o o' => (fun m => ints_draws (ints_below hz (B0.out o o')) m)
  have HX' : Hid (∀ o o' : Obj, Ints ((w.alloc o).alloc o') x' q.s) := Lib.hid fun o o' => (ints_below hx' (B0.out o o'))
  have NX' : Hid (∀ o o' : Obj, ∀ m : Nat, Ints (((w.alloc o).alloc o').drewN m) x' q.s) := Lib.hid fun o o' => (fun m => ints_draws (ints_below hx' (B0.out o o')) m)
  have HY' : Hid (∀ o o' : Obj, Ints ((w.alloc o).alloc o') y' q.b) := Lib.hid fun o o' => (ints_below hy' (B0.out o o'))
  have NY' : Hid (∀ o o' : Obj, ∀ m : Nat, Ints (((w.alloc o).alloc o').drewN m) y' q.b) := Lib.hid fun o o' => (fun m => ints_draws (ints_below hy' (B0.out o o')) m)
  have HZ' : Hid (∀ o o' : Obj, Ints ((w.alloc o).alloc o') z' q.c) := Lib.hid fun o o' => (ints_below hz' (B0.out o o'))
  have NZ' : Hid (∀ o o' : Obj, ∀ m : Nat, Ints (((w.alloc o).alloc o').drewN m) z' q.c) := Lib.hid fun o o' => (fun m => ints_draws (ints_below hz' (B0.out o o')) m)
  have t0 : (p.s == q.s) = false := by rw [beq_eq_false_iff_ne]; exact h0
  clear h0
  clear hx hy hz hx' hy' hz' HU HV
  go_enter Tryz.func172, Tryz.ntmps172
  go_wp2_with (first | (go_at_call 171; (first | (with_reducible refine (sSame_any _ _ p.s q.s _ (by first | exact HX.out _ _ | exact NX.out _ _ _) (by first | exact HX'.out _ _ | exact NX'.out _ _ _)).mono ?_) | (with_reducible refine (sSame_any _ _ p.b q.b _ (by first | exact HY.out _ _ | exact NY.out _ _ _) (by first | exact HY'.out _ _ | exact NY'.out _ _ _)).mono ?_) | (with_reducible refine (sSame_any _ _ p.c q.c _ (by first | exact HZ.out _ _ | exact NZ.out _ _ _) (by first | exact HZ'.out _ _ | exact NZ'.out _ _ _)).mono ?_)); rintro e w' ⟨nn, rfl, rfl⟩; (try simp only [World.drewN_drewN])))
  go_ret
  exact ⟨ret_bool (by simp [*]), by first | exact BB.out _ _ _ | exact B0.out _ _⟩

set_option maxRecDepth 100000 in
set_option maxHeartbeats 2000000 in
theorem sSameD_1 (u v : Value) (p q : Dt) (w : World) (hu : DatIn w u p) (hv : DatIn w v q) (h0 : p.s = q.s) (h1 : ¬ p.b = q.b) :
    Calls Tryz.prog 172 #[u, v] w fun e w' => e = .returned (.bool false) ∧ Below w.heap.size w w' := by
  have HU := hu
  have HV := hv
  obtain ⟨x, y, z, rfl, hx, hy, hz, _⟩ := hu
  obtain ⟨x', y', z', rfl, hx', hy', hz', _⟩ := hv
  have BB : Hid (∀ (o o' : Obj) (n : Nat), Below w.heap.size w (((w.alloc o).alloc o').drewN n)) := Lib.hid fun o o' n => below_drewN (below_alloc (below_alloc (Below.refl _ _) _) _) n
  have B0 : Hid (∀ (o o' : Obj), Below w.heap.size w ((w.alloc o).alloc o')) := Lib.hid fun o o' => below_alloc (below_alloc (Below.refl _ _) _) _
  have HX : Hid (∀ o o' : Obj, Ints ((w.alloc o).alloc o') x p.s) := Lib.hid fun o o' => (ints_below hx (B0.out o o'))
  have NX : Hid (∀ o o' : Obj, ∀ m : Nat, Ints (((w.alloc o).alloc o').drewN m) x p.s) := Lib.hid fun o o' => (fun m => ints_draws (ints_below hx (B0.out o o')) m)
  have HY : Hid (∀ o o' : Obj, Ints ((w.alloc o).alloc o') y p.b) := Lib.hid fun o o' => (ints_below hy (B0.out o o'))
  have NY : Hid (∀ o o' : Obj, ∀ m : Nat, Ints (((w.alloc o).alloc o').drewN m) y p.b) := Lib.hid fun o o' => (fun m => ints_draws (ints_below hy (B0.out o o')) m)
  have HZ : Hid (∀ o o' : Obj, Ints ((w.alloc o).alloc o') z p.c) := Lib.hid fun o o' => (ints_below hz (B0.out o o'))
  have NZ : Hid (∀ o o' : Obj, ∀ m : Nat, Ints (((w.alloc o).alloc o').drewN m) z p.c) := Lib.hid fun o o' => (fun m => ints_draws (ints_below hz (B0.out o o')) m)
  have HX' : Hid (∀ o o' : Obj, Ints ((w.alloc o).alloc o') x' q.s) := Lib.hid fun o o' => (ints_below hx' (B0.out o o'))
  have NX' : Hid (∀ o o' : Obj, ∀ m : Nat, Ints (((w.alloc o).alloc o').drewN m) x' q.s) := Lib.hid fun o o' => (fun m => ints_draws (ints_below hx' (B0.out o o')) m)
  have HY' : Hid (∀ o o' : Obj, Ints ((w.alloc o).alloc o') y' q.b) := Lib.hid fun o o' => (ints_below hy' (B0.out o o'))
  have NY' : Hid (∀ o o' : Obj, ∀ m : Nat, Ints (((w.alloc o).alloc o').drewN m) y' q.b) := Lib.hid fun o o' => (fun m => ints_draws (ints_below hy' (B0.out o o')) m)
  have HZ' : Hid (∀ o o' : Obj, Ints ((w.alloc o).alloc o') z' q.c) := Lib.hid fun o o' => (ints_below hz' (B0.out o o'))
  have NZ' : Hid (∀ o o' : Obj, ∀ m : Nat, Ints (((w.alloc o).alloc o').drewN m) z' q.c) := Lib.hid fun o o' => (fun m => ints_draws (ints_below hz' (B0.out o o')) m)
  have t0 : (p.s == q.s) = true := by rw [beq_iff_eq]; exact h0
  have t1 : (p.b == q.b) = false := by rw [beq_eq_false_iff_ne]; exact h1
  clear h0
  clear h1
  clear hx hy hz hx' hy' hz' HU HV
  go_enter Tryz.func172, Tryz.ntmps172
  go_wp2_with (first | (go_at_call 171; (first | (with_reducible refine (sSame_any _ _ p.s q.s _ (by first | exact HX.out _ _ | exact NX.out _ _ _) (by first | exact HX'.out _ _ | exact NX'.out _ _ _)).mono ?_) | (with_reducible refine (sSame_any _ _ p.b q.b _ (by first | exact HY.out _ _ | exact NY.out _ _ _) (by first | exact HY'.out _ _ | exact NY'.out _ _ _)).mono ?_) | (with_reducible refine (sSame_any _ _ p.c q.c _ (by first | exact HZ.out _ _ | exact NZ.out _ _ _) (by first | exact HZ'.out _ _ | exact NZ'.out _ _ _)).mono ?_)); rintro e w' ⟨nn, rfl, rfl⟩; (try simp only [World.drewN_drewN])))
  go_ret
  exact ⟨ret_bool (by simp [*]), by first | exact BB.out _ _ _ | exact B0.out _ _⟩

set_option maxRecDepth 100000 in
set_option maxHeartbeats 2000000 in
theorem sSameD_2 (u v : Value) (p q : Dt) (w : World) (hu : DatIn w u p) (hv : DatIn w v q) (h0 : p.s = q.s) (h1 : p.b = q.b) (h2 : ¬ p.c = q.c) :
    Calls Tryz.prog 172 #[u, v] w fun e w' => e = .returned (.bool false) ∧ Below w.heap.size w w' := by
  have HU := hu
  have HV := hv
  obtain ⟨x, y, z, rfl, hx, hy, hz, _⟩ := hu
  obtain ⟨x', y', z', rfl, hx', hy', hz', _⟩ := hv
  have BB : Hid (∀ (o o' : Obj) (n : Nat), Below w.heap.size w (((w.alloc o).alloc o').drewN n)) := Lib.hid fun o o' n => below_drewN (below_alloc (below_alloc (Below.refl _ _) _) _) n
  have B0 : Hid (∀ (o o' : Obj), Below w.heap.size w ((w.alloc o).alloc o')) := Lib.hid fun o o' => below_alloc (below_alloc (Below.refl _ _) _) _
  have HX : Hid (∀ o o' : Obj, Ints ((w.alloc o).alloc o') x p.s) := Lib.hid fun o o' => (ints_below hx (B0.out o o'))
  have NX : Hid (∀ o o' : Obj, ∀ m : Nat, Ints (((w.alloc o).alloc o').drewN m) x p.s) := Lib.hid fun o o' => (fun m => ints_draws (ints_below hx (B0.out o o')) m)
  have HY : Hid (∀ o o' : Obj, Ints ((w.alloc o).alloc o') y p.b) := Lib.hid fun o o' => (ints_below hy (B0.out o o'))
  have NY : Hid (∀ o o' : Obj, ∀ m : Nat, Ints (((w.alloc o).alloc o').drewN m) y p.b) := Lib.hid fun o o' => (fun m => ints_draws (ints_below hy (B0.out o o')) m)
  have HZ : Hid (∀ o o' : Obj, Ints ((w.alloc o).alloc o') z p.c) := Lib.hid fun o o' => (ints_below hz (B0.out o o'))
  have NZ : Hid (∀ o o' : Obj, ∀ m : Nat, Ints (((w.alloc o).alloc o').drewN m) z p.c) := Lib.hid fun o o' => (fun m => ints_draws (ints_below hz (B0.out o o')) m)
  have HX' : Hid (∀ o o' : Obj, Ints ((w.alloc o).alloc o') x' q.s) := Lib.hid fun o o' => (ints_below hx' (B0.out o o'))
  have NX' : Hid (∀ o o' : Obj, ∀ m : Nat, Ints (((w.alloc o).alloc o').drewN m) x' q.s) := Lib.hid fun o o' => (fun m => ints_draws (ints_below hx' (B0.out o o')) m)
  have HY' : Hid (∀ o o' : Obj, Ints ((w.alloc o).alloc o') y' q.b) := Lib.hid fun o o' => (ints_below hy' (B0.out o o'))
  have NY' : Hid (∀ o o' : Obj, ∀ m : Nat, Ints (((w.alloc o).alloc o').drewN m) y' q.b) := Lib.hid fun o o' => (fun m => ints_draws (ints_below hy' (B0.out o o')) m)
  have HZ' : Hid (∀ o o' : Obj, Ints ((w.alloc o).alloc o') z' q.c) := Lib.hid fun o o' => (ints_below hz' (B0.out o o'))
  have NZ' : Hid (∀ o o' : Obj, ∀ m : Nat, Ints (((w.alloc o).alloc o').drewN m) z' q.c) := Lib.hid fun o o' => (fun m => ints_draws (ints_below hz' (B0.out o o')) m)
  have t0 : (p.s == q.s) = true := by rw [beq_iff_eq]; exact h0
  have t1 : (p.b == q.b) = true := by rw [beq_iff_eq]; exact h1
  have t2 : (p.c == q.c) = false := by rw [beq_eq_false_iff_ne]; exact h2
  clear h0
  clear h1
  clear h2
  clear hx hy hz hx' hy' hz' HU HV
  go_enter Tryz.func172, Tryz.ntmps172
  go_wp2_with (first | (go_at_call 171; (first | (with_reducible refine (sSame_any _ _ p.s q.s _ (by first | exact HX.out _ _ | exact NX.out _ _ _) (by first | exact HX'.out _ _ | exact NX'.out _ _ _)).mono ?_) | (with_reducible refine (sSame_any _ _ p.b q.b _ (by first | exact HY.out _ _ | exact NY.out _ _ _) (by first | exact HY'.out _ _ | exact NY'.out _ _ _)).mono ?_) | (with_reducible refine (sSame_any _ _ p.c q.c _ (by first | exact HZ.out _ _ | exact NZ.out _ _ _) (by first | exact HZ'.out _ _ | exact NZ'.out _ _ _)).mono ?_)); rintro e w' ⟨nn, rfl, rfl⟩; (try simp only [World.drewN_drewN])))
  go_ret
  exact ⟨ret_bool (by simp [*]), by first | exact BB.out _ _ _ | exact B0.out _ _⟩

set_option maxRecDepth 100000 in
set_option maxHeartbeats 2000000 in
theorem sSameD_3 (u v : Value) (p q : Dt) (w : World) (hu : DatIn w u p) (hv : DatIn w v q) (h0 : p.s = q.s) (h1 : p.b = q.b) (h2 : p.c = q.c) (h3 : ¬ p.h = q.h) :
    Calls Tryz.prog 172 #[u, v] w fun e w' => e = .returned (.bool false) ∧ Below w.heap.size w w' := by
  have HU := hu
  have HV := hv
  obtain ⟨x, y, z, rfl, hx, hy, hz, _⟩ := hu
  obtain ⟨x', y', z', rfl, hx', hy', hz', _⟩ := hv
  have BB : Hid (∀ (o o' : Obj) (n : Nat), Below w.heap.size w (((w.alloc o).alloc o').drewN n)) := Lib.hid fun o o' n => below_drewN (below_alloc (below_alloc (Below.refl _ _) _) _) n
  have B0 : Hid (∀ (o o' : Obj), Below w.heap.size w ((w.alloc o).alloc o')) := Lib.hid fun o o' => below_alloc (below_alloc (Below.refl _ _) _) _
  have HX : Hid (∀ o o' : Obj, Ints ((w.alloc o).alloc o') x p.s) := Lib.hid fun o o' => (ints_below hx (B0.out o o'))
  have NX : Hid (∀ o o' : Obj, ∀ m : Nat, Ints (((w.alloc o).alloc o').drewN m) x p.s) := Lib.hid fun o o' => (fun m => ints_draws (ints_below hx (B0.out o o')) m)
  have HY : Hid (∀ o o' : Obj, Ints ((w.alloc o).alloc o') y p.b) := Lib.hid fun o o' => (ints_below hy (B0.out o o'))
  have NY : Hid (∀ o o' : Obj, ∀ m : Nat, Ints (((w.alloc o).alloc o').drewN m) y p.b) := Lib.hid fun o o' => (fun m => ints_draws (ints_below hy (B0.out o o')) m)
  have HZ : Hid (∀ o o' : Obj, Ints ((w.alloc o).alloc o') z p.c) := Lib.hid fun o o' => (ints_below hz (B0.out o o'))
  have NZ : Hid (∀ o o' : Obj, ∀ m : Nat, Ints (((w.alloc o).alloc o').drewN m) z p.c) := Lib.hid fun o o' => (fun m => ints_draws (ints_below hz (B0.out o o')) m)
  have HX' : Hid (∀ o o' : Obj, Ints ((w.alloc o).alloc o') x' q.s) := Lib.hid fun o o' => (ints_below hx' (B0.out o o'))
  have NX' : Hid (∀ o o' : Obj, ∀ m : Nat, Ints (((w.alloc o).alloc o').drewN m) x' q.s) := Lib.hid fun o o' => (fun m => ints_draws (ints_below hx' (B0.out o o')) m)
  have HY' : Hid (∀ o o' : Obj, Ints ((w.alloc o).alloc o') y' q.b) := Lib.hid fun o o' => (ints_below hy' (B0.out o o'))
  have NY' : Hid (∀ o o' : Obj, ∀ m : Nat, Ints (((w.alloc o).alloc o').drewN m) y' q.b) := Lib.hid fun o o' => (fun m => ints_draws (ints_below hy' (B0.out o o')) m)
  have HZ' : Hid (∀ o o' : Obj, Ints ((w.alloc o).alloc o') z' q.c) := Lib.hid fun o o' => (ints_below hz' (B0.out o o'))
  have NZ' : Hid (∀ o o' : Obj, ∀ m : Nat, Ints (((w.alloc o).alloc o').drewN m) z' q.c) := Lib.hid fun o o' => (fun m => ints_draws (ints_below hz' (B0.out o o')) m)
  have t0 : (p.s == q.s) = true := by rw [beq_iff_eq]; exact h0
  have t1 : (p.b == q.b) = true := by rw [beq_iff_eq]; exact h1
  have t2 : (p.c == q.c) = true := by rw [beq_iff_eq]; exact h2
  have t3 : (p.h == q.h) = false := by rw [beq_eq_false_iff_ne]; exact h3
  clear h0
  clear h1
  clear h2
  clear h3
  clear hx hy hz hx' hy' hz' HU HV
  go_enter Tryz.func172, Tryz.ntmps172
  go_wp2_with (first | (go_at_call 171; (first | (with_reducible refine (sSame_any _ _ p.s q.s _ (by first | exact HX.out _ _ | exact NX.out _ _ _) (by first | exact HX'.out _ _ | exact NX'.out _ _ _)).mono ?_) | (with_reducible refine (sSame_any _ _ p.b q.b _ (by first | exact HY.out _ _ | exact NY.out _ _ _) (by first | exact HY'.out _ _ | exact NY'.out _ _ _)).mono ?_) | (with_reducible refine (sSame_any _ _ p.c q.c _ (by first | exact HZ.out _ _ | exact NZ.out _ _ _) (by first | exact HZ'.out _ _ | exact NZ'.out _ _ _)).mono ?_)); rintro e w' ⟨nn, rfl, rfl⟩; (try simp only [World.drewN_drewN])))
  go_ret
  exact ⟨ret_bool (by simp [*]), by first | exact BB.out _ _ _ | exact B0.out _ _⟩

set_option maxRecDepth 100000 in
set_option maxHeartbeats 2000000 in
theorem sSameD_4 (u v : Value) (p q : Dt) (w : World) (hu : DatIn w u p) (hv : DatIn w v q) (h0 : p.s = q.s) (h1 : p.b = q.b) (h2 : p.c = q.c) (h3 : p.h = q.h) (h4 : ¬ p.n = q.n) :
    Calls Tryz.prog 172 #[u, v] w fun e w' => e = .returned (.bool false) ∧ Below w.heap.size w w' := by
  have HU := hu
  have HV := hv
  obtain ⟨x, y, z, rfl, hx, hy, hz, _⟩ := hu
  obtain ⟨x', y', z', rfl, hx', hy', hz', _⟩ := hv
  have BB : Hid (∀ (o o' : Obj) (n : Nat), Below w.heap.size w (((w.alloc o).alloc o').drewN n)) := Lib.hid fun o o' n => below_drewN (below_alloc (below_alloc (Below.refl _ _) _) _) n
  have B0 : Hid (∀ (o o' : Obj), Below w.heap.size w ((w.alloc o).alloc o')) := Lib.hid fun o o' => below_alloc (below_alloc (Below.refl _ _) _) _
  have HX : Hid (∀ o o' : Obj, Ints ((w.alloc o).alloc o') x p.s) := Lib.hid fun o o' => (ints_below hx (B0.out o o'))
  have NX : Hid (∀ o o' : Obj, ∀ m : Nat, Ints (((w.alloc o).alloc o').drewN m) x p.s) := Lib.hid fun o o' => (fun m => ints_draws (ints_below hx (B0.out o o')) m)
  have HY : Hid (∀ o o' : Obj, Ints ((w.alloc o).alloc o') y p.b) := Lib.hid fun o o' => (ints_below hy (B0.out o o'))
  have NY : Hid (∀ o o' : Obj, ∀ m : Nat, Ints (((w.alloc o).alloc o').drewN m) y p.b) := Lib.hid fun o o' => (fun m => ints_draws (ints_below hy (B0.out o o')) m)
  have HZ : Hid (∀ o o' : Obj, Ints ((w.alloc o).alloc o') z p.c) := Lib.hid fun o o' => (ints_below hz (B0.out o o'))
  have NZ : Hid (∀ o o' : Obj, ∀ m : Nat, Ints (((w.alloc o).alloc o').drewN m) z p.c) := Lib.hid fun o o' => (fun m => ints_draws (ints_below hz (B0.out o o')) m)
  have HX' : Hid (∀ o o' : Obj, Ints ((w.alloc o).alloc o') x' q.s) := Lib.hid fun o o' => (ints_below hx' (B0.out o o'))
  have NX' : Hid (∀ o o' : Obj, ∀ m : Nat, Ints (((w.alloc o).alloc o').drewN m) x' q.s) := Lib.hid fun o o' => (fun m => ints_draws (ints_below hx' (B0.out o o')) m)
  have HY' : Hid (∀ o o' : Obj, Ints ((w.alloc o).alloc o') y' q.b) := Lib.hid fun o o' => (ints_below hy' (B0.out o o'))
  have NY' : Hid (∀ o o' : Obj, ∀ m : Nat, Ints (((w.alloc o).alloc o').drewN m) y' q.b) := Lib.hid fun o o' => (fun m => ints_draws (ints_below hy' (B0.out o o')) m)
  have HZ' : Hid (∀ o o' : Obj, Ints ((w.alloc o).alloc o') z' q.c) := Lib.hid fun o o' => (ints_below hz' (B0.out o o'))
  have NZ' : Hid (∀ o o' : Obj, ∀ m : Nat, Ints (((w.alloc o).alloc o').drewN m) z' q.c) := Lib.hid fun o o' => (fun m => ints_draws (ints_below hz' (B0.out o o')) m)
  have t0 : (p.s == q.s) = true := by rw [beq_iff_eq]; exact h0
  have t1 : (p.b == q.b) = true := by rw [beq_iff_eq]; exact h1
  have t2 : (p.c == q.c) = true := by rw [beq_iff_eq]; exact h2
  have t3 : (p.h == q.h) = true := by rw [beq_iff_eq]; exact h3
  have t4 : (p.n == q.n) = false := by rw [beq_eq_false_iff_ne]; exact h4
  clear h0
  clear h1
  clear h2
  clear h3
  clear h4
  clear hx hy hz hx' hy' hz' HU HV
  go_enter Tryz.func172, Tryz.ntmps172
  go_wp2_with (first | (go_at_call 171; (first | (with_reducible refine (sSame_any _ _ p.s q.s _ (by first | exact HX.out _ _ | exact NX.out _ _ _) (by first | exact HX'.out _ _ | exact NX'.out _ _ _)).mono ?_) | (with_reducible refine (sSame_any _ _ p.b q.b _ (by first | exact HY.out _ _ | exact NY.out _ _ _) (by first | exact HY'.out _ _ | exact NY'.out _ _ _)).mono ?_) | (with_reducible refine (sSame_any _ _ p.c q.c _ (by first | exact HZ.out _ _ | exact NZ.out _ _ _) (by first | exact HZ'.out _ _ | exact NZ'.out _ _ _)).mono ?_)); rintro e w' ⟨nn, rfl, rfl⟩; (try simp only [World.drewN_drewN])))
  go_ret
  exact ⟨ret_bool (by simp [*]), by first | exact BB.out _ _ _ | exact B0.out _ _⟩

set_option maxRecDepth 100000 in
set_option maxHeartbeats 2000000 in
theorem sSameD_5 (u v : Value) (p q : Dt) (w : World) (hu : DatIn w u p) (hv : DatIn w v q) (h0 : p.s = q.s) (h1 : p.b = q.b) (h2 : p.c = q.c) (h3 : p.h = q.h) (h4 : p.n = q.n) (h5 : ¬ p.o.toList = q.o.toList) :
    Calls Tryz.prog 172 #[u, v] w fun e w' => e = .returned (.bool false) ∧ Below w.heap.size w w' := by
  have HU := hu
  have HV := hv
  obtain ⟨x, y, z, rfl, hx, hy, hz, _⟩ := hu
  obtain ⟨x', y', z', rfl, hx', hy', hz', _⟩ := hv
  have BB : Hid (∀ (o o' : Obj) (n : Nat), Below w.heap.size w (((w.alloc o).alloc o').drewN n)) := Lib.hid fun o o' n => below_drewN (below_alloc (below_alloc (Below.refl _ _) _) _) n
  have B0 : Hid (∀ (o o' : Obj), Below w.heap.size w ((w.alloc o).alloc o')) := Lib.hid fun o o' => below_alloc (below_alloc (Below.refl _ _) _) _
  have HX : Hid (∀ o o' : Obj, Ints ((w.alloc o).alloc o') x p.s) := Lib.hid fun o o' => (ints_below hx (B0.out o o'))
  have NX : Hid (∀ o o' : Obj, ∀ m : Nat, Ints (((w.alloc o).alloc o').drewN m) x p.s) := Lib.hid fun o o' => (fun m => ints_draws (ints_below hx (B0.out o o')) m)
  have HY : Hid (∀ o o' : Obj, Ints ((w.alloc o).alloc o') y p.b) := Lib.hid fun o o' => (ints_below hy (B0.out o o'))
  have NY : Hid (∀ o o' : Obj, ∀ m : Nat, Ints (((w.alloc o).alloc o').drewN m) y p.b) := Lib.hid fun o o' => (fun m => ints_draws (ints_below hy (B0.out o o')) m)
  have HZ : Hid (∀ o o' : Obj, Ints ((w.alloc o).alloc o') z p.c) := Lib.hid fun o o' => (ints_below hz (B0.out o o'))
  have NZ : Hid (∀ o o' : Obj, ∀ m : Nat, Ints (((w.alloc o).alloc o').drewN m) z p.c) := Lib.hid fun o o' => (fun m => ints_draws (ints_below hz (B0.out o o')) m)
  have HX' : Hid (∀ o o' : Obj, Ints ((w.alloc o).alloc o') x' q.s) := Lib.hid fun o o' => (ints_below hx' (B0.out o o'))
  have NX' : Hid (∀ o o' : Obj, ∀ m : Nat, Ints (((w.alloc o).alloc o').drewN m) x' q.s) := Lib.hid fun o o' => (fun m => ints_draws (ints_below hx' (B0.out o o')) m)
  have HY' : Hid (∀ o o' : Obj, Ints ((w.alloc o).alloc o') y' q.b) := Lib.hid fun o o' => (ints_below hy' (B0.out o o'))
  have NY' : Hid (∀ o o' : Obj, ∀ m : Nat, Ints (((w.alloc o).alloc o').drewN m) y' q.b) := Lib.hid fun o o' => (fun m => ints_draws (ints_below hy' (B0.out o o')) m)
  have HZ' : Hid (∀ o o' : Obj, Ints ((w.alloc o).alloc o') z' q.c) := Lib.hid fun o o' => (ints_below hz' (B0.out o o'))
  have NZ' : Hid (∀ o o' : Obj, ∀ m : Nat, Ints (((w.alloc o).alloc o').drewN m) z' q.c) := Lib.hid fun o o' => (fun m => ints_draws (ints_below hz' (B0.out o o')) m)
  have t0 : (p.s == q.s) = true := by rw [beq_iff_eq]; exact h0
  have t1 : (p.b == q.b) = true := by rw [beq_iff_eq]; exact h1
  have t2 : (p.c == q.c) = true := by rw [beq_iff_eq]; exact h2
  have t3 : (p.h == q.h) = true := by rw [beq_iff_eq]; exact h3
  have t4 : (p.n == q.n) = true := by rw [beq_iff_eq]; exact h4
  have t5 : (p.o.toList == q.o.toList) = false := by rw [beq_eq_false_iff_ne]; exact h5
  clear h0
  clear h1
  clear h2
  clear h3
  clear h4
  clear h5
  clear hx hy hz hx' hy' hz' HU HV
  go_enter Tryz.func172, Tryz.ntmps172
  go_wp2_with (first | (go_at_call 171; (first | (with_reducible refine (sSame_any _ _ p.s q.s _ (by first | exact HX.out _ _ | exact NX.out _ _ _) (by first | exact HX'.out _ _ | exact NX'.out _ _ _)).mono ?_) | (with_reducible refine (sSame_any _ _ p.b q.b _ (by first | exact HY.out _ _ | exact NY.out _ _ _) (by first | exact HY'.out _ _ | exact NY'.out _ _ _)).mono ?_) | (with_reducible refine (sSame_any _ _ p.c q.c _ (by first | exact HZ.out _ _ | exact NZ.out _ _ _) (by first | exact HZ'.out _ _ | exact NZ'.out _ _ _)).mono ?_)); rintro e w' ⟨nn, rfl, rfl⟩; (try simp only [World.drewN_drewN])))
  go_ret
  exact ⟨ret_bool (by simp [*]), by first | exact BB.out _ _ _ | exact B0.out _ _⟩

set_option maxRecDepth 100000 in
set_option maxHeartbeats 2000000 in
theorem sSameD_6 (u v : Value) (p q : Dt) (w : World) (hu : DatIn w u p) (hv : DatIn w v q) (h0 : p.s = q.s) (h1 : p.b = q.b) (h2 : p.c = q.c) (h3 : p.h = q.h) (h4 : p.n = q.n) (h5 : p.o.toList = q.o.toList) :
    Calls Tryz.prog 172 #[u, v] w fun e w' => e = .returned (.bool true) ∧ Below w.heap.size w w' := by
  have HU := hu
  have HV := hv
  obtain ⟨x, y, z, rfl, hx, hy, hz, _⟩ := hu
  obtain ⟨x', y', z', rfl, hx', hy', hz', _⟩ := hv
  have BB : Hid (∀ (o o' : Obj) (n : Nat), Below w.heap.size w (((w.alloc o).alloc o').drewN n)) := Lib.hid fun o o' n => below_drewN (below_alloc (below_alloc (Below.refl _ _) _) _) n
  have B0 : Hid (∀ (o o' : Obj), Below w.heap.size w ((w.alloc o).alloc o')) := Lib.hid fun o o' => below_alloc (below_alloc (Below.refl _ _) _) _
  have HX : Hid (∀ o o' : Obj, Ints ((w.alloc o).alloc o') x p.s) := Lib.hid fun o o' => (ints_below hx (B0.out o o'))
  have NX : Hid (∀ o o' : Obj, ∀ m : Nat, Ints (((w.alloc o).alloc o').drewN m) x p.s) := Lib.hid fun o o' => (fun m => ints_draws (ints_below hx (B0.out o o')) m)
  have HY : Hid (∀ o o' : Obj, Ints ((w.alloc o).alloc o') y p.b) := Lib.hid fun o o' => (ints_below hy (B0.out o o'))
  have NY : Hid (∀ o o' : Obj, ∀ m : Nat, Ints (((w.alloc o).alloc o').drewN m) y p.b) := Lib.hid fun o o' => (fun m => ints_draws (ints_below hy (B0.out o o')) m)
  have HZ : Hid (∀ o o' : Obj, Ints ((w.alloc o).alloc o') z p.c) := Lib.hid fun o o' => (ints_below hz (B0.out o o'))
  have NZ : Hid (∀ o o' : Obj, ∀ m : Nat, Ints (((w.alloc o).alloc o').drewN m) z p.c) := Lib.hid fun o o' => (fun m => ints_draws (ints_below hz (B0.out o o')) m)
  have HX' : Hid (∀ o o' : Obj, Ints ((w.alloc o).alloc o') x' q.s) := Lib.hid fun o o' => (ints_below hx' (B0.out o o'))
  have NX' : Hid (∀ o o' : Obj, ∀ m : Nat, Ints (((w.alloc o).alloc o').drewN m) x' q.s) := Lib.hid fun o o' => (fun m => ints_draws (ints_below hx' (B0.out o o')) m)
  have HY' : Hid (∀ o o' : Obj, Ints ((w.alloc o).alloc o') y' q.b) := Lib.hid fun o o' => (ints_below hy' (B0.out o o'))
  have NY' : Hid (∀ o o' : Obj, ∀ m : Nat, Ints (((w.alloc o).alloc o').drewN m) y' q.b) := Lib.hid fun o o' => (fun m => ints_draws (ints_below hy' (B0.out o o')) m)
  have HZ' : Hid (∀ o o' : Obj, Ints ((w.alloc o).alloc o') z' q.c) := Lib.hid fun o o' => (ints_below hz' (B0.out o o'))
  have NZ' : Hid (∀ o o' : Obj, ∀ m : Nat, Ints (((w.alloc o).alloc o').drewN m) z' q.c) := Lib.hid fun o o' => (fun m => ints_draws (ints_below hz' (B0.out o o')) m)
  have t0 : (p.s == q.s) = true := by rw [beq_iff_eq]; exact h0
  have t1 : (p.b == q.b) = true := by rw [beq_iff_eq]; exact h1
  have t2 : (p.c == q.c) = true := by rw [beq_iff_eq]; exact h2
  have t3 : (p.h == q.h) = true := by rw [beq_iff_eq]; exact h3
  have t4 : (p.n == q.n) = true := by rw [beq_iff_eq]; exact h4
  have t5 : (p.o.toList == q.o.toList) = true := by rw [beq_iff_eq]; exact h5
  clear h0
  clear h1
  clear h2
  clear h3
  clear h4
  clear h5
  clear hx hy hz hx' hy' hz' HU HV
  go_enter Tryz.func172, Tryz.ntmps172
  go_wp2_with (first | (go_at_call 171; (first | (with_reducible refine (sSame_any _ _ p.s q.s _ (by first | exact HX.out _ _ | exact NX.out _ _ _) (by first | exact HX'.out _ _ | exact NX'.out _ _ _)).mono ?_) | (with_reducible refine (sSame_any _ _ p.b q.b _ (by first | exact HY.out _ _ | exact NY.out _ _ _) (by first | exact HY'.out _ _ | exact NY'.out _ _ _)).mono ?_) | (with_reducible refine (sSame_any _ _ p.c q.c _ (by first | exact HZ.out _ _ | exact NZ.out _ _ _) (by first | exact HZ'.out _ _ | exact NZ'.out _ _ _)).mono ?_)); rintro e w' ⟨nn, rfl, rfl⟩; (try simp only [World.drewN_drewN])))
  go_ret
  exact ⟨ret_bool (by simp [*]), by first | exact BB.out _ _ _ | exact B0.out _ _⟩

theorem sSameD_any (u v : Value) (p q : Dt) (w : World) (hu : DatIn w u p) (hv : DatIn w v q) :
    Calls Tryz.prog 172 #[u, v] w fun e w' => e = .returned (.bool (sameD p q)) ∧ Below w.heap.size w w' := by
  by_cases h0 : p.s = q.s
  rotate_left
  · rw [sameD_not (fun h => h0 h.1)]; exact sSameD_0 u v p q w hu hv h0
  by_cases h1 : p.b = q.b
  rotate_left
  · rw [sameD_not (fun h => h1 h.2.1)]; exact sSameD_1 u v p q w hu hv h0 h1
  by_cases h2 : p.c = q.c
  rotate_left
  · rw [sameD_not (fun h => h2 h.2.2.1)]; exact sSameD_2 u v p q w hu hv h0 h1 h2
  by_cases h3 : p.h = q.h
  rotate_left
  · rw [sameD_not (fun h => h3 h.2.2.2.1)]; exact sSameD_3 u v p q w hu hv h0 h1 h2 h3
  by_cases h4 : p.n = q.n
  rotate_left
  · rw [sameD_not (fun h => h4 h.2.2.2.2.1)]; exact sSameD_4 u v p q w hu hv h0 h1 h2 h3 h4
  by_cases h5 : p.o.toList = q.o.toList
  rotate_left
  · rw [sameD_not (fun h => h5 h.2.2.2.2.2)]; exact sSameD_5 u v p q w hu hv h0 h1 h2 h3 h4 h5
  rw [sameD_of h0 h1 h2 h3 h4 h5]; exact sSameD_6 u v p q w hu hv h0 h1 h2 h3 h4 h5

set_option maxRecDepth 100000 in
set_option maxHeartbeats 2000000 in
theorem iSameV_a (u v : Value) (p q : Dt) (w : World) (hu : DatIn w u p) (hv : DatIn w v q) (hp : dOK p = false) :
    Calls Tryz.prog 21 #[u, v] w fun e w' => e = .returned (.bool false) ∧ Below w.heap.size w w' := by
  have HU := hu
  have HV := hv
  obtain ⟨A1, k1, A2, k2, A3, k3, rfl⟩ := datIn_form hu
  obtain ⟨C1, j1, C2, j2, C3, j3, rfl⟩ := datIn_form hv
  clear hu hv
  go_enter Tryz.func21, Tryz.ntmps21
  go_wp2_with fail
  refine (dataOK_any _ p _ (datIn_below HU (below_alloc (below_alloc (Below.refl _ _) _) _))).mono ?_
  rintro e w1 ⟨rfl, hb⟩
  have B1 : Below w.heap.size w w1 := below_step (below_alloc (below_alloc (Below.refl _ _) _) _) hb
  have Y1 := whole_b hb (whole_new1 w _ _ _)
  clear hb
  go_wp2
  go_ret
  exact ⟨rfl, B1⟩

set_option maxRecDepth 100000 in
set_option maxHeartbeats 2000000 in
theorem iSameV_b (u v : Value) (p q : Dt) (w : World) (hu : DatIn w u p) (hv : DatIn w v q) (hp : dOK p = true) (hq : dOK q = false) :
    Calls Tryz.prog 21 #[u, v] w fun e w' => e = .returned (.bool false) ∧ Below w.heap.size w w' := by
  have HU := hu
  have HV := hv
  obtain ⟨A1, k1, A2, k2, A3, k3, rfl⟩ := datIn_form hu
  obtain ⟨C1, j1, C2, j2, C3, j3, rfl⟩ := datIn_form hv
  clear hu hv
  go_enter Tryz.func21, Tryz.ntmps21
  go_wp2_with fail
  refine (dataOK_any _ p _ (datIn_below HU (below_alloc (below_alloc (Below.refl _ _) _) _))).mono ?_
  rintro e w1 ⟨rfl, hb⟩
  have B1 : Below w.heap.size w w1 := below_step (below_alloc (below_alloc (Below.refl _ _) _) _) hb
  have Y1 := whole_b hb (whole_new1 w _ _ _)
  clear hb
  obtain ⟨c0, c1, c2, c3, c4, c5⟩ := six_cells Y1
  go_wp2_with fail
  clear c0 c1 c2 c3 c4 c5
  refine (dataOK_any _ q _ (datIn_below HV B1)).mono ?_
  rintro e w2 ⟨rfl, hb⟩
  have B2 := below_step B1 hb
  clear hb
  go_wp2
  go_ret
  exact ⟨rfl, B2⟩

set_option maxRecDepth 100000 in
set_option maxHeartbeats 2000000 in
theorem iSameD_0 (u v : Value) (p q : Dt) (w : World) (hu : DatIn w u p) (hv : DatIn w v q) (hp : dOK p = true) (hq : dOK q = true) (h0 : ¬ p.s = q.s) :
    Calls Tryz.prog 21 #[u, v] w fun e w' => e = .returned (.bool false) ∧ Below w.heap.size w w' := by
  have HU := hu
  have HV := hv
  obtain ⟨A1, k1, A2, k2, A3, k3, rfl⟩ := datIn_form hu
  obtain ⟨C1, j1, C2, j2, C3, j3, rfl⟩ := datIn_form hv
  clear hu hv
  have t0 : (p.s == q.s) = false := by rw [beq_eq_false_iff_ne]; exact h0
  clear h0
  go_enter Tryz.func21, Tryz.ntmps21
  go_wp2_with fail
  refine (dataOK_any _ p _ (datIn_below HU (below_alloc (below_alloc (Below.refl _ _) _) _))).mono ?_
  rintro e w1 ⟨rfl, hb⟩
  have B1 : Below w.heap.size w w1 := below_step (below_alloc (below_alloc (Below.refl _ _) _) _) hb
  have V1 := whole_b hb (whole_alloc (whole_new w _ _) _)
  have Y1 := whole_b hb (whole_new1 w _ _ _)
  clear hb
  obtain ⟨c0, c1, c2, c3, c4, c5⟩ := six_cells Y1
  go_wp2_with fail
  clear c0 c1 c2 c3 c4 c5
  refine (dataOK_any _ q _ (datIn_below HV B1)).mono ?_
  rintro e w2 ⟨rfl, hb⟩
  have B2 := below_step B1 hb
  have V2 := whole_b hb V1
  have Y2 := whole_b hb Y1
  clear hb V1 Y1 B1
  have BB : Hid (∀ n, Below w.heap.size w (w2.drewN n)) := Lib.hid fun n => below_drewN B2 n
  obtain ⟨x, y, z, he, hx, hy, hz, _⟩ := datIn_below HU B2
  simp only [Value.agg.injEq, Array.mk.injEq, List.cons.injEq, and_true, true_and] at he
  obtain ⟨rfl, rfl, rfl⟩ := he
  obtain ⟨x', y', z', he, hx', hy', hz', _⟩ := datIn_below HV B2
  simp only [Value.agg.injEq, Array.mk.injEq, List.cons.injEq, and_true, true_and] at he
  obtain ⟨rfl, rfl, rfl⟩ := he
  have HX := Lib.hid hx
  have NX : Hid (∀ m : Nat, Ints (w2.drewN m) _ p.s) := Lib.hid fun m => ints_draws hx m
  have HY := Lib.hid hy
  have NY : Hid (∀ m : Nat, Ints (w2.drewN m) _ p.b) := Lib.hid fun m => ints_draws hy m
  have HZ := Lib.hid hz
  have NZ : Hid (∀ m : Nat, Ints (w2.drewN m) _ p.c) := Lib.hid fun m => ints_draws hz m
  have HX' := Lib.hid hx'
  have NX' : Hid (∀ m : Nat, Ints (w2.drewN m) _ q.s) := Lib.hid fun m => ints_draws hx' m
  have HY' := Lib.hid hy'
  have NY' : Hid (∀ m : Nat, Ints (w2.drewN m) _ q.b) := Lib.hid fun m => ints_draws hy' m
  have HZ' := Lib.hid hz'
  have NZ' : Hid (∀ m : Nat, Ints (w2.drewN m) _ q.c) := Lib.hid fun m => ints_draws hz' m
  clear hx hy hz hx' hy' hz'
  obtain ⟨c0, c1, c2, c3, c4, c5⟩ := six_cells Y2
  obtain ⟨d0, d1, d2, d3, d4, d5⟩ := six_cells V2
  go_wp2_with (first | (go_at_call 67; (first | (with_reducible refine (slEqual_any _ _ p.s q.s _ (by first | exact HX.out | exact NX.out _) (by first | exact HX'.out | exact NX'.out _)).mono ?_) | (with_reducible refine (slEqual_any _ _ p.b q.b _ (by first | exact HY.out | exact NY.out _) (by first | exact HY'.out | exact NY'.out _)).mono ?_) | (with_reducible refine (slEqual_any _ _ p.c q.c _ (by first | exact HZ.out | exact NZ.out _) (by first | exact HZ'.out | exact NZ'.out _)).mono ?_)); rintro e w' ⟨nn, rfl, rfl⟩; (try simp only [World.drewN_drewN])))
  go_ret
  exact ⟨ret_bool (by simp [*]), by first | exact BB.out _ | exact B2⟩

set_option maxRecDepth 100000 in
set_option maxHeartbeats 2000000 in
theorem iSameD_1 (u v : Value) (p q : Dt) (w : World) (hu : DatIn w u p) (hv : DatIn w v q) (hp : dOK p = true) (hq : dOK q = true) (h0 : p.s = q.s) (h1 : ¬ p.b = q.b) :
    Calls Tryz.prog 21 #[u, v] w fun e w' => e = .returned (.bool false) ∧ Below w.heap.size w w' := by
  have HU := hu
  have HV := hv
  obtain ⟨A1, k1, A2, k2, A3, k3, rfl⟩ := datIn_form hu
  obtain ⟨C1, j1, C2, j2, C3, j3, rfl⟩ := datIn_form hv
  clear hu hv
  have t0 : (p.s == q.s) = true := by rw [beq_iff_eq]; exact h0
  have t1 : (p.b == q.b) = false := by rw [beq_eq_false_iff_ne]; exact h1
  clear h0
  clear h1
  go_enter Tryz.func21, Tryz.ntmps21
  go_wp2_with fail
  refine (dataOK_any _ p _ (datIn_below HU (below_alloc (below_alloc (Below.refl _ _) _) _))).mono ?_
  rintro e w1 ⟨rfl, hb⟩
  have B1 : Below w.heap.size w w1 := below_step (below_alloc (below_alloc (Below.refl _ _) _) _) hb
  have V1 := whole_b hb (whole_alloc (whole_new w _ _) _)
  have Y1 := whole_b hb (whole_new1 w _ _ _)
  clear hb
  obtain ⟨c0, c1, c2, c3, c4, c5⟩ := six_cells Y1
  go_wp2_with fail
  clear c0 c1 c2 c3 c4 c5
  refine (dataOK_any _ q _ (datIn_below HV B1)).mono ?_
  rintro e w2 ⟨rfl, hb⟩
  have B2 := below_step B1 hb
  have V2 := whole_b hb V1
  have Y2 := whole_b hb Y1
  clear hb V1 Y1 B1
  have BB : Hid (∀ n, Below w.heap.size w (w2.drewN n)) := Lib.hid fun n => below_drewN B2 n
  obtain ⟨x, y, z, he, hx, hy, hz, _⟩ := datIn_below HU B2
  simp only [Value.agg.injEq, Array.mk.injEq, List.cons.injEq, and_true, true_and] at he
  obtain ⟨rfl, rfl, rfl⟩ := he
  obtain ⟨x', y', z', he, hx', hy', hz', _⟩ := datIn_below HV B2
  simp only [Value.agg.injEq, Array.mk.injEq, List.cons.injEq, and_true, true_and] at he
  obtain ⟨rfl, rfl, rfl⟩ := he
  have HX := Lib.hid hx
  have NX : Hid (∀ m : Nat, Ints (w2.drewN m) _ p.s) := Lib.hid fun m => ints_draws hx m
  have HY := Lib.hid hy
  have NY : Hid (∀ m : Nat, Ints (w2.drewN m) _ p.b) := Lib.hid fun m => ints_draws hy m
  have HZ := Lib.hid hz
  have NZ : Hid (∀ m : Nat, Ints (w2.drewN m) _ p.c) := Lib.hid fun m => ints_draws hz m
  have HX' := Lib.hid hx'
  have NX' : Hid (∀ m : Nat, Ints (w2.drewN m) _ q.s) := Lib.hid fun m => ints_draws hx' m
  have HY' := Lib.hid hy'
  have NY' : Hid (∀ m : Nat, Ints (w2.drewN m) _ q.b) := Lib.hid fun m => ints_draws hy' m
  have HZ' := Lib.hid hz'
  have NZ' : Hid (∀ m : Nat, Ints (w2.drewN m) _ q.c) := Lib.hid fun m => ints_draws hz' m
  clear hx hy hz hx' hy' hz'
  obtain ⟨c0, c1, c2, c3, c4, c5⟩ := six_cells Y2
  obtain ⟨d0, d1, d2, d3, d4, d5⟩ := six_cells V2
  go_wp2_with (first | (go_at_call 67; (first | (with_reducible refine (slEqual_any _ _ p.s q.s _ (by first | exact HX.out | exact NX.out _) (by first | exact HX'.out | exact NX'.out _)).mono ?_) | (with_reducible refine (slEqual_any _ _ p.b q.b _ (by first | exact HY.out | exact NY.out _) (by first | exact HY'.out | exact NY'.out _)).mono ?_) | (with_reducible refine (slEqual_any _ _ p.c q.c _ (by first | exact HZ.out | exact NZ.out _) (by first | exact HZ'.out | exact NZ'.out _)).mono ?_)); rintro e w' ⟨nn, rfl, rfl⟩; (try simp only [World.drewN_drewN])))
  go_ret
  exact ⟨ret_bool (by simp [*]), by first | exact BB.out _ | exact B2⟩

set_option maxRecDepth 100000 in
set_option maxHeartbeats 2000000 in
theorem iSameD_2 (u v : Value) (p q : Dt) (w : World) (hu : DatIn w u p) (hv : DatIn w v q) (hp : dOK p = true) (hq : dOK q = true) (h0 : p.s = q.s) (h1 : p.b = q.b) (h2 : ¬ p.c = q.c) :
    Calls Tryz.prog 21 #[u, v] w fun e w' => e = .returned (.bool false) ∧ Below w.heap.size w w' := by
  have HU := hu
  have HV := hv
  obtain ⟨A1, k1, A2, k2, A3, k3, rfl⟩ := datIn_form hu
  obtain ⟨C1, j1, C2, j2, C3, j3, rfl⟩ := datIn_form hv
  clear hu hv
  have t0 : (p.s == q.s) = true := by rw [beq_iff_eq]; exact h0
  have t1 : (p.b == q.b) = true := by rw [beq_iff_eq]; exact h1
  have t2 : (p.c == q.c) = false := by rw [beq_eq_false_iff_ne]; exact h2
  clear h0
  clear h1
  clear h2
  go_enter Tryz.func21, Tryz.ntmps21
  go_wp2_with fail
  refine (dataOK_any _ p _ (datIn_below HU (below_alloc (below_alloc (Below.refl _ _) _) _))).mono ?_
  rintro e w1 ⟨rfl, hb⟩
  have B1 : Below w.heap.size w w1 := below_step (below_alloc (below_alloc (Below.refl _ _) _) _) hb
  have V1 := whole_b hb (whole_alloc (whole_new w _ _) _)
  have Y1 := whole_b hb (whole_new1 w _ _ _)
  clear hb
  obtain ⟨c0, c1, c2, c3, c4, c5⟩ := six_cells Y1
  go_wp2_with fail
  clear c0 c1 c2 c3 c4 c5
  refine (dataOK_any _ q _ (datIn_below HV B1)).mono ?_
  rintro e w2 ⟨rfl, hb⟩
  have B2 := below_step B1 hb
  have V2 := whole_b hb V1
  have Y2 := whole_b hb Y1
  clear hb V1 Y1 B1
  have BB : Hid (∀ n, Below w.heap.size w (w2.drewN n)) := Lib.hid fun n => below_drewN B2 n
  obtain ⟨x, y, z, he, hx, hy, hz, _⟩ := datIn_below HU B2
  simp only [Value.agg.injEq, Array.mk.injEq, List.cons.injEq, and_true, true_and] at he
  obtain ⟨rfl, rfl, rfl⟩ := he
  obtain ⟨x', y', z', he, hx', hy', hz', _⟩ := datIn_below HV B2
  simp only [Value.agg.injEq, Array.mk.injEq, List.cons.injEq, and_true, true_and] at he
  obtain ⟨rfl, rfl, rfl⟩ := he
  have HX := Lib.hid hx
  have NX : Hid (∀ m : Nat, Ints (w2.drewN m) _ p.s) := Lib.hid fun m => ints_draws hx m
  have HY := Lib.hid hy
  have NY : Hid (∀ m : Nat, Ints (w2.drewN m) _ p.b) := Lib.hid fun m => ints_draws hy m
  have HZ := Lib.hid hz
  have NZ : Hid (∀ m : Nat, Ints (w2.drewN m) _ p.c) := Lib.hid fun m => ints_draws hz m
  have HX' := Lib.hid hx'
  have NX' : Hid (∀ m : Nat, Ints (w2.drewN m) _ q.s) := Lib.hid fun m => ints_draws hx' m
  have HY' := Lib.hid hy'
  have NY' : Hid (∀ m : Nat, Ints (w2.drewN m) _ q.b) := Lib.hid fun m => ints_draws hy' m
  have HZ' := Lib.hid hz'
  have NZ' : Hid (∀ m : Nat, Ints (w2.drewN m) _ q.c) := Lib.hid fun m => ints_draws hz' m
  clear hx hy hz hx' hy' hz'
  obtain ⟨c0, c1, c2, c3, c4, c5⟩ := six_cells Y2
  obtain ⟨d0, d1, d2, d3, d4, d5⟩ := six_cells V2
  go_wp2_with (first | (go_at_call 67; (first | (with_reducible refine (slEqual_any _ _ p.s q.s _ (by first | exact HX.out | exact NX.out _) (by first | exact HX'.out | exact NX'.out _)).mono ?_) | (with_reducible refine (slEqual_any _ _ p.b q.b _ (by first | exact HY.out | exact NY.out _) (by first | exact HY'.out | exact NY'.out _)).mono ?_) | (with_reducible refine (slEqual_any _ _ p.c q.c _ (by first | exact HZ.out | exact NZ.out _) (by first | exact HZ'.out | exact NZ'.out _)).mono ?_)); rintro e w' ⟨nn, rfl, rfl⟩; (try simp only [World.drewN_drewN])))
  go_ret
  exact ⟨ret_bool (by simp [*]), by first | exact BB.out _ | exact B2⟩

set_option maxRecDepth 100000 in
set_option maxHeartbeats 2000000 in
theorem iSameD_3 (u v : Value) (p q : Dt) (w : World) (hu : DatIn w u p) (hv : DatIn w v q) (hp : dOK p = true) (hq : dOK q = true) (h0 : p.s = q.s) (h1 : p.b = q.b) (h2 : p.c = q.c) (h3 : ¬ p.h = q.h) :
    Calls Tryz.prog 21 #[u, v] w fun e w' => e = .returned (.bool false) ∧ Below w.heap.size w w' := by
  have HU := hu
  have HV := hv
  obtain ⟨A1, k1, A2, k2, A3, k3, rfl⟩ := datIn_form hu
  obtain ⟨C1, j1, C2, j2, C3, j3, rfl⟩ := datIn_form hv
  clear hu hv
  have t0 : (p.s == q.s) = true := by rw [beq_iff_eq]; exact h0
  have t1 : (p.b == q.b) = true := by rw [beq_iff_eq]; exact h1
  have t2 : (p.c == q.c) = true := by rw [beq_iff_eq]; exact h2
  have t3 : (p.h == q.h) = false := by rw [beq_eq_false_iff_ne]; exact h3
  clear h0
  clear h1
  clear h2
  clear h3
  go_enter Tryz.func21, Tryz.ntmps21
  go_wp2_with fail
  refine (dataOK_any _ p _ (datIn_below HU (below_alloc (below_alloc (Below.refl _ _) _) _))).mono ?_
  rintro e w1 ⟨rfl, hb⟩
  have B1 : Below w.heap.size w w1 := below_step (below_alloc (below_alloc (Below.refl _ _) _) _) hb
  have V1 := whole_b hb (whole_alloc (whole_new w _ _) _)
  have Y1 := whole_b hb (whole_new1 w _ _ _)
  clear hb
  obtain ⟨c0, c1, c2, c3, c4, c5⟩ := six_cells Y1
  go_wp2_with fail
  clear c0 c1 c2 c3 c4 c5
  refine (dataOK_any _ q _ (datIn_below HV B1)).mono ?_
  rintro e w2 ⟨rfl, hb⟩
  have B2 := below_step B1 hb
  have V2 := whole_b hb V1
  have Y2 := whole_b hb Y1
  clear hb V1 Y1 B1
  have BB : Hid (∀ n, Below w.heap.size w (w2.drewN n)) := Lib.hid fun n => below_drewN B2 n
  obtain ⟨x, y, z, he, hx, hy, hz, _⟩ := datIn_below HU B2
  simp only [Value.agg.injEq, Array.mk.injEq, List.cons.injEq, and_true, true_and] at he
  obtain ⟨rfl, rfl, rfl⟩ := he
  obtain ⟨x', y', z', he, hx', hy', hz', _⟩ := datIn_below HV B2
  simp only [Value.agg.injEq, Array.mk.injEq, List.cons.injEq, and_true, true_and] at he
  obtain ⟨rfl, rfl, rfl⟩ := he
  have HX := Lib.hid hx
  have NX : Hid (∀ m : Nat, Ints (w2.drewN m) _ p.s) := Lib.hid fun m => ints_draws hx m
  have HY := Lib.hid hy
  have NY : Hid (∀ m : Nat, Ints (w2.drewN m) _ p.b) := Lib.hid fun m => ints_draws hy m
  have HZ := Lib.hid hz
  have NZ : Hid (∀ m : Nat, Ints (w2.drewN m) _ p.c) := Lib.hid fun m => ints_draws hz m
  have HX' := Lib.hid hx'
  have NX' : Hid (∀ m : Nat, Ints (w2.drewN m) _ q.s) := Lib.hid fun m => ints_draws hx' m
  have HY' := Lib.hid hy'
  have NY' : Hid (∀ m : Nat, Ints (w2.drewN m) _ q.b) := Lib.hid fun m => ints_draws hy' m
  have HZ' := Lib.hid hz'
  have NZ' : Hid (∀ m : Nat, Ints (w2.drewN m) _ q.c) := Lib.hid fun m => ints_draws hz' m
  clear hx hy hz hx' hy' hz'
  obtain ⟨c0, c1, c2, c3, c4, c5⟩ := six_cells Y2
  obtain ⟨d0, d1, d2, d3, d4, d5⟩ := six_cells V2
  go_wp2_with (first | (go_at_call 67; (first | (with_reducible refine (slEqual_any _ _ p.s q.s _ (by first | exact HX.out | exact NX.out _) (by first | exact HX'.out | exact NX'.out _)).mono ?_) | (with_reducible refine (slEqual_any _ _ p.b q.b _ (by first | exact HY.out | exact NY.out _) (by first | exact HY'.out | exact NY'.out _)).mono ?_) | (with_reducible refine (slEqual_any _ _ p.c q.c _ (by first | exact HZ.out | exact NZ.out _) (by first | exact HZ'.out | exact NZ'.out _)).mono ?_)); rintro e w' ⟨nn, rfl, rfl⟩; (try simp only [World.drewN_drewN])))
  go_ret
  exact ⟨ret_bool (by simp [*]), by first | exact BB.out _ | exact B2⟩

set_option maxRecDepth 100000 in
set_option maxHeartbeats 2000000 in
theorem iSameD_4 (u v : Value) (p q : Dt) (w : World) (hu : DatIn w u p) (hv : DatIn w v q) (hp : dOK p = true) (hq : dOK q = true) (h0 : p.s = q.s) (h1 : p.b = q.b) (h2 : p.c = q.c) (h3 : p.h = q.h) (h4 : ¬ p.n = q.n) :
    Calls Tryz.prog 21 #[u, v] w fun e w' => e = .returned (.bool false) ∧ Below w.heap.size w w' := by
  have HU := hu
  have HV := hv
  obtain ⟨A1, k1, A2, k2, A3, k3, rfl⟩ := datIn_form hu
  obtain ⟨C1, j1, C2, j2, C3, j3, rfl⟩ := datIn_form hv
  clear hu hv
  have t0 : (p.s == q.s) = true := by rw [beq_iff_eq]; exact h0
  have t1 : (p.b == q.b) = true := by rw [beq_iff_eq]; exact h1
  have t2 : (p.c == q.c) = true := by rw [beq_iff_eq]; exact h2
  have t3 : (p.h == q.h) = true := by rw [beq_iff_eq]; exact h3
  have t4 : (p.n == q.n) = false := by rw [beq_eq_false_iff_ne]; exact h4
  clear h0
  clear h1
  clear h2
  clear h3
  clear h4
  go_enter Tryz.func21, Tryz.ntmps21
  go_wp2_with fail
  refine (dataOK_any _ p _ (datIn_below HU (below_alloc (below_alloc (Below.refl _ _) _) _))).mono ?_
  rintro e w1 ⟨rfl, hb⟩
  have B1 : Below w.heap.size w w1 := below_step (below_alloc (below_alloc (Below.refl _ _) _) _) hb
  have V1 := whole_b hb (whole_alloc (whole_new w _ _) _)
  have Y1 := whole_b hb (whole_new1 w _ _ _)
  clear hb
  obtain ⟨c0, c1, c2, c3, c4, c5⟩ := six_cells Y1
  go_wp2_with fail
  clear c0 c1 c2 c3 c4 c5
  refine (dataOK_any _ q _ (datIn_below HV B1)).mono ?_
  rintro e w2 ⟨rfl, hb⟩
  have B2 := below_step B1 hb
  have V2 := whole_b hb V1
  have Y2 := whole_b hb Y1
  clear hb V1 Y1 B1
  have BB : Hid (∀ n, Below w.heap.size w (w2.drewN n)) := Lib.hid fun n => below_drewN B2 n
  obtain ⟨x, y, z, he, hx, hy, hz, _⟩ := datIn_below HU B2
  simp only [Value.agg.injEq, Array.mk.injEq, List.cons.injEq, and_true, true_and] at he
  obtain ⟨rfl, rfl, rfl⟩ := he
  obtain ⟨x', y', z', he, hx', hy', hz', _⟩ := datIn_below HV B2
  simp only [Value.agg.injEq, Array.mk.injEq, List.cons.injEq, and_true, true_and] at he
  obtain ⟨rfl, rfl, rfl⟩ := he
  have HX := Lib.hid hx
  have NX : Hid (∀ m : Nat, Ints (w2.drewN m) _ p.s) := Lib.hid fun m => ints_draws hx m
  have HY := Lib.hid hy
  have NY : Hid (∀ m : Nat, Ints (w2.drewN m) _ p.b) := Lib.hid fun m => ints_draws hy m
  have HZ := Lib.hid hz
  have NZ : Hid (∀ m : Nat, Ints (w2.drewN m) _ p.c) := Lib.hid fun m => ints_draws hz m
  have HX' := Lib.hid hx'
  have NX' : Hid (∀ m : Nat, Ints (w2.drewN m) _ q.s) := Lib.hid fun m => ints_draws hx' m
  have HY' := Lib.hid hy'
  have NY' : Hid (∀ m : Nat, Ints (w2.drewN m) _ q.b) := Lib.hid fun m => ints_draws hy' m
  have HZ' := Lib.hid hz'
  have NZ' : Hid (∀ m : Nat, Ints (w2.drewN m) _ q.c) := Lib.hid fun m => ints_draws hz' m
  clear hx hy hz hx' hy' hz'
  obtain ⟨c0, c1, c2, c3, c4, c5⟩ := six_cells Y2
  obtain ⟨d0, d1, d2, d3, d4, d5⟩ := six_cells V2
  go_wp2_with (first | (go_at_call 67; (first | (with_reducible refine (slEqual_any _ _ p.s q.s _ (by first | exact HX.out | exact NX.out _) (by first | exact HX'.out | exact NX'.out _)).mono ?_) | (with_reducible refine (slEqual_any _ _ p.b q.b _ (by first | exact HY.out | exact NY.out _) (by first | exact HY'.out | exact NY'.out _)).mono ?_) | (with_reducible refine (slEqual_any _ _ p.c q.c _ (by first | exact HZ.out | exact NZ.out _) (by first | exact HZ'.out | exact NZ'.out _)).mono ?_)); rintro e w' ⟨nn, rfl, rfl⟩; (try simp only [World.drewN_drewN])))
  go_ret
  exact ⟨ret_bool (by simp [*]), by first | exact BB.out _ | exact B2⟩

set_option maxRecDepth 100000 in
set_option maxHeartbeats 2000000 in
theorem iSameD_5 (u v : Value) (p q : Dt) (w : World) (hu : DatIn w u p) (hv : DatIn w v q) (hp : dOK p = true) (hq : dOK q = true) (h0 : p.s = q.s) (h1 : p.b = q.b) (h2 : p.c = q.c) (h3 : p.h = q.h) (h4 : p.n = q.n) (h5 : ¬ p.o.toList = q.o.toList) :
    Calls Tryz.prog 21 #[u, v] w fun e w' => e = .returned (.bool false) ∧ Below w.heap.size w w' := by
  have HU := hu
  have HV := hv
  obtain ⟨A1, k1, A2, k2, A3, k3, rfl⟩ := datIn_form hu
  obtain ⟨C1, j1, C2, j2, C3, j3, rfl⟩ := datIn_form hv
  clear hu hv
  have t0 : (p.s == q.s) = true := by rw [beq_iff_eq]; exact h0
  have t1 : (p.b == q.b) = true := by rw [beq_iff_eq]; exact h1
  have t2 : (p.c == q.c) = true := by rw [beq_iff_eq]; exact h2
  have t3 : (p.h == q.h) = true := by rw [beq_iff_eq]; exact h3
  have t4 : (p.n == q.n) = true := by rw [beq_iff_eq]; exact h4
  have t5 : (p.o.toList == q.o.toList) = false := by rw [beq_eq_false_iff_ne]; exact h5
  clear h0
  clear h1
  clear h2
  clear h3
  clear h4
  clear h5
  go_enter Tryz.func21, Tryz.ntmps21
  go_wp2_with fail
  refine (dataOK_any _ p _ (datIn_below HU (below_alloc (below_alloc (Below.refl _ _) _) _))).mono ?_
  rintro e w1 ⟨rfl, hb⟩
  have B1 : Below w.heap.size w w1 := below_step (below_alloc (below_alloc (Below.refl _ _) _) _) hb
  have V1 := whole_b hb (whole_alloc (whole_new w _ _) _)
  have Y1 := whole_b hb (whole_new1 w _ _ _)
  clear hb
  obtain ⟨c0, c1, c2, c3, c4, c5⟩ := six_cells Y1
  go_wp2_with fail
  clear c0 c1 c2 c3 c4 c5
  refine (dataOK_any _ q _ (datIn_below HV B1)).mono ?_
  rintro e w2 ⟨rfl, hb⟩
  have B2 := below_step B1 hb
  have V2 := whole_b hb V1
  have Y2 := whole_b hb Y1
  clear hb V1 Y1 B1
  have BB : Hid (∀ n, Below w.heap.size w (w2.drewN n)) := Lib.hid fun n => below_drewN B2 n
  obtain ⟨x, y, z, he, hx, hy, hz, _⟩ := datIn_below HU B2
  simp only [Value.agg.injEq, Array.mk.injEq, List.cons.injEq, and_true, true_and] at he
  obtain ⟨rfl, rfl, rfl⟩ := he
  obtain ⟨x', y', z', he, hx', hy', hz', _⟩ := datIn_below HV B2
  simp only [Value.agg.injEq, Array.mk.injEq, List.cons.injEq, and_true, true_and] at he
  obtain ⟨rfl, rfl, rfl⟩ := he
  have HX := Lib.hid hx
  have NX : Hid (∀ m : Nat, Ints (w2.drewN m) _ p.s) := Lib.hid fun m => ints_draws hx m
  have HY := Lib.hid hy
  have NY : Hid (∀ m : Nat, Ints (w2.drewN m) _ p.b) := Lib.hid fun m => ints_draws hy m
  have HZ := Lib.hid hz
  have NZ : Hid (∀ m : Nat, Ints (w2.drewN m) _ p.c) := Lib.hid fun m => ints_draws hz m
  have HX' := Lib.hid hx'
  have NX' : Hid (∀ m : Nat, Ints (w2.drewN m) _ q.s) := Lib.hid fun m => ints_draws hx' m
  have HY' := Lib.hid hy'
  have NY' : Hid (∀ m : Nat, Ints (w2.drewN m) _ q.b) := Lib.hid fun m => ints_draws hy' m
  have HZ' := Lib.hid hz'
  have NZ' : Hid (∀ m : Nat, Ints (w2.drewN m) _ q.c) := Lib.hid fun m => ints_draws hz' m
  clear hx hy hz hx' hy' hz'
  obtain ⟨c0, c1, c2, c3, c4, c5⟩ := six_cells Y2
  obtain ⟨d0, d1, d2, d3, d4, d5⟩ := six_cells V2
  go_wp2_with (first | (go_at_call 67; (first | (with_reducible refine (slEqual_any _ _ p.s q.s _ (by first | exact HX.out | exact NX.out _) (by first | exact HX'.out | exact NX'.out _)).mono ?_) | (with_reducible refine (slEqual_any _ _ p.b q.b _ (by first | exact HY.out | exact NY.out _) (by first | exact HY'.out | exact NY'.out _)).mono ?_) | (with_reducible refine (slEqual_any _ _ p.c q.c _ (by first | exact HZ.out | exact NZ.out _) (by first | exact HZ'.out | exact NZ'.out _)).mono ?_)); rintro e w' ⟨nn, rfl, rfl⟩; (try simp only [World.drewN_drewN])))
  go_ret
  exact ⟨ret_bool (by simp [*]), by first | exact BB.out _ | exact B2⟩

set_option maxRecDepth 100000 in
set_option maxHeartbeats 2000000 in
theorem iSameD_6 (u v : Value) (p q : Dt) (w : World) (hu : DatIn w u p) (hv : DatIn w v q) (hp : dOK p = true) (hq : dOK q = true) (h0 : p.s = q.s) (h1 : p.b = q.b) (h2 : p.c = q.c) (h3 : p.h = q.h) (h4 : p.n = q.n) (h5 : p.o.toList = q.o.toList) :
    Calls Tryz.prog 21 #[u, v] w fun e w' => e = .returned (.bool true) ∧ Below w.heap.size w w' := by
  have HU := hu
  have HV := hv
  obtain ⟨A1, k1, A2, k2, A3, k3, rfl⟩ := datIn_form hu
  obtain ⟨C1, j1, C2, j2, C3, j3, rfl⟩ := datIn_form hv
  clear hu hv
  have t0 : (p.s == q.s) = true := by rw [beq_iff_eq]; exact h0
  have t1 : (p.b == q.b) = true := by rw [beq_iff_eq]; exact h1
  have t2 : (p.c == q.c) = true := by rw [beq_iff_eq]; exact h2
  have t3 : (p.h == q.h) = true := by rw [beq_iff_eq]; exact h3
  have t4 : (p.n == q.n) = true := by rw [beq_iff_eq]; exact h4
  have t5 : (p.o.toList == q.o.toList) = true := by rw [beq_iff_eq]; exact h5
  clear h0
  clear h1
  clear h2
  clear h3
  clear h4
  clear h5
  go_enter Tryz.func21, Tryz.ntmps21
  go_wp2_with fail
  refine (dataOK_any _ p _ (datIn_below HU (below_alloc (below_alloc (Below.refl _ _) _) _))).mono ?_
  rintro e w1 ⟨rfl, hb⟩
  have B1 : Below w.heap.size w w1 := below_step (below_alloc (below_alloc (Below.refl _ _) _) _) hb
  have V1 := whole_b hb (whole_alloc (whole_new w _ _) _)
  have Y1 := whole_b hb (whole_new1 w _ _ _)
  clear hb
  obtain ⟨c0, c1, c2, c3, c4, c5⟩ := six_cells Y1
  go_wp2_with fail
  clear c0 c1 c2 c3 c4 c5
  refine (dataOK_any _ q _ (datIn_below HV B1)).mono ?_
  rintro e w2 ⟨rfl, hb⟩
  have B2 := below_step B1 hb
  have V2 := whole_b hb V1
  have Y2 := whole_b hb Y1
  clear hb V1 Y1 B1
  have BB : Hid (∀ n, Below w.heap.size w (w2.drewN n)) := Lib.hid fun n => below_drewN B2 n
  obtain ⟨x, y, z, he, hx, hy, hz, _⟩ := datIn_below HU B2
  simp only [Value.agg.injEq, Array.mk.injEq, List.cons.injEq, and_true, true_and] at he
  obtain ⟨rfl, rfl, rfl⟩ := he
  obtain ⟨x', y', z', he, hx', hy', hz', _⟩ := datIn_below HV B2
  simp only [Value.agg.injEq, Array.mk.injEq, List.cons.injEq, and_true, true_and] at he
  obtain ⟨rfl, rfl, rfl⟩ := he
  have HX := Lib.hid hx
  have NX : Hid (∀ m : Nat, Ints (w2.drewN m) _ p.s) := Lib.hid fun m => ints_draws hx m
  have HY := Lib.hid hy
  have NY : Hid (∀ m : Nat, Ints (w2.drewN m) _ p.b) := Lib.hid fun m => ints_draws hy m
  have HZ := Lib.hid hz
  have NZ : Hid (∀ m : Nat, Ints (w2.drewN m) _ p.c) := Lib.hid fun m => ints_draws hz m
  have HX' := Lib.hid hx'
  have NX' : Hid (∀ m : Nat, Ints (w2.drewN m) _ q.s) := Lib.hid fun m => ints_draws hx' m
  have HY' := Lib.hid hy'
  have NY' : Hid (∀ m : Nat, Ints (w2.drewN m) _ q.b) := Lib.hid fun m => ints_draws hy' m
  have HZ' := Lib.hid hz'
  have NZ' : Hid (∀ m : Nat, Ints (w2.drewN m) _ q.c) := Lib.hid fun m => ints_draws hz' m
  clear hx hy hz hx' hy' hz'
  obtain ⟨c0, c1, c2, c3, c4, c5⟩ := six_cells Y2
  obtain ⟨d0, d1, d2, d3, d4, d5⟩ := six_cells V2
  go_wp2_with (first | (go_at_call 67; (first | (with_reducible refine (slEqual_any _ _ p.s q.s _ (by first | exact HX.out | exact NX.out _) (by first | exact HX'.out | exact NX'.out _)).mono ?_) | (with_reducible refine (slEqual_any _ _ p.b q.b _ (by first | exact HY.out | exact NY.out _) (by first | exact HY'.out | exact NY'.out _)).mono ?_) | (with_reducible refine (slEqual_any _ _ p.c q.c _ (by first | exact HZ.out | exact NZ.out _) (by first | exact HZ'.out | exact NZ'.out _)).mono ?_)); rintro e w' ⟨nn, rfl, rfl⟩; (try simp only [World.drewN_drewN])))
  go_ret
  exact ⟨ret_bool (by simp [*]), by first | exact BB.out _ | exact B2⟩

theorem iSameData_any (u v : Value) (p q : Dt) (w : World) (hu : DatIn w u p) (hv : DatIn w v q) :
    Calls Tryz.prog 21 #[u, v] w fun e w' => e = .returned (.bool (sameV p q)) ∧ Below w.heap.size w w' := by
  cases hp : dOK p
  · have e : sameV p q = false := by unfold sameV; rw [hp]; rfl
    rw [e]; exact iSameV_a u v p q w hu hv hp
  cases hq : dOK q
  · have e : sameV p q = false := by unfold sameV; rw [hp, hq]; rfl
    rw [e]; exact iSameV_b u v p q w hu hv hp hq
  have e : sameV p q = sameD p q := by unfold sameV; rw [hp, hq]; rfl
  rw [e]
  clear e
  by_cases h0 : p.s = q.s
  rotate_left
  · rw [sameD_not (fun h => h0 h.1)]; exact iSameD_0 u v p q w hu hv hp hq h0
  by_cases h1 : p.b = q.b
  rotate_left
  · rw [sameD_not (fun h => h1 h.2.1)]; exact iSameD_1 u v p q w hu hv hp hq h0 h1
  by_cases h2 : p.c = q.c
  rotate_left
  · rw [sameD_not (fun h => h2 h.2.2.1)]; exact iSameD_2 u v p q w hu hv hp hq h0 h1 h2
  by_cases h3 : p.h = q.h
  rotate_left
  · rw [sameD_not (fun h => h3 h.2.2.2.1)]; exact iSameD_3 u v p q w hu hv hp hq h0 h1 h2 h3
  by_cases h4 : p.n = q.n
  rotate_left
  · rw [sameD_not (fun h => h4 h.2.2.2.2.1)]; exact iSameD_4 u v p q w hu hv hp hq h0 h1 h2 h3 h4
  by_cases h5 : p.o.toList = q.o.toList
  rotate_left
  · rw [sameD_not (fun h => h5 h.2.2.2.2.2)]; exact iSameD_5 u v p q w hu hv hp hq h0 h1 h2 h3 h4 h5
  rw [sameD_of h0 h1 h2 h3 h4 h5]; exact iSameD_6 u v p q w hu hv hp hq h0 h1 h2 h3 h4 h5

end Go.Proofs.YthnbaeamekolmaaGreatDoor

namespace Go.Proofs.YthnbaeamekolmaaGreatDoor
open Go.RowKit
set_option linter.unusedVariables false
set_option linter.unusedSimpArgs false

theorem brow_lo {w w' : World} {B : Nat} {a : Option Addr} {len cap : Nat} {zs : List Int} (h : BRow w a len cap zs) (ha : ∀ x, a = some x → 0 < cap → x.block < B) (k : Below B w w') : BRow w' a len cap zs := by
  rcases h with h | ⟨x, rfl, h1, h2, h3, h4, h5⟩
  · exact .inl h
  · exact .inr ⟨x, rfl, h1, h2, h3, fun i hi => by rw [k.cell (by rw [add_block]; exact ha x rfl (by omega))]; exact h4 i hi, h5⟩

/-- The source stays where nothing below a bound turns. -/
theorem src_lo {w w' : World} {B b : Nat} {a : Option Addr} {len cap : Nat} {zs : List Int} {N : Nat} (h : Src w b a len cap zs N) (hb : b < B) (ha : ∀ x, a = some x → 0 < cap → x.block < B) (k : Below B w w') : Src w' b a len cap zs N := by
  obtain ⟨i, seed, hi, c0, c1, c2, f1, f2, row, ap, s0, s1⟩ := h
  exact ⟨i, seed, hi, by rw [k.cell (p := ⟨b, 0, none⟩) hb]; exact c0, by rw [k.cell (p := ⟨b, 1, none⟩) hb]; exact c1, by rw [k.cell (p := ⟨b, 2, none⟩) hb]; exact c2,
    by rw [k.frozen (p := ⟨b, 1, none⟩) hb]; exact f1, by rw [k.frozen (p := ⟨b, 2, none⟩) hb]; exact f2, brow_lo row ha k, ap, s0, s1⟩

theorem src_lt {w : World} {b : Nat} {a : Option Addr} {len cap : Nat} {zs : List Int} {N : Nat} (h : Src w b a len cap zs N) : b < w.heap.size := by
  obtain ⟨i, seed, hi, h⟩ := h
  exact lt_of_cell h.c0

theorem src_code_lt {w : World} {b : Nat} {a : Option Addr} {len cap : Nat} {zs : List Int} {N : Nat} (h : Src w b a len cap zs N) : ∀ x, a = some x → 0 < cap → x.block < w.heap.size := by
  obtain ⟨i, seed, hi, h⟩ := h
  exact brow_lt h.row

theorem row_gb {w w' : World} {b lo : Nat} {v : Value} {zs : List Int} (hg : w.grownBy w' (some b)) (h : Row w lo v zs) (hb : b < lo) : Row w' lo v zs :=
  row_keep h fun g hv => hg.block g (row_lt h g hv).2 (fun e => by have := row_lt h g hv; simp at e; omega)

theorem whole_gb {w w' : World} {b g : Nat} {t : TypeId} {cs : Array Value} (hg : w.grownBy w' (some b)) (h : Whole w g t cs) (hne : g ≠ b) : Whole w' g t cs :=
  whole_keep h (hg.block g (whole_lt h) (fun e => hne (Option.some.inj e)))

theorem gb_alloc {a w : World} {b : Nat} (h : a.grownBy w (some b)) (o : Obj) : a.grownBy (w.alloc o) (some b) := grown_trans h (World.grownBy_alloc w o _)

theorem gb_of_lo {a w w' : World} {b : Nat} (h : a.grownBy w (some b)) (hb : Below a.heap.size w w') : a.grownBy w' (some b) :=
  ⟨hb.os.trans h.os, hb.tape.trans h.tape, hb.output.trans h.output, Nat.le_trans h.size hb.size, fun k hk hr => (hb.block k hk).trans (h.block k hk hr)⟩

theorem cellsB_snoc {zs : List Int} {v : Int} (h : cellsB zs = true) (hv : -2147483648 ≤ v ∧ v ≤ 2147483647) : cellsB (zs ++ [v]) = true := by
  unfold cellsB at *
  rw [List.all_append, h]; simp [cellB_true.2 hv]

theorem row_unlike {w : World} {lo g : Nat} {v : Value} {zs : List Int} {cs : Array Value} (h : Row w lo v zs) (hw : Whole w g 40 cs) : v.ownBlock ≠ some g := by
  rcases h.2 with ⟨rfl, _⟩ | ⟨g', cap, cur, rfl, _, hh, _⟩
  · simp [Value.ownBlock]
  · intro he
    have e : g' = g := by simpa [Value.ownBlock] using he
    subst e
    unfold Whole at hw
    rw [hh] at hw
    have hne : (3 : TypeId) ≠ 40 := by decide
    injection hw with hw
    injection hw with _ ht
    exact hne ht

/-- What a drawn row leaves. -/
def CellsDrew (w : World) (b : Nat) (a : Option Addr) (len cap : Nat) (code : List Int) (n N : Nat) (e : Ending) (w' : World) : Prop :=
  ∃ A k zs, e = .returned (.slice A n k) ∧ zs.length = n ∧ cellsB zs = true ∧ Row w' w.heap.size (.slice A n k) zs ∧ Src w' b a len cap code N ∧ w.grownBy w' (some b)

set_option maxRecDepth 100000 in
set_option maxHeartbeats 2000000 in
theorem cells_drew (b : Nat) (a : Option Addr) (len cap : Nat) (code : List Int) (N n : Nat) (w : World) (h : Src w b a len cap code N) (hn : n ≤ 32) (hN : N ≤ 100000) :
    Calls Tryz.prog 100 #[.pointer (some ⟨b, 0, none⟩), .int .i64 n] w (CellsDrew w b a len cap code n (N + 5 * n)) := by
  have hb := src_lt h
  have HA := Lib.hid (src_code_lt h)
  have H := Lib.hid h
  clear h
  go_enter Tryz.func100, Tryz.ntmps100
  go_wp2
  go_loopw [5, 6] (fun o i wr => ∃ (k : Nat) (zs : List Int) (A : Option Addr) (c : Nat), k ≤ n ∧ i = .int .i64 k ∧ o = .slice A k c ∧ zs.length = k ∧ cellsB zs = true ∧ Row wr w.heap.size (.slice A k c) zs ∧ Src wr b a len cap code (N + 5 * k) ∧ w.grownBy wr (some b)) (fun _ i _ => n - (intOf i).toNat)
  case atStart =>
    exact ⟨0, [], some ⟨w.heap.size, 0, none⟩, 0, Nat.zero_le _, rfl, rfl, rfl, rfl, row_empty (whole_new w _ _) (Nat.le_refl _), src_lo H.out hb HA.out (below_alloc (Below.refl _ _) _), World.grownBy_alloc w _ _⟩
  case round =>
    obtain ⟨k, zs, A, c, hk, rfl, rfl, hl, hc, hr, hs, hg⟩ := hrel
    have hsz := hg.size
    by_cases hlt : k < n
    · have LC := Lib.hid hc
      have LL := Lib.hid hl
      clear hc hl
      go_wp2_with fail
      refine (cell_any _ _ _ _ _ _ _ hs (by unfold Few; omega)).mono ?_
      rintro e w1 ⟨v, hv, rfl, hs1, hg1⟩
      have hsz1 := hg1.size
      have R1 : Row w1 w.heap.size (.slice A k c) zs := row_gb hg1 hr hb
      have G1 := grown_trans hg hg1
      have R1' : Row w1 w.heap.size (.slice A zs.length c) zs := by rw [LL.out]; exact R1
      have V := Lib.hid hv
      clear hr hs hg hg1 hv
      go_wp2_with (first
        | (at_builtin; refine wpList_append_ints rfl (.tmp 13) (.tmp 16) rfl rfl w.heap.size (.slice A k c) zs (row_alloc R1 _) _ [v] (ints_one _ _) rfl rfl (by have := LL.out; simp; omega) (by simp; omega) ?_
           intro v2 w2 hr2 hg2 hat
           have BL : Below w.heap.size w1 w2 := ((Below.refl _ _).alloc (by omega) _).grown hg2 (by simp; omega) (fun g hg => (row_lt R1 g hg).1)
           have S2 := src_lo hs1 hb HA.out BL
           have G2 := gb_of_lo G1 BL
           obtain ⟨_, C1, j1, rfl, _⟩ := row_ints hr2
           have e : (zs ++ [v]).length = k + 1 := by rw [List.length_append, LL.out]; rfl
           rw [e] at hr2
           have E := Lib.hid e
           rw [e]
           clear hg2 hat e))
      go_roundw
      case rel => exact ⟨k + 1, zs ++ [v], C1, j1, by omega, by go_num, rfl, E.out, cellsB_snoc LC.out V.out, hr2, src_mono S2 (by omega), G2⟩
      case measure => simp [intOf]; omega
    · obtain rfl : k = n := by omega
      have LC := Lib.hid hc
      have LL := Lib.hid hl
      clear hc hl
      go_wp2
      go_ret
      exact ⟨A, c, zs, rfl, LL.out, LC.out, hr, hs, hg⟩

/-- Texts in a block, none longer than M. -/
def Texts (w : World) (g n M : Nat) : Prop := ∀ k, k < n → ∃ s : ByteArray, w.cell? ⟨g, k, none⟩ = some (.string s) ∧ s.size ≤ M

theorem texts_gb {w w' : World} {b g n M : Nat} (h : Texts w g n M) (hg : w.grownBy w' (some b)) (hne : g ≠ b) : Texts w' g n M := fun k hk => by
  obtain ⟨s, hc, hs⟩ := h k hk
  exact ⟨s, hg.cell hc (fun e => hne (Option.some.inj e)), hs⟩

/-- A text of the list, drawn. -/
def TextDrew (w : World) (b M : Nat) (e : Ending) (w' : World) : Prop := ∃ s : ByteArray, e = .returned (.string s) ∧ s.size ≤ M ∧ w.grownBy w' (some b)

set_option maxRecDepth 100000 in
set_option maxHeartbeats 1000000 in
theorem pick_drew (b : Nat) (a : Option Addr) (len cap : Nat) (code : List Int) (N g n ca M : Nat) (w : World) (h : Src w b a len cap code N) (hN : N ≤ 100000) (ht : Texts w g n M) (hg : g ≠ b) (h1 : 1 < n) (h2 : n ≤ 256) :
    Calls Tryz.prog 102 #[.pointer (some ⟨b, 0, none⟩), .slice (some ⟨g, 0, none⟩) n ca] w (TextDrew w b M) := by
  have H := Lib.hid h
  have HT := Lib.hid ht
  have HG := Lib.hid hg
  have z0 : ((n : Int) == 0) = false := beq_eq_false_iff_ne.2 (by omega)
  clear h ht hg
  go_enter Tryz.func102, Tryz.ntmps102
  go_wp2_with fail
  refine (next_small _ _ _ _ _ _ _ _ H.out (by unfold Few; omega) (by omega) (by omega)).mono ?_
  rintro e w1 ⟨v, ⟨v0, v1⟩, rfl, hs1, hg1⟩
  obtain ⟨u, rfl⟩ := Int.eq_ofNat_of_zero_le v0
  have hu : u < n := by omega
  obtain ⟨s, hc, hsz⟩ := texts_gb HT.out hg1 HG.out u hu
  have G := Lib.hid hg1
  have SZ := Lib.hid hsz
  clear hg1 hs1 hsz
  go_wp2
  go_ret
  exact ⟨s, rfl, SZ.out, G.out⟩

end Go.Proofs.YthnbaeamekolmaaGreatDoor

namespace Go.Proofs.YthnbaeamekolmaaGreatDoor
open Go.RowKit
set_option linter.unusedVariables false
set_option linter.unusedSimpArgs false

theorem src_alloc {w : World} {b : Nat} {a : Option Addr} {len cap : Nat} {zs : List Int} {N : Nat} (h : Src w b a len cap zs N) (o : Obj) : Src (w.alloc o) b a len cap zs N :=
  src_lo h (src_lt h) (src_code_lt h) (below_alloc (Below.refl _ _) _)

theorem src_draws' {w : World} {b : Nat} {a : Option Addr} {len cap : Nat} {zs : List Int} {N : Nat} (h : Src w b a len cap zs N) : Src w.drew b a len cap zs N :=
  src_lo h (src_lt h) (src_code_lt h) (Below.refl _ _).drew

theorem gb_drew {a w : World} {r : Option Nat} (h : a.grownBy w r) : a.grownBy w.drew r := ⟨h.os, h.tape, h.output, h.size, h.block⟩

theorem gb_set {a w : World} {b : Nat} (h : a.grownBy w (some b)) {p : Addr} (hp : a.heap.size ≤ p.block) (u : Value) : a.grownBy (w.setCell p u) (some b) :=
  gb_of_lo h ((Below.refl _ _).setCell hp u)

theorem cellsB_set {zs : List Int} {k : Nat} {v : Int} (h : cellsB zs = true) (hv : -2147483648 ≤ v ∧ v ≤ 2147483647) : cellsB (zs.set k v) = true := by
  unfold cellsB at *
  rw [List.all_eq_true] at *
  intro x hx
  rcases List.mem_or_eq_of_mem_set hx with hx | rfl
  · exact h x hx
  · exact cellB_true.2 hv

theorem toList_madeCells_one' (n : Nat) : (madeCells (Value.cells (.int .u8 0)) (n * 1)).toList = List.replicate n (.int .u8 0) := by
  rw [Nat.mul_one]; exact toList_madeCells_one _ _

theorem zeros_str (W : World) (g n : Nat) (h : W.ownsRow 0 5 1 (.slice (some ⟨g, 0, none⟩) n n) n (List.replicate n (.int .u8 0))) :
    ∃ st : ByteArray, st.size = n ∧ (convert 55 9 (.slice (some ⟨g, 0, none⟩) n n)).run Tryz.prog W = .ok (.string st) W :=
  ⟨⟨(List.replicate n (0 : UInt8)).toArray⟩, by simp [ByteArray.size], owns_text (by simpa using h) (by simp)⟩

theorem texts_three (W : World) {st : ByteArray} (h : st.size = 298) : Texts (W.alloc (.cells #[.string ByteArray.empty, .string ⟨#[49, 32, 50, 32]⟩, .string st] 9)) W.heap.size 3 298 := fun k hk => by
  have hw := whole_cell (whole_new W 9 #[.string ByteArray.empty, .string ⟨#[49, 32, 50, 32]⟩, .string st]) k
  rcases (by omega : k = 0 ∨ k = 1 ∨ k = 2) with rfl | rfl | rfl
  · exact ⟨_, hw, by decide⟩
  · exact ⟨_, hw, by decide⟩
  · exact ⟨_, hw, by omega⟩

/-- What drawn data leaves. -/
def DataDrew (w : World) (b : Nat) (e : Ending) (w' : World) : Prop := ∃ u d, e = .returned u ∧ DtFine d ∧ DatOf w' w.heap.size w'.heap.size u d ∧ w.grownBy w' (some b)

set_option maxRecDepth 100000 in
set_option maxHeartbeats 8000000 in
theorem data_drew (b : Nat) (a : Option Addr) (len cap : Nat) (code : List Int) (w : World) (h : Src w b a len cap code 0) :
    Calls Tryz.prog 57 #[.pointer (some ⟨b, 0, none⟩)] w (DataDrew w b) := by
  have hb := src_lt h
  have HA := Lib.hid (src_code_lt h)
  have H := Lib.hid h
  clear h
  obtain ⟨i0, hi0, hz0, hz1, hz2⟩ := info_parts own_info5
  have I0 := Lib.hid hi0
  have Z0 := Lib.hid hz0
  have Z1 := Lib.hid hz1
  have B8 : Hid (i0.bytes * 298 ≤ 281474976710656) := Lib.hid (by rw [hz2]; omega)
  clear hi0 hz0 hz1 hz2
  go_enter Tryz.func57, Tryz.ntmps57
  go_wp2_with fail
  refine (sNew_any _).mono ?_
  rintro e m1 ⟨u, rfl, hu, hbl⟩
  obtain ⟨x, y, z, rfl, rx, ry, rz, _⟩ := hu
  have z1 : w.heap.size + 1 ≤ m1.heap.size := by have := hbl.size; simpa using this
  obtain ⟨_, D1, t1, rfl, _⟩ := row_ints rx
  obtain ⟨_, D2, t2, rfl, _⟩ := row_ints ry
  have rz' : Row m1 (w.heap.size + 1) z (List.replicate 32 0) := row_base rz (by simp)
  obtain ⟨g3, k3, rfl, hg3, hg3', hk3, hm3⟩ := row_form rz' (by simp)
  have R1 : Row m1 (w.heap.size + 1) (.slice (some ⟨g3, 0, none⟩) 32 k3) (List.replicate 32 0) := rz'
  have B1 := below_step (below_alloc (Below.refl _ _) _) hbl
  have S1 := src_lo H.out hb HA.out B1
  have G1 : w.grownBy m1 (some b) := gb_of_lo (World.grownBy.refl w _) B1
  have T1 := whole_b hbl (whole_new w _ _)
  clear hbl rx ry rz rz' B1
  go_wp2_with fail
  refine (next_small _ _ _ _ _ _ _ _ (src_alloc S1 _) (by unfold Few; omega) (by omega) (by omega)).mono ?_
  rintro e m2 ⟨v2, ⟨l2, u2⟩, rfl, hs, hg⟩
  have z2 : m1.heap.size + 1 ≤ m2.heap.size := by have := hg.size; (try simp at this); omega
  have T2 := whole_gb hg (whole_alloc T1 _) (by omega)
  have R2 := row_gb hg (row_alloc R1 _) (by omega)
  have X2 := whole_gb hg (whole_new m1 _ _) (by omega)
  have S2 := hs
  have G2 := grown_trans (gb_alloc G1 _) hg
  clear hg hs S1 G1 T1 R1
  go_wp2_with fail
  refine (next_small _ _ _ _ _ _ _ _ S2 (by unfold Few; omega) (by omega) (by omega)).mono ?_
  rintro e m3 ⟨v3, ⟨l3, u3⟩, rfl, hs, hg⟩
  have z3 : m2.heap.size + 0 ≤ m3.heap.size := by have := hg.size; (try simp at this); omega
  have T3 := whole_gb hg T2 (by omega)
  have X3 := whole_gb hg X2 (by omega)
  have R3 := row_gb hg R2 (by omega)
  have S3 := hs
  have G3 := grown_trans G2 hg
  clear hg hs S2 G2 T2 X2 R2
  go_wp2_with fail
  refine (next_small _ _ _ _ _ _ _ _ S3 (by unfold Few; omega) (by omega) (by omega)).mono ?_
  rintro e m4 ⟨v4, ⟨l4, u4⟩, rfl, hs, hg⟩
  have z4 : m3.heap.size + 0 ≤ m4.heap.size := by have := hg.size; (try simp at this); omega
  have T4 := whole_gb hg T3 (by omega)
  have X4 := whole_gb hg X3 (by omega)
  have R4 := row_gb hg R3 (by omega)
  have S4 := hs
  have G4 := grown_trans G3 hg
  clear hg hs S3 G3 T3 X3 R3
  go_wp2_with fail
  refine (next_small _ _ _ _ _ _ _ _ S4 (by unfold Few; omega) (by omega) (by omega)).mono ?_
  rintro e m5 ⟨v5, ⟨l5, u5⟩, rfl, hs, hg⟩
  have z5 : m4.heap.size + 0 ≤ m5.heap.size := by have := hg.size; (try simp at this); omega
  have T5 := whole_gb hg T4 (by omega)
  have X5 := whole_gb hg X4 (by omega)
  have R5 := row_gb hg R4 (by omega)
  have S5 := hs
  have G5 := grown_trans G4 hg
  clear hg hs S4 G4 T4 X4 R4
  go_wp2_with fail
  refine (next_small _ _ _ _ _ _ _ _ (src_alloc S5 _) (by unfold Few; omega) (by omega) (by omega)).mono ?_
  rintro e m6 ⟨v6, ⟨l6, u6⟩, rfl, hs, hg⟩
  have z6 : m5.heap.size + 1 ≤ m6.heap.size := by have := hg.size; (try simp at this); omega
  have T6 := whole_gb hg (whole_alloc T5 _) (by omega)
  have X6 := whole_gb hg (whole_alloc X5 _) (by omega)
  have R6 := row_gb hg (row_alloc R5 _) (by omega)
  have L6 := whole_gb hg (whole_new m5 _ _) (by omega)
  have S6 := hs
  have G6 := grown_trans (gb_alloc G5 _) hg
  clear hg hs S5 G5 T5 X5 R5
  obtain ⟨i6, rfl⟩ := Int.eq_ofNat_of_zero_le l6
  have ui6 : i6 < 4 := by omega
  obtain ⟨q, hcq, q0, q1⟩ : ∃ q : Int, m6.cell? ⟨m5.heap.size, i6, none⟩ = some (.int .i64 q) ∧ 0 ≤ q ∧ q ≤ 32 := by
    have hw := whole_cell L6 i6
    rcases (by omega : i6 = 0 ∨ i6 = 1 ∨ i6 = 2 ∨ i6 = 3) with rfl | rfl | rfl | rfl
    · exact ⟨v2, hw, by omega, by omega⟩
    · exact ⟨v3, hw, by omega, by omega⟩
    · exact ⟨v4, hw, by omega, by omega⟩
    · exact ⟨30 + v5, hw, by omega, by omega⟩
  obtain ⟨qn, rfl⟩ := Int.eq_ofNat_of_zero_le q0
  have q2 : qn ≤ 32 := by omega
  clear L6
  go_wp2_with fail
  clear hcq
  refine (cells_drew _ _ _ _ _ _ qn _ S6 (by omega) (by omega)).mono ?_
  rintro e m7 ⟨AE, kE, zsE, rfl, hlE, hcE, E7, hs, hg⟩
  have loE : m6.heap.size ≤ m6.heap.size := Nat.le_refl _
  have z7 : m6.heap.size + 0 ≤ m7.heap.size := by have := hg.size; (try simp at this); omega
  have T7 := whole_gb hg T6 (by omega)
  have X7 := whole_gb hg X6 (by omega)
  have R7 := row_gb hg R6 (by omega)
  have S7 := hs
  have G7 := grown_trans G6 hg
  clear hg hs S6 G6 T6 X6 R6
  obtain ⟨c0, c1, c2, c3, c4, c5⟩ := six_cells X7
  have cf := whole_free X7
  have cz := whole_lt X7
  go_wp2_with fail
  clear c0 c1 c2 c3 c4 c5 cf cz
  refine (next_small _ _ _ _ _ _ _ _ (src_lo S7 hb HA.out ((Below.refl _ _).setCell (p := ⟨m1.heap.size, 0, none⟩) (show w.heap.size ≤ m1.heap.size by omega) (.slice AE qn kE))) (by unfold Few; omega) (by omega) (by omega)).mono ?_
  rintro e m8 ⟨v8, ⟨l8, u8⟩, rfl, hs, hg⟩
  have z8 : m7.heap.size + 0 ≤ m8.heap.size := by have := hg.size; (try simp at this); omega
  have T8 := whole_gb hg (whole_far T7 (p := ⟨m1.heap.size, 0, none⟩) (by simp; omega) (.slice AE qn kE)) (by omega)
  have X8 := whole_gb hg (whole_set X7 0 (.slice AE qn kE)) (by omega)
  have R8 := row_gb hg (row_apart (i := 0) (u := (.slice AE qn kE)) R7 (row_unlike R7 X7)) (by omega)
  have E8 := row_gb hg (row_apart (i := 0) (u := (.slice AE qn kE)) E7 (row_unlike E7 X7)) (by omega)
  have S8 := hs
  have G8 := grown_trans (gb_set G7 (p := ⟨m1.heap.size, 0, none⟩) (show w.heap.size ≤ m1.heap.size by omega) (.slice AE qn kE)) hg
  clear hg hs S7 G7 T7 X7 R7 E7
  go_wp2_with fail
  refine (next_small _ _ _ _ _ _ _ _ S8 (by unfold Few; omega) (by omega) (by omega)).mono ?_
  rintro e m9 ⟨v9, ⟨l9, u9⟩, rfl, hs, hg⟩
  have z9 : m8.heap.size + 0 ≤ m9.heap.size := by have := hg.size; (try simp at this); omega
  have T9 := whole_gb hg T8 (by omega)
  have X9 := whole_gb hg X8 (by omega)
  have R9 := row_gb hg R8 (by omega)
  have E9 := row_gb hg E8 (by omega)
  have S9 := hs
  have G9 := grown_trans G8 hg
  clear hg hs S8 G8 T8 X8 R8 E8
  go_wp2_with fail
  refine (next_small _ _ _ _ _ _ _ _ S9 (by unfold Few; omega) (by omega) (by omega)).mono ?_
  rintro e m10 ⟨v10, ⟨l10, u10⟩, rfl, hs, hg⟩
  have z10 : m9.heap.size + 0 ≤ m10.heap.size := by have := hg.size; (try simp at this); omega
  have T10 := whole_gb hg T9 (by omega)
  have X10 := whole_gb hg X9 (by omega)
  have R10 := row_gb hg R9 (by omega)
  have E10 := row_gb hg E9 (by omega)
  have S10 := hs
  have G10 := grown_trans G9 hg
  clear hg hs S9 G9 T9 X9 R9 E9
  go_wp2_with fail
  refine (next_small _ _ _ _ _ _ _ _ (src_alloc S10 _) (by unfold Few; omega) (by omega) (by omega)).mono ?_
  rintro e m11 ⟨v11, ⟨l11, u11⟩, rfl, hs, hg⟩
  have z11 : m10.heap.size + 1 ≤ m11.heap.size := by have := hg.size; (try simp at this); omega
  have T11 := whole_gb hg (whole_alloc T10 _) (by omega)
  have X11 := whole_gb hg (whole_alloc X10 _) (by omega)
  have R11 := row_gb hg (row_alloc R10 _) (by omega)
  have E11 := row_gb hg (row_alloc E10 _) (by omega)
  have L11 := whole_gb hg (whole_new m10 _ _) (by omega)
  have S11 := hs
  have G11 := grown_trans (gb_alloc G10 _) hg
  clear hg hs S10 G10 T10 X10 R10 E10
  obtain ⟨i11, rfl⟩ := Int.eq_ofNat_of_zero_le l11
  have ui11 : i11 < 3 := by omega
  obtain ⟨r, hcr, r0, r1⟩ : ∃ r : Int, m11.cell? ⟨m10.heap.size, i11, none⟩ = some (.int .i64 r) ∧ 0 ≤ r ∧ r ≤ 32 := by
    have hw := whole_cell L11 i11
    rcases (by omega : i11 = 0 ∨ i11 = 1 ∨ i11 = 2) with rfl | rfl | rfl
    · exact ⟨v8, hw, by omega, by omega⟩
    · exact ⟨v9, hw, by omega, by omega⟩
    · exact ⟨30 + v10, hw, by omega, by omega⟩
  obtain ⟨rn, rfl⟩ := Int.eq_ofNat_of_zero_le r0
  have r2 : rn ≤ 32 := by omega
  clear L11
  go_wp2_with fail
  clear hcr
  refine (cells_drew _ _ _ _ _ _ rn _ S11 (by omega) (by omega)).mono ?_
  rintro e m12 ⟨AF, kF, zsF, rfl, hlF, hcF, F12, hs, hg⟩
  have loF : m11.heap.size ≤ m11.heap.size := Nat.le_refl _
  have PEF : Parted (.slice AE qn kE) (.slice AF rn kF) := fun k hk hk2 => by have h1 := row_lt E11 k hk; have h2 := row_lt F12 k hk2; omega
  have z12 : m11.heap.size + 0 ≤ m12.heap.size := by have := hg.size; (try simp at this); omega
  have T12 := whole_gb hg T11 (by omega)
  have X12 := whole_gb hg X11 (by omega)
  have R12 := row_gb hg R11 (by omega)
  have E12 := row_gb hg E11 (by omega)
  have S12 := hs
  have G12 := grown_trans G11 hg
  clear hg hs S11 G11 T11 X11 R11 E11
  obtain ⟨c0, c1, c2, c3, c4, c5⟩ := six_cells X12
  have cf := whole_free X12
  have cz := whole_lt X12
  go_wp2_with fail
  clear c0 c1 c2 c3 c4 c5 cf cz
  refine (next_small _ _ _ _ _ _ _ _ (src_lo S12 hb HA.out ((Below.refl _ _).setCell (p := ⟨m1.heap.size, 1, none⟩) (show w.heap.size ≤ m1.heap.size by omega) (.slice AF rn kF))) (by unfold Few; omega) (by omega) (by omega)).mono ?_
  rintro e m13 ⟨v13, ⟨l13, u13⟩, rfl, hs, hg⟩
  have z13 : m12.heap.size + 0 ≤ m13.heap.size := by have := hg.size; (try simp at this); omega
  have T13 := whole_gb hg (whole_far T12 (p := ⟨m1.heap.size, 1, none⟩) (by simp; omega) (.slice AF rn kF)) (by omega)
  have X13 := whole_gb hg (whole_set X12 1 (.slice AF rn kF)) (by omega)
  have R13 := row_gb hg (row_apart (i := 1) (u := (.slice AF rn kF)) R12 (row_unlike R12 X12)) (by omega)
  have E13 := row_gb hg (row_apart (i := 1) (u := (.slice AF rn kF)) E12 (row_unlike E12 X12)) (by omega)
  have F13 := row_gb hg (row_apart (i := 1) (u := (.slice AF rn kF)) F12 (row_unlike F12 X12)) (by omega)
  have S13 := hs
  have G13 := grown_trans (gb_set G12 (p := ⟨m1.heap.size, 1, none⟩) (show w.heap.size ≤ m1.heap.size by omega) (.slice AF rn kF)) hg
  clear hg hs S12 G12 T12 X12 R12 E12 F12
  go_wp2_with fail
  refine (next_small _ _ _ _ _ _ _ _ (src_alloc S13 _) (by unfold Few; omega) (by omega) (by omega)).mono ?_
  rintro e m14 ⟨v14, ⟨l14, u14⟩, rfl, hs, hg⟩
  have z14 : m13.heap.size + 1 ≤ m14.heap.size := by have := hg.size; (try simp at this); omega
  have T14 := whole_gb hg (whole_alloc T13 _) (by omega)
  have X14 := whole_gb hg (whole_alloc X13 _) (by omega)
  have R14 := row_gb hg (row_alloc R13 _) (by omega)
  have E14 := row_gb hg (row_alloc E13 _) (by omega)
  have F14 := row_gb hg (row_alloc F13 _) (by omega)
  have L14 := whole_gb hg (whole_new m13 _ _) (by omega)
  have S14 := hs
  have G14 := grown_trans (gb_alloc G13 _) hg
  clear hg hs S13 G13 T13 X13 R13 E13 F13
  obtain ⟨i14, rfl⟩ := Int.eq_ofNat_of_zero_le l14
  have ui14 : i14 < 3 := by omega
  obtain ⟨h, hch, h0, h1⟩ : ∃ h : Int, m14.cell? ⟨m13.heap.size, i14, none⟩ = some (.int .i64 h) ∧ 0 ≤ h ∧ h ≤ 32 := by
    have hw := whole_cell L14 i14
    rcases (by omega : i14 = 0 ∨ i14 = 1 ∨ i14 = 2) with rfl | rfl | rfl
    · exact ⟨v13, hw, by omega, by omega⟩
    · exact ⟨4, hw, by omega, by omega⟩
    · exact ⟨32, hw, by omega, by omega⟩
  obtain ⟨hn, rfl⟩ := Int.eq_ofNat_of_zero_le h0
  have h2 : hn ≤ 32 := by omega
  clear L14
  obtain ⟨c0, c1, c2, c3, c4, c5⟩ := six_cells X14
  have cf := whole_free X14
  have cz := whole_lt X14
  go_wp2
  clear hch
  clear c0 c1 c2 c3 c4 c5 cf cz
  have X99 := (whole_set X14 3 (.int .i64 hn))
  have T99 := (whole_far T14 (p := ⟨m1.heap.size, 3, none⟩) (by simp; omega) (.int .i64 hn))
  have R99 := (row_apart (i := 3) (u := (.int .i64 hn)) R14 (row_unlike R14 X14))
  have E99 := (row_apart (i := 3) (u := (.int .i64 hn)) E14 (row_unlike E14 X14))
  have F99 := (row_apart (i := 3) (u := (.int .i64 hn)) F14 (row_unlike F14 X14))
  have S99 := (src_lo S14 hb HA.out ((Below.refl _ _).setCell (p := ⟨m1.heap.size, 3, none⟩) (show w.heap.size ≤ m1.heap.size by omega) (.int .i64 hn)))
  have G99 := (gb_set G14 (p := ⟨m1.heap.size, 3, none⟩) (show w.heap.size ≤ m1.heap.size by omega) (.int .i64 hn))
  have z99 : m14.heap.size ≤ (m14.setCell ⟨m1.heap.size, 3, none⟩ (.int .i64 hn)).heap.size := by simp
  clear S14 G14 X14 T14 R14 E14 F14
  generalize m14.setCell ⟨m1.heap.size, 3, none⟩ (.int .i64 hn) = m99 at *
  have hgE : g3 < m6.heap.size := by omega
  have hgF : g3 < m11.heap.size := by omega
  have hgX : g3 ≠ m1.heap.size := by omega
  have X99' : Whole m99 m1.heap.size 40 #[.slice AE qn kE, .slice AF rn kF, .slice (some ⟨g3, 0, none⟩) 32 k3, .int .i64 hn, .int .i64 10, .string ByteArray.empty] := X99
  go_loopw [4] (fun i wr => ∃ (k : Nat) (zs : List Int), k ≤ hn ∧ i = .int .i64 k ∧ zs.length = 32 ∧ cellsB zs = true ∧ Whole wr m1.heap.size 40 #[.slice AE qn kE, .slice AF rn kF, .slice (some ⟨g3, 0, none⟩) 32 k3, .int .i64 hn, .int .i64 10, .string ByteArray.empty] ∧ Whole wr w.heap.size 40 #[.slice none 0 0, .slice none 0 0, .slice none 0 0, .int .i64 0, .int .i64 0, .string ByteArray.empty] ∧ Row wr (w.heap.size + 1) (.slice (some ⟨g3, 0, none⟩) 32 k3) zs ∧ Row wr m6.heap.size (.slice AE qn kE) zsE ∧ Row wr m11.heap.size (.slice AF rn kF) zsF ∧ Src wr b a len cap code (1000 + 5 * k) ∧ w.grownBy wr (some b) ∧ m14.heap.size ≤ wr.heap.size) (fun i _ => hn - (intOf i).toNat)
  case atStart => exact ⟨0, List.replicate 32 0, Nat.zero_le _, rfl, by simp, by decide, X99', T99, R99, E99, F99, src_mono S99 (by omega), G99, z99⟩
  case round =>
    obtain ⟨k, zs, hk, rfl, hzl, hzc, X4, T4, R4, E4, F4, S4, G4, z4⟩ := hrel
    clear X99 X99' T99 R99 E99 F99 S99 G99 z99
    have LC := Lib.hid hzc
    have LL := Lib.hid hzl
    clear hzc
    obtain ⟨c0, c1, c2, c3, c4, c5⟩ := six_cells X4
    by_cases hlt : k < hn
    · have hk32 : k < zs.length := by omega
      clear hzl
      have ki0 : (0 : Int) ≤ (k : Int) := by omega
      have ki1 : (k : Int) < 32 := by omega
      have ki2 : k < 32 := by omega
      go_wp2
      go_region_held3 (fun w' => w'.cell? ⟨m1.heap.size, 2, none⟩ = some (.slice (some ⟨g3, 0, none⟩) 32 k3)) (first | exact (six_cells (by assumption)).2.2.1 | exact (six_cells (whole_far X5 (p := ⟨g3, k, none⟩) (by simp; omega) (.int .i64 v))).2.2.1)
        (first | (go_at_call 71; refine (cell_any b a len cap code (1000 + 5 * k) _ (by first | exact S4 | exact src_draws' S4) (by unfold Few; omega)).mono ?_; rintro e m5' ⟨v, hv, rfl, hs, hg⟩; have X5 := whole_gb hg X4 (by omega); have T5 := whole_gb hg T4 (by omega); have R5 := row_gb hg R4 (by omega); have E5 := row_gb hg E4 (by omega); have F5 := row_gb hg F4 (by omega); have G5 := grown_trans (by first | exact G4 | exact gb_drew G4) hg; have z5 : wr.heap.size ≤ m5'.heap.size := hg.size; have ll := LL.out; have R5' : Row m5' (w.heap.size + 1) (.slice (some ⟨g3, 0, none⟩) zs.length k3) zs := (by rw [ll]; exact R5); have ko := row_cell R5' k hk32; have kf := row_free R5' k; have RS := (row_set R5' k v).1; have V := Lib.hid hv; clear hg ll hv))
      have X6 := whole_far X5 (p := ⟨g3, k, none⟩) (by simp; omega) (.int .i64 v)
      have T6 := whole_far T5 (p := ⟨g3, k, none⟩) (by simp; omega) (.int .i64 v)
      have E6 := row_store (g := g3) (i := k) (u := .int .i64 v) E5 hgE
      have F6 := row_store (g := g3) (i := k) (u := .int .i64 v) F5 hgF
      have BL : Below w.heap.size m5' (m5'.setCell ⟨g3, k, none⟩ (.int .i64 v)) := (Below.refl _ _).setCell (by simp; omega) _
      have S6 := src_lo hs hb HA.out BL
      have G6 := gb_of_lo G5 BL
      have L6 : Hid ((zs.set k v).length = 32) := Lib.hid (by rw [List.length_set]; exact LL.out)
      have C6 : Hid (cellsB (zs.set k v) = true) := Lib.hid (cellsB_set LC.out V.out)
      rw [LL.out] at RS
      go_wp2
      go_roundw
      case rel => exact ⟨k + 1, zs.set k v, by omega, by go_num, L6.out, C6.out, X6, T6, RS, E6, F6, src_mono S6 (by omega), G6, by simp; omega⟩
      case measure => simp [intOf]; omega
    · obtain rfl : k = hn := by omega
      clear hzl hlt c0 c1 c4 c5
      go_wp2_with fail
      clear c2 c3
      refine (next_small _ _ _ _ _ _ _ _ (src_alloc S4 _) (by unfold Few; omega) (by omega) (by omega)).mono ?_
      rintro e y1 ⟨v, ⟨l1, u1⟩, rfl, hs, hg⟩
      have zy : wr.heap.size + 1 ≤ y1.heap.size := by have := hg.size; simpa using this
      have X5 := whole_gb hg (whole_alloc X4 _) (by omega)
      have T5 := whole_gb hg (whole_alloc T4 _) (by omega)
      have R5 := row_gb hg (row_alloc R4 _) (by omega)
      have E5 := row_gb hg (row_alloc E4 _) (by omega)
      have F5 := row_gb hg (row_alloc F4 _) (by omega)
      have L5 := whole_gb hg (whole_new wr _ _) (by omega)
      have G5 := grown_trans (gb_alloc G4 _) hg
      obtain ⟨i, rfl⟩ := Int.eq_ofNat_of_zero_le l1
      obtain ⟨bs, hbs, bs0, bs1⟩ : ∃ bs : Int, y1.cell? ⟨wr.heap.size, i, none⟩ = some (.int .i64 bs) ∧ 2 ≤ bs ∧ bs ≤ 16 := by
        have hw := whole_cell L5 i
        rcases (by omega : i = 0 ∨ i = 1 ∨ i = 2 ∨ i = 3) with rfl | rfl | rfl | rfl
        · exact ⟨10, hw, by omega, by omega⟩
        · exact ⟨10, hw, by omega, by omega⟩
        · exact ⟨16, hw, by omega, by omega⟩
        · exact ⟨2, hw, by omega, by omega⟩
      clear hg X4 T4 R4 E4 F4 S4 G4 L5
      obtain ⟨c0, c1, c2, c3, c4, c5⟩ := six_cells X5
      have cf := whole_free X5
      have cz := whole_lt X5
      go_wp2_with (at_make; refine wpList_make_full _ rfl _ _ 55 rfl 0 5 i0 (.int .u8 0) 1 Tryz.underlying55 I0.out Z0.out Z1.out .i64 .i64 _ _ 298 rfl rfl rfl rfl B8.out (by unfold maxLen; omega) (Nat.zero_le _) ?_
                   intro y2 ho3 hg3'
                   have BL : Below w.heap.size y1 y2 := ((Below.refl _ _).setCell (show w.heap.size ≤ m1.heap.size by omega) (.int .i64 bs)).grown hg3' (by simp; omega) (fun k hk => by cases hk)
                   have X6 := whole_keep (whole_set X5 4 (.int .i64 bs)) (hg3'.block _ (by simp; omega) (by simp))
                   have T6 := whole_keep (whole_far T5 (p := ⟨m1.heap.size, 4, none⟩) (by simp; omega) (.int .i64 bs)) (hg3'.block _ (by simp; have := whole_lt T5; omega) (by simp))
                   have R6 := row_keep (row_apart R5 (row_unlike R5 X5)) (fun k hk => hg3'.block k (by simp; exact (row_lt R5 k hk).2) (by simp))
                   have E6 := row_keep (row_apart E5 (row_unlike E5 X5)) (fun k hk => hg3'.block k (by simp; exact (row_lt E5 k hk).2) (by simp))
                   have F6 := row_keep (row_apart F5 (row_unlike F5 X5)) (fun k hk => hg3'.block k (by simp; exact (row_lt F5 k hk).2) (by simp))
                   have S6 := src_lo hs hb HA.out BL
                   have G6 := gb_of_lo G5 BL
                   have zy2 : y1.heap.size ≤ y2.heap.size := BL.size
                   rw [toList_madeCells_one'] at ho3
                   rw [show (y1.setCell ⟨m1.heap.size, 4, none⟩ (.int .i64 bs)).heap.size = y1.heap.size by simp] at ho3
                   obtain ⟨st, hst, hcv⟩ := zeros_str _ _ 298 ho3
                   have ST := Lib.hid hst
                   clear ho3 hg3' hst BL)
      have TX := Lib.hid (texts_three y2 ST.out)
      refine (pick_drew _ _ _ _ _ _ _ 3 _ 298 _ (src_alloc S6 _) (by omega) (by have h := TX.out; exact h) (by simp; omega) (by omega) (by omega)).mono ?_
      rintro e y3 ⟨tx, rfl, htx, hg⟩
      have zy3 : y2.heap.size + 1 ≤ y3.heap.size := by have := hg.size; simpa using this
      have X7 := whole_gb hg (whole_alloc X6 _) (by omega)
      have T7 := whole_gb hg (whole_alloc T6 _) (by omega)
      have R7 := row_gb hg (row_alloc R6 _) (by omega)
      have E7 := row_gb hg (row_alloc E6 _) (by omega)
      have F7 := row_gb hg (row_alloc F6 _) (by omega)
      have G7 := grown_trans (gb_alloc G6 _) hg
      clear hg X5 X6 T5 T6 R5 R6 E5 E6 F5 F6 G5 G6 S6 c0 c1 c2 c3 c4 c5 cf cz hcv
      obtain ⟨c0, c1, c2, c3, c4, c5⟩ := six_cells X7
      have cf := whole_free X7
      obtain ⟨r0, r1, r2, r3, r4, r5⟩ := six_cells T7
      have rf := whole_free T7
      go_wp2
      have R8 := row_apart (i := 5) (u := .string tx) R7 (row_unlike R7 X7)
      have E8 := row_store (g := m1.heap.size) (i := 5) (u := .string tx) E7 (by omega)
      have F8 := row_store (g := m1.heap.size) (i := 5) (u := .string tx) F7 (by omega)
      refine bodyPost_ret (v := .agg #[.slice AE qn kE, .slice AF rn kF, .slice (some ⟨g3, 0, none⟩) 32 k3, .int .i64 k, .int .i64 bs, .string tx]) (by simp [results, Tryz.results57, go_sem, *]) rfl ⟨_, ⟨zsE, zsF, zs, k, bs, tx⟩, rfl, ?_, ?_, ?_⟩
      · exact ⟨by show zsE.length ≤ 32; omega, by show zsF.length ≤ 32; omega, LL.out, hcE, hcF, LC.out, by show (0 : Int) ≤ (k : Int); omega, by show (k : Int) ≤ 32; omega, inB_of (by show (2 : Int) ≤ bs; omega) (by show bs ≤ (16 : Int); omega), by show tx.size ≤ 300; omega⟩
      · refine datOf_top (datOf_base (datOf_rows (d := ⟨zsE, zsF, zs, k, bs, tx⟩) (lo := w.heap.size + 1) ?_ ?_ ?_ ?_ PEF ?_ ?_) (by omega)) (Nat.le_refl _)
        · have h := row_base (base' := w.heap.size + 1) E8 (by omega)
          show Row _ _ _ zsE
          repeat (first | with_reducible exact h | ((with_reducible refine row_store ?_ ?hh); case hh => omega))
        · have h := row_base (base' := w.heap.size + 1) F8 (by omega)
          show Row _ _ _ zsF
          repeat (first | with_reducible exact h | ((with_reducible refine row_store ?_ ?hh); case hh => omega))
        · show Row _ _ _ zs
          repeat (first | with_reducible exact R8 | ((with_reducible refine row_store ?_ ?hh); case hh => omega))
        · show tx.size ≤ maxLen; unfold maxLen; omega
        · intro q hq hq2; have h1 := (row_lt E7 q hq).1; have e : g3 = q := by simpa [Value.ownBlock] using hq2
          omega
        · intro q hq hq2; have h1 := (row_lt F7 q hq).1; have e : g3 = q := by simpa [Value.ownBlock] using hq2
          omega
      · exact gb_of_lo G7 (by repeat (first | with_reducible exact Below.refl _ _ | with_reducible refine Below.setCell ?_ (by simp; try omega) _))

end Go.Proofs.YthnbaeamekolmaaGreatDoor

namespace Go.Proofs.YthnbaeamekolmaaGreatDoor
open Go.RowKit
set_option linter.unusedVariables false
set_option linter.unusedSimpArgs false

/-- What data drawn out of a code leaves. -/
def DrawnD (w : World) (e : Ending) (w' : World) : Prop := ∃ u d, e = .returned u ∧ DtFine d ∧ DatOf w' w.heap.size w'.heap.size u d ∧ Below w.heap.size w w'

theorem brow_alloc {w : World} {a : Option Addr} {len cap : Nat} {zs : List Int} (h : BRow w a len cap zs) (o : Obj) : BRow (w.alloc o) a len cap zs := brow_below h (below_alloc (Below.refl _ _) o)

set_option maxRecDepth 100000 in
set_option maxHeartbeats 2000000 in
theorem dataDrawn_any (a : Option Addr) (len cap : Nat) (zs : List Int) (w : World) (h : BRow w a len cap zs) (hl : len ≤ 9223372036854775807) :
    Calls Tryz.prog 16 #[.slice a len cap] w (DrawnD w) := by
  have HB := Lib.hid h
  clear h
  go_enter Tryz.func16, Tryz.ntmps16
  go_wp2_with fail
  refine (source_any _ _ _ _ hl).mono ?_
  rintro e w' ⟨rfl, rfl⟩
  go_wp2_with fail
  refine (data_drew _ a len cap zs _ (by
                                               have hsn := src_new (brow_alloc HB.out (.cells #[.slice none 0 0, .slice none 0 0, .slice none 0 0, .int .i64 0, .int .i64 0, .string ByteArray.empty] 40))
                                               have e : ∀ o : Obj, (w.alloc o).heap.size = w.heap.size + 1 := fun o => by simp
                                               rw [e] at hsn; exact hsn)).mono ?_
  rintro e m ⟨u, d, rfl, hd, hu, hg⟩
  obtain ⟨C1, j1, C2, j2, C3, j3, rfl⟩ := datIn_form (datOf_in hu)
  have hsz : w.heap.size + 1 + 1 ≤ m.heap.size := by have := hg.size; simpa using this
  have T := whole_keep (whole_alloc (whole_new w _ _) _) (hg.block _ (by simp; omega) (by simp))
  have B : Below w.heap.size w m := ((below_alloc (below_alloc (Below.refl _ _) _) _)).grown hg (by simp; omega) (fun k hk => by cases hk; omega)
  have D := Lib.hid hd
  clear hg hd
  obtain ⟨r0, r1, r2, r3, r4, r5⟩ := six_cells T
  have fr := whole_free T
  go_wp2
  refine bodyPost_ret (v := .agg #[.slice C1 d.s.length j1, .slice C2 d.b.length j2, .slice C3 d.c.length j3, .int .i64 d.h, .int .i64 d.n, .string d.o]) (by simp [results, Tryz.results16, go_sem, *]) rfl ⟨_, d, rfl, D.out, ?_, ?_⟩
  · refine datOf_top (datOf_base (datOf_keep (lo := w.heap.size + 1 + 1) (by simpa using hu) (fun g h1 h2 h3 => ?_)) (by omega)) (by simp)
    iterate 6 rw [Below.heap_setCell _ _ _ _ (by show g ≠ w.heap.size; omega)]
  · repeat (first | with_reducible exact B | with_reducible refine Below.setCell ?_ (by simp) _)

theorem texts_all (W : World) (t : TypeId) (cs : Array Value) (M n : Nat) (hn : cs.size = n) (h : (cs.toList.all fun v => match v with | .string s => decide (s.size ≤ M) | _ => false) = true) : Texts (W.alloc (.cells cs t)) W.heap.size n M := fun k hk => by
  have hw := whole_cell (whole_new W t cs) k
  have hk' : k < cs.toList.length := by simpa [hn] using hk
  have hx := List.all_eq_true.1 h (cs.toList[k]'hk') (List.getElem_mem _)
  have he : cs[k]? = some (cs.toList[k]'hk') := by simp
  rw [he] at hw
  split at hx
  · rename_i s hs
    rw [hs] at hw
    exact ⟨s, hw, by simpa using hx⟩
  · cases hx

/-- A word drawn out of a code. -/
def WordDrew (w : World) (e : Ending) (w' : World) : Prop := ∃ s : ByteArray, e = .returned (.string s) ∧ s.size ≤ 40 ∧ Below w.heap.size w w'

theorem allot_fine {d : Dt} (hd : DtFine d) {n : Int} (hn : cellB n = true) : DtFine (dAllot d n).1 := by
  unfold dAllot
  rw [if_neg (by rw [dOK_true hd]; decide), if_neg (by rw [hn]; decide)]
  split
  · rename_i hg
    obtain ⟨h1, h2, h3⟩ := hg
    have q0 := fine_h0 hd
    have q1 := fine_h1 hd
    have q2 := fine_cl hd
    refine ⟨show d.s.length ≤ 32 from fine_sl hd, show d.b.length ≤ 32 from fine_bl hd, ?_, show cellsB d.s = true from fine_sc hd, show cellsB d.b = true from fine_bc hd, ?_, h2, h3, show baseB d.n = true from fine_n hd, show d.o.size ≤ 300 from fine_o hd⟩
    · show (zeroN d.c d.h.toNat (n.tdiv 4).toNat).length = 32
      rw [zeroN_len (by omega)]; exact q2
    · show cellsB (zeroN d.c d.h.toNat (n.tdiv 4).toNat) = true
      unfold cellsB
      rw [List.all_eq_true]
      intro x hx
      unfold zeroN at hx
      rw [List.mem_append, List.mem_append] at hx
      rcases hx with hx | hx | hx
      · exact cellsB_at (fine_cc hd) (List.mem_of_mem_take hx)
      · rw [List.eq_of_mem_replicate hx]; decide
      · exact cellsB_at (fine_cc hd) (List.mem_of_mem_drop hx)
  · exact hd

theorem say_fine {d : Dt} (hd : DtFine d) {s : ByteArray} (hs : s.size ≤ 65536) : DtFine (dSay d s).1 := by
  unfold dSay
  rw [if_neg (by omega), if_neg (by rw [dOK_true hd]; decide)]
  split
  · exact hd
  · exact ⟨show d.s.length ≤ 32 from fine_sl hd, show d.b.length ≤ 32 from fine_bl hd, show d.c.length = 32 from fine_cl hd, show cellsB d.s = true from fine_sc hd, show cellsB d.b = true from fine_bc hd, show cellsB d.c = true from fine_cc hd, show 0 ≤ d.h from fine_h0 hd, show d.h ≤ 32 from fine_h1 hd, show baseB d.n = true from fine_n hd, by show (d.o ++ s).size ≤ 300; rw [ByteArray.size_append]; omega⟩

theorem sameV_self {d : Dt} (hd : DtFine d) : sameV d d = true := by
  unfold sameV; rw [dOK_true hd, sameD_of rfl rfl rfl rfl rfl rfl]; rfl

theorem fine_new : DtFine newDt := by unfold newDt; decide

end Go.Proofs.YthnbaeamekolmaaGreatDoor
