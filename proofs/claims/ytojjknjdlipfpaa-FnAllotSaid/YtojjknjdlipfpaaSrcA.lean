/- The source of draws: what one drawn byte gives, and what it leaves of the world. -/
import Derived.Test.YtojjknjdlipfpaaCellsA
import Derived.BigRegion
import Derived.Laws.AppendOwn
import Derived.OwnWalk
import Derived.OpenShut
namespace Go.Proofs.Ytojjknjdlipfpaa
open Go.RowKit
set_option linter.unusedVariables false
set_option linter.unusedSimpArgs false

/-- A slice of bytes that came in: nil, or a row of numbers that fit. -/
def BRow (w : World) (a : Option Addr) (len cap : Nat) (zs : List Int) : Prop :=
  (a = none ∧ len = 0 ∧ cap = 0 ∧ zs = []) ∨
  ∃ x, a = some x ∧ len ≤ cap ∧ cap ≤ maxLen ∧ zs.length = cap ∧ (∀ i, i < zs.length → w.cell? (x.add i) = some (.int .u8 (zs.getD i 0))) ∧ ∀ n ∈ zs, (Lit.int .u8 n).wf = true

/-- The source of draws lies in block b, over the code a; at most N bytes have been drawn of it. -/
structure SrcAt (w : World) (b : Nat) (a : Option Addr) (len cap : Nat) (zs : List Int) (at_ : Nat) (seed : Int) : Prop where
  c0 : w.cell? ⟨b, 0, none⟩ = some (.slice a len cap)
  c1 : w.cell? ⟨b, 1, none⟩ = some (.int .i64 at_)
  c2 : w.cell? ⟨b, 2, none⟩ = some (.int .i64 seed)
  f1 : w.frozen? ⟨b, 1, none⟩ = false
  f2 : w.frozen? ⟨b, 2, none⟩ = false
  row : BRow w a len cap zs
  apart : ∀ x, a = some x → 0 < cap → x.block ≠ b
  s0 : 0 ≤ seed
  s1 : seed < 2147483648

/-- What a draw of a number leaves: a number of which P holds; of what was there, the source alone has turned. -/
def Drawn (w : World) (b : Nat) (a : Option Addr) (len cap : Nat) (zs : List Int) (N : Nat) (P : Int → Prop) (e : Ending) (w' : World) : Prop :=
  ∃ (v : Int) (k : Nat) (seed : Int), P v ∧ e = .returned (.int .i64 v) ∧ k ≤ N ∧ SrcAt w' b a len cap zs k seed ∧ w.grownBy w' (some b)

theorem grown_set (w : World) (b o : Nat) (v : Value) : w.grownBy (w.setCell ⟨b, o, none⟩ v) (some b) :=
  ⟨rfl, rfl, rfl, by simp [World.setCell], fun k hk hne => Below.heap_setCell _ _ _ _ (by intro e; exact hne (by rw [e]))⟩

theorem grown_trans {a b c : World} {r : Option Nat} (h : a.grownBy b r) (k : b.grownBy c r) : a.grownBy c r :=
  ⟨k.os.trans h.os, k.tape.trans h.tape, k.output.trans h.output, Nat.le_trans h.size k.size, fun i hi hne => (k.block i (Nat.lt_of_lt_of_le hi h.size) hne).trans (h.block i hi hne)⟩

theorem grown_draws (w : World) (n : Nat) (r : Option Nat) : w.grownBy (w.drewN n) r := ⟨rfl, rfl, rfl, Nat.le_refl _, fun _ _ _ => rfl⟩

theorem add_block (x : Addr) (i : Nat) : (x.add i).block = x.block := by simp only [Addr.add]; split <;> rfl

theorem lt_of_cell {w : World} {x : Addr} {v : Value} (h : w.cell? x = some v) : x.block < w.heap.size := by
  rcases Nat.lt_or_ge x.block w.heap.size with h1 | h1
  · exact h1
  · simp [World.cell?, h1] at h

theorem brow_lt {w : World} {a : Option Addr} {len cap : Nat} {zs : List Int} (h : BRow w a len cap zs) : ∀ x, a = some x → 0 < cap → x.block < w.heap.size := by
  intro x hx hc
  rcases h with ⟨h, _⟩ | ⟨y, hy, h1, h2, h3, h4, h5⟩
  · rw [h] at hx; cases hx
  · rw [hy] at hx
    obtain rfl := Option.some.inj hx
    have := lt_of_cell (h4 0 (by omega))
    rwa [add_block] at this

theorem brow_below {w w' : World} {a : Option Addr} {len cap : Nat} {zs : List Int} (h : BRow w a len cap zs) (hb : Below w.heap.size w w') : BRow w' a len cap zs := by
  have hl := brow_lt h
  rcases h with h | ⟨x, rfl, h1, h2, h3, h4, h5⟩
  · exact .inl h
  · exact .inr ⟨x, rfl, h1, h2, h3, fun i hi => by rw [hb.cell (by rw [add_block]; exact hl x rfl (by omega))]; exact h4 i hi, h5⟩

theorem brow_kept {w w' : World} {b : Nat} {a : Option Addr} {len cap : Nat} {zs : List Int} (h : BRow w a len cap zs) (ha : ∀ x, a = some x → 0 < cap → x.block ≠ b) (hw : w.grownBy w' (some b)) : BRow w' a len cap zs := by
  rcases h with h | ⟨x, rfl, h1, h2, h3, h4, h5⟩
  · exact .inl h
  · exact .inr ⟨x, rfl, h1, h2, h3, fun i hi => hw.cell (h4 i hi) (by intro e; rw [add_block] at e; exact ha x rfl (by omega) (Option.some.inj e)), h5⟩

section
variable {w : World} {b : Nat} {a : Option Addr} {len cap : Nat} {zs : List Int} {k : Nat} {seed : Int}

theorem src_one (h : SrcAt w b a len cap zs k seed) : SrcAt (w.setCell ⟨b, 1, none⟩ (.int .i64 ((k : Int) + 1))) b a len cap zs (k + 1) seed := by
  have hw := grown_set w b 1 (.int .i64 ((k : Int) + 1))
  obtain ⟨c0, c1, c2, f1, f2, row, ap, s0, s1⟩ := h
  refine ⟨?_, ?_, ?_, ?_, ?_, brow_kept row ap hw, ap, s0, s1⟩
  · rw [World.cell?_setCell_other _ _ _ _ (by simp)]; exact c0
  · rw [World.cell?_setCell_same _ _ _ c1]; simp
  · rw [World.cell?_setCell_other _ _ _ _ (by simp)]; exact c2
  · simpa using f1
  · simpa using f2

theorem src_two (h : SrcAt w b a len cap zs k seed) (seed' : Int) (s0' : 0 ≤ seed') (s1' : seed' < 2147483648) : SrcAt (w.setCell ⟨b, 2, none⟩ (.int .i64 seed')) b a len cap zs k seed' := by
  have hw := grown_set w b 2 (.int .i64 seed')
  obtain ⟨c0, c1, c2, f1, f2, row, ap, s0, s1⟩ := h
  refine ⟨?_, ?_, ?_, ?_, ?_, brow_kept row ap hw, ap, s0', s1'⟩
  · rw [World.cell?_setCell_other _ _ _ _ (by simp)]; exact c0
  · rw [World.cell?_setCell_other _ _ _ _ (by simp)]; exact c1
  · rw [World.cell?_setCell_same _ _ _ c2]
  · simpa using f1
  · simpa using f2

theorem src_draws (h : SrcAt w b a len cap zs k seed) (n : Nat) : SrcAt (w.drewN n) b a len cap zs k seed := by
  obtain ⟨c0, c1, c2, f1, f2, row, ap, s0, s1⟩ := h
  exact ⟨c0, c1, c2, f1, f2, brow_kept row ap (grown_draws w n _), ap, s0, s1⟩

end

set_option maxRecDepth 100000 in
set_option maxHeartbeats 1000000 in
theorem byte_late (b : Nat) (a : Option Addr) (len cap : Nat) (zs : List Int) (k : Nat) (seed : Int) (w : World) (h : SrcAt w b a len cap zs k seed) (hN : k < 1000000000) (hl : len < k + 1) (h3 : 3000 < k + 1) :
    Calls Try.prog 65 #[.pointer (some ⟨b, 0, none⟩)] w (Drawn w b a len cap zs (k + 1) fun v => 0 ≤ v ∧ v ≤ 255) := by
  have H := Lib.hid h
  obtain ⟨c0, c1, c2, f1, f2, row, apart, s0, s1⟩ := h
  clear row apart
  go_enter Try.func65, Try.ntmps65
  go_wp2
  go_quiet (fail)
  go_wp2
  go_ret
  exact ⟨0, k + 1, seed, by omega, rfl, Nat.le_refl _, src_draws (src_one H.out) _, grown_trans (grown_set _ _ _ _) (grown_draws _ _ _)⟩

set_option maxRecDepth 100000 in
set_option maxHeartbeats 1000000 in
theorem byte_mid (b : Nat) (a : Option Addr) (len cap : Nat) (zs : List Int) (k : Nat) (seed : Int) (w : World) (h : SrcAt w b a len cap zs k seed) (hN : k < 1000000000) (hl : len < k + 1) (h3 : k + 1 ≤ 3000) :
    Calls Try.prog 65 #[.pointer (some ⟨b, 0, none⟩)] w (Drawn w b a len cap zs (k + 1) fun v => 0 ≤ v ∧ v ≤ 255) := by
  have H := Lib.hid h
  obtain ⟨c0, c1, c2, f1, f2, row, apart, s0, s1⟩ := h
  clear row apart
  go_enter Try.func65, Try.ntmps65
  go_wp2
  go_quiet (fail)
  go_wp2
  go_ret
  exact ⟨_, k + 1, (seed * 1103515245 + 12345) % 2147483648, ⟨by omega, by omega⟩, rfl, Nat.le_refl _, src_two (src_draws (src_one H.out) _) _ (by omega) (by omega), grown_trans (grown_trans (grown_set _ _ _ _) (grown_draws _ _ _)) (grown_set _ _ _ _)⟩

set_option maxRecDepth 100000 in
set_option maxHeartbeats 1000000 in
theorem byte_code (b bc off : Nat) (len cap : Nat) (zs : List Int) (k : Nat) (seed : Int) (w : World) (h : SrcAt w b (some ⟨bc, off, none⟩) len cap zs k seed) (hl : k < len) :
    Calls Try.prog 65 #[.pointer (some ⟨b, 0, none⟩)] w (Drawn w b (some ⟨bc, off, none⟩) len cap zs (k + 1) fun v => 0 ≤ v ∧ v ≤ 255) := by
  have H := Lib.hid h
  obtain ⟨c0, c1, c2, f1, f2, row, apart, s0, s1⟩ := h
  rcases row with ⟨h, _⟩ | ⟨x, hx, h1, h2, hz, h4, h5⟩
  · cases h
  obtain rfl := Option.some.inj hx
  have hne : ¬ bc = b := apart _ rfl (by omega)
  have hc : w.cell? ⟨bc, off + k, none⟩ = some (.int .u8 (zs.getD k 0)) := by have := h4 k (by omega); rwa [Addr.add_lit] at this
  have hv : 0 ≤ zs.getD k 0 ∧ zs.getD k 0 ≤ 255 := by
    have := range_u8 h5 k
    rwa [← List.getD_eq_getElem?_getD] at this
  unfold maxLen at h2
  generalize zs.getD k 0 = v at *
  obtain ⟨v0, v1⟩ := hv
  clear h4 h5 apart hz hx
  go_enter Try.func65, Try.ntmps65
  go_wp2
  go_quiet (fail)
  go_wp2
  go_region
  go_wp2
  go_quiet (fail)
  go_wp2
  go_ret
  exact ⟨v, k + 1, (seed * 31 + v + 7) % 2147483648, ⟨v0, v1⟩, rfl, Nat.le_refl _, src_draws (src_two (src_draws (src_one H.out) _) _ (by omega) (by omega)) _, grown_trans (grown_trans (grown_trans (grown_set _ _ _ _) (grown_draws _ _ _)) (grown_set _ _ _ _)) (grown_draws _ _ _)⟩

/-- The source lies in block b; at most N bytes have been drawn of it. -/
def Src (w : World) (b : Nat) (a : Option Addr) (len cap : Nat) (zs : List Int) (N : Nat) : Prop := ∃ (k : Nat) (seed : Int), k ≤ N ∧ SrcAt w b a len cap zs k seed

/-- What a draw of a number leaves: a number of which P holds; of what was there, the source alone has turned. -/
def Drew (w : World) (b : Nat) (a : Option Addr) (len cap : Nat) (zs : List Int) (N : Nat) (P : Int → Prop) (e : Ending) (w' : World) : Prop :=
  ∃ v : Int, P v ∧ e = .returned (.int .i64 v) ∧ Src w' b a len cap zs N ∧ w.grownBy w' (some b)

theorem drew_of {w : World} {b : Nat} {a : Option Addr} {len cap : Nat} {zs : List Int} {k N : Nat} {P : Int → Prop} {e : Ending} {w' : World} (h : Drawn w b a len cap zs k P e w') (hk : k ≤ N) : Drew w b a len cap zs N P e w' := by
  obtain ⟨v, k', seed, hv, he, hk', hs, hg⟩ := h
  exact ⟨v, hv, he, ⟨k', seed, by omega, hs⟩, hg⟩

/-- So many draws are within bounds. -/
def Few (N : Nat) : Prop := N < 1000000000

theorem byte_any (b : Nat) (a : Option Addr) (len cap : Nat) (zs : List Int) (N : Nat) (w : World) (h : Src w b a len cap zs N) (hN : Few N) :
    Calls Try.prog 65 #[.pointer (some ⟨b, 0, none⟩)] w (Drew w b a len cap zs (N + 1) fun v => 0 ≤ v ∧ v ≤ 255) := by
  obtain ⟨k, seed, hk, h⟩ := h
  unfold Few at hN
  by_cases hl : k < len
  · rcases h.row with ⟨_, h0, _⟩ | ⟨x, rfl, h1, h2, hz, h4, h5⟩
    · omega
    · have hx : w.cell? (x.add 0) = some (.int .u8 (zs.getD 0 0)) := h4 0 (by omega)
      obtain ⟨bc, off, spot⟩ := x
      have hspot : spot = none := by simpa [Addr.add] using World.cell?_spot hx
      subst hspot
      exact (byte_code b bc off len cap zs k seed w h hl).mono fun e w' q => drew_of q (by omega)
  · by_cases h3 : k + 1 ≤ 3000
    · exact (byte_mid b a len cap zs k seed w h (by omega) (by omega) h3).mono fun e w' q => drew_of q (by omega)
    · exact (byte_late b a len cap zs k seed w h (by omega) (by omega) (by omega)).mono fun e w' q => drew_of q (by omega)

theorem src_mono {w : World} {b : Nat} {a : Option Addr} {len cap : Nat} {zs : List Int} {N M : Nat} (h : Src w b a len cap zs N) (hm : N ≤ M) : Src w b a len cap zs M := by
  obtain ⟨k, seed, hk, h⟩ := h
  exact ⟨k, seed, by omega, h⟩

set_option maxRecDepth 100000 in
set_option maxHeartbeats 400000 in
theorem next_small (b : Nat) (a : Option Addr) (len cap : Nat) (zs : List Int) (N : Nat) (n : Int) (w : World) (h : Src w b a len cap zs N) (hN : Few N) (h1 : 1 < n) (h2 : n ≤ 256) :
    Calls Try.prog 62 #[.pointer (some ⟨b, 0, none⟩), .int .i64 n] w (Drew w b a len cap zs (N + 1) fun v => 0 ≤ v ∧ v < n) := by
  have H := Lib.hid h
  have HN := Lib.hid hN
  clear h hN
  go_enter Try.func62, Try.ntmps62
  go_wp2_with fail
  refine (byte_any _ _ _ _ _ _ _ H.out HN.out).mono ?_
  rintro e w1 ⟨v, hv, rfl, hs, hg⟩
  obtain ⟨v0, v1⟩ := hv
  have S := Lib.hid hs
  have G := Lib.hid hg
  clear hs hg
  go_wp2
  go_ret
  exact ⟨v % n, ⟨Int.emod_nonneg _ (by omega), Int.emod_lt_of_pos _ (by omega)⟩, rfl, S.out, G.out⟩

set_option maxRecDepth 100000 in
set_option maxHeartbeats 400000 in
theorem next_one (b : Nat) (a : Option Addr) (len cap : Nat) (zs : List Int) (N : Nat) (n : Int) (w : World) (h : Src w b a len cap zs N) (h1 : n ≤ 1) :
    Calls Try.prog 62 #[.pointer (some ⟨b, 0, none⟩), .int .i64 n] w (Drew w b a len cap zs N fun v => v = 0) := by
  have H := Lib.hid h
  clear h
  go_enter Try.func62, Try.ntmps62
  go_wp2
  go_ret
  exact ⟨0, rfl, rfl, H.out, World.grownBy.refl _ _⟩

set_option maxRecDepth 100000 in
set_option maxHeartbeats 1000000 in
theorem next_large (b : Nat) (a : Option Addr) (len cap : Nat) (zs : List Int) (N : Nat) (n : Int) (w : World) (h : Src w b a len cap zs N) (hN : Few (N + 2)) (h1 : 256 < n) (h2 : n ≤ 9223372036854775807) :
    Calls Try.prog 62 #[.pointer (some ⟨b, 0, none⟩), .int .i64 n] w (Drew w b a len cap zs (N + 3) fun v => 0 ≤ v ∧ v < n) := by
  have H := Lib.hid h
  have HN := Lib.hid hN
  clear h hN
  go_enter Try.func62, Try.ntmps62
  go_wp2_with fail
  refine (byte_any _ _ _ _ _ _ _ H.out (by have := HN.out; unfold Few at *; omega)).mono ?_
  rintro e w1 ⟨v, hv, rfl, hs, hg⟩
  obtain ⟨v0, v1⟩ := hv
  have S := Lib.hid hs
  have G := Lib.hid hg
  clear hs hg
  go_wp2_with fail
  refine (byte_any _ _ _ _ _ _ _ S.out (by have := HN.out; unfold Few at *; omega)).mono ?_
  rintro e w2 ⟨u, hu, rfl, hs, hg⟩
  obtain ⟨u0, u1⟩ := hu
  have S2 := Lib.hid hs
  have G2 := Lib.hid (grown_trans G.out hg)
  clear hs hg
  go_wp2_with fail
  refine (byte_any _ _ _ _ _ _ _ S2.out HN.out).mono ?_
  rintro e w3 ⟨t, ht, rfl, hs, hg⟩
  obtain ⟨t0, t1⟩ := ht
  have S3 := Lib.hid hs
  have G3 := Lib.hid (grown_trans G2.out hg)
  clear hs hg
  go_wp2
  go_ret
  exact ⟨_, ⟨Int.emod_nonneg _ (by omega), Int.emod_lt_of_pos _ (by omega)⟩, rfl, S3.out, G3.out⟩

end Go.Proofs.Ytojjknjdlipfpaa
