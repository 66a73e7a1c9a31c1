/- Drawn rows of cells, drawn texts out of a list. -/
import Derived.Test.YtojjknjdlipfpaaSrcB
import Derived.Test.YtojjknjdlipfpaaDatM
import Derived.Test.YtojjknjdlipfpaaDatU
namespace Go.Proofs.Ytojjknjdlipfpaa
open Go.RowKit
set_option linter.unusedVariables false
set_option linter.unusedSimpArgs false

theorem brow_lo {w w' : World} {B : Nat} {a : Option Addr} {len cap : Nat} {zs : List Int} (h : BRow w a len cap zs) (ha : ∀ x, a = some x → 0 < cap → x.block < B) (k : Below B w w') : BRow w' a len cap zs := by
  rcases h with h | ⟨x, rfl, h1, h2, h3, h4, h5⟩
  · exact .inl h
  · exact .inr ⟨x, rfl, h1, h2, h3, fun i hi => by rw [k.cell (by rw [add_block]; exact ha x rfl (by omega))]; exact h4 i hi, h5⟩

/-- The source stays where nothing below a bound turns. -/
theorem src_lo {w w' : World} {B b : Nat} {a : Option Addr} {len cap : Nat} {zs : List Int} {N : Nat} (h : Src w b a len cap zs N) (hb : b < B) (ha : ∀ x, a = some x → 0 < cap → x.block < B) (k : Below B w w') : Src w' b a len cap zs N := by
  obtain ⟨i, seed, hi, c0, c1, c2, f1, f2, row, ap, s0, s1⟩ := h
  exact ⟨i, seed, hi, by rw [k.cell (p := ⟨b, 0, none⟩) hb]; exact c0, by rw [k.cell (p := ⟨b, 1, none⟩) hb]; exact c1, by rw [k.cell (p := ⟨b, 2, none⟩) hb]; exact c2,
    by rw [k.frozen (p := ⟨b, 1, none⟩) hb]; exact f1, by rw [k.frozen (p := ⟨b, 2, none⟩) hb]; exact f2, brow_lo row ha k, ap, s0, s1⟩

theorem src_lt {w : World} {b : Nat} {a : Option Addr} {len cap : Nat} {zs : List Int} {N : Nat} (h : Src w b a len cap zs N) : b < w.heap.size := by
  obtain ⟨i, seed, hi, h⟩ := h
  exact lt_of_cell h.c0

theorem src_code_lt {w : World} {b : Nat} {a : Option Addr} {len cap : Nat} {zs : List Int} {N : Nat} (h : Src w b a len cap zs N) : ∀ x, a = some x → 0 < cap → x.block < w.heap.size := by
  obtain ⟨i, seed, hi, h⟩ := h
  exact brow_lt h.row

theorem row_gb {w w' : World} {b lo : Nat} {v : Value} {zs : List Int} (hg : w.grownBy w' (some b)) (h : Row w lo v zs) (hb : b < lo) : Row w' lo v zs :=
  row_keep h fun g hv => hg.block g (row_lt h g hv).2 (fun e => by have := row_lt h g hv; simp at e; omega)

theorem whole_gb {w w' : World} {b g : Nat} {t : TypeId} {cs : Array Value} (hg : w.grownBy w' (some b)) (h : Whole w g t cs) (hne : g ≠ b) : Whole w' g t cs :=
  whole_keep h (hg.block g (whole_lt h) (fun e => hne (Option.some.inj e)))

theorem gb_alloc {a w : World} {b : Nat} (h : a.grownBy w (some b)) (o : Obj) : a.grownBy (w.alloc o) (some b) := grown_trans h (World.grownBy_alloc w o _)

theorem gb_of_lo {a w w' : World} {b : Nat} (h : a.grownBy w (some b)) (hb : Below a.heap.size w w') : a.grownBy w' (some b) :=
  ⟨hb.os.trans h.os, hb.tape.trans h.tape, hb.output.trans h.output, Nat.le_trans h.size hb.size, fun k hk hr => (hb.block k hk).trans (h.block k hk hr)⟩

theorem cellsB_snoc {zs : List Int} {v : Int} (h : cellsB zs = true) (hv : -2147483648 ≤ v ∧ v ≤ 2147483647) : cellsB (zs ++ [v]) = true := by
  unfold cellsB at *
  rw [List.all_append, h]; simp [cellB_true.2 hv]

theorem row_unlike {w : World} {lo g : Nat} {v : Value} {zs : List Int} {cs : Array Value} (h : Row w lo v zs) (hw : Whole w g 25 cs) : v.ownBlock ≠ some g := by
  rcases h.2 with ⟨rfl, _⟩ | ⟨g', cap, cur, rfl, _, hh, _⟩
  · simp [Value.ownBlock]
  · intro he
    have e : g' = g := by simpa [Value.ownBlock] using he
    subst e
    unfold Whole at hw
    rw [hh] at hw
    have hne : (3 : TypeId) ≠ 25 := by decide
    injection hw with hw
    injection hw with _ ht
    exact hne ht

/-- What a drawn row leaves. -/
def CellsDrew (w : World) (b : Nat) (a : Option Addr) (len cap : Nat) (code : List Int) (n N : Nat) (e : Ending) (w' : World) : Prop :=
  ∃ A k zs, e = .returned (.slice A n k) ∧ zs.length = n ∧ cellsB zs = true ∧ Row w' w.heap.size (.slice A n k) zs ∧ Src w' b a len cap code N ∧ w.grownBy w' (some b)

set_option maxRecDepth 100000 in
set_option maxHeartbeats 2000000 in
theorem cells_drew (b : Nat) (a : Option Addr) (len cap : Nat) (code : List Int) (N n : Nat) (w : World) (h : Src w b a len cap code N) (hn : n ≤ 32) (hN : N ≤ 100000) :
    Calls Try.prog 61 #[.pointer (some ⟨b, 0, none⟩), .int .i64 n] w (CellsDrew w b a len cap code n (N + 5 * n)) := by
  have hb := src_lt h
  have HA := Lib.hid (src_code_lt h)
  have H := Lib.hid h
  clear h
  go_enter Try.func61, Try.ntmps61
  go_wp2
  go_loopw [5, 6] (fun o i wr => ∃ (k : Nat) (zs : List Int) (A : Option Addr) (c : Nat), k ≤ n ∧ i = .int .i64 k ∧ o = .slice A k c ∧ zs.length = k ∧ cellsB zs = true ∧ Row wr w.heap.size (.slice A k c) zs ∧ Src wr b a len cap code (N + 5 * k) ∧ w.grownBy wr (some b)) (fun _ i _ => n - (intOf i).toNat)
  case atStart =>
    exact ⟨0, [], some ⟨w.heap.size, 0, none⟩, 0, Nat.zero_le _, rfl, rfl, rfl, rfl, row_empty (whole_new w _ _) (Nat.le_refl _), src_lo H.out hb HA.out (below_alloc (Below.refl _ _) _), World.grownBy_alloc w _ _⟩
  case round =>
    obtain ⟨k, zs, A, c, hk, rfl, rfl, hl, hc, hr, hs, hg⟩ := hrel
    have hsz := hg.size
    by_cases hlt : k < n
    · have LC := Lib.hid hc
      have LL := Lib.hid hl
      clear hc hl
      go_wp2_with fail
      refine (cell_any _ _ _ _ _ _ _ hs (by unfold Few; omega)).mono ?_
      rintro e w1 ⟨v, hv, rfl, hs1, hg1⟩
      have hsz1 := hg1.size
      have R1 : Row w1 w.heap.size (.slice A k c) zs := row_gb hg1 hr hb
      have G1 := grown_trans hg hg1
      have R1' : Row w1 w.heap.size (.slice A zs.length c) zs := by rw [LL.out]; exact R1
      have V := Lib.hid hv
      clear hr hs hg hg1 hv
      go_wp2_with (first
        | (at_builtin; refine wpList_append_ints rfl (.tmp 13) (.tmp 16) rfl rfl w.heap.size (.slice A k c) zs (row_alloc R1 _) _ [v] (ints_one _ _) rfl rfl (by have := LL.out; simp; omega) (by simp; omega) ?_
           intro v2 w2 hr2 hg2 hat
           have BL : Below w.heap.size w1 w2 := ((Below.refl _ _).alloc (by omega) _).grown hg2 (by simp; omega) (fun g hg => (row_lt R1 g hg).1)
           have S2 := src_lo hs1 hb HA.out BL
           have G2 := gb_of_lo G1 BL
           obtain ⟨_, C1, j1, rfl, _⟩ := row_ints hr2
           have e : (zs ++ [v]).length = k + 1 := by rw [List.length_append, LL.out]; rfl
           rw [e] at hr2
           have E := Lib.hid e
           rw [e]
           clear hg2 hat e))
      go_roundw
      case rel => exact ⟨k + 1, zs ++ [v], C1, j1, by omega, by go_num, rfl, E.out, cellsB_snoc LC.out V.out, hr2, src_mono S2 (by omega), G2⟩
      case measure => simp [intOf]; omega
    · obtain rfl : k = n := by omega
      have LC := Lib.hid hc
      have LL := Lib.hid hl
      clear hc hl
      go_wp2
      go_ret
      exact ⟨A, c, zs, rfl, LL.out, LC.out, hr, hs, hg⟩

/-- Texts in a block, none longer than M. -/
def Texts (w : World) (g n M : Nat) : Prop := ∀ k, k < n → ∃ s : ByteArray, w.cell? ⟨g, k, none⟩ = some (.string s) ∧ s.size ≤ M

theorem texts_gb {w w' : World} {b g n M : Nat} (h : Texts w g n M) (hg : w.grownBy w' (some b)) (hne : g ≠ b) : Texts w' g n M := fun k hk => by
  obtain ⟨s, hc, hs⟩ := h k hk
  exact ⟨s, hg.cell hc (fun e => hne (Option.some.inj e)), hs⟩

/-- A text of the list, drawn. -/
def TextDrew (w : World) (b M : Nat) (e : Ending) (w' : World) : Prop := ∃ s : ByteArray, e = .returned (.string s) ∧ s.size ≤ M ∧ w.grownBy w' (some b)

set_option maxRecDepth 100000 in
set_option maxHeartbeats 1000000 in
theorem pick_drew (b : Nat) (a : Option Addr) (len cap : Nat) (code : List Int) (N g n ca M : Nat) (w : World) (h : Src w b a len cap code N) (hN : N ≤ 100000) (ht : Texts w g n M) (hg : g ≠ b) (h1 : 1 < n) (h2 : n ≤ 256) :
    Calls Try.prog 63 #[.pointer (some ⟨b, 0, none⟩), .slice (some ⟨g, 0, none⟩) n ca] w (TextDrew w b M) := by
  have H := Lib.hid h
  have HT := Lib.hid ht
  have HG := Lib.hid hg
  have z0 : ((n : Int) == 0) = false := beq_eq_false_iff_ne.2 (by omega)
  clear h ht hg
  go_enter Try.func63, Try.ntmps63
  go_wp2_with fail
  refine (next_small _ _ _ _ _ _ _ _ H.out (by unfold Few; omega) (by omega) (by omega)).mono ?_
  rintro e w1 ⟨v, ⟨v0, v1⟩, rfl, hs1, hg1⟩
  obtain ⟨u, rfl⟩ := Int.eq_ofNat_of_zero_le v0
  have hu : u < n := by omega
  obtain ⟨s, hc, hsz⟩ := texts_gb HT.out hg1 HG.out u hu
  have G := Lib.hid hg1
  have SZ := Lib.hid hsz
  clear hg1 hs1 hsz
  go_wp2
  go_ret
  exact ⟨s, rfl, SZ.out, G.out⟩

end Go.Proofs.Ytojjknjdlipfpaa
