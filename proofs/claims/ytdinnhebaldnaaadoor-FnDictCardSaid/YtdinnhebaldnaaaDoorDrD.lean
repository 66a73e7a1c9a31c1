/- Drawn words and dictionaries. -/
import Derived.Test.YtdinnhebaldnaaaDoorSrcC
import Derived.Test.YtdinnhebaldnaaaDoorKerD
namespace Go.Proofs.YtdinnhebaldnaaaDoor
open Go.RowKit
set_option linter.unusedVariables false
set_option linter.unusedSimpArgs false

/-- The names that a word of a script is drawn with. -/
def unames : List (List UInt8) := [[115, 113], [105, 110, 99], [100, 117, 112], [120], [89, 50], [108, 111, 111, 112, 50]]

/-- A drawn word. -/
def Drawn1 (x : Wd) : Prop := userB x = true ∧ ∃ p ∈ unames, x.n = ⟨p.toArray⟩

theorem uname_word {p : List UInt8} (h : p ∈ unames) : wordL p = true := by
  have hall : ∀ q ∈ unames, wordL q = true := by decide +kernel
  exact hall p h

theorem uname_size {p : List UInt8} (h : p ∈ unames) : p.length ≤ 5 := by
  have hall : ∀ q ∈ unames, q.length ≤ 5 := by decide
  exact hall p h

theorem drawn1 {p : List UInt8} (h : p ∈ unames) {k v : Int} (hv : valB k v = true) : Drawn1 ⟨⟨p.toArray⟩, k, v⟩ := by
  refine ⟨?_, p, h, rfl⟩
  unfold userB
  rw [hv]
  simp [uname_word h]

theorem val_colon {v : Int} (h0 : 0 ≤ v) (h1 : v < 40) : valB 6 v = true := by
  unfold valB inB; rw [if_pos rfl]; exact decide_eq_true (by omega)

theorem val_var {v : Int} (h0 : 0 ≤ v) (h1 : v < 8) : valB 7 (4096 + 4 * v) = true := by
  unfold valB inB
  rw [if_neg (by omega), if_pos rfl, decide_eq_true (by omega), decide_eq_true (by omega)]
  rfl

theorem val_const {v : Int} (h0 : -2147483648 ≤ v) (h1 : v ≤ 2147483647) : valB 8 v = true := by
  unfold valB
  rw [if_neg (by omega), if_neg (by omega), if_pos rfl]
  exact cellB_true.2 ⟨h0, h1⟩

/-- What a drawn word leaves. -/
def WordDrewW (w : World) (b : Nat) (a : Option Addr) (len cap : Nat) (zs : List Int) (N : Nat) (e : Ending) (w' : World) : Prop :=
  ∃ x : Wd, e = .returned (.agg #[.string x.n, .int .i64 x.k, .int .i64 x.v]) ∧ Drawn1 x ∧ Src w' b a len cap zs N ∧ w.grownBy w' (some b)

theorem cells_gb {W W' : World} {b : Nat} (hg : W.grownBy W' (some b)) {g i : Nat} {u : Value} (h : W.cell? ⟨g, i, none⟩ = some u) (hne : g ≠ b) : W'.cell? ⟨g, i, none⟩ = some u := hg.cell h (by simpa using hne)

theorem frozen_gb {W W' : World} {b : Nat} (hg : W.grownBy W' (some b)) {g i : Nat} (hlt : g < W.heap.size) (h : W.frozen? ⟨g, i, none⟩ = false) (hne : g ≠ b) : W'.frozen? ⟨g, i, none⟩ = false := by
  rw [World.frozen?_of_block (hg.block g hlt (by simpa using hne))]; exact h

set_option maxRecDepth 100000 in
set_option maxHeartbeats 4000000 in
theorem userWord_any (b : Nat) (a : Option Addr) (len cap : Nat) (zs : List Int) (N : Nat) (w : World) (h : Src w b a len cap zs N) (hN : N ≤ 100000) :
    Calls Tryd.prog 35 #[.pointer (some ⟨b, 0, none⟩)] w (WordDrewW w b a len cap zs (N + 7)) := by
  have hb := src_lt h
  have HA := Lib.hid (src_code_lt h)
  have H := Lib.hid h
  clear h
  go_enter Tryd.func35, Tryd.ntmps35
  have T2 : Txts ((w.alloc (.cells #[.string ⟨#[]⟩, .int .i64 0, .int .i64 0] 26)).alloc (.cells (unames.map strV).toArray 9)) (w.heap.size + 1) unames := by have h := txts_lit (w.alloc (.cells #[.string ⟨#[]⟩, .int .i64 0, .int .i64 0] 26)) unames; simpa using h
  have PK := Lib.hid (pick_any b a len cap zs N (w.heap.size + 1) 6 unames _ (src_alloc (src_alloc H.out (.cells #[.string ⟨#[]⟩, .int .i64 0, .int .i64 0] 26)) (.cells (unames.map strV).toArray 9)) (by unfold Few; omega) T2 (by omega) (by decide) (by decide))
  have R0 : ((w.alloc (.cells #[.string ⟨#[]⟩, .int .i64 0, .int .i64 0] 26)).alloc (.cells (unames.map strV).toArray 9)).cell? ⟨w.heap.size, 0, none⟩ = some (.string ⟨#[]⟩) := by simp
  have R1 : ((w.alloc (.cells #[.string ⟨#[]⟩, .int .i64 0, .int .i64 0] 26)).alloc (.cells (unames.map strV).toArray 9)).cell? ⟨w.heap.size, 1, none⟩ = some (.int .i64 0) := by simp
  have R2 : ((w.alloc (.cells #[.string ⟨#[]⟩, .int .i64 0, .int .i64 0] 26)).alloc (.cells (unames.map strV).toArray 9)).cell? ⟨w.heap.size, 2, none⟩ = some (.int .i64 0) := by simp
  have F0 : ∀ i, ((w.alloc (.cells #[.string ⟨#[]⟩, .int .i64 0, .int .i64 0] 26)).alloc (.cells (unames.map strV).toArray 9)).frozen? ⟨w.heap.size, i, none⟩ = false := fun i => by simp
  have zV : w.heap.size < ((w.alloc (.cells #[.string ⟨#[]⟩, .int .i64 0, .int .i64 0] 26)).alloc (.cells (unames.map strV).toArray 9)).heap.size := by simp; omega
  have GV : w.grownBy ((w.alloc (.cells #[.string ⟨#[]⟩, .int .i64 0, .int .i64 0] 26)).alloc (.cells (unames.map strV).toArray 9)) (some b) := gb_alloc (gb_alloc (World.grownBy.refl _ _) _) _
  clear T2
  go_wp2_with fail
  refine PK.out.mono ?_
  rintro e w1 ⟨p, hp, rfl, hs1, hg1⟩
  have HP := Lib.hid hp
  have S1 := Lib.hid hs1
  have G1 := Lib.hid (grown_trans GV hg1)
  have Q0 := Lib.hid (And.intro (cells_gb hg1 R0 (by omega)) (And.intro (cells_gb hg1 R1 (by omega)) (cells_gb hg1 R2 (by omega))))
  have Q1 := Lib.hid (fun i => frozen_gb hg1 zV (F0 i) (by omega))
  have z1 : w.heap.size < w1.heap.size := by have := hg1.size; omega
  clear hp hs1 hg1 PK R0 R1 R2 F0 GV
  go_wp2_with fail
  refine (next_small _ _ _ _ _ _ _ _ S1.out (by unfold Few; omega) (by omega) (by omega)).mono ?_
  rintro e w2 ⟨k, hk, rfl, hs2, hg2⟩
  obtain ⟨k0, k1⟩ := hk
  have S2 := Lib.hid hs2
  have G2 := Lib.hid (grown_trans G1.out hg2)
  have Q2 := Lib.hid (And.intro (cells_gb hg2 Q0.out.1 (by omega)) (And.intro (cells_gb hg2 Q0.out.2.1 (by omega)) (cells_gb hg2 Q0.out.2.2 (by omega))))
  have Q3 := Lib.hid (fun i => frozen_gb hg2 z1 (Q1.out i) (by omega))
  have z2 : w.heap.size < w2.heap.size := by have := hg2.size; omega
  clear hs2 hg2 Q0 Q1 S1 G1
  generalize hn : (⟨p.toArray⟩ : ByteArray) = n at *
  have HN := Lib.hid hn
  clear hn
  rcases (by omega : k = 0 ∨ k = 1 ∨ k = 2) with rfl | rfl | rfl
  · have XB : Hid (Src (w2.alloc (.cells #[.string n, .int .i64 6, .int .i64 0] 26)) b a len cap zs (N + 1 + 1)) := Lib.hid (src_alloc S2.out _)
    have y0 : (w2.alloc (.cells #[.string n, .int .i64 6, .int .i64 0] 26)).cell? ⟨w2.heap.size, 0, none⟩ = some (.string n) := by simp
    have y1 : (w2.alloc (.cells #[.string n, .int .i64 6, .int .i64 0] 26)).cell? ⟨w2.heap.size, 1, none⟩ = some (.int .i64 6) := by simp
    have y2 : (w2.alloc (.cells #[.string n, .int .i64 6, .int .i64 0] 26)).cell? ⟨w2.heap.size, 2, none⟩ = some (.int .i64 0) := by simp
    have yf : (w2.alloc (.cells #[.string n, .int .i64 6, .int .i64 0] 26)).frozen? ⟨w2.heap.size, 2, none⟩ = false := by simp
    have r0 := cells_below (below_alloc (Below.refl _ _) (.cells #[.string n, .int .i64 6, .int .i64 0] 26)) _ _ Q2.out.1
    have r1 := cells_below (below_alloc (Below.refl _ _) (.cells #[.string n, .int .i64 6, .int .i64 0] 26)) _ _ Q2.out.2.1
    have r2 := cells_below (below_alloc (Below.refl _ _) (.cells #[.string n, .int .i64 6, .int .i64 0] 26)) _ _ Q2.out.2.2
    have rf : ∀ i, (w2.alloc (.cells #[.string n, .int .i64 6, .int .i64 0] 26)).frozen? ⟨w.heap.size, i, none⟩ = false := fun i => by rw [(below_alloc (Below.refl _ _) _).frozen (p := ⟨w.heap.size, i, none⟩) z2]; exact Q3.out i
    have zX : w2.heap.size < (w2.alloc (.cells #[.string n, .int .i64 6, .int .i64 0] 26)).heap.size := by simp
    have YY := Lib.hid (And.intro y0 (And.intro y1 (And.intro y2 yf)))
    have RR := Lib.hid (And.intro r0 (And.intro r1 (And.intro r2 rf)))
    have GX : Hid (w.grownBy (w2.alloc (.cells #[.string n, .int .i64 6, .int .i64 0] 26)) (some b)) := Lib.hid (gb_alloc G2.out _)
    clear y0 y1 y2 yf r0 r1 r2 rf
    go_wp2_with fail
    refine (next_small _ _ _ _ _ _ _ _ XB.out (by unfold Few; omega) (by omega) (by omega)).mono ?_
    rintro e w3 ⟨v, hv, rfl, hs3, hg3⟩
    obtain ⟨v0, v1⟩ := hv
    have S3 := Lib.hid hs3
    have G3 := Lib.hid (grown_trans GX.out hg3)
    have y0 := cells_gb hg3 YY.out.1 (by omega)
    have y1 := cells_gb hg3 YY.out.2.1 (by omega)
    have y2 := cells_gb hg3 YY.out.2.2.1 (by omega)
    have yf := frozen_gb hg3 zX YY.out.2.2.2 (by omega)
    have r0 := cells_gb hg3 RR.out.1 (by omega)
    have r1 := cells_gb hg3 RR.out.2.1 (by omega)
    have r2 := cells_gb hg3 RR.out.2.2.1 (by omega)
    have f0 := frozen_gb hg3 (by omega : w.heap.size < _) (RR.out.2.2.2 0) (by omega)
    have f1 := frozen_gb hg3 (by omega : w.heap.size < _) (RR.out.2.2.2 1) (by omega)
    have f2 := frozen_gb hg3 (by omega : w.heap.size < _) (RR.out.2.2.2 2) (by omega)
    have z3 : w2.heap.size < w3.heap.size := by have := hg3.size; omega
    have DW : Hid (Drawn1 ⟨n, 6, v⟩) := Lib.hid (by rw [← HN.out]; exact drawn1 HP.out (val_colon v0 (by omega)))
    have B3 : Hid (Below w.heap.size w3 w3) := Lib.hid (Below.refl _ _)
    clear hs3 hg3 YY RR GX
    go_wp2
    refine bodyPost_ret (v := .agg #[.string n, .int .i64 6, .int .i64 (v)]) (by simp [results, Tryd.results35, go_sem, *]) rfl ⟨⟨n, 6, v⟩, rfl, DW.out, src_mono (src_lo S3.out hb HA.out ?_) (by omega), ?_⟩
    · repeat (first | with_reducible exact B3.out | with_reducible refine Below.setCell ?_ (by simp; try omega) _)
    · repeat (first | with_reducible exact G3.out | with_reducible refine gb_set ?_ (by simp; try omega) _)
  · have XB : Hid (Src (w2.alloc (.cells #[.string n, .int .i64 7, .int .i64 0] 26)) b a len cap zs (N + 1 + 1)) := Lib.hid (src_alloc S2.out _)
    have y0 : (w2.alloc (.cells #[.string n, .int .i64 7, .int .i64 0] 26)).cell? ⟨w2.heap.size, 0, none⟩ = some (.string n) := by simp
    have y1 : (w2.alloc (.cells #[.string n, .int .i64 7, .int .i64 0] 26)).cell? ⟨w2.heap.size, 1, none⟩ = some (.int .i64 7) := by simp
    have y2 : (w2.alloc (.cells #[.string n, .int .i64 7, .int .i64 0] 26)).cell? ⟨w2.heap.size, 2, none⟩ = some (.int .i64 0) := by simp
    have yf : (w2.alloc (.cells #[.string n, .int .i64 7, .int .i64 0] 26)).frozen? ⟨w2.heap.size, 2, none⟩ = false := by simp
    have r0 := cells_below (below_alloc (Below.refl _ _) (.cells #[.string n, .int .i64 7, .int .i64 0] 26)) _ _ Q2.out.1
    have r1 := cells_below (below_alloc (Below.refl _ _) (.cells #[.string n, .int .i64 7, .int .i64 0] 26)) _ _ Q2.out.2.1
    have r2 := cells_below (below_alloc (Below.refl _ _) (.cells #[.string n, .int .i64 7, .int .i64 0] 26)) _ _ Q2.out.2.2
    have rf : ∀ i, (w2.alloc (.cells #[.string n, .int .i64 7, .int .i64 0] 26)).frozen? ⟨w.heap.size, i, none⟩ = false := fun i => by rw [(below_alloc (Below.refl _ _) _).frozen (p := ⟨w.heap.size, i, none⟩) z2]; exact Q3.out i
    have zX : w2.heap.size < (w2.alloc (.cells #[.string n, .int .i64 7, .int .i64 0] 26)).heap.size := by simp
    have YY := Lib.hid (And.intro y0 (And.intro y1 (And.intro y2 yf)))
    have RR := Lib.hid (And.intro r0 (And.intro r1 (And.intro r2 rf)))
    have GX : Hid (w.grownBy (w2.alloc (.cells #[.string n, .int .i64 7, .int .i64 0] 26)) (some b)) := Lib.hid (gb_alloc G2.out _)
    clear y0 y1 y2 yf r0 r1 r2 rf
    go_wp2_with fail
    refine (next_small _ _ _ _ _ _ _ _ XB.out (by unfold Few; omega) (by omega) (by omega)).mono ?_
    rintro e w3 ⟨v, hv, rfl, hs3, hg3⟩
    obtain ⟨v0, v1⟩ := hv
    have S3 := Lib.hid hs3
    have G3 := Lib.hid (grown_trans GX.out hg3)
    have y0 := cells_gb hg3 YY.out.1 (by omega)
    have y1 := cells_gb hg3 YY.out.2.1 (by omega)
    have y2 := cells_gb hg3 YY.out.2.2.1 (by omega)
    have yf := frozen_gb hg3 zX YY.out.2.2.2 (by omega)
    have r0 := cells_gb hg3 RR.out.1 (by omega)
    have r1 := cells_gb hg3 RR.out.2.1 (by omega)
    have r2 := cells_gb hg3 RR.out.2.2.1 (by omega)
    have f0 := frozen_gb hg3 (by omega : w.heap.size < _) (RR.out.2.2.2 0) (by omega)
    have f1 := frozen_gb hg3 (by omega : w.heap.size < _) (RR.out.2.2.2 1) (by omega)
    have f2 := frozen_gb hg3 (by omega : w.heap.size < _) (RR.out.2.2.2 2) (by omega)
    have z3 : w2.heap.size < w3.heap.size := by have := hg3.size; omega
    have DW : Hid (Drawn1 ⟨n, 7, 4096 + 4 * v⟩) := Lib.hid (by rw [← HN.out]; exact drawn1 HP.out (val_var v0 (by omega)))
    have B3 : Hid (Below w.heap.size w3 w3) := Lib.hid (Below.refl _ _)
    clear hs3 hg3 YY RR GX
    go_wp2
    refine bodyPost_ret (v := .agg #[.string n, .int .i64 7, .int .i64 (4096 + 4 * v)]) (by simp [results, Tryd.results35, go_sem, *]) rfl ⟨⟨n, 7, 4096 + 4 * v⟩, rfl, DW.out, src_mono (src_lo S3.out hb HA.out ?_) (by omega), ?_⟩
    · repeat (first | with_reducible exact B3.out | with_reducible refine Below.setCell ?_ (by simp; try omega) _)
    · repeat (first | with_reducible exact G3.out | with_reducible refine gb_set ?_ (by simp; try omega) _)
  · have XB : Hid (Src (w2.alloc (.cells #[.string n, .int .i64 8, .int .i64 0] 26)) b a len cap zs (N + 1 + 1)) := Lib.hid (src_alloc S2.out _)
    have y0 : (w2.alloc (.cells #[.string n, .int .i64 8, .int .i64 0] 26)).cell? ⟨w2.heap.size, 0, none⟩ = some (.string n) := by simp
    have y1 : (w2.alloc (.cells #[.string n, .int .i64 8, .int .i64 0] 26)).cell? ⟨w2.heap.size, 1, none⟩ = some (.int .i64 8) := by simp
    have y2 : (w2.alloc (.cells #[.string n, .int .i64 8, .int .i64 0] 26)).cell? ⟨w2.heap.size, 2, none⟩ = some (.int .i64 0) := by simp
    have yf : (w2.alloc (.cells #[.string n, .int .i64 8, .int .i64 0] 26)).frozen? ⟨w2.heap.size, 2, none⟩ = false := by simp
    have r0 := cells_below (below_alloc (Below.refl _ _) (.cells #[.string n, .int .i64 8, .int .i64 0] 26)) _ _ Q2.out.1
    have r1 := cells_below (below_alloc (Below.refl _ _) (.cells #[.string n, .int .i64 8, .int .i64 0] 26)) _ _ Q2.out.2.1
    have r2 := cells_below (below_alloc (Below.refl _ _) (.cells #[.string n, .int .i64 8, .int .i64 0] 26)) _ _ Q2.out.2.2
    have rf : ∀ i, (w2.alloc (.cells #[.string n, .int .i64 8, .int .i64 0] 26)).frozen? ⟨w.heap.size, i, none⟩ = false := fun i => by rw [(below_alloc (Below.refl _ _) _).frozen (p := ⟨w.heap.size, i, none⟩) z2]; exact Q3.out i
    have zX : w2.heap.size < (w2.alloc (.cells #[.string n, .int .i64 8, .int .i64 0] 26)).heap.size := by simp
    have YY := Lib.hid (And.intro y0 (And.intro y1 (And.intro y2 yf)))
    have RR := Lib.hid (And.intro r0 (And.intro r1 (And.intro r2 rf)))
    have GX : Hid (w.grownBy (w2.alloc (.cells #[.string n, .int .i64 8, .int .i64 0] 26)) (some b)) := Lib.hid (gb_alloc G2.out _)
    clear y0 y1 y2 yf r0 r1 r2 rf
    go_wp2_with fail
    refine (cell_any _ _ _ _ _ _ _ XB.out (by unfold Few; omega)).mono ?_
    rintro e w3 ⟨v, hv, rfl, hs3, hg3⟩
    obtain ⟨v0, v1⟩ := hv
    have S3 := Lib.hid hs3
    have G3 := Lib.hid (grown_trans GX.out hg3)
    have y0 := cells_gb hg3 YY.out.1 (by omega)
    have y1 := cells_gb hg3 YY.out.2.1 (by omega)
    have y2 := cells_gb hg3 YY.out.2.2.1 (by omega)
    have yf := frozen_gb hg3 zX YY.out.2.2.2 (by omega)
    have r0 := cells_gb hg3 RR.out.1 (by omega)
    have r1 := cells_gb hg3 RR.out.2.1 (by omega)
    have r2 := cells_gb hg3 RR.out.2.2.1 (by omega)
    have f0 := frozen_gb hg3 (by omega : w.heap.size < _) (RR.out.2.2.2 0) (by omega)
    have f1 := frozen_gb hg3 (by omega : w.heap.size < _) (RR.out.2.2.2 1) (by omega)
    have f2 := frozen_gb hg3 (by omega : w.heap.size < _) (RR.out.2.2.2 2) (by omega)
    have z3 : w2.heap.size < w3.heap.size := by have := hg3.size; omega
    have DW : Hid (Drawn1 ⟨n, 8, v⟩) := Lib.hid (by rw [← HN.out]; exact drawn1 HP.out (val_const v0 v1))
    have B3 : Hid (Below w.heap.size w3 w3) := Lib.hid (Below.refl _ _)
    clear hs3 hg3 YY RR GX
    go_wp2
    refine bodyPost_ret (v := .agg #[.string n, .int .i64 8, .int .i64 (v)]) (by simp [results, Tryd.results35, go_sem, *]) rfl ⟨⟨n, 8, v⟩, rfl, DW.out, src_mono (src_lo S3.out hb HA.out ?_) (by omega), ?_⟩
    · repeat (first | with_reducible exact B3.out | with_reducible refine Below.setCell ?_ (by simp; try omega) _)
    · repeat (first | with_reducible exact G3.out | with_reducible refine gb_set ?_ (by simp; try omega) _)

end Go.Proofs.YtdinnhebaldnaaaDoor
