/- PkL: several of my texts, laid together: TblA. -/
import Derived.Test.YthnbaeamekolmaaGreatDoorPkF
import Derived.Great.BuildSlice
namespace Go.Proofs.YthnbaeamekolmaaGreatDoor
open Go.RowKit
set_option linter.unusedVariables false
set_option linter.unusedSimpArgs false

/-- What a maker of effects leaves. -/
def MadeE (E : World → Value → Nat → Prop) (p : Nat) (w : World) (e : Ending) (w' : World) : Prop := ∃ (f : FuncId) (cap : Array Value), e = .returned (.func (.func f) #[] cap) ∧ E w' (.func (.func f) #[] cap) p ∧ Below w.heap.size w w'

/-- What is asked of the makers. -/
structure Makers (E : World → Value → Nat → Prop) : Prop where
  mono : ∀ w w' v p, E w v p → Below w.heap.size w w' → E w' v p
  pick : ∀ p L, (p = 1 ∧ L = [0, 0]) ∨ (p = 2 ∧ L = []) ∨ (p = 3 ∧ L = [1, 0]) ∨ (p = 4 ∧ L = [0, 1, 0]) ∨ (p = 5 ∧ L = [1, 2, 0]) ∨ (p = 6 ∧ L = [1]) ∨ (p = 7 ∧ L = [1, 0, 1]) ∨ (p = 9 ∧ L = [0, 1, 0, 1]) ∨ (p = 10 ∧ L = []) ∨ (p = 52 ∧ L = []) → ∀ w sv, Ints w sv L → Calls Tryz.prog 103 #[sv] w (MadeE E p w)
  op : ∀ (p : Nat) (n : Int), n = (p : Int) - 14 → 15 ≤ p → p ≤ 24 → ∀ w, Calls Tryz.prog 108 #[.int .i64 n] w (MadeE E p w)
  one : ∀ p f, (p = 25 ∧ f = 110) ∨ (p = 26 ∧ f = 111) ∨ (p = 27 ∧ f = 112) ∨ (p = 28 ∧ f = 113) ∨ (p = 29 ∧ f = 114) → ∀ w, Calls Tryz.prog 109 #[.func (.func f) #[] #[]] w (MadeE E p w)
  two : ∀ p f, (p = 30 ∧ f = 116) ∨ (p = 31 ∧ f = 117) ∨ (p = 36 ∧ f = 119) → ∀ w, Calls Tryz.prog 115 #[.func (.func f) #[] #[]] w (MadeE E p w)
  cmp : ∀ (p : Nat) (t : Int), (p = 32 ∧ t = 0) ∨ (p = 33 ∧ t = 1) ∨ (p = 34 ∧ t = 2) ∨ (p = 35 ∧ t = 3) → ∀ w, Calls Tryz.prog 118 #[.int .i64 t] w (MadeE E p w)
  cz : ∀ (p : Nat) (t : Int), (p = 37 ∧ t = 0) ∨ (p = 38 ∧ t = 2) → ∀ w, Calls Tryz.prog 120 #[.int .i64 t] w (MadeE E p w)
  text : ∀ p s, (p = 47 ∧ s = ⟨#[10]⟩) ∨ (p = 48 ∧ s = ⟨#[32]⟩) → ∀ w, Calls Tryz.prog 129 #[.string s] w (MadeE E p w)
  base : ∀ (p : Nat) (n : Int), (p = 49 ∧ n = 10) ∨ (p = 50 ∧ n = 16) → ∀ w, Calls Tryz.prog 130 #[.int .i64 n] w (MadeE E p w)
  fn : ∀ p f, (p = 8 ∧ f = 104) ∨ (p = 11 ∧ f = 105) ∨ (p = 12 ∧ f = 106) ∨ (p = 13 ∧ f = 107) ∨ (p = 14 ∧ f = 107) ∨ (p = 39 ∧ f = 121) ∨ (p = 40 ∧ f = 122) ∨ (p = 41 ∧ f = 123) ∨ (p = 42 ∧ f = 124) ∨ (p = 43 ∧ f = 125) ∨ (p = 44 ∧ f = 126) ∨ (p = 45 ∧ f = 127) ∨ (p = 46 ∧ f = 128) ∨ (p = 51 ∧ f = 107) → ∀ w, E w (.func (.func f) #[] #[]) p

/-- A primitive in a block: how many cells it takes, needs, drops, and its effect. -/
def PrimAt (w : World) (ad : Addr) (t n k : Nat) (fv : Value) : Prop :=
  w.cell? ad = some (.int .i64 t) ∧ w.cell? ⟨ad.block, ad.off + 1, none⟩ = some (.int .i64 n) ∧ w.cell? ⟨ad.block, ad.off + 1 + 1, none⟩ = some (.int .i64 k) ∧ w.cell? ⟨ad.block, ad.off + 1 + 1 + 1, none⟩ = some fv

/-- The table of primitives. -/
def TabOf (E : World → Value → Nat → Prop) (w : World) (v : Value) : Prop :=
  ∃ g, v = .slice (some ⟨g, 0, none⟩) 52 52 ∧ ∀ p, 1 ≤ p → p ≤ 52 → ∃ fv, PrimAt w ⟨g, (p - 1) * 4, none⟩ (takesP p) (needsP p) (dropsP p) fv ∧ E w fv p

theorem ints_lit (w : World) (zs : List Int) (hl : zs.length ≤ maxLen) : Ints (w.alloc (.cells (zs.map (Value.int .i64)).toArray 3)) (.slice (some ⟨w.heap.size, 0, none⟩) zs.length zs.length) zs :=
  row_ints (base := 0) (row_whole (whole_new w _ _) (Nat.zero_le _) hl)

theorem prim_info : (Tryz.prog.info? 108).map (fun i => (i.zero, i.size, i.bytes)) = some (some (.agg #[.int .i64 0, .int .i64 0, .int .i64 0, .nilFunc]), 4, 32) := by kernel_rfl

/-- The table's cells. -/
def tblCells (f1 f2 f3 f4 f5 f6 f7 f9 f10 f15 f16 f17 f18 f19 f20 f21 f22 f23 f24 f25 f26 f27 f28 f29 f30 f31 f32 f33 f34 f35 f36 f37 f38 f47 f48 f49 f50 f52 : FuncId) (c1 c2 c3 c4 c5 c6 c7 c9 c10 c15 c16 c17 c18 c19 c20 c21 c22 c23 c24 c25 c26 c27 c28 c29 c30 c31 c32 c33 c34 c35 c36 c37 c38 c47 c48 c49 c50 c52 : Array Value) : Array Value := #[.int .i64 1, .int .i64 0, .int .i64 0, .func (.func f1) #[] c1, .int .i64 1, .int .i64 0, .int .i64 0, .func (.func f2) #[] c2, .int .i64 2, .int .i64 0, .int .i64 0, .func (.func f3) #[] c3, .int .i64 2, .int .i64 0, .int .i64 0, .func (.func f4) #[] c4, .int .i64 3, .int .i64 0, .int .i64 0, .func (.func f5) #[] c5, .int .i64 2, .int .i64 0, .int .i64 0, .func (.func f6) #[] c6, .int .i64 2, .int .i64 0, .int .i64 0, .func (.func f7) #[] c7, .int .i64 1, .int .i64 0, .int .i64 0, .func (.func 104) #[] #[], .int .i64 2, .int .i64 0, .int .i64 0, .func (.func f9) #[] c9, .int .i64 2, .int .i64 0, .int .i64 0, .func (.func f10) #[] c10, .int .i64 0, .int .i64 0, .int .i64 0, .func (.func 105) #[] #[], .int .i64 1, .int .i64 0, .int .i64 0, .func (.func 106) #[] #[], .int .i64 0, .int .i64 1, .int .i64 1, .func (.func 107) #[] #[], .int .i64 0, .int .i64 1, .int .i64 0, .func (.func 107) #[] #[], .int .i64 2, .int .i64 0, .int .i64 0, .func (.func f15) #[] c15, .int .i64 2, .int .i64 0, .int .i64 0, .func (.func f16) #[] c16, .int .i64 2, .int .i64 0, .int .i64 0, .func (.func f17) #[] c17, .int .i64 2, .int .i64 0, .int .i64 0, .func (.func f18) #[] c18, .int .i64 2, .int .i64 0, .int .i64 0, .func (.func f19) #[] c19, .int .i64 2, .int .i64 0, .int .i64 0, .func (.func f20) #[] c20, .int .i64 2, .int .i64 0, .int .i64 0, .func (.func f21) #[] c21, .int .i64 2, .int .i64 0, .int .i64 0, .func (.func f22) #[] c22, .int .i64 2, .int .i64 0, .int .i64 0, .func (.func f23) #[] c23, .int .i64 2, .int .i64 0, .int .i64 0, .func (.func f24) #[] c24, .int .i64 1, .int .i64 0, .int .i64 0, .func (.func f25) #[] c25, .int .i64 1, .int .i64 0, .int .i64 0, .func (.func f26) #[] c26, .int .i64 1, .int .i64 0, .int .i64 0, .func (.func f27) #[] c27, .int .i64 1, .int .i64 0, .int .i64 0, .func (.func f28) #[] c28, .int .i64 1, .int .i64 0, .int .i64 0, .func (.func f29) #[] c29, .int .i64 2, .int .i64 0, .int .i64 0, .func (.func f30) #[] c30, .int .i64 2, .int .i64 0, .int .i64 0, .func (.func f31) #[] c31, .int .i64 2, .int .i64 0, .int .i64 0, .func (.func f32) #[] c32, .int .i64 2, .int .i64 0, .int .i64 0, .func (.func f33) #[] c33, .int .i64 2, .int .i64 0, .int .i64 0, .func (.func f34) #[] c34, .int .i64 2, .int .i64 0, .int .i64 0, .func (.func f35) #[] c35, .int .i64 2, .int .i64 0, .int .i64 0, .func (.func f36) #[] c36, .int .i64 1, .int .i64 0, .int .i64 0, .func (.func f37) #[] c37, .int .i64 1, .int .i64 0, .int .i64 0, .func (.func f38) #[] c38, .int .i64 1, .int .i64 0, .int .i64 0, .func (.func 121) #[] #[], .int .i64 2, .int .i64 0, .int .i64 0, .func (.func 122) #[] #[], .int .i64 2, .int .i64 0, .int .i64 0, .func (.func 123) #[] #[], .int .i64 0, .int .i64 0, .int .i64 0, .func (.func 124) #[] #[], .int .i64 1, .int .i64 0, .int .i64 0, .func (.func 125) #[] #[], .int .i64 1, .int .i64 0, .int .i64 0, .func (.func 126) #[] #[], .int .i64 1, .int .i64 0, .int .i64 0, .func (.func 127) #[] #[], .int .i64 1, .int .i64 0, .int .i64 0, .func (.func 128) #[] #[], .int .i64 0, .int .i64 0, .int .i64 0, .func (.func f47) #[] c47, .int .i64 0, .int .i64 0, .int .i64 0, .func (.func f48) #[] c48, .int .i64 0, .int .i64 0, .int .i64 0, .func (.func f49) #[] c49, .int .i64 0, .int .i64 0, .int .i64 0, .func (.func f50) #[] c50, .int .i64 0, .int .i64 1, .int .i64 0, .func (.func 107) #[] #[], .int .i64 0, .int .i64 2, .int .i64 2, .func (.func f52) #[] c52]

set_option maxRecDepth 1000000 in
set_option maxHeartbeats 4000000 in
theorem tbl_fill (f1 f2 f3 f4 f5 f6 f7 f9 f10 f15 f16 f17 f18 f19 f20 f21 f22 f23 f24 f25 f26 f27 f28 f29 f30 f31 f32 f33 f34 f35 f36 f37 f38 f47 f48 f49 f50 f52 : FuncId) (c1 c2 c3 c4 c5 c6 c7 c9 c10 c15 c16 c17 c18 c19 c20 c21 c22 c23 c24 c25 c26 c27 c28 c29 c30 c31 c32 c33 c34 c35 c36 c37 c38 c47 c48 c49 c50 c52 : Array Value) : Instr.fill (fun i => some (i * 4, 4)) ((Array.range (52 * 4)).map ((Value.agg #[.int .i64 0, .int .i64 0, .int .i64 0, .nilFunc]).cells[· % (Value.agg #[.int .i64 0, .int .i64 0, .int .i64 0, .nilFunc]).cells.size]!)) [(0, .agg #[.int .i64 1, .int .i64 0, .int .i64 0, .func (.func f1) #[] c1]), (1, .agg #[.int .i64 1, .int .i64 0, .int .i64 0, .func (.func f2) #[] c2]), (2, .agg #[.int .i64 2, .int .i64 0, .int .i64 0, .func (.func f3) #[] c3]), (3, .agg #[.int .i64 2, .int .i64 0, .int .i64 0, .func (.func f4) #[] c4]), (4, .agg #[.int .i64 3, .int .i64 0, .int .i64 0, .func (.func f5) #[] c5]), (5, .agg #[.int .i64 2, .int .i64 0, .int .i64 0, .func (.func f6) #[] c6]), (6, .agg #[.int .i64 2, .int .i64 0, .int .i64 0, .func (.func f7) #[] c7]), (7, .agg #[.int .i64 1, .int .i64 0, .int .i64 0, .func (.func 104) #[] #[]]), (8, .agg #[.int .i64 2, .int .i64 0, .int .i64 0, .func (.func f9) #[] c9]), (9, .agg #[.int .i64 2, .int .i64 0, .int .i64 0, .func (.func f10) #[] c10]), (10, .agg #[.int .i64 0, .int .i64 0, .int .i64 0, .func (.func 105) #[] #[]]), (11, .agg #[.int .i64 1, .int .i64 0, .int .i64 0, .func (.func 106) #[] #[]]), (12, .agg #[.int .i64 0, .int .i64 1, .int .i64 1, .func (.func 107) #[] #[]]), (13, .agg #[.int .i64 0, .int .i64 1, .int .i64 0, .func (.func 107) #[] #[]]), (14, .agg #[.int .i64 2, .int .i64 0, .int .i64 0, .func (.func f15) #[] c15]), (15, .agg #[.int .i64 2, .int .i64 0, .int .i64 0, .func (.func f16) #[] c16]), (16, .agg #[.int .i64 2, .int .i64 0, .int .i64 0, .func (.func f17) #[] c17]), (17, .agg #[.int .i64 2, .int .i64 0, .int .i64 0, .func (.func f18) #[] c18]), (18, .agg #[.int .i64 2, .int .i64 0, .int .i64 0, .func (.func f19) #[] c19]), (19, .agg #[.int .i64 2, .int .i64 0, .int .i64 0, .func (.func f20) #[] c20]), (20, .agg #[.int .i64 2, .int .i64 0, .int .i64 0, .func (.func f21) #[] c21]), (21, .agg #[.int .i64 2, .int .i64 0, .int .i64 0, .func (.func f22) #[] c22]), (22, .agg #[.int .i64 2, .int .i64 0, .int .i64 0, .func (.func f23) #[] c23]), (23, .agg #[.int .i64 2, .int .i64 0, .int .i64 0, .func (.func f24) #[] c24]), (24, .agg #[.int .i64 1, .int .i64 0, .int .i64 0, .func (.func f25) #[] c25]), (25, .agg #[.int .i64 1, .int .i64 0, .int .i64 0, .func (.func f26) #[] c26]), (26, .agg #[.int .i64 1, .int .i64 0, .int .i64 0, .func (.func f27) #[] c27]), (27, .agg #[.int .i64 1, .int .i64 0, .int .i64 0, .func (.func f28) #[] c28]), (28, .agg #[.int .i64 1, .int .i64 0, .int .i64 0, .func (.func f29) #[] c29]), (29, .agg #[.int .i64 2, .int .i64 0, .int .i64 0, .func (.func f30) #[] c30]), (30, .agg #[.int .i64 2, .int .i64 0, .int .i64 0, .func (.func f31) #[] c31]), (31, .agg #[.int .i64 2, .int .i64 0, .int .i64 0, .func (.func f32) #[] c32]), (32, .agg #[.int .i64 2, .int .i64 0, .int .i64 0, .func (.func f33) #[] c33]), (33, .agg #[.int .i64 2, .int .i64 0, .int .i64 0, .func (.func f34) #[] c34]), (34, .agg #[.int .i64 2, .int .i64 0, .int .i64 0, .func (.func f35) #[] c35]), (35, .agg #[.int .i64 2, .int .i64 0, .int .i64 0, .func (.func f36) #[] c36]), (36, .agg #[.int .i64 1, .int .i64 0, .int .i64 0, .func (.func f37) #[] c37]), (37, .agg #[.int .i64 1, .int .i64 0, .int .i64 0, .func (.func f38) #[] c38]), (38, .agg #[.int .i64 1, .int .i64 0, .int .i64 0, .func (.func 121) #[] #[]]), (39, .agg #[.int .i64 2, .int .i64 0, .int .i64 0, .func (.func 122) #[] #[]]), (40, .agg #[.int .i64 2, .int .i64 0, .int .i64 0, .func (.func 123) #[] #[]]), (41, .agg #[.int .i64 0, .int .i64 0, .int .i64 0, .func (.func 124) #[] #[]]), (42, .agg #[.int .i64 1, .int .i64 0, .int .i64 0, .func (.func 125) #[] #[]]), (43, .agg #[.int .i64 1, .int .i64 0, .int .i64 0, .func (.func 126) #[] #[]]), (44, .agg #[.int .i64 1, .int .i64 0, .int .i64 0, .func (.func 127) #[] #[]]), (45, .agg #[.int .i64 1, .int .i64 0, .int .i64 0, .func (.func 128) #[] #[]]), (46, .agg #[.int .i64 0, .int .i64 0, .int .i64 0, .func (.func f47) #[] c47]), (47, .agg #[.int .i64 0, .int .i64 0, .int .i64 0, .func (.func f48) #[] c48]), (48, .agg #[.int .i64 0, .int .i64 0, .int .i64 0, .func (.func f49) #[] c49]), (49, .agg #[.int .i64 0, .int .i64 0, .int .i64 0, .func (.func f50) #[] c50]), (50, .agg #[.int .i64 0, .int .i64 1, .int .i64 0, .func (.func 107) #[] #[]]), (51, .agg #[.int .i64 0, .int .i64 2, .int .i64 2, .func (.func f52) #[] c52])] = some (tblCells f1 f2 f3 f4 f5 f6 f7 f9 f10 f15 f16 f17 f18 f19 f20 f21 f22 f23 f24 f25 f26 f27 f28 f29 f30 f31 f32 f33 f34 f35 f36 f37 f38 f47 f48 f49 f50 f52 c1 c2 c3 c4 c5 c6 c7 c9 c10 c15 c16 c17 c18 c19 c20 c21 c22 c23 c24 c25 c26 c27 c28 c29 c30 c31 c32 c33 c34 c35 c36 c37 c38 c47 c48 c49 c50 c52) := by
  unfold tblCells
  kernel_rfl

set_option maxRecDepth 1000000 in
set_option maxHeartbeats 8000000 in
theorem primTable_any (E : World → Value → Nat → Prop) (M : Makers E) (w : World) :
    Calls Tryz.prog 58 #[] w fun e w' => ∃ v, e = .returned v ∧ TabOf E w' v ∧ Below w.heap.size w w' := by
  have MM := Lib.hid M
  clear M
  go_enter Tryz.func58, Tryz.ntmps58
  go_wp2_with fail
  refine (MM.out.pick 1 [0, 0] (by decide) _ _ (by exact ints_lit w [0, 0] (by decide))).mono ?_
  rintro e w1 ⟨f1, c1, rfl, e1, hb⟩
  have E1 := Lib.hid e1
  have H1 : Hid (Below w.heap.size w w1) := Lib.hid (below_step (below_alloc (Below.refl _ _) _) hb)
  clear e1 hb
  go_wp2_with fail
  refine (MM.out.pick 2 [] (by decide) _ _ (by exact ints_nil w1)).mono ?_
  rintro e w2 ⟨f2, c2, rfl, e2, hb⟩
  have E2 := Lib.hid e2
  have H2 : Hid (Below w1.heap.size w1 w2) := Lib.hid (below_step (Below.refl _ _) hb)
  clear e2 hb
  go_wp2_with fail
  refine (MM.out.pick 3 [1, 0] (by decide) _ _ (by exact ints_lit w2 [1, 0] (by decide))).mono ?_
  rintro e w3 ⟨f3, c3, rfl, e3, hb⟩
  have E3 := Lib.hid e3
  have H3 : Hid (Below w2.heap.size w2 w3) := Lib.hid (below_step (below_alloc (Below.refl _ _) _) hb)
  clear e3 hb
  go_wp2_with fail
  refine (MM.out.pick 4 [0, 1, 0] (by decide) _ _ (by exact ints_lit w3 [0, 1, 0] (by decide))).mono ?_
  rintro e w4 ⟨f4, c4, rfl, e4, hb⟩
  have E4 := Lib.hid e4
  have H4 : Hid (Below w3.heap.size w3 w4) := Lib.hid (below_step (below_alloc (Below.refl _ _) _) hb)
  clear e4 hb
  go_wp2_with fail
  refine (MM.out.pick 5 [1, 2, 0] (by decide) _ _ (by exact ints_lit w4 [1, 2, 0] (by decide))).mono ?_
  rintro e w5 ⟨f5, c5, rfl, e5, hb⟩
  have E5 := Lib.hid e5
  have H5 : Hid (Below w4.heap.size w4 w5) := Lib.hid (below_step (below_alloc (Below.refl _ _) _) hb)
  clear e5 hb
  go_wp2_with fail
  refine (MM.out.pick 6 [1] (by decide) _ _ (by exact ints_lit w5 [1] (by decide))).mono ?_
  rintro e w6 ⟨f6, c6, rfl, e6, hb⟩
  have E6 := Lib.hid e6
  have H6 : Hid (Below w5.heap.size w5 w6) := Lib.hid (below_step (below_alloc (Below.refl _ _) _) hb)
  clear e6 hb
  go_wp2_with fail
  refine (MM.out.pick 7 [1, 0, 1] (by decide) _ _ (by exact ints_lit w6 [1, 0, 1] (by decide))).mono ?_
  rintro e w7 ⟨f7, c7, rfl, e7, hb⟩
  have E7 := Lib.hid e7
  have H7 : Hid (Below w6.heap.size w6 w7) := Lib.hid (below_step (below_alloc (Below.refl _ _) _) hb)
  clear e7 hb
  go_wp2_with fail
  refine (MM.out.pick 9 [0, 1, 0, 1] (by decide) _ _ (by exact ints_lit w7 [0, 1, 0, 1] (by decide))).mono ?_
  rintro e w8 ⟨f9, c9, rfl, e9, hb⟩
  have E9 := Lib.hid e9
  have H8 : Hid (Below w7.heap.size w7 w8) := Lib.hid (below_step (below_alloc (Below.refl _ _) _) hb)
  clear e9 hb
  go_wp2_with fail
  refine (MM.out.pick 10 [] (by decide) _ _ (by exact ints_nil w8)).mono ?_
  rintro e w9 ⟨f10, c10, rfl, e10, hb⟩
  have E10 := Lib.hid e10
  have H9 : Hid (Below w8.heap.size w8 w9) := Lib.hid (below_step (Below.refl _ _) hb)
  clear e10 hb
  go_wp2_with fail
  refine (MM.out.op 15 1 (by decide) (by decide) (by decide) _).mono ?_
  rintro e w10 ⟨f15, c15, rfl, e15, hb⟩
  have E15 := Lib.hid e15
  have H10 : Hid (Below w9.heap.size w9 w10) := Lib.hid (below_step (Below.refl _ _) hb)
  clear e15 hb
  go_wp2_with fail
  refine (MM.out.op 16 2 (by decide) (by decide) (by decide) _).mono ?_
  rintro e w11 ⟨f16, c16, rfl, e16, hb⟩
  have E16 := Lib.hid e16
  have H11 : Hid (Below w10.heap.size w10 w11) := Lib.hid (below_step (Below.refl _ _) hb)
  clear e16 hb
  go_wp2_with fail
  refine (MM.out.op 17 3 (by decide) (by decide) (by decide) _).mono ?_
  rintro e w12 ⟨f17, c17, rfl, e17, hb⟩
  have E17 := Lib.hid e17
  have H12 : Hid (Below w11.heap.size w11 w12) := Lib.hid (below_step (Below.refl _ _) hb)
  clear e17 hb
  go_wp2_with fail
  refine (MM.out.op 18 4 (by decide) (by decide) (by decide) _).mono ?_
  rintro e w13 ⟨f18, c18, rfl, e18, hb⟩
  have E18 := Lib.hid e18
  have H13 : Hid (Below w12.heap.size w12 w13) := Lib.hid (below_step (Below.refl _ _) hb)
  clear e18 hb
  go_wp2_with fail
  refine (MM.out.op 19 5 (by decide) (by decide) (by decide) _).mono ?_
  rintro e w14 ⟨f19, c19, rfl, e19, hb⟩
  have E19 := Lib.hid e19
  have H14 : Hid (Below w13.heap.size w13 w14) := Lib.hid (below_step (Below.refl _ _) hb)
  clear e19 hb
  go_wp2_with fail
  refine (MM.out.op 20 6 (by decide) (by decide) (by decide) _).mono ?_
  rintro e w15 ⟨f20, c20, rfl, e20, hb⟩
  have E20 := Lib.hid e20
  have H15 : Hid (Below w14.heap.size w14 w15) := Lib.hid (below_step (Below.refl _ _) hb)
  clear e20 hb
  go_wp2_with fail
  refine (MM.out.op 21 7 (by decide) (by decide) (by decide) _).mono ?_
  rintro e w16 ⟨f21, c21, rfl, e21, hb⟩
  have E21 := Lib.hid e21
  have H16 : Hid (Below w15.heap.size w15 w16) := Lib.hid (below_step (Below.refl _ _) hb)
  clear e21 hb
  go_wp2_with fail
  refine (MM.out.op 22 8 (by decide) (by decide) (by decide) _).mono ?_
  rintro e w17 ⟨f22, c22, rfl, e22, hb⟩
  have E22 := Lib.hid e22
  have H17 : Hid (Below w16.heap.size w16 w17) := Lib.hid (below_step (Below.refl _ _) hb)
  clear e22 hb
  go_wp2_with fail
  refine (MM.out.op 23 9 (by decide) (by decide) (by decide) _).mono ?_
  rintro e w18 ⟨f23, c23, rfl, e23, hb⟩
  have E23 := Lib.hid e23
  have H18 : Hid (Below w17.heap.size w17 w18) := Lib.hid (below_step (Below.refl _ _) hb)
  clear e23 hb
  go_wp2_with fail
  refine (MM.out.op 24 10 (by decide) (by decide) (by decide) _).mono ?_
  rintro e w19 ⟨f24, c24, rfl, e24, hb⟩
  have E24 := Lib.hid e24
  have H19 : Hid (Below w18.heap.size w18 w19) := Lib.hid (below_step (Below.refl _ _) hb)
  clear e24 hb
  go_wp2_with fail
  refine (MM.out.one 25 _ (by decide) _).mono ?_
  rintro e w20 ⟨f25, c25, rfl, e25, hb⟩
  have E25 := Lib.hid e25
  have H20 : Hid (Below w19.heap.size w19 w20) := Lib.hid (below_step (Below.refl _ _) hb)
  clear e25 hb
  go_wp2_with fail
  refine (MM.out.one 26 _ (by decide) _).mono ?_
  rintro e w21 ⟨f26, c26, rfl, e26, hb⟩
  have E26 := Lib.hid e26
  have H21 : Hid (Below w20.heap.size w20 w21) := Lib.hid (below_step (Below.refl _ _) hb)
  clear e26 hb
  go_wp2_with fail
  refine (MM.out.one 27 _ (by decide) _).mono ?_
  rintro e w22 ⟨f27, c27, rfl, e27, hb⟩
  have E27 := Lib.hid e27
  have H22 : Hid (Below w21.heap.size w21 w22) := Lib.hid (below_step (Below.refl _ _) hb)
  clear e27 hb
  go_wp2_with fail
  refine (MM.out.one 28 _ (by decide) _).mono ?_
  rintro e w23 ⟨f28, c28, rfl, e28, hb⟩
  have E28 := Lib.hid e28
  have H23 : Hid (Below w22.heap.size w22 w23) := Lib.hid (below_step (Below.refl _ _) hb)
  clear e28 hb
  go_wp2_with fail
  refine (MM.out.one 29 _ (by decide) _).mono ?_
  rintro e w24 ⟨f29, c29, rfl, e29, hb⟩
  have E29 := Lib.hid e29
  have H24 : Hid (Below w23.heap.size w23 w24) := Lib.hid (below_step (Below.refl _ _) hb)
  clear e29 hb
  go_wp2_with fail
  refine (MM.out.two 30 _ (by decide) _).mono ?_
  rintro e w25 ⟨f30, c30, rfl, e30, hb⟩
  have E30 := Lib.hid e30
  have H25 : Hid (Below w24.heap.size w24 w25) := Lib.hid (below_step (Below.refl _ _) hb)
  clear e30 hb
  go_wp2_with fail
  refine (MM.out.two 31 _ (by decide) _).mono ?_
  rintro e w26 ⟨f31, c31, rfl, e31, hb⟩
  have E31 := Lib.hid e31
  have H26 : Hid (Below w25.heap.size w25 w26) := Lib.hid (below_step (Below.refl _ _) hb)
  clear e31 hb
  go_wp2_with fail
  refine (MM.out.cmp 32 0 (by decide) _).mono ?_
  rintro e w27 ⟨f32, c32, rfl, e32, hb⟩
  have E32 := Lib.hid e32
  have H27 : Hid (Below w26.heap.size w26 w27) := Lib.hid (below_step (Below.refl _ _) hb)
  clear e32 hb
  go_wp2_with fail
  refine (MM.out.cmp 33 1 (by decide) _).mono ?_
  rintro e w28 ⟨f33, c33, rfl, e33, hb⟩
  have E33 := Lib.hid e33
  have H28 : Hid (Below w27.heap.size w27 w28) := Lib.hid (below_step (Below.refl _ _) hb)
  clear e33 hb
  go_wp2_with fail
  refine (MM.out.cmp 34 2 (by decide) _).mono ?_
  rintro e w29 ⟨f34, c34, rfl, e34, hb⟩
  have E34 := Lib.hid e34
  have H29 : Hid (Below w28.heap.size w28 w29) := Lib.hid (below_step (Below.refl _ _) hb)
  clear e34 hb
  go_wp2_with fail
  refine (MM.out.cmp 35 3 (by decide) _).mono ?_
  rintro e w30 ⟨f35, c35, rfl, e35, hb⟩
  have E35 := Lib.hid e35
  have H30 : Hid (Below w29.heap.size w29 w30) := Lib.hid (below_step (Below.refl _ _) hb)
  clear e35 hb
  go_wp2_with fail
  refine (MM.out.two 36 _ (by decide) _).mono ?_
  rintro e w31 ⟨f36, c36, rfl, e36, hb⟩
  have E36 := Lib.hid e36
  have H31 : Hid (Below w30.heap.size w30 w31) := Lib.hid (below_step (Below.refl _ _) hb)
  clear e36 hb
  go_wp2_with fail
  refine (MM.out.cz 37 0 (by decide) _).mono ?_
  rintro e w32 ⟨f37, c37, rfl, e37, hb⟩
  have E37 := Lib.hid e37
  have H32 : Hid (Below w31.heap.size w31 w32) := Lib.hid (below_step (Below.refl _ _) hb)
  clear e37 hb
  go_wp2_with fail
  refine (MM.out.cz 38 2 (by decide) _).mono ?_
  rintro e w33 ⟨f38, c38, rfl, e38, hb⟩
  have E38 := Lib.hid e38
  have H33 : Hid (Below w32.heap.size w32 w33) := Lib.hid (below_step (Below.refl _ _) hb)
  clear e38 hb
  go_wp2_with fail
  refine (MM.out.text 47 _ (by simp) _).mono ?_
  rintro e w34 ⟨f47, c47, rfl, e47, hb⟩
  have E47 := Lib.hid e47
  have H34 : Hid (Below w33.heap.size w33 w34) := Lib.hid (below_step (Below.refl _ _) hb)
  clear e47 hb
  go_wp2_with fail
  refine (MM.out.text 48 _ (by simp) _).mono ?_
  rintro e w35 ⟨f48, c48, rfl, e48, hb⟩
  have E48 := Lib.hid e48
  have H35 : Hid (Below w34.heap.size w34 w35) := Lib.hid (below_step (Below.refl _ _) hb)
  clear e48 hb
  go_wp2_with fail
  refine (MM.out.base 49 10 (by decide) _).mono ?_
  rintro e w36 ⟨f49, c49, rfl, e49, hb⟩
  have E49 := Lib.hid e49
  have H36 : Hid (Below w35.heap.size w35 w36) := Lib.hid (below_step (Below.refl _ _) hb)
  clear e49 hb
  go_wp2_with fail
  refine (MM.out.base 50 16 (by decide) _).mono ?_
  rintro e w37 ⟨f50, c50, rfl, e50, hb⟩
  have E50 := Lib.hid e50
  have H37 : Hid (Below w36.heap.size w36 w37) := Lib.hid (below_step (Below.refl _ _) hb)
  clear e50 hb
  go_wp2_with fail
  refine (MM.out.pick 52 [] (by decide) _ _ (by exact ints_nil w37)).mono ?_
  rintro e w38 ⟨f52, c52, rfl, e52, hb⟩
  have E52 := Lib.hid e52
  have H38 : Hid (Below w37.heap.size w37 w38) := Lib.hid (below_step (Below.refl _ _) hb)
  clear e52 hb
  obtain ⟨i0, hi0, hz0, hz1, hz2⟩ := info_parts prim_info
  go_wp2_with fail
  refine wp_buildSlice 100 108 52 _ rfl (tblCells f1 f2 f3 f4 f5 f6 f7 f9 f10 f15 f16 f17 f18 f19 f20 f21 f22 f23 f24 f25 f26 f27 f28 f29 f30 f31 f32 f33 f34 f35 f36 f37 f38 f47 f48 f49 f50 f52 c1 c2 c3 c4 c5 c6 c7 c9 c10 c15 c16 c17 c18 c19 c20 c21 c22 c23 c24 c25 c26 c27 c28 c29 c30 c31 c32 c33 c34 c35 c36 c37 c38 c47 c48 c49 c50 c52) i0 _ Tryz.underlying100 hi0 hz0 (by rw [hz1]; decide) (by rw [hz1]; decide) (by rw [hz1]; exact (congrArg (Instr.fill (fun i => some (i * 4, 4)) _) (by kernel_rfl)).trans (tbl_fill f1 f2 f3 f4 f5 f6 f7 f9 f10 f15 f16 f17 f18 f19 f20 f21 f22 f23 f24 f25 f26 f27 f28 f29 f30 f31 f32 f33 f34 f35 f36 f37 f38 f47 f48 f49 f50 f52 c1 c2 c3 c4 c5 c6 c7 c9 c10 c15 c16 c17 c18 c19 c20 c21 c22 c23 c24 c25 c26 c27 c28 c29 c30 c31 c32 c33 c34 c35 c36 c37 c38 c47 c48 c49 c50 c52)) ?_
  go_wp2
  go_ret
  have L38 : Hid (Below w38.heap.size w38 (w38.alloc (.cells (tblCells f1 f2 f3 f4 f5 f6 f7 f9 f10 f15 f16 f17 f18 f19 f20 f21 f22 f23 f24 f25 f26 f27 f28 f29 f30 f31 f32 f33 f34 f35 f36 f37 f38 f47 f48 f49 f50 f52 c1 c2 c3 c4 c5 c6 c7 c9 c10 c15 c16 c17 c18 c19 c20 c21 c22 c23 c24 c25 c26 c27 c28 c29 c30 c31 c32 c33 c34 c35 c36 c37 c38 c47 c48 c49 c50 c52) 108))) := Lib.hid (below_alloc (Below.refl _ _) _)
  have L37 := Lib.hid (below_step H38.out L38.out)
  have L36 := Lib.hid (below_step H37.out L37.out)
  have L35 := Lib.hid (below_step H36.out L36.out)
  have L34 := Lib.hid (below_step H35.out L35.out)
  have L33 := Lib.hid (below_step H34.out L34.out)
  have L32 := Lib.hid (below_step H33.out L33.out)
  have L31 := Lib.hid (below_step H32.out L32.out)
  have L30 := Lib.hid (below_step H31.out L31.out)
  have L29 := Lib.hid (below_step H30.out L30.out)
  have L28 := Lib.hid (below_step H29.out L29.out)
  have L27 := Lib.hid (below_step H28.out L28.out)
  have L26 := Lib.hid (below_step H27.out L27.out)
  have L25 := Lib.hid (below_step H26.out L26.out)
  have L24 := Lib.hid (below_step H25.out L25.out)
  have L23 := Lib.hid (below_step H24.out L24.out)
  have L22 := Lib.hid (below_step H23.out L23.out)
  have L21 := Lib.hid (below_step H22.out L22.out)
  have L20 := Lib.hid (below_step H21.out L21.out)
  have L19 := Lib.hid (below_step H20.out L20.out)
  have L18 := Lib.hid (below_step H19.out L19.out)
  have L17 := Lib.hid (below_step H18.out L18.out)
  have L16 := Lib.hid (below_step H17.out L17.out)
  have L15 := Lib.hid (below_step H16.out L16.out)
  have L14 := Lib.hid (below_step H15.out L15.out)
  have L13 := Lib.hid (below_step H14.out L14.out)
  have L12 := Lib.hid (below_step H13.out L13.out)
  have L11 := Lib.hid (below_step H12.out L12.out)
  have L10 := Lib.hid (below_step H11.out L11.out)
  have L9 := Lib.hid (below_step H10.out L10.out)
  have L8 := Lib.hid (below_step H9.out L9.out)
  have L7 := Lib.hid (below_step H8.out L8.out)
  have L6 := Lib.hid (below_step H7.out L7.out)
  have L5 := Lib.hid (below_step H6.out L6.out)
  have L4 := Lib.hid (below_step H5.out L5.out)
  have L3 := Lib.hid (below_step H4.out L4.out)
  have L2 := Lib.hid (below_step H3.out L3.out)
  have L1 := Lib.hid (below_step H2.out L2.out)
  refine ⟨_, rfl, ⟨_, rfl, ?_⟩, below_step H1.out L1.out⟩
  have W := whole_new w38 108 (tblCells f1 f2 f3 f4 f5 f6 f7 f9 f10 f15 f16 f17 f18 f19 f20 f21 f22 f23 f24 f25 f26 f27 f28 f29 f30 f31 f32 f33 f34 f35 f36 f37 f38 f47 f48 f49 f50 f52 c1 c2 c3 c4 c5 c6 c7 c9 c10 c15 c16 c17 c18 c19 c20 c21 c22 c23 c24 c25 c26 c27 c28 c29 c30 c31 c32 c33 c34 c35 c36 c37 c38 c47 c48 c49 c50 c52)
  intro p p1 p2
  have hp : p = 1 ∨ p = 2 ∨ p = 3 ∨ p = 4 ∨ p = 5 ∨ p = 6 ∨ p = 7 ∨ p = 8 ∨ p = 9 ∨ p = 10 ∨ p = 11 ∨ p = 12 ∨ p = 13 ∨ p = 14 ∨ p = 15 ∨ p = 16 ∨ p = 17 ∨ p = 18 ∨ p = 19 ∨ p = 20 ∨ p = 21 ∨ p = 22 ∨ p = 23 ∨ p = 24 ∨ p = 25 ∨ p = 26 ∨ p = 27 ∨ p = 28 ∨ p = 29 ∨ p = 30 ∨ p = 31 ∨ p = 32 ∨ p = 33 ∨ p = 34 ∨ p = 35 ∨ p = 36 ∨ p = 37 ∨ p = 38 ∨ p = 39 ∨ p = 40 ∨ p = 41 ∨ p = 42 ∨ p = 43 ∨ p = 44 ∨ p = 45 ∨ p = 46 ∨ p = 47 ∨ p = 48 ∨ p = 49 ∨ p = 50 ∨ p = 51 ∨ p = 52 := by omega
  rcases hp with rfl | rfl | rfl | rfl | rfl | rfl | rfl | rfl | rfl | rfl | rfl | rfl | rfl | rfl | rfl | rfl | rfl | rfl | rfl | rfl | rfl | rfl | rfl | rfl | rfl | rfl | rfl | rfl | rfl | rfl | rfl | rfl | rfl | rfl | rfl | rfl | rfl | rfl | rfl | rfl | rfl | rfl | rfl | rfl | rfl | rfl | rfl | rfl | rfl | rfl | rfl | rfl
  · exact ⟨_, ⟨whole_cell W 0, whole_cell W 1, whole_cell W 2, whole_cell W 3⟩, MM.out.mono _ _ _ _ E1.out L1.out⟩
  · exact ⟨_, ⟨whole_cell W 4, whole_cell W 5, whole_cell W 6, whole_cell W 7⟩, MM.out.mono _ _ _ _ E2.out L2.out⟩
  · exact ⟨_, ⟨whole_cell W 8, whole_cell W 9, whole_cell W 10, whole_cell W 11⟩, MM.out.mono _ _ _ _ E3.out L3.out⟩
  · exact ⟨_, ⟨whole_cell W 12, whole_cell W 13, whole_cell W 14, whole_cell W 15⟩, MM.out.mono _ _ _ _ E4.out L4.out⟩
  · exact ⟨_, ⟨whole_cell W 16, whole_cell W 17, whole_cell W 18, whole_cell W 19⟩, MM.out.mono _ _ _ _ E5.out L5.out⟩
  · exact ⟨_, ⟨whole_cell W 20, whole_cell W 21, whole_cell W 22, whole_cell W 23⟩, MM.out.mono _ _ _ _ E6.out L6.out⟩
  · exact ⟨_, ⟨whole_cell W 24, whole_cell W 25, whole_cell W 26, whole_cell W 27⟩, MM.out.mono _ _ _ _ E7.out L7.out⟩
  · exact ⟨_, ⟨whole_cell W 28, whole_cell W 29, whole_cell W 30, whole_cell W 31⟩, MM.out.fn 8 _ (by decide) _⟩
  · exact ⟨_, ⟨whole_cell W 32, whole_cell W 33, whole_cell W 34, whole_cell W 35⟩, MM.out.mono _ _ _ _ E9.out L8.out⟩
  · exact ⟨_, ⟨whole_cell W 36, whole_cell W 37, whole_cell W 38, whole_cell W 39⟩, MM.out.mono _ _ _ _ E10.out L9.out⟩
  · exact ⟨_, ⟨whole_cell W 40, whole_cell W 41, whole_cell W 42, whole_cell W 43⟩, MM.out.fn 11 _ (by decide) _⟩
  · exact ⟨_, ⟨whole_cell W 44, whole_cell W 45, whole_cell W 46, whole_cell W 47⟩, MM.out.fn 12 _ (by decide) _⟩
  · exact ⟨_, ⟨whole_cell W 48, whole_cell W 49, whole_cell W 50, whole_cell W 51⟩, MM.out.fn 13 _ (by decide) _⟩
  · exact ⟨_, ⟨whole_cell W 52, whole_cell W 53, whole_cell W 54, whole_cell W 55⟩, MM.out.fn 14 _ (by decide) _⟩
  · exact ⟨_, ⟨whole_cell W 56, whole_cell W 57, whole_cell W 58, whole_cell W 59⟩, MM.out.mono _ _ _ _ E15.out L10.out⟩
  · exact ⟨_, ⟨whole_cell W 60, whole_cell W 61, whole_cell W 62, whole_cell W 63⟩, MM.out.mono _ _ _ _ E16.out L11.out⟩
  · exact ⟨_, ⟨whole_cell W 64, whole_cell W 65, whole_cell W 66, whole_cell W 67⟩, MM.out.mono _ _ _ _ E17.out L12.out⟩
  · exact ⟨_, ⟨whole_cell W 68, whole_cell W 69, whole_cell W 70, whole_cell W 71⟩, MM.out.mono _ _ _ _ E18.out L13.out⟩
  · exact ⟨_, ⟨whole_cell W 72, whole_cell W 73, whole_cell W 74, whole_cell W 75⟩, MM.out.mono _ _ _ _ E19.out L14.out⟩
  · exact ⟨_, ⟨whole_cell W 76, whole_cell W 77, whole_cell W 78, whole_cell W 79⟩, MM.out.mono _ _ _ _ E20.out L15.out⟩
  · exact ⟨_, ⟨whole_cell W 80, whole_cell W 81, whole_cell W 82, whole_cell W 83⟩, MM.out.mono _ _ _ _ E21.out L16.out⟩
  · exact ⟨_, ⟨whole_cell W 84, whole_cell W 85, whole_cell W 86, whole_cell W 87⟩, MM.out.mono _ _ _ _ E22.out L17.out⟩
  · exact ⟨_, ⟨whole_cell W 88, whole_cell W 89, whole_cell W 90, whole_cell W 91⟩, MM.out.mono _ _ _ _ E23.out L18.out⟩
  · exact ⟨_, ⟨whole_cell W 92, whole_cell W 93, whole_cell W 94, whole_cell W 95⟩, MM.out.mono _ _ _ _ E24.out L19.out⟩
  · exact ⟨_, ⟨whole_cell W 96, whole_cell W 97, whole_cell W 98, whole_cell W 99⟩, MM.out.mono _ _ _ _ E25.out L20.out⟩
  · exact ⟨_, ⟨whole_cell W 100, whole_cell W 101, whole_cell W 102, whole_cell W 103⟩, MM.out.mono _ _ _ _ E26.out L21.out⟩
  · exact ⟨_, ⟨whole_cell W 104, whole_cell W 105, whole_cell W 106, whole_cell W 107⟩, MM.out.mono _ _ _ _ E27.out L22.out⟩
  · exact ⟨_, ⟨whole_cell W 108, whole_cell W 109, whole_cell W 110, whole_cell W 111⟩, MM.out.mono _ _ _ _ E28.out L23.out⟩
  · exact ⟨_, ⟨whole_cell W 112, whole_cell W 113, whole_cell W 114, whole_cell W 115⟩, MM.out.mono _ _ _ _ E29.out L24.out⟩
  · exact ⟨_, ⟨whole_cell W 116, whole_cell W 117, whole_cell W 118, whole_cell W 119⟩, MM.out.mono _ _ _ _ E30.out L25.out⟩
  · exact ⟨_, ⟨whole_cell W 120, whole_cell W 121, whole_cell W 122, whole_cell W 123⟩, MM.out.mono _ _ _ _ E31.out L26.out⟩
  · exact ⟨_, ⟨whole_cell W 124, whole_cell W 125, whole_cell W 126, whole_cell W 127⟩, MM.out.mono _ _ _ _ E32.out L27.out⟩
  · exact ⟨_, ⟨whole_cell W 128, whole_cell W 129, whole_cell W 130, whole_cell W 131⟩, MM.out.mono _ _ _ _ E33.out L28.out⟩
  · exact ⟨_, ⟨whole_cell W 132, whole_cell W 133, whole_cell W 134, whole_cell W 135⟩, MM.out.mono _ _ _ _ E34.out L29.out⟩
  · exact ⟨_, ⟨whole_cell W 136, whole_cell W 137, whole_cell W 138, whole_cell W 139⟩, MM.out.mono _ _ _ _ E35.out L30.out⟩
  · exact ⟨_, ⟨whole_cell W 140, whole_cell W 141, whole_cell W 142, whole_cell W 143⟩, MM.out.mono _ _ _ _ E36.out L31.out⟩
  · exact ⟨_, ⟨whole_cell W 144, whole_cell W 145, whole_cell W 146, whole_cell W 147⟩, MM.out.mono _ _ _ _ E37.out L32.out⟩
  · exact ⟨_, ⟨whole_cell W 148, whole_cell W 149, whole_cell W 150, whole_cell W 151⟩, MM.out.mono _ _ _ _ E38.out L33.out⟩
  · exact ⟨_, ⟨whole_cell W 152, whole_cell W 153, whole_cell W 154, whole_cell W 155⟩, MM.out.fn 39 _ (by decide) _⟩
  · exact ⟨_, ⟨whole_cell W 156, whole_cell W 157, whole_cell W 158, whole_cell W 159⟩, MM.out.fn 40 _ (by decide) _⟩
  · exact ⟨_, ⟨whole_cell W 160, whole_cell W 161, whole_cell W 162, whole_cell W 163⟩, MM.out.fn 41 _ (by decide) _⟩
  · exact ⟨_, ⟨whole_cell W 164, whole_cell W 165, whole_cell W 166, whole_cell W 167⟩, MM.out.fn 42 _ (by decide) _⟩
  · exact ⟨_, ⟨whole_cell W 168, whole_cell W 169, whole_cell W 170, whole_cell W 171⟩, MM.out.fn 43 _ (by decide) _⟩
  · exact ⟨_, ⟨whole_cell W 172, whole_cell W 173, whole_cell W 174, whole_cell W 175⟩, MM.out.fn 44 _ (by decide) _⟩
  · exact ⟨_, ⟨whole_cell W 176, whole_cell W 177, whole_cell W 178, whole_cell W 179⟩, MM.out.fn 45 _ (by decide) _⟩
  · exact ⟨_, ⟨whole_cell W 180, whole_cell W 181, whole_cell W 182, whole_cell W 183⟩, MM.out.fn 46 _ (by decide) _⟩
  · exact ⟨_, ⟨whole_cell W 184, whole_cell W 185, whole_cell W 186, whole_cell W 187⟩, MM.out.mono _ _ _ _ E47.out L34.out⟩
  · exact ⟨_, ⟨whole_cell W 188, whole_cell W 189, whole_cell W 190, whole_cell W 191⟩, MM.out.mono _ _ _ _ E48.out L35.out⟩
  · exact ⟨_, ⟨whole_cell W 192, whole_cell W 193, whole_cell W 194, whole_cell W 195⟩, MM.out.mono _ _ _ _ E49.out L36.out⟩
  · exact ⟨_, ⟨whole_cell W 196, whole_cell W 197, whole_cell W 198, whole_cell W 199⟩, MM.out.mono _ _ _ _ E50.out L37.out⟩
  · exact ⟨_, ⟨whole_cell W 200, whole_cell W 201, whole_cell W 202, whole_cell W 203⟩, MM.out.fn 51 _ (by decide) _⟩
  · exact ⟨_, ⟨whole_cell W 204, whole_cell W 205, whole_cell W 206, whole_cell W 207⟩, MM.out.mono _ _ _ _ E52.out L38.out⟩

end Go.Proofs.YthnbaeamekolmaaGreatDoor
