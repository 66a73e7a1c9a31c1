/- What the draws of a line and of a plain word give: one and the same text at one and the same code. -/
import Derived.Test.YtjhnhlknfkiodaaDoorSrcX
import Derived.Test.YtjhnhlknfkiodaaDoorSrcB
namespace Go.Proofs.YtjhnhlknfkiodaaDoor
open Go.RowKit
set_option linter.unusedVariables false
set_option linter.unusedSimpArgs false

/-- The words that a line is drawn of. -/
def tokL : List (List UInt8) := [[100, 117, 112], [68, 82, 79, 80], [43], [49], [45, 55], [115, 113], [83, 119, 97, 112], [46], [105, 102], [116, 104, 101, 110], [40], [41], [120, 41], [92], [102, 102], [111, 118, 101, 114]]

/-- What stands between two words of a drawn line. -/
def gapL : List (List UInt8) := [[32], [32, 32], [9], [10]]

/-- The plain words. -/
def plainL : List (List UInt8) := [[49], [50], [51], [45, 49], [55], [100, 117, 112], [100, 114, 111, 112], [115, 119, 97, 112], [111, 118, 101, 114], [43], [45], [42], [47], [109, 111, 100], [46], [99, 114], [101, 109, 105, 116], [64], [33], [104, 101, 114, 101], [61], [60], [48, 61], [49, 43], [100, 101, 112, 116, 104], [115, 113], [120], [118], [99], [104, 114, 101, 97, 100], [104, 119, 114, 105, 116, 101], [104, 97, 115, 107], [104, 116, 105, 109, 101], [62, 114], [114, 62], [99, 97, 116, 99, 104], [116, 104, 114, 111, 119], [101, 120, 101, 99, 117, 116, 101], [104, 101, 120], [100, 101, 99, 105, 109, 97, 108], [110, 101, 103, 97, 116, 101], [109, 97, 120]]

theorem strs_lit (w : World) (Q : List (List UInt8)) (hQ : Q.length ≤ 1000) : Strs (w.alloc (.cells (Q.map strV).toArray 9)) (some ⟨w.heap.size, 0, none⟩) Q.length Q := by
  refine ⟨by unfold maxLen; omega, fun _ => ⟨_, rfl, fun k hk => ?_⟩⟩
  rw [cell_of_row _ _ _ _ _ _ (heap_alloc_new w _)]
  simp [strV, hk]

theorem srcS_below {w w' : World} {b : Nat} {a : Option Addr} {len cap : Nat} {zs : List Int} {s : DSt} (h : SrcS w b a len cap zs s) (hb : Below w.heap.size w w') : SrcS w' b a len cap zs s := by
  obtain ⟨c0, c1, c2, f1, f2, row, ap, s0, s1⟩ := h
  have hlt : b < w.heap.size := lt_of_cell c0
  exact ⟨by rw [hb.cell hlt]; exact c0, by rw [hb.cell hlt]; exact c1, by rw [hb.cell hlt]; exact c2, by rw [hb.frozen hlt]; exact f1, by rw [hb.frozen hlt]; exact f2, brow_below row hb, ap, s0, s1⟩

theorem srcS_lt {w : World} {b : Nat} {a : Option Addr} {len cap : Nat} {zs : List Int} {s : DSt} (h : SrcS w b a len cap zs s) : b < w.heap.size := lt_of_cell (SrcAt.c0 h)

theorem srcS_new {w : World} {a : Option Addr} {len cap : Nat} {zs : List Int} (h : BRow w a len cap zs) :
    SrcS (w.alloc (.cells #[.slice a len cap, .int .i64 0, .int .i64 ((len : Int) % 1000)] 51)) w.heap.size a len cap zs (0, (len : Int) % 1000) := by
  have hb := brow_lt h
  refine ⟨?_, ?_, ?_, ?_, ?_, ?_, ?_, ?_, ?_⟩
  · simp
  · simp
  · simp
  · simp
  · simp
  · rcases h with h | ⟨x, rfl, h1, h2, h3, h4, h5⟩
    · exact .inl h
    · exact .inr ⟨x, rfl, h1, h2, h3, fun i hi => by rw [World.cell?_alloc_lt _ _ _ (by rw [add_block]; exact hb x rfl (by omega))]; exact h4 i hi, h5⟩
  · intro x hx hc; have := hb x hx hc; omega
  · show 0 ≤ (len : Int) % 1000; omega
  · show (len : Int) % 1000 < 2147483648; omega

theorem grown_lit {w w' : World} {b : Nat} (o : Obj) (h : (w.alloc o).grownBy w' (some b)) : w.grownBy w' (some b) := grown_trans (World.grownBy_alloc w o _) h

set_option maxRecDepth 100000 in
set_option maxHeartbeats 1000000 in
theorem tokenS_any (b : Nat) (a : Option Addr) (len cap : Nat) (zs : List Int) (s : DSt) (w : World) (h : SrcS w b a len cap zs s) (hN : s.1 < 1000000000) :
    Calls Tryd.prog 28 #[.pointer (some ⟨b, 0, none⟩)] w (DrewS w b a len cap zs (.string ⟨(tokL.getD (dSmall len zs 16 s).1 []).toArray⟩) (dSmall len zs 16 s).2) := by
  have hlt := srcS_lt h
  have P := Lib.hid (pickS_any b a len cap zs s w.heap.size 16 tokL _ (srcS_below h ((Below.refl _ _).alloc (Nat.le_refl _) (.cells (tokL.map strV).toArray 9))) hN (strs_lit w tokL (by decide)) (by omega) (by decide) (by decide))
  clear h hN
  go_enter Tryd.func28, Tryd.ntmps28
  go_wp2_with fail
  refine P.out.mono ?_
  rintro e w1 ⟨rfl, hs, hg⟩
  have S := Lib.hid hs
  have G := Lib.hid (grown_lit _ hg)
  clear hs hg
  generalize hx : (⟨(tokL.getD (dSmall len zs tokL.length s).1 []).toArray⟩ : ByteArray) = x at *
  have HX := Lib.hid hx
  clear hx
  go_wp2
  go_ret
  exact ⟨congrArg (fun s => Ending.returned (.string s)) HX.out.symm, S.out, G.out⟩

/-- What a drawn plain word leaves. -/
def PlainOf (w : World) (e : Ending) (w' : World) : Prop := ∃ p ∈ plainL, e = .returned (.string ⟨p.toArray⟩) ∧ Below w.heap.size w w'

set_option maxRecDepth 100000 in
set_option maxHeartbeats 1000000 in
theorem plainS_any (b : Nat) (a : Option Addr) (len cap : Nat) (zs : List Int) (s : DSt) (w : World) (h : SrcS w b a len cap zs s) (hN : s.1 < 1000000000) :
    Calls Tryd.prog 22 #[.pointer (some ⟨b, 0, none⟩)] w (DrewS w b a len cap zs (.string ⟨(plainL.getD (dSmall len zs 42 s).1 []).toArray⟩) (dSmall len zs 42 s).2) := by
  have hlt := srcS_lt h
  have P := Lib.hid (pickS_any b a len cap zs s w.heap.size 42 plainL _ (srcS_below h ((Below.refl _ _).alloc (Nat.le_refl _) (.cells (plainL.map strV).toArray 9))) hN (strs_lit w plainL (by decide)) (by omega) (by decide) (by decide))
  clear h hN
  go_enter Tryd.func22, Tryd.ntmps22
  go_wp2_with fail
  refine P.out.mono ?_
  rintro e w1 ⟨rfl, hs, hg⟩
  have S := Lib.hid hs
  have G := Lib.hid (grown_lit _ hg)
  clear hs hg
  generalize hx : (⟨(plainL.getD (dSmall len zs plainL.length s).1 []).toArray⟩ : ByteArray) = x at *
  have HX := Lib.hid hx
  clear hx
  go_wp2
  go_ret
  exact ⟨congrArg (fun s => Ending.returned (.string s)) HX.out.symm, S.out, G.out⟩

/-- What is drawn word by word. -/
def lineGo (len : Nat) (zs : List Int) : Nat → DSt → List UInt8 → List UInt8
  | 0, _, t => t
  | i + 1, s, t => lineGo len zs i (dSmall len zs 4 (dSmall len zs 16 s).2).2 (t ++ (tokL.getD (dSmall len zs 16 s).1 [] ++ gapL.getD (dSmall len zs 4 (dSmall len zs 16 s).2).1 []))

/-- How many words may be drawn. -/
def lineRoom (len : Nat) : Nat := min (1 + len / 12) 12 + 3

/-- The drawn line. -/
def drawL (len : Nat) (zs : List Int) : List UInt8 :=
  if (dSmall len zs 30 (0, (len : Int) % 1000)).1 + 1 = 30 then List.replicate (400 + (dSmall len zs 2 (dSmall len zs 30 (0, (len : Int) % 1000)).2).1) 0
  else lineGo len zs (dSmall len zs (lineRoom len) (dSmall len zs 30 (0, (len : Int) % 1000)).2).1 (dSmall len zs (lineRoom len) (dSmall len zs 30 (0, (len : Int) % 1000)).2).2 []

theorem tok_len (k : Nat) : (tokL.getD k []).length ≤ 4 := by
  by_cases h : k < tokL.length
  · have hall : ∀ q ∈ tokL, q.length ≤ 4 := by decide
    rw [List.getD_eq_getElem?_getD, List.getElem?_eq_getElem h]
    exact hall _ (List.getElem_mem _)
  · rw [List.getD_eq_getElem?_getD, List.getElem?_eq_none (by omega)]; decide

theorem gap_len (k : Nat) : (gapL.getD k []).length ≤ 2 := by
  by_cases h : k < gapL.length
  · have hall : ∀ q ∈ gapL, q.length ≤ 2 := by decide
    rw [List.getD_eq_getElem?_getD, List.getElem?_eq_getElem h]
    exact hall _ (List.getElem_mem _)
  · rw [List.getD_eq_getElem?_getD, List.getElem?_eq_none (by omega)]; decide

theorem text_cat (p q : List UInt8) : ((⟨p.toArray⟩ : ByteArray) ++ ⟨q.toArray⟩) = ⟨(p ++ q).toArray⟩ := by
  apply ByteArray.ext; apply Array.ext'; simp

theorem zeros_text (W : World) (g n : Nat) (h : W.ownsRow 0 5 1 (.slice (some ⟨g, 0, none⟩) n n) n (List.replicate n (.int .u8 0))) :
    (convert 22 9 (.slice (some ⟨g, 0, none⟩) n n)).run Tryd.prog W = .ok (.string ⟨(List.replicate n (0 : UInt8)).toArray⟩) W :=
  owns_text (by simpa using h) (by simp)

theorem made_zeros (n : Nat) : (madeCells (Value.cells (.int .u8 0)) (n * 1)).toList = List.replicate n (.int .u8 0) := by
  rw [Nat.mul_one]; exact toList_madeCells_one _ _

/-- What a drawn line leaves. -/
def LineTx (w : World) (l : List UInt8) (e : Ending) (w' : World) : Prop := e = .returned (.string ⟨l.toArray⟩) ∧ Below w.heap.size w w'

theorem below_src {w w' : World} (o : Obj) (h : (w.alloc o).grownBy w' (some w.heap.size)) : Below w.heap.size w w' :=
  ((Below.refl w.heap.size w).alloc (Nat.le_refl _) o).grown h (by simp) (fun k hk => by cases hk; exact Nat.le_refl _)

set_option maxRecDepth 100000 in
set_option maxHeartbeats 4000000 in
theorem drawLine_any (a : Option Addr) (len cap : Nat) (zs : List Int) (w : World) (h : BRow w a len cap zs) (hl : len ≤ 1048576) :
    Calls Tryd.prog 17 #[.slice a len cap] w (LineTx w (drawL len zs)) := by
  have N := Lib.hid (srcS_new h)
  have DL : Hid (drawL len zs = drawL len zs) := Lib.hid rfl
  unfold drawL at DL
  clear h
  obtain ⟨c, hc⟩ : ∃ c, c = dSmall len zs 30 (0, (len : Int) % 1000) := ⟨_, rfl⟩
  have hc1 : c.2.1 = 1 := by rw [hc, dSmall_at]
  have CH := Lib.hid fun W (hS : SrcS W w.heap.size a len cap zs (0, (len : Int) % 1000)) => chanceS_any w.heap.size a len cap zs (0, (len : Int) % 1000) 30 W hS (by show 0 < 1000000000; omega) (by omega) (by omega)
  rw [← hc] at CH
  have LC : drawL len zs = if c.1 + 1 = 30 then List.replicate (400 + (dSmall len zs 2 c.2).1) 0 else lineGo len zs (dSmall len zs (lineRoom len) c.2).1 (dSmall len zs (lineRoom len) c.2).2 [] := by rw [hc]; rfl
  clear hc DL
  by_cases h30 : c.1 + 1 = 30
  · rw [if_pos h30] at LC
    have hd : decide (c.1 + 1 = 30) = true := by simpa using h30
    have NX := Lib.hid fun W (hS : SrcS W w.heap.size a len cap zs c.2) => nextS_any w.heap.size a len cap zs c.2 2 W hS (by omega) (by omega) (by omega)
    have hlt := dSmall_lt len zs c.2 (by omega : 0 < 2)
    generalize hm : (dSmall len zs 2 c.2).1 = m at *
    generalize hs2 : (dSmall len zs 2 c.2).2 = s2 at *
    have L2 := Lib.hid LC
    rw [hd] at CH
    clear hd h30 LC hm hs2 hc1
    obtain ⟨i0, hi, hz0, hz1, hz2⟩ := info_parts own_info5
    go_enter Tryd.func17, Tryd.ntmps17
    go_wp2_with fail
    refine (source_any _ _ _ _ (by omega)).mono ?_
    rintro e w' ⟨rfl, rfl⟩
    go_wp2_with fail
    refine (CH.out _ N.out).mono ?_
    rintro e w1 ⟨rfl, hs1, hg1⟩
    have S1 := Lib.hid hs1
    have G1 := Lib.hid hg1
    clear hs1 hg1
    go_wp2_with fail
    refine (NX.out _ S1.out).mono ?_
    rintro e w2 ⟨rfl, hs2, hg2⟩
    have G2 := Lib.hid (below_src _ (grown_trans G1.out hg2))
    clear hs2 hg2
    go_wp2_with (at_make; refine wpList_make_full _ rfl _ _ 22 rfl 0 5 i0 (.int .u8 0) 1 Tryd.underlying22 hi hz0 hz1 .i64 .i64 (400 + (m : Int)) (400 + (m : Int)) (400 + m) rfl rfl ?m1 ?m2 ?m3 ?m4 ?m5 ?_)
    case m1 => omega
    case m2 => omega
    case m3 => rw [hz2]; omega
    case m4 => unfold maxLen; omega
    case m5 => exact Nat.zero_le _
    intro w3 ho3 hg3
    rw [toList_madeCells_one] at ho3
    have B3 := Lib.hid (G2.out.grown hg3 G2.out.size (fun k hk => by cases hk))
    have hcv := zeros_text w3 _ _ ho3
    clear ho3 hg3
    go_wp2
    go_ret
    exact ⟨congrArg (fun s => Ending.returned (.string s)) (by rw [L2.out]; simp), B3.out⟩
  · rw [if_neg h30] at LC
    have hd : decide (c.1 + 1 = 30) = false := by simpa using h30
    have r1 : 1 < lineRoom len := by unfold lineRoom; omega
    have r2 : lineRoom len ≤ 15 := by unfold lineRoom; omega
    have NX := Lib.hid fun W (hS : SrcS W w.heap.size a len cap zs c.2) => nextS_any w.heap.size a len cap zs c.2 (lineRoom len) W hS (by omega) r1 (by omega)
    have RM : Hid (min (1 + (len : Int) / 12) 12 + 3 = (lineRoom len : Int)) := Lib.hid (by unfold lineRoom; omega)
    have hlt := dSmall_lt len zs c.2 (by omega : 0 < lineRoom len)
    have hs21 := dSmall_at len zs (lineRoom len) c.2
    generalize hm : (dSmall len zs (lineRoom len) c.2).1 = m at *
    generalize hs2 : (dSmall len zs (lineRoom len) c.2).2 = s2 at *
    have L2 := Lib.hid LC
    have S21 : Hid (s2.1 = 2) := Lib.hid (by omega)
    rw [hd] at CH
    clear hd h30 LC hm hs2 hc1 hs21
    have RMM := Lib.hid fun W (hS : SrcS W w.heap.size a len cap zs c.2) => roomS_any w.heap.size a len cap zs c.2 12 W hS hl (by omega)
    have rb1 : 1 ≤ min (1 + (len : Int) / 12) 12 := by omega
    have rb2 : min (1 + (len : Int) / 12) 12 ≤ 12 := by omega
    generalize min (1 + (len : Int) / 12) 12 = r at *
    go_enter Tryd.func17, Tryd.ntmps17
    go_wp2_with fail
    refine (source_any _ _ _ _ (by omega)).mono ?_
    rintro e w' ⟨rfl, rfl⟩
    go_wp2_with fail
    refine (CH.out _ N.out).mono ?_
    rintro e w1 ⟨rfl, hs1, hg1⟩
    have S1 := Lib.hid hs1
    have G1 := Lib.hid hg1
    clear hs1 hg1
    go_wp2_with fail
    refine (RMM.out _ S1.out).mono ?_
    rintro e w' ⟨rfl, rfl⟩
    go_wp2_with fail
    rw [RM.out]
    refine (NX.out _ S1.out).mono ?_
    rintro e w2 ⟨rfl, hs2, hg2⟩
    have S2 := Lib.hid hs2
    have G2 := Lib.hid (grown_trans G1.out hg2)
    clear hs2 hg2
    go_wp2_with fail
    go_loopw [4, 5] (fun tv iv wr => ∃ (i : Nat) (s : DSt) (t : List UInt8), iv = .int .i64 i ∧ tv = .string ⟨t.toArray⟩ ∧ lineGo len zs m s2 [] = lineGo len zs i s t ∧ s.1 + 2 * i ≤ 40 ∧ t.length + 6 * i ≤ 100 ∧ SrcS wr w.heap.size a len cap zs s ∧ (w.alloc (.cells #[.slice a len cap, .int .i64 0, .int .i64 ((len : Int) % 1000)] 51)).grownBy wr (some w.heap.size)) (fun _ iv _ => (intOf iv).toNat)
    case atStart => exact ⟨m, s2, [], rfl, rfl, rfl, by have := S21.out; omega, by simp; omega, S2.out, G2.out⟩
    case round =>
      obtain ⟨i, s, t, rfl, rfl, hgo, hsi, hti, hs, hg⟩ := hrel
      have GO := Lib.hid hgo
      have S := Lib.hid hs
      have G := Lib.hid hg
      have hts := str_size t
      clear hgo hs hg
      by_cases hi0 : 0 < i
      · obtain ⟨j, rfl⟩ : ∃ j, i = j + 1 := ⟨i - 1, by omega⟩
        have TK := Lib.hid (tokenS_any w.heap.size a len cap zs s wr S.out (by omega))
        have a1 := dSmall_at len zs 16 s
        have x1 := tok_len (dSmall len zs 16 s).1
        have y1 : ((⟨(tokL.getD (dSmall len zs 16 s).1 []).toArray⟩ : ByteArray)).size = (tokL.getD (dSmall len zs 16 s).1 []).length := str_size _
        have x2 := gap_len (dSmall len zs 4 (dSmall len zs 16 s).2).1
        have a2 := dSmall_at len zs 4 (dSmall len zs 16 s).2
        have NG : Hid (lineGo len zs (j + 1) s t = lineGo len zs j (dSmall len zs 4 (dSmall len zs 16 s).2).2 (t ++ (tokL.getD (dSmall len zs 16 s).1 [] ++ gapL.getD (dSmall len zs 4 (dSmall len zs 16 s).2).1 []))) := Lib.hid rfl
        have PK := Lib.hid fun W (hW : w.heap.size < W.heap.size) (hS : SrcS W w.heap.size a len cap zs (dSmall len zs 16 s).2) => pickS_any w.heap.size a len cap zs (dSmall len zs 16 s).2 W.heap.size 4 gapL _ (srcS_below hS ((Below.refl _ _).alloc (Nat.le_refl _) (.cells (gapL.map strV).toArray 9))) (by omega) (strs_lit W gapL (by decide)) (by omega) (by decide) (by decide)
        generalize hq : tokL.getD (dSmall len zs 16 s).1 [] = q at *
        generalize hs1 : (dSmall len zs 16 s).2 = s1 at *
        have G4 : Hid (gapL.length = 4) := Lib.hid rfl
        rw [G4.out] at PK
        generalize hp : gapL.getD (dSmall len zs 4 s1).1 [] = p at *
        generalize hs2' : (dSmall len zs 4 s1).2 = s2' at *
        have hps := str_size p
        have C1 := Lib.hid (text_cat q p)
        have C2 := Lib.hid (text_cat t (q ++ p))
        clear hq hs1 hp hs2' G4
        go_wp2_with fail
        refine TK.out.mono ?_
        rintro e w3 ⟨rfl, hs3, hg3⟩
        have S3 := Lib.hid hs3
        have G3 := Lib.hid (grown_trans G.out hg3)
        have W3 : w.heap.size < w3.heap.size := srcS_lt hs3
        clear hs3 hg3
        go_wp2_with fail
        refine (PK.out _ W3 S3.out).mono ?_
        rintro e w4 ⟨rfl, hs4, hg4⟩
        have S4 := Lib.hid hs4
        have G5 := Lib.hid (grown_trans G3.out (grown_lit _ hg4))
        clear hs4 hg4
        go_wp2
        go_roundw
        case rel => exact ⟨j, s2', t ++ (q ++ p), by go_num, by rw [C1.out, C2.out], by rw [GO.out, NG.out], by omega, by simp; omega, S4.out, G5.out⟩
        case measure => simp [intOf]
      · obtain rfl : i = 0 := by omega
        have E : Hid (lineGo len zs 0 s t = t) := Lib.hid rfl
        have B := Lib.hid (below_src _ G.out)
        clear hi0
        go_wp2
        go_ret
        exact ⟨congrArg (fun s => Ending.returned (.string s)) (by rw [L2.out, GO.out, E.out]), B.out⟩

end Go.Proofs.YtjhnhlknfkiodaaDoor
