/- The source of draws, exactly: which byte comes next, and what picks, chances and rooms are then. -/
import Derived.Test.YtjhnhlknfkiodaaDoorSrcA
import Derived.Test.YtjhnhlknfkiodaaDoorStrsA
namespace Go.Proofs.YtjhnhlknfkiodaaDoor
open Go.RowKit
set_option linter.unusedVariables false
set_option linter.unusedSimpArgs false

/-- Where a source stands: how many bytes are drawn, and its seed. -/
abbrev DSt := Nat × Int

/-- The next byte of a source over the code zs, and where it stands then. -/
def dByte (len : Nat) (zs : List Int) (s : DSt) : Int × DSt :=
  if s.1 < len then (zs.getD s.1 0, (s.1 + 1, (s.2 * 31 + zs.getD s.1 0 + 7) % 2147483648))
  else if s.1 + 1 ≤ 3000 then ((s.2 * 1103515245 + 12345) % 2147483648 / 65536 % 256, (s.1 + 1, (s.2 * 1103515245 + 12345) % 2147483648))
  else (0, (s.1 + 1, s.2))

theorem dByte_at (len : Nat) (zs : List Int) (s : DSt) : (dByte len zs s).2.1 = s.1 + 1 := by unfold dByte; split <;> (try split) <;> rfl

/-- A source that stands there. -/
def SrcS (w : World) (b : Nat) (a : Option Addr) (len cap : Nat) (zs : List Int) (s : DSt) : Prop := SrcAt w b a len cap zs s.1 s.2

/-- What an exact draw leaves. -/
def DrewS (w : World) (b : Nat) (a : Option Addr) (len cap : Nat) (zs : List Int) (v : Value) (s : DSt) (e : Ending) (w' : World) : Prop := e = .returned v ∧ SrcS w' b a len cap zs s ∧ w.grownBy w' (some b)

set_option maxRecDepth 100000 in
set_option maxHeartbeats 1000000 in
theorem byteS_late (b : Nat) (a : Option Addr) (len cap : Nat) (zs : List Int) (k : Nat) (seed : Int) (w : World) (h : SrcAt w b a len cap zs k seed) (hN : k < 1000000000) (hl : len < k + 1) (h3 : 3000 < k + 1) :
    Calls Tryd.prog 34 #[.pointer (some ⟨b, 0, none⟩)] w (DrewS w b a len cap zs (.int .i64 0) (k + 1, seed)) := by
  have H := Lib.hid h
  obtain ⟨c0, c1, c2, f1, f2, row, apart, s0, s1⟩ := h
  clear row apart
  go_enter Tryd.func34, Tryd.ntmps34
  go_wp2
  go_quiet (fail)
  go_wp2
  go_ret
  exact ⟨rfl, src_draws (src_one H.out) _, grown_trans (grown_set _ _ _ _) (grown_draws _ _ _)⟩

set_option maxRecDepth 100000 in
set_option maxHeartbeats 1000000 in
theorem byteS_mid (b : Nat) (a : Option Addr) (len cap : Nat) (zs : List Int) (k : Nat) (seed : Int) (w : World) (h : SrcAt w b a len cap zs k seed) (hN : k < 1000000000) (hl : len < k + 1) (h3 : k + 1 ≤ 3000) :
    Calls Tryd.prog 34 #[.pointer (some ⟨b, 0, none⟩)] w (DrewS w b a len cap zs (.int .i64 ((seed * 1103515245 + 12345) % 2147483648 / 65536 % 256)) (k + 1, (seed * 1103515245 + 12345) % 2147483648)) := by
  have H := Lib.hid h
  obtain ⟨c0, c1, c2, f1, f2, row, apart, s0, s1⟩ := h
  clear row apart
  go_enter Tryd.func34, Tryd.ntmps34
  go_wp2
  go_quiet (fail)
  go_wp2
  go_ret
  exact ⟨rfl, src_two (src_draws (src_one H.out) _) _ (by omega) (by omega), grown_trans (grown_trans (grown_set _ _ _ _) (grown_draws _ _ _)) (grown_set _ _ _ _)⟩

set_option maxRecDepth 100000 in
set_option maxHeartbeats 1000000 in
theorem byteS_code (b bc off : Nat) (len cap : Nat) (zs : List Int) (k : Nat) (seed : Int) (w : World) (h : SrcAt w b (some ⟨bc, off, none⟩) len cap zs k seed) (hl : k < len) :
    Calls Tryd.prog 34 #[.pointer (some ⟨b, 0, none⟩)] w (DrewS w b (some ⟨bc, off, none⟩) len cap zs (.int .i64 (zs.getD k 0)) (k + 1, (seed * 31 + zs.getD k 0 + 7) % 2147483648)) := by
  have H := Lib.hid h
  obtain ⟨c0, c1, c2, f1, f2, row, apart, s0, s1⟩ := h
  rcases row with ⟨h, _⟩ | ⟨x, hx, h1, h2, hz, h4, h5⟩
  · cases h
  obtain rfl := Option.some.inj hx
  have hne : ¬ bc = b := apart _ rfl (by omega)
  have hc : w.cell? ⟨bc, off + k, none⟩ = some (.int .u8 (zs.getD k 0)) := by have := h4 k (by omega); rwa [Addr.add_lit] at this
  have hv : 0 ≤ zs.getD k 0 ∧ zs.getD k 0 ≤ 255 := by
    have := range_u8 h5 k
    rwa [← List.getD_eq_getElem?_getD] at this
  unfold maxLen at h2
  generalize zs.getD k 0 = v at *
  obtain ⟨v0, v1⟩ := hv
  clear h4 h5 apart hz hx
  go_enter Tryd.func34, Tryd.ntmps34
  go_wp2
  go_quiet (fail)
  go_wp2
  go_region
  go_wp2
  go_quiet (fail)
  go_wp2
  go_ret
  exact ⟨rfl, src_draws (src_two (src_draws (src_one H.out) _) _ (by omega) (by omega)) _, grown_trans (grown_trans (grown_trans (grown_set _ _ _ _) (grown_draws _ _ _)) (grown_set _ _ _ _)) (grown_draws _ _ _)⟩

theorem byteS_any (b : Nat) (a : Option Addr) (len cap : Nat) (zs : List Int) (s : DSt) (w : World) (h : SrcS w b a len cap zs s) (hN : s.1 < 1000000000) :
    Calls Tryd.prog 34 #[.pointer (some ⟨b, 0, none⟩)] w (DrewS w b a len cap zs (.int .i64 (dByte len zs s).1) (dByte len zs s).2) := by
  obtain ⟨k, seed⟩ := s
  by_cases hl : k < len
  · rcases SrcAt.row h with ⟨_, h0, _⟩ | ⟨x, rfl, h1, h2, hz, h4, h5⟩
    · omega
    · have hx : w.cell? (x.add 0) = some (.int .u8 (zs.getD 0 0)) := h4 0 (by omega)
      obtain ⟨bc, off, spot⟩ := x
      have hspot : spot = none := by simpa [Addr.add] using World.cell?_spot hx
      subst hspot
      have e : dByte len zs (k, seed) = (zs.getD k 0, (k + 1, (seed * 31 + zs.getD k 0 + 7) % 2147483648)) := by unfold dByte; rw [if_pos hl]
      rw [e]
      exact byteS_code b bc off len cap zs k seed w h hl
  · by_cases h3 : k + 1 ≤ 3000
    · have e : dByte len zs (k, seed) = ((seed * 1103515245 + 12345) % 2147483648 / 65536 % 256, (k + 1, (seed * 1103515245 + 12345) % 2147483648)) := by unfold dByte; rw [if_neg hl, if_pos h3]
      rw [e]
      exact byteS_mid b a len cap zs k seed w h hN (by omega) h3
    · have e : dByte len zs (k, seed) = (0, (k + 1, seed)) := by unfold dByte; rw [if_neg hl, if_neg h3]
      rw [e]
      exact byteS_late b a len cap zs k seed w h hN (by omega) (by omega)

theorem srcS_bytes {w : World} {b : Nat} {a : Option Addr} {len cap : Nat} {zs : List Int} {s : DSt} (h : SrcS w b a len cap zs s) : 0 ≤ (dByte len zs s).1 ∧ (dByte len zs s).1 ≤ 255 := by
  unfold dByte
  split
  · rcases SrcAt.row h with ⟨_, h0, _⟩ | ⟨x, _, h1, h2, hz, h4, h5⟩
    · omega
    · have := range_u8 h5 s.1
      rwa [← List.getD_eq_getElem?_getD] at this
  · split <;> simp <;> omega

/-- The next number of a source below a small n. -/
def dSmall (len : Nat) (zs : List Int) (n : Nat) (s : DSt) : Nat × DSt := (((dByte len zs s).1 % (n : Int)).toNat, (dByte len zs s).2)

theorem dSmall_lt (len : Nat) (zs : List Int) {n : Nat} (s : DSt) (h : 0 < n) : (dSmall len zs n s).1 < n := by
  unfold dSmall
  have := Int.emod_lt_of_pos (dByte len zs s).1 (by omega : (0 : Int) < n)
  have := Int.emod_nonneg (dByte len zs s).1 (by omega : (n : Int) ≠ 0)
  simp; omega

theorem dSmall_at (len : Nat) (zs : List Int) (n : Nat) (s : DSt) : (dSmall len zs n s).2.1 = s.1 + 1 := dByte_at len zs s

set_option maxRecDepth 100000 in
set_option maxHeartbeats 400000 in
theorem nextS_any (b : Nat) (a : Option Addr) (len cap : Nat) (zs : List Int) (s : DSt) (n : Nat) (w : World) (h : SrcS w b a len cap zs s) (hN : s.1 < 1000000000) (h1 : 1 < n) (h2 : n ≤ 256) :
    Calls Tryd.prog 26 #[.pointer (some ⟨b, 0, none⟩), .int .i64 n] w (DrewS w b a len cap zs (.int .i64 (dSmall len zs n s).1) (dSmall len zs n s).2) := by
  have R := srcS_bytes h
  have C := Lib.hid (byteS_any b a len cap zs s w h hN)
  have E : Hid (((dSmall len zs n s).1 : Int) = (dByte len zs s).1 % n) := Lib.hid (by
    unfold dSmall
    have := Int.emod_nonneg (dByte len zs s).1 (by omega : (n : Int) ≠ 0)
    simp; omega)
  have E2 : Hid ((dSmall len zs n s).2 = (dByte len zs s).2) := Lib.hid rfl
  rw [E2.out, E.out]
  clear h hN E E2
  obtain ⟨d1, hd1⟩ : ∃ d, (dByte len zs s).1 = d := ⟨_, rfl⟩
  obtain ⟨d2, hd2⟩ : ∃ d, (dByte len zs s).2 = d := ⟨_, rfl⟩
  rw [hd1] at R C ⊢
  rw [hd2] at C ⊢
  clear hd1 hd2
  obtain ⟨v0, v1⟩ := R
  go_enter Tryd.func26, Tryd.ntmps26
  go_wp2_with fail
  refine C.out.mono ?_
  rintro e w1 ⟨rfl, hs, hg⟩
  have S := Lib.hid hs
  have G := Lib.hid hg
  clear hs hg
  have z0 : ((n : Int) == 0) = false := by simp; omega
  go_wp2
  go_ret
  exact ⟨rfl, S.out, G.out⟩

set_option maxRecDepth 100000 in
set_option maxHeartbeats 400000 in
theorem chanceS_any (b : Nat) (a : Option Addr) (len cap : Nat) (zs : List Int) (s : DSt) (n : Nat) (w : World) (h : SrcS w b a len cap zs s) (hN : s.1 < 1000000000) (h1 : 1 < n) (h2 : n ≤ 256) :
    Calls Tryd.prog 25 #[.pointer (some ⟨b, 0, none⟩), .int .i64 n] w (DrewS w b a len cap zs (.bool (decide ((dSmall len zs n s).1 + 1 = n))) (dSmall len zs n s).2) := by
  have C := Lib.hid (nextS_any b a len cap zs s n w h hN h1 h2)
  have hlt := dSmall_lt len zs s (by omega : 0 < n)
  clear h hN
  obtain ⟨d1, hd1⟩ : ∃ d, (dSmall len zs n s).1 = d := ⟨_, rfl⟩
  obtain ⟨d2, hd2⟩ : ∃ d, (dSmall len zs n s).2 = d := ⟨_, rfl⟩
  rw [hd1] at C hlt ⊢
  rw [hd2] at C ⊢
  clear hd1 hd2
  have E : Hid (((d1 : Int) == (n : Int) - 1) = decide (d1 + 1 = n)) := Lib.hid (by rw [Bool.eq_iff_iff]; simp; omega)
  go_enter Tryd.func25, Tryd.ntmps25
  go_wp2_with fail
  refine C.out.mono ?_
  rintro e w1 ⟨rfl, hs, hg⟩
  have S := Lib.hid hs
  have G := Lib.hid hg
  clear hs hg
  go_wp2
  go_ret
  exact ⟨ret_bool E.out, S.out, G.out⟩

set_option maxRecDepth 100000 in
set_option maxHeartbeats 400000 in
theorem roomS_any (b : Nat) (a : Option Addr) (len cap : Nat) (zs : List Int) (s : DSt) (n : Nat) (w : World) (h : SrcS w b a len cap zs s) (hl : len ≤ 1048576) (hn : n ≤ 1048576) :
    Calls Tryd.prog 27 #[.pointer (some ⟨b, 0, none⟩), .int .i64 n] w fun e w' => e = .returned (.int .i64 (min (1 + (len : Int) / 12) n)) ∧ w = w' := by
  have c0 := SrcAt.c0 h
  clear h
  by_cases hm : 1 + (len : Int) / 12 ≤ n
  · have E : Hid (1 + (len : Int) / 12 = min (1 + (len : Int) / 12) n) := Lib.hid (by omega)
    go_enter Tryd.func27, Tryd.ntmps27
    go_wp2
    go_ret
    exact ⟨ret_int E.out, rfl⟩
  · have E : Hid ((n : Int) = min (1 + (len : Int) / 12) n) := Lib.hid (by omega)
    go_enter Tryd.func27, Tryd.ntmps27
    go_wp2
    go_ret
    exact ⟨ret_int E.out, rfl⟩

theorem strs_at {w : World} {A : Option Addr} {cap : Nat} {Q : List (List UInt8)} (h : Strs w A cap Q) {k : Nat} (hk : k < Q.length) : ∃ g, A = some ⟨g, 0, none⟩ ∧ w.cell? ⟨g, k, none⟩ = some (.string ⟨Q[k].toArray⟩) := by
  obtain ⟨g, hA, hc⟩ := h.2 (by omega)
  exact ⟨g, hA, hc k hk⟩

set_option maxRecDepth 100000 in
set_option maxHeartbeats 400000 in
theorem pickS_any (b : Nat) (a : Option Addr) (len cap : Nat) (zs : List Int) (s : DSt) (g ca : Nat) (Q : List (List UInt8)) (w : World) (h : SrcS w b a len cap zs s) (hN : s.1 < 1000000000) (hq : Strs w (some ⟨g, 0, none⟩) ca Q) (hg : g ≠ b) (h1 : 1 < Q.length) (h2 : Q.length ≤ 256) :
    Calls Tryd.prog 29 #[.pointer (some ⟨b, 0, none⟩), .slice (some ⟨g, 0, none⟩) Q.length ca] w (DrewS w b a len cap zs (.string ⟨(Q.getD (dSmall len zs Q.length s).1 []).toArray⟩) (dSmall len zs Q.length s).2) := by
  have C := Lib.hid (nextS_any b a len cap zs s Q.length w h hN h1 h2)
  have hlt := dSmall_lt len zs s (by omega : 0 < Q.length)
  clear h hN
  obtain ⟨d1, hd1⟩ : ∃ d, (dSmall len zs Q.length s).1 = d := ⟨_, rfl⟩
  obtain ⟨d2, hd2⟩ : ∃ d, (dSmall len zs Q.length s).2 = d := ⟨_, rfl⟩
  rw [hd1] at C hlt ⊢
  rw [hd2] at C ⊢
  clear hd1 hd2
  obtain ⟨g', hA, hc⟩ := strs_at hq hlt
  obtain rfl : g = g' := by simpa using hA
  have HC := Lib.hid hc
  have E : Hid ((⟨(Q.getD d1 []).toArray⟩ : ByteArray) = ⟨Q[d1].toArray⟩) := Lib.hid (by rw [List.getD_eq_getElem?_getD, List.getElem?_eq_getElem hlt]; rfl)
  rw [E.out]
  have HG := Lib.hid hg
  have z0 : ((Q.length : Int) == 0) = false := beq_eq_false_iff_ne.2 (by omega)
  clear hq hA hc E hg
  generalize (⟨Q[d1].toArray⟩ : ByteArray) = x at *
  go_enter Tryd.func29, Tryd.ntmps29
  go_wp2_with fail
  refine C.out.mono ?_
  rintro e w1 ⟨rfl, hs, hgr⟩
  have S := Lib.hid hs
  have G := Lib.hid hgr
  have hc1 : w1.cell? ⟨g, d1, none⟩ = some (.string x) := hgr.cell HC.out (fun e => HG.out (Option.some.inj e))
  clear hs hgr
  go_wp2
  go_ret
  exact ⟨rfl, S.out, G.out⟩

end Go.Proofs.YtjhnhlknfkiodaaDoor
