/- spec's inner operations on data: pop, say, allot. -/
import Derived.Test.YtojjknjdlipfpaaDatR
namespace Go.Proofs.Ytojjknjdlipfpaa
open Go.RowKit
set_option linter.unusedVariables false
set_option linter.unusedSimpArgs false

/-- The stack's slice is no longer than its capacity. -/
def CapS (v : Value) : Prop := ∃ A n k y z a b c, v = .agg #[.slice A n k, y, z, a, b, c] ∧ n ≤ k ∧ k ≤ maxLen

theorem row_cap {w : World} {base : Nat} {A : Option Addr} {n k : Nat} {zs : List Int} (h : Row w base (.slice A n k) zs) : n ≤ k ∧ k ≤ maxLen := by
  rcases h.2 with ⟨hv, _⟩ | ⟨g, cap, cur, hv, hb, hg, h1, h2, _⟩
  · simp only [Value.slice.injEq] at hv; obtain ⟨_, rfl, rfl⟩ := hv; exact ⟨Nat.le_refl _, Nat.zero_le _⟩
  · simp only [Value.slice.injEq] at hv; obtain ⟨_, rfl, rfl⟩ := hv; exact ⟨h1, h2⟩

theorem datOf_cap {w : World} {lo hi : Nat} {v : Value} {d : Dt} (h : DatOf w lo hi v d) : CapS v := by
  obtain ⟨x, y, z, rfl, h1, _⟩ := h
  obtain ⟨_, A, k, rfl, _⟩ := row_ints h1
  exact ⟨_, _, _, _, _, _, _, _, rfl, row_cap h1⟩

/-- The first numbers of a slice. -/
theorem ints_take {w : World} {A : Option Addr} {n c k : Nat} {zs : List Int} (h : Ints w (.slice A n c) zs) (hk : k ≤ zs.length) : Ints w (.slice A k c) (zs.take k) := by
  obtain ⟨h1, A', c', hv, hc⟩ := h
  simp only [Value.slice.injEq] at hv
  obtain ⟨rfl, hn, rfl⟩ := hv
  have hl : (zs.take k).length = k := by rw [List.length_take]; omega
  refine ⟨by rw [hl]; omega, A, c, by rw [hl], fun hp => ?_⟩
  rw [hl] at hp
  obtain ⟨ad, ha, hc⟩ := hc (by omega)
  refine ⟨ad, ha, fun j hj => ?_⟩
  rw [hc j (by omega)]
  simp

set_option maxRecDepth 100000 in
set_option maxHeartbeats 2000000 in
theorem sPop_none (v : Value) (d : Dt) (w : World) (hv : DatIn w v d) (hf : d.s.length = 0) :
    Calls Try.prog 60 #[v] w (ReadOf w d [0, -4]) := by
  have HD := hv
  obtain ⟨A1, k1, A2, k2, A3, k3, rfl⟩ := datIn_form hv
  clear hv
  have t1 : ((d.s.length : Int) == 0) = true := by rw [hf]; rfl
  clear hf
  go_enter Try.func60, Try.ntmps60
  go_wp2
  refine bodyPost_ret (v := .tuple #[.agg #[.slice A1 d.s.length k1, .slice A2 d.b.length k2, .slice A3 d.c.length k3, .int .i64 d.h, .int .i64 d.n, .string d.o], .int .i64 0, .int .i64 (-4)]) (by simp [results, Try.results60, go_sem]) rfl ⟨_, rfl, ?_, ?_⟩
  · exact datIn_below HD (by repeat (first | with_reducible exact Below.refl _ _ | with_reducible refine below_alloc ?_ _))
  · repeat (first | with_reducible exact Below.refl _ _ | with_reducible refine below_alloc ?_ _)

set_option maxRecDepth 100000 in
set_option maxHeartbeats 2000000 in
theorem sPop_some (v : Value) (d : Dt) (w : World) (hv : DatIn w v d) (hs : SmallD d) (hcap : CapS v) (hf : 1 ≤ d.s.length) :
    Calls Try.prog 60 #[v] w (ReadOf w { d with s := d.s.dropLast } [topOf d, 0]) := by
  have HD := hv
  obtain ⟨A1, k1, A2, k2, A3, k3, rfl⟩ := datIn_form hv
  obtain ⟨A', n', k', y', z', a', b', c', he, hle, hmx⟩ := hcap
  simp only [Value.agg.injEq, Array.mk.injEq, List.cons.injEq, Value.slice.injEq, and_true, true_and] at he
  obtain ⟨⟨rfl, rfl, rfl⟩, rfl, rfl, rfl, rfl, rfl⟩ := he
  have h0 := datIn_first HD
  have hsm := hs.1
  obtain ⟨_, A', c', hv', hc⟩ := h0
  simp only [Value.slice.injEq, true_and] at hv'
  obtain ⟨rfl, rfl⟩ := hv'
  obtain ⟨ad, rfl, hc'⟩ := hc (by omega)
  have hm : d.s.length - 1 < d.s.length := by omega
  have cm := hc' (d.s.length - 1) hm
  have cm2 : ∀ o o' : Obj, ((w.alloc o).alloc o').cell? (ad.add (d.s.length - 1)) = some (.int .i64 d.s[d.s.length - 1]) := fun o o' => by
    rw [(below_alloc (below_alloc (Below.refl w.heap.size w) o) o').cell (World.block_lt_of_cell? w _ cm)]; exact cm
  have LA : Hid (topOf d = d.s[d.s.length - 1]) := Lib.hid (by
    unfold topOf
    rw [List.getLastD_eq_getLast?, List.getLast?_eq_getElem?]; simp [hm])
  have DR : Hid (d.s.dropLast = d.s.take (d.s.length - 1)) := Lib.hid (by rw [List.dropLast_eq_take])
  have TL : Hid ((d.s.take (d.s.length - 1)).length = d.s.length - 1) := Lib.hid (by rw [List.length_take]; omega)
  have TK : Hid (Ints w (.slice (some ad) (d.s.length - 1) k1) (d.s.take (d.s.length - 1))) := Lib.hid (ints_take (datIn_first HD) (by omega))
  have e1 : ((d.s.length : Int) == 0) = false := by rw [beq_eq_false_iff_ne]; omega
  have mle : d.s.length - 1 ≤ k1 := by omega
  unfold maxLen at hmx
  clear hv hc hc' hs cm
  generalize d.s[d.s.length - 1] = top at *
  go_enter Try.func60, Try.ntmps60
  go_wp2_with (first
    | (at_builtin; refine wpList_append_new rfl (.tmp 19) (.tmp 24) rfl rfl _ rfl (by simp) (.slice (some ad) (d.s.length - 1) k1) (d.s.take (d.s.length - 1)) rfl (ints_below TK.out (below_alloc (below_alloc (Below.refl _ _) _) _)) (by rw [TL.out]; omega) ?_
       intro G m2 w2 hr hb
       have B2 : Below w.heap.size w w2 := below_step (below_alloc (below_alloc (Below.refl _ _) _) _) hb
       have V2 := whole_b hb (whole_alloc (whole_new w _ _) _)
       have T2 := whole_b hb (whole_new1 w _ _ _)
       obtain ⟨c0, c1, c2, c3, c4, c5⟩ := six_cells V2
       obtain ⟨r0, r1, r2, r3, r4, r5⟩ := six_cells T2
       have f0 := whole_free V2 0
       have fr := whole_free T2
       have R2 : Row w2 (w.heap.size + 1 + 1) (.slice G (d.s.take (d.s.length - 1)).length m2) (d.s.take (d.s.length - 1)) := by simpa using hr
       clear hb hr))
  refine bodyPost_ret (v := .tuple #[.agg #[.slice G (d.s.take (d.s.length - 1)).length m2, .slice A2 d.b.length k2, .slice A3 d.c.length k3, .int .i64 d.h, .int .i64 d.n, .string d.o], .int .i64 top, .int .i64 0]) (by simp [results, Try.results60, go_sem, *]) rfl ⟨_, by rw [LA.out]; rfl, ?_, ?_⟩
  · rw [DR.out]
    refine datIn_stack (n := 0) (k1 := k1) (A1 := some ad) (datIn_below HD ?_) (row_ints (base := w.heap.size + 1 + 1) ?_)
    · repeat (first | with_reducible exact B2 | with_reducible refine Below.setCell ?_ (by simp) _)
    · repeat (first | with_reducible exact R2 | ((with_reducible refine row_store ?_ ?hh); case hh => omega))
  · repeat (first | with_reducible exact B2 | with_reducible refine Below.setCell ?_ (by simp) _)

set_option maxRecDepth 100000 in
set_option maxHeartbeats 2000000 in
theorem sSay_full (v : Value) (d : Dt) (s : ByteArray) (w : World) (hv : DatIn w v d) (hd : SmallD d) (hs : s.size ≤ 65536) (hf : 300 < d.o.size + s.size) :
    Calls Try.prog 53 #[v, .string s] w (ReadOf w d [-17]) := by
  have HD := hv
  obtain ⟨A1, k1, A2, k2, A3, k3, rfl⟩ := datIn_form hv
  have hl := hd.2.2.2
  clear hv hd
  go_enter Try.func53, Try.ntmps53
  go_wp2
  refine bodyPost_ret (v := .tuple #[.agg #[.slice A1 d.s.length k1, .slice A2 d.b.length k2, .slice A3 d.c.length k3, .int .i64 d.h, .int .i64 d.n, .string d.o], .int .i64 (-17)]) (by simp [results, Try.results53, go_sem]) rfl ⟨_, rfl, ?_, ?_⟩
  · exact datIn_below HD (by repeat (first | with_reducible exact Below.refl _ _ | with_reducible refine below_alloc ?_ _))
  · repeat (first | with_reducible exact Below.refl _ _ | with_reducible refine below_alloc ?_ _)

set_option maxRecDepth 100000 in
set_option maxHeartbeats 2000000 in
theorem sSay_more (v : Value) (d : Dt) (s : ByteArray) (w : World) (hv : DatIn w v d) (hd : SmallD d) (hs : s.size ≤ 65536) (hf : d.o.size + s.size ≤ 300) :
    Calls Try.prog 53 #[v, .string s] w (ReadOf w { d with o := d.o ++ s } [0]) := by
  have HD := hv
  obtain ⟨A1, k1, A2, k2, A3, k3, rfl⟩ := datIn_form hv
  have hl := hd.2.2.2
  have SZ : Hid ((d.o ++ s).size ≤ maxLen) := Lib.hid (by rw [ByteArray.size_append]; unfold maxLen; omega)
  clear hv hd
  go_enter Try.func53, Try.ntmps53
  go_wp2
  refine bodyPost_ret (v := .tuple #[.agg #[.slice A1 d.s.length k1, .slice A2 d.b.length k2, .slice A3 d.c.length k3, .int .i64 d.h, .int .i64 d.n, .string (d.o ++ s)], .int .i64 0]) (by simp [results, Try.results53, go_sem]) rfl ⟨_, rfl, datIn_out (k1 := k1) (datIn_below HD ?_) SZ.out, ?_⟩
  · repeat (first | with_reducible exact Below.refl _ _ | with_reducible refine below_alloc ?_ _)
  · repeat (first | with_reducible exact Below.refl _ _ | with_reducible refine below_alloc ?_ _)

end Go.Proofs.Ytojjknjdlipfpaa
