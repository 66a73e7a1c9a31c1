/- spec's inner operations on data: pop, say, allot. -/
import Derived.Test.YthnbaeamekolmaaGreatDoorDatR
namespace Go.Proofs.YthnbaeamekolmaaGreatDoor
open Go.RowKit
set_option linter.unusedVariables false
set_option linter.unusedSimpArgs false

/-- The stack's slice is no longer than its capacity. -/
def CapS (v : Value) : Prop := ∃ A n k y z a b c, v = .agg #[.slice A n k, y, z, a, b, c] ∧ n ≤ k ∧ k ≤ maxLen

theorem row_cap {w : World} {base : Nat} {A : Option Addr} {n k : Nat} {zs : List Int} (h : Row w base (.slice A n k) zs) : n ≤ k ∧ k ≤ maxLen := by
  rcases h.2 with ⟨hv, _⟩ | ⟨g, cap, cur, hv, hb, hg, h1, h2, _⟩
  · simp only [Value.slice.injEq] at hv; obtain ⟨_, rfl, rfl⟩ := hv; exact ⟨Nat.le_refl _, Nat.zero_le _⟩
  · simp only [Value.slice.injEq] at hv; obtain ⟨_, rfl, rfl⟩ := hv; exact ⟨h1, h2⟩

theorem datOf_cap {w : World} {lo hi : Nat} {v : Value} {d : Dt} (h : DatOf w lo hi v d) : CapS v := by
  obtain ⟨x, y, z, rfl, h1, _⟩ := h
  obtain ⟨_, A, k, rfl, _⟩ := row_ints h1
  exact ⟨_, _, _, _, _, _, _, _, rfl, row_cap h1⟩

/-- The first numbers of a slice. -/
theorem ints_take {w : World} {A : Option Addr} {n c k : Nat} {zs : List Int} (h : Ints w (.slice A n c) zs) (hk : k ≤ zs.length) : Ints w (.slice A k c) (zs.take k) := by
  obtain ⟨h1, A', c', hv, hc⟩ := h
  simp only [Value.slice.injEq] at hv
  obtain ⟨rfl, hn, rfl⟩ := hv
  have hl : (zs.take k).length = k := by rw [List.length_take]; omega
  refine ⟨by rw [hl]; omega, A, c, by rw [hl], fun hp => ?_⟩
  rw [hl] at hp
  obtain ⟨ad, ha, hc⟩ := hc (by omega)
  refine ⟨ad, ha, fun j hj => ?_⟩
  rw [hc j (by omega)]
  simp

set_option maxRecDepth 100000 in
set_option maxHeartbeats 2000000 in
theorem sSay_full (v : Value) (d : Dt) (s : ByteArray) (w : World) (hv : DatIn w v d) (hd : SmallD d) (hs : s.size ≤ 65536) (hf : 300 < d.o.size + s.size) :
    Calls Tryz.prog 202 #[v, .string s] w (ReadOf w d [-17]) := by
  have HD := hv
  obtain ⟨A1, k1, A2, k2, A3, k3, rfl⟩ := datIn_form hv
  have hl := hd.2.2.2
  clear hv hd
  go_enter Tryz.func202, Tryz.ntmps202
  go_wp2
  refine bodyPost_ret (v := .tuple #[.agg #[.slice A1 d.s.length k1, .slice A2 d.b.length k2, .slice A3 d.c.length k3, .int .i64 d.h, .int .i64 d.n, .string d.o], .int .i64 (-17)]) (by simp [results, Tryz.results202, go_sem]) rfl ⟨_, rfl, ?_, ?_⟩
  · exact datIn_below HD (by repeat (first | with_reducible exact Below.refl _ _ | with_reducible refine below_alloc ?_ _))
  · repeat (first | with_reducible exact Below.refl _ _ | with_reducible refine below_alloc ?_ _)

set_option maxRecDepth 100000 in
set_option maxHeartbeats 2000000 in
theorem sSay_more (v : Value) (d : Dt) (s : ByteArray) (w : World) (hv : DatIn w v d) (hd : SmallD d) (hs : s.size ≤ 65536) (hf : d.o.size + s.size ≤ 300) :
    Calls Tryz.prog 202 #[v, .string s] w (ReadOf w { d with o := d.o ++ s } [0]) := by
  have HD := hv
  obtain ⟨A1, k1, A2, k2, A3, k3, rfl⟩ := datIn_form hv
  have hl := hd.2.2.2
  have SZ : Hid ((d.o ++ s).size ≤ maxLen) := Lib.hid (by rw [ByteArray.size_append]; unfold maxLen; omega)
  clear hv hd
  go_enter Tryz.func202, Tryz.ntmps202
  go_wp2
  refine bodyPost_ret (v := .tuple #[.agg #[.slice A1 d.s.length k1, .slice A2 d.b.length k2, .slice A3 d.c.length k3, .int .i64 d.h, .int .i64 d.n, .string (d.o ++ s)], .int .i64 0]) (by simp [results, Tryz.results202, go_sem]) rfl ⟨_, rfl, datIn_out (k1 := k1) (datIn_below HD ?_) SZ.out, ?_⟩
  · repeat (first | with_reducible exact Below.refl _ _ | with_reducible refine below_alloc ?_ _)
  · repeat (first | with_reducible exact Below.refl _ _ | with_reducible refine below_alloc ?_ _)

end Go.Proofs.YthnbaeamekolmaaGreatDoor
