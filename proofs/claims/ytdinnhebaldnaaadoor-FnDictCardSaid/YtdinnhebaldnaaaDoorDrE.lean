/- Drawn dictionaries. -/
import Derived.Test.YtdinnhebaldnaaaDoorDrD
import Derived.Test.YtdinnhebaldnaaaDoorAddC
import Derived.Test.YtdinnhebaldnaaaDoorWdL
namespace Go.Proofs.YtdinnhebaldnaaaDoor
open Go.RowKit
set_option linter.unusedVariables false
set_option linter.unusedSimpArgs false

/-- A drawn dictionary. -/
def DrawnQ (Q : List Wd) : Prop := ∃ us, Q = kernW ++ us ∧ us.length ≤ 5 ∧ ∀ x ∈ us, Drawn1 x

/-- What a drawn dictionary leaves. -/
def DictDrew (w : World) (b : Nat) (e : Ending) (w' : World) : Prop := ∃ v Q, e = .returned v ∧ DrawnQ Q ∧ WRow w' w.heap.size v Q ∧ w.grownBy w' (some b)

theorem drawn_size {x : Wd} (h : Drawn1 x) : x.n.size ≤ 5 := by
  obtain ⟨_, p, hp, hn⟩ := h
  have := uname_size hp
  rw [hn]
  show p.toArray.size ≤ 5
  simpa using this

set_option maxRecDepth 100000 in
set_option maxHeartbeats 4000000 in
theorem words_any (b : Nat) (a : Option Addr) (len cap : Nat) (zs : List Int) (w : World) (h : Src w b a len cap zs 0) :
    Calls Tryd.prog 34 #[.pointer (some ⟨b, 0, none⟩)] w (DictDrew w b) := by
  have hb := src_lt h
  have HA := Lib.hid (src_code_lt h)
  have H := Lib.hid h
  clear h
  go_enter Tryd.func34, Tryd.ntmps34
  go_wp2_with fail
  refine (sKernel_any _).mono ?_
  rintro e w1 ⟨v, rfl, hr, _, hb1⟩
  have S1 := Lib.hid (src_lo H.out hb HA.out hb1)
  have R1 := Lib.hid hr
  have G1 : Hid (w.grownBy w1 (some b)) := Lib.hid (gb_of_lo (World.grownBy.refl w (some b)) hb1)
  clear hr hb1
  go_wp2_with fail
  refine (next_small _ _ _ _ _ _ _ _ S1.out (by unfold Few; omega) (by omega) (by omega)).mono ?_
  rintro e w2 ⟨n, hn, rfl, hs, hg⟩
  obtain ⟨n0, n1⟩ := hn
  obtain ⟨j, rfl⟩ := Int.eq_ofNat_of_zero_le n0
  have S2 := Lib.hid hs
  have G2 := Lib.hid (grown_trans G1.out hg)
  have R2 := Lib.hid (wrow_apart R1.out hg (fun g h1 h2 => by have := wrow_lt R1.out g h1; simp at h2; omega))
  clear hs hg S1 G1 R1
  go_wp2_with fail
  go_loopw [4, 3] (fun i u wr => ∃ (us : List Wd) (k : Nat), i = .int .i64 k ∧ us.length + k ≤ 5 ∧ (∀ x ∈ us, Drawn1 x) ∧ WRow wr w.heap.size u (kernW ++ us) ∧ Src wr b a len cap zs (1 + 7 * us.length) ∧ w.grownBy wr (some b)) (fun i _ _ => (intOf i).toNat)
  case atStart => exact ⟨[], j, rfl, by simp; omega, fun x hx => by simp at hx, by rw [List.append_nil]; exact R2.out, S2.out, G2.out⟩
  case round =>
    obtain ⟨us, k, rfl, hk, hus, hr, hs, hg⟩ := hrel
    have HU := Lib.hid hus
    have HR := Lib.hid hr
    have HS := Lib.hid hs
    have HG := Lib.hid hg
    clear hus hr hs hg
    match k, hk with
    | 0, hk =>
      have t9 : decide ((0 : Int) < ((0 : Nat) : Int)) = false := by decide
      go_wp2
      go_ret
      exact ⟨u3, _, rfl, ⟨us, rfl, by omega, HU.out⟩, HR.out, HG.out⟩
    | k + 1, hk =>
      have t9 : decide ((0 : Int) < ((k + 1 : Nat) : Int)) = true := decide_eq_true (by omega)
      go_wp2_with fail
      refine (userWord_any _ _ _ _ _ _ _ HS.out (by omega)).mono ?_
      rintro e w3 ⟨x, rfl, hx, hs, hg⟩
      have HX := Lib.hid hx
      have S3 := Lib.hid hs
      have G3 := Lib.hid (grown_trans HG.out hg)
      have R3 := Lib.hid (wrow_apart HR.out hg (fun g h1 h2 => by have := wrow_lt HR.out g h1; simp at h2; omega))
      have z3 := G3.out.size
      clear hs hg hx
      have RA := Lib.hid (wrow_below R3.out (below_alloc (Below.refl _ _) (.cells #[.string x.n, .int .i64 x.k, .int .i64 x.v] 26)))
      have NW := Lib.hid (box_at w3 x)
      have KL := kernW_len
      go_wp2_with (at_builtin; refine wpList_append_words rfl _ _ rfl w.heap.size u3 (kernW ++ us) rfl RA.out w3.heap.size 1 1 [x] rfl rfl (one_at NW.out) (names_one (by have := drawn_size HX.out; unfold maxLen; omega)) (by simp [KL]; omega) (by simp; omega) ?_
                   intro v' wx hrow hgrow hnil hat
                   have BL : Below w.heap.size w3 wx := ((Below.refl w.heap.size w3).alloc z3 _).grown hgrow (by simp; omega) (fun g hg => (wrow_lt RA.out g hg).1)
                   have RX := Lib.hid hrow
                   have SX := Lib.hid (src_lo S3.out hb HA.out BL)
                   have GX := Lib.hid (gb_of_lo G3.out BL)
                   clear hrow hgrow hnil hat BL)
      clear t9 KL
      go_roundw
      case rel => exact ⟨us ++ [x], k, by go_num, by simp; omega, fun y hy => by rcases List.mem_append.1 hy with hy | hy; (exact HU.out y hy); (rw [List.mem_singleton.1 hy]; exact HX.out), by rw [← List.append_assoc]; exact RX.out, src_mono SX.out (by simp; omega), GX.out⟩
      case measure => simp [intOf]

/-- What a drawn dictionary leaves, whatever it is drawn from. -/
def DictOf (w : World) (e : Ending) (w' : World) : Prop := ∃ v Q, e = .returned v ∧ DrawnQ Q ∧ WRow w' w.heap.size v Q ∧ Below w.heap.size w w'

set_option maxRecDepth 100000 in
set_option maxHeartbeats 1000000 in
theorem wordsDrawn_any (a : Option Addr) (len cap : Nat) (zs : List Int) (w : World) (h : BRow w a len cap zs) (hl : len ≤ 9223372036854775807) :
    Calls Tryd.prog 10 #[.slice a len cap] w (DictOf w) := by
  have S := Lib.hid (src_new h)
  clear h
  go_enter Tryd.func10, Tryd.ntmps10
  go_wp2_with fail
  refine (source_any _ _ _ _ hl).mono ?_
  rintro e w' ⟨rfl, rfl⟩
  go_wp2_with fail
  refine (words_any _ _ _ _ _ _ S.out).mono ?_
  rintro e w1 ⟨v, Q, rfl, hq, hr, hg⟩
  have G := Lib.hid (below_new _ hg)
  have R := Lib.hid (wrow_base hr (by simp : w.heap.size ≤ _))
  have HQ := Lib.hid hq
  clear hr hg hq
  go_wp2
  go_ret
  exact ⟨v, Q, rfl, HQ.out, R.out, G.out⟩

/-- What a drawn word leaves, whatever it is drawn from. -/
def WordOf (w : World) (e : Ending) (w' : World) : Prop := ∃ x : Wd, e = .returned (.agg #[.string x.n, .int .i64 x.k, .int .i64 x.v]) ∧ Drawn1 x ∧ Below w.heap.size w w'

set_option maxRecDepth 100000 in
set_option maxHeartbeats 1000000 in
theorem userWordDrawn_any (a : Option Addr) (len cap : Nat) (zs : List Int) (w : World) (h : BRow w a len cap zs) (hl : len ≤ 9223372036854775807) :
    Calls Tryd.prog 11 #[.slice a len cap] w (WordOf w) := by
  have s := src_new (brow_below h (below_alloc (Below.refl _ _) (.cells #[.string ⟨#[]⟩, .int .i64 0, .int .i64 0] 26)))
  rw [alloc_size] at s
  have S := Lib.hid s
  clear h s
  go_enter Tryd.func11, Tryd.ntmps11
  go_wp2_with fail
  refine (source_any _ _ _ _ hl).mono ?_
  rintro e w' ⟨rfl, rfl⟩
  go_wp2_with fail
  refine (userWord_any _ _ _ _ _ _ _ S.out (by omega)).mono ?_
  rintro e w1 ⟨x, rfl, hx, _, hg⟩
  have B : Hid (Below (w.alloc (.cells #[.string ⟨#[]⟩, .int .i64 0, .int .i64 0] 26)).heap.size (w.alloc (.cells #[.string ⟨#[]⟩, .int .i64 0, .int .i64 0] 26)) w1) := Lib.hid (below_new _ (by rw [alloc_size]; exact hg))
  have HX := Lib.hid hx
  have c0 := cells_below B.out ⟨w.heap.size, 0, none⟩ (.string ⟨#[]⟩) (by simp)
  have c1 := cells_below B.out ⟨w.heap.size, 1, none⟩ (.int .i64 0) (by simp)
  have c2 := cells_below B.out ⟨w.heap.size, 2, none⟩ (.int .i64 0) (by simp)
  have f0 : ∀ i, w1.frozen? ⟨w.heap.size, i, none⟩ = false := fun i => by rw [B.out.frozen (p := ⟨w.heap.size, i, none⟩) (by simp)]; simp
  have z1 : w.heap.size < w1.heap.size := by have := B.out.size; simp at this; omega
  have BB := Lib.hid (below_step (below_alloc (Below.refl w.heap.size w) _) B.out)
  clear hg hx
  go_wp2
  refine bodyPost_ret (v := .agg #[.string x.n, .int .i64 x.k, .int .i64 x.v]) (by simp [results, Tryd.results11, go_sem, *]) rfl ⟨x, rfl, HX.out, ?_⟩
  repeat (first | with_reducible exact BB.out | with_reducible refine Below.setCell ?_ (by simp; try omega) _)

end Go.Proofs.YtdinnhebaldnaaaDoor
