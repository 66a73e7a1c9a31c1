/- impl's methods on a script's data, behind a pointer. -/
import Derived.Test.YtojjknjdlipfpaaDatU
import Derived.RegionTactic
namespace Go.Proofs.Ytojjknjdlipfpaa
open Go.RowKit
set_option linter.unusedVariables false
set_option linter.unusedSimpArgs false

/-- Block g holds this data; its rows lie in blocks of their own from lo on. -/
def BoxIs (w : World) (lo g : Nat) (d : Dt) : Prop :=
  lo ≤ g ∧ ∃ x y z, Whole w g 25 #[x, y, z, .int .i64 d.h, .int .i64 d.n, .string d.o] ∧ DatOf w lo w.heap.size (.agg #[x, y, z, .int .i64 d.h, .int .i64 d.n, .string d.o]) d

/-- What a method with one result leaves. -/
def MethOf (w : World) (lo g : Nat) (d : Dt) (v : Value) (e : Ending) (w' : World) : Prop := e = .returned v ∧ BoxIs w' lo g d ∧ Below lo w w'

theorem row_not_whole {w : World} {lo g : Nat} {v : Value} {zs : List Int} {cs : Array Value} (h : Row w lo v zs) (hw : Whole w g 25 cs) : v.ownBlock ≠ some g := by
  rcases h.2 with ⟨rfl, _⟩ | ⟨g', cap, cur, rfl, _, hh, _⟩
  · simp [Value.ownBlock]
  · intro he
    have e : g' = g := by simpa [Value.ownBlock] using he
    subst e
    unfold Whole at hw
    rw [hh] at hw
    have hne : (3 : TypeId) ≠ 25 := by decide
    injection hw with hw
    injection hw with _ ht
    exact hne ht

theorem box_parts {w : World} {lo g : Nat} {d : Dt} (h : BoxIs w lo g d) : lo ≤ g ∧ ∃ A1 k1 A2 k2 A3 k3, Whole w g 25 #[.slice A1 d.s.length k1, .slice A2 d.b.length k2, .slice A3 d.c.length k3, .int .i64 d.h, .int .i64 d.n, .string d.o] ∧
    Row w lo (.slice A1 d.s.length k1) d.s ∧ Row w lo (.slice A2 d.b.length k2) d.b ∧ Row w lo (.slice A3 d.c.length k3) d.c ∧ d.o.size ≤ maxLen ∧
    Parted (.slice A1 d.s.length k1) (.slice A2 d.b.length k2) ∧ Parted (.slice A1 d.s.length k1) (.slice A3 d.c.length k3) ∧ Parted (.slice A2 d.b.length k2) (.slice A3 d.c.length k3) := by
  obtain ⟨hg, x, y, z, hw, x', y', z', hv, h1, h2, h3, h4, p1, p2, p3, _⟩ := h
  simp only [Value.agg.injEq, Array.mk.injEq, List.cons.injEq, and_true, true_and] at hv
  obtain ⟨rfl, rfl, rfl⟩ := hv
  obtain ⟨_, A1, k1, rfl, _⟩ := row_ints h1
  obtain ⟨_, A2, k2, rfl, _⟩ := row_ints h2
  obtain ⟨_, A3, k3, rfl, _⟩ := row_ints h3
  exact ⟨hg, A1, k1, A2, k2, A3, k3, hw, h1, h2, h3, h4, p1, p2, p3⟩

theorem box_of {w : World} {lo g : Nat} {x y z : Value} {d : Dt} (hg : lo ≤ g) (hw : Whole w g 25 #[x, y, z, .int .i64 d.h, .int .i64 d.n, .string d.o]) (h1 : Row w lo x d.s) (h2 : Row w lo y d.b) (h3 : Row w lo z d.c) (h4 : d.o.size ≤ maxLen)
    (p1 : Parted x y) (p2 : Parted x z) (p3 : Parted y z) : BoxIs w lo g d := ⟨hg, x, y, z, hw, datOf_rows h1 h2 h3 h4 p1 p2 p3⟩

/-- The first numbers of a row. -/
theorem row_take {w : World} {base : Nat} {A : Option Addr} {n c k : Nat} {zs : List Int} (h : Row w base (.slice A n c) zs) (hk : k ≤ zs.length) (hp : 0 < zs.length) : Row w base (.slice A k c) (zs.take k) := by
  obtain ⟨g, cap, hv, hb, hlt, hlc, hcm⟩ := row_form h hp
  simp only [Value.slice.injEq] at hv
  obtain ⟨rfl, rfl, rfl⟩ := hv
  rcases h.2 with ⟨hv, _⟩ | ⟨g', cap', cur, hv, hb', hg, h1, h2, h3, h4⟩
  · cases hv
  · simp only [Value.slice.injEq, Option.some.injEq, Addr.mk.injEq, true_and, and_true] at hv
    obtain ⟨rfl, rfl⟩ := hv
    have hl : (zs.take k).length = k := by rw [List.length_take]; omega
    refine ⟨by rw [hl]; simp; omega, .inr ⟨g, c, cur, by rw [hl], hb, hg, by rw [hl]; omega, hcm, h3, ?_⟩⟩
    rw [hl, List.map_take, ← h4, List.take_take]
    congr 1
    omega

set_option maxRecDepth 100000 in
set_option maxHeartbeats 1000000 in
theorem push_full (lo g : Nat) (d : Dt) (n : Int) (w : World) (hb : BoxIs w lo g d) (hf : d.s.length = 32) :
    Calls Try.prog 38 #[.pointer (some ⟨g, 0, none⟩), .int .i64 n] w (MethOf w lo g d (.int .i64 (-3))) := by
  obtain ⟨hg, A1, k1, A2, k2, A3, k3, hw, _⟩ := box_parts hb
  have c0 := (six_cells hw).1
  have hge : 32 ≤ d.s.length := by omega
  have HB := Lib.hid hb
  clear hf hb hw
  go_enter Try.func38, Try.ntmps38
  go_wp2
  go_ret
  exact ⟨rfl, HB.out, Below.refl _ _⟩

set_option maxRecDepth 100000 in
set_option maxHeartbeats 2000000 in
theorem push_more (lo g : Nat) (d : Dt) (n : Int) (w : World) (hb : BoxIs w lo g d) (hf : d.s.length < 32) :
    Calls Try.prog 38 #[.pointer (some ⟨g, 0, none⟩), .int .i64 n] w (MethOf w lo g { d with s := d.s ++ [n] } (.int .i64 0)) := by
  obtain ⟨hg, A1, k1, A2, k2, A3, k3, hw, r1, r2, r3, h4, p1, p2, p3⟩ := box_parts hb
  have HW := Lib.hid hw
  have c0 := (six_cells hw).1
  have hlt := whole_lt hw
  clear hb hw
  go_enter Try.func38, Try.ntmps38
  go_wp2_with (first
    | (at_builtin; refine wpList_append_ints rfl (.tmp 15) (.tmp 17) rfl rfl lo (.slice A1 d.s.length k1) d.s (row_alloc r1 _) _ [n] (ints_one _ _) rfl rfl (by simp; omega) (by simp; omega) ?_
       intro v2 w2 hr hg2 hat
       have hbk : Below lo w w2 := ((Below.refl _ _).alloc (by omega) _).grown hg2 (by simp; omega) (fun k hk => (row_lt r1 k hk).1)
       have n1 := row_not_whole r1 HW.out
       have W2 : Whole w2 g 25 #[.slice A1 d.s.length k1, .slice A2 d.b.length k2, .slice A3 d.c.length k3, .int .i64 d.h, .int .i64 d.n, .string d.o] := whole_keep (whole_alloc HW.out _) (hg2.block _ (by simp; omega) (fun e => n1 e.symm))
       have Y2 : Row w2 lo (.slice A2 d.b.length k2) d.b := row_mark (row_alloc r2 _) hg2 (parted_sym p1)
       have Z2 : Row w2 lo (.slice A3 d.c.length k3) d.c := row_mark (row_alloc r3 _) hg2 (parted_sym p2)
       have q1 : Parted v2 (.slice A2 d.b.length k2) := fun k hk hk2 => by
         rcases hat with e | e
         · exact p1 k (e ▸ hk) hk2
         · rw [e] at hk; have := (row_lt r2 k hk2).2; simp at hk; omega
       have q2 : Parted v2 (.slice A3 d.c.length k3) := fun k hk hk2 => by
         rcases hat with e | e
         · exact p2 k (e ▸ hk) hk2
         · rw [e] at hk; have := (row_lt r3 k hk2).2; simp at hk; omega
       obtain ⟨_, C1, j1, rfl, _⟩ := row_ints hr
       have hr' : Row w2 lo (.slice C1 (d.s.length + 1) j1) (d.s ++ [n]) := by
         have e : (d.s ++ [n]).length = d.s.length + 1 := by simp
         rw [← e]; exact hr
       rw [show (d.s ++ [n]).length = d.s.length + 1 by simp] at q1 q2
       have d0 := (six_cells W2).1
       have f0 := whole_free W2 0
       have V3 : Whole (w2.setCell ⟨g, 0, none⟩ (.slice C1 (d.s.length + 1) j1)) g 25 #[.slice C1 (d.s.length + 1) j1, .slice A2 d.b.length k2, .slice A3 d.c.length k3, .int .i64 d.h, .int .i64 d.n, .string d.o] := whole_set W2 0 _
       have x1 := row_not_whole hr' W2
       have x2 := row_not_whole Y2 W2
       have x3 := row_not_whole Z2 W2
       clear hg2 hat))
  go_ret
  exact ⟨rfl, box_of hg V3 (row_apart hr' x1) (row_apart Y2 x2) (row_apart Z2 x3) h4 q1 q2 p3, hbk.setCell hg _⟩

set_option maxRecDepth 100000 in
set_option maxHeartbeats 1000000 in
theorem pop_none (lo g : Nat) (d : Dt) (w : World) (hb : BoxIs w lo g d) (hf : d.s.length = 0) :
    Calls Try.prog 45 #[.pointer (some ⟨g, 0, none⟩)] w (MethOf w lo g d (.tuple #[.int .i64 0, .int .i64 (-4)])) := by
  obtain ⟨hg, A1, k1, A2, k2, A3, k3, hw, _⟩ := box_parts hb
  have c0 := (six_cells hw).1
  have HB := Lib.hid hb
  have hle : d.s.length ≤ 0 := by omega
  clear hf hb hw
  go_enter Try.func45, Try.ntmps45
  go_wp2
  go_ret2
  exact ⟨rfl, HB.out, Below.refl _ _⟩

set_option maxRecDepth 100000 in
set_option maxHeartbeats 2000000 in
theorem top_some (lo g : Nat) (d : Dt) (w : World) (hb : BoxIs w lo g d) (hf : 1 ≤ d.s.length) (hs : d.s.length ≤ 1048576) :
    Calls Try.prog 73 #[.pointer (some ⟨g, 0, none⟩)] w (fun e w' => e = .returned (.tuple #[.int .i64 (topOf d), .int .i64 0]) ∧ Below w.heap.size w w') := by
  obtain ⟨hg, A1, k1, A2, k2, A3, k3, hw, r1, r2, r3, h4, p1, p2, p3⟩ := box_parts hb
  have c0 := (six_cells hw).1
  obtain ⟨g1, k1', hA, hg1, hg1', hlc, hcm⟩ := row_form r1 (by omega)
  simp only [Value.slice.injEq, true_and] at hA
  obtain ⟨rfl, rfl⟩ := hA
  have hm : d.s.length - 1 < d.s.length := by omega
  have cm := row_cell r1 (d.s.length - 1) hm
  have LA : Hid (topOf d = d.s[d.s.length - 1]) := Lib.hid (by
    unfold topOf
    rw [List.getLastD_eq_getLast?, List.getLast?_eq_getElem?]; simp [hm])
  clear hb hw r1 r2 r3 h4 p1 p2 p3 hg1 hg1' hlc hcm
  generalize d.s[d.s.length - 1]'_ = top at *
  obtain ⟨n, hn⟩ : ∃ n, d.s.length = n + 1 := ⟨d.s.length - 1, by omega⟩
  rw [hn] at c0 cm
  rw [show n + 1 - 1 = n by omega] at cm
  have hm2 : n ≤ 1048576 := by omega
  have z0 : (((n + 1 : Nat) : Int) == 0) = false := by simp; omega
  have z1 : IntKind.i64.wrap (((n + 1 : Nat) : Int) - 1) = (n : Int) := by rw [show ((n + 1 : Nat) : Int) - 1 = n by omega]; exact IntWalk.i64_in _ (by omega)
  have z2 : (n : Int) < ((n + 1 : Nat) : Int) := by omega
  clear hm hf hs hn
  go_enter Try.func73, Try.ntmps73
  go_wp2
  go_region
  go_wp2
  go_ret2
  exact ⟨by rw [LA.out]; rfl, (Below.refl _ _).drew⟩

set_option maxRecDepth 100000 in
set_option maxHeartbeats 2000000 in
theorem pop_some (lo g : Nat) (d : Dt) (w : World) (hb : BoxIs w lo g d) (hf : 1 ≤ d.s.length) (hs : d.s.length ≤ 1048576) :
    Calls Try.prog 45 #[.pointer (some ⟨g, 0, none⟩)] w (MethOf w lo g { d with s := d.s.dropLast } (.tuple #[.int .i64 (topOf d), .int .i64 0])) := by
  have CT := Lib.hid (top_some lo g d w hb hf hs)
  obtain ⟨hg, A1, k1, A2, k2, A3, k3, hw0, r10, r20, r30, h4, p1, p2, p3⟩ := box_parts hb
  have HL := Lib.hid hg
  have H0 := Lib.hid hw0
  have R1 := Lib.hid r10
  have R2 := Lib.hid r20
  have R3 := Lib.hid r30
  have P := Lib.hid (And.intro h4 (And.intro p1 (And.intro p2 p3)))
  clear hb hw0 r10 r20 r30 h4 p1 p2 p3 hg
  go_enter Try.func45, Try.ntmps45
  go_wp2_with fail
  refine CT.out.mono ?_
  rintro e w1 ⟨rfl, tb⟩
  have hw := whole_below H0.out tb
  have r1 := row_below R1.out tb
  have r2 := row_below R2.out tb
  have r3 := row_below R3.out tb
  obtain ⟨h4, p1, p2, p3⟩ := P.out
  have hg := HL.out
  have c0 := (six_cells hw).1
  have f0 := whole_free hw 0
  obtain ⟨g1, k1', hA, hg1, hg1', hlc, hcm⟩ := row_form r1 (by omega)
  simp only [Value.slice.injEq, true_and] at hA
  obtain ⟨rfl, rfl⟩ := hA
  have DR : Hid (d.s.dropLast = d.s.take (d.s.length - 1)) := Lib.hid (by rw [List.dropLast_eq_take])
  have RT := row_take r1 (k := d.s.length - 1) (by omega) (by omega)
  have n1 := row_not_whole r1 hw
  have n2 := row_not_whole r2 hw
  have n3 := row_not_whole r3 hw
  have V3 := whole_set hw 0 (.slice (some ⟨g1, 0, none⟩) (d.s.length - 1) k1)
  have ST : Hid (BoxIs (w1.setCell ⟨g, 0, none⟩ (.slice (some ⟨g1, 0, none⟩) (d.s.length - 1) k1)) lo g { d with s := d.s.dropLast }) := Lib.hid (by
    rw [DR.out]
    exact box_of hg V3 (row_apart RT n1) (row_apart r2 n2) (row_apart r3 n3) h4 p1 p2 p3)
  have BW : Hid (Below lo w (w1.setCell ⟨g, 0, none⟩ (.slice (some ⟨g1, 0, none⟩) (d.s.length - 1) k1))) := Lib.hid ((tb.mono (Nat.le_trans hg (Nat.le_of_lt (whole_lt H0.out)))).setCell hg _)
  unfold maxLen at hcm
  clear hw V3 RT n1 n2 n3 p1 p2 p3 r1 r2 r3 h4 tb DR hg hg1 hg1'
  obtain ⟨n, hn⟩ : ∃ n, d.s.length = n + 1 := ⟨d.s.length - 1, by omega⟩
  rw [hn, show n + 1 - 1 = n by omega] at ST BW
  rw [hn] at c0
  have hm2 : n ≤ 1048576 := by omega
  have mle : n ≤ k1 := by omega
  have z1 : IntKind.i64.wrap (((n + 1 : Nat) : Int) - 1) = (n : Int) := by rw [show ((n + 1 : Nat) : Int) - 1 = n by omega]; exact IntWalk.i64_in _ (by omega)
  have mlk : (n : Int) ≤ (k1 : Int) := by omega
  clear hf hs hn hlc
  go_wp2
  go_region
  go_wp2
  go_ret2
  exact ⟨rfl, ST.out, BW.out.drew⟩

set_option maxRecDepth 100000 in
set_option maxHeartbeats 2000000 in
theorem say_full (lo g : Nat) (d : Dt) (s : ByteArray) (w : World) (hb : BoxIs w lo g d) (hd : d.o.size ≤ 300) (hs : s.size ≤ 65536) (hf : 300 < d.o.size + s.size) :
    Calls Try.prog 52 #[.pointer (some ⟨g, 0, none⟩), .string s] w (MethOf w lo g d (.int .i64 (-17))) := by
  obtain ⟨hg, A1, k1, A2, k2, A3, k3, hw, _⟩ := box_parts hb
  have c5 := (six_cells hw).2.2.2.2.2
  have HB := Lib.hid hb
  clear hb hw
  go_enter Try.func52, Try.ntmps52
  go_wp2
  go_ret
  exact ⟨rfl, HB.out, Below.refl _ _⟩

set_option maxRecDepth 100000 in
set_option maxHeartbeats 2000000 in
theorem say_more (lo g : Nat) (d : Dt) (s : ByteArray) (w : World) (hb : BoxIs w lo g d) (hd : d.o.size ≤ 300) (hs : s.size ≤ 65536) (hf : d.o.size + s.size ≤ 300) :
    Calls Try.prog 52 #[.pointer (some ⟨g, 0, none⟩), .string s] w (MethOf w lo g { d with o := d.o ++ s } (.int .i64 0)) := by
  obtain ⟨hg, A1, k1, A2, k2, A3, k3, hw, r1, r2, r3, h4, p1, p2, p3⟩ := box_parts hb
  have c5 := (six_cells hw).2.2.2.2.2
  have f5 := whole_free hw 5
  have ST : Hid (BoxIs (w.setCell ⟨g, 5, none⟩ (.string (d.o ++ s))) lo g { d with o := d.o ++ s }) := Lib.hid (box_of hg (whole_set hw 5 _) (row_apart r1 (row_not_whole r1 hw)) (row_apart r2 (row_not_whole r2 hw)) (row_apart r3 (row_not_whole r3 hw)) (by simp [ByteArray.size_append]; unfold maxLen; omega) p1 p2 p3)
  clear hb hw
  go_enter Try.func52, Try.ntmps52
  go_wp2
  go_ret
  exact ⟨rfl, ST.out, (Below.refl _ _).setCell hg _⟩

end Go.Proofs.Ytojjknjdlipfpaa
