/- impl's FindWord: the map of the last words. -/
import Derived.Test.YtdinnhebaldnaaaDoorFindB
namespace Go.Proofs.YtdinnhebaldnaaaDoor
open Go.RowKit
set_option linter.unusedVariables false
set_option linter.unusedSimpArgs false

/-- A name, large. -/
def upS (s : ByteArray) : ByteArray := ⟨(upL s.data.toList).toArray⟩

theorem upS_size (s : ByteArray) : (upS s).size = s.size := by
  show (upL s.data.toList).toArray.size = s.data.size
  unfold upL; simp

theorem upO_short {s : ByteArray} (h : s.size ≤ 65536) : upO s.data.toList = upL s.data.toList := by unfold upO; rw [if_neg (by rw [list_len]; omega)]

theorem hit_key {nm : ByteArray} {x : Wd} : hitB nm x = true ↔ upS x.n = upS nm ∧ (x.k == 3) = false := by
  unfold hitB upS
  constructor
  · intro h
    rw [Bool.and_eq_true] at h
    obtain ⟨h1, h2⟩ := h
    rw [beq_iff_eq] at h2
    exact ⟨by rw [h2], by simpa using h1⟩
  · rintro ⟨h1, h2⟩
    have h3 : upL x.n.data.toList = upL nm.data.toList := by
      have := congrArg (fun b : ByteArray => b.data.toList) h1
      simpa using this
    rw [h3]
    simp at h2
    simp [h2]

/-- What a map of the last of k words holds under a name. -/
def LastAt (D : DataW Unit) (Q : List Wd) (nm : ByteArray) (k : Nat) : Prop :=
  (lastTo Q nm k = 0 → Go.Maps.has D (klit (upS nm) false) = false) ∧
  (lastTo Q nm k ≠ 0 → Go.Maps.has D (klit (upS nm) false) = true ∧ ∀ z, D.atKey (klit (upS nm) false) z = .lit (.int .i64 (lastTo Q nm k : Nat)))

theorem lastAt_none (Q : List Wd) (nm : ByteArray) : LastAt (.map []) Q nm 0 := ⟨fun _ => rfl, fun h => absurd rfl h⟩

theorem lastAt_next {D : DataW Unit} {Q : List Wd} {nm : ByteArray} {k : Nat} (h : LastAt D Q nm k) (hD : Go.Maps.IsMap D) (hk : k < Q.length) (hs : Q[k].n.size ≤ 65536) (hn : nm.size ≤ 65536) :
    LastAt (D.put (klit (upS Q[k].n) (Q[k].k == 3)) (.lit (.int .i64 ((k : Int) + 1)))) Q nm (k + 1) := by
  have s1 : (upS Q[k].n).size ≤ maxLen := by rw [upS_size]; unfold maxLen; omega
  have s2 : (upS nm).size ≤ maxLen := by rw [upS_size]; unfold maxLen; omega
  cases hh : hitB nm Q[k]
  · have e := lastTo_miss hk hh
    have hne : klit (upS nm) false ≠ klit (upS Q[k].n) (Q[k].k == 3) := by
      intro e
      obtain ⟨e1, e2⟩ := klit_inj s2 s1 e
      rw [hit_key.2 ⟨e1.symm, e2.symm⟩] at hh
      cases hh
    unfold LastAt
    rw [e, Go.Maps.has_put_other hne]
    refine ⟨h.1, fun h0 => ⟨(h.2 h0).1, fun z => ?_⟩⟩
    rw [Go.Maps.atKey_put_other hne]
    exact (h.2 h0).2 z
  · have e := lastTo_hit hk hh
    obtain ⟨e1, e2⟩ := hit_key.1 hh
    unfold LastAt
    rw [e, e1, e2]
    refine ⟨fun h0 => by omega, fun _ => ⟨Go.Maps.has_put_same hD (klit_key _ _ s2) _, fun z => ?_⟩⟩
    rw [Go.Maps.atKey_put_same hD (klit_key _ _ s2)]
    rfl

set_option maxRecDepth 100000 in
set_option maxHeartbeats 1000000 in
theorem scriptKey_any (s : ByteArray) (w : World) (hs : s.size ≤ 65536) :
    Calls Tryd.prog 43 #[.string s] w fun e w' => e = .returned (.agg #[.string (upS s), .bool false]) ∧ Below w.heap.size w w' := by
  have E := Lib.hid (upO_short hs)
  go_enter Tryd.func43, Tryd.ntmps43
  go_wp2_with fail
  refine (upperOf_any s _ (by unfold maxLen; omega)).mono ?_
  rintro e w1 ⟨rfl, hb⟩
  rw [E.out]
  have B1 := Lib.hid (below_step (below_alloc (Below.refl _ _) _) hb)
  have c0 := cells_below hb ⟨w.heap.size, 0, none⟩ (.string ⟨#[]⟩) (by simp)
  have c1 := cells_below hb ⟨w.heap.size, 1, none⟩ (.bool false) (by simp)
  have f0 : w1.frozen? ⟨w.heap.size, 0, none⟩ = false := by rw [hb.frozen (by simp)]; simp
  have f1 : w1.frozen? ⟨w.heap.size, 1, none⟩ = false := by rw [hb.frozen (by simp)]; simp
  have zl : w.heap.size < w1.heap.size := by have := hb.size; simp at this; omega
  clear hb
  have US : Hid ((⟨(upL s.data.toList).toArray⟩ : ByteArray) = upS s) := Lib.hid rfl
  rw [US.out]
  generalize hu : upS s = u at *
  have HU := Lib.hid hu
  clear hu
  go_wp2
  refine bodyPost_ret (v := .agg #[.string u, .bool false]) (by simp [results, Tryd.results43, go_sem, *]) rfl ⟨by rw [HU.out], ?_⟩
  exact (B1.out.setCell (p := ⟨w.heap.size, 0, none⟩) (Nat.le_refl _) _).setCell (p := ⟨w.heap.size, 1, none⟩) (Nat.le_refl _) _

theorem zeroInt (w : World) : (zeroValue 3).run Tryd.prog w = .ok (.int .i64 0) w := by kernel_rfl

theorem make_map (k : IntKind) (n : Int) (w : World) : (Instr.makeMap 56 (some (.int k n))).run Tryd.prog w = .ok (.map (some w.heap.size)) (w.alloc (.map #[] 0)) := by
  simp [Instr.makeMap, run_underlying Tryd.underlying56, asInt, asIntOf, Result.andThen]

/-- What the map of the last words leaves. -/
def MapOf (w : World) (Q : List Wd) (nm : ByteArray) (e : Ending) (w' : World) : Prop :=
  ∃ (b n : Nat) (D : DataW Unit), e = .returned (.map (some b)) ∧ w'.ownsMap Tryd.prog 59 (plainElem Tryd.prog 3) b n D ∧ LastAt D Q nm Q.length ∧ Below w.heap.size w w'

set_option maxRecDepth 100000 in
set_option maxHeartbeats 4000000 in
theorem latest_any (v : Value) (Q : List Wd) (nm : ByteArray) (w : World) (hv : Wds w v Q) (hs : Short Q) (hn : nm.size ≤ 65536) (hq : Q.length ≤ 4096) :
    Calls Tryd.prog 42 #[v] w (MapOf w Q nm) := by
  have HV := Lib.hid hv
  have HS := Lib.hid hs
  obtain ⟨A, ca, rfl, hcap, hl, _⟩ := wds_form hv
  have hmm := make_map
  clear hs hv hl
  go_enter Tryd.func42, Tryd.ntmps42
  go_wp2
  go_loopw [12] (fun i wr => ∃ (k : Nat) (D : DataW Unit), k ≤ Q.length ∧ i = .int .i64 k ∧ wr.ownsMap Tryd.prog 59 (plainElem Tryd.prog 3) w.heap.size k D ∧ LastAt D Q nm k ∧ Below w.heap.size w wr) (fun i _ => Q.length - (intOf i).toNat)
  case atStart => exact ⟨0, .map [], Nat.zero_le _, rfl, World.ownsMap_made _ _ _ _, lastAt_none Q nm, below_alloc (Below.refl _ _) _⟩
  case round =>
    obtain ⟨k, D, hk, rfl, hm, hla, hb⟩ := hrel
    have HM := Lib.hid hm
    have HB := Lib.hid hb
    have HL := Lib.hid hla
    clear hm hb hla hmm
    by_cases hlt : k < Q.length
    · obtain ⟨ga, rfl⟩ := wds_block HV.out (by omega)
      have hxs := HS.out k hlt
      obtain ⟨c0, c1, c2⟩ := wds_word (wds_below HV.out HB.out) k hlt
      have NX := Lib.hid (lastAt_next HL.out HM.out.isMap hlt hxs hn)
      generalize Q[k] = x at *
      simp only [] at c0 c1 c2
      go_wp2_with fail
      refine (scriptKey_any x.n _ hxs).mono ?_
      rintro e w1 ⟨rfl, hb⟩
      have zw : wr.heap.size < w1.heap.size := by have := hb.size; simp at this; omega
      have B1 := Lib.hid (below_step (below_alloc HB.out _) hb)
      have M1 := Lib.hid ((HM.out.alloc (.cells #[.string x.n, .int .i64 x.k, .int .i64 x.v] 26)).kept (gb_of_below hb) (row := none) (by simp))
      obtain ⟨x0, x1, x2⟩ := box_cells hb
      have XK : Hid (keyOf Tryd.prog 59 (.agg #[.string (upS x.n), .bool (x.k == 3)]) = some (klit (upS x.n) (x.k == 3))) := Lib.hid (key_of _ _ (by rw [upS_size]; unfold maxLen; omega))
      clear hb c0 c1 c2 hxs
      generalize upS x.n = u at *
      generalize hk3 : (x.k == 3) = b3 at *
      have M2 := Lib.hid (M1.out.alloc (.cells #[.string u, .bool b3] 59))
      have B2 := Lib.hid (below_alloc B1.out (.cells #[.string u, .bool b3] 59))
      go_wp2_with (first
        | (at_mapUpdate; refine wpList_mapUpdate_own _ rfl _ _ _ 56 rfl 59 3 keyed Tryd.underlying56 _ w.heap.size k D rfl M2.out (by unfold maxLen; omega) _ _ _ rfl rfl XK.out _ [] (plainElem_int Tryd.underlying3 (WalkArith.wf_i64 (by omega))) ?_
           intro w2 hown2 hgrow2
           have B3 := Lib.hid (B2.out.grown hgrow2 B2.out.size (fun j hj => by cases hj; exact Nat.le_refl _))
           have M3 := Lib.hid hown2
           clear hown2 hgrow2))
      go_roundw
      case rel => exact ⟨k + 1, _, by omega, by go_num, M3.out, NX.out, B3.out⟩
      case measure => simp [intOf]; omega
    · obtain rfl : k = Q.length := by omega
      clear hlt
      go_wp2
      go_ret
      exact ⟨_, _, D, rfl, HM.out, HL.out, HB.out⟩

set_option maxRecDepth 100000 in
set_option maxHeartbeats 4000000 in
theorem iFindWord_any (v : Value) (Q : List Wd) (nm : ByteArray) (w : World) (hv : Wds w v Q) (hn : nm.size ≤ maxLen) (ht : Tabs w) (hw : dictB Q = true → wordL nm.data.toList = false → lastTo Q nm Q.length = 0) :
    Calls Tryd.prog 19 #[v, .string nm] w (NumsOf w (findF Q nm)) := by
  have HV := Lib.hid hv
  have HN := Lib.hid hn
  have HT := Lib.hid ht
  have HW := Lib.hid hw
  obtain ⟨A, ca, rfl, hcap, hl, _⟩ := wds_form hv
  unfold maxLen at hl hn
  clear hv ht hw
  by_cases h1 : 4096 < Q.length
  · have E : Hid (findF Q nm = (0, 2)) := Lib.hid (if_pos (.inl h1))
    have t0 : decide ((4096 : Int) < (Q.length : Int)) = true := by simp; omega
    go_enter Tryd.func19, Tryd.ntmps19
    go_wp2
    go_ret2
    exact ⟨nums_eq E.out, Below.refl _ _⟩
  · have t0 : decide ((4096 : Int) < (Q.length : Int)) = false := by simp; omega
    by_cases h2 : 65536 < nm.size
    · have E : Hid (findF Q nm = (0, 2)) := Lib.hid (if_pos (.inr h2))
      have t1 : decide ((65536 : Int) < (nm.size : Int)) = true := by simp; omega
      go_enter Tryd.func19, Tryd.ntmps19
      go_wp2
      go_ret2
      exact ⟨nums_eq E.out, Below.refl _ _⟩
    · have t1 : decide ((65536 : Int) < (nm.size : Int)) = false := by simp; omega
      have E0 : Hid (findF Q nm = if dictB Q = false then (0, 1) else if wordL nm.data.toList = true ∧ lastTo Q nm Q.length ≠ 0 then (((lastTo Q nm Q.length : Nat) : Int), (0 : Int)) else (0, 10)) := Lib.hid (if_neg (by omega))
      cases hd : dictB Q
      · have E : Hid (findF Q nm = (0, 1)) := Lib.hid (by rw [E0.out, if_pos hd])
        go_enter Tryd.func19, Tryd.ntmps19
        go_wp2_with fail
        refine (iDict_any _ _ _ HV.out HT.out).mono ?_
        rintro e w1 ⟨rfl, hb⟩
        rw [hd]
        go_wp2
        go_ret2
        exact ⟨nums_eq E.out, hb⟩
      · have HS := Lib.hid (dict_short hd)
        have E1 : Hid (findF Q nm = if wordL nm.data.toList = true ∧ lastTo Q nm Q.length ≠ 0 then (((lastTo Q nm Q.length : Nat) : Int), (0 : Int)) else (0, 10)) := Lib.hid (by rw [E0.out, if_neg (by rw [hd]; simp)])
        have XK : Hid (keyOf Tryd.prog 59 (.agg #[.string (upS nm), .bool false]) = some (klit (upS nm) false)) := Lib.hid (key_of _ _ (by rw [upS_size]; unfold maxLen; omega))
        go_enter Tryd.func19, Tryd.ntmps19
        go_wp2_with fail
        refine (iDict_any _ _ _ HV.out HT.out).mono ?_
        rintro e w1 ⟨rfl, hb⟩
        have B1 := Lib.hid hb
        rw [hd]
        clear hb
        go_wp2_with fail
        refine (latest_any _ Q nm _ (wds_below HV.out B1.out) HS.out (by omega) (by omega)).mono ?_
        rintro e w2 ⟨b, n, D, rfl, hm, hla, hb⟩
        have B2 := Lib.hid (below_step B1.out hb)
        have M2 := Lib.hid hm
        clear hb hm
        go_wp2_with fail
        refine (scriptKey_any nm _ (by omega)).mono ?_
        rintro e w3 ⟨rfl, hb⟩
        have B3 := Lib.hid (below_step B2.out hb)
        have M3 := Lib.hid (M2.out.kept (gb_of_below hb) (row := none) (by simp))
        clear hb
        by_cases h0 : lastTo Q nm Q.length = 0
        · have E : Hid (findF Q nm = (0, 10)) := Lib.hid (by rw [E1.out, if_neg (by rw [h0]; simp)])
          have HH := Lib.hid (hla.1 h0)
          clear hla h0
          generalize upS nm = u at *
          go_wp2_with (first
            | (at_lookup; refine wpList_lookup_own_ok_int _ rfl _ _ 56 rfl 59 3 .i64 keyed Tryd.underlying56 Tryd.underlying3 (zeroInt _) b n D rfl M3.out _ _ rfl XK.out ?_
               intro c hat hwc
               rw [HH.out]
               clear hat hwc))
          go_ret2
          exact ⟨nums_eq E.out, B3.out⟩
        · have hwl : wordL nm.data.toList = true := by
            cases hwl : wordL nm.data.toList
            · exact absurd (HW.out hd hwl) h0
            · rfl
          have E : Hid (findF Q nm = (((lastTo Q nm Q.length : Nat) : Int), (0 : Int))) := Lib.hid (by rw [E1.out, if_pos ⟨hwl, h0⟩])
          have HH := Lib.hid (hla.2 h0).1
          have HA := Lib.hid (hla.2 h0).2
          clear hla h0 hwl
          generalize upS nm = u at *
          go_wp2_with (first
            | (at_lookup; refine wpList_lookup_own_ok_int _ rfl _ _ 56 rfl 59 3 .i64 keyed Tryd.underlying56 Tryd.underlying3 (zeroInt _) b n D rfl M3.out _ _ rfl XK.out ?_
               intro c hat hwc
               have HC : Hid (((lastTo Q nm Q.length : Nat) : Int) = c) := Lib.hid (by rw [HA.out] at hat; injection hat with hat; injection hat)
               rw [HH.out]
               clear hat hwc))
          go_ret2
          exact ⟨nums_eq (E.out.trans (by rw [HC.out])), B3.out⟩

end Go.Proofs.YtdinnhebaldnaaaDoor
