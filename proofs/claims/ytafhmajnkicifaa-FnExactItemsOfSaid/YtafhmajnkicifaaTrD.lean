/- A tree marked. -/
import Derived.Test.YtafhmajnkicifaaTrC
namespace Go.Proofs.Ytafhmajnkicifaa
open Go.RowKit
set_option linter.unusedVariables false
set_option linter.unusedSimpArgs false

theorem cell_aside {w : World} {g i j : Nat} {u x : Value} (h : w.cell? ⟨g, j, none⟩ = some x) (hne : i ≠ j) : (w.setCell ⟨g, i, none⟩ u).cell? ⟨g, j, none⟩ = some x := by
  have hn : (⟨g, i, none⟩ : Addr) ≠ ⟨g, j, none⟩ := fun e => by injection e; omega
  first | exact (World.cell?_setCell_other _ _ _ _ hn).trans h | exact (World.cell?_setCell_other _ _ _ hn).trans h | exact (World.cell?_setCell_other _ _ hn).trans h | exact (World.cell?_setCell_other _ hn).trans h

theorem szT_snoc (d : Nat) (L : List Nd) (x : Nd) : szT (d + 1) (L ++ [x]) = szT (d + 1) L + (1 + szT d x.a + szT d x.b) := by
  induction L with
  | nil => rw [List.nil_append, szT_cons, szT_nil]; omega
  | cons y r ih => rw [List.cons_append, szT_cons, szT_cons, ih]; omega

theorem mkd_snoc (d : Nat) (L : List Nd) (x : Nd) : ∀ K, Mkd (d + 1) K L → x.k = ((K + 2 * szT (d + 1) L : Nat) : Int) → x.v = ((K + 2 * szT (d + 1) L : Nat) : Int) + 1 → Mkd d (K + 2 * szT (d + 1) L + 2) x.a → Mkd d (K + 2 * szT (d + 1) L + 2 + 2 * szT d x.a) x.b → Mkd (d + 1) K (L ++ [x]) := by
  induction L with
  | nil =>
    intro K _ h1 h2 h3 h4
    rw [szT_nil] at h1 h2 h3 h4
    rw [List.nil_append, mkd_cons]
    exact ⟨h1, h2, h3, h4, trivial⟩
  | cons y r ih =>
    intro K h h1 h2 h3 h4
    rw [List.cons_append, mkd_cons]
    rw [mkd_cons] at h
    obtain ⟨a1, a2, a3, a4, a5⟩ := h
    rw [szT_cons] at h1 h2 h3 h4
    have e : K + 2 + 2 * szT d y.a + 2 * szT d y.b + 2 * szT (d + 1) r = K + 2 * (1 + szT d y.a + szT d y.b + szT (d + 1) r) := by omega
    refine ⟨a1, a2, a3, a4, ih _ a5 ?_ ?_ ?_ ?_⟩
    · rw [e]; exact h1
    · rw [e]; exact h2
    · rw [e]; exact h3
    · rw [e]; exact h4

theorem town_free {d : Nat} {w : World} {lo hi g n c : Nat} {L : List Nd} (h : TOwn (d + 1) w lo hi (.slice (some ⟨g, 0, none⟩) n c) L) (j : Nat) : w.frozen? ⟨g, j, none⟩ = false := by
  obtain ⟨xs, hr, _⟩ := h
  rcases hr.2 with ⟨hv, _⟩ | ⟨g', cap, cur, hv, _, hg, _⟩
  · cases hv
  · simp only [Value.slice.injEq, Option.some.injEq, Addr.mk.injEq, and_true, true_and] at hv
    obtain ⟨rfl, _⟩ := hv
    simp [World.frozen?, hg]

theorem szT_app (d : Nat) (L M : List Nd) : szT (d + 1) (L ++ M) = szT (d + 1) L + szT (d + 1) M := by
  induction L with
  | nil => rw [List.nil_append, szT_nil]; omega
  | cons y r ih => rw [List.cons_append, szT_cons, szT_cons, ih]; omega

theorem szT_take (d : Nat) (L : List Nd) (i : Nat) : szT (d + 1) (L.take i) ≤ szT (d + 1) L := by
  have h := szT_app d (L.take i) (L.drop i)
  rw [List.take_append_drop] at h
  omega

/-- What marks in a tree leave. -/
def MkOf (d : Nat) (w : World) (lo hi : Nat) (v : Value) (L : List Nd) (K : Nat) (e : Ending) (w' : World) : Prop :=
  ∃ L', e = .returned (.int .i64 ((K + 2 * szT d L : Nat) : Int)) ∧ TOwn d w' lo hi v L' ∧ Mkd d K L' ∧ szT d L' = szT d L ∧ L'.length = L.length ∧ Only (fun b => lo ≤ b ∧ b < hi) w w'

def MarkN (d : Nat) : Prop := ∀ (v : Value) (L : List Nd) (K : Nat) (w : World) (lo hi : Nat), TOwn d w lo hi v L → hi ≤ w.heap.size → K + 2 * szT d L ≤ 1099511627776 →
  Calls Try.prog 19 #[v, .int .i64 (K : Nat)] w (MkOf d w lo hi v L K)

set_option maxRecDepth 100000 in
set_option maxHeartbeats 400000 in
theorem mark_none (d K : Nat) (A : Option Addr) (c : Nat) (w : World) (lo hi : Nat) (h : TOwn d w lo hi (.slice A 0 c) []) :
    Calls Try.prog 19 #[.slice A 0 c, .int .i64 (K : Nat)] w (MkOf d w lo hi (.slice A 0 c) [] K) := by
  have e0 : szT d [] = 0 := szT_nil _
  have M0 : Mkd d K [] := by cases d; exact rfl; exact trivial
  have H := Lib.hid h
  have HM := Lib.hid M0
  have E0 := Lib.hid e0
  clear h M0 e0
  go_enter Try.func19, Try.ntmps19
  go_wp2
  go_loopw [1, 5] (fun q i wr => q = .int .i64 (K : Nat) ∧ i = .int .i64 0 ∧ wr = w) (fun _ i _ => 0)
  case atStart => exact ⟨rfl, rfl, rfl⟩
  case round =>
    obtain ⟨rfl, rfl, rfl⟩ := hrel
    go_wp2
    go_ret
    exact ⟨[], by rw [E0.out]; simp, H.out, HM.out, rfl, rfl, ⟨rfl, rfl, rfl, Nat.le_refl _, fun _ _ _ => rfl⟩⟩

set_option maxRecDepth 100000 in
set_option maxHeartbeats 4000000 in
theorem mark_step (d : Nat) (ih : MarkN d) : MarkN (d + 1) := by
  intro v L K w lo hi hv hw hk
  rcases Nat.eq_zero_or_pos L.length with h0 | h0
  · obtain rfl := List.eq_nil_of_length_eq_zero h0
    obtain ⟨_, A, c, rfl⟩ := nds_form (town_nds _ hv)
    exact mark_none (d + 1) K A c w lo hi hv
  obtain ⟨g, c, rfl, glo, ghi, gw, hlc, hcm⟩ := town_form hv h0
  unfold maxLen at hcm
  have HV := Lib.hid hv
  have IH := Lib.hid ih
  clear hv ih
  go_enter Try.func19, Try.ntmps19
  go_wp2
  go_loopw [1, 5] (fun q s wr => ∃ (i Q : Nat) (L1 : List Nd), i ≤ L.length ∧ s = .int .i64 i ∧ q = .int .i64 Q ∧ L1.length = L.length ∧ TOwn (d + 1) wr lo hi (.slice (some ⟨g, 0, none⟩) L.length c) L1 ∧ L1.drop i = L.drop i ∧ Mkd (d + 1) K (L1.take i) ∧ Q = K + 2 * szT (d + 1) (L1.take i) ∧ szT (d + 1) (L1.take i) = szT (d + 1) (L.take i) ∧ Only (fun b => lo ≤ b ∧ b < hi) w wr) (fun _ s _ => L.length - (intOf s).toNat)
  case atStart => exact ⟨0, K, L, Nat.zero_le _, rfl, rfl, rfl, HV.out, rfl, trivial, by rw [List.take_zero, szT_nil]; omega, rfl, ⟨rfl, rfl, rfl, Nat.le_refl _, fun _ _ _ => rfl⟩⟩
  case round =>
    obtain ⟨i, Q, L1, hi', rfl, rfl, hl1, ht, hd, hm, hq, hz, ho⟩ := hrel
    have HT := Lib.hid ht
    have HO := Lib.hid ho
    have zw := ho.size
    by_cases hlt : i < L.length
    · have hil : i < L1.length := by omega
      have ht' : TOwn (d + 1) wr lo hi (.slice (some ⟨g, 0, none⟩) L1.length c) L1 := by rw [hl1]; exact ht
      obtain ⟨A, n, e, B, m, f, q0, q1, q2, b0, b1, b2, b3, bg, ⟨c0, c1, c2, c3⟩, ta, tb, close⟩ := town_at ht' i hil
      have ex : L1[i] = L[i] := by
        have h1 := List.getElem_drop (xs := L1) (i := i) (j := 0) (h := by rw [List.length_drop]; omega)
        have h2 := List.getElem_drop (xs := L) (i := i) (j := 0) (h := by rw [List.length_drop]; omega)
        simp only [Nat.add_zero] at h1 h2
        rw [← h1, ← h2]
        congr 1
      have f0 := town_free ht (i * 4)
      have f1 := town_free ht (i * 4 + 1)
      have CL := Lib.hid close
      have HM := Lib.hid hm
      have HZ := Lib.hid hz
      have HDR := Lib.hid hd
      have SZ1 : szT (d + 1) (L.take i) + (1 + szT d L1[i].a + szT d L1[i].b) ≤ szT (d + 1) L := by
        rw [ex, ← szT_snoc, ← List.take_succ_eq_append_getElem hlt]
        exact szT_take d L (i + 1)
      have NXT : Hid (∀ y : Nd, szT d y.a = szT d L1[i].a → szT d y.b = szT d L1[i].b → y.k = (Q : Int) → y.v = (Q : Int) + 1 → Mkd d (Q + 2) y.a → Mkd d (Q + 2 + 2 * szT d y.a) y.b →
          (L1.set i y).drop (i + 1) = L.drop (i + 1) ∧ Mkd (d + 1) K ((L1.set i y).take (i + 1)) ∧ Q + 2 + 2 * szT d L1[i].a + 2 * szT d L1[i].b = K + 2 * szT (d + 1) ((L1.set i y).take (i + 1)) ∧ szT (d + 1) ((L1.set i y).take (i + 1)) = szT (d + 1) (L.take (i + 1))) := Lib.hid fun y s1 s2 k1 k2 k3 k4 => by
        have et : (L1.set i y).take (i + 1) = L1.take i ++ [y] := by
          rw [List.take_succ_eq_append_getElem (by rw [List.length_set]; exact hil), List.take_set_of_le (Nat.le_refl i), List.getElem_set_self]
        refine ⟨?_, ?_, ?_, ?_⟩
        · rw [List.drop_set_of_lt (by omega)]
          have := congrArg (List.drop 1) hd
          rwa [List.drop_drop, List.drop_drop] at this
        · rw [et]
          exact mkd_snoc d _ y K hm (by rw [k1, hq]) (by rw [k2, hq]) (by rw [← hq]; exact k3) (by rw [← hq]; exact k4)
        · rw [et, szT_snoc, s1, s2]; omega
        · rw [et, szT_snoc, List.take_succ_eq_append_getElem hlt, szT_snoc, s1, s2, hz, ex]
      have ta2 : TOwn d ((wr.setCell ⟨g, i * 4, none⟩ (.int .i64 (Q : Nat))).setCell ⟨g, i * 4 + 1, none⟩ (.int .i64 ((Q : Int) + 1))) q0 q1 (.slice A n e) L1[i].a := town_keep d ta fun b h1 h2 => by
        rw [Below.heap_setCell _ _ _ _ (by show b ≠ g; omega), Below.heap_setCell _ _ _ _ (by show b ≠ g; omega)]
      have d2 : (((wr.setCell ⟨g, i * 4, none⟩ (.int .i64 (Q : Nat))).setCell ⟨g, i * 4 + 1, none⟩ (.int .i64 ((Q : Int) + 1)))).cell? ⟨g, i * 4 + 2, none⟩ = some (.slice A n e) := cell_aside (cell_aside c2 (by omega)) (by omega)
      have d3 : (((wr.setCell ⟨g, i * 4, none⟩ (.int .i64 (Q : Nat))).setCell ⟨g, i * 4 + 1, none⟩ (.int .i64 ((Q : Int) + 1)))).cell? ⟨g, i * 4 + 3, none⟩ = some (.slice B m f) := cell_aside (cell_aside c3 (by omega)) (by omega)
      have gwr : g < wr.heap.size := by omega
      have HT2 := Lib.hid ta2
      have HTB := Lib.hid tb
      obtain ⟨sa, hsa⟩ : ∃ sa, szT d L1[i].a = sa := ⟨_, rfl⟩
      obtain ⟨sb, hsb⟩ : ∃ sb, szT d L1[i].b = sb := ⟨_, rfl⟩
      have SA := Lib.hid hsa
      have SB := Lib.hid hsb
      rw [hsa, hsb] at NXT SZ1
      have QB : Q + 2 + 2 * sa + 2 * sb ≤ 1099511627776 := by omega
      have w1 : IntKind.i64.wrap ((Q : Int) + 1) = (Q : Int) + 1 := IntWalk.i64_in _ (by omega)
      have w2 : IntKind.i64.wrap ((Q : Int) + 1 + 1) = ((Q + 2 : Nat) : Int) := by rw [show (Q : Int) + 1 + 1 = ((Q + 2 : Nat) : Int) by omega]; exact IntWalk.i64_in _ (by omega)
      have ik0 : (0 : Int) ≤ (i : Int) := by omega
      have ik1 : (i : Int) < (L.length : Int) := by omega
      clear hm hz hd ht ht' ex close ta tb ta2 hsa hsb ho hq
      go_wp2_with fail
      refine (IH.out _ _ (Q + 2) _ q0 q1 HT2.out (by simp; omega) (by rw [SA.out]; omega)).mono ?_
      rintro e3 w3 ⟨a', rfl, ka, ma, za, la, oa⟩
      rw [SA.out]
      have g3 : g < w3.heap.size := by have := oa.size; simp at this; omega
      have hg3 : w3.heap[g]? = (((wr.setCell ⟨g, i * 4, none⟩ (.int .i64 (Q : Nat))).setCell ⟨g, i * 4 + 1, none⟩ (.int .i64 ((Q : Int) + 1)))).heap[g]? := oa.block g (by simp; omega) (by omega)
      have d3 : w3.cell? ⟨g, i * 4 + 3, none⟩ = some (.slice B m f) := by
        rw [World.cell?_of_block (a := ⟨g, i * 4 + 3, none⟩) hg3]; exact d3
      have HA := Lib.hid (And.intro ka (And.intro ma (And.intro za oa)))
      have HG3 := Lib.hid hg3
      have tb3 : TOwn d w3 q1 q2 (.slice B m f) L1[i].b := town_keep d HTB.out fun b h1 h2 => by
        rw [oa.block b (by simp; omega) (by omega), Below.heap_setCell _ _ _ _ (by show b ≠ g; omega), Below.heap_setCell _ _ _ _ (by show b ≠ g; omega)]
      have zs3 : wr.heap.size ≤ w3.heap.size := by have := oa.size; simpa using this
      have t1 : ¬ ((Q + 2 + 2 * sa : Nat) : Int) < 0 := by omega
      have HB3 := Lib.hid tb3
      clear ka ma za oa hg3 d2 c0 c1 c2 c3 f0 f1 w1 w2 tb3
      go_wp2_with fail
      refine (IH.out _ _ (Q + 2 + 2 * sa) _ q1 q2 HB3.out (by omega) (by rw [SB.out]; omega)).mono ?_
      rintro e4 w4 ⟨b', rfl, kb, mb, zb, lb, ob⟩
      rw [SB.out]
      have HBB := Lib.hid (And.intro kb (And.intro mb (And.intro zb ob)))
      clear kb mb zb ob d3
      obtain ⟨ka, ma, za, oa⟩ := HA.out
      obtain ⟨kb, mb, zb, ob⟩ := HBB.out
      have zs4 : w3.heap.size ≤ w4.heap.size := ob.size
      have NT := Lib.hid (CL.out w4 (.mk (Q : Int) ((Q : Int) + 1) a' b') (fun b h1 h2 h3 h4 => by
          rw [ob.block b (by omega) (by omega), oa.block b (by simp; omega) (by omega), Below.heap_setCell _ _ _ _ (by show b ≠ g; exact h3), Below.heap_setCell _ _ _ _ (by show b ≠ g; exact h3)])
        (by rw [ob.block g (by omega) (by omega)]; exact HG3.out)
        (town_keep d ka fun b h1 h2 => ob.block b (by omega) (by omega)) kb)
      have NX := Lib.hid (NXT.out (.mk (Q : Int) ((Q : Int) + 1) a' b') (by rw [SA.out] at za; exact za) (by rw [SB.out] at zb; exact zb) rfl rfl ma (by
        have e : szT d (Nd.mk (Q : Int) ((Q : Int) + 1) a' b').a = sa := by rw [SA.out] at za; exact za
        rw [e]; exact mb))
      have OO := Lib.hid (only_trans HO.out (⟨(ob.os.trans oa.os), (ob.tape.trans oa.tape), (ob.output.trans oa.output), by omega, fun b h1 h2 => by
          rw [ob.block b (by omega) (by omega), oa.block b (by simp; omega) (by omega), Below.heap_setCell _ _ _ _ (by show b ≠ g; omega), Below.heap_setCell _ _ _ _ (by show b ≠ g; omega)]⟩ : Only (fun b => lo ≤ b ∧ b < hi) wr w4))
      clear ka ma za oa kb mb zb ob HA HBB CL NXT HO HT HTB HT2 HB3 HG3
      go_wp2
      go_roundw
      case rel => exact ⟨i + 1, Q + 2 + 2 * sa + 2 * sb, L1.set i (.mk (Q : Int) ((Q : Int) + 1) a' b'), by omega, by go_num, rfl, by rw [List.length_set]; exact hl1, by have := NT.out; rwa [hl1] at this, NX.out.1, NX.out.2.1, NX.out.2.2.1, NX.out.2.2.2, OO.out⟩
      case measure => simp [intOf]; omega
    · obtain rfl : i = L.length := by omega
      have e1 : L1.take L.length = L1 := by rw [← hl1, List.take_length]
      rw [e1] at hm hq hz
      rw [List.take_length] at hz
      have HM := Lib.hid hm
      have HZ := Lib.hid hz
      have EQ : Hid (Q = K + 2 * szT (d + 1) L) := Lib.hid (by rw [hq, hz])
      clear hlt hm hq hz hd e1 ht ho
      go_wp2
      go_ret
      exact ⟨L1, by first | rfl | (rw [EQ.out]; rfl) | (rw [← EQ.out]; rfl), HT.out, HM.out, HZ.out, hl1, HO.out⟩

theorem markNodeS_any (d : Nat) : MarkN d := by
  induction d with
  | zero =>
    intro v L K w lo hi hv hw hk
    obtain ⟨rfl, A, c, rfl⟩ := id hv
    exact mark_none 0 K A c w lo hi hv
  | succ d ih => exact mark_step d ih

end Go.Proofs.Ytafhmajnkicifaa
