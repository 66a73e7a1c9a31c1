/- impl's four services as serve meets them. -/
import Derived.Test.YtjlfbmplmddceaaHcE
namespace Go.Proofs.Ytjlfbmplmddceaa
open Go.RowKit
set_option linter.unusedVariables false
set_option linter.unusedSimpArgs false

theorem tk_drop {d : Dt} {m t : Nat} (ht : t ≤ 3) (hm : d.s.length = m + t) : d.s.drop m = tkOf d t := by
  have h := tk_at (d := d) ht (by omega)
  rw [← h]
  congr 1
  omega

theorem tkAt_one {W : World} {tv : Value} {b : Int} (h : TkAt W tv [b]) : ∃ gt mt kc, tv = .slice (some ⟨gt, mt, none⟩) 1 kc ∧ gt < W.heap.size ∧ W.cell? ⟨gt, mt, none⟩ = some (.int .i64 b) := by
  rcases h with h | ⟨gt, mt, kc, h1, h2, h3⟩
  · cases h
  · exact ⟨gt, mt, kc, h1, h2, h3 0 (by simp)⟩

theorem tkAt_two {W : World} {tv : Value} {a b : Int} (h : TkAt W tv [a, b]) : ∃ gt mt kc, tv = .slice (some ⟨gt, mt, none⟩) 2 kc ∧ gt < W.heap.size ∧ W.cell? ⟨gt, mt, none⟩ = some (.int .i64 a) ∧ W.cell? ⟨gt, mt + 1, none⟩ = some (.int .i64 b) := by
  rcases h with h | ⟨gt, mt, kc, h1, h2, h3⟩
  · cases h
  · exact ⟨gt, mt, kc, h1, h2, h3 0 (by simp), h3 1 (by simp)⟩

theorem int_index {b : Int} (h : inB b 0 7 = true) : ∃ j : Nat, b = (j : Int) ∧ j < 8 := by
  have := of_inB h
  exact ⟨b.toNat, by omega, by omega⟩

theorem svc_read {W : World} {lo G : Nat} {vh tv : Value} {h : Ht} {a b : Int} (H : HBx W lo G vh h) (hf : HtFine h) (ht : TkAt W tv [b]) :
    Calls Try.prog 124 #[.pointer (some ⟨G, 0, none⟩), tv] W (SvcOf W lo G vh (hSvc h 0 a b)) := by
  obtain ⟨gt, mt, kc, rfl, hl, x0⟩ := tkAt_one ht
  unfold hSvc
  rw [if_pos rfl]
  by_cases hb : inB b 0 7 = true
  · obtain ⟨j, rfl, hj⟩ := int_index hb
    rw [if_pos hb, Int.toNat_natCast]
    exact readStore_good W lo G vh h j gt mt 1 kc H hf (by omega) (by omega) hl x0 hj
  · have hb' : inB b 0 7 = false := by cases q : inB b 0 7; rfl; exact absurd q hb
    rw [if_neg hb]
    exact readStore_bad W lo G vh h b gt mt 1 kc H hf (by omega) (by omega) hl x0 hb'

theorem svc_write {W : World} {lo G : Nat} {vh tv : Value} {h : Ht} {a b : Int} (H : HBx W lo G vh h) (hf : HtFine h) (ht : TkAt W tv [a, b]) :
    Calls Try.prog 125 #[.pointer (some ⟨G, 0, none⟩), tv] W (SvcOf W lo G vh (hSvc h 1 a b)) := by
  obtain ⟨gt, mt, kc, rfl, hl, x0, x1⟩ := tkAt_two ht
  unfold hSvc
  rw [if_neg (by omega), if_pos rfl]
  by_cases hb : inB b 0 7 = true
  · obtain ⟨j, rfl, hj⟩ := int_index hb
    rw [if_pos hb, Int.toNat_natCast]
    exact writeStore_good W lo G vh h a j gt mt 2 kc H hf (by omega) (by omega) hl x0 x1 hj
  · have hb' : inB b 0 7 = false := by cases q : inB b 0 7; rfl; exact absurd q hb
    rw [if_neg hb]
    exact writeStore_bad W lo G vh h a b gt mt 2 kc H hf (by omega) (by omega) hl x0 x1 hb'

theorem svc_ask {W : World} {lo G : Nat} {vh tv : Value} {h : Ht} {a b : Int} (H : HBx W lo G vh h) (hf : HtFine h) (ht : TkAt W tv [b]) (hr : ∀ x y z q, vh = .agg #[x, y, z, .int .i64 h.c, q] → Row W lo z h.n) :
    Calls Try.prog 126 #[.pointer (some ⟨G, 0, none⟩), tv] W (SvcOf W lo G vh (hSvc h 2 a b)) := by
  obtain ⟨gt, mt, kc, rfl, hl, x0⟩ := tkAt_one ht
  unfold hSvc
  rw [if_neg (by omega), if_neg (by omega), if_pos rfl]
  cases hq : h.n with
  | nil =>
    have e : ({ h with n := ([] : List Int).tail } : Ht) = h := by
      cases h; simp at hq; subst hq; rfl
    rw [e]
    exact takeAnswer_none W lo G vh h b gt mt 1 kc H hf (by omega) (by omega) hl x0 hq
  | cons n0 ns =>
    obtain ⟨A1, k1, A2, k2, A3, k3, A4, k4, hv, _⟩ := hbx_form H
    have inj : ∀ {P : Nat → Prop}, P k3 → ∀ x y A n k c q, vh = .agg #[x, y, .slice A n k, c, q] → P k := by
      intro P hP x y A n k c q e
      rw [hv] at e
      simp only [Value.agg.injEq, Array.mk.injEq, List.cons.injEq, and_true, Value.slice.injEq] at e
      obtain ⟨_, _, ⟨_, _, rfl⟩, _⟩ := e
      exact hP
    by_cases hk : k3 = 1
    · exact takeAnswer_one W lo G vh h b n0 ns gt mt 1 kc H hf (by omega) (by omega) hl x0 hq hr (inj (P := fun k => k = 1) hk)
    · exact takeAnswer_more W lo G vh h b n0 ns gt mt 1 kc H hf (by omega) (by omega) hl x0 hq hr (inj (P := fun k => k ≠ 1) hk)

theorem svc_clock {W : World} {lo G : Nat} {vh tv : Value} {h : Ht} {a b : Int} (H : HBx W lo G vh h) (hf : HtFine h) :
    Calls Try.prog 127 #[.pointer (some ⟨G, 0, none⟩), tv] W (SvcOf W lo G vh (hSvc h 3 a b)) := by
  unfold hSvc
  rw [if_neg (by omega), if_neg (by omega), if_neg (by omega)]
  exact readClock_any W lo G vh h tv H hf

theorem throw_three (h : Ht) (a b : Int) (c : Nat) (hc : c = 3) : (hSvc h c a b).2.2 = 0 := by subst hc; rfl

/-- The service of a capability. -/
def svcFn (c : Nat) : FuncId := [124, 125, 126, 127].getD c 0

theorem svc_entered (c : Nat) (hc : c < 4) : EnteredF (svcFn c) := by
  rcases (by omega : c = 0 ∨ c = 1 ∨ c = 2 ∨ c = 3) with rfl | rfl | rfl | rfl
  · exact enters_of Try.func124 (by kernel_rfl) rfl
  · exact enters_of Try.func125 (by kernel_rfl) rfl
  · exact enters_of Try.func126 (by kernel_rfl) rfl
  · exact enters_of Try.func127 (by kernel_rfl) rfl

theorem serve_any (w : World) (lo G E : Nat) (vh vd : Value) (h : Ht) (d : Dt) (c : Nat) (p : Pair w lo G E vh vd h d) (hf : HtFine h) (df : DtFine d) (hc : c < 4) (hr : ∀ x y z q, vh = .agg #[x, y, z, .int .i64 h.c, q] → Row w lo z h.n) :
    Calls Try.prog 100 #[.agg #[.int .i64 (capTakes c : Nat), .int .i64 (capLeaves c : Nat), .func (.func (svcFn c)) #[] #[]], .pointer (some ⟨G, 0, none⟩), .pointer (some ⟨E, 0, none⟩)] w (ServeOf w lo G E (hServe h d c)) := by
  refine serve_cap w lo G E vh vd h d c (svcFn c) p hf df hc (svc_entered c hc) ?_ ?_
  · intro m hm W tv hb ht
    have hx := hbx_below p.host hb
    have hr' : ∀ x y z q, vh = .agg #[x, y, z, .int .i64 h.c, q] → Row W lo z h.n := fun x y z q e => row_below (hr x y z q e) hb
    rcases (by omega : c = 0 ∨ c = 1 ∨ c = 2 ∨ c = 3) with rfl | rfl | rfl | rfl
    · rw [tk_drop (t := 1) (by omega) hm] at ht; exact svc_read hx hf ht
    · rw [tk_drop (t := 2) (by omega) hm] at ht; exact svc_write hx hf ht
    · rw [tk_drop (t := 1) (by omega) hm] at ht; exact svc_ask hx hf ht hr'
    · exact svc_clock hx hf
  · intro hth
    rcases (by omega : c = 0 ∨ c = 1 ∨ c = 2 ∨ c = 3) with rfl | rfl | rfl | rfl
    · decide
    · decide
    · decide
    · exact absurd (throw_three h _ _ 3 rfl) hth

end Go.Proofs.Ytjlfbmplmddceaa
