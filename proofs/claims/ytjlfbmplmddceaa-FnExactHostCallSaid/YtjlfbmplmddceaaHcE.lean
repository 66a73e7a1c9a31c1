/- impl's serve at each capability. -/
import Derived.Test.YtjlfbmplmddceaaHcD
namespace Go.Proofs.Ytjlfbmplmddceaa
open Go.RowKit
set_option linter.unusedVariables false
set_option linter.unusedSimpArgs false

/-- How many cells a call leaves. -/
def capLeaves (c : Nat) : Nat := [1, 0, 1, 1].getD c 0

/-- What serve comes to: the host, the data, the deed without its capability, the throw. -/
def hServe (h : Ht) (d : Dt) (c : Nat) : Ht × Dt × Dd × Int :=
  if d.s.length < capTakes c then (h, d, noDd, -4)
  else if 32 < d.s.length - capTakes c + capLeaves c then (h, d, noDd, -3)
  else if (hSvc h c (tp d 1) (tp d 0)).2.2 ≠ 0 then ((hSvc h c (tp d 1) (tp d 0)).1, d, noDd, (hSvc h c (tp d 1) (tp d 0)).2.2)
  else ((hSvc h c (tp d 1) (tp d 0)).1, { d with s := d.s.take (d.s.length - capTakes c) ++ [(hSvc h c (tp d 1) (tp d 0)).2.1.r].take (capLeaves c) }, (hSvc h c (tp d 1) (tp d 0)).2.1, 0)

/-- The shape of a data's stack: none; at its capacity behind m; room behind m. -/
theorem pair_shape {w : World} {lo G E : Nat} {vh vd : Value} {h : Ht} {d : Dt} (p : Pair w lo G E vh vd h d) (m t : Nat) (hm : d.s.length = m + t) :
    (t = 0 ∧ ∀ A n k y z a b c, vd = .agg #[.slice A n k, y, z, a, b, c] → A = none ∧ m = k) ∨ (t = 0 ∧ ∀ A n k y z a b c, vd = .agg #[.slice A n k, y, z, a, b, c] → A ≠ none ∧ m = k) ∨ (∀ A n k y z a b c, vd = .agg #[.slice A n k, y, z, a, b, c] → A ≠ none ∧ k ≠ m) := by
  obtain ⟨A1, k1, A2, k2, A3, k3, rfl, hw, hrow⟩ := pair_form p
  have inj : ∀ {P : Option Addr → Nat → Prop}, P A1 k1 → ∀ A n k y z a b c, (Value.agg #[.slice A1 d.s.length k1, .slice A2 d.b.length k2, .slice A3 d.c.length k3, .int .i64 d.h, .int .i64 d.n, .string d.o]) = .agg #[.slice A n k, y, z, a, b, c] → P A k := by
    intro P hP A n k y z a b c e
    simp only [Value.agg.injEq, Array.mk.injEq, List.cons.injEq, and_true, Value.slice.injEq] at e
    obtain ⟨⟨rfl, _, rfl⟩, _⟩ := e
    exact hP
  have hcap := (row_cap hrow).1
  rcases hrow.2 with ⟨hv, h0⟩ | ⟨g, cap, cur, hv, _⟩
  · simp only [Value.slice.injEq] at hv
    obtain ⟨e1, _, e3⟩ := hv
    exact .inl ⟨by omega, inj (P := fun A k => A = none ∧ m = k) ⟨e1, by omega⟩⟩
  · simp only [Value.slice.injEq] at hv
    obtain ⟨e1, _, e3⟩ := hv
    have hA : A1 ≠ none := by rw [e1]; simp
    by_cases hk : k1 = m
    · exact .inr (.inl ⟨by omega, inj (P := fun A k => A ≠ none ∧ m = k) ⟨hA, hk.symm⟩⟩)
    · exact .inr (.inr (inj (P := fun A k => A ≠ none ∧ k ≠ m) ⟨hA, hk⟩))

theorem serve_cap (w : World) (lo G E : Nat) (vh vd : Value) (h : Ht) (d : Dt) (c : Nat) (fv : FuncId) (p : Pair w lo G E vh vd h d) (hf : HtFine h) (df : DtFine d) (hc : c < 4) (he : EnteredF fv)
    (C : ∀ m, d.s.length = m + capTakes c → ∀ W tv, Below w.heap.size w W → TkAt W tv (d.s.drop m) → Calls Try.prog fv #[.pointer (some ⟨G, 0, none⟩), tv] W (SvcOf W lo G vh (hSvc h c (tp d 1) (tp d 0)))) (hT : (hSvc h c (tp d 1) (tp d 0)).2.2 ≠ 0 → 0 < capTakes c) :
    Calls Try.prog 100 #[.agg #[.int .i64 (capTakes c : Nat), .int .i64 (capLeaves c : Nat), .func (.func fv) #[] #[]], .pointer (some ⟨G, 0, none⟩), .pointer (some ⟨E, 0, none⟩)] w (ServeOf w lo G E (hServe h d c)) := by
  have ht : capTakes c ≤ 2 := by
    rcases (by omega : c = 0 ∨ c = 1 ∨ c = 2 ∨ c = 3) with rfl | rfl | rfl | rfl <;> decide
  have hl : capLeaves c ≤ 1 := by
    rcases (by omega : c = 0 ∨ c = 1 ∨ c = 2 ∨ c = 3) with rfl | rfl | rfl | rfl <;> decide
  unfold hServe
  generalize capTakes c = t at *
  generalize capLeaves c = l at *
  by_cases hu : d.s.length < t
  · rw [if_pos hu]; exact serve_under w lo G E vh vd h d t l fv p hf df ht hu
  rw [if_neg hu]
  obtain ⟨m, hm⟩ : ∃ m, d.s.length = m + t := ⟨d.s.length - t, by omega⟩
  have hm' : d.s.length - t = m := by omega
  rw [hm']
  by_cases ho : 32 < m + l
  · rw [if_pos ho]; exact serve_over w lo G E vh vd h d t l m fv p hf df ht hl hm ho
  rw [if_neg ho]
  have C' := C m hm
  generalize hr : hSvc h c (tp d 1) (tp d 0) = r at *
  obtain ⟨q, x, th⟩ := r
  clear C
  by_cases hth : th = 0
  · rw [if_neg (by simpa using hth)]
    subst hth
    rcases pair_shape p m t hm with ⟨t0, hk⟩ | ⟨t0, hk⟩ | hk
    · exact serve_nil w lo G E vh vd h q d x t l m fv p hf df ht hl hm (by omega) he (Lib.hid C') t0 hk
    · exact serve_full w lo G E vh vd h q d x t l m fv p hf df ht hl hm (by omega) he (Lib.hid C') t0 hk
    · exact serve_fine w lo G E vh vd h q d x t l m fv p hf df ht hl hm (by omega) he (Lib.hid C') hk
  · rw [if_pos hth]
    have tpos := hT hth
    rcases pair_shape p m t hm with ⟨t0, hk⟩ | ⟨t0, hk⟩ | hk
    · omega
    · omega
    · exact serve_throw w lo G E vh vd h q d x th t l m fv p hf df ht hl hm (by omega) he (Lib.hid C') hth hk

end Go.Proofs.Ytjlfbmplmddceaa
