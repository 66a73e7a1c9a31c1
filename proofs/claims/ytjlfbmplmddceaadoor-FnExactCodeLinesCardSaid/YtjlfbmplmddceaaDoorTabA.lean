/- What a listed table of texts gives: its cells. -/
import Derived.OpenShut
import Derived.WalkKit
import Derived.ProofKit
namespace Go.Proofs.YtjlfbmplmddceaaDoor
open Go.ChangeShapes Go.WideShapes Go.ChangeAt Go.RowKit
set_option linter.unusedVariables false
set_option linter.unusedSimpArgs false

theorem strs_of_trod {H : Type} {enc : TypeId × Value → H} {P : Program} {w : World} {base : Nat} {spare : Nat → Bool} {held : Bool} {fuel n : Nat} {t e : TypeId} {cs : List Value} {L : List (List UInt8)} {q : List MemPlace}
    (ha : P.underlying t = some (.array n e)) (he : P.underlying e = some .string) (hc : P.cellsOf e = 1)
    (h : DataW.trod enc P w base spare held fuel t cs = some (.agg (L.map fun b => .lit (.string b)), q)) : ∀ k, k < n → cs[k]? = some (.string ⟨(L.getD k []).toArray⟩) := by
  intro k hk
  obtain ⟨xs, m, rfl, hx, hlen, hn, hel⟩ := DataW.trod_array ha h
  have hk' := hel k hk
  rw [hc, Nat.mul_one] at hk'
  have hkx : k < xs.length := by omega
  rw [List.getElem?_eq_getElem hkx] at hk'
  obtain ⟨s, e1, e2, _⟩ := DataW.trod_string he hk'
  simp only [Prod.mk.injEq, DataW.agg.injEq] at hx
  have hmap := congrArg (fun l => l[k]?) hx.1
  simp only [List.getElem?_map] at hmap
  rw [List.getElem?_eq_getElem hkx, e2] at hmap
  cases hL : L[k]? with
  | none => rw [hL] at hmap; simp at hmap
  | some b =>
    rw [hL] at hmap
    simp at hmap
    have hs : s = ⟨(L.getD k []).toArray⟩ := by
      rw [List.getD_eq_getElem?_getD, hL]
      apply ByteArray.ext
      apply Array.ext'
      simpa using hmap.symm
    have h1 := congrArg (fun l => l[0]?) e1
    simp at h1
    rw [h1, hs]

end Go.Proofs.YtjlfbmplmddceaaDoor
