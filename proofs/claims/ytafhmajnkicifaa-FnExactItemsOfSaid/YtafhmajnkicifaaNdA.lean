/- An argument's nodes, opened. -/
import Derived.Test.YtafhmajnkicifaaTrA
import Derived.Test.YtafhmajnkicifaaItL
namespace Go.Proofs.Ytafhmajnkicifaa
open Go.Joins Go.ChangeShapes Go.WideShapes Go.RowKit Go.Deep Go.ChangeAt
set_option linter.unusedVariables false
set_option linter.unusedSimpArgs false

theorem ndAt_mono {R S : Value → List Nd → Prop} {w : World} {a : Addr} {x : Nd} (h : NdAt R w a x) (hi : ∀ v L, R v L → S v L) : NdAt S w a x := by
  obtain ⟨c0, c1, A, n, c, B, m, e, c2, c3, r2, r3⟩ := h
  exact ⟨c0, c1, A, n, c, B, m, e, c2, c3, hi _ _ r2, hi _ _ r3⟩

theorem nds_succ (d : Nat) : ∀ {w : World} {v : Value} {L : List Nd}, Nds d w v L → Nds (d + 1) w v L := by
  induction d with
  | zero =>
    intro w v L h
    obtain ⟨rfl, A, c, rfl⟩ := h
    exact nds_nil _ _ _ _
  | succ d ih =>
    intro w v L h
    obtain ⟨h1, A, c, hv, hc⟩ := h
    refine ⟨h1, A, c, hv, fun hp => ?_⟩
    obtain ⟨ad, ha, hd⟩ := hc hp
    exact ⟨ad, ha, fun k hk => ndAt_mono (hd k hk) fun v L h => ih h⟩

theorem nds_mono {d e : Nat} {w : World} {v : Value} {L : List Nd} (h : Nds d w v L) (hde : d ≤ e) : Nds e w v L := by
  induction e with
  | zero =>
    have : d = 0 := by omega
    subst this; exact h
  | succ e ih =>
    by_cases q : d ≤ e
    · exact nds_succ e (ih q)
    · have : d = e + 1 := by omega
      subst this; exact h

/-- Nodes that came in: how deep they are, and what they read as. -/
def NdsIn (w : World) (v : Value) (D : Nat × List Nd) : Prop := Nds D.1 w v D.2

section
variable {H : Type} {enc : TypeId × Value → H} {w : World} {base : Nat} {held : Bool}

theorem ndl_one : Try.prog.cellsOf 39 = 1 := by kernel_rfl

theorem choose_nodes {len : Nat} {p : Nat → Nd → Nat → Prop} (hm : ∀ i x d e, p i x d → d ≤ e → p i x e) (h : ∀ i, i < len → ∃ x d, p i x d) : ∃ (Q : List Nd) (d : Nat), Q.length = len ∧ ∀ i (hi : i < Q.length), p i Q[i] d := by
  induction len with
  | zero => exact ⟨[], 0, rfl, fun i hi => by simp at hi⟩
  | succ m ih =>
    obtain ⟨Q, d, hl, hq⟩ := ih (fun i hi => h i (by omega))
    obtain ⟨x, e, hx⟩ := h m (by omega)
    refine ⟨Q ++ [x], d + e, by simp [hl], fun i hi => ?_⟩
    by_cases q : i < Q.length
    · rw [List.getElem_append_left q]; exact hm _ _ _ _ (hq i q) (by omega)
    · have : i = m := by simp at hi; omega
      subst this
      rw [List.getElem_append_right (by omega)]
      simp [hl]
      exact hm _ _ _ _ hx (by omega)

theorem nodes_of_trod : ∀ (N : Nat) {fuel : Nat} {A : Option Addr} {l c : Nat} {x : DataW H × List MemPlace}, SizeOf.sizeOf x.1 < N → DataW.trod enc Try.prog w base (fun _ => true) held fuel 39 [.slice A l c] = some x → ∃ d L, Nds d w (.slice A l c) L := by
  intro N
  induction N with
  | zero => intro fuel A l c x h; omega
  | succ N ih =>
    intro fuel A l c x hs hf
    have hC : Try.prog.cellsOf 68 = 4 := by kernel_rfl
    rcases open_slice Try.underlying39 hf with ⟨hcs, _⟩ | ⟨a, len, cap, m, n, D, Pl, hcs, hb, hl, hm, hmm, hx, hi⟩
    · simp at hcs
      obtain ⟨rfl, rfl, rfl⟩ := hcs
      exact ⟨0, [], nds_nil _ _ _ _⟩
    · simp at hcs
      obtain ⟨rfl, rfl, rfl⟩ := hcs
      simp only [if_true] at hmm
      obtain ⟨Q, d, hlen, hq⟩ := choose_nodes (len := l) (p := fun i x d => NdAt (Nds d w) w (a.add (i * 4)) x) (fun i x d e h hde => ndAt_mono h fun v L q => nds_mono q hde) (fun i hil => by
        obtain ⟨cs', h1, h2⟩ := hi i (by omega)
        rw [hC] at h1
        obtain ⟨_, hcl, hat⟩ := World.cells?_some h1
        have hsz : SizeOf.sizeOf (D i) < N := by
          have q : SizeOf.sizeOf (D i) < SizeOf.sizeOf x.1 := by
            rw [hx]
            show SizeOf.sizeOf (D i) < SizeOf.sizeOf (DataW.slice _ _)
            have hmem : D i ∈ (List.range l).map D := List.mem_map.2 ⟨i, List.mem_range.2 hil, rfl⟩
            have := List.sizeOf_lt_of_mem hmem
            simp only [DataW.slice.sizeOf_spec]
            omega
          omega
        match cs', hcl with
        | [y0, y1, y2, y3], _ =>
          obtain ⟨xs, n', _, hx', _, hlen', hg⟩ := DataW.trod_struct Try.underlying68 h2
          match xs, hlen' with
          | [z0, z1, z2, z3], _ =>
            have g0 := hg 0 _ rfl
            have g1 := hg 1 _ rfl
            have g2 := hg 2 _ rfl
            have g3 := hg 3 _ rfl
            simp [itm_one, ndl_one] at g0 g1 g2 g3
            obtain ⟨n0, e0, _, f0⟩ := DataW.trod_int Try.underlying3 g0
            obtain ⟨n1, e1, _, f1⟩ := DataW.trod_int Try.underlying3 g1
            simp only [List.cons.injEq, and_true] at e0 e1
            subst e0 e1
            have form : ∀ {y : Value} {z : DataW H × List MemPlace}, DataW.trod enc Try.prog w base (fun _ => true) held n' 39 [y] = some z → ∃ A n c, y = .slice A n c := fun {y z} h => by
              rcases open_slice Try.underlying39 h with ⟨e, _⟩ | ⟨_, _, _, _, _, _, _, e, _⟩
              · simp only [List.cons.injEq, and_true] at e; exact ⟨_, _, _, e⟩
              · simp only [List.cons.injEq, and_true] at e; exact ⟨_, _, _, e⟩
            obtain ⟨A2, n2, c2, rfl⟩ := form g2
            obtain ⟨A3, n3, c3, rfl⟩ := form g3
            have s2 : SizeOf.sizeOf z2.1 < N := by
              have q : SizeOf.sizeOf z2.1 < SizeOf.sizeOf (D i) := by
                have e : D i = DataW.agg [z0.1, z1.1, z2.1, z3.1] := by simpa using congrArg Prod.fst hx'
                rw [e]; simp; omega
              omega
            have s3 : SizeOf.sizeOf z3.1 < N := by
              have q : SizeOf.sizeOf z3.1 < SizeOf.sizeOf (D i) := by
                have e : D i = DataW.agg [z0.1, z1.1, z2.1, z3.1] := by simpa using congrArg Prod.fst hx'
                rw [e]; simp; omega
              omega
            obtain ⟨d2, L2, q2⟩ := ih s2 g2
            obtain ⟨d3, L3, q3⟩ := ih s3 g3
            refine ⟨.mk n0 n1 L2 L3, d2 + d3, ?_, ?_, A2, n2, c2, A3, n3, c3, ?_, ?_, nds_mono q2 (by omega), nds_mono q3 (by omega)⟩
            · have := hat 0 (by omega); rw [Addr.add_zero'] at this; simpa [Nd.k] using this
            · have := hat 1 (by omega); rw [Addr.add_succ'] at this; simpa [Nd.v] using this
            · have := hat 2 (by omega); rw [Addr.add_succ'] at this; simpa using this
            · have := hat 3 (by omega); rw [Addr.add_succ'] at this; simpa using this)
      exact ⟨d + 1, Q, by rw [hlen]; omega, some a, c, by rw [hlen], fun _ => ⟨a, rfl, fun k hk => hq k hk⟩⟩

set_option maxRecDepth 100000 in
theorem open_nodes {r : Reach} {b0 : Nat} {v : Value} {d : DataW H} {p : List MemPlace} (hv : Value.okWide Try.prog w r b0 39 v) (h : DataW.Trod enc Try.prog w base (fun _ => true) held 39 v d p) : ∃ D : Nat × List Nd, NdsIn w v D := by
  obtain ⟨A, l, c, rfl⟩ := okWide_slice Try.underlying39 hv
  obtain ⟨fuel, hf⟩ := h
  obtain ⟨d', L, q⟩ := nodes_of_trod (SizeOf.sizeOf d + 1) (fuel := fuel) (x := (d, p)) (by simp) (by simpa [Value.cells] using hf)
  exact ⟨(d', L), q⟩

end

end Go.Proofs.Ytafhmajnkicifaa
