/- A whole slice copied into a new one, whatever the size of its elements; impl's copies of rows of bools and of deeds. -/
import Derived.Test.YtjlfbmplmddceaaHoB
import Derived.Test.YtjlfbmplmddceaaHsB
namespace Go.Proofs.Ytjlfbmplmddceaa
open Go.RowKit
set_option linter.unusedVariables false
set_option linter.unusedSimpArgs false

/-- 'copy(own, list)' where own was made of list's length. -/
theorem wpList_copy_whole {P : Program} {w : World} {ops : Array Oper} {rest : List Oper} {o : Oper} {a : Act} {Q : Exit → Act → World → Prop} (hgd : o.guard = none) (d s : Operand) (dT : TypeId)
    (ho : o.op = .call { callee := .builtin .copy, args := #[d, s], argTypes := #[dT, dT] }) (elem : TypeId) (hu : P.underlying dT = some (.slice elem)) (sz : Nat) (hsz : (P.info? elem).map (·.size) = some sz) (h0 : 0 < sz)
    (g n dCap sCap : Nat) (A : Option Addr) (hd : a.eval d = .slice (some ⟨g, 0, none⟩) n dCap) (hs : a.eval s = .slice A n sCap)
    (cur : Array Value) (t : TypeId) (hg : w.heap[g]? = some (.cells cur t (0, 0))) (hcur : cur.size = n * sz) (cs : List Value) (hn : cs.length = n * sz)
    (hpos : 0 < cs.length → ∃ ad, A = some ad ∧ ∀ j v, cs[j]? = some v → w.cell? (ad.add j) = some v) (h1 : ∀ v ∈ cs, v.oneCell' = true)
    (h : ∀ w', w'.heap[g]? = some (.cells cs.toArray t (0, 0)) → w.grownBy w' (some g) → wpList P ops Q rest (a.put o.dst (goInt n)) w') :
    wpList P ops Q (o :: rest) a w := by
  refine wpList_plain hgd fun K hK => ?_
  cases hq : P.info? elem with
  | none => simp [hq] at hsz
  | some i =>
    have hi : i.size = sz := by simpa [hq] using hsz
    have hmin : Nat.min n n = n := Nat.min_self n
    by_cases hz : n = 0
    · subst hz
      have hcs : cs = [] := List.eq_nil_of_length_eq_zero (by rw [hn]; simp)
      have hcu : cur = #[] := Array.eq_empty_of_size_eq_zero (by rw [hcur]; simp)
      subst hcs hcu
      have hl : ∀ (x : Addr), (loadCells x 0).run P w = .ok #[] w := fun x => by simpa using run_loadCells_list (P := P) w x [] (by simp)
      have hrun : (Builtin.copy_ #[dT, dT] o.type #[.slice (some ⟨g, 0, none⟩) 0 dCap, .slice A 0 sCap]).run P w = .ok (goInt 0) w := by
        cases A <;> simp [Builtin.copy_, run_underlying hu, Builtin.lenOf, Builtin.firstCells, sizeOf, typeInfo, hq, hmin, storeCells, hl]
      unfold Oper.wp
      simp [execOp, ho, resolve, invoke, builtin, hd, hs, hrun, Result.andThen]
      exact hK _ _ (h w hg ⟨rfl, rfl, rfl, Nat.le_refl _, fun k hk hne => rfl⟩)
    · have hp : 0 < n * sz := Nat.mul_pos (by omega) h0
      obtain ⟨ad, rfl, hc⟩ := hpos (by omega)
      have hl1 := run_loadCells_list (P := P) w ad cs hc
      have hst := run_storeCells_at P g 0 t cs 0 cur w hg (by rw [hcur, hn]; simp) h1
      rw [hn] at hl1
      simp only [Nat.add_zero, Nat.zero_add, List.take_zero, List.nil_append] at hst
      have hrun : (Builtin.copy_ #[dT, dT] o.type #[.slice (some ⟨g, 0, none⟩) n dCap, .slice (some ad) n sCap]).run P w = .ok (goInt n) (w.setRow g (cs ++ cur.toList.drop cs.length).toArray) := by
        simp [Builtin.copy_, run_underlying hu, Builtin.lenOf, Builtin.firstCells, sizeOf, typeInfo, hq, hi, hmin, hl1, hst, Result.andThen]
      have hdr : cs ++ cur.toList.drop cs.length = cs := by rw [List.drop_of_length_le (by rw [Array.length_toList, hcur, hn]; exact Nat.le_refl _), List.append_nil]
      rw [hdr] at hrun
      unfold Oper.wp
      simp [execOp, ho, resolve, invoke, builtin, hd, hs, hrun, Result.andThen]
      exact hK _ _ (h _ (setRow_heap w g cur _ t _ hg) ⟨rfl, rfl, rfl, by simp [World.setRow], fun k hk hne => setRow_other w g k _ (fun e => hne (by rw [e]))⟩)

theorem info_size1 : (Try.prog.info? 4).map (·.size) = some 1 := by kernel_rfl
theorem info_size4 : (Try.prog.info? 48).map (·.size) = some 4 := by kernel_rfl

/-- The block of a slice that was just made. -/
theorem own_block {w : World} {base g n sz : Nat} {t : TypeId} {cs : List Value} (h : w.ownsRow base t sz (.slice (some ⟨g, 0, none⟩) n n) n cs) : ∃ cur : Array Value, w.heap[g]? = some (.cells cur t (0, 0)) ∧ cur.size = n * sz := by
  rcases h.2 with ⟨hv, _⟩ | ⟨g', cap, cur, hv, hb, hg, h1, h2, h3, h4⟩
  · cases hv
  · simp only [Value.slice.injEq, Option.some.injEq, Addr.mk.injEq, true_and, and_true] at hv
    obtain ⟨rfl, rfl⟩ := hv
    exact ⟨cur, hg, h3⟩

theorem bols_src {w w1 : World} {A : Option Addr} {ca : Nat} {zs : List Bool} (hv : Bols w (.slice A zs.length ca) zs) (hb : Below w.heap.size w w1) :
    0 < (zs.map Value.bool).length → ∃ ad, A = some ad ∧ ∀ j v, (zs.map Value.bool)[j]? = some v → w1.cell? (ad.add j) = some v := fun hp => by
  obtain ⟨_, A', ca', hv', hc⟩ := bols_below hv hb
  simp only [Value.slice.injEq, true_and] at hv'
  obtain ⟨rfl, rfl⟩ := hv'
  obtain ⟨ad, rfl, hc'⟩ := hc (by simpa using hp)
  refine ⟨ad, rfl, fun j u hu => ?_⟩
  rcases Nat.lt_or_ge j zs.length with hj | hj
  · rw [hc' j hj]; simpa [hj] using hu
  · simp [hj] at hu

theorem dds_src {w w1 : World} {A : Option Addr} {ca : Nat} {Q : List Dd} (hv : Dds w (.slice A Q.length ca) Q) (hb : Below w.heap.size w w1) :
    0 < (dcells Q).length → ∃ ad, A = some ad ∧ ∀ j v, (dcells Q)[j]? = some v → w1.cell? (ad.add j) = some v := fun hp => by
  obtain ⟨_, A', ca', hv', hc⟩ := dds_below hv hb
  simp only [Value.slice.injEq, true_and] at hv'
  obtain ⟨rfl, rfl⟩ := hv'
  obtain ⟨ad, rfl, hc'⟩ := hc (by rw [dcells_len] at hp; omega)
  exact ⟨ad, rfl, fun j u hu => dds_cells hc' j u hu⟩

theorem drow_whole {w : World} {base g : Nat} {Q : List Dd} (h : w.heap[g]? = some (.cells (dcells Q).toArray 48 (0, 0))) (hb : base ≤ g) (hl : Q.length ≤ maxLen) : DRow w base (.slice (some ⟨g, 0, none⟩) Q.length Q.length) Q :=
  ⟨dcells_len Q, .inr ⟨g, Q.length, _, rfl, hb, h, Nat.le_refl _, hl, by simp [dcells_len], by rw [List.toList_toArray, List.take_of_length_le (by rw [dcells_len]; exact Nat.le_refl _)]⟩⟩

set_option maxRecDepth 100000 in
set_option maxHeartbeats 1000000 in
theorem copyBools_any (v : Value) (zs : List Bool) (w : World) (hv : Bols w v zs) (hl : zs.length ≤ 1099511627776) :
    Calls Try.prog 96 #[v] w (BoRowOf w zs) := by
  obtain ⟨i0, hi0, hz0, hz1, hz2⟩ := info_parts own_infoB
  have hv0 := Lib.hid hv
  obtain ⟨qm, A, ca, rfl, ha⟩ := hv
  clear ha qm
  have I0 := Lib.hid hi0
  have Z0 := Lib.hid hz0
  have Z1 := Lib.hid hz1
  have B8 : Hid (i0.bytes * zs.length ≤ 281474976710656) := Lib.hid (by rw [hz2]; omega)
  clear hi0 hz0 hz1 hz2
  go_enter Try.func96, Try.ntmps96
  go_wp2_with (first
    | (at_make; refine wpList_make_full _ rfl _ _ 22 rfl w.heap.size 4 i0 _ 1 Try.underlying22 I0.out Z0.out Z1.out .i64 .i64 _ _ zs.length rfl rfl rfl rfl B8.out (by unfold maxLen; omega) (Nat.le_refl _) ?_
       intro w1 ho1 hg1
       obtain ⟨cur, hcg, hcs⟩ := own_block ho1
       have CG := Lib.hid hcg
       have CS := Lib.hid hcs
       have B1 := Lib.hid ((Below.refl w.heap.size w).grown hg1 (Nat.le_refl _) (by simp))
       clear ho1 hg1 hcg hcs)
    | (refine wpList_copy_whole rfl _ _ 22 rfl 4 Try.underlying22 1 info_size1 (by omega) w.heap.size zs.length _ _ _ rfl rfl cur 4 CG.out CS.out (zs.map Value.bool) (by simp) (bols_src hv0.out B1.out) (fun u hu => by obtain ⟨z, _, rfl⟩ := List.mem_map.1 hu; rfl) ?_
       intro w2 H2 hg2
       have R2 : Hid (BoRow w2 w.heap.size (.slice (some ⟨w.heap.size, 0, none⟩) zs.length zs.length) zs) := Lib.hid (borow_whole H2 (Nat.le_refl _) (by unfold maxLen; omega))
       have B2 := Lib.hid (B1.out.grown hg2 B1.out.size (fun k hk => by simp at hk; omega))
       clear H2 hg2))
  go_ret
  exact ⟨_, rfl, R2.out, by simp [Value.ownBlock], B2.out⟩

set_option maxRecDepth 100000 in
set_option maxHeartbeats 1000000 in
theorem copyDeeds_any (v : Value) (zs : List Dd) (w : World) (hv : Dds w v zs) (hl : zs.length ≤ 1099511627776) :
    Calls Try.prog 98 #[v] w (DListOf w zs) := by
  obtain ⟨i0, hi0, hz0, hz1, hz2⟩ := info_parts own_infoDd
  have hv0 := Lib.hid hv
  obtain ⟨qm, A, ca, rfl, ha⟩ := hv
  clear ha qm
  have I0 := Lib.hid hi0
  have Z0 := Lib.hid hz0
  have Z1 := Lib.hid hz1
  have B8 : Hid (i0.bytes * zs.length ≤ 281474976710656) := Lib.hid (by rw [hz2]; omega)
  clear hi0 hz0 hz1 hz2
  go_enter Try.func98, Try.ntmps98
  go_wp2_with (first
    | (at_make; refine wpList_make_full _ rfl _ _ 31 rfl w.heap.size 48 i0 _ 4 Try.underlying31 I0.out Z0.out Z1.out .i64 .i64 _ _ zs.length rfl rfl rfl rfl B8.out (by unfold maxLen; omega) (Nat.le_refl _) ?_
       intro w1 ho1 hg1
       obtain ⟨cur, hcg, hcs⟩ := own_block ho1
       have CG := Lib.hid hcg
       have CS := Lib.hid hcs
       have B1 := Lib.hid ((Below.refl w.heap.size w).grown hg1 (Nat.le_refl _) (by simp))
       clear ho1 hg1 hcg hcs)
    | (refine wpList_copy_whole rfl _ _ 31 rfl 48 Try.underlying31 4 info_size4 (by omega) w.heap.size zs.length _ _ _ rfl rfl cur 48 CG.out CS.out (dcells zs) (dcells_len zs) (dds_src hv0.out B1.out) (dcells_oneCell zs) ?_
       intro w2 H2 hg2
       have R2 : Hid (DRow w2 w.heap.size (.slice (some ⟨w.heap.size, 0, none⟩) zs.length zs.length) zs) := Lib.hid (drow_whole H2 (Nat.le_refl _) (by unfold maxLen; omega))
       have B2 := Lib.hid (B1.out.grown hg2 B1.out.size (fun k hk => by simp at hk; omega))
       clear H2 hg2))
  go_ret
  exact ⟨_, rfl, R2.out, by simp [Value.ownBlock], B2.out⟩

end Go.Proofs.Ytjlfbmplmddceaa
