/- The decimal text of a number: the given side. -/
import Derived.Test.YtjlfbmplmddceaaDoorWdA
import Derived.Lib.ItoaNum
import Derived.OrdersHeld
import Derived.Deep.WholeRow
import Derived.Deep.RegionHeld3
namespace Go.Proofs.YtjlfbmplmddceaaDoor
open Go.RowKit
set_option linter.unusedVariables false
set_option linter.unusedSimpArgs false

theorem dec_step {u : Nat} (h : ¬ u < 10) : Lib.decDigits u = Lib.decDigits (u / 10) ++ [UInt8.ofNat (48 + u % 10)] := by rw [Lib.decDigits, dif_neg h]

theorem itoa_nat (u : Nat) : Lib.itoa (u : Int) = Lib.decDigits u := by unfold Lib.itoa; rw [if_neg (by omega)]; rfl

theorem pow_at (u : Nat) (hu : 1 ≤ u) : ∀ n : Nat, u < 10 ^ (n + 1) → ∃ k, 10 ^ k ≤ u ∧ u < 10 ^ (k + 1)
  | 0, h => ⟨0, by omega, h⟩
  | n + 1, h => by
    by_cases hl : 10 ^ (n + 1) ≤ u
    · exact ⟨n + 1, hl, h⟩
    · exact pow_at u hu n (by omega)

theorem nDigits_small_int : ∀ (u : Nat), u ≤ 9223372036854775807 → Lib.nDigits u ≤ 19 := by
  intro u hu
  by_cases h : u < 10
  · rw [Lib.nDigits_small h]; omega
  · obtain ⟨k, h1, h2⟩ := pow_at u (by omega) 18 (by omega)
    rw [Lib.nDigits_unique k u h1 h2]
    have : k ≤ 18 := Nat.le_of_not_lt fun hk => by
      have := Nat.pow_le_pow_right (show 0 < 10 by omega) (show 19 ≤ k by omega)
      omega
    omega

theorem conv_at (W : World) (g r : Nat) (h : r < 10) (hc : W.cell? ⟨g, 0, none⟩ = some (.int .u8 (48 + (r : Int)))) : (convert 99 9 (.slice (some ⟨g, 0, none⟩) 1 1)).run Tryd.prog W = .ok (.string ⟨#[UInt8.ofNat (48 + r)]⟩) W :=
  run_convert_bytes_back (P := Tryd.prog) _ 99 9 5 ⟨g, 0, none⟩ 1 [UInt8.ofNat (48 + r)] Tryd.underlying99 Tryd.underlying5 Tryd.underlying9 (fun j hj => by
    have : j = 0 := by simp at hj; omega
    subst this
    have e : ((UInt8.ofNat (48 + r)).toNat : Int) = 48 + r := by rw [UInt8.toNat_ofNat']; omega
    rw [Addr.add_zero', hc]
    simp
    omega)

theorem two_cat (l : List UInt8) (c : UInt8) : ((⟨l.toArray⟩ : ByteArray) ++ ⟨#[c]⟩) = ⟨(l ++ [c]).toArray⟩ := by
  apply ByteArray.ext; apply Array.ext'; simp

theorem cell_new (W : World) (t : TypeId) (c : Value) : (W.alloc (.cells #[c] t)).cell? ⟨W.heap.size, 0, none⟩ = some c := by
  have h : (W.alloc (.cells #[c] t)).heap[W.heap.size]? = some (.cells #[c] t) := heap_alloc_last W _
  simp only [World.cell?, h]
  rfl

set_option maxRecDepth 100000 in
set_option maxHeartbeats 2000000 in
theorem sDigN_any : ∀ (k u : Nat) (w : World), u < k → u ≤ 9223372036854775807 →
    Calls Tryd.prog 33 #[.int .i64 (u : Int)] w fun e w' => e = .returned (.string ⟨(Lib.decDigits u).toArray⟩) ∧ Below w.heap.size w w' := by
  intro k
  induction k with
  | zero => intro u w h; omega
  | succ k ih =>
    intro u w hk hu
    have n0 : ((u : Int) == -9223372036854775808) = false := by rw [beq_eq_false_iff_ne]; omega
    by_cases h : u < 10
    · have E : Hid (Lib.decDigits u = [UInt8.ofNat (48 + u)]) := Lib.hid (Lib.decDigits_one h)
      have hcv := conv_dig w u h
      have E2 : Hid ((⟨#[UInt8.ofNat (48 + u)]⟩ : ByteArray) = ⟨(Lib.decDigits u).toArray⟩) := Lib.hid (by rw [E.out])
      generalize UInt8.ofNat (48 + u) = cc at *
      clear ih
      go_enter Tryd.func33, Tryd.ntmps33
      go_wp2
      go_ret
      exact ⟨congrArg (fun s => Ending.returned (.string s)) E2.out, below_allocW (Below.refl _ _) _⟩
    · obtain ⟨r, hr⟩ : ∃ r : Nat, r = u % 10 := ⟨_, rfl⟩
      obtain ⟨q, hq⟩ : ∃ q : Nat, q = u / 10 := ⟨_, rfl⟩
      have hm : ((u : Int) % 10) = r := by rw [hr]; omega
      have hdv : ((u : Int) / 10) = q := by rw [hq]; omega
      have h10 : r < 10 := by rw [hr]; omega
      have wq : IntKind.i64.wrap (q : Int) = q := IntWalk.i64_in _ (by omega)
      have ht : (u : Int).tmod 10 = r := by rw [Int.tmod_eq_emod_of_nonneg (by omega)]; exact hm
      have w48 : IntKind.i64.wrap (48 + (r : Int)) = 48 + r := IntWalk.i64_in _ (by omega)
      have w8 : IntKind.u8.wrap (48 + (r : Int)) = 48 + r := IntWalk.u8_in _ (by omega)
      have IH : Hid (∀ W, Calls Tryd.prog 33 #[.int .i64 (q : Int)] W fun e w' => e = .returned (.string ⟨(Lib.decDigits q).toArray⟩) ∧ Below W.heap.size W w') := Lib.hid fun W => ih q W (by omega) (by omega)
      obtain ⟨cc, hcc⟩ : ∃ cc : UInt8, cc = UInt8.ofNat (48 + r) := ⟨_, rfl⟩
      have E : Hid (Lib.decDigits u = Lib.decDigits q ++ [cc]) := Lib.hid (by rw [hcc, hr, hq]; exact dec_step h)
      have CV : Hid (∀ (W : World) (g : Nat), W.cell? ⟨g, 0, none⟩ = some (.int .u8 (48 + (r : Int))) → (convert 99 9 (.slice (some ⟨g, 0, none⟩) 1 1)).run Tryd.prog W = .ok (.string ⟨#[cc]⟩) W) := Lib.hid fun W g hc => by rw [hcc]; exact conv_at W g r h10 hc
      have CAT := Lib.hid (two_cat (Lib.decDigits q) cc)
      have LQ : Hid ((Lib.decDigits q).length ≤ 19) := Lib.hid (by have := Lib.decDigits_length q; have := nDigits_small_int q (by omega); omega)
      have lq := LQ.out
      have hos := str_size (Lib.decDigits q)
      have sz : ¬ (9223372036854775807 < (Lib.decDigits q).length + 1) := by omega
      clear ih hr hq hcc
      generalize Lib.decDigits q = L at *
      go_enter Tryd.func33, Tryd.ntmps33
      go_wp2_with fail
      refine wp_region_held_drew (S := fun _ => True) (by kernel_rfl) trivial (fun hHeld => ?_)
      refine wpAnyH_take (i := 0) (oi := { dst := some _, op := _, type := _, pos := _, after := _, guard := _ }) (v := ?_) rfl (by kernel_rfl) (by kernel_rfl) (by kernel_rfl) (fun _ _ _ h => h) (Or.inl ⟨by rfl, ?_⟩) trivial ?_
      rotate_left 1
      · intro w hSw; go_simp; try with_reducible rfl
      refine wpAnyH_take (i := 1) (oi := { dst := some _, op := _, type := _, pos := _, after := _, guard := _ }) (v := ?_) rfl (by kernel_rfl) (by kernel_rfl) (by kernel_rfl) (fun _ _ _ h => h) (Or.inl ⟨by rfl, ?_⟩) trivial ?_
      rotate_left 1
      · intro w hSw; go_simp; try with_reducible rfl
      refine wpAnyH_take (i := 3) (oi := { dst := some _, op := _, type := _, pos := _, after := _, guard := _ }) (v := ?_) rfl (by kernel_rfl) (by kernel_rfl) (by kernel_rfl) (fun _ _ _ h => h) (Or.inl ⟨by rfl, ?_⟩) trivial ?_
      rotate_left 1
      · intro w hSw; go_simp; try with_reducible rfl
      refine wpAnyH_take (i := 4) (oi := { dst := some _, op := _, type := _, pos := _, after := _, guard := _ }) (v := ?_) rfl (by kernel_rfl) (by kernel_rfl) (by kernel_rfl) (fun _ _ _ h => h) (Or.inl ⟨by rfl, ?_⟩) trivial ?_
      rotate_left 1
      · intro w hSw; go_simp; try with_reducible rfl
      refine wpAnyH_take (i := 5) (oi := { dst := some _, op := _, type := _, pos := _, after := _, guard := _ }) (v := ?_) rfl (by kernel_rfl) (by kernel_rfl) (by kernel_rfl) (fun _ _ _ h => h) (Or.inl ⟨by rfl, ?_⟩) trivial ?_
      rotate_left 1
      · intro w hSw; go_simp; try with_reducible rfl
      refine wpAnyH_take (i := 6) (oi := { dst := some _, op := _, type := _, pos := _, after := _, guard := _ }) (v := ?_) rfl (by kernel_rfl) (by kernel_rfl) (by kernel_rfl) (fun _ _ _ h => h) (Or.inl ⟨by rfl, ?_⟩) trivial ?_
      rotate_left 1
      · intro w hSw; go_simp; try with_reducible rfl
      simp only [wq, ht, w48, w8]
      refine wpAnyH_ready (rs := [2, 7]) (by kernel_rfl) (by simp) ?_
      refine AllReadyH.cons (o := { dst := some _, op := _, type := _, pos := _, after := _, guard := _ }) rfl (fun K hK => ?_) (AllReadyH.cons (o := { dst := some _, op := _, type := _, pos := _, after := _, guard := _ }) rfl (fun K hK => ?_) AllReadyH.nil)
      · go_simp
        refine (IH.out _).mono ?_
        rintro e w1 ⟨rfl, hb⟩
        have B1 := below_stepW (Below.refl w.heap.size w).drew hb
        refine hK.out _ _ trivial (fun hHeld => ?_)
        refine wpAnyH_ready (rs := [7]) (by kernel_rfl) (by simp) ?_
        refine AllReadyH.cons (o := { dst := some _, op := _, type := _, pos := _, after := _, guard := _ }) rfl (fun K hK => ?_) AllReadyH.nil
        go_simp
        refine hK.out _ _ trivial (fun hHeld => ?_)
        refine wpAnyH_ready (rs := [8]) (by kernel_rfl) (by simp) ?_
        refine AllReadyH.cons (o := { dst := some _, op := _, type := _, pos := _, after := _, guard := _ }) rfl (fun K hK => ?_) AllReadyH.nil
        go_simp
        rw [CV.out _ _ (cell_new _ _ _)]
        go_simp
        refine hK.out _ _ trivial (fun hHeld => ?_)
        refine wpAnyH_take (i := 9) (oi := { dst := some _, op := _, type := _, pos := _, after := _, guard := _ }) (v := ?_) rfl (by kernel_rfl) (by kernel_rfl) (by kernel_rfl) (fun _ _ _ h => h) (Or.inl ⟨by rfl, ?_⟩) trivial ?_
        rotate_left 1
        · intro w hSw; go_simp; try with_reducible rfl
        refine wpAnyH_take (i := 10) (oi := { dst := some _, op := _, type := _, pos := _, after := _, guard := _ }) (v := ?_) rfl (by kernel_rfl) (by kernel_rfl) (by kernel_rfl) (fun _ _ _ h => h) (Or.inl ⟨by rfl, ?_⟩) trivial ?_
        rotate_left 1
        · intro w hSw; go_simp; try with_reducible rfl
        refine wpAnyH_done (by kernel_rfl) ?_ _
        go_wp2
        go_ret
        exact ⟨congrArg (fun s => Ending.returned (.string s)) (by rw [E.out]; apply ByteArray.ext; apply Array.ext'; simp), below_allocW B1 _⟩
      · go_simp
        refine hK.out _ _ trivial (fun hHeld => ?_)
        refine wpAnyH_ready (rs := [2, 8]) (by kernel_rfl) (by simp) ?_
        refine AllReadyH.cons (o := { dst := some _, op := _, type := _, pos := _, after := _, guard := _ }) rfl (fun K hK => ?_) (AllReadyH.cons (o := { dst := some _, op := _, type := _, pos := _, after := _, guard := _ }) rfl (fun K hK => ?_) AllReadyH.nil)
        · go_simp
          refine (IH.out _).mono ?_
          rintro e w1 ⟨rfl, hb⟩
          have hc0 : ((w.alloc (.cells #[.int .u8 (48 + (r : Int))] 5)).drew).cell? ⟨w.heap.size, 0, none⟩ = some (.int .u8 (48 + (r : Int))) := cell_new w _ _
          have hc := (hb.cell (World.block_lt_of_cell? _ _ hc0)).trans hc0
          have B1 := below_stepW (below_allocW (Below.refl w.heap.size w).drew (.cells #[.int .u8 (48 + (r : Int))] 5)) hb
          refine hK.out _ _ trivial (fun hHeld => ?_)
          refine wpAnyH_ready (rs := [8]) (by kernel_rfl) (by simp) ?_
          refine AllReadyH.cons (o := { dst := some _, op := _, type := _, pos := _, after := _, guard := _ }) rfl (fun K hK => ?_) AllReadyH.nil
          go_simp
          rw [CV.out _ _ hc]
          go_simp
          refine hK.out _ _ trivial (fun hHeld => ?_)
          refine wpAnyH_take (i := 9) (oi := { dst := some _, op := _, type := _, pos := _, after := _, guard := _ }) (v := ?_) rfl (by kernel_rfl) (by kernel_rfl) (by kernel_rfl) (fun _ _ _ h => h) (Or.inl ⟨by rfl, ?_⟩) trivial ?_
          rotate_left 1
          · intro w hSw; go_simp; try with_reducible rfl
          refine wpAnyH_take (i := 10) (oi := { dst := some _, op := _, type := _, pos := _, after := _, guard := _ }) (v := ?_) rfl (by kernel_rfl) (by kernel_rfl) (by kernel_rfl) (fun _ _ _ h => h) (Or.inl ⟨by rfl, ?_⟩) trivial ?_
          rotate_left 1
          · intro w hSw; go_simp; try with_reducible rfl
          refine wpAnyH_done (by kernel_rfl) ?_ _
          go_wp2
          go_ret
          exact ⟨congrArg (fun s => Ending.returned (.string s)) (by rw [E.out]; apply ByteArray.ext; apply Array.ext'; simp), B1⟩
        · have hc0 : ((w.alloc (.cells #[.int .u8 (48 + (r : Int))] 5)).drew).cell? ⟨w.heap.size, 0, none⟩ = some (.int .u8 (48 + (r : Int))) := cell_new w _ _
          go_simp
          rw [CV.out _ _ hc0]
          go_simp
          refine hK.out _ _ trivial (fun hHeld => ?_)
          refine wpAnyH_ready (rs := [2]) (by kernel_rfl) (by simp) ?_
          refine AllReadyH.cons (o := { dst := some _, op := _, type := _, pos := _, after := _, guard := _ }) rfl (fun K hK => ?_) AllReadyH.nil
          go_simp
          refine (IH.out _).mono ?_
          rintro e w1 ⟨rfl, hb⟩
          have B1 := below_stepW (below_allocW (Below.refl w.heap.size w).drew (.cells #[.int .u8 (48 + (r : Int))] 5)) hb
          refine hK.out _ _ trivial (fun hHeld => ?_)
          refine wpAnyH_take (i := 9) (oi := { dst := some _, op := _, type := _, pos := _, after := _, guard := _ }) (v := ?_) rfl (by kernel_rfl) (by kernel_rfl) (by kernel_rfl) (fun _ _ _ h => h) (Or.inl ⟨by rfl, ?_⟩) trivial ?_
          rotate_left 1
          · intro w hSw; go_simp; try with_reducible rfl
          refine wpAnyH_take (i := 10) (oi := { dst := some _, op := _, type := _, pos := _, after := _, guard := _ }) (v := ?_) rfl (by kernel_rfl) (by kernel_rfl) (by kernel_rfl) (fun _ _ _ h => h) (Or.inl ⟨by rfl, ?_⟩) trivial ?_
          rotate_left 1
          · intro w hSw; go_simp; try with_reducible rfl
          refine wpAnyH_done (by kernel_rfl) ?_ _
          go_wp2
          go_ret
          exact ⟨congrArg (fun s => Ending.returned (.string s)) (by rw [E.out]; apply ByteArray.ext; apply Array.ext'; simp), B1⟩

theorem sDigits_any (n : Int) (w : World) (h0 : -9223372036854775808 ≤ n) (h1 : n ≤ 9223372036854775807) :
    Calls Tryd.prog 33 #[.int .i64 n] w fun e w' => e = .returned (.string ⟨(Lib.itoa n).toArray⟩) ∧ Below w.heap.size w w' := by
  by_cases hn : n < 0
  rotate_left
  · obtain ⟨u, rfl⟩ : ∃ u : Nat, n = (u : Int) := ⟨n.toNat, by omega⟩
    rw [itoa_nat]
    exact sDigN_any (u + 1) u w (by omega) (by omega)
  · by_cases hm : n = -9223372036854775808
    · subst hm
      have E : Hid (Lib.itoa (-9223372036854775808) = [45, 57, 50, 50, 51, 51, 55, 50, 48, 51, 54, 56, 53, 52, 55, 55, 53, 56, 48, 56]) := Lib.hid (by decide +kernel)
      go_enter Tryd.func33, Tryd.ntmps33
      go_wp2
      go_ret
      exact ⟨congrArg (fun s => Ending.returned (.string s)) (by rw [E.out]), Below.refl _ _⟩
    · obtain ⟨u, hu⟩ : ∃ u : Nat, n = -(u : Int) := ⟨n.natAbs, by omega⟩
      subst hu
      have E : Hid (Lib.itoa (-(u : Int)) = 45 :: Lib.decDigits u) := Lib.hid (by unfold Lib.itoa; rw [if_pos hn]; simp)
      have LQ : Hid ((Lib.decDigits u).length ≤ 19) := Lib.hid (by have := Lib.decDigits_length u; have := nDigits_small_int u (by omega); omega)
      have lq := LQ.out
      have hos := str_size (Lib.decDigits u)
      have n0 : ((-(u : Int)) == -9223372036854775808) = false := by rw [beq_eq_false_iff_ne]; exact hm
      have OC := Lib.hid (one_cat 45 (Lib.decDigits u))
      have IH : Hid (∀ W, Calls Tryd.prog 33 #[.int .i64 (u : Int)] W fun e w' => e = .returned (.string ⟨(Lib.decDigits u).toArray⟩) ∧ Below W.heap.size W w') := Lib.hid fun W => sDigN_any (u + 1) u W (by omega) (by omega)
      generalize Lib.decDigits u = L at *
      go_enter Tryd.func33, Tryd.ntmps33
      go_wp2_with fail
      refine (IH.out _).mono ?_
      rintro e w1 ⟨rfl, hb⟩
      go_wp2
      go_ret
      exact ⟨congrArg (fun s => Ending.returned (.string s)) (by rw [E.out, ← OC.out]), hb⟩

end Go.Proofs.YtjlfbmplmddceaaDoor
