/- PkT: several of my texts, laid together: FlV. -/
import Derived.Test.YtafhmajnkicifaaFlT
import Derived.Test.YtafhmajnkicifaaPkS
namespace Go.Proofs.Ytafhmajnkicifaa
open Go.RowKit
set_option linter.unusedVariables false
set_option linter.unusedSimpArgs false

set_option maxRecDepth 100000 in
set_option maxHeartbeats 4000000 in
theorem sSameTree_any (d : Nat) (u v : Value) (L M : List Nd) (w : World) (hu : Nds d w u L) (hv : Nds d w v M) (z1 : szT d L ≤ 1048576) (z2 : szT d M ≤ 1048576) :
    Calls Try.prog 25 #[u, v] w (SamT (SameP d L M) w) := by
  have HU := Lib.hid hu
  have HV := Lib.hid hv
  have SP := Lib.hid (sameP_iff (nds_dep d hu) (nds_dep d hv))
  obtain ⟨hl, A, c, rfl⟩ := nds_form hu
  obtain ⟨hm, B, c2, rfl⟩ := nds_form hv
  unfold maxLen at hl hm
  have Z1 := Lib.hid z1
  have Z2 := Lib.hid z2
  clear hu hv z1 z2
  by_cases a1 : 4096 < L.length
  · have t1 : (4096 : Int) < (L.length : Int) := by omega
    have NO : Hid (¬ SameP d L M) := Lib.hid (fun h => (SP.out.1 h).1.1 a1)
    clear a1
    go_enter Try.func25, Try.ntmps25
    go_wp2
    go_ret
    exact samT_no NO.out (Below.refl _ _)
  have t1 : ¬ (4096 : Int) < (L.length : Int) := by omega
  by_cases a2 : 4096 < M.length
  · have t2 : (4096 : Int) < (M.length : Int) := by omega
    have NO : Hid (¬ SameP d L M) := Lib.hid (fun h => (SP.out.1 h).2.1.1 a2)
    clear a1 a2
    go_enter Try.func25, Try.ntmps25
    go_wp2
    go_ret
    exact samT_no NO.out (Below.refl _ _)
  have t2 : ¬ (4096 : Int) < (M.length : Int) := by omega
  by_cases a3 : 60 < L.length
  · have t3 : (60 : Int) < (L.length : Int) := by omega
    have NO : Hid (¬ SameP d L M) := Lib.hid (fun h => (SP.out.1 h).1.2.1 a3)
    clear a1 a2 a3
    go_enter Try.func25, Try.ntmps25
    go_wp2
    go_ret
    exact samT_no NO.out (Below.refl _ _)
  have t3 : ¬ (60 : Int) < (L.length : Int) := by omega
  by_cases a4 : 60 < M.length
  · have t4 : (60 : Int) < (M.length : Int) := by omega
    have NO : Hid (¬ SameP d L M) := Lib.hid (fun h => (SP.out.1 h).2.1.2.1 a4)
    clear a1 a2 a3 a4
    go_enter Try.func25, Try.ntmps25
    go_wp2
    go_ret
    exact samT_no NO.out (Below.refl _ _)
  have t4 : ¬ (60 : Int) < (M.length : Int) := by omega
  have HN : Hid ((¬ 4096 < L.length ∧ ¬ 60 < L.length) ∧ (¬ 4096 < M.length ∧ ¬ 60 < M.length)) := Lib.hid ⟨⟨a1, a3⟩, ⟨a2, a4⟩⟩
  clear a1 a2 a3 a4
  have C1 := Lib.hid (flat_any d 9 _ L w (Nat.le_refl _) HU.out Z1.out)
  go_enter Try.func25, Try.ntmps25
  go_wp2_with fail
  refine C1.out.mono ?_
  rintro e w1 ⟨A1, n1, c1, rfl, -, b1⟩
  have B1 := Lib.hid b1
  clear b1 C1
  go_wp2_with fail
  refine (flat_any d 9 _ M _ (Nat.le_refl _) (nds_below HV.out B1.out) Z2.out).mono ?_
  rintro e w2 ⟨A2, n2, c3, rfl, -, b2⟩
  have B2 := Lib.hid (below_step B1.out b2)
  clear b2
  by_cases f1 : fitT d 9 L = true
  · have F1 := Lib.hid f1
    rw [f1]
    clear f1
    by_cases f2 : fitT d 9 M = true
    · have F2 := Lib.hid f2
      rw [f2]
      clear f2
      go_wp2_with fail
      refine (l09Same_any d _ _ L M _ (nds_below HU.out B2.out) (nds_below HV.out B2.out)).mono ?_
      rintro e w3 ⟨t, rfl, ht, b3⟩
      have HT := Lib.hid ht
      have B3 := Lib.hid (below_step B2.out b3)
      clear ht b3
      go_wp2
      go_ret
      refine ⟨t, by first | rfl | simp, ?_, B3.out⟩
      rw [SP.out, HT.out]
      exact ⟨fun q => ⟨⟨HN.out.1.1, HN.out.1.2, F1.out⟩, ⟨HN.out.2.1, HN.out.2.2, F2.out⟩, q⟩, fun q => q.2.2⟩
    · have f2' : fitT d 9 M = false := by simpa using f2
      have NO : Hid (¬ SameP d L M) := Lib.hid (fun h => f2 (SP.out.1 h).2.1.2.2)
      rw [f2']
      clear f2 f2'
      go_wp2
      go_ret
      exact samT_no NO.out B2.out
  · have f1' : fitT d 9 L = false := by simpa using f1
    have NO : Hid (¬ SameP d L M) := Lib.hid (fun h => f1 (SP.out.1 h).1.2.2)
    rw [f1']
    obtain ⟨g, hg⟩ : ∃ g, fitT d 9 M = g := ⟨_, rfl⟩
    rw [hg]
    clear f1 f1' hg
    go_wp2
    go_ret
    exact samT_no NO.out B2.out

end Go.Proofs.Ytafhmajnkicifaa
