/- PkK: several of my texts, laid together: AppD. -/
import Derived.Test.YthnbaeamekolmaaGreatDoorPkI
import Derived.Test.YthnbaeamekolmaaGreatDoorPkJ
import Derived.Test.YthnbaeamekolmaaGreatDoorPkF
import Derived.Test.YthnbaeamekolmaaGreatDoorPkL
import Derived.Test.YthnbaeamekolmaaGreatDoorPkH
namespace Go.Proofs.YthnbaeamekolmaaGreatDoor
open Go.RowKit
set_option linter.unusedVariables false
set_option linter.unusedSimpArgs false

theorem apply_any (Tb : World → Prop) (hS : Stable Tb) (w : World) (lo g p : Nat) (d : Dt) (fv : Value) (f : Int) (hE : EffOf Tb w fv p) (hb : BoxIs w lo g d) (hd : DtFine d) (hT : Tb w) (h1 : 1 ≤ p) (h2 : p ≤ 52) (hf0 : 0 ≤ f) (hf1 : f ≤ d.b.length) :
    Calls Tryz.prog 61 #[.pointer (some ⟨g, 0, none⟩), .agg #[.int .i64 (takesP p), .int .i64 (needsP p), .int .i64 (dropsP p), fv], .int .i64 f] w (AppR w lo g (dPrim d p f)) := by
  obtain ⟨fi, cap, rfl, he, hc⟩ := hE
  have t3 := takes3 p
  have n2 : needsP p ≤ 2 := by unfold needsP; split <;> (try split) <;> omega
  by_cases c1 : d.s.length < takesP p
  · rw [prim_under c1]; exact apply_under w lo g d _ _ _ fi cap.toArray f hb hd t3 c1
  · by_cases c2 : (d.b.length : Int) - f < needsP p
    · rw [prim_back c1 c2]; exact apply_back w lo g d _ _ _ fi cap.toArray f hb hd t3 (by omega) n2 hf0 hf1 c2
    · rw [prim_run (by omega) (by omega)]
      have K := eff_ok d p h1 h2
      have C : Hid (∀ W tv, Below w.heap.size w W → Ints W tv (tkOf d (takesP p)) → Away W g tv → Calls Tryz.prog fi (.pointer (some ⟨g, 0, none⟩) :: tv :: cap).toArray W (EffR W lo g (eff d p))) := Lib.hid fun W tv hW ht ha =>
        hc W lo g d tv hW (box_below hb hW) hd (by omega) (by omega) ht (hS w W hT hW) ha
      have k1 := K.throw; have k2 := K.more; have k3 := K.stack; have k4 := K.short; have k5 := K.back
      have dn := drops_needs p
      generalize eff d p = r at *
      obtain ⟨d', L, th⟩ := r
      simp only at *
      have hbl := fine_bl hd
      by_cases c3 : th = 0
      · by_cases c4 : 32 < d.s.length - takesP p + L.length
        · have e : finE d (takesP p) (dropsP p) (d', L, th) = (d', -3) := by
            have hl := fine_sl hd
            rw [k2 (by omega)]
            unfold finE; rw [if_neg (by simp [c3]), if_pos c4]
          rw [e]
          exact apply_over w lo g d d' L th _ _ _ fi cap f hb hd t3 (by omega) n2 hf0 hf1 (by omega) he C c3 c4 (by omega)
        · have e : finE d (takesP p) (dropsP p) (d', L, th) = ({ d' with s := d.s.take (d.s.length - takesP p) ++ L, b := d'.b.take (d'.b.length - dropsP p) }, 0) := by
            unfold finE; rw [if_neg (by simp [c3]), if_neg c4]
          rw [e]
          exact apply_fine w lo g d d' L th _ _ _ fi cap f hb hd t3 (by omega) n2 hf0 hf1 (by omega) he C c3 (by omega) (by omega) k3 (by have := k5.1; omega) (k5.2 hbl)
      · have e : finE d (takesP p) (dropsP p) (d', L, th) = (d', th) := by
          rw [fin_throw d d' _ _ L th c3, k1 c3]
        rw [e]
        exact apply_throw w lo g d d' L th _ _ _ fi cap f hb hd t3 (by omega) n2 hf0 hf1 (by omega) he C c3

/-- A maker's contract as the table wants it. -/
theorem made_of {Tb : World → Prop} {p : Nat} {w : World} {e : Ending} {w' : World} (h : MadeOf (fun w' r => EffOf Tb w' r p) w e w') : MadeE (EffOf Tb) p w e w' := by
  obtain ⟨r, he, hr, hb⟩ := h
  obtain ⟨f, cap, rfl, h2⟩ := id hr
  exact ⟨f, cap.toArray, he, hr, hb⟩

theorem flag_wrap (b : Bool) : wrap32 (flagI b) = flagI b := wrap32_in (cellB_true.1 (flag_cell b))

theorem makers (Tb : World → Prop) (hS : Stable Tb) (hF : ∀ w, Tb w → FlagsAt w) (hC : ∀ w, Tb w → Tabs w) : Makers (EffOf Tb) where
  mono := fun w w' v p h hb => effOf_below h hb
  pick := fun p L h w sv hs => by
    rcases h with ⟨rfl, rfl⟩ | ⟨rfl, rfl⟩ | ⟨rfl, rfl⟩ | ⟨rfl, rfl⟩ | ⟨rfl, rfl⟩ | ⟨rfl, rfl⟩ | ⟨rfl, rfl⟩ | ⟨rfl, rfl⟩ | ⟨rfl, rfl⟩ | ⟨rfl, rfl⟩
    all_goals exact (pick_any Tb w sv _ _ hs (by decide) (by decide) (fun d => rfl)).mono fun e w' h => made_of h
  op := fun p n hn h1 h2 w => (operate_any Tb w n p hn h1 h2).mono fun e w' h => made_of h
  one := fun p f h w => by
    rcases h with ⟨rfl, rfl⟩ | ⟨rfl, rfl⟩ | ⟨rfl, rfl⟩ | ⟨rfl, rfl⟩ | ⟨rfl, rfl⟩
    · exact (onOne_any Tb hS w _ _ 25 (negate_num Tb w) rfl (fun d _ => rfl)).mono fun e w' h => made_of h
    · exact (onOne_any Tb hS w _ _ 26 (absolute_num Tb w) rfl (fun d _ => rfl)).mono fun e w' h => made_of h
    · exact (onOne_any Tb hS w _ _ 27 (invert_num Tb w) rfl (fun d hd => by
        have c := tp_cell hd 0
        show (d, [-(tp d 0) - 1], (0 : Int)) = _
        rw [wrap32_in (by omega)])).mono fun e w' h => made_of h
    · exact (onOne_any Tb hS w _ _ 28 (addOne_num Tb w) rfl (fun d _ => rfl)).mono fun e w' h => made_of h
    · exact (onOne_any Tb hS w _ _ 29 (subtractOne_num Tb w) rfl (fun d _ => rfl)).mono fun e w' h => made_of h
  two := fun p f h w => by
    rcases h with ⟨rfl, rfl⟩ | ⟨rfl, rfl⟩ | ⟨rfl, rfl⟩
    · exact (onTwo_any Tb hS w _ _ 30 (lesser_num Tb w) rfl (fun d _ => rfl)).mono fun e w' h => made_of h
    · exact (onTwo_any Tb hS w _ _ 31 (greater_num Tb w) rfl (fun d _ => rfl)).mono fun e w' h => made_of h
    · exact (onTwo_any Tb hS w _ _ 36 (lessUnsigned_num Tb hF w) rfl (fun d _ => rfl)).mono fun e w' h => made_of h
  cmp := fun p t h w => by
    rcases h with ⟨rfl, rfl⟩ | ⟨rfl, rfl⟩ | ⟨rfl, rfl⟩ | ⟨rfl, rfl⟩
    · exact (compare_any Tb hS hF w 0 32 (by decide) rfl (fun d _ => rfl)).mono fun e w' h => made_of h
    · exact (compare_any Tb hS hF w 1 33 (by decide) rfl (fun d _ => rfl)).mono fun e w' h => made_of h
    · exact (compare_any Tb hS hF w 2 34 (by decide) rfl (fun d _ => rfl)).mono fun e w' h => made_of h
    · exact (compare_any Tb hS hF w 3 35 (by decide) rfl (fun d _ => rfl)).mono fun e w' h => made_of h
  cz := fun p t h w => by
    rcases h with ⟨rfl, rfl⟩ | ⟨rfl, rfl⟩
    · exact (compareZero_any Tb hS hF w 0 37 (by decide) rfl (fun d _ => by show (d, [flagI (tp d 0 == 0)], (0 : Int)) = (d, [wrap32 (flagI (tp d 0 == 0))], 0); rw [flag_wrap])).mono fun e w' h => made_of h
    · exact (compareZero_any Tb hS hF w 2 38 (by decide) rfl (fun d _ => by show (d, [flagI (decide (tp d 0 < 0))], (0 : Int)) = (d, [wrap32 (flagI (decide (tp d 0 < 0)))], 0); rw [flag_wrap])).mono fun e w' h => made_of h
  text := fun p s h w => by
    rcases h with ⟨rfl, rfl⟩ | ⟨rfl, rfl⟩
    · exact (sayText_any Tb w _ 47 (by decide) (fun d => rfl)).mono fun e w' h => made_of h
    · exact (sayText_any Tb w _ 48 (by decide) (fun d => rfl)).mono fun e w' h => made_of h
  base := fun p n h w => by
    rcases h with ⟨rfl, rfl⟩ | ⟨rfl, rfl⟩
    · exact (setBase_any Tb w 10 49 (fun d => rfl)).mono fun e w' h => made_of h
    · exact (setBase_any Tb w 16 50 (fun d => rfl)).mono fun e w' h => made_of h
  fn := fun p f h w => by
    rcases h with ⟨rfl, rfl⟩ | ⟨rfl, rfl⟩ | ⟨rfl, rfl⟩ | ⟨rfl, rfl⟩ | ⟨rfl, rfl⟩ | ⟨rfl, rfl⟩ | ⟨rfl, rfl⟩ | ⟨rfl, rfl⟩ | ⟨rfl, rfl⟩ | ⟨rfl, rfl⟩ | ⟨rfl, rfl⟩ | ⟨rfl, rfl⟩ | ⟨rfl, rfl⟩ | ⟨rfl, rfl⟩
    · exact repeatNonzero_eff Tb w
    · exact countStack_eff Tb w
    · exact moveToBack_eff Tb w
    · exact copyBackTop_eff Tb w 13 (.inl rfl)
    · exact copyBackTop_eff Tb w 14 (.inr (.inl rfl))
    · exact fetchCell_eff Tb w
    · exact storeCell_eff Tb w
    · exact addToCell_eff Tb w
    · exact endOfCells_eff Tb w
    · exact allotBytes_eff Tb w
    · exact appendCell_eff Tb w
    · exact sayByte_eff Tb w
    · exact sayCell_eff Tb hS hC w
    · exact copyBackTop_eff Tb w 51 (.inr (.inr rfl))

end Go.Proofs.YthnbaeamekolmaaGreatDoor
