/- Drawn data and a drawn word, out of a code. -/
import Derived.Test.YtojjknjdlipfpaaDrB
import Derived.Test.YtojjknjdlipfpaaAtA
import Derived.Test.YtojjknjdlipfpaaDatJ
namespace Go.Proofs.Ytojjknjdlipfpaa
open Go.RowKit
set_option linter.unusedVariables false
set_option linter.unusedSimpArgs false

/-- What data drawn out of a code leaves. -/
def DrawnD (w : World) (e : Ending) (w' : World) : Prop := ∃ u d, e = .returned u ∧ DtFine d ∧ DatOf w' w.heap.size w'.heap.size u d ∧ Below w.heap.size w w'

theorem brow_alloc {w : World} {a : Option Addr} {len cap : Nat} {zs : List Int} (h : BRow w a len cap zs) (o : Obj) : BRow (w.alloc o) a len cap zs := brow_below h (below_alloc (Below.refl _ _) o)

set_option maxRecDepth 100000 in
set_option maxHeartbeats 2000000 in
theorem dataDrawn_any (a : Option Addr) (len cap : Nat) (zs : List Int) (w : World) (h : BRow w a len cap zs) (hl : len ≤ 9223372036854775807) :
    Calls Try.prog 10 #[.slice a len cap] w (DrawnD w) := by
  have HB := Lib.hid h
  clear h
  go_enter Try.func10, Try.ntmps10
  go_wp2_with fail
  refine (source_any _ _ _ _ hl).mono ?_
  rintro e w' ⟨rfl, rfl⟩
  go_wp2_with fail
  refine (data_drew _ a len cap zs _ (by
                                               have hsn := src_new (brow_alloc HB.out (.cells #[.slice none 0 0, .slice none 0 0, .slice none 0 0, .int .i64 0, .int .i64 0, .string ByteArray.empty] 25))
                                               have e : ∀ o : Obj, (w.alloc o).heap.size = w.heap.size + 1 := fun o => by simp
                                               rw [e] at hsn; exact hsn)).mono ?_
  rintro e m ⟨u, d, rfl, hd, hu, hg⟩
  obtain ⟨C1, j1, C2, j2, C3, j3, rfl⟩ := datIn_form (datOf_in hu)
  have hsz : w.heap.size + 1 + 1 ≤ m.heap.size := by have := hg.size; simpa using this
  have T := whole_keep (whole_alloc (whole_new w _ _) _) (hg.block _ (by simp; omega) (by simp))
  have B : Below w.heap.size w m := ((below_alloc (below_alloc (Below.refl _ _) _) _)).grown hg (by simp; omega) (fun k hk => by cases hk; omega)
  have D := Lib.hid hd
  clear hg hd
  obtain ⟨r0, r1, r2, r3, r4, r5⟩ := six_cells T
  have fr := whole_free T
  go_wp2
  refine bodyPost_ret (v := .agg #[.slice C1 d.s.length j1, .slice C2 d.b.length j2, .slice C3 d.c.length j3, .int .i64 d.h, .int .i64 d.n, .string d.o]) (by simp [results, Try.results10, go_sem, *]) rfl ⟨_, d, rfl, D.out, ?_, ?_⟩
  · refine datOf_top (datOf_base (datOf_keep (lo := w.heap.size + 1 + 1) (by simpa using hu) (fun g h1 h2 h3 => ?_)) (by omega)) (by simp)
    iterate 6 rw [Below.heap_setCell _ _ _ _ (by show g ≠ w.heap.size; omega)]
  · repeat (first | with_reducible exact B | with_reducible refine Below.setCell ?_ (by simp) _)

theorem texts_all (W : World) (t : TypeId) (cs : Array Value) (M n : Nat) (hn : cs.size = n) (h : (cs.toList.all fun v => match v with | .string s => decide (s.size ≤ M) | _ => false) = true) : Texts (W.alloc (.cells cs t)) W.heap.size n M := fun k hk => by
  have hw := whole_cell (whole_new W t cs) k
  have hk' : k < cs.toList.length := by simpa [hn] using hk
  have hx := List.all_eq_true.1 h (cs.toList[k]'hk') (List.getElem_mem _)
  have he : cs[k]? = some (cs.toList[k]'hk') := by simp
  rw [he] at hw
  split at hx
  · rename_i s hs
    rw [hs] at hw
    exact ⟨s, hw, by simpa using hx⟩
  · cases hx

/-- A word drawn out of a code. -/
def WordDrew (w : World) (e : Ending) (w' : World) : Prop := ∃ s : ByteArray, e = .returned (.string s) ∧ s.size ≤ 40 ∧ Below w.heap.size w w'

set_option maxRecDepth 100000 in
set_option maxHeartbeats 2000000 in
theorem plain_drew (b : Nat) (a : Option Addr) (len cap : Nat) (code : List Int) (w : World) (h : Src w b a len cap code 0) :
    Calls Try.prog 51 #[.pointer (some ⟨b, 0, none⟩)] w (TextDrew w b 40) := by
  have H := Lib.hid h
  have hb := src_lt h
  clear h
  go_enter Try.func51, Try.ntmps51
  go_wp2_with fail
  refine (pick_drew b a len cap code 0 _ 42 _ 40 _ (src_alloc H.out _) (by omega) (texts_all w _ _ 40 42 rfl (by decide)) (by omega) (by omega) (by omega)).mono ?_
  rintro e m ⟨s, rfl, hs, hg⟩
  have SZ := Lib.hid hs
  have G := Lib.hid (grown_trans (World.grownBy_alloc w _ _) hg)
  clear hs hg
  go_wp2
  go_ret
  exact ⟨s, rfl, SZ.out, G.out⟩

set_option maxRecDepth 100000 in
set_option maxHeartbeats 2000000 in
theorem plainWord_any (a : Option Addr) (len cap : Nat) (zs : List Int) (w : World) (h : BRow w a len cap zs) (hl : len ≤ 9223372036854775807) :
    Calls Try.prog 22 #[.slice a len cap] w (WordDrew w) := by
  have S := Lib.hid (src_new h)
  clear h
  go_enter Try.func22, Try.ntmps22
  go_wp2_with fail
  refine (source_any _ _ _ _ hl).mono ?_
  rintro e w' ⟨rfl, rfl⟩
  go_wp2_with fail
  refine (plain_drew _ a len cap zs _ S.out).mono ?_
  rintro e m ⟨s, rfl, hs, hg⟩
  have G := Lib.hid (below_newS _ hg)
  have SZ := Lib.hid hs
  clear hs hg
  go_wp2
  go_ret
  exact ⟨s, rfl, SZ.out, G.out⟩

theorem allot_fine {d : Dt} (hd : DtFine d) {n : Int} (hn : cellB n = true) : DtFine (dAllot d n).1 := by
  unfold dAllot
  rw [if_neg (by rw [dOK_true hd]; decide), if_neg (by rw [hn]; decide)]
  split
  · rename_i hg
    obtain ⟨h1, h2, h3⟩ := hg
    have q0 := fine_h0 hd
    have q1 := fine_h1 hd
    have q2 := fine_cl hd
    refine ⟨show d.s.length ≤ 32 from fine_sl hd, show d.b.length ≤ 32 from fine_bl hd, ?_, show cellsB d.s = true from fine_sc hd, show cellsB d.b = true from fine_bc hd, ?_, h2, h3, show baseB d.n = true from fine_n hd, show d.o.size ≤ 300 from fine_o hd⟩
    · show (zeroN d.c d.h.toNat (n.tdiv 4).toNat).length = 32
      rw [zeroN_len (by omega)]; exact q2
    · show cellsB (zeroN d.c d.h.toNat (n.tdiv 4).toNat) = true
      unfold cellsB
      rw [List.all_eq_true]
      intro x hx
      unfold zeroN at hx
      rw [List.mem_append, List.mem_append] at hx
      rcases hx with hx | hx | hx
      · exact cellsB_at (fine_cc hd) (List.mem_of_mem_take hx)
      · rw [List.eq_of_mem_replicate hx]; decide
      · exact cellsB_at (fine_cc hd) (List.mem_of_mem_drop hx)
  · exact hd

theorem say_fine {d : Dt} (hd : DtFine d) {s : ByteArray} (hs : s.size ≤ 65536) : DtFine (dSay d s).1 := by
  unfold dSay
  rw [if_neg (by omega), if_neg (by rw [dOK_true hd]; decide)]
  split
  · exact hd
  · exact ⟨show d.s.length ≤ 32 from fine_sl hd, show d.b.length ≤ 32 from fine_bl hd, show d.c.length = 32 from fine_cl hd, show cellsB d.s = true from fine_sc hd, show cellsB d.b = true from fine_bc hd, show cellsB d.c = true from fine_cc hd, show 0 ≤ d.h from fine_h0 hd, show d.h ≤ 32 from fine_h1 hd, show baseB d.n = true from fine_n hd, by show (d.o ++ s).size ≤ 300; rw [ByteArray.size_append]; omega⟩

theorem sameV_self {d : Dt} (hd : DtFine d) : sameV d d = true := by
  unfold sameV; rw [dOK_true hd, sameD_of rfl rfl rfl rfl rfl rfl]; rfl

theorem fine_new : DtFine newDt := by unfold newDt; decide

end Go.Proofs.Ytojjknjdlipfpaa
