/- PkR: several of my texts, laid together: FlP, FlQA, FlQB, FlQC. -/
import Derived.Test.YtafhmajnkicifaaFlE
import Derived.Test.YtafhmajnkicifaaIdB
import Derived.Test.YtafhmajnkicifaaCtB
import Derived.Deep.DeepCutAuto
import Derived.Test.YtafhmajnkicifaaNdC
namespace Go.Proofs.Ytafhmajnkicifaa
open Go.RowKit
set_option linter.unusedVariables false
set_option linter.unusedSimpArgs false

theorem len_part {d : Nat} {w : World} {v : Value} {L : List Nd} (h : Nds d w v L) : L.length ≤ (itT d L).length := by
  cases d with
  | zero => rw [h.1]; simp
  | succ d => exact itT_ge d L

theorem len_sz {d : Nat} {w : World} {v : Value} {L : List Nd} (h : Nds d w v L) : L.length ≤ szT d L := by
  cases d with
  | zero => rw [h.1]; simp
  | succ d => exact szT_ge' d L

theorem len_part0 {d : Nat} {w : World} {v : Value} {L : List Nd} (h : Nds d w v L) : (itT d L).length = 0 ↔ L.length = 0 := by
  have := len_part h
  constructor
  · intro q; omega
  · intro q; rw [List.eq_nil_of_length_eq_zero q, itT_nil]; rfl

/-- A node that is well formed has both its parts within it. -/
theorem itN_parts (f : List Nd → List It) (k v : Int) (a b : List Nd) (h : nodV k v a.length b.length = true) (h0 : f [] = []) : (f a).length + (f b).length ≤ (itN f (.mk k v a b)).length := by
  by_cases hw : wrdV k = true
  · obtain ⟨q1, q2, _⟩ := nodB_word (x := .mk k v a b) h hw
    rw [show a = [] from List.eq_nil_of_length_eq_zero q1, show b = [] from List.eq_nil_of_length_eq_zero q2, h0]; simp
  · have hw' : wrdV k = false := by simpa using hw
    unfold itN
    rw [if_neg (by show ¬ wrdV k = true; exact hw)]
    show _ ≤ ([(⟨opnV k, 0⟩ : It)] ++ f a ++ (if midV k v ≠ 0 then [(⟨midV k v, 0⟩ : It)] ++ f b else []) ++ [(⟨endV k, 0⟩ : It)]).length
    by_cases hm : midV k v = 0
    · have q := nodB_mid (x := .mk k v a b) h hw' hm
      rw [if_neg (by simpa using hm), show b = [] from List.eq_nil_of_length_eq_zero q, h0]; simp; omega
    · rw [if_pos hm]; simp; omega

theorem nodV_sw (k v : Int) (n m na nb : Nat) (hn : n = 0 ↔ na = 0) (hm : m = 0 ↔ nb = 0) : nodV k v n m = ((wrdV k && itB ⟨k, v⟩ && decide (na + nb = 0)) || (decide (k = 3) && decide (v = 0) && decide (nb = 0)) || (decide (k = 3) && decide (v = 1)) || (decide (k = 7) && decide (v = 0) && decide (nb = 0)) || (decide (k = 8) && decide (v = 0)) || ((decide (k = 11) || decide (k = 12)) && decide (v = 0) && decide (nb = 0))) := by
  have ev : decide (n = 0) = decide (na = 0) := by simp only [hn]
  have em : decide (m = 0) = decide (nb = 0) := by simp only [hm]
  have es : decide (na + nb = 0) = (decide (na = 0) && decide (nb = 0)) := by rw [Bool.eq_iff_iff]; simp
  unfold nodV
  rw [ev, em, es]
  by_cases hw : wrdV k = true
  · have hk : k ≠ 3 ∧ k ≠ 7 ∧ k ≠ 8 ∧ k ≠ 11 ∧ k ≠ 12 := by unfold wrdV at hw; simp at hw; omega
    rw [if_pos hw, hw]
    simp [hk, Bool.and_assoc]
  · have hw' : wrdV k = false := by simpa using hw
    rw [if_neg hw, hw']
    by_cases h3 : k = 3
    · subst h3; simp; cases decide (v = 0) <;> cases decide (v = 1) <;> cases decide (nb = 0) <;> rfl
    · rw [if_neg h3]
      by_cases h8 : k = 8
      · subst h8; simp
      · rw [if_neg h8]
        by_cases h7 : k = 7 ∨ k = 11 ∨ k = 12
        · rw [if_pos h7]
          rcases h7 with rfl | rfl | rfl <;> simp
        · rw [if_neg h7]
          have q : k ≠ 7 ∧ k ≠ 11 ∧ k ≠ 12 := by omega
          simp [h3, h8, q]

/-- Nodes are read. -/
def FlatOf (d r : Nat) (L : List Nd) (w : World) (e : Ending) (w' : World) : Prop :=
  ∃ A n c, e = .returned (.tuple #[.slice A n c, .bool (fitT d r L)]) ∧ (fitT d r L = true → IRow w' w.heap.size (.slice A n c) (itT d L)) ∧ Below w.heap.size w w'

def FlatN (d : Nat) : Prop := ∀ (r : Nat) (v : Value) (L : List Nd) (w : World), r ≤ 9 → Nds d w v L → szT d L ≤ 1048576 → Calls Try.prog 40 #[v, .int .i64 (r : Nat)] w (FlatOf d r L w)

set_option maxRecDepth 100000 in
set_option maxHeartbeats 400000 in
theorem flat_zero : FlatN 0 := by
  intro r v L w hr hv _
  obtain ⟨rfl, A, c, rfl⟩ := hv
  have E : Hid (fitT 0 r [] = true) := Lib.hid rfl
  go_enter Try.func40, Try.ntmps40
  go_wp2
  go_loopw [6, 7] (fun q i wr => q = .slice (some ⟨w.heap.size, 0, none⟩) 0 0 ∧ i = .int .i64 0 ∧ wr = w.alloc (.cells #[] 59)) (fun _ i _ => 0)
  case atStart => exact ⟨rfl, rfl, rfl⟩
  case round =>
    obtain ⟨rfl, rfl, rfl⟩ := hrel
    go_wp2
    go_ret2
    exact ⟨_, _, _, by rw [E.out]; rfl, fun _ => irow_empty w (Nat.le_refl _), below_alloc (Below.refl _ _) _⟩

/-- The lists ahead of a node and behind it. -/
def FlInv (d r : Nat) (L : List Nd) (w : World) (q : Value) (k : Nat) (wr : World) : Prop :=
  ∃ A n c, q = .slice A n c ∧ k ≤ L.length ∧ IRow wr w.heap.size (.slice A n c) (itT (d + 1) (L.take k)) ∧ okT (d + 1) r (L.take k) = true ∧ Below w.heap.size w wr

def firstLoopF : Code → Option Code
  | .loop c => some c
  | .seq a b => match firstLoopF a with
    | some c => some c
    | none => firstLoopF b
  | .block _ c => firstLoopF c
  | .scope c => firstLoopF c
  | .cond _ a b => match firstLoopF a with
    | some c => some c
    | none => firstLoopF b
  | _ => none

/-- The loop's body. -/
noncomputable def flBody : Code := ((Try.f40.body.bind firstLoopF).getD .skip)

set_option maxRecDepth 1000000 in
/-- A round's end. -/
def FlNext (d r : Nat) (L : List Nd) (w : World) (k : Nat) (A : Option Addr) (ca : Nat) (a' : Act) (w'' : World) : Prop :=
  ∃ u4 u5 u6 u7 u8 u9 u10 u11 u12 u14 u15 u16 u17 u18 u19 u20 u21 u22 u23 u24 u25 u26 u27 u28 u29 u30 u31 u32 u33 u34 u35 u36 u37 u38 u39 u40 u41 u42 u43 u44 u45 u46 u47 u48 u49 u50 u51 u52 u53 u54 u55 u56 u57 u58 u59 u60 u61 u62 u63 u64 u65 u66 u67 u68 u69 u70 u71 u72 u73 u74 u75 u76 u77 u78 u79 u80 u81 u82 u83 u84 u85 u86 u87 u88 u89 u90 u91 u92 u93 u94 u95 u96 u97 u98 u99 u100 u101 u102 u103 u104 u105 u106 u107 u108 u109 u110 u111 u112 u113 u114 u115 u116 u117 u118 u119 u120 u121 u122 u123 u124 u125 u126 u127 u128 u129 u130 u131 u132 u133 u134 u135 u136 u137 u138 u139 u140 u141 u142 u143 u144 u145 u146 u147 u148 u149 u150 u151 u152 u153 u154 u155 u156 u157 u158 u159 u160 u161 u162 u163 u164 u165 u166 u167 u168 u169 u170 u171 u172 u173 u174 u175 u176 u177 u178 u179 u180 u181 u182 u183 u184 u185 u186 u187 u188 u189 u190 u191 u192 u193 u194 u195 u196 u197 u198 u199 u200 u201 u202 u203 u204 : Value, a' = ⟨#[.slice A L.length ca, .int .i64 ((r : Nat) : Int), undef, undef, u4, u5, u6, u7, u8, u9, u10, u11, u12, .slice (some ⟨w.heap.size, 0, none⟩) 0 0, u14, u15, u16, u17, u18, u19, u20, u21, u22, u23, u24, u25, u26, u27, u28, u29, u30, u31, u32, u33, u34, u35, u36, u37, u38, u39, u40, u41, u42, u43, u44, u45, u46, u47, u48, u49, u50, u51, u52, u53, u54, u55, u56, u57, u58, u59, u60, u61, u62, u63, u64, u65, u66, u67, u68, u69, u70, u71, u72, u73, u74, u75, u76, u77, u78, u79, u80, u81, u82, u83, u84, u85, u86, u87, u88, u89, u90, u91, u92, u93, u94, u95, u96, u97, u98, u99, u100, u101, u102, u103, u104, u105, u106, u107, u108, u109, u110, u111, u112, u113, u114, u115, u116, u117, u118, u119, u120, u121, u122, u123, u124, u125, u126, u127, u128, u129, u130, u131, u132, u133, u134, u135, u136, u137, u138, u139, u140, u141, u142, u143, u144, u145, u146, u147, u148, u149, u150, u151, u152, u153, u154, u155, u156, u157, u158, u159, u160, u161, u162, u163, u164, u165, u166, u167, u168, u169, u170, u171, u172, u173, u174, u175, u176, u177, u178, u179, u180, u181, u182, u183, u184, u185, u186, u187, u188, u189, u190, u191, u192, u193, u194, u195, u196, u197, u198, u199, u200, u201, u202, u203, u204, undef, undef, undef, undef], []⟩ ∧ ∃ A9 n9 c9, u6 = .slice A9 n9 c9 ∧ u7 = .int .i64 ((k + 1 : Nat) : Int) ∧ IRow w'' w.heap.size (.slice A9 n9 c9) (itT (d + 1) (L.take (k + 1))) ∧ okT (d + 1) r (L.take (k + 1)) = true ∧ Below w.heap.size w w''

set_option maxRecDepth 1000000 in
/-- A node refused. -/
def FlRet (d r : Nat) (L : List Nd) (w : World) (A : Option Addr) (ca : Nat) (a' : Act) (w'' : World) : Prop :=
  ∃ u4 u5 u6 u7 u8 u9 u10 u11 u12 u14 u15 u16 u17 u18 u19 u20 u21 u22 u23 u24 u25 u26 u27 u28 u29 u30 u31 u32 u33 u34 u35 u36 u37 u38 u39 u40 u41 u42 u43 u44 u45 u46 u47 u48 u49 u50 u51 u52 u53 u54 u55 u56 u57 u58 u59 u60 u61 u62 u63 u64 u65 u66 u67 u68 u69 u70 u71 u72 u73 u74 u75 u76 u77 u78 u79 u80 u81 u82 u83 u84 u85 u86 u87 u88 u89 u90 u91 u92 u93 u94 u95 u96 u97 u98 u99 u100 u101 u102 u103 u104 u105 u106 u107 u108 u109 u110 u111 u112 u113 u114 u115 u116 u117 u118 u119 u120 u121 u122 u123 u124 u125 u126 u127 u128 u129 u130 u131 u132 u133 u134 u135 u136 u137 u138 u139 u140 u141 u142 u143 u144 u145 u146 u147 u148 u149 u150 u151 u152 u153 u154 u155 u156 u157 u158 u159 u160 u161 u162 u163 u164 u165 u166 u167 u168 u169 u170 u171 u172 u173 u174 u175 u176 u177 u178 u179 u180 u181 u182 u183 u184 u185 u186 u187 u188 u189 u190 u191 u192 u193 u194 u195 u196 u197 u198 u199 u200 u201 u202 u203 u204 : Value, a' = ⟨#[.slice A L.length ca, .int .i64 ((r : Nat) : Int), undef, undef, u4, u5, u6, u7, u8, u9, u10, u11, u12, .slice (some ⟨w.heap.size, 0, none⟩) 0 0, u14, u15, u16, u17, u18, u19, u20, u21, u22, u23, u24, u25, u26, u27, u28, u29, u30, u31, u32, u33, u34, u35, u36, u37, u38, u39, u40, u41, u42, u43, u44, u45, u46, u47, u48, u49, u50, u51, u52, u53, u54, u55, u56, u57, u58, u59, u60, u61, u62, u63, u64, u65, u66, u67, u68, u69, u70, u71, u72, u73, u74, u75, u76, u77, u78, u79, u80, u81, u82, u83, u84, u85, u86, u87, u88, u89, u90, u91, u92, u93, u94, u95, u96, u97, u98, u99, u100, u101, u102, u103, u104, u105, u106, u107, u108, u109, u110, u111, u112, u113, u114, u115, u116, u117, u118, u119, u120, u121, u122, u123, u124, u125, u126, u127, u128, u129, u130, u131, u132, u133, u134, u135, u136, u137, u138, u139, u140, u141, u142, u143, u144, u145, u146, u147, u148, u149, u150, u151, u152, u153, u154, u155, u156, u157, u158, u159, u160, u161, u162, u163, u164, u165, u166, u167, u168, u169, u170, u171, u172, u173, u174, u175, u176, u177, u178, u179, u180, u181, u182, u183, u184, u185, u186, u187, u188, u189, u190, u191, u192, u193, u194, u195, u196, u197, u198, u199, u200, u201, u202, u203, u204, undef, undef, undef, undef], []⟩ ∧ ∃ A9 n9 c9, u4 = .slice A9 n9 c9 ∧ u5 = .bool false ∧ (fitT (d + 1) r L = true → False) ∧ Below w.heap.size w w''

end Go.Proofs.Ytafhmajnkicifaa

namespace Go.Proofs.Ytafhmajnkicifaa
open Go.RowKit
set_option linter.unusedVariables false
set_option linter.unusedSimpArgs false

set_option maxRecDepth 1000000 in
set_option maxHeartbeats 40000000 in
theorem flr_p (d r : Nat) (L : List Nd) (w wr : World) (A : Option Addr) (ca k n c : Nat) (C : Option Addr) (ih : FlatN d) (hr : r ≤ 9) (hsz : szT (d + 1) L ≤ 1048576) (hv : Nds (d + 1) w (.slice A L.length ca) L) (hk : k ≤ L.length) (hlt : k < L.length) (hl : L.length ≤ 2 ^ 63 - 1)
    (hrw : IRow wr w.heap.size (.slice C n c) (itT (d + 1) (L.take k))) (hok : okT (d + 1) r (L.take k) = true) (hb : Below w.heap.size w wr) (h0 : r ≠ 0) (hs : ¬ 60 < L[k].a.length + L[k].b.length) (h6 : ¬ 60 < n) (hpart : ¬ (fitT d (r - 1) L[k].a = true ∧ fitT d (r - 1) L[k].b = true))
    (Q : Exit → Act → World → Prop) (hnext : ∀ a' w'', FlNext d r L w k A ca a' w'' → Q .normal a' w'') (hret : ∀ a' w'', FlRet d r L w A ca a' w'' → Q .ret a' w'')
    (u4 u5 u8 u9 u10 u11 u12 u14 u15 u16 u17 u18 u19 u20 u21 u22 u23 u24 u25 u26 u27 u28 u29 u30 u31 u32 u33 u34 u35 u36 u37 u38 u39 u40 u41 u42 u43 u44 u45 u46 u47 u48 u49 u50 u51 u52 u53 u54 u55 u56 u57 u58 u59 u60 u61 u62 u63 u64 u65 u66 u67 u68 u69 u70 u71 u72 u73 u74 u75 u76 u77 u78 u79 u80 u81 u82 u83 u84 u85 u86 u87 u88 u89 u90 u91 u92 u93 u94 u95 u96 u97 u98 u99 u100 u101 u102 u103 u104 u105 u106 u107 u108 u109 u110 u111 u112 u113 u114 u115 u116 u117 u118 u119 u120 u121 u122 u123 u124 u125 u126 u127 u128 u129 u130 u131 u132 u133 u134 u135 u136 u137 u138 u139 u140 u141 u142 u143 u144 u145 u146 u147 u148 u149 u150 u151 u152 u153 u154 u155 u156 u157 u158 u159 u160 u161 u162 u163 u164 u165 u166 u167 u168 u169 u170 u171 u172 u173 u174 u175 u176 u177 u178 u179 u180 u181 u182 u183 u184 u185 u186 u187 u188 u189 u190 u191 u192 u193 u194 u195 u196 u197 u198 u199 u200 u201 u202 u203 u204 : Value) : Code.wp Try.prog flBody Q ⟨#[.slice A L.length ca, .int .i64 ((r : Nat) : Int), undef, undef, u4, u5, .slice C n c, .int .i64 ((k : Nat) : Int), u8, u9, u10, u11, u12, .slice (some ⟨w.heap.size, 0, none⟩) 0 0, u14, u15, u16, u17, u18, u19, u20, u21, u22, u23, u24, u25, u26, u27, u28, u29, u30, u31, u32, u33, u34, u35, u36, u37, u38, u39, u40, u41, u42, u43, u44, u45, u46, u47, u48, u49, u50, u51, u52, u53, u54, u55, u56, u57, u58, u59, u60, u61, u62, u63, u64, u65, u66, u67, u68, u69, u70, u71, u72, u73, u74, u75, u76, u77, u78, u79, u80, u81, u82, u83, u84, u85, u86, u87, u88, u89, u90, u91, u92, u93, u94, u95, u96, u97, u98, u99, u100, u101, u102, u103, u104, u105, u106, u107, u108, u109, u110, u111, u112, u113, u114, u115, u116, u117, u118, u119, u120, u121, u122, u123, u124, u125, u126, u127, u128, u129, u130, u131, u132, u133, u134, u135, u136, u137, u138, u139, u140, u141, u142, u143, u144, u145, u146, u147, u148, u149, u150, u151, u152, u153, u154, u155, u156, u157, u158, u159, u160, u161, u162, u163, u164, u165, u166, u167, u168, u169, u170, u171, u172, u173, u174, u175, u176, u177, u178, u179, u180, u181, u182, u183, u184, u185, u186, u187, u188, u189, u190, u191, u192, u193, u194, u195, u196, u197, u198, u199, u200, u201, u202, u203, u204, undef, undef, undef, undef], []⟩ wr := by
  have HV := Lib.hid hv
  have HSZ := Lib.hid hsz
  have IH := Lib.hid ih
  have HN := Lib.hid hnext
  have HT := Lib.hid hret
  clear hnext hret ih hsz hv
  have zr := hb.size
  obtain ⟨_, C', c', e, _⟩ := irow_its hrw
  simp only [Value.slice.injEq] at e
  obtain ⟨rfl, rfl, rfl⟩ := e
  obtain ⟨nl, hnl⟩ : ∃ nl, (itT (d + 1) (L.take k)).length = nl := ⟨_, rfl⟩
  rw [hnl] at hrw h6
  rw [hnl]
  have HB := Lib.hid hb
  have HR := Lib.hid hrw
  have HOK := Lib.hid hok
  have NL := Lib.hid hnl
  clear hb hrw hok hnl
  obtain ⟨_, A', ca', e', hc⟩ := nds_below HV.out HB.out
  simp only [Value.slice.injEq, true_and] at e'
  obtain ⟨rfl, rfl⟩ := e'
  obtain ⟨ga, hA, ha⟩ := hc (by omega)
  subst hA
  obtain ⟨a0, a1, A1, n1, e1, B1, m1, f1, a2, a3, ra, rb⟩ := ha k hlt
  have SZK : Hid (szT d L[k].a + szT d L[k].b ≤ 1048576) := Lib.hid (Nat.le_trans (szT_at d L hlt) HSZ.out)
  have REF : Hid (fitT (d + 1) r L = true → 0 < r ∧ nodV L[k].k L[k].v L[k].a.length L[k].b.length = true ∧ okT d (r - 1) L[k].a = true ∧ okT d (r - 1) L[k].b = true ∧ nl + (itN (itT d) (.mk L[k].k L[k].v L[k].a L[k].b)).length ≤ 60) := Lib.hid (fun h => by
    unfold fitT at h
    simp at h
    obtain ⟨q1, q2, q3, q4⟩ := okT_at d r L hlt h.1
    have q5 := itT_le d L hlt
    rw [NL.out] at q5
    exact ⟨q1, q2, q3, q4, by have : itN (itT d) (.mk L[k].k L[k].v L[k].a L[k].b) = itN (itT d) L[k] := rfl; rw [this]; omega⟩)
  have TK : Hid (itT (d + 1) (L.take (k + 1)) = itT (d + 1) (L.take k) ++ itN (itT d) (.mk L[k].k L[k].v L[k].a L[k].b)) := Lib.hid (itT_take d L hlt)
  have OT : Hid (okT (d + 1) r (L.take (k + 1)) = (okT (d + 1) r (L.take k) && (decide (0 < r) && nodV L[k].k L[k].v L[k].a.length L[k].b.length && okT d (r - 1) L[k].a && okT d (r - 1) L[k].b))) := Lib.hid (okT_take d r L hlt)
  obtain ⟨_, A2, e2, q⟩ := nds_form ra
  simp only [Value.slice.injEq] at q
  obtain ⟨rfl, rfl, rfl⟩ := q
  obtain ⟨_, B2, f2, q⟩ := nds_form rb
  simp only [Value.slice.injEq] at q
  obtain ⟨rfl, rfl, rfl⟩ := q
  have RA := Lib.hid ra
  have RB := Lib.hid rb
  have XA := Lib.hid (whole_new wr 64 #[.int .i64 L[k].k, .int .i64 L[k].v, .slice A1 L[k].a.length e1, .slice B1 L[k].b.length f1])
  have BA : Hid (Below wr.heap.size wr (wr.alloc (.cells #[.int .i64 L[k].k, .int .i64 L[k].v, .slice A1 L[k].a.length e1, .slice B1 L[k].b.length f1] 64))) := Lib.hid (below_alloc (Below.refl _ _) _)
  clear ha hc ra rb
  generalize L[k].k = xk at *
  generalize L[k].v = xv at *
  generalize L[k].a = xa at *
  generalize L[k].b = xb at *
  conv => arg 2; whnf
  have B3 := Lib.hid (below_step HB.out BA.out)
  have rz : (((r : Nat) : Int) == 0) = false := by simp [h0]
  have la := len_sz RA.out
  have lb := len_sz RB.out
  have lk := SZK.out
  have wsum : IntKind.i64.wrap ((xa.length : Int) + (xb.length : Int)) = (xa.length : Int) + (xb.length : Int) := IntWalk.i64_in _ (by omega)
  have ts : ¬ (60 : Int) < (xa.length : Int) + (xb.length : Int) := by omega
  have t6 : ¬ (60 : Int) < (nl : Int) := by omega
  have wr1 : IntKind.i64.wrap (((r : Nat) : Int) - 1) = ((r - 1 : Nat) : Int) := by rw [show ((r : Nat) : Int) - 1 = ((r - 1 : Nat) : Int) by omega]; exact IntWalk.i64_in _ (by omega)
  have CA := Lib.hid (IH.out (r - 1) (.slice A1 xa.length e1) xa _ (by omega) (nds_below RA.out BA.out) (by have := SZK.out; omega))
  have SM := Lib.hid hs
  have N6 := Lib.hid h6
  have R0 := Lib.hid h0
  clear hs h6 h0
  go_wp2_with fail
  refine CA.out.mono ?_
  rintro e w1 ⟨A9, n9, c9, rfl, sa, ba⟩
  have B4 := Lib.hid (below_step B3.out ba)
  have XB := Lib.hid (whole_below XA.out ba)
  have x3 := whole_cell XB.out 3
  simp at x3
  have BL := Lib.hid (below_step BA.out ba)
  have CB := Lib.hid (IH.out (r - 1) (.slice B1 xb.length f1) xb _ (by omega) (nds_below RB.out BL.out) (by have := SZK.out; omega))
  have SA := Lib.hid sa
  clear sa ba CA XA a0 a1 a2 a3
  go_wp2_with fail
  refine CB.out.mono ?_
  rintro e w2 ⟨A8, n8, c8, rfl, sb, bb⟩
  have B5 := Lib.hid (below_step B4.out bb)
  have XC := Lib.hid (whole_below XB.out bb)
  have R5 := Lib.hid (irow_below (irow_below HR.out BL.out) bb)
  have SB := Lib.hid sb
  have LQ := Lib.hid (below_step BL.out bb)
  have BB := Lib.hid bb
  clear sb bb CB x3 XB
  have z2 : wr.heap.size + 1 ≤ w2.heap.size := by have := whole_lt XC.out; omega
  have PARTS : Hid (fitT (d + 1) r L = true → fitT d (r - 1) xa = true ∧ fitT d (r - 1) xb = true) := Lib.hid fun p => by
    obtain ⟨p1, p2, p3, p4, p5⟩ := REF.out p
    have q1 := itN_parts (itT d) xk xv xa xb p2 (itT_nil d)
    unfold fitT
    rw [p3, p4]
    simp
    omega
  by_cases ga : fitT d (r - 1) xa = true
  · by_cases gb : fitT d (r - 1) xb = true
    · exact absurd ⟨ga, gb⟩ hpart
    · have g0 : fitT d (r - 1) xb = false := by simpa using gb
      have FN : Hid (fitT (d + 1) r L = true → False) := Lib.hid fun p => gb (PARTS.out p).2
      rw [g0, ga]
      clear gb g0 ga hpart
      go_wp2
      refine HT.out _ _ ?_
      unfold FlRet
      exact ⟨_, _, _, _, _, _, _, _, _, _, _, _, _, _, _, _, _, _, _, _, _, _, _, _, _, _, _, _, _, _, _, _, _, _, _, _, _, _, _, _, _, _, _, _, _, _, _, _, _, _, _, _, _, _, _, _, _, _, _, _, _, _, _, _, _, _, _, _, _, _, _, _, _, _, _, _, _, _, _, _, _, _, _, _, _, _, _, _, _, _, _, _, _, _, _, _, _, _, _, _, _, _, _, _, _, _, _, _, _, _, _, _, _, _, _, _, _, _, _, _, _, _, _, _, _, _, _, _, _, _, _, _, _, _, _, _, _, _, _, _, _, _, _, _, _, _, _, _, _, _, _, _, _, _, _, _, _, _, _, _, _, _, _, _, _, _, _, _, _, _, _, _, _, _, _, _, _, _, _, _, _, _, _, _, _, _, _, _, _, _, _, _, _, _, _, _, _, _, _, _, rfl, _, _, _, rfl, rfl, FN.out, B5.out⟩
  · have g0 : fitT d (r - 1) xa = false := by simpa using ga
    have FN : Hid (fitT (d + 1) r L = true → False) := Lib.hid fun p => ga (PARTS.out p).1
    rw [g0]
    clear ga g0 hpart
    go_wp2
    refine HT.out _ _ ?_
    unfold FlRet
    exact ⟨_, _, _, _, _, _, _, _, _, _, _, _, _, _, _, _, _, _, _, _, _, _, _, _, _, _, _, _, _, _, _, _, _, _, _, _, _, _, _, _, _, _, _, _, _, _, _, _, _, _, _, _, _, _, _, _, _, _, _, _, _, _, _, _, _, _, _, _, _, _, _, _, _, _, _, _, _, _, _, _, _, _, _, _, _, _, _, _, _, _, _, _, _, _, _, _, _, _, _, _, _, _, _, _, _, _, _, _, _, _, _, _, _, _, _, _, _, _, _, _, _, _, _, _, _, _, _, _, _, _, _, _, _, _, _, _, _, _, _, _, _, _, _, _, _, _, _, _, _, _, _, _, _, _, _, _, _, _, _, _, _, _, _, _, _, _, _, _, _, _, _, _, _, _, _, _, _, _, _, _, _, _, _, _, _, _, _, _, _, _, _, _, _, _, _, _, _, _, _, _, rfl, _, _, _, rfl, rfl, FN.out, B5.out⟩

set_option maxRecDepth 1000000 in
set_option maxHeartbeats 40000000 in
theorem flr_x (d r : Nat) (L : List Nd) (w wr : World) (A : Option Addr) (ca k n c : Nat) (C : Option Addr) (ih : FlatN d) (hr : r ≤ 9) (hsz : szT (d + 1) L ≤ 1048576) (hv : Nds (d + 1) w (.slice A L.length ca) L) (hk : k ≤ L.length) (hlt : k < L.length) (hl : L.length ≤ 2 ^ 63 - 1)
    (hrw : IRow wr w.heap.size (.slice C n c) (itT (d + 1) (L.take k))) (hok : okT (d + 1) r (L.take k) = true) (hb : Below w.heap.size w wr) (h0 : r ≠ 0) (hs : ¬ 60 < L[k].a.length + L[k].b.length) (h6 : ¬ 60 < n) (ga : fitT d (r - 1) L[k].a = true) (gb : fitT d (r - 1) L[k].b = true) (h1 : L[k].k ≠ 1) (h2 : L[k].k ≠ 2) (h13 : L[k].k ≠ 13) (h3 : L[k].k ≠ 3) (h7 : L[k].k ≠ 7) (h8 : L[k].k ≠ 8) (h11 : L[k].k ≠ 11) (h12 : L[k].k ≠ 12)
    (Q : Exit → Act → World → Prop) (hnext : ∀ a' w'', FlNext d r L w k A ca a' w'' → Q .normal a' w'') (hret : ∀ a' w'', FlRet d r L w A ca a' w'' → Q .ret a' w'')
    (u4 u5 u8 u9 u10 u11 u12 u14 u15 u16 u17 u18 u19 u20 u21 u22 u23 u24 u25 u26 u27 u28 u29 u30 u31 u32 u33 u34 u35 u36 u37 u38 u39 u40 u41 u42 u43 u44 u45 u46 u47 u48 u49 u50 u51 u52 u53 u54 u55 u56 u57 u58 u59 u60 u61 u62 u63 u64 u65 u66 u67 u68 u69 u70 u71 u72 u73 u74 u75 u76 u77 u78 u79 u80 u81 u82 u83 u84 u85 u86 u87 u88 u89 u90 u91 u92 u93 u94 u95 u96 u97 u98 u99 u100 u101 u102 u103 u104 u105 u106 u107 u108 u109 u110 u111 u112 u113 u114 u115 u116 u117 u118 u119 u120 u121 u122 u123 u124 u125 u126 u127 u128 u129 u130 u131 u132 u133 u134 u135 u136 u137 u138 u139 u140 u141 u142 u143 u144 u145 u146 u147 u148 u149 u150 u151 u152 u153 u154 u155 u156 u157 u158 u159 u160 u161 u162 u163 u164 u165 u166 u167 u168 u169 u170 u171 u172 u173 u174 u175 u176 u177 u178 u179 u180 u181 u182 u183 u184 u185 u186 u187 u188 u189 u190 u191 u192 u193 u194 u195 u196 u197 u198 u199 u200 u201 u202 u203 u204 : Value) : Code.wp Try.prog flBody Q ⟨#[.slice A L.length ca, .int .i64 ((r : Nat) : Int), undef, undef, u4, u5, .slice C n c, .int .i64 ((k : Nat) : Int), u8, u9, u10, u11, u12, .slice (some ⟨w.heap.size, 0, none⟩) 0 0, u14, u15, u16, u17, u18, u19, u20, u21, u22, u23, u24, u25, u26, u27, u28, u29, u30, u31, u32, u33, u34, u35, u36, u37, u38, u39, u40, u41, u42, u43, u44, u45, u46, u47, u48, u49, u50, u51, u52, u53, u54, u55, u56, u57, u58, u59, u60, u61, u62, u63, u64, u65, u66, u67, u68, u69, u70, u71, u72, u73, u74, u75, u76, u77, u78, u79, u80, u81, u82, u83, u84, u85, u86, u87, u88, u89, u90, u91, u92, u93, u94, u95, u96, u97, u98, u99, u100, u101, u102, u103, u104, u105, u106, u107, u108, u109, u110, u111, u112, u113, u114, u115, u116, u117, u118, u119, u120, u121, u122, u123, u124, u125, u126, u127, u128, u129, u130, u131, u132, u133, u134, u135, u136, u137, u138, u139, u140, u141, u142, u143, u144, u145, u146, u147, u148, u149, u150, u151, u152, u153, u154, u155, u156, u157, u158, u159, u160, u161, u162, u163, u164, u165, u166, u167, u168, u169, u170, u171, u172, u173, u174, u175, u176, u177, u178, u179, u180, u181, u182, u183, u184, u185, u186, u187, u188, u189, u190, u191, u192, u193, u194, u195, u196, u197, u198, u199, u200, u201, u202, u203, u204, undef, undef, undef, undef], []⟩ wr := by
  have HV := Lib.hid hv
  have HSZ := Lib.hid hsz
  have IH := Lib.hid ih
  have HN := Lib.hid hnext
  have HT := Lib.hid hret
  clear hnext hret ih hsz hv
  have Xga := Lib.hid ga
  have Xgb := Lib.hid gb
  have Xh1 := Lib.hid h1
  have Xh2 := Lib.hid h2
  have Xh13 := Lib.hid h13
  have Xh3 := Lib.hid h3
  have Xh7 := Lib.hid h7
  have Xh8 := Lib.hid h8
  have Xh11 := Lib.hid h11
  have Xh12 := Lib.hid h12
  clear ga gb h1 h2 h13 h3 h7 h8 h11 h12
  have zr := hb.size
  obtain ⟨_, C', c', e, _⟩ := irow_its hrw
  simp only [Value.slice.injEq] at e
  obtain ⟨rfl, rfl, rfl⟩ := e
  obtain ⟨nl, hnl⟩ : ∃ nl, (itT (d + 1) (L.take k)).length = nl := ⟨_, rfl⟩
  rw [hnl] at hrw h6
  rw [hnl]
  have HB := Lib.hid hb
  have HR := Lib.hid hrw
  have HOK := Lib.hid hok
  have NL := Lib.hid hnl
  clear hb hrw hok hnl
  obtain ⟨_, A', ca', e', hc⟩ := nds_below HV.out HB.out
  simp only [Value.slice.injEq, true_and] at e'
  obtain ⟨rfl, rfl⟩ := e'
  obtain ⟨ga, hA, ha⟩ := hc (by omega)
  subst hA
  obtain ⟨a0, a1, A1, n1, e1, B1, m1, f1, a2, a3, ra, rb⟩ := ha k hlt
  have SZK : Hid (szT d L[k].a + szT d L[k].b ≤ 1048576) := Lib.hid (Nat.le_trans (szT_at d L hlt) HSZ.out)
  have REF : Hid (fitT (d + 1) r L = true → 0 < r ∧ nodV L[k].k L[k].v L[k].a.length L[k].b.length = true ∧ okT d (r - 1) L[k].a = true ∧ okT d (r - 1) L[k].b = true ∧ nl + (itN (itT d) (.mk L[k].k L[k].v L[k].a L[k].b)).length ≤ 60) := Lib.hid (fun h => by
    unfold fitT at h
    simp at h
    obtain ⟨q1, q2, q3, q4⟩ := okT_at d r L hlt h.1
    have q5 := itT_le d L hlt
    rw [NL.out] at q5
    exact ⟨q1, q2, q3, q4, by have : itN (itT d) (.mk L[k].k L[k].v L[k].a L[k].b) = itN (itT d) L[k] := rfl; rw [this]; omega⟩)
  have TK : Hid (itT (d + 1) (L.take (k + 1)) = itT (d + 1) (L.take k) ++ itN (itT d) (.mk L[k].k L[k].v L[k].a L[k].b)) := Lib.hid (itT_take d L hlt)
  have OT : Hid (okT (d + 1) r (L.take (k + 1)) = (okT (d + 1) r (L.take k) && (decide (0 < r) && nodV L[k].k L[k].v L[k].a.length L[k].b.length && okT d (r - 1) L[k].a && okT d (r - 1) L[k].b))) := Lib.hid (okT_take d r L hlt)
  obtain ⟨_, A2, e2, q⟩ := nds_form ra
  simp only [Value.slice.injEq] at q
  obtain ⟨rfl, rfl, rfl⟩ := q
  obtain ⟨_, B2, f2, q⟩ := nds_form rb
  simp only [Value.slice.injEq] at q
  obtain ⟨rfl, rfl, rfl⟩ := q
  have RA := Lib.hid ra
  have RB := Lib.hid rb
  have XA := Lib.hid (whole_new wr 64 #[.int .i64 L[k].k, .int .i64 L[k].v, .slice A1 L[k].a.length e1, .slice B1 L[k].b.length f1])
  have BA : Hid (Below wr.heap.size wr (wr.alloc (.cells #[.int .i64 L[k].k, .int .i64 L[k].v, .slice A1 L[k].a.length e1, .slice B1 L[k].b.length f1] 64))) := Lib.hid (below_alloc (Below.refl _ _) _)
  clear ha hc ra rb
  generalize L[k].k = xk at *
  generalize L[k].v = xv at *
  generalize L[k].a = xa at *
  generalize L[k].b = xb at *
  conv => arg 2; whnf
  have B3 := Lib.hid (below_step HB.out BA.out)
  have rz : (((r : Nat) : Int) == 0) = false := by simp [h0]
  have la := len_sz RA.out
  have lb := len_sz RB.out
  have lk := SZK.out
  have wsum : IntKind.i64.wrap ((xa.length : Int) + (xb.length : Int)) = (xa.length : Int) + (xb.length : Int) := IntWalk.i64_in _ (by omega)
  have ts : ¬ (60 : Int) < (xa.length : Int) + (xb.length : Int) := by omega
  have t6 : ¬ (60 : Int) < (nl : Int) := by omega
  have wr1 : IntKind.i64.wrap (((r : Nat) : Int) - 1) = ((r - 1 : Nat) : Int) := by rw [show ((r : Nat) : Int) - 1 = ((r - 1 : Nat) : Int) by omega]; exact IntWalk.i64_in _ (by omega)
  have CA := Lib.hid (IH.out (r - 1) (.slice A1 xa.length e1) xa _ (by omega) (nds_below RA.out BA.out) (by have := SZK.out; omega))
  have SM := Lib.hid hs
  have N6 := Lib.hid h6
  have R0 := Lib.hid h0
  clear hs h6 h0
  go_wp2_with fail
  refine CA.out.mono ?_
  rintro e w1 ⟨A9, n9, c9, rfl, sa, ba⟩
  have B4 := Lib.hid (below_step B3.out ba)
  have XB := Lib.hid (whole_below XA.out ba)
  have x3 := whole_cell XB.out 3
  simp at x3
  have BL := Lib.hid (below_step BA.out ba)
  have CB := Lib.hid (IH.out (r - 1) (.slice B1 xb.length f1) xb _ (by omega) (nds_below RB.out BL.out) (by have := SZK.out; omega))
  have SA := Lib.hid sa
  clear sa ba CA XA a0 a1 a2 a3
  go_wp2_with fail
  refine CB.out.mono ?_
  rintro e w2 ⟨A8, n8, c8, rfl, sb, bb⟩
  have B5 := Lib.hid (below_step B4.out bb)
  have XC := Lib.hid (whole_below XB.out bb)
  have R5 := Lib.hid (irow_below (irow_below HR.out BL.out) bb)
  have SB := Lib.hid sb
  have LQ := Lib.hid (below_step BL.out bb)
  have BB := Lib.hid bb
  clear sb bb CB x3 XB
  have z2 : wr.heap.size + 1 ≤ w2.heap.size := by have := whole_lt XC.out; omega
  have PARTS : Hid (fitT (d + 1) r L = true → fitT d (r - 1) xa = true ∧ fitT d (r - 1) xb = true) := Lib.hid fun p => by
    obtain ⟨p1, p2, p3, p4, p5⟩ := REF.out p
    have q1 := itN_parts (itT d) xk xv xa xb p2 (itT_nil d)
    unfold fitT
    rw [p3, p4]
    simp
    omega
  have ga := Xga.out
  have gb := Xgb.out
  have h1 := Xh1.out
  have h2 := Xh2.out
  have h13 := Xh13.out
  have h3 := Xh3.out
  have h7 := Xh7.out
  have h8 := Xh8.out
  have h11 := Xh11.out
  have h12 := Xh12.out
  clear Xga Xgb Xh1 Xh2 Xh13 Xh3 Xh7 Xh8 Xh11 Xh12
  have RWA := Lib.hid (irow_below (SA.out ga) BB.out)
  have RWB := Lib.hid (SB.out gb)
  have OA : Hid (okT d (r - 1) xa = true ∧ (itT d xa).length ≤ 60) := Lib.hid (by unfold fitT at ga; simpa using ga)
  have OB : Hid (okT d (r - 1) xb = true ∧ (itT d xb).length ≤ 60) := Lib.hid (by unfold fitT at gb; simpa using gb)
  have LA := Lib.hid (len_part0 RA.out)
  have LB := Lib.hid (len_part0 RB.out)
  rw [ga, gb]
  obtain ⟨_, A7, c7, e7, _⟩ := irow_its RWA.out
  simp only [Value.slice.injEq] at e7
  obtain ⟨rfl, rfl, rfl⟩ := e7
  obtain ⟨_, A6, c6, e6, _⟩ := irow_its RWB.out
  simp only [Value.slice.injEq] at e6
  obtain ⟨rfl, rfl, rfl⟩ := e6
  obtain ⟨na, hna⟩ : ∃ na, (itT d xa).length = na := ⟨_, rfl⟩
  obtain ⟨nb, hnb⟩ : ∃ nb, (itT d xb).length = nb := ⟨_, rfl⟩
  rw [hna] at RWA OA LA
  rw [hnb] at RWB OB LB
  rw [hna, hnb]
  have NA := Lib.hid hna
  have NB := Lib.hid hnb
  have la60 := OA.out.2
  have lb60 := OB.out.2
  have x0 := whole_cell XC.out 0
  have x1 := whole_cell XC.out 1
  simp at x0 x1
  have wab : IntKind.i64.wrap ((na : Int) + (nb : Int)) = (na : Int) + (nb : Int) := IntWalk.i64_in _ (by omega)
  have REN : Hid (nodV xk xv xa.length xb.length = false → fitT (d + 1) r L = true → False) := Lib.hid fun h p => by have := (REF.out p).2.1; rw [h] at this; cases this
  have NXT : Hid (nodV xk xv xa.length xb.length = true → okT (d + 1) r (L.take (k + 1)) = true) := Lib.hid fun h => by rw [OT.out, HOK.out, h, OA.out.1, OB.out.1]; simp; have := R0.out; omega
  clear hna hnb
  obtain ⟨Q0, hQ0⟩ : ∃ Q0, itT (d + 1) (L.take k) = Q0 := ⟨_, rfl⟩
  rw [hQ0] at R5 NL TK
  have l0 : Q0.length ≤ 60 := by rw [NL.out]; have := N6.out; omega
  obtain ⟨QA, hQA⟩ : ∃ QA, itT d xa = QA := ⟨_, rfl⟩
  have EQA := Lib.hid hQA
  rw [hQA] at RWA NA
  have la : QA.length ≤ 60 := by rw [NA.out]; exact la60
  obtain ⟨QB, hQB⟩ : ∃ QB, itT d xb = QB := ⟨_, rfl⟩
  have EQB := Lib.hid hQB
  rw [hQB] at RWB NB
  have lb : QB.length ≤ 60 := by rw [NB.out]; exact lb60
  have zw := B5.out.size
  have IA : xa = [] ↔ na = 0 := by rw [LA.out, List.length_eq_zero_iff]
  have IB : xb = [] ↔ nb = 0 := by rw [LB.out, List.length_eq_zero_iff]
  clear hQ0 hQA hQB
  have q1 : (xk == 1) = false := by simp [h1]
  have q2 : (xk == 2) = false := by simp [h2]
  have q13 : (xk == 13) = false := by simp [h13]
  have q3 : (xk == 3) = false := by simp [h3]
  have q7 : (xk == 7) = false := by simp [h7]
  have q8 : (xk == 8) = false := by simp [h8]
  have q11 : (xk == 11) = false := by simp [h11]
  have q12 : (xk == 12) = false := by simp [h12]
  have FN : Hid (fitT (d + 1) r L = true → False) := Lib.hid (REN.out (by unfold nodV; rw [if_neg (by simp [wrdV, h1, h2, h13]), if_neg h3, if_neg h8, if_neg (by omega)]))
  clear h1 h2 h13 h3 h7 h8 h11 h12 IA IB
  go_wp2
  refine HT.out _ _ ?_
  unfold FlRet
  exact ⟨_, _, _, _, _, _, _, _, _, _, _, _, _, _, _, _, _, _, _, _, _, _, _, _, _, _, _, _, _, _, _, _, _, _, _, _, _, _, _, _, _, _, _, _, _, _, _, _, _, _, _, _, _, _, _, _, _, _, _, _, _, _, _, _, _, _, _, _, _, _, _, _, _, _, _, _, _, _, _, _, _, _, _, _, _, _, _, _, _, _, _, _, _, _, _, _, _, _, _, _, _, _, _, _, _, _, _, _, _, _, _, _, _, _, _, _, _, _, _, _, _, _, _, _, _, _, _, _, _, _, _, _, _, _, _, _, _, _, _, _, _, _, _, _, _, _, _, _, _, _, _, _, _, _, _, _, _, _, _, _, _, _, _, _, _, _, _, _, _, _, _, _, _, _, _, _, _, _, _, _, _, _, _, _, _, _, _, _, _, _, _, _, _, _, _, _, _, _, _, _, rfl, _, _, _, rfl, rfl, FN.out, B5.out⟩

set_option maxRecDepth 1000000 in
set_option maxHeartbeats 40000000 in
theorem flr_k8 (d r : Nat) (L : List Nd) (w wr : World) (A : Option Addr) (ca k n c : Nat) (C : Option Addr) (ih : FlatN d) (hr : r ≤ 9) (hsz : szT (d + 1) L ≤ 1048576) (hv : Nds (d + 1) w (.slice A L.length ca) L) (hk : k ≤ L.length) (hlt : k < L.length) (hl : L.length ≤ 2 ^ 63 - 1)
    (hrw : IRow wr w.heap.size (.slice C n c) (itT (d + 1) (L.take k))) (hok : okT (d + 1) r (L.take k) = true) (hb : Below w.heap.size w wr) (h0 : r ≠ 0) (hs : ¬ 60 < L[k].a.length + L[k].b.length) (h6 : ¬ 60 < n) (ga : fitT d (r - 1) L[k].a = true) (gb : fitT d (r - 1) L[k].b = true) (hkd : L[k].k = 8)
    (Q : Exit → Act → World → Prop) (hnext : ∀ a' w'', FlNext d r L w k A ca a' w'' → Q .normal a' w'') (hret : ∀ a' w'', FlRet d r L w A ca a' w'' → Q .ret a' w'')
    (u4 u5 u8 u9 u10 u11 u12 u14 u15 u16 u17 u18 u19 u20 u21 u22 u23 u24 u25 u26 u27 u28 u29 u30 u31 u32 u33 u34 u35 u36 u37 u38 u39 u40 u41 u42 u43 u44 u45 u46 u47 u48 u49 u50 u51 u52 u53 u54 u55 u56 u57 u58 u59 u60 u61 u62 u63 u64 u65 u66 u67 u68 u69 u70 u71 u72 u73 u74 u75 u76 u77 u78 u79 u80 u81 u82 u83 u84 u85 u86 u87 u88 u89 u90 u91 u92 u93 u94 u95 u96 u97 u98 u99 u100 u101 u102 u103 u104 u105 u106 u107 u108 u109 u110 u111 u112 u113 u114 u115 u116 u117 u118 u119 u120 u121 u122 u123 u124 u125 u126 u127 u128 u129 u130 u131 u132 u133 u134 u135 u136 u137 u138 u139 u140 u141 u142 u143 u144 u145 u146 u147 u148 u149 u150 u151 u152 u153 u154 u155 u156 u157 u158 u159 u160 u161 u162 u163 u164 u165 u166 u167 u168 u169 u170 u171 u172 u173 u174 u175 u176 u177 u178 u179 u180 u181 u182 u183 u184 u185 u186 u187 u188 u189 u190 u191 u192 u193 u194 u195 u196 u197 u198 u199 u200 u201 u202 u203 u204 : Value) : Code.wp Try.prog flBody Q ⟨#[.slice A L.length ca, .int .i64 ((r : Nat) : Int), undef, undef, u4, u5, .slice C n c, .int .i64 ((k : Nat) : Int), u8, u9, u10, u11, u12, .slice (some ⟨w.heap.size, 0, none⟩) 0 0, u14, u15, u16, u17, u18, u19, u20, u21, u22, u23, u24, u25, u26, u27, u28, u29, u30, u31, u32, u33, u34, u35, u36, u37, u38, u39, u40, u41, u42, u43, u44, u45, u46, u47, u48, u49, u50, u51, u52, u53, u54, u55, u56, u57, u58, u59, u60, u61, u62, u63, u64, u65, u66, u67, u68, u69, u70, u71, u72, u73, u74, u75, u76, u77, u78, u79, u80, u81, u82, u83, u84, u85, u86, u87, u88, u89, u90, u91, u92, u93, u94, u95, u96, u97, u98, u99, u100, u101, u102, u103, u104, u105, u106, u107, u108, u109, u110, u111, u112, u113, u114, u115, u116, u117, u118, u119, u120, u121, u122, u123, u124, u125, u126, u127, u128, u129, u130, u131, u132, u133, u134, u135, u136, u137, u138, u139, u140, u141, u142, u143, u144, u145, u146, u147, u148, u149, u150, u151, u152, u153, u154, u155, u156, u157, u158, u159, u160, u161, u162, u163, u164, u165, u166, u167, u168, u169, u170, u171, u172, u173, u174, u175, u176, u177, u178, u179, u180, u181, u182, u183, u184, u185, u186, u187, u188, u189, u190, u191, u192, u193, u194, u195, u196, u197, u198, u199, u200, u201, u202, u203, u204, undef, undef, undef, undef], []⟩ wr := by
  have HV := Lib.hid hv
  have HSZ := Lib.hid hsz
  have IH := Lib.hid ih
  have HN := Lib.hid hnext
  have HT := Lib.hid hret
  clear hnext hret ih hsz hv
  have Xga := Lib.hid ga
  have Xgb := Lib.hid gb
  have Xhkd := Lib.hid hkd
  clear ga gb hkd
  have zr := hb.size
  obtain ⟨_, C', c', e, _⟩ := irow_its hrw
  simp only [Value.slice.injEq] at e
  obtain ⟨rfl, rfl, rfl⟩ := e
  obtain ⟨nl, hnl⟩ : ∃ nl, (itT (d + 1) (L.take k)).length = nl := ⟨_, rfl⟩
  rw [hnl] at hrw h6
  rw [hnl]
  have HB := Lib.hid hb
  have HR := Lib.hid hrw
  have HOK := Lib.hid hok
  have NL := Lib.hid hnl
  clear hb hrw hok hnl
  obtain ⟨_, A', ca', e', hc⟩ := nds_below HV.out HB.out
  simp only [Value.slice.injEq, true_and] at e'
  obtain ⟨rfl, rfl⟩ := e'
  obtain ⟨ga, hA, ha⟩ := hc (by omega)
  subst hA
  obtain ⟨a0, a1, A1, n1, e1, B1, m1, f1, a2, a3, ra, rb⟩ := ha k hlt
  have SZK : Hid (szT d L[k].a + szT d L[k].b ≤ 1048576) := Lib.hid (Nat.le_trans (szT_at d L hlt) HSZ.out)
  have REF : Hid (fitT (d + 1) r L = true → 0 < r ∧ nodV L[k].k L[k].v L[k].a.length L[k].b.length = true ∧ okT d (r - 1) L[k].a = true ∧ okT d (r - 1) L[k].b = true ∧ nl + (itN (itT d) (.mk L[k].k L[k].v L[k].a L[k].b)).length ≤ 60) := Lib.hid (fun h => by
    unfold fitT at h
    simp at h
    obtain ⟨q1, q2, q3, q4⟩ := okT_at d r L hlt h.1
    have q5 := itT_le d L hlt
    rw [NL.out] at q5
    exact ⟨q1, q2, q3, q4, by have : itN (itT d) (.mk L[k].k L[k].v L[k].a L[k].b) = itN (itT d) L[k] := rfl; rw [this]; omega⟩)
  have TK : Hid (itT (d + 1) (L.take (k + 1)) = itT (d + 1) (L.take k) ++ itN (itT d) (.mk L[k].k L[k].v L[k].a L[k].b)) := Lib.hid (itT_take d L hlt)
  have OT : Hid (okT (d + 1) r (L.take (k + 1)) = (okT (d + 1) r (L.take k) && (decide (0 < r) && nodV L[k].k L[k].v L[k].a.length L[k].b.length && okT d (r - 1) L[k].a && okT d (r - 1) L[k].b))) := Lib.hid (okT_take d r L hlt)
  obtain ⟨_, A2, e2, q⟩ := nds_form ra
  simp only [Value.slice.injEq] at q
  obtain ⟨rfl, rfl, rfl⟩ := q
  obtain ⟨_, B2, f2, q⟩ := nds_form rb
  simp only [Value.slice.injEq] at q
  obtain ⟨rfl, rfl, rfl⟩ := q
  have RA := Lib.hid ra
  have RB := Lib.hid rb
  have XA := Lib.hid (whole_new wr 64 #[.int .i64 L[k].k, .int .i64 L[k].v, .slice A1 L[k].a.length e1, .slice B1 L[k].b.length f1])
  have BA : Hid (Below wr.heap.size wr (wr.alloc (.cells #[.int .i64 L[k].k, .int .i64 L[k].v, .slice A1 L[k].a.length e1, .slice B1 L[k].b.length f1] 64))) := Lib.hid (below_alloc (Below.refl _ _) _)
  clear ha hc ra rb
  generalize L[k].k = xk at *
  generalize L[k].v = xv at *
  generalize L[k].a = xa at *
  generalize L[k].b = xb at *
  conv => arg 2; whnf
  have B3 := Lib.hid (below_step HB.out BA.out)
  have rz : (((r : Nat) : Int) == 0) = false := by simp [h0]
  have la := len_sz RA.out
  have lb := len_sz RB.out
  have lk := SZK.out
  have wsum : IntKind.i64.wrap ((xa.length : Int) + (xb.length : Int)) = (xa.length : Int) + (xb.length : Int) := IntWalk.i64_in _ (by omega)
  have ts : ¬ (60 : Int) < (xa.length : Int) + (xb.length : Int) := by omega
  have t6 : ¬ (60 : Int) < (nl : Int) := by omega
  have wr1 : IntKind.i64.wrap (((r : Nat) : Int) - 1) = ((r - 1 : Nat) : Int) := by rw [show ((r : Nat) : Int) - 1 = ((r - 1 : Nat) : Int) by omega]; exact IntWalk.i64_in _ (by omega)
  have CA := Lib.hid (IH.out (r - 1) (.slice A1 xa.length e1) xa _ (by omega) (nds_below RA.out BA.out) (by have := SZK.out; omega))
  have SM := Lib.hid hs
  have N6 := Lib.hid h6
  have R0 := Lib.hid h0
  clear hs h6 h0
  go_wp2_with fail
  refine CA.out.mono ?_
  rintro e w1 ⟨A9, n9, c9, rfl, sa, ba⟩
  have B4 := Lib.hid (below_step B3.out ba)
  have XB := Lib.hid (whole_below XA.out ba)
  have x3 := whole_cell XB.out 3
  simp at x3
  have BL := Lib.hid (below_step BA.out ba)
  have CB := Lib.hid (IH.out (r - 1) (.slice B1 xb.length f1) xb _ (by omega) (nds_below RB.out BL.out) (by have := SZK.out; omega))
  have SA := Lib.hid sa
  clear sa ba CA XA a0 a1 a2 a3
  go_wp2_with fail
  refine CB.out.mono ?_
  rintro e w2 ⟨A8, n8, c8, rfl, sb, bb⟩
  have B5 := Lib.hid (below_step B4.out bb)
  have XC := Lib.hid (whole_below XB.out bb)
  have R5 := Lib.hid (irow_below (irow_below HR.out BL.out) bb)
  have SB := Lib.hid sb
  have LQ := Lib.hid (below_step BL.out bb)
  have BB := Lib.hid bb
  clear sb bb CB x3 XB
  have z2 : wr.heap.size + 1 ≤ w2.heap.size := by have := whole_lt XC.out; omega
  have PARTS : Hid (fitT (d + 1) r L = true → fitT d (r - 1) xa = true ∧ fitT d (r - 1) xb = true) := Lib.hid fun p => by
    obtain ⟨p1, p2, p3, p4, p5⟩ := REF.out p
    have q1 := itN_parts (itT d) xk xv xa xb p2 (itT_nil d)
    unfold fitT
    rw [p3, p4]
    simp
    omega
  have ga := Xga.out
  have gb := Xgb.out
  have hkd := Xhkd.out
  clear Xga Xgb Xhkd
  have RWA := Lib.hid (irow_below (SA.out ga) BB.out)
  have RWB := Lib.hid (SB.out gb)
  have OA : Hid (okT d (r - 1) xa = true ∧ (itT d xa).length ≤ 60) := Lib.hid (by unfold fitT at ga; simpa using ga)
  have OB : Hid (okT d (r - 1) xb = true ∧ (itT d xb).length ≤ 60) := Lib.hid (by unfold fitT at gb; simpa using gb)
  have LA := Lib.hid (len_part0 RA.out)
  have LB := Lib.hid (len_part0 RB.out)
  rw [ga, gb]
  obtain ⟨_, A7, c7, e7, _⟩ := irow_its RWA.out
  simp only [Value.slice.injEq] at e7
  obtain ⟨rfl, rfl, rfl⟩ := e7
  obtain ⟨_, A6, c6, e6, _⟩ := irow_its RWB.out
  simp only [Value.slice.injEq] at e6
  obtain ⟨rfl, rfl, rfl⟩ := e6
  obtain ⟨na, hna⟩ : ∃ na, (itT d xa).length = na := ⟨_, rfl⟩
  obtain ⟨nb, hnb⟩ : ∃ nb, (itT d xb).length = nb := ⟨_, rfl⟩
  rw [hna] at RWA OA LA
  rw [hnb] at RWB OB LB
  rw [hna, hnb]
  have NA := Lib.hid hna
  have NB := Lib.hid hnb
  have la60 := OA.out.2
  have lb60 := OB.out.2
  have x0 := whole_cell XC.out 0
  have x1 := whole_cell XC.out 1
  simp at x0 x1
  have wab : IntKind.i64.wrap ((na : Int) + (nb : Int)) = (na : Int) + (nb : Int) := IntWalk.i64_in _ (by omega)
  have REN : Hid (nodV xk xv xa.length xb.length = false → fitT (d + 1) r L = true → False) := Lib.hid fun h p => by have := (REF.out p).2.1; rw [h] at this; cases this
  have NXT : Hid (nodV xk xv xa.length xb.length = true → okT (d + 1) r (L.take (k + 1)) = true) := Lib.hid fun h => by rw [OT.out, HOK.out, h, OA.out.1, OB.out.1]; simp; have := R0.out; omega
  clear hna hnb
  obtain ⟨Q0, hQ0⟩ : ∃ Q0, itT (d + 1) (L.take k) = Q0 := ⟨_, rfl⟩
  rw [hQ0] at R5 NL TK
  have l0 : Q0.length ≤ 60 := by rw [NL.out]; have := N6.out; omega
  obtain ⟨QA, hQA⟩ : ∃ QA, itT d xa = QA := ⟨_, rfl⟩
  have EQA := Lib.hid hQA
  rw [hQA] at RWA NA
  have la : QA.length ≤ 60 := by rw [NA.out]; exact la60
  obtain ⟨QB, hQB⟩ : ∃ QB, itT d xb = QB := ⟨_, rfl⟩
  have EQB := Lib.hid hQB
  rw [hQB] at RWB NB
  have lb : QB.length ≤ 60 := by rw [NB.out]; exact lb60
  have zw := B5.out.size
  have IA : xa = [] ↔ na = 0 := by rw [LA.out, List.length_eq_zero_iff]
  have IB : xb = [] ↔ nb = 0 := by rw [LB.out, List.length_eq_zero_iff]
  clear hQ0 hQA hQB
  subst hkd
  by_cases v0 : xv = 0
  · subst v0
    have NV : Hid (nodV 8 0 xa.length xb.length = true) := Lib.hid (by unfold nodV; rw [if_neg (by simp [wrdV]), if_neg (by omega), if_pos rfl]; simp)
    clear IA IB
    go_wp2_with fail
    refine (item1_any 6 _).mono ?_
    rintro e w3 ⟨v_0, rfl, hr, hbb⟩
    obtain ⟨A_0, n_0, c_0, rfl⟩ := irow_form hr
    have BN3 := Lib.hid (below_step B5.out hbb)
    have R5_3 := Lib.hid (irow_below R5.out hbb)
    have RWA_3 := Lib.hid (irow_below RWA.out hbb)
    have RWB_3 := Lib.hid (irow_below RWB.out hbb)
    have K0_3 := Lib.hid hr
    clear hr hbb
    go_wp2_with fail
    refine (item1_any 8 _).mono ?_
    rintro e w4 ⟨v_1, rfl, hr, hbb⟩
    obtain ⟨A_1, n_1, c_1, rfl⟩ := irow_form hr
    have BN4 := Lib.hid (below_step BN3.out hbb)
    have R5_4 := Lib.hid (irow_below R5_3.out hbb)
    have RWA_4 := Lib.hid (irow_below RWA_3.out hbb)
    have RWB_4 := Lib.hid (irow_below RWB_3.out hbb)
    have K0_4 := Lib.hid (irow_below K0_3.out hbb)
    have K1_4 := Lib.hid hr
    clear hr hbb
    go_wp2_with fail
    refine (item1_any 9 _).mono ?_
    rintro e w5 ⟨v_2, rfl, hr, hbb⟩
    obtain ⟨A_2, n_2, c_2, rfl⟩ := irow_form hr
    have BN5 := Lib.hid (below_step BN4.out hbb)
    have R5_5 := Lib.hid (irow_below R5_4.out hbb)
    have RWA_5 := Lib.hid (irow_below RWA_4.out hbb)
    have RWB_5 := Lib.hid (irow_below RWB_4.out hbb)
    have K0_5 := Lib.hid (irow_below K0_4.out hbb)
    have K1_5 := Lib.hid (irow_below K1_4.out hbb)
    have K2_5 := Lib.hid hr
    clear hr hbb
    have zz := BN5.out.size
    go_wp2_with fail
    refine (cat_any _ 6 [Q0, [⟨6, 0⟩], QA, [⟨8, 0⟩], QB, [⟨9, 0⟩]] _ (cats6 _ _ rfl (irow_its R5_5.out) (irow_its K0_5.out) (irow_its RWA_5.out) (irow_its K1_5.out) (irow_its RWB_5.out) (irow_its K2_5.out)) (by simp) rfl (by omega) (by simp; omega)).mono ?_
    rintro e w9 ⟨v9, rfl, hr9, hbb⟩
    obtain ⟨A9, n9, c9, rfl⟩ := irow_form hr9
    have R9 := Lib.hid (irow_base hr9 (show w.heap.size ≤ _ by simp; omega))
    have BN := Lib.hid (below_step (below_alloc BN5.out _) hbb)
    clear hr9 hbb
    have IE : itN (itT d) (.mk 8 0 xa xb) = [⟨6, 0⟩] ++ QA ++ ([⟨8, 0⟩] ++ QB) ++ [⟨9, 0⟩] := by simp [itN, wrdB, opnK, midK, endK, Nd.k, Nd.v, Nd.a, Nd.b, EQA.out, EQB.out]
    have HF : Hid (IRow w9 w.heap.size (.slice A9 n9 c9) (itT (d + 1) (L.take (k + 1)))) := Lib.hid (by rw [TK.out, IE]; simpa [List.append_assoc] using R9.out)
    have OKN := Lib.hid (NXT.out (by exact NV.out))
    clear IE
    go_wp2
    refine HN.out _ _ ?_
    unfold FlNext
    exact ⟨_, _, _, _, _, _, _, _, _, _, _, _, _, _, _, _, _, _, _, _, _, _, _, _, _, _, _, _, _, _, _, _, _, _, _, _, _, _, _, _, _, _, _, _, _, _, _, _, _, _, _, _, _, _, _, _, _, _, _, _, _, _, _, _, _, _, _, _, _, _, _, _, _, _, _, _, _, _, _, _, _, _, _, _, _, _, _, _, _, _, _, _, _, _, _, _, _, _, _, _, _, _, _, _, _, _, _, _, _, _, _, _, _, _, _, _, _, _, _, _, _, _, _, _, _, _, _, _, _, _, _, _, _, _, _, _, _, _, _, _, _, _, _, _, _, _, _, _, _, _, _, _, _, _, _, _, _, _, _, _, _, _, _, _, _, _, _, _, _, _, _, _, _, _, _, _, _, _, _, _, _, _, _, _, _, _, _, _, _, _, _, _, _, _, _, _, _, _, _, _, rfl, _, _, _, rfl, by go_num, HF.out, OKN.out, BN.out⟩
  have t0 : (xv == 0) = false := by simp [v0]
  have FN : Hid (fitT (d + 1) r L = true → False) := Lib.hid (REN.out (by unfold nodV; rw [if_neg (by simp [wrdV]), if_neg (by omega), if_pos rfl]; simp [v0]))
  clear v0 IA IB
  go_wp2
  refine HT.out _ _ ?_
  unfold FlRet
  exact ⟨_, _, _, _, _, _, _, _, _, _, _, _, _, _, _, _, _, _, _, _, _, _, _, _, _, _, _, _, _, _, _, _, _, _, _, _, _, _, _, _, _, _, _, _, _, _, _, _, _, _, _, _, _, _, _, _, _, _, _, _, _, _, _, _, _, _, _, _, _, _, _, _, _, _, _, _, _, _, _, _, _, _, _, _, _, _, _, _, _, _, _, _, _, _, _, _, _, _, _, _, _, _, _, _, _, _, _, _, _, _, _, _, _, _, _, _, _, _, _, _, _, _, _, _, _, _, _, _, _, _, _, _, _, _, _, _, _, _, _, _, _, _, _, _, _, _, _, _, _, _, _, _, _, _, _, _, _, _, _, _, _, _, _, _, _, _, _, _, _, _, _, _, _, _, _, _, _, _, _, _, _, _, _, _, _, _, _, _, _, _, _, _, _, _, _, _, _, _, _, _, rfl, _, _, _, rfl, rfl, FN.out, B5.out⟩

end Go.Proofs.Ytafhmajnkicifaa

namespace Go.Proofs.Ytafhmajnkicifaa
open Go.RowKit
set_option linter.unusedVariables false
set_option linter.unusedSimpArgs false

set_option maxRecDepth 1000000 in
set_option maxHeartbeats 40000000 in
theorem flr_k1 (d r : Nat) (L : List Nd) (w wr : World) (A : Option Addr) (ca k n c : Nat) (C : Option Addr) (ih : FlatN d) (hr : r ≤ 9) (hsz : szT (d + 1) L ≤ 1048576) (hv : Nds (d + 1) w (.slice A L.length ca) L) (hk : k ≤ L.length) (hlt : k < L.length) (hl : L.length ≤ 2 ^ 63 - 1)
    (hrw : IRow wr w.heap.size (.slice C n c) (itT (d + 1) (L.take k))) (hok : okT (d + 1) r (L.take k) = true) (hb : Below w.heap.size w wr) (h0 : r ≠ 0) (hs : ¬ 60 < L[k].a.length + L[k].b.length) (h6 : ¬ 60 < n) (ga : fitT d (r - 1) L[k].a = true) (gb : fitT d (r - 1) L[k].b = true) (hkd : L[k].k = 1)
    (Q : Exit → Act → World → Prop) (hnext : ∀ a' w'', FlNext d r L w k A ca a' w'' → Q .normal a' w'') (hret : ∀ a' w'', FlRet d r L w A ca a' w'' → Q .ret a' w'')
    (u4 u5 u8 u9 u10 u11 u12 u14 u15 u16 u17 u18 u19 u20 u21 u22 u23 u24 u25 u26 u27 u28 u29 u30 u31 u32 u33 u34 u35 u36 u37 u38 u39 u40 u41 u42 u43 u44 u45 u46 u47 u48 u49 u50 u51 u52 u53 u54 u55 u56 u57 u58 u59 u60 u61 u62 u63 u64 u65 u66 u67 u68 u69 u70 u71 u72 u73 u74 u75 u76 u77 u78 u79 u80 u81 u82 u83 u84 u85 u86 u87 u88 u89 u90 u91 u92 u93 u94 u95 u96 u97 u98 u99 u100 u101 u102 u103 u104 u105 u106 u107 u108 u109 u110 u111 u112 u113 u114 u115 u116 u117 u118 u119 u120 u121 u122 u123 u124 u125 u126 u127 u128 u129 u130 u131 u132 u133 u134 u135 u136 u137 u138 u139 u140 u141 u142 u143 u144 u145 u146 u147 u148 u149 u150 u151 u152 u153 u154 u155 u156 u157 u158 u159 u160 u161 u162 u163 u164 u165 u166 u167 u168 u169 u170 u171 u172 u173 u174 u175 u176 u177 u178 u179 u180 u181 u182 u183 u184 u185 u186 u187 u188 u189 u190 u191 u192 u193 u194 u195 u196 u197 u198 u199 u200 u201 u202 u203 u204 : Value) : Code.wp Try.prog flBody Q ⟨#[.slice A L.length ca, .int .i64 ((r : Nat) : Int), undef, undef, u4, u5, .slice C n c, .int .i64 ((k : Nat) : Int), u8, u9, u10, u11, u12, .slice (some ⟨w.heap.size, 0, none⟩) 0 0, u14, u15, u16, u17, u18, u19, u20, u21, u22, u23, u24, u25, u26, u27, u28, u29, u30, u31, u32, u33, u34, u35, u36, u37, u38, u39, u40, u41, u42, u43, u44, u45, u46, u47, u48, u49, u50, u51, u52, u53, u54, u55, u56, u57, u58, u59, u60, u61, u62, u63, u64, u65, u66, u67, u68, u69, u70, u71, u72, u73, u74, u75, u76, u77, u78, u79, u80, u81, u82, u83, u84, u85, u86, u87, u88, u89, u90, u91, u92, u93, u94, u95, u96, u97, u98, u99, u100, u101, u102, u103, u104, u105, u106, u107, u108, u109, u110, u111, u112, u113, u114, u115, u116, u117, u118, u119, u120, u121, u122, u123, u124, u125, u126, u127, u128, u129, u130, u131, u132, u133, u134, u135, u136, u137, u138, u139, u140, u141, u142, u143, u144, u145, u146, u147, u148, u149, u150, u151, u152, u153, u154, u155, u156, u157, u158, u159, u160, u161, u162, u163, u164, u165, u166, u167, u168, u169, u170, u171, u172, u173, u174, u175, u176, u177, u178, u179, u180, u181, u182, u183, u184, u185, u186, u187, u188, u189, u190, u191, u192, u193, u194, u195, u196, u197, u198, u199, u200, u201, u202, u203, u204, undef, undef, undef, undef], []⟩ wr := by
  have HV := Lib.hid hv
  have HSZ := Lib.hid hsz
  have IH := Lib.hid ih
  have HN := Lib.hid hnext
  have HT := Lib.hid hret
  clear hnext hret ih hsz hv
  have Xga := Lib.hid ga
  have Xgb := Lib.hid gb
  have Xhkd := Lib.hid hkd
  clear ga gb hkd
  have zr := hb.size
  obtain ⟨_, C', c', e, _⟩ := irow_its hrw
  simp only [Value.slice.injEq] at e
  obtain ⟨rfl, rfl, rfl⟩ := e
  obtain ⟨nl, hnl⟩ : ∃ nl, (itT (d + 1) (L.take k)).length = nl := ⟨_, rfl⟩
  rw [hnl] at hrw h6
  rw [hnl]
  have HB := Lib.hid hb
  have HR := Lib.hid hrw
  have HOK := Lib.hid hok
  have NL := Lib.hid hnl
  clear hb hrw hok hnl
  obtain ⟨_, A', ca', e', hc⟩ := nds_below HV.out HB.out
  simp only [Value.slice.injEq, true_and] at e'
  obtain ⟨rfl, rfl⟩ := e'
  obtain ⟨ga, hA, ha⟩ := hc (by omega)
  subst hA
  obtain ⟨a0, a1, A1, n1, e1, B1, m1, f1, a2, a3, ra, rb⟩ := ha k hlt
  have SZK : Hid (szT d L[k].a + szT d L[k].b ≤ 1048576) := Lib.hid (Nat.le_trans (szT_at d L hlt) HSZ.out)
  have REF : Hid (fitT (d + 1) r L = true → 0 < r ∧ nodV L[k].k L[k].v L[k].a.length L[k].b.length = true ∧ okT d (r - 1) L[k].a = true ∧ okT d (r - 1) L[k].b = true ∧ nl + (itN (itT d) (.mk L[k].k L[k].v L[k].a L[k].b)).length ≤ 60) := Lib.hid (fun h => by
    unfold fitT at h
    simp at h
    obtain ⟨q1, q2, q3, q4⟩ := okT_at d r L hlt h.1
    have q5 := itT_le d L hlt
    rw [NL.out] at q5
    exact ⟨q1, q2, q3, q4, by have : itN (itT d) (.mk L[k].k L[k].v L[k].a L[k].b) = itN (itT d) L[k] := rfl; rw [this]; omega⟩)
  have TK : Hid (itT (d + 1) (L.take (k + 1)) = itT (d + 1) (L.take k) ++ itN (itT d) (.mk L[k].k L[k].v L[k].a L[k].b)) := Lib.hid (itT_take d L hlt)
  have OT : Hid (okT (d + 1) r (L.take (k + 1)) = (okT (d + 1) r (L.take k) && (decide (0 < r) && nodV L[k].k L[k].v L[k].a.length L[k].b.length && okT d (r - 1) L[k].a && okT d (r - 1) L[k].b))) := Lib.hid (okT_take d r L hlt)
  obtain ⟨_, A2, e2, q⟩ := nds_form ra
  simp only [Value.slice.injEq] at q
  obtain ⟨rfl, rfl, rfl⟩ := q
  obtain ⟨_, B2, f2, q⟩ := nds_form rb
  simp only [Value.slice.injEq] at q
  obtain ⟨rfl, rfl, rfl⟩ := q
  have RA := Lib.hid ra
  have RB := Lib.hid rb
  have XA := Lib.hid (whole_new wr 64 #[.int .i64 L[k].k, .int .i64 L[k].v, .slice A1 L[k].a.length e1, .slice B1 L[k].b.length f1])
  have BA : Hid (Below wr.heap.size wr (wr.alloc (.cells #[.int .i64 L[k].k, .int .i64 L[k].v, .slice A1 L[k].a.length e1, .slice B1 L[k].b.length f1] 64))) := Lib.hid (below_alloc (Below.refl _ _) _)
  clear ha hc ra rb
  generalize L[k].k = xk at *
  generalize L[k].v = xv at *
  generalize L[k].a = xa at *
  generalize L[k].b = xb at *
  conv => arg 2; whnf
  have B3 := Lib.hid (below_step HB.out BA.out)
  have rz : (((r : Nat) : Int) == 0) = false := by simp [h0]
  have la := len_sz RA.out
  have lb := len_sz RB.out
  have lk := SZK.out
  have wsum : IntKind.i64.wrap ((xa.length : Int) + (xb.length : Int)) = (xa.length : Int) + (xb.length : Int) := IntWalk.i64_in _ (by omega)
  have ts : ¬ (60 : Int) < (xa.length : Int) + (xb.length : Int) := by omega
  have t6 : ¬ (60 : Int) < (nl : Int) := by omega
  have wr1 : IntKind.i64.wrap (((r : Nat) : Int) - 1) = ((r - 1 : Nat) : Int) := by rw [show ((r : Nat) : Int) - 1 = ((r - 1 : Nat) : Int) by omega]; exact IntWalk.i64_in _ (by omega)
  have CA := Lib.hid (IH.out (r - 1) (.slice A1 xa.length e1) xa _ (by omega) (nds_below RA.out BA.out) (by have := SZK.out; omega))
  have SM := Lib.hid hs
  have N6 := Lib.hid h6
  have R0 := Lib.hid h0
  clear hs h6 h0
  go_wp2_with fail
  refine CA.out.mono ?_
  rintro e w1 ⟨A9, n9, c9, rfl, sa, ba⟩
  have B4 := Lib.hid (below_step B3.out ba)
  have XB := Lib.hid (whole_below XA.out ba)
  have x3 := whole_cell XB.out 3
  simp at x3
  have BL := Lib.hid (below_step BA.out ba)
  have CB := Lib.hid (IH.out (r - 1) (.slice B1 xb.length f1) xb _ (by omega) (nds_below RB.out BL.out) (by have := SZK.out; omega))
  have SA := Lib.hid sa
  clear sa ba CA XA a0 a1 a2 a3
  go_wp2_with fail
  refine CB.out.mono ?_
  rintro e w2 ⟨A8, n8, c8, rfl, sb, bb⟩
  have B5 := Lib.hid (below_step B4.out bb)
  have XC := Lib.hid (whole_below XB.out bb)
  have R5 := Lib.hid (irow_below (irow_below HR.out BL.out) bb)
  have SB := Lib.hid sb
  have LQ := Lib.hid (below_step BL.out bb)
  have BB := Lib.hid bb
  clear sb bb CB x3 XB
  have z2 : wr.heap.size + 1 ≤ w2.heap.size := by have := whole_lt XC.out; omega
  have PARTS : Hid (fitT (d + 1) r L = true → fitT d (r - 1) xa = true ∧ fitT d (r - 1) xb = true) := Lib.hid fun p => by
    obtain ⟨p1, p2, p3, p4, p5⟩ := REF.out p
    have q1 := itN_parts (itT d) xk xv xa xb p2 (itT_nil d)
    unfold fitT
    rw [p3, p4]
    simp
    omega
  have ga := Xga.out
  have gb := Xgb.out
  have hkd := Xhkd.out
  clear Xga Xgb Xhkd
  have RWA := Lib.hid (irow_below (SA.out ga) BB.out)
  have RWB := Lib.hid (SB.out gb)
  have OA : Hid (okT d (r - 1) xa = true ∧ (itT d xa).length ≤ 60) := Lib.hid (by unfold fitT at ga; simpa using ga)
  have OB : Hid (okT d (r - 1) xb = true ∧ (itT d xb).length ≤ 60) := Lib.hid (by unfold fitT at gb; simpa using gb)
  have LA := Lib.hid (len_part0 RA.out)
  have LB := Lib.hid (len_part0 RB.out)
  rw [ga, gb]
  obtain ⟨_, A7, c7, e7, _⟩ := irow_its RWA.out
  simp only [Value.slice.injEq] at e7
  obtain ⟨rfl, rfl, rfl⟩ := e7
  obtain ⟨_, A6, c6, e6, _⟩ := irow_its RWB.out
  simp only [Value.slice.injEq] at e6
  obtain ⟨rfl, rfl, rfl⟩ := e6
  obtain ⟨na, hna⟩ : ∃ na, (itT d xa).length = na := ⟨_, rfl⟩
  obtain ⟨nb, hnb⟩ : ∃ nb, (itT d xb).length = nb := ⟨_, rfl⟩
  rw [hna] at RWA OA LA
  rw [hnb] at RWB OB LB
  rw [hna, hnb]
  have NA := Lib.hid hna
  have NB := Lib.hid hnb
  have la60 := OA.out.2
  have lb60 := OB.out.2
  have x0 := whole_cell XC.out 0
  have x1 := whole_cell XC.out 1
  simp at x0 x1
  have wab : IntKind.i64.wrap ((na : Int) + (nb : Int)) = (na : Int) + (nb : Int) := IntWalk.i64_in _ (by omega)
  have REN : Hid (nodV xk xv xa.length xb.length = false → fitT (d + 1) r L = true → False) := Lib.hid fun h p => by have := (REF.out p).2.1; rw [h] at this; cases this
  have NXT : Hid (nodV xk xv xa.length xb.length = true → okT (d + 1) r (L.take (k + 1)) = true) := Lib.hid fun h => by rw [OT.out, HOK.out, h, OA.out.1, OB.out.1]; simp; have := R0.out; omega
  clear hna hnb
  obtain ⟨Q0, hQ0⟩ : ∃ Q0, itT (d + 1) (L.take k) = Q0 := ⟨_, rfl⟩
  rw [hQ0] at R5 NL TK
  have l0 : Q0.length ≤ 60 := by rw [NL.out]; have := N6.out; omega
  obtain ⟨QA, hQA⟩ : ∃ QA, itT d xa = QA := ⟨_, rfl⟩
  have EQA := Lib.hid hQA
  rw [hQA] at RWA NA
  have la : QA.length ≤ 60 := by rw [NA.out]; exact la60
  obtain ⟨QB, hQB⟩ : ∃ QB, itT d xb = QB := ⟨_, rfl⟩
  have EQB := Lib.hid hQB
  rw [hQB] at RWB NB
  have lb : QB.length ≤ 60 := by rw [NB.out]; exact lb60
  have zw := B5.out.size
  have IA : xa = [] ↔ na = 0 := by rw [LA.out, List.length_eq_zero_iff]
  have IB : xb = [] ↔ nb = 0 := by rw [LB.out, List.length_eq_zero_iff]
  clear hQ0 hQA hQB
  subst hkd
  obtain ⟨ib, hib⟩ : ∃ ib, itB ⟨1, xv⟩ = ib := ⟨_, rfl⟩
  have HIB := Lib.hid hib
  clear hib
  go_wp2_with fail
  refine (sItemOK_any ⟨1, xv⟩ _).mono ?_
  rintro e w3 ⟨rfl, h3⟩
  rw [HIB.out]
  have B6 := Lib.hid (below_step B5.out h3)
  have XD := whole_below XC.out h3
  have x0 := whole_cell XD 0
  have x1 := whole_cell XD 1
  simp at x0 x1
  have R6 := Lib.hid (irow_below R5.out h3)
  have zw3 := B6.out.size
  clear h3 XD
  cases ib with
  | false =>
    have FN : Hid (fitT (d + 1) r L = true → False) := Lib.hid (REN.out (by unfold nodV; rw [if_pos (by simp [wrdV]), HIB.out]; rfl))
    go_wp2
    refine HT.out _ _ ?_
    unfold FlRet
    exact ⟨_, _, _, _, _, _, _, _, _, _, _, _, _, _, _, _, _, _, _, _, _, _, _, _, _, _, _, _, _, _, _, _, _, _, _, _, _, _, _, _, _, _, _, _, _, _, _, _, _, _, _, _, _, _, _, _, _, _, _, _, _, _, _, _, _, _, _, _, _, _, _, _, _, _, _, _, _, _, _, _, _, _, _, _, _, _, _, _, _, _, _, _, _, _, _, _, _, _, _, _, _, _, _, _, _, _, _, _, _, _, _, _, _, _, _, _, _, _, _, _, _, _, _, _, _, _, _, _, _, _, _, _, _, _, _, _, _, _, _, _, _, _, _, _, _, _, _, _, _, _, _, _, _, _, _, _, _, _, _, _, _, _, _, _, _, _, _, _, _, _, _, _, _, _, _, _, _, _, _, _, _, _, _, _, _, _, _, _, _, _, _, _, _, _, _, _, _, _, _, _, rfl, _, _, _, rfl, rfl, FN.out, B6.out⟩
  | true =>
    by_cases hz : na + nb = 0
    · have ts : ((na : Int) + (nb : Int) == 0) = true := by simp; omega
      have R7 := Lib.hid (irow_alloc R6.out (.cells #[.int .i64 1, .int .i64 xv] 59))
      have NV : Hid (nodV 1 xv xa.length xb.length = true) := Lib.hid (by unfold nodV; rw [if_pos (by simp [wrdV]), HIB.out]; simp [IA, IB]; omega)
      clear hz IA IB
      go_wp2_with (first
        | (at_builtin; refine wpList_append_items rfl (.tmp 96) (.tmp 102) rfl rfl w.heap.size (.slice C nl c) Q0 R7.out _ [⟨1, xv⟩] (its_one _ ⟨1, xv⟩ _) rfl rfl (by simp; omega) (by simp; omega) ?_
           intro v9 w9 hr9 hg9 hat
           obtain ⟨A9, n9, c9, rfl⟩ := irow_form hr9
           have R9 := Lib.hid (prow_irow hr9)
           have BN : Hid (Below w.heap.size w w9) := Lib.hid ((below_alloc B6.out _).grown hg9 (by simp; omega) (fun g hg => (irow_lt R7.out g hg).1))
           clear hr9 hg9 hat))
      have IE : itN (itT d) (.mk 1 xv xa xb) = [⟨1, xv⟩] := by simp [itN, wrdB, opnK, midK, endK, Nd.k, Nd.v, Nd.a, Nd.b, EQA.out, EQB.out]
      have HF : Hid (IRow w9 w.heap.size (.slice A9 n9 c9) (itT (d + 1) (L.take (k + 1)))) := Lib.hid (by rw [TK.out, IE]; simpa [List.append_assoc] using R9.out)
      have OKN := Lib.hid (NXT.out (by exact NV.out))
      clear IE
      go_wp2
      refine HN.out _ _ ?_
      unfold FlNext
      exact ⟨_, _, _, _, _, _, _, _, _, _, _, _, _, _, _, _, _, _, _, _, _, _, _, _, _, _, _, _, _, _, _, _, _, _, _, _, _, _, _, _, _, _, _, _, _, _, _, _, _, _, _, _, _, _, _, _, _, _, _, _, _, _, _, _, _, _, _, _, _, _, _, _, _, _, _, _, _, _, _, _, _, _, _, _, _, _, _, _, _, _, _, _, _, _, _, _, _, _, _, _, _, _, _, _, _, _, _, _, _, _, _, _, _, _, _, _, _, _, _, _, _, _, _, _, _, _, _, _, _, _, _, _, _, _, _, _, _, _, _, _, _, _, _, _, _, _, _, _, _, _, _, _, _, _, _, _, _, _, _, _, _, _, _, _, _, _, _, _, _, _, _, _, _, _, _, _, _, _, _, _, _, _, _, _, _, _, _, _, _, _, _, _, _, _, _, _, _, _, _, _, rfl, _, _, _, rfl, by go_num, HF.out, OKN.out, BN.out⟩
    · have ts : ((na : Int) + (nb : Int) == 0) = false := by simp; omega
      have FN : Hid (fitT (d + 1) r L = true → False) := Lib.hid (REN.out (by unfold nodV; rw [if_pos (by simp [wrdV]), HIB.out]; simp [IA, IB]; omega))
      clear hz IA IB
      go_wp2
      refine HT.out _ _ ?_
      unfold FlRet
      exact ⟨_, _, _, _, _, _, _, _, _, _, _, _, _, _, _, _, _, _, _, _, _, _, _, _, _, _, _, _, _, _, _, _, _, _, _, _, _, _, _, _, _, _, _, _, _, _, _, _, _, _, _, _, _, _, _, _, _, _, _, _, _, _, _, _, _, _, _, _, _, _, _, _, _, _, _, _, _, _, _, _, _, _, _, _, _, _, _, _, _, _, _, _, _, _, _, _, _, _, _, _, _, _, _, _, _, _, _, _, _, _, _, _, _, _, _, _, _, _, _, _, _, _, _, _, _, _, _, _, _, _, _, _, _, _, _, _, _, _, _, _, _, _, _, _, _, _, _, _, _, _, _, _, _, _, _, _, _, _, _, _, _, _, _, _, _, _, _, _, _, _, _, _, _, _, _, _, _, _, _, _, _, _, _, _, _, _, _, _, _, _, _, _, _, _, _, _, _, _, _, _, rfl, _, _, _, rfl, rfl, FN.out, B6.out⟩

set_option maxRecDepth 1000000 in
set_option maxHeartbeats 40000000 in
theorem flr_k2 (d r : Nat) (L : List Nd) (w wr : World) (A : Option Addr) (ca k n c : Nat) (C : Option Addr) (ih : FlatN d) (hr : r ≤ 9) (hsz : szT (d + 1) L ≤ 1048576) (hv : Nds (d + 1) w (.slice A L.length ca) L) (hk : k ≤ L.length) (hlt : k < L.length) (hl : L.length ≤ 2 ^ 63 - 1)
    (hrw : IRow wr w.heap.size (.slice C n c) (itT (d + 1) (L.take k))) (hok : okT (d + 1) r (L.take k) = true) (hb : Below w.heap.size w wr) (h0 : r ≠ 0) (hs : ¬ 60 < L[k].a.length + L[k].b.length) (h6 : ¬ 60 < n) (ga : fitT d (r - 1) L[k].a = true) (gb : fitT d (r - 1) L[k].b = true) (hkd : L[k].k = 2)
    (Q : Exit → Act → World → Prop) (hnext : ∀ a' w'', FlNext d r L w k A ca a' w'' → Q .normal a' w'') (hret : ∀ a' w'', FlRet d r L w A ca a' w'' → Q .ret a' w'')
    (u4 u5 u8 u9 u10 u11 u12 u14 u15 u16 u17 u18 u19 u20 u21 u22 u23 u24 u25 u26 u27 u28 u29 u30 u31 u32 u33 u34 u35 u36 u37 u38 u39 u40 u41 u42 u43 u44 u45 u46 u47 u48 u49 u50 u51 u52 u53 u54 u55 u56 u57 u58 u59 u60 u61 u62 u63 u64 u65 u66 u67 u68 u69 u70 u71 u72 u73 u74 u75 u76 u77 u78 u79 u80 u81 u82 u83 u84 u85 u86 u87 u88 u89 u90 u91 u92 u93 u94 u95 u96 u97 u98 u99 u100 u101 u102 u103 u104 u105 u106 u107 u108 u109 u110 u111 u112 u113 u114 u115 u116 u117 u118 u119 u120 u121 u122 u123 u124 u125 u126 u127 u128 u129 u130 u131 u132 u133 u134 u135 u136 u137 u138 u139 u140 u141 u142 u143 u144 u145 u146 u147 u148 u149 u150 u151 u152 u153 u154 u155 u156 u157 u158 u159 u160 u161 u162 u163 u164 u165 u166 u167 u168 u169 u170 u171 u172 u173 u174 u175 u176 u177 u178 u179 u180 u181 u182 u183 u184 u185 u186 u187 u188 u189 u190 u191 u192 u193 u194 u195 u196 u197 u198 u199 u200 u201 u202 u203 u204 : Value) : Code.wp Try.prog flBody Q ⟨#[.slice A L.length ca, .int .i64 ((r : Nat) : Int), undef, undef, u4, u5, .slice C n c, .int .i64 ((k : Nat) : Int), u8, u9, u10, u11, u12, .slice (some ⟨w.heap.size, 0, none⟩) 0 0, u14, u15, u16, u17, u18, u19, u20, u21, u22, u23, u24, u25, u26, u27, u28, u29, u30, u31, u32, u33, u34, u35, u36, u37, u38, u39, u40, u41, u42, u43, u44, u45, u46, u47, u48, u49, u50, u51, u52, u53, u54, u55, u56, u57, u58, u59, u60, u61, u62, u63, u64, u65, u66, u67, u68, u69, u70, u71, u72, u73, u74, u75, u76, u77, u78, u79, u80, u81, u82, u83, u84, u85, u86, u87, u88, u89, u90, u91, u92, u93, u94, u95, u96, u97, u98, u99, u100, u101, u102, u103, u104, u105, u106, u107, u108, u109, u110, u111, u112, u113, u114, u115, u116, u117, u118, u119, u120, u121, u122, u123, u124, u125, u126, u127, u128, u129, u130, u131, u132, u133, u134, u135, u136, u137, u138, u139, u140, u141, u142, u143, u144, u145, u146, u147, u148, u149, u150, u151, u152, u153, u154, u155, u156, u157, u158, u159, u160, u161, u162, u163, u164, u165, u166, u167, u168, u169, u170, u171, u172, u173, u174, u175, u176, u177, u178, u179, u180, u181, u182, u183, u184, u185, u186, u187, u188, u189, u190, u191, u192, u193, u194, u195, u196, u197, u198, u199, u200, u201, u202, u203, u204, undef, undef, undef, undef], []⟩ wr := by
  have HV := Lib.hid hv
  have HSZ := Lib.hid hsz
  have IH := Lib.hid ih
  have HN := Lib.hid hnext
  have HT := Lib.hid hret
  clear hnext hret ih hsz hv
  have Xga := Lib.hid ga
  have Xgb := Lib.hid gb
  have Xhkd := Lib.hid hkd
  clear ga gb hkd
  have zr := hb.size
  obtain ⟨_, C', c', e, _⟩ := irow_its hrw
  simp only [Value.slice.injEq] at e
  obtain ⟨rfl, rfl, rfl⟩ := e
  obtain ⟨nl, hnl⟩ : ∃ nl, (itT (d + 1) (L.take k)).length = nl := ⟨_, rfl⟩
  rw [hnl] at hrw h6
  rw [hnl]
  have HB := Lib.hid hb
  have HR := Lib.hid hrw
  have HOK := Lib.hid hok
  have NL := Lib.hid hnl
  clear hb hrw hok hnl
  obtain ⟨_, A', ca', e', hc⟩ := nds_below HV.out HB.out
  simp only [Value.slice.injEq, true_and] at e'
  obtain ⟨rfl, rfl⟩ := e'
  obtain ⟨ga, hA, ha⟩ := hc (by omega)
  subst hA
  obtain ⟨a0, a1, A1, n1, e1, B1, m1, f1, a2, a3, ra, rb⟩ := ha k hlt
  have SZK : Hid (szT d L[k].a + szT d L[k].b ≤ 1048576) := Lib.hid (Nat.le_trans (szT_at d L hlt) HSZ.out)
  have REF : Hid (fitT (d + 1) r L = true → 0 < r ∧ nodV L[k].k L[k].v L[k].a.length L[k].b.length = true ∧ okT d (r - 1) L[k].a = true ∧ okT d (r - 1) L[k].b = true ∧ nl + (itN (itT d) (.mk L[k].k L[k].v L[k].a L[k].b)).length ≤ 60) := Lib.hid (fun h => by
    unfold fitT at h
    simp at h
    obtain ⟨q1, q2, q3, q4⟩ := okT_at d r L hlt h.1
    have q5 := itT_le d L hlt
    rw [NL.out] at q5
    exact ⟨q1, q2, q3, q4, by have : itN (itT d) (.mk L[k].k L[k].v L[k].a L[k].b) = itN (itT d) L[k] := rfl; rw [this]; omega⟩)
  have TK : Hid (itT (d + 1) (L.take (k + 1)) = itT (d + 1) (L.take k) ++ itN (itT d) (.mk L[k].k L[k].v L[k].a L[k].b)) := Lib.hid (itT_take d L hlt)
  have OT : Hid (okT (d + 1) r (L.take (k + 1)) = (okT (d + 1) r (L.take k) && (decide (0 < r) && nodV L[k].k L[k].v L[k].a.length L[k].b.length && okT d (r - 1) L[k].a && okT d (r - 1) L[k].b))) := Lib.hid (okT_take d r L hlt)
  obtain ⟨_, A2, e2, q⟩ := nds_form ra
  simp only [Value.slice.injEq] at q
  obtain ⟨rfl, rfl, rfl⟩ := q
  obtain ⟨_, B2, f2, q⟩ := nds_form rb
  simp only [Value.slice.injEq] at q
  obtain ⟨rfl, rfl, rfl⟩ := q
  have RA := Lib.hid ra
  have RB := Lib.hid rb
  have XA := Lib.hid (whole_new wr 64 #[.int .i64 L[k].k, .int .i64 L[k].v, .slice A1 L[k].a.length e1, .slice B1 L[k].b.length f1])
  have BA : Hid (Below wr.heap.size wr (wr.alloc (.cells #[.int .i64 L[k].k, .int .i64 L[k].v, .slice A1 L[k].a.length e1, .slice B1 L[k].b.length f1] 64))) := Lib.hid (below_alloc (Below.refl _ _) _)
  clear ha hc ra rb
  generalize L[k].k = xk at *
  generalize L[k].v = xv at *
  generalize L[k].a = xa at *
  generalize L[k].b = xb at *
  conv => arg 2; whnf
  have B3 := Lib.hid (below_step HB.out BA.out)
  have rz : (((r : Nat) : Int) == 0) = false := by simp [h0]
  have la := len_sz RA.out
  have lb := len_sz RB.out
  have lk := SZK.out
  have wsum : IntKind.i64.wrap ((xa.length : Int) + (xb.length : Int)) = (xa.length : Int) + (xb.length : Int) := IntWalk.i64_in _ (by omega)
  have ts : ¬ (60 : Int) < (xa.length : Int) + (xb.length : Int) := by omega
  have t6 : ¬ (60 : Int) < (nl : Int) := by omega
  have wr1 : IntKind.i64.wrap (((r : Nat) : Int) - 1) = ((r - 1 : Nat) : Int) := by rw [show ((r : Nat) : Int) - 1 = ((r - 1 : Nat) : Int) by omega]; exact IntWalk.i64_in _ (by omega)
  have CA := Lib.hid (IH.out (r - 1) (.slice A1 xa.length e1) xa _ (by omega) (nds_below RA.out BA.out) (by have := SZK.out; omega))
  have SM := Lib.hid hs
  have N6 := Lib.hid h6
  have R0 := Lib.hid h0
  clear hs h6 h0
  go_wp2_with fail
  refine CA.out.mono ?_
  rintro e w1 ⟨A9, n9, c9, rfl, sa, ba⟩
  have B4 := Lib.hid (below_step B3.out ba)
  have XB := Lib.hid (whole_below XA.out ba)
  have x3 := whole_cell XB.out 3
  simp at x3
  have BL := Lib.hid (below_step BA.out ba)
  have CB := Lib.hid (IH.out (r - 1) (.slice B1 xb.length f1) xb _ (by omega) (nds_below RB.out BL.out) (by have := SZK.out; omega))
  have SA := Lib.hid sa
  clear sa ba CA XA a0 a1 a2 a3
  go_wp2_with fail
  refine CB.out.mono ?_
  rintro e w2 ⟨A8, n8, c8, rfl, sb, bb⟩
  have B5 := Lib.hid (below_step B4.out bb)
  have XC := Lib.hid (whole_below XB.out bb)
  have R5 := Lib.hid (irow_below (irow_below HR.out BL.out) bb)
  have SB := Lib.hid sb
  have LQ := Lib.hid (below_step BL.out bb)
  have BB := Lib.hid bb
  clear sb bb CB x3 XB
  have z2 : wr.heap.size + 1 ≤ w2.heap.size := by have := whole_lt XC.out; omega
  have PARTS : Hid (fitT (d + 1) r L = true → fitT d (r - 1) xa = true ∧ fitT d (r - 1) xb = true) := Lib.hid fun p => by
    obtain ⟨p1, p2, p3, p4, p5⟩ := REF.out p
    have q1 := itN_parts (itT d) xk xv xa xb p2 (itT_nil d)
    unfold fitT
    rw [p3, p4]
    simp
    omega
  have ga := Xga.out
  have gb := Xgb.out
  have hkd := Xhkd.out
  clear Xga Xgb Xhkd
  have RWA := Lib.hid (irow_below (SA.out ga) BB.out)
  have RWB := Lib.hid (SB.out gb)
  have OA : Hid (okT d (r - 1) xa = true ∧ (itT d xa).length ≤ 60) := Lib.hid (by unfold fitT at ga; simpa using ga)
  have OB : Hid (okT d (r - 1) xb = true ∧ (itT d xb).length ≤ 60) := Lib.hid (by unfold fitT at gb; simpa using gb)
  have LA := Lib.hid (len_part0 RA.out)
  have LB := Lib.hid (len_part0 RB.out)
  rw [ga, gb]
  obtain ⟨_, A7, c7, e7, _⟩ := irow_its RWA.out
  simp only [Value.slice.injEq] at e7
  obtain ⟨rfl, rfl, rfl⟩ := e7
  obtain ⟨_, A6, c6, e6, _⟩ := irow_its RWB.out
  simp only [Value.slice.injEq] at e6
  obtain ⟨rfl, rfl, rfl⟩ := e6
  obtain ⟨na, hna⟩ : ∃ na, (itT d xa).length = na := ⟨_, rfl⟩
  obtain ⟨nb, hnb⟩ : ∃ nb, (itT d xb).length = nb := ⟨_, rfl⟩
  rw [hna] at RWA OA LA
  rw [hnb] at RWB OB LB
  rw [hna, hnb]
  have NA := Lib.hid hna
  have NB := Lib.hid hnb
  have la60 := OA.out.2
  have lb60 := OB.out.2
  have x0 := whole_cell XC.out 0
  have x1 := whole_cell XC.out 1
  simp at x0 x1
  have wab : IntKind.i64.wrap ((na : Int) + (nb : Int)) = (na : Int) + (nb : Int) := IntWalk.i64_in _ (by omega)
  have REN : Hid (nodV xk xv xa.length xb.length = false → fitT (d + 1) r L = true → False) := Lib.hid fun h p => by have := (REF.out p).2.1; rw [h] at this; cases this
  have NXT : Hid (nodV xk xv xa.length xb.length = true → okT (d + 1) r (L.take (k + 1)) = true) := Lib.hid fun h => by rw [OT.out, HOK.out, h, OA.out.1, OB.out.1]; simp; have := R0.out; omega
  clear hna hnb
  obtain ⟨Q0, hQ0⟩ : ∃ Q0, itT (d + 1) (L.take k) = Q0 := ⟨_, rfl⟩
  rw [hQ0] at R5 NL TK
  have l0 : Q0.length ≤ 60 := by rw [NL.out]; have := N6.out; omega
  obtain ⟨QA, hQA⟩ : ∃ QA, itT d xa = QA := ⟨_, rfl⟩
  have EQA := Lib.hid hQA
  rw [hQA] at RWA NA
  have la : QA.length ≤ 60 := by rw [NA.out]; exact la60
  obtain ⟨QB, hQB⟩ : ∃ QB, itT d xb = QB := ⟨_, rfl⟩
  have EQB := Lib.hid hQB
  rw [hQB] at RWB NB
  have lb : QB.length ≤ 60 := by rw [NB.out]; exact lb60
  have zw := B5.out.size
  have IA : xa = [] ↔ na = 0 := by rw [LA.out, List.length_eq_zero_iff]
  have IB : xb = [] ↔ nb = 0 := by rw [LB.out, List.length_eq_zero_iff]
  clear hQ0 hQA hQB
  subst hkd
  obtain ⟨ib, hib⟩ : ∃ ib, itB ⟨2, xv⟩ = ib := ⟨_, rfl⟩
  have HIB := Lib.hid hib
  clear hib
  go_wp2_with fail
  refine (sItemOK_any ⟨2, xv⟩ _).mono ?_
  rintro e w3 ⟨rfl, h3⟩
  rw [HIB.out]
  have B6 := Lib.hid (below_step B5.out h3)
  have XD := whole_below XC.out h3
  have x0 := whole_cell XD 0
  have x1 := whole_cell XD 1
  simp at x0 x1
  have R6 := Lib.hid (irow_below R5.out h3)
  have zw3 := B6.out.size
  clear h3 XD
  cases ib with
  | false =>
    have FN : Hid (fitT (d + 1) r L = true → False) := Lib.hid (REN.out (by unfold nodV; rw [if_pos (by simp [wrdV]), HIB.out]; rfl))
    go_wp2
    refine HT.out _ _ ?_
    unfold FlRet
    exact ⟨_, _, _, _, _, _, _, _, _, _, _, _, _, _, _, _, _, _, _, _, _, _, _, _, _, _, _, _, _, _, _, _, _, _, _, _, _, _, _, _, _, _, _, _, _, _, _, _, _, _, _, _, _, _, _, _, _, _, _, _, _, _, _, _, _, _, _, _, _, _, _, _, _, _, _, _, _, _, _, _, _, _, _, _, _, _, _, _, _, _, _, _, _, _, _, _, _, _, _, _, _, _, _, _, _, _, _, _, _, _, _, _, _, _, _, _, _, _, _, _, _, _, _, _, _, _, _, _, _, _, _, _, _, _, _, _, _, _, _, _, _, _, _, _, _, _, _, _, _, _, _, _, _, _, _, _, _, _, _, _, _, _, _, _, _, _, _, _, _, _, _, _, _, _, _, _, _, _, _, _, _, _, _, _, _, _, _, _, _, _, _, _, _, _, _, _, _, _, _, _, rfl, _, _, _, rfl, rfl, FN.out, B6.out⟩
  | true =>
    by_cases hz : na + nb = 0
    · have ts : ((na : Int) + (nb : Int) == 0) = true := by simp; omega
      have R7 := Lib.hid (irow_alloc R6.out (.cells #[.int .i64 2, .int .i64 xv] 59))
      have NV : Hid (nodV 2 xv xa.length xb.length = true) := Lib.hid (by unfold nodV; rw [if_pos (by simp [wrdV]), HIB.out]; simp [IA, IB]; omega)
      clear hz IA IB
      go_wp2_with (first
        | (at_builtin; refine wpList_append_items rfl (.tmp 96) (.tmp 102) rfl rfl w.heap.size (.slice C nl c) Q0 R7.out _ [⟨2, xv⟩] (its_one _ ⟨2, xv⟩ _) rfl rfl (by simp; omega) (by simp; omega) ?_
           intro v9 w9 hr9 hg9 hat
           obtain ⟨A9, n9, c9, rfl⟩ := irow_form hr9
           have R9 := Lib.hid (prow_irow hr9)
           have BN : Hid (Below w.heap.size w w9) := Lib.hid ((below_alloc B6.out _).grown hg9 (by simp; omega) (fun g hg => (irow_lt R7.out g hg).1))
           clear hr9 hg9 hat))
      have IE : itN (itT d) (.mk 2 xv xa xb) = [⟨2, xv⟩] := by simp [itN, wrdB, opnK, midK, endK, Nd.k, Nd.v, Nd.a, Nd.b, EQA.out, EQB.out]
      have HF : Hid (IRow w9 w.heap.size (.slice A9 n9 c9) (itT (d + 1) (L.take (k + 1)))) := Lib.hid (by rw [TK.out, IE]; simpa [List.append_assoc] using R9.out)
      have OKN := Lib.hid (NXT.out (by exact NV.out))
      clear IE
      go_wp2
      refine HN.out _ _ ?_
      unfold FlNext
      exact ⟨_, _, _, _, _, _, _, _, _, _, _, _, _, _, _, _, _, _, _, _, _, _, _, _, _, _, _, _, _, _, _, _, _, _, _, _, _, _, _, _, _, _, _, _, _, _, _, _, _, _, _, _, _, _, _, _, _, _, _, _, _, _, _, _, _, _, _, _, _, _, _, _, _, _, _, _, _, _, _, _, _, _, _, _, _, _, _, _, _, _, _, _, _, _, _, _, _, _, _, _, _, _, _, _, _, _, _, _, _, _, _, _, _, _, _, _, _, _, _, _, _, _, _, _, _, _, _, _, _, _, _, _, _, _, _, _, _, _, _, _, _, _, _, _, _, _, _, _, _, _, _, _, _, _, _, _, _, _, _, _, _, _, _, _, _, _, _, _, _, _, _, _, _, _, _, _, _, _, _, _, _, _, _, _, _, _, _, _, _, _, _, _, _, _, _, _, _, _, _, _, rfl, _, _, _, rfl, by go_num, HF.out, OKN.out, BN.out⟩
    · have ts : ((na : Int) + (nb : Int) == 0) = false := by simp; omega
      have FN : Hid (fitT (d + 1) r L = true → False) := Lib.hid (REN.out (by unfold nodV; rw [if_pos (by simp [wrdV]), HIB.out]; simp [IA, IB]; omega))
      clear hz IA IB
      go_wp2
      refine HT.out _ _ ?_
      unfold FlRet
      exact ⟨_, _, _, _, _, _, _, _, _, _, _, _, _, _, _, _, _, _, _, _, _, _, _, _, _, _, _, _, _, _, _, _, _, _, _, _, _, _, _, _, _, _, _, _, _, _, _, _, _, _, _, _, _, _, _, _, _, _, _, _, _, _, _, _, _, _, _, _, _, _, _, _, _, _, _, _, _, _, _, _, _, _, _, _, _, _, _, _, _, _, _, _, _, _, _, _, _, _, _, _, _, _, _, _, _, _, _, _, _, _, _, _, _, _, _, _, _, _, _, _, _, _, _, _, _, _, _, _, _, _, _, _, _, _, _, _, _, _, _, _, _, _, _, _, _, _, _, _, _, _, _, _, _, _, _, _, _, _, _, _, _, _, _, _, _, _, _, _, _, _, _, _, _, _, _, _, _, _, _, _, _, _, _, _, _, _, _, _, _, _, _, _, _, _, _, _, _, _, _, _, rfl, _, _, _, rfl, rfl, FN.out, B6.out⟩

end Go.Proofs.Ytafhmajnkicifaa

namespace Go.Proofs.Ytafhmajnkicifaa
open Go.RowKit
set_option linter.unusedVariables false
set_option linter.unusedSimpArgs false

set_option maxRecDepth 1000000 in
set_option maxHeartbeats 40000000 in
theorem flr_k13 (d r : Nat) (L : List Nd) (w wr : World) (A : Option Addr) (ca k n c : Nat) (C : Option Addr) (ih : FlatN d) (hr : r ≤ 9) (hsz : szT (d + 1) L ≤ 1048576) (hv : Nds (d + 1) w (.slice A L.length ca) L) (hk : k ≤ L.length) (hlt : k < L.length) (hl : L.length ≤ 2 ^ 63 - 1)
    (hrw : IRow wr w.heap.size (.slice C n c) (itT (d + 1) (L.take k))) (hok : okT (d + 1) r (L.take k) = true) (hb : Below w.heap.size w wr) (h0 : r ≠ 0) (hs : ¬ 60 < L[k].a.length + L[k].b.length) (h6 : ¬ 60 < n) (ga : fitT d (r - 1) L[k].a = true) (gb : fitT d (r - 1) L[k].b = true) (hkd : L[k].k = 13)
    (Q : Exit → Act → World → Prop) (hnext : ∀ a' w'', FlNext d r L w k A ca a' w'' → Q .normal a' w'') (hret : ∀ a' w'', FlRet d r L w A ca a' w'' → Q .ret a' w'')
    (u4 u5 u8 u9 u10 u11 u12 u14 u15 u16 u17 u18 u19 u20 u21 u22 u23 u24 u25 u26 u27 u28 u29 u30 u31 u32 u33 u34 u35 u36 u37 u38 u39 u40 u41 u42 u43 u44 u45 u46 u47 u48 u49 u50 u51 u52 u53 u54 u55 u56 u57 u58 u59 u60 u61 u62 u63 u64 u65 u66 u67 u68 u69 u70 u71 u72 u73 u74 u75 u76 u77 u78 u79 u80 u81 u82 u83 u84 u85 u86 u87 u88 u89 u90 u91 u92 u93 u94 u95 u96 u97 u98 u99 u100 u101 u102 u103 u104 u105 u106 u107 u108 u109 u110 u111 u112 u113 u114 u115 u116 u117 u118 u119 u120 u121 u122 u123 u124 u125 u126 u127 u128 u129 u130 u131 u132 u133 u134 u135 u136 u137 u138 u139 u140 u141 u142 u143 u144 u145 u146 u147 u148 u149 u150 u151 u152 u153 u154 u155 u156 u157 u158 u159 u160 u161 u162 u163 u164 u165 u166 u167 u168 u169 u170 u171 u172 u173 u174 u175 u176 u177 u178 u179 u180 u181 u182 u183 u184 u185 u186 u187 u188 u189 u190 u191 u192 u193 u194 u195 u196 u197 u198 u199 u200 u201 u202 u203 u204 : Value) : Code.wp Try.prog flBody Q ⟨#[.slice A L.length ca, .int .i64 ((r : Nat) : Int), undef, undef, u4, u5, .slice C n c, .int .i64 ((k : Nat) : Int), u8, u9, u10, u11, u12, .slice (some ⟨w.heap.size, 0, none⟩) 0 0, u14, u15, u16, u17, u18, u19, u20, u21, u22, u23, u24, u25, u26, u27, u28, u29, u30, u31, u32, u33, u34, u35, u36, u37, u38, u39, u40, u41, u42, u43, u44, u45, u46, u47, u48, u49, u50, u51, u52, u53, u54, u55, u56, u57, u58, u59, u60, u61, u62, u63, u64, u65, u66, u67, u68, u69, u70, u71, u72, u73, u74, u75, u76, u77, u78, u79, u80, u81, u82, u83, u84, u85, u86, u87, u88, u89, u90, u91, u92, u93, u94, u95, u96, u97, u98, u99, u100, u101, u102, u103, u104, u105, u106, u107, u108, u109, u110, u111, u112, u113, u114, u115, u116, u117, u118, u119, u120, u121, u122, u123, u124, u125, u126, u127, u128, u129, u130, u131, u132, u133, u134, u135, u136, u137, u138, u139, u140, u141, u142, u143, u144, u145, u146, u147, u148, u149, u150, u151, u152, u153, u154, u155, u156, u157, u158, u159, u160, u161, u162, u163, u164, u165, u166, u167, u168, u169, u170, u171, u172, u173, u174, u175, u176, u177, u178, u179, u180, u181, u182, u183, u184, u185, u186, u187, u188, u189, u190, u191, u192, u193, u194, u195, u196, u197, u198, u199, u200, u201, u202, u203, u204, undef, undef, undef, undef], []⟩ wr := by
  have HV := Lib.hid hv
  have HSZ := Lib.hid hsz
  have IH := Lib.hid ih
  have HN := Lib.hid hnext
  have HT := Lib.hid hret
  clear hnext hret ih hsz hv
  have Xga := Lib.hid ga
  have Xgb := Lib.hid gb
  have Xhkd := Lib.hid hkd
  clear ga gb hkd
  have zr := hb.size
  obtain ⟨_, C', c', e, _⟩ := irow_its hrw
  simp only [Value.slice.injEq] at e
  obtain ⟨rfl, rfl, rfl⟩ := e
  obtain ⟨nl, hnl⟩ : ∃ nl, (itT (d + 1) (L.take k)).length = nl := ⟨_, rfl⟩
  rw [hnl] at hrw h6
  rw [hnl]
  have HB := Lib.hid hb
  have HR := Lib.hid hrw
  have HOK := Lib.hid hok
  have NL := Lib.hid hnl
  clear hb hrw hok hnl
  obtain ⟨_, A', ca', e', hc⟩ := nds_below HV.out HB.out
  simp only [Value.slice.injEq, true_and] at e'
  obtain ⟨rfl, rfl⟩ := e'
  obtain ⟨ga, hA, ha⟩ := hc (by omega)
  subst hA
  obtain ⟨a0, a1, A1, n1, e1, B1, m1, f1, a2, a3, ra, rb⟩ := ha k hlt
  have SZK : Hid (szT d L[k].a + szT d L[k].b ≤ 1048576) := Lib.hid (Nat.le_trans (szT_at d L hlt) HSZ.out)
  have REF : Hid (fitT (d + 1) r L = true → 0 < r ∧ nodV L[k].k L[k].v L[k].a.length L[k].b.length = true ∧ okT d (r - 1) L[k].a = true ∧ okT d (r - 1) L[k].b = true ∧ nl + (itN (itT d) (.mk L[k].k L[k].v L[k].a L[k].b)).length ≤ 60) := Lib.hid (fun h => by
    unfold fitT at h
    simp at h
    obtain ⟨q1, q2, q3, q4⟩ := okT_at d r L hlt h.1
    have q5 := itT_le d L hlt
    rw [NL.out] at q5
    exact ⟨q1, q2, q3, q4, by have : itN (itT d) (.mk L[k].k L[k].v L[k].a L[k].b) = itN (itT d) L[k] := rfl; rw [this]; omega⟩)
  have TK : Hid (itT (d + 1) (L.take (k + 1)) = itT (d + 1) (L.take k) ++ itN (itT d) (.mk L[k].k L[k].v L[k].a L[k].b)) := Lib.hid (itT_take d L hlt)
  have OT : Hid (okT (d + 1) r (L.take (k + 1)) = (okT (d + 1) r (L.take k) && (decide (0 < r) && nodV L[k].k L[k].v L[k].a.length L[k].b.length && okT d (r - 1) L[k].a && okT d (r - 1) L[k].b))) := Lib.hid (okT_take d r L hlt)
  obtain ⟨_, A2, e2, q⟩ := nds_form ra
  simp only [Value.slice.injEq] at q
  obtain ⟨rfl, rfl, rfl⟩ := q
  obtain ⟨_, B2, f2, q⟩ := nds_form rb
  simp only [Value.slice.injEq] at q
  obtain ⟨rfl, rfl, rfl⟩ := q
  have RA := Lib.hid ra
  have RB := Lib.hid rb
  have XA := Lib.hid (whole_new wr 64 #[.int .i64 L[k].k, .int .i64 L[k].v, .slice A1 L[k].a.length e1, .slice B1 L[k].b.length f1])
  have BA : Hid (Below wr.heap.size wr (wr.alloc (.cells #[.int .i64 L[k].k, .int .i64 L[k].v, .slice A1 L[k].a.length e1, .slice B1 L[k].b.length f1] 64))) := Lib.hid (below_alloc (Below.refl _ _) _)
  clear ha hc ra rb
  generalize L[k].k = xk at *
  generalize L[k].v = xv at *
  generalize L[k].a = xa at *
  generalize L[k].b = xb at *
  conv => arg 2; whnf
  have B3 := Lib.hid (below_step HB.out BA.out)
  have rz : (((r : Nat) : Int) == 0) = false := by simp [h0]
  have la := len_sz RA.out
  have lb := len_sz RB.out
  have lk := SZK.out
  have wsum : IntKind.i64.wrap ((xa.length : Int) + (xb.length : Int)) = (xa.length : Int) + (xb.length : Int) := IntWalk.i64_in _ (by omega)
  have ts : ¬ (60 : Int) < (xa.length : Int) + (xb.length : Int) := by omega
  have t6 : ¬ (60 : Int) < (nl : Int) := by omega
  have wr1 : IntKind.i64.wrap (((r : Nat) : Int) - 1) = ((r - 1 : Nat) : Int) := by rw [show ((r : Nat) : Int) - 1 = ((r - 1 : Nat) : Int) by omega]; exact IntWalk.i64_in _ (by omega)
  have CA := Lib.hid (IH.out (r - 1) (.slice A1 xa.length e1) xa _ (by omega) (nds_below RA.out BA.out) (by have := SZK.out; omega))
  have SM := Lib.hid hs
  have N6 := Lib.hid h6
  have R0 := Lib.hid h0
  clear hs h6 h0
  go_wp2_with fail
  refine CA.out.mono ?_
  rintro e w1 ⟨A9, n9, c9, rfl, sa, ba⟩
  have B4 := Lib.hid (below_step B3.out ba)
  have XB := Lib.hid (whole_below XA.out ba)
  have x3 := whole_cell XB.out 3
  simp at x3
  have BL := Lib.hid (below_step BA.out ba)
  have CB := Lib.hid (IH.out (r - 1) (.slice B1 xb.length f1) xb _ (by omega) (nds_below RB.out BL.out) (by have := SZK.out; omega))
  have SA := Lib.hid sa
  clear sa ba CA XA a0 a1 a2 a3
  go_wp2_with fail
  refine CB.out.mono ?_
  rintro e w2 ⟨A8, n8, c8, rfl, sb, bb⟩
  have B5 := Lib.hid (below_step B4.out bb)
  have XC := Lib.hid (whole_below XB.out bb)
  have R5 := Lib.hid (irow_below (irow_below HR.out BL.out) bb)
  have SB := Lib.hid sb
  have LQ := Lib.hid (below_step BL.out bb)
  have BB := Lib.hid bb
  clear sb bb CB x3 XB
  have z2 : wr.heap.size + 1 ≤ w2.heap.size := by have := whole_lt XC.out; omega
  have PARTS : Hid (fitT (d + 1) r L = true → fitT d (r - 1) xa = true ∧ fitT d (r - 1) xb = true) := Lib.hid fun p => by
    obtain ⟨p1, p2, p3, p4, p5⟩ := REF.out p
    have q1 := itN_parts (itT d) xk xv xa xb p2 (itT_nil d)
    unfold fitT
    rw [p3, p4]
    simp
    omega
  have ga := Xga.out
  have gb := Xgb.out
  have hkd := Xhkd.out
  clear Xga Xgb Xhkd
  have RWA := Lib.hid (irow_below (SA.out ga) BB.out)
  have RWB := Lib.hid (SB.out gb)
  have OA : Hid (okT d (r - 1) xa = true ∧ (itT d xa).length ≤ 60) := Lib.hid (by unfold fitT at ga; simpa using ga)
  have OB : Hid (okT d (r - 1) xb = true ∧ (itT d xb).length ≤ 60) := Lib.hid (by unfold fitT at gb; simpa using gb)
  have LA := Lib.hid (len_part0 RA.out)
  have LB := Lib.hid (len_part0 RB.out)
  rw [ga, gb]
  obtain ⟨_, A7, c7, e7, _⟩ := irow_its RWA.out
  simp only [Value.slice.injEq] at e7
  obtain ⟨rfl, rfl, rfl⟩ := e7
  obtain ⟨_, A6, c6, e6, _⟩ := irow_its RWB.out
  simp only [Value.slice.injEq] at e6
  obtain ⟨rfl, rfl, rfl⟩ := e6
  obtain ⟨na, hna⟩ : ∃ na, (itT d xa).length = na := ⟨_, rfl⟩
  obtain ⟨nb, hnb⟩ : ∃ nb, (itT d xb).length = nb := ⟨_, rfl⟩
  rw [hna] at RWA OA LA
  rw [hnb] at RWB OB LB
  rw [hna, hnb]
  have NA := Lib.hid hna
  have NB := Lib.hid hnb
  have la60 := OA.out.2
  have lb60 := OB.out.2
  have x0 := whole_cell XC.out 0
  have x1 := whole_cell XC.out 1
  simp at x0 x1
  have wab : IntKind.i64.wrap ((na : Int) + (nb : Int)) = (na : Int) + (nb : Int) := IntWalk.i64_in _ (by omega)
  have REN : Hid (nodV xk xv xa.length xb.length = false → fitT (d + 1) r L = true → False) := Lib.hid fun h p => by have := (REF.out p).2.1; rw [h] at this; cases this
  have NXT : Hid (nodV xk xv xa.length xb.length = true → okT (d + 1) r (L.take (k + 1)) = true) := Lib.hid fun h => by rw [OT.out, HOK.out, h, OA.out.1, OB.out.1]; simp; have := R0.out; omega
  clear hna hnb
  obtain ⟨Q0, hQ0⟩ : ∃ Q0, itT (d + 1) (L.take k) = Q0 := ⟨_, rfl⟩
  rw [hQ0] at R5 NL TK
  have l0 : Q0.length ≤ 60 := by rw [NL.out]; have := N6.out; omega
  obtain ⟨QA, hQA⟩ : ∃ QA, itT d xa = QA := ⟨_, rfl⟩
  have EQA := Lib.hid hQA
  rw [hQA] at RWA NA
  have la : QA.length ≤ 60 := by rw [NA.out]; exact la60
  obtain ⟨QB, hQB⟩ : ∃ QB, itT d xb = QB := ⟨_, rfl⟩
  have EQB := Lib.hid hQB
  rw [hQB] at RWB NB
  have lb : QB.length ≤ 60 := by rw [NB.out]; exact lb60
  have zw := B5.out.size
  have IA : xa = [] ↔ na = 0 := by rw [LA.out, List.length_eq_zero_iff]
  have IB : xb = [] ↔ nb = 0 := by rw [LB.out, List.length_eq_zero_iff]
  clear hQ0 hQA hQB
  subst hkd
  obtain ⟨ib, hib⟩ : ∃ ib, itB ⟨13, xv⟩ = ib := ⟨_, rfl⟩
  have HIB := Lib.hid hib
  clear hib
  go_wp2_with fail
  refine (sItemOK_any ⟨13, xv⟩ _).mono ?_
  rintro e w3 ⟨rfl, h3⟩
  rw [HIB.out]
  have B6 := Lib.hid (below_step B5.out h3)
  have XD := whole_below XC.out h3
  have x0 := whole_cell XD 0
  have x1 := whole_cell XD 1
  simp at x0 x1
  have R6 := Lib.hid (irow_below R5.out h3)
  have zw3 := B6.out.size
  clear h3 XD
  cases ib with
  | false =>
    have FN : Hid (fitT (d + 1) r L = true → False) := Lib.hid (REN.out (by unfold nodV; rw [if_pos (by simp [wrdV]), HIB.out]; rfl))
    go_wp2
    refine HT.out _ _ ?_
    unfold FlRet
    exact ⟨_, _, _, _, _, _, _, _, _, _, _, _, _, _, _, _, _, _, _, _, _, _, _, _, _, _, _, _, _, _, _, _, _, _, _, _, _, _, _, _, _, _, _, _, _, _, _, _, _, _, _, _, _, _, _, _, _, _, _, _, _, _, _, _, _, _, _, _, _, _, _, _, _, _, _, _, _, _, _, _, _, _, _, _, _, _, _, _, _, _, _, _, _, _, _, _, _, _, _, _, _, _, _, _, _, _, _, _, _, _, _, _, _, _, _, _, _, _, _, _, _, _, _, _, _, _, _, _, _, _, _, _, _, _, _, _, _, _, _, _, _, _, _, _, _, _, _, _, _, _, _, _, _, _, _, _, _, _, _, _, _, _, _, _, _, _, _, _, _, _, _, _, _, _, _, _, _, _, _, _, _, _, _, _, _, _, _, _, _, _, _, _, _, _, _, _, _, _, _, _, rfl, _, _, _, rfl, rfl, FN.out, B6.out⟩
  | true =>
    by_cases hz : na + nb = 0
    · have ts : ((na : Int) + (nb : Int) == 0) = true := by simp; omega
      have R7 := Lib.hid (irow_alloc R6.out (.cells #[.int .i64 13, .int .i64 xv] 59))
      have NV : Hid (nodV 13 xv xa.length xb.length = true) := Lib.hid (by unfold nodV; rw [if_pos (by simp [wrdV]), HIB.out]; simp [IA, IB]; omega)
      clear hz IA IB
      go_wp2_with (first
        | (at_builtin; refine wpList_append_items rfl (.tmp 96) (.tmp 102) rfl rfl w.heap.size (.slice C nl c) Q0 R7.out _ [⟨13, xv⟩] (its_one _ ⟨13, xv⟩ _) rfl rfl (by simp; omega) (by simp; omega) ?_
           intro v9 w9 hr9 hg9 hat
           obtain ⟨A9, n9, c9, rfl⟩ := irow_form hr9
           have R9 := Lib.hid (prow_irow hr9)
           have BN : Hid (Below w.heap.size w w9) := Lib.hid ((below_alloc B6.out _).grown hg9 (by simp; omega) (fun g hg => (irow_lt R7.out g hg).1))
           clear hr9 hg9 hat))
      have IE : itN (itT d) (.mk 13 xv xa xb) = [⟨13, xv⟩] := by simp [itN, wrdB, opnK, midK, endK, Nd.k, Nd.v, Nd.a, Nd.b, EQA.out, EQB.out]
      have HF : Hid (IRow w9 w.heap.size (.slice A9 n9 c9) (itT (d + 1) (L.take (k + 1)))) := Lib.hid (by rw [TK.out, IE]; simpa [List.append_assoc] using R9.out)
      have OKN := Lib.hid (NXT.out (by exact NV.out))
      clear IE
      go_wp2
      refine HN.out _ _ ?_
      unfold FlNext
      exact ⟨_, _, _, _, _, _, _, _, _, _, _, _, _, _, _, _, _, _, _, _, _, _, _, _, _, _, _, _, _, _, _, _, _, _, _, _, _, _, _, _, _, _, _, _, _, _, _, _, _, _, _, _, _, _, _, _, _, _, _, _, _, _, _, _, _, _, _, _, _, _, _, _, _, _, _, _, _, _, _, _, _, _, _, _, _, _, _, _, _, _, _, _, _, _, _, _, _, _, _, _, _, _, _, _, _, _, _, _, _, _, _, _, _, _, _, _, _, _, _, _, _, _, _, _, _, _, _, _, _, _, _, _, _, _, _, _, _, _, _, _, _, _, _, _, _, _, _, _, _, _, _, _, _, _, _, _, _, _, _, _, _, _, _, _, _, _, _, _, _, _, _, _, _, _, _, _, _, _, _, _, _, _, _, _, _, _, _, _, _, _, _, _, _, _, _, _, _, _, _, _, rfl, _, _, _, rfl, by go_num, HF.out, OKN.out, BN.out⟩
    · have ts : ((na : Int) + (nb : Int) == 0) = false := by simp; omega
      have FN : Hid (fitT (d + 1) r L = true → False) := Lib.hid (REN.out (by unfold nodV; rw [if_pos (by simp [wrdV]), HIB.out]; simp [IA, IB]; omega))
      clear hz IA IB
      go_wp2
      refine HT.out _ _ ?_
      unfold FlRet
      exact ⟨_, _, _, _, _, _, _, _, _, _, _, _, _, _, _, _, _, _, _, _, _, _, _, _, _, _, _, _, _, _, _, _, _, _, _, _, _, _, _, _, _, _, _, _, _, _, _, _, _, _, _, _, _, _, _, _, _, _, _, _, _, _, _, _, _, _, _, _, _, _, _, _, _, _, _, _, _, _, _, _, _, _, _, _, _, _, _, _, _, _, _, _, _, _, _, _, _, _, _, _, _, _, _, _, _, _, _, _, _, _, _, _, _, _, _, _, _, _, _, _, _, _, _, _, _, _, _, _, _, _, _, _, _, _, _, _, _, _, _, _, _, _, _, _, _, _, _, _, _, _, _, _, _, _, _, _, _, _, _, _, _, _, _, _, _, _, _, _, _, _, _, _, _, _, _, _, _, _, _, _, _, _, _, _, _, _, _, _, _, _, _, _, _, _, _, _, _, _, _, _, rfl, _, _, _, rfl, rfl, FN.out, B6.out⟩

set_option maxRecDepth 1000000 in
set_option maxHeartbeats 40000000 in
theorem flr_k7 (d r : Nat) (L : List Nd) (w wr : World) (A : Option Addr) (ca k n c : Nat) (C : Option Addr) (ih : FlatN d) (hr : r ≤ 9) (hsz : szT (d + 1) L ≤ 1048576) (hv : Nds (d + 1) w (.slice A L.length ca) L) (hk : k ≤ L.length) (hlt : k < L.length) (hl : L.length ≤ 2 ^ 63 - 1)
    (hrw : IRow wr w.heap.size (.slice C n c) (itT (d + 1) (L.take k))) (hok : okT (d + 1) r (L.take k) = true) (hb : Below w.heap.size w wr) (h0 : r ≠ 0) (hs : ¬ 60 < L[k].a.length + L[k].b.length) (h6 : ¬ 60 < n) (ga : fitT d (r - 1) L[k].a = true) (gb : fitT d (r - 1) L[k].b = true) (hkd : L[k].k = 7)
    (Q : Exit → Act → World → Prop) (hnext : ∀ a' w'', FlNext d r L w k A ca a' w'' → Q .normal a' w'') (hret : ∀ a' w'', FlRet d r L w A ca a' w'' → Q .ret a' w'')
    (u4 u5 u8 u9 u10 u11 u12 u14 u15 u16 u17 u18 u19 u20 u21 u22 u23 u24 u25 u26 u27 u28 u29 u30 u31 u32 u33 u34 u35 u36 u37 u38 u39 u40 u41 u42 u43 u44 u45 u46 u47 u48 u49 u50 u51 u52 u53 u54 u55 u56 u57 u58 u59 u60 u61 u62 u63 u64 u65 u66 u67 u68 u69 u70 u71 u72 u73 u74 u75 u76 u77 u78 u79 u80 u81 u82 u83 u84 u85 u86 u87 u88 u89 u90 u91 u92 u93 u94 u95 u96 u97 u98 u99 u100 u101 u102 u103 u104 u105 u106 u107 u108 u109 u110 u111 u112 u113 u114 u115 u116 u117 u118 u119 u120 u121 u122 u123 u124 u125 u126 u127 u128 u129 u130 u131 u132 u133 u134 u135 u136 u137 u138 u139 u140 u141 u142 u143 u144 u145 u146 u147 u148 u149 u150 u151 u152 u153 u154 u155 u156 u157 u158 u159 u160 u161 u162 u163 u164 u165 u166 u167 u168 u169 u170 u171 u172 u173 u174 u175 u176 u177 u178 u179 u180 u181 u182 u183 u184 u185 u186 u187 u188 u189 u190 u191 u192 u193 u194 u195 u196 u197 u198 u199 u200 u201 u202 u203 u204 : Value) : Code.wp Try.prog flBody Q ⟨#[.slice A L.length ca, .int .i64 ((r : Nat) : Int), undef, undef, u4, u5, .slice C n c, .int .i64 ((k : Nat) : Int), u8, u9, u10, u11, u12, .slice (some ⟨w.heap.size, 0, none⟩) 0 0, u14, u15, u16, u17, u18, u19, u20, u21, u22, u23, u24, u25, u26, u27, u28, u29, u30, u31, u32, u33, u34, u35, u36, u37, u38, u39, u40, u41, u42, u43, u44, u45, u46, u47, u48, u49, u50, u51, u52, u53, u54, u55, u56, u57, u58, u59, u60, u61, u62, u63, u64, u65, u66, u67, u68, u69, u70, u71, u72, u73, u74, u75, u76, u77, u78, u79, u80, u81, u82, u83, u84, u85, u86, u87, u88, u89, u90, u91, u92, u93, u94, u95, u96, u97, u98, u99, u100, u101, u102, u103, u104, u105, u106, u107, u108, u109, u110, u111, u112, u113, u114, u115, u116, u117, u118, u119, u120, u121, u122, u123, u124, u125, u126, u127, u128, u129, u130, u131, u132, u133, u134, u135, u136, u137, u138, u139, u140, u141, u142, u143, u144, u145, u146, u147, u148, u149, u150, u151, u152, u153, u154, u155, u156, u157, u158, u159, u160, u161, u162, u163, u164, u165, u166, u167, u168, u169, u170, u171, u172, u173, u174, u175, u176, u177, u178, u179, u180, u181, u182, u183, u184, u185, u186, u187, u188, u189, u190, u191, u192, u193, u194, u195, u196, u197, u198, u199, u200, u201, u202, u203, u204, undef, undef, undef, undef], []⟩ wr := by
  have HV := Lib.hid hv
  have HSZ := Lib.hid hsz
  have IH := Lib.hid ih
  have HN := Lib.hid hnext
  have HT := Lib.hid hret
  clear hnext hret ih hsz hv
  have Xga := Lib.hid ga
  have Xgb := Lib.hid gb
  have Xhkd := Lib.hid hkd
  clear ga gb hkd
  have zr := hb.size
  obtain ⟨_, C', c', e, _⟩ := irow_its hrw
  simp only [Value.slice.injEq] at e
  obtain ⟨rfl, rfl, rfl⟩ := e
  obtain ⟨nl, hnl⟩ : ∃ nl, (itT (d + 1) (L.take k)).length = nl := ⟨_, rfl⟩
  rw [hnl] at hrw h6
  rw [hnl]
  have HB := Lib.hid hb
  have HR := Lib.hid hrw
  have HOK := Lib.hid hok
  have NL := Lib.hid hnl
  clear hb hrw hok hnl
  obtain ⟨_, A', ca', e', hc⟩ := nds_below HV.out HB.out
  simp only [Value.slice.injEq, true_and] at e'
  obtain ⟨rfl, rfl⟩ := e'
  obtain ⟨ga, hA, ha⟩ := hc (by omega)
  subst hA
  obtain ⟨a0, a1, A1, n1, e1, B1, m1, f1, a2, a3, ra, rb⟩ := ha k hlt
  have SZK : Hid (szT d L[k].a + szT d L[k].b ≤ 1048576) := Lib.hid (Nat.le_trans (szT_at d L hlt) HSZ.out)
  have REF : Hid (fitT (d + 1) r L = true → 0 < r ∧ nodV L[k].k L[k].v L[k].a.length L[k].b.length = true ∧ okT d (r - 1) L[k].a = true ∧ okT d (r - 1) L[k].b = true ∧ nl + (itN (itT d) (.mk L[k].k L[k].v L[k].a L[k].b)).length ≤ 60) := Lib.hid (fun h => by
    unfold fitT at h
    simp at h
    obtain ⟨q1, q2, q3, q4⟩ := okT_at d r L hlt h.1
    have q5 := itT_le d L hlt
    rw [NL.out] at q5
    exact ⟨q1, q2, q3, q4, by have : itN (itT d) (.mk L[k].k L[k].v L[k].a L[k].b) = itN (itT d) L[k] := rfl; rw [this]; omega⟩)
  have TK : Hid (itT (d + 1) (L.take (k + 1)) = itT (d + 1) (L.take k) ++ itN (itT d) (.mk L[k].k L[k].v L[k].a L[k].b)) := Lib.hid (itT_take d L hlt)
  have OT : Hid (okT (d + 1) r (L.take (k + 1)) = (okT (d + 1) r (L.take k) && (decide (0 < r) && nodV L[k].k L[k].v L[k].a.length L[k].b.length && okT d (r - 1) L[k].a && okT d (r - 1) L[k].b))) := Lib.hid (okT_take d r L hlt)
  obtain ⟨_, A2, e2, q⟩ := nds_form ra
  simp only [Value.slice.injEq] at q
  obtain ⟨rfl, rfl, rfl⟩ := q
  obtain ⟨_, B2, f2, q⟩ := nds_form rb
  simp only [Value.slice.injEq] at q
  obtain ⟨rfl, rfl, rfl⟩ := q
  have RA := Lib.hid ra
  have RB := Lib.hid rb
  have XA := Lib.hid (whole_new wr 64 #[.int .i64 L[k].k, .int .i64 L[k].v, .slice A1 L[k].a.length e1, .slice B1 L[k].b.length f1])
  have BA : Hid (Below wr.heap.size wr (wr.alloc (.cells #[.int .i64 L[k].k, .int .i64 L[k].v, .slice A1 L[k].a.length e1, .slice B1 L[k].b.length f1] 64))) := Lib.hid (below_alloc (Below.refl _ _) _)
  clear ha hc ra rb
  generalize L[k].k = xk at *
  generalize L[k].v = xv at *
  generalize L[k].a = xa at *
  generalize L[k].b = xb at *
  conv => arg 2; whnf
  have B3 := Lib.hid (below_step HB.out BA.out)
  have rz : (((r : Nat) : Int) == 0) = false := by simp [h0]
  have la := len_sz RA.out
  have lb := len_sz RB.out
  have lk := SZK.out
  have wsum : IntKind.i64.wrap ((xa.length : Int) + (xb.length : Int)) = (xa.length : Int) + (xb.length : Int) := IntWalk.i64_in _ (by omega)
  have ts : ¬ (60 : Int) < (xa.length : Int) + (xb.length : Int) := by omega
  have t6 : ¬ (60 : Int) < (nl : Int) := by omega
  have wr1 : IntKind.i64.wrap (((r : Nat) : Int) - 1) = ((r - 1 : Nat) : Int) := by rw [show ((r : Nat) : Int) - 1 = ((r - 1 : Nat) : Int) by omega]; exact IntWalk.i64_in _ (by omega)
  have CA := Lib.hid (IH.out (r - 1) (.slice A1 xa.length e1) xa _ (by omega) (nds_below RA.out BA.out) (by have := SZK.out; omega))
  have SM := Lib.hid hs
  have N6 := Lib.hid h6
  have R0 := Lib.hid h0
  clear hs h6 h0
  go_wp2_with fail
  refine CA.out.mono ?_
  rintro e w1 ⟨A9, n9, c9, rfl, sa, ba⟩
  have B4 := Lib.hid (below_step B3.out ba)
  have XB := Lib.hid (whole_below XA.out ba)
  have x3 := whole_cell XB.out 3
  simp at x3
  have BL := Lib.hid (below_step BA.out ba)
  have CB := Lib.hid (IH.out (r - 1) (.slice B1 xb.length f1) xb _ (by omega) (nds_below RB.out BL.out) (by have := SZK.out; omega))
  have SA := Lib.hid sa
  clear sa ba CA XA a0 a1 a2 a3
  go_wp2_with fail
  refine CB.out.mono ?_
  rintro e w2 ⟨A8, n8, c8, rfl, sb, bb⟩
  have B5 := Lib.hid (below_step B4.out bb)
  have XC := Lib.hid (whole_below XB.out bb)
  have R5 := Lib.hid (irow_below (irow_below HR.out BL.out) bb)
  have SB := Lib.hid sb
  have LQ := Lib.hid (below_step BL.out bb)
  have BB := Lib.hid bb
  clear sb bb CB x3 XB
  have z2 : wr.heap.size + 1 ≤ w2.heap.size := by have := whole_lt XC.out; omega
  have PARTS : Hid (fitT (d + 1) r L = true → fitT d (r - 1) xa = true ∧ fitT d (r - 1) xb = true) := Lib.hid fun p => by
    obtain ⟨p1, p2, p3, p4, p5⟩ := REF.out p
    have q1 := itN_parts (itT d) xk xv xa xb p2 (itT_nil d)
    unfold fitT
    rw [p3, p4]
    simp
    omega
  have ga := Xga.out
  have gb := Xgb.out
  have hkd := Xhkd.out
  clear Xga Xgb Xhkd
  have RWA := Lib.hid (irow_below (SA.out ga) BB.out)
  have RWB := Lib.hid (SB.out gb)
  have OA : Hid (okT d (r - 1) xa = true ∧ (itT d xa).length ≤ 60) := Lib.hid (by unfold fitT at ga; simpa using ga)
  have OB : Hid (okT d (r - 1) xb = true ∧ (itT d xb).length ≤ 60) := Lib.hid (by unfold fitT at gb; simpa using gb)
  have LA := Lib.hid (len_part0 RA.out)
  have LB := Lib.hid (len_part0 RB.out)
  rw [ga, gb]
  obtain ⟨_, A7, c7, e7, _⟩ := irow_its RWA.out
  simp only [Value.slice.injEq] at e7
  obtain ⟨rfl, rfl, rfl⟩ := e7
  obtain ⟨_, A6, c6, e6, _⟩ := irow_its RWB.out
  simp only [Value.slice.injEq] at e6
  obtain ⟨rfl, rfl, rfl⟩ := e6
  obtain ⟨na, hna⟩ : ∃ na, (itT d xa).length = na := ⟨_, rfl⟩
  obtain ⟨nb, hnb⟩ : ∃ nb, (itT d xb).length = nb := ⟨_, rfl⟩
  rw [hna] at RWA OA LA
  rw [hnb] at RWB OB LB
  rw [hna, hnb]
  have NA := Lib.hid hna
  have NB := Lib.hid hnb
  have la60 := OA.out.2
  have lb60 := OB.out.2
  have x0 := whole_cell XC.out 0
  have x1 := whole_cell XC.out 1
  simp at x0 x1
  have wab : IntKind.i64.wrap ((na : Int) + (nb : Int)) = (na : Int) + (nb : Int) := IntWalk.i64_in _ (by omega)
  have REN : Hid (nodV xk xv xa.length xb.length = false → fitT (d + 1) r L = true → False) := Lib.hid fun h p => by have := (REF.out p).2.1; rw [h] at this; cases this
  have NXT : Hid (nodV xk xv xa.length xb.length = true → okT (d + 1) r (L.take (k + 1)) = true) := Lib.hid fun h => by rw [OT.out, HOK.out, h, OA.out.1, OB.out.1]; simp; have := R0.out; omega
  clear hna hnb
  obtain ⟨Q0, hQ0⟩ : ∃ Q0, itT (d + 1) (L.take k) = Q0 := ⟨_, rfl⟩
  rw [hQ0] at R5 NL TK
  have l0 : Q0.length ≤ 60 := by rw [NL.out]; have := N6.out; omega
  obtain ⟨QA, hQA⟩ : ∃ QA, itT d xa = QA := ⟨_, rfl⟩
  have EQA := Lib.hid hQA
  rw [hQA] at RWA NA
  have la : QA.length ≤ 60 := by rw [NA.out]; exact la60
  obtain ⟨QB, hQB⟩ : ∃ QB, itT d xb = QB := ⟨_, rfl⟩
  have EQB := Lib.hid hQB
  rw [hQB] at RWB NB
  have lb : QB.length ≤ 60 := by rw [NB.out]; exact lb60
  have zw := B5.out.size
  have IA : xa = [] ↔ na = 0 := by rw [LA.out, List.length_eq_zero_iff]
  have IB : xb = [] ↔ nb = 0 := by rw [LB.out, List.length_eq_zero_iff]
  clear hQ0 hQA hQB
  subst hkd
  by_cases v0 : xv = 0
  · subst v0
    by_cases hz : nb = 0
    · have tz : ((nb : Int) == 0) = true := by simp [hz]
      have NV : Hid (nodV 7 0 xa.length xb.length = true) := Lib.hid (by unfold nodV; rw [if_neg (by simp [wrdV]), if_neg (by omega), if_neg (by omega), if_pos (by omega)]; simp [IA, IB]; omega)
      clear IA IB
      go_wp2_with fail
      refine (item1_any 6 _).mono ?_
      rintro e w3 ⟨v_0, rfl, hr, hbb⟩
      obtain ⟨A_0, n_0, c_0, rfl⟩ := irow_form hr
      have BN3 := Lib.hid (below_step B5.out hbb)
      have R5_3 := Lib.hid (irow_below R5.out hbb)
      have RWA_3 := Lib.hid (irow_below RWA.out hbb)
      have RWB_3 := Lib.hid (irow_below RWB.out hbb)
      have K0_3 := Lib.hid hr
      clear hr hbb
      go_wp2_with fail
      refine (item1_any 7 _).mono ?_
      rintro e w4 ⟨v_1, rfl, hr, hbb⟩
      obtain ⟨A_1, n_1, c_1, rfl⟩ := irow_form hr
      have BN4 := Lib.hid (below_step BN3.out hbb)
      have R5_4 := Lib.hid (irow_below R5_3.out hbb)
      have RWA_4 := Lib.hid (irow_below RWA_3.out hbb)
      have RWB_4 := Lib.hid (irow_below RWB_3.out hbb)
      have K0_4 := Lib.hid (irow_below K0_3.out hbb)
      have K1_4 := Lib.hid hr
      clear hr hbb
      have zz := BN4.out.size
      go_wp2_with fail
      refine (cat_any _ 4 [Q0, [⟨6, 0⟩], QA, [⟨7, 0⟩]] _ (cats4 _ _ rfl (irow_its R5_4.out) (irow_its K0_4.out) (irow_its RWA_4.out) (irow_its K1_4.out)) (by simp) rfl (by omega) (by simp; omega)).mono ?_
      rintro e w9 ⟨v9, rfl, hr9, hbb⟩
      obtain ⟨A9, n9, c9, rfl⟩ := irow_form hr9
      have R9 := Lib.hid (irow_base hr9 (show w.heap.size ≤ _ by simp; omega))
      have BN := Lib.hid (below_step (below_alloc BN4.out _) hbb)
      clear hr9 hbb
      have IE : itN (itT d) (.mk 7 0 xa xb) = [⟨6, 0⟩] ++ QA ++ [⟨7, 0⟩] := by simp [itN, wrdB, opnK, midK, endK, Nd.k, Nd.v, Nd.a, Nd.b, EQA.out, EQB.out]
      have HF : Hid (IRow w9 w.heap.size (.slice A9 n9 c9) (itT (d + 1) (L.take (k + 1)))) := Lib.hid (by rw [TK.out, IE]; simpa [List.append_assoc] using R9.out)
      have OKN := Lib.hid (NXT.out (by exact NV.out))
      clear IE
      go_wp2
      refine HN.out _ _ ?_
      unfold FlNext
      exact ⟨_, _, _, _, _, _, _, _, _, _, _, _, _, _, _, _, _, _, _, _, _, _, _, _, _, _, _, _, _, _, _, _, _, _, _, _, _, _, _, _, _, _, _, _, _, _, _, _, _, _, _, _, _, _, _, _, _, _, _, _, _, _, _, _, _, _, _, _, _, _, _, _, _, _, _, _, _, _, _, _, _, _, _, _, _, _, _, _, _, _, _, _, _, _, _, _, _, _, _, _, _, _, _, _, _, _, _, _, _, _, _, _, _, _, _, _, _, _, _, _, _, _, _, _, _, _, _, _, _, _, _, _, _, _, _, _, _, _, _, _, _, _, _, _, _, _, _, _, _, _, _, _, _, _, _, _, _, _, _, _, _, _, _, _, _, _, _, _, _, _, _, _, _, _, _, _, _, _, _, _, _, _, _, _, _, _, _, _, _, _, _, _, _, _, _, _, _, _, _, _, rfl, _, _, _, rfl, by go_num, HF.out, OKN.out, BN.out⟩
    · have tz : ((nb : Int) == 0) = false := by simp [hz]
      have FN : Hid (fitT (d + 1) r L = true → False) := Lib.hid (REN.out (by unfold nodV; rw [if_neg (by simp [wrdV]), if_neg (by omega), if_neg (by omega), if_pos (by omega)]; simp [IA, IB]; omega))
      clear hz IA IB
      go_wp2
      refine HT.out _ _ ?_
      unfold FlRet
      exact ⟨_, _, _, _, _, _, _, _, _, _, _, _, _, _, _, _, _, _, _, _, _, _, _, _, _, _, _, _, _, _, _, _, _, _, _, _, _, _, _, _, _, _, _, _, _, _, _, _, _, _, _, _, _, _, _, _, _, _, _, _, _, _, _, _, _, _, _, _, _, _, _, _, _, _, _, _, _, _, _, _, _, _, _, _, _, _, _, _, _, _, _, _, _, _, _, _, _, _, _, _, _, _, _, _, _, _, _, _, _, _, _, _, _, _, _, _, _, _, _, _, _, _, _, _, _, _, _, _, _, _, _, _, _, _, _, _, _, _, _, _, _, _, _, _, _, _, _, _, _, _, _, _, _, _, _, _, _, _, _, _, _, _, _, _, _, _, _, _, _, _, _, _, _, _, _, _, _, _, _, _, _, _, _, _, _, _, _, _, _, _, _, _, _, _, _, _, _, _, _, _, rfl, _, _, _, rfl, rfl, FN.out, B5.out⟩
  have t0 : (xv == 0) = false := by simp [v0]
  have FN : Hid (fitT (d + 1) r L = true → False) := Lib.hid (REN.out (by unfold nodV; rw [if_neg (by simp [wrdV]), if_neg (by omega), if_neg (by omega), if_pos (by omega)]; simp [v0]))
  clear v0 IA IB
  go_wp2
  refine HT.out _ _ ?_
  unfold FlRet
  exact ⟨_, _, _, _, _, _, _, _, _, _, _, _, _, _, _, _, _, _, _, _, _, _, _, _, _, _, _, _, _, _, _, _, _, _, _, _, _, _, _, _, _, _, _, _, _, _, _, _, _, _, _, _, _, _, _, _, _, _, _, _, _, _, _, _, _, _, _, _, _, _, _, _, _, _, _, _, _, _, _, _, _, _, _, _, _, _, _, _, _, _, _, _, _, _, _, _, _, _, _, _, _, _, _, _, _, _, _, _, _, _, _, _, _, _, _, _, _, _, _, _, _, _, _, _, _, _, _, _, _, _, _, _, _, _, _, _, _, _, _, _, _, _, _, _, _, _, _, _, _, _, _, _, _, _, _, _, _, _, _, _, _, _, _, _, _, _, _, _, _, _, _, _, _, _, _, _, _, _, _, _, _, _, _, _, _, _, _, _, _, _, _, _, _, _, _, _, _, _, _, _, rfl, _, _, _, rfl, rfl, FN.out, B5.out⟩

end Go.Proofs.Ytafhmajnkicifaa
