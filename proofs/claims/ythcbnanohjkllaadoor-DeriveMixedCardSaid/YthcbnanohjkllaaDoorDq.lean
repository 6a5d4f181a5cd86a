/-
  The walk of DeriveMixed (chartroomlaw07).
-/
import Derived.Test.YthcbnanohjkllaaDoorDm
namespace Go.Proofs.YthcbnanohjkllaaDoor
open Go.RowKit
set_option linter.unusedVariables false
set_option linter.unusedSimpArgs false

set_option maxRecDepth 100000 in
set_option maxHeartbeats 4000000 in
theorem mixed_walk7 (s : ByteArray) (hs : s.size ≤ maxLen) (A B : List UInt8) (hA : A.length = 32) (hB : B.length = 32) (w : World) (hT : Tab w) :
    Calls Tryd.prog 8 #[.string s, .agg (bvA A), .agg (bvA B)] w fun e w' => e = .returned (.bool true) ∧ Below w.heap.size w w' := by
  have HT := Lib.hid hT
  have HLA := Lib.hid hA
  have HLB := Lib.hid hB
  have HKB1 := Lib.hid (((KB.start w).box A hA).box B hB)
  rw [show (w.alloc (.cells (bvA A) 24)).heap.size = w.heap.size + 1 by simp] at HKB1
  have hcv := fun W : World => Lib.run_convert_string_bytes (P := Tryd.prog) W 9 22 5 s Tryd.underlying9 Tryd.underlying22 Tryd.underlying5
  have HCV := Lib.hid hcv
  clear hT hA hB hcv
  go_enter Tryd.func8, Tryd.ntmps8
  go_wp2_with (go_at_call 10; refine (dsane_any _ (HT.out.below HKB1.out.below HT.out.lt)).mono ?_; rintro e w2 ⟨rfl, hb⟩; refine Hid.out ?_)
  refine Lib.hid ?_
  have HKB2 := Lib.hid (HKB1.out.call hb)
  clear hb HKB1
  generalize w.heap.size + 1 = gb at *
  generalize w.heap.size = ga at HKB2 ⊢
  by_cases hl : 500 < s.size
  · have f1 : decide ((500 : Int) < (s.size : Int)) = true := decide_eq_true (by omega)
    go_wp2_with fail
    go_ret
    exact ⟨rfl, HKB2.out.below⟩
  have f1 : decide ((500 : Int) < (s.size : Int)) = false := decide_eq_false (by omega)
  have hcv := HCV.out
  have hb1 := below_bytesWorld w2 5 s
  have HKB3 := Lib.hid (HKB2.out.call hb1)
  have HSU := Lib.hid (sum_any (some ⟨w2.heap.size, 0, none⟩) (grownCap w2 s.size 0 5) s.data.toList (Lib.bytesWorld w2 5 s) (HT.out.below HKB3.out.below HT.out.lt) (rd_bytesWorld w2 5 s hs) (grownCap_ge w2 s.size 0 _) (grownCap_le_maxLen w2 s.size 0 _ hs) (by have e : s.data.toList.length = s.size := Array.length_toList; omega))
  have hsz : s.data.toList.length = s.size := Array.length_toList
  rw [hsz] at HSU
  have HSL := Lib.hid (sha_len s.data.toList)
  have HMX := Lib.hid (fun W h => Mix_any s A B HLA.out HLB.out W h (by omega))
  have HMY := Lib.hid (fun W h => Mix_any s B A HLB.out HLA.out W h (by omega))
  have HX0 : Hid (mixS s A B = tagS tagMix (sha s.data.toList ++ A ++ B)) := Lib.hid rfl
  have HXL := Lib.hid (mixS_len s A B)
  have HXE : Hid (A = B → mixS s B A = mixS s A B) := Lib.hid (fun h => by rw [h])
  generalize mixS s B A = Y at *
  generalize mixS s A B = X at *
  obtain ⟨D, hD⟩ : ∃ D, sha s.data.toList = D := ⟨_, rfl⟩
  rw [hD] at HX0 HSL HSU
  clear hb1 hD hsz
  go_wp2_with (go_at_call 25; refine HSU.out.mono ?_; rintro e w3 ⟨rfl, hb⟩; refine Hid.out ?_)
  refine Lib.hid ?_
  have HKB4 := Lib.hid (HKB3.out.call hb)
  clear hb HKB3
  clear HSU HKB2
  generalize w2.heap.size = g0 at *
  generalize grownCap w2 s.size 0 5 = cc at *
  clear hcv
  go_wp2_with (refine wpList_storeA rfl 43 (.tmp 7) (.tmp 16) rfl w3.heap.size (bvA D) rfl rfl 43 _ (BB.new w3 _ (List.replicate 32 0)) (dig_sz _ HSL.out) (key_old _ HSL.out) (bvA_one _) ?_)
  intro w4 h4 hg4
  have hb4 : Below w3.heap.size w3 w4 := grown_below ((Below.refl _ _).alloc (Nat.le_refl _) _) hg4 (Nat.le_refl _) (by simp)
  have HKB5 := Lib.hid (HKB4.out.call hb4)
  have HD4 : Hid (BB w4 w3.heap.size 43 D) := Lib.hid h4
  clear hb4 h4 hg4 HKB4
  generalize w3.heap.size = g at *
  obtain ⟨P, hP⟩ : ∃ P, D ++ A = P := ⟨_, rfl⟩
  obtain ⟨Q, hQ⟩ : ∃ Q, P ++ B = Q := ⟨_, rfl⟩
  have HPL : Hid (P.length = 64) := Lib.hid (by rw [← hP, List.length_append, HSL.out, HLA.out])
  have HQL : Hid (Q.length = 96) := Lib.hid (by rw [← hQ, List.length_append, HPL.out, HLB.out])
  rw [hP, hQ] at HX0
  have HPP := Lib.hid hP
  have HQQ := Lib.hid hQ
  clear hP hQ
  go_wp2_with fail
  have HE0 : Hid (Below w4.heap.size w4 w4.drew) := Lib.hid (Below.refl _ _).drew
  refine wp_region_held_drew (S := fun _ => True) (by kernel_rfl) trivial (fun hHeld => ?_)
  refine wpAnyH_take (i := 1) (v := .slice (some ⟨g, 0, none⟩) 32 32) rfl (by kernel_rfl) (by kernel_rfl) (by kernel_rfl) (fun _ _ _ h => h) (Or.inl ⟨by rfl, fun w _ => by go_simp⟩) hHeld ?_
  simp only [Act.put, List.getElem_toArray, List.getElem_cons_zero, List.getElem_cons_succ, List.setIfInBounds_toArray, List.set_cons_zero, List.set_cons_succ]
  refine wpAnyH_take (i := 3) (v := .slice (some ⟨ga, 0, none⟩) 32 32) rfl (by kernel_rfl) (by kernel_rfl) (by kernel_rfl) (fun _ _ _ h => h) (Or.inl ⟨by rfl, fun w _ => by go_simp⟩) hHeld ?_
  simp only [Act.put, List.getElem_toArray, List.getElem_cons_zero, List.getElem_cons_succ, List.setIfInBounds_toArray, List.set_cons_zero, List.set_cons_succ]
  refine wpAnyH_take (i := 5) (v := .slice (some ⟨gb, 0, none⟩) 32 32) rfl (by kernel_rfl) (by kernel_rfl) (by kernel_rfl) (fun _ _ _ h => h) (Or.inl ⟨by rfl, fun w _ => by go_simp⟩) hHeld ?_
  simp only [Act.put, List.getElem_toArray, List.getElem_cons_zero, List.getElem_cons_succ, List.setIfInBounds_toArray, List.set_cons_zero, List.set_cons_succ]
  refine wpAnyH_ready (rs := [0]) (by kernel_rfl) (by simp) (AllReadyH.cons rfl (fun K0 hK => ?_) AllReadyH.nil)
  rw [if_pos (by rfl)]
  refine wp_nil0 rfl ?_
  intro u2 g2 ho hg2 hb
  have HO2 : Hid (OwnB w4.heap.size u2 (.slice (some ⟨g2, 0, none⟩) 0 0) []) := Lib.hid (ho.mono HE0.out.size)
  have HE2 := Lib.hid (HE0.out.trans (hb.mono HE0.out.size))
  clear ho hg2 hb
  refine hK.out _ _ trivial (fun hHeld => ?_)
  clear hK K0
  try simp only [Act.put, List.getElem_toArray, List.getElem_cons_zero, List.getElem_cons_succ, List.setIfInBounds_toArray, List.set_cons_zero, List.set_cons_succ]
  refine wpAnyH_ready (rs := [2]) (by kernel_rfl) (by simp) (AllReadyH.cons rfl (fun K0 hK => ?_) AllReadyH.nil)
  rw [if_pos (by rfl)]
  refine wp_appB (.tmp 17) (.tmp 18) rfl w4.heap.size _ [] D _ 32 rfl HO2.out (by rw [HSL.out]; rfl) ((HD4.out.below HE2.out HD4.out.lt).rdBm HSL.out) (fun h => by cases h) (by rw [HSL.out]; decide) HE2.out.size ?_
  intro v3 u3 ho hg
  have HO3 : Hid (OwnB w4.heap.size u3 v3 D) := Lib.hid (ho)
  have HE3 := Lib.hid (HE2.out.trans (hg.below (fun r hr => HO2.out.base r hr) HE2.out.size))
  clear ho hg
  refine hK.out _ _ trivial (fun hHeld => ?_)
  clear hK K0
  try simp only [Act.put, List.getElem_toArray, List.getElem_cons_zero, List.getElem_cons_succ, List.setIfInBounds_toArray, List.set_cons_zero, List.set_cons_succ]
  refine wpAnyH_ready (rs := [4]) (by kernel_rfl) (by simp) (AllReadyH.cons rfl (fun K0 hK => ?_) AllReadyH.nil)
  rw [if_pos (by rfl)]
  refine wp_appB (.tmp 19) (.tmp 20) rfl w4.heap.size _ D A _ 32 rfl HO3.out (by rw [HLA.out]; rfl) (((HKB5.out.call HE3.out).key ga A (by simp)).rdBm HLA.out) (fun h => by cases h) (by rw [HSL.out, HLA.out]; decide) HE3.out.size ?_
  intro v4 u4 ho hg
  have HO4 : Hid (OwnB w4.heap.size u4 v4 P) := Lib.hid (HPP.out ▸ ho)
  have HE4 := Lib.hid (HE3.out.trans (hg.below (fun r hr => HO3.out.base r hr) HE3.out.size))
  clear ho hg
  refine hK.out _ _ trivial (fun hHeld => ?_)
  clear hK K0
  try simp only [Act.put, List.getElem_toArray, List.getElem_cons_zero, List.getElem_cons_succ, List.setIfInBounds_toArray, List.set_cons_zero, List.set_cons_succ]
  refine wpAnyH_ready (rs := [6]) (by kernel_rfl) (by simp) (AllReadyH.cons rfl (fun K0 hK => ?_) AllReadyH.nil)
  rw [if_pos (by rfl)]
  refine wp_appB (.tmp 21) (.tmp 22) rfl w4.heap.size _ P B _ 32 rfl HO4.out (by rw [HLB.out]; rfl) (((HKB5.out.call HE4.out).key gb B (by simp)).rdBm HLB.out) (fun h => by cases h) (by rw [HPL.out, HLB.out]; decide) HE4.out.size ?_
  intro v5 u5 ho hg
  have HO5 : Hid (OwnB w4.heap.size u5 v5 Q) := Lib.hid (HQQ.out ▸ ho)
  have HE5 := Lib.hid (HE4.out.trans (hg.below (fun r hr => HO4.out.base r hr) HE4.out.size))
  clear ho hg
  refine hK.out _ _ trivial (fun hHeld => ?_)
  clear hK K0
  try simp only [Act.put, List.getElem_toArray, List.getElem_cons_zero, List.getElem_cons_succ, List.setIfInBounds_toArray, List.set_cons_zero, List.set_cons_succ]
  obtain ⟨a5, c5, hv5, -, -⟩ := HO5.out.form
  rw [hv5] at HO5
  subst hv5
  rw [HQL.out] at HO5 ⊢
  refine wpAnyH_take (i := 7) (v := .slice a5 96 c5) rfl (by kernel_rfl) (by kernel_rfl) (by kernel_rfl) (fun _ _ _ h => h) (Or.inl ⟨by rfl, fun w _ => by go_simp⟩) hHeld ?_
  simp only [Act.put, List.getElem_toArray, List.getElem_cons_zero, List.getElem_cons_succ, List.setIfInBounds_toArray, List.set_cons_zero, List.set_cons_succ]
  refine wpAnyH_done (by kernel_rfl) ?_ _
  have HKB6 := Lib.hid (HKB5.out.call HE5.out)
  have HE6 := Lib.hid (HE5.out)
  clear hHeld HO2 HE2 HO3 HE3 HO4 HE4 HE0 HD4 HKB5 HE5
  have HB4 : Hid (w4.heap.size ≤ u5.heap.size) := Lib.hid HE6.out.size
  clear HE6
  generalize w4.heap.size = b4 at *
  have eX := fun W => equal_keyS X HXL.out W
  go_wp2_with fail
  have HE0 : Hid (Below u5.heap.size u5 u5.drew) := Lib.hid (Below.refl _ _).drew
  by_cases hAB : A = B
  · skip
    have hYX := (HXE.out hAB).symm
    subst hAB
    subst hYX
    have eA := fun W => equal_keyS A HLA.out W
    refine wp_region_held_drew (S := KB w [(gb, A), (ga, A)]) (by kernel_rfl) (HKB6.out.call HE0.out) (fun hHeld => ?_)
    refine wpAnyH_take (i := 1) (v := .agg (bvA A)) rfl (by kernel_rfl) (by kernel_rfl) (by kernel_rfl) (fun _ _ _ h => h) (yieldsIf_load_mid (by rfl) 24 (.tmp 4) rfl ga 0 rfl (A.map bv) _ (fun _ h => (h.key ga A (by simp)).range) Tryd.underlying24 rfl (key_szl _ HLA.out)) hHeld ?_
    simp only [Act.put, List.getElem_toArray, List.getElem_cons_zero, List.getElem_cons_succ, List.setIfInBounds_toArray, List.set_cons_zero, List.set_cons_succ]
    refine wpAnyH_take (i := 2) (v := .agg (bvA A)) rfl (by kernel_rfl) (by kernel_rfl) (by kernel_rfl) (fun _ _ _ h => h) (yieldsIf_load_mid (by rfl) 24 (.tmp 5) rfl gb 0 rfl (A.map bv) _ (fun _ h => (h.key gb A (by simp)).range) Tryd.underlying24 rfl (key_szl _ HLB.out)) hHeld ?_
    simp only [Act.put, List.getElem_toArray, List.getElem_cons_zero, List.getElem_cons_succ, List.setIfInBounds_toArray, List.set_cons_zero, List.set_cons_succ]
    refine wpAnyH_take (i := 0) (v := .string s) rfl (by kernel_rfl) (by kernel_rfl) (by kernel_rfl) (fun _ _ _ h => h) (Or.inl ⟨by rfl, fun w _ => by go_simp⟩) hHeld ?_
    simp only [Act.put, List.getElem_toArray, List.getElem_cons_zero, List.getElem_cons_succ, List.setIfInBounds_toArray, List.set_cons_zero, List.set_cons_succ]
    refine wpAnyH_take (i := 4) (v := .slice a5 96 c5) rfl (by kernel_rfl) (by kernel_rfl) (by kernel_rfl) (fun _ _ _ h => h) (Or.inl ⟨by rfl, fun w _ => by go_simp⟩) hHeld ?_
    simp only [Act.put, List.getElem_toArray, List.getElem_cons_zero, List.getElem_cons_succ, List.setIfInBounds_toArray, List.set_cons_zero, List.set_cons_succ]
    refine wpAnyH_ready (rs := [3]) (by kernel_rfl) (by simp) (AllReadyH.cons rfl (fun K0 hK => ?_) AllReadyH.nil)
    rw [if_pos (by rfl)]
    go_simp
    refine (HMX.out _ (HT.out.below (HKB6.out.call HE0.out).below HT.out.lt)).mono ?_
    rintro e z1 ⟨rfl, hb⟩
    have HE1 := Lib.hid (HE0.out.trans (hb.mono HE0.out.size))
    try go_wp2_with fail
    refine hK.out _ _ (HKB6.out.call HE1.out) (fun hHeld => ?_)
    clear hK K0
    try simp only [Act.put, List.getElem_toArray, List.getElem_cons_zero, List.getElem_cons_succ, List.setIfInBounds_toArray, List.set_cons_zero, List.set_cons_succ]
    have HO7 := Lib.hid (HO5.out.below HE1.out)
    have hc := Tagged_any ⟨#[109, 105, 120]⟩ a5 c5 Q z1 (HT.out.below (HKB6.out.call HE1.out).below HT.out.lt) HO7.out.rd (by rw [HQL.out]; have := HO7.out.caps.1; rw [HQL.out] at this; exact this) HO7.out.caps.2 (by decide) (by rw [HQL.out]; decide)
    rw [HQL.out, show tagS (ByteArray.mk #[109, 105, 120]).data.toList Q = X from HX0.out.symm] at hc
    have HC := Lib.hid hc
    clear hc
    refine wpAnyH_ready (rs := [5]) (by kernel_rfl) (by simp) (AllReadyH.cons rfl (fun K0 hK => ?_) AllReadyH.nil)
    rw [if_pos (by rfl)]
    go_simp
    refine HC.out.mono ?_
    rintro e z2 ⟨rfl, hb⟩
    have HE2 := Lib.hid (HE1.out.trans (hb.mono HE1.out.size))
    try go_wp2_with fail
    refine hK.out _ _ (HKB6.out.call HE2.out) (fun hHeld => ?_)
    clear hK K0
    try simp only [Act.put, List.getElem_toArray, List.getElem_cons_zero, List.getElem_cons_succ, List.setIfInBounds_toArray, List.set_cons_zero, List.set_cons_succ]
    refine wpAnyH_take (i := 6) (v := .bool true) rfl (by kernel_rfl) (by kernel_rfl) (by kernel_rfl) (fun _ _ _ h => h) (Or.inl ⟨by rfl, fun w _ => run_eqK (.tmp 27) (.tmp 29) (bvA X) (bvA X) true rfl rfl rfl (eX w)⟩) hHeld ?_
    simp only [Act.put, List.getElem_toArray, List.getElem_cons_zero, List.getElem_cons_succ, List.setIfInBounds_toArray, List.set_cons_zero, List.set_cons_succ]
    refine wpAnyH_take (i := 7) (v := .bool true) rfl (by kernel_rfl) (by kernel_rfl) (by kernel_rfl) (fun _ _ _ h => h) (Or.inl ⟨by rfl, fun w _ => by go_simp⟩) hHeld ?_
    simp only [Act.put, List.getElem_toArray, List.getElem_cons_zero, List.getElem_cons_succ, List.setIfInBounds_toArray, List.set_cons_zero, List.set_cons_succ]
    refine wpAnyH_take (i := 8) (v := .agg (bvA A)) rfl (by kernel_rfl) (by kernel_rfl) (by kernel_rfl) (fun _ _ _ h => h) (yieldsIf_load_mid (by rfl) 24 (.tmp 4) rfl ga 0 rfl (A.map bv) _ (fun _ h => (h.key ga A (by simp)).range) Tryd.underlying24 rfl (key_szl _ HLA.out)) hHeld ?_
    simp only [Act.put, List.getElem_toArray, List.getElem_cons_zero, List.getElem_cons_succ, List.setIfInBounds_toArray, List.set_cons_zero, List.set_cons_succ]
    refine wpAnyH_take (i := 9) (v := .agg (bvA A)) rfl (by kernel_rfl) (by kernel_rfl) (by kernel_rfl) (fun _ _ _ h => h) (yieldsIf_load_mid (by rfl) 24 (.tmp 5) rfl gb 0 rfl (A.map bv) _ (fun _ h => (h.key gb A (by simp)).range) Tryd.underlying24 rfl (key_szl _ HLB.out)) hHeld ?_
    simp only [Act.put, List.getElem_toArray, List.getElem_cons_zero, List.getElem_cons_succ, List.setIfInBounds_toArray, List.set_cons_zero, List.set_cons_succ]
    refine wpAnyH_take (i := 10) (v := .bool false) rfl (by kernel_rfl) (by kernel_rfl) (by kernel_rfl) (fun _ _ _ h => h) (Or.inl ⟨by rfl, fun w _ => run_neK (.tmp 32) (.tmp 33) (bvA A) (bvA A) true rfl rfl rfl (eA w)⟩) hHeld ?_
    simp only [Act.put, List.getElem_toArray, List.getElem_cons_zero, List.getElem_cons_succ, List.setIfInBounds_toArray, List.set_cons_zero, List.set_cons_succ]
    refine wpAnyH_take (i := 11) (v := .bool false) rfl (by kernel_rfl) (by kernel_rfl) (by kernel_rfl) (fun _ _ _ h => h) (Or.inl ⟨by rfl, fun w _ => by go_simp⟩) hHeld ?_
    simp only [Act.put, List.getElem_toArray, List.getElem_cons_zero, List.getElem_cons_succ, List.setIfInBounds_toArray, List.set_cons_zero, List.set_cons_succ]
    refine wpAnyH_take (i := 12) (v := .string s) rfl (by kernel_rfl) (by kernel_rfl) (by kernel_rfl) (fun _ _ _ h => h) (Or.inl ⟨by rfl, fun w _ => by go_simp⟩) hHeld ?_
    simp only [Act.put, List.getElem_toArray, List.getElem_cons_zero, List.getElem_cons_succ, List.setIfInBounds_toArray, List.set_cons_zero, List.set_cons_succ]
    refine wpAnyH_take (i := 13) (v := .agg (bvA A)) rfl (by kernel_rfl) (by kernel_rfl) (by kernel_rfl) (fun _ _ _ h => h) (yieldsIf_load_mid (by rfl) 24 (.tmp 4) rfl ga 0 rfl (A.map bv) _ (fun _ h => (h.key ga A (by simp)).range) Tryd.underlying24 rfl (key_szl _ HLA.out)) hHeld ?_
    simp only [Act.put, List.getElem_toArray, List.getElem_cons_zero, List.getElem_cons_succ, List.setIfInBounds_toArray, List.set_cons_zero, List.set_cons_succ]
    refine wpAnyH_take (i := 14) (v := .agg (bvA A)) rfl (by kernel_rfl) (by kernel_rfl) (by kernel_rfl) (fun _ _ _ h => h) (yieldsIf_load_mid (by rfl) 24 (.tmp 5) rfl gb 0 rfl (A.map bv) _ (fun _ h => (h.key gb A (by simp)).range) Tryd.underlying24 rfl (key_szl _ HLB.out)) hHeld ?_
    simp only [Act.put, List.getElem_toArray, List.getElem_cons_zero, List.getElem_cons_succ, List.setIfInBounds_toArray, List.set_cons_zero, List.set_cons_succ]
    refine wpAnyH_take (i := 16) (v := .string s) rfl (by kernel_rfl) (by kernel_rfl) (by kernel_rfl) (fun _ _ _ h => h) (Or.inl ⟨by rfl, fun w _ => by go_simp⟩) hHeld ?_
    simp only [Act.put, List.getElem_toArray, List.getElem_cons_zero, List.getElem_cons_succ, List.setIfInBounds_toArray, List.set_cons_zero, List.set_cons_succ]
    refine wpAnyH_take (i := 17) (v := .agg (bvA A)) rfl (by kernel_rfl) (by kernel_rfl) (by kernel_rfl) (fun _ _ _ h => h) (yieldsIf_load_mid (by rfl) 24 (.tmp 5) rfl gb 0 rfl (A.map bv) _ (fun _ h => (h.key gb A (by simp)).range) Tryd.underlying24 rfl (key_szl _ HLB.out)) hHeld ?_
    simp only [Act.put, List.getElem_toArray, List.getElem_cons_zero, List.getElem_cons_succ, List.setIfInBounds_toArray, List.set_cons_zero, List.set_cons_succ]
    refine wpAnyH_take (i := 18) (v := .agg (bvA A)) rfl (by kernel_rfl) (by kernel_rfl) (by kernel_rfl) (fun _ _ _ h => h) (yieldsIf_load_mid (by rfl) 24 (.tmp 4) rfl ga 0 rfl (A.map bv) _ (fun _ h => (h.key ga A (by simp)).range) Tryd.underlying24 rfl (key_szl _ HLA.out)) hHeld ?_
    simp only [Act.put, List.getElem_toArray, List.getElem_cons_zero, List.getElem_cons_succ, List.setIfInBounds_toArray, List.set_cons_zero, List.set_cons_succ]
    refine wpAnyH_ready (rs := [15]) (by kernel_rfl) (by simp) (AllReadyH.cons rfl (fun K0 hK => ?_) AllReadyH.nil)
    rw [if_pos (by rfl)]
    go_simp
    refine (HMX.out _ (HT.out.below (HKB6.out.call HE2.out).below HT.out.lt)).mono ?_
    rintro e z3 ⟨rfl, hb⟩
    have HE3 := Lib.hid (HE2.out.trans (hb.mono HE2.out.size))
    try go_wp2_with fail
    refine hK.out _ _ (HKB6.out.call HE3.out) (fun hHeld => ?_)
    clear hK K0
    try simp only [Act.put, List.getElem_toArray, List.getElem_cons_zero, List.getElem_cons_succ, List.setIfInBounds_toArray, List.set_cons_zero, List.set_cons_succ]
    refine wpAnyH_ready (rs := [19]) (by kernel_rfl) (by simp) (AllReadyH.cons rfl (fun K0 hK => ?_) AllReadyH.nil)
    rw [if_pos (by rfl)]
    go_simp
    refine (HMX.out _ (HT.out.below (HKB6.out.call HE3.out).below HT.out.lt)).mono ?_
    rintro e z4 ⟨rfl, hb⟩
    have HE4 := Lib.hid (HE3.out.trans (hb.mono HE3.out.size))
    try go_wp2_with fail
    refine hK.out _ _ (HKB6.out.call HE4.out) (fun hHeld => ?_)
    clear hK K0
    try simp only [Act.put, List.getElem_toArray, List.getElem_cons_zero, List.getElem_cons_succ, List.setIfInBounds_toArray, List.set_cons_zero, List.set_cons_succ]
    refine wpAnyH_take (i := 20) (v := .bool true) rfl (by kernel_rfl) (by kernel_rfl) (by kernel_rfl) (fun _ _ _ h => h) (Or.inl ⟨by rfl, fun w _ => run_eqK (.tmp 39) (.tmp 43) (bvA X) (bvA X) true rfl rfl rfl (eX w)⟩) hHeld ?_
    simp only [Act.put, List.getElem_toArray, List.getElem_cons_zero, List.getElem_cons_succ, List.setIfInBounds_toArray, List.set_cons_zero, List.set_cons_succ]
    refine wpAnyH_take (i := 21) (v := .bool true) rfl (by kernel_rfl) (by kernel_rfl) (by kernel_rfl) (fun _ _ _ h => h) (Or.inl ⟨by rfl, fun w _ => by go_simp⟩) hHeld ?_
    simp only [Act.put, List.getElem_toArray, List.getElem_cons_zero, List.getElem_cons_succ, List.setIfInBounds_toArray, List.set_cons_zero, List.set_cons_succ]
    refine wpAnyH_take (i := 22) (v := .bool true) rfl (by kernel_rfl) (by kernel_rfl) (by kernel_rfl) (fun _ _ _ h => h) (Or.inl ⟨by rfl, fun w _ => by go_simp⟩) hHeld ?_
    simp only [Act.put, List.getElem_toArray, List.getElem_cons_zero, List.getElem_cons_succ, List.setIfInBounds_toArray, List.set_cons_zero, List.set_cons_succ]
    refine wpAnyH_take (i := 23) (v := .bool true) rfl (by kernel_rfl) (by kernel_rfl) (by kernel_rfl) (fun _ _ _ h => h) (Or.inl ⟨by rfl, fun w _ => by go_simp⟩) hHeld ?_
    simp only [Act.put, List.getElem_toArray, List.getElem_cons_zero, List.getElem_cons_succ, List.setIfInBounds_toArray, List.set_cons_zero, List.set_cons_succ]
    refine wpAnyH_done (by kernel_rfl) ?_ _
    have HKBF := Lib.hid (HKB6.out.call HE4.out)
    clear hHeld
    go_wp2_with fail
    go_ret
    exact ⟨rfl, HKBF.out.below⟩
  · skip
    have eAB := fun W => equal_key A B HLA.out HLB.out W
    rw [show deq A B = false by unfold deq; exact beq_eq_false_iff_ne.2 hAB] at eAB
    refine wp_region_held_drew (S := KB w [(gb, B), (ga, A)]) (by kernel_rfl) (HKB6.out.call HE0.out) (fun hHeld => ?_)
    refine wpAnyH_take (i := 1) (v := .agg (bvA A)) rfl (by kernel_rfl) (by kernel_rfl) (by kernel_rfl) (fun _ _ _ h => h) (yieldsIf_load_mid (by rfl) 24 (.tmp 4) rfl ga 0 rfl (A.map bv) _ (fun _ h => (h.key ga A (by simp)).range) Tryd.underlying24 rfl (key_szl _ HLA.out)) hHeld ?_
    simp only [Act.put, List.getElem_toArray, List.getElem_cons_zero, List.getElem_cons_succ, List.setIfInBounds_toArray, List.set_cons_zero, List.set_cons_succ]
    refine wpAnyH_take (i := 2) (v := .agg (bvA B)) rfl (by kernel_rfl) (by kernel_rfl) (by kernel_rfl) (fun _ _ _ h => h) (yieldsIf_load_mid (by rfl) 24 (.tmp 5) rfl gb 0 rfl (B.map bv) _ (fun _ h => (h.key gb B (by simp)).range) Tryd.underlying24 rfl (key_szl _ HLB.out)) hHeld ?_
    simp only [Act.put, List.getElem_toArray, List.getElem_cons_zero, List.getElem_cons_succ, List.setIfInBounds_toArray, List.set_cons_zero, List.set_cons_succ]
    refine wpAnyH_take (i := 0) (v := .string s) rfl (by kernel_rfl) (by kernel_rfl) (by kernel_rfl) (fun _ _ _ h => h) (Or.inl ⟨by rfl, fun w _ => by go_simp⟩) hHeld ?_
    simp only [Act.put, List.getElem_toArray, List.getElem_cons_zero, List.getElem_cons_succ, List.setIfInBounds_toArray, List.set_cons_zero, List.set_cons_succ]
    refine wpAnyH_take (i := 4) (v := .slice a5 96 c5) rfl (by kernel_rfl) (by kernel_rfl) (by kernel_rfl) (fun _ _ _ h => h) (Or.inl ⟨by rfl, fun w _ => by go_simp⟩) hHeld ?_
    simp only [Act.put, List.getElem_toArray, List.getElem_cons_zero, List.getElem_cons_succ, List.setIfInBounds_toArray, List.set_cons_zero, List.set_cons_succ]
    refine wpAnyH_ready (rs := [3]) (by kernel_rfl) (by simp) (AllReadyH.cons rfl (fun K0 hK => ?_) AllReadyH.nil)
    rw [if_pos (by rfl)]
    go_simp
    refine (HMX.out _ (HT.out.below (HKB6.out.call HE0.out).below HT.out.lt)).mono ?_
    rintro e z1 ⟨rfl, hb⟩
    have HE1 := Lib.hid (HE0.out.trans (hb.mono HE0.out.size))
    try go_wp2_with fail
    refine hK.out _ _ (HKB6.out.call HE1.out) (fun hHeld => ?_)
    clear hK K0
    try simp only [Act.put, List.getElem_toArray, List.getElem_cons_zero, List.getElem_cons_succ, List.setIfInBounds_toArray, List.set_cons_zero, List.set_cons_succ]
    have HO7 := Lib.hid (HO5.out.below HE1.out)
    have hc := Tagged_any ⟨#[109, 105, 120]⟩ a5 c5 Q z1 (HT.out.below (HKB6.out.call HE1.out).below HT.out.lt) HO7.out.rd (by rw [HQL.out]; have := HO7.out.caps.1; rw [HQL.out] at this; exact this) HO7.out.caps.2 (by decide) (by rw [HQL.out]; decide)
    rw [HQL.out, show tagS (ByteArray.mk #[109, 105, 120]).data.toList Q = X from HX0.out.symm] at hc
    have HC := Lib.hid hc
    clear hc
    refine wpAnyH_ready (rs := [5]) (by kernel_rfl) (by simp) (AllReadyH.cons rfl (fun K0 hK => ?_) AllReadyH.nil)
    rw [if_pos (by rfl)]
    go_simp
    refine HC.out.mono ?_
    rintro e z2 ⟨rfl, hb⟩
    have HE2 := Lib.hid (HE1.out.trans (hb.mono HE1.out.size))
    try go_wp2_with fail
    refine hK.out _ _ (HKB6.out.call HE2.out) (fun hHeld => ?_)
    clear hK K0
    try simp only [Act.put, List.getElem_toArray, List.getElem_cons_zero, List.getElem_cons_succ, List.setIfInBounds_toArray, List.set_cons_zero, List.set_cons_succ]
    refine wpAnyH_take (i := 6) (v := .bool true) rfl (by kernel_rfl) (by kernel_rfl) (by kernel_rfl) (fun _ _ _ h => h) (Or.inl ⟨by rfl, fun w _ => run_eqK (.tmp 27) (.tmp 29) (bvA X) (bvA X) true rfl rfl rfl (eX w)⟩) hHeld ?_
    simp only [Act.put, List.getElem_toArray, List.getElem_cons_zero, List.getElem_cons_succ, List.setIfInBounds_toArray, List.set_cons_zero, List.set_cons_succ]
    refine wpAnyH_take (i := 7) (v := .bool true) rfl (by kernel_rfl) (by kernel_rfl) (by kernel_rfl) (fun _ _ _ h => h) (Or.inl ⟨by rfl, fun w _ => by go_simp⟩) hHeld ?_
    simp only [Act.put, List.getElem_toArray, List.getElem_cons_zero, List.getElem_cons_succ, List.setIfInBounds_toArray, List.set_cons_zero, List.set_cons_succ]
    refine wpAnyH_take (i := 8) (v := .agg (bvA A)) rfl (by kernel_rfl) (by kernel_rfl) (by kernel_rfl) (fun _ _ _ h => h) (yieldsIf_load_mid (by rfl) 24 (.tmp 4) rfl ga 0 rfl (A.map bv) _ (fun _ h => (h.key ga A (by simp)).range) Tryd.underlying24 rfl (key_szl _ HLA.out)) hHeld ?_
    simp only [Act.put, List.getElem_toArray, List.getElem_cons_zero, List.getElem_cons_succ, List.setIfInBounds_toArray, List.set_cons_zero, List.set_cons_succ]
    refine wpAnyH_take (i := 9) (v := .agg (bvA B)) rfl (by kernel_rfl) (by kernel_rfl) (by kernel_rfl) (fun _ _ _ h => h) (yieldsIf_load_mid (by rfl) 24 (.tmp 5) rfl gb 0 rfl (B.map bv) _ (fun _ h => (h.key gb B (by simp)).range) Tryd.underlying24 rfl (key_szl _ HLB.out)) hHeld ?_
    simp only [Act.put, List.getElem_toArray, List.getElem_cons_zero, List.getElem_cons_succ, List.setIfInBounds_toArray, List.set_cons_zero, List.set_cons_succ]
    refine wpAnyH_take (i := 10) (v := .bool true) rfl (by kernel_rfl) (by kernel_rfl) (by kernel_rfl) (fun _ _ _ h => h) (Or.inl ⟨by rfl, fun w _ => run_neK (.tmp 32) (.tmp 33) (bvA A) (bvA B) false rfl rfl rfl (eAB w)⟩) hHeld ?_
    simp only [Act.put, List.getElem_toArray, List.getElem_cons_zero, List.getElem_cons_succ, List.setIfInBounds_toArray, List.set_cons_zero, List.set_cons_succ]
    refine wpAnyH_take (i := 11) (v := .bool true) rfl (by kernel_rfl) (by kernel_rfl) (by kernel_rfl) (fun _ _ _ h => h) (Or.inl ⟨by rfl, fun w _ => by go_simp⟩) hHeld ?_
    simp only [Act.put, List.getElem_toArray, List.getElem_cons_zero, List.getElem_cons_succ, List.setIfInBounds_toArray, List.set_cons_zero, List.set_cons_succ]
    refine wpAnyH_take (i := 12) (v := undef) rfl (by kernel_rfl) (by kernel_rfl) (by kernel_rfl) (fun _ _ _ h => h) (Or.inr ⟨by rfl, rfl⟩) hHeld ?_
    simp only [Act.put, List.getElem_toArray, List.getElem_cons_zero, List.getElem_cons_succ, List.setIfInBounds_toArray, List.set_cons_zero, List.set_cons_succ]
    refine wpAnyH_take (i := 13) (v := undef) rfl (by kernel_rfl) (by kernel_rfl) (by kernel_rfl) (fun _ _ _ h => h) (Or.inr ⟨by rfl, rfl⟩) hHeld ?_
    simp only [Act.put, List.getElem_toArray, List.getElem_cons_zero, List.getElem_cons_succ, List.setIfInBounds_toArray, List.set_cons_zero, List.set_cons_succ]
    refine wpAnyH_take (i := 14) (v := undef) rfl (by kernel_rfl) (by kernel_rfl) (by kernel_rfl) (fun _ _ _ h => h) (Or.inr ⟨by rfl, rfl⟩) hHeld ?_
    simp only [Act.put, List.getElem_toArray, List.getElem_cons_zero, List.getElem_cons_succ, List.setIfInBounds_toArray, List.set_cons_zero, List.set_cons_succ]
    refine wpAnyH_take (i := 15) (v := undef) rfl (by kernel_rfl) (by kernel_rfl) (by kernel_rfl) (fun _ _ _ h => h) (Or.inr ⟨by rfl, rfl⟩) hHeld ?_
    simp only [Act.put, List.getElem_toArray, List.getElem_cons_zero, List.getElem_cons_succ, List.setIfInBounds_toArray, List.set_cons_zero, List.set_cons_succ]
    refine wpAnyH_take (i := 16) (v := undef) rfl (by kernel_rfl) (by kernel_rfl) (by kernel_rfl) (fun _ _ _ h => h) (Or.inr ⟨by rfl, rfl⟩) hHeld ?_
    simp only [Act.put, List.getElem_toArray, List.getElem_cons_zero, List.getElem_cons_succ, List.setIfInBounds_toArray, List.set_cons_zero, List.set_cons_succ]
    refine wpAnyH_take (i := 17) (v := undef) rfl (by kernel_rfl) (by kernel_rfl) (by kernel_rfl) (fun _ _ _ h => h) (Or.inr ⟨by rfl, rfl⟩) hHeld ?_
    simp only [Act.put, List.getElem_toArray, List.getElem_cons_zero, List.getElem_cons_succ, List.setIfInBounds_toArray, List.set_cons_zero, List.set_cons_succ]
    refine wpAnyH_take (i := 18) (v := undef) rfl (by kernel_rfl) (by kernel_rfl) (by kernel_rfl) (fun _ _ _ h => h) (Or.inr ⟨by rfl, rfl⟩) hHeld ?_
    simp only [Act.put, List.getElem_toArray, List.getElem_cons_zero, List.getElem_cons_succ, List.setIfInBounds_toArray, List.set_cons_zero, List.set_cons_succ]
    refine wpAnyH_take (i := 19) (v := undef) rfl (by kernel_rfl) (by kernel_rfl) (by kernel_rfl) (fun _ _ _ h => h) (Or.inr ⟨by rfl, rfl⟩) hHeld ?_
    simp only [Act.put, List.getElem_toArray, List.getElem_cons_zero, List.getElem_cons_succ, List.setIfInBounds_toArray, List.set_cons_zero, List.set_cons_succ]
    refine wpAnyH_take (i := 20) (v := undef) rfl (by kernel_rfl) (by kernel_rfl) (by kernel_rfl) (fun _ _ _ h => h) (Or.inr ⟨by rfl, rfl⟩) hHeld ?_
    simp only [Act.put, List.getElem_toArray, List.getElem_cons_zero, List.getElem_cons_succ, List.setIfInBounds_toArray, List.set_cons_zero, List.set_cons_succ]
    refine wpAnyH_take (i := 21) (v := .bool true) rfl (by kernel_rfl) (by kernel_rfl) (by kernel_rfl) (fun _ _ _ h => h) (Or.inl ⟨by rfl, fun w _ => by go_simp⟩) hHeld ?_
    simp only [Act.put, List.getElem_toArray, List.getElem_cons_zero, List.getElem_cons_succ, List.setIfInBounds_toArray, List.set_cons_zero, List.set_cons_succ]
    refine wpAnyH_take (i := 22) (v := .bool true) rfl (by kernel_rfl) (by kernel_rfl) (by kernel_rfl) (fun _ _ _ h => h) (Or.inl ⟨by rfl, fun w _ => by go_simp⟩) hHeld ?_
    simp only [Act.put, List.getElem_toArray, List.getElem_cons_zero, List.getElem_cons_succ, List.setIfInBounds_toArray, List.set_cons_zero, List.set_cons_succ]
    refine wpAnyH_take (i := 23) (v := .bool true) rfl (by kernel_rfl) (by kernel_rfl) (by kernel_rfl) (fun _ _ _ h => h) (Or.inl ⟨by rfl, fun w _ => by go_simp⟩) hHeld ?_
    simp only [Act.put, List.getElem_toArray, List.getElem_cons_zero, List.getElem_cons_succ, List.setIfInBounds_toArray, List.set_cons_zero, List.set_cons_succ]
    refine wpAnyH_done (by kernel_rfl) ?_ _
    have HKBF := Lib.hid (HKB6.out.call HE2.out)
    clear hHeld
    go_wp2_with fail
    go_ret
    exact ⟨rfl, HKBF.out.below⟩
end Go.Proofs.YthcbnanohjkllaaDoor
