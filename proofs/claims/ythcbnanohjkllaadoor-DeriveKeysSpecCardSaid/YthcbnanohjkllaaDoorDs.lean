/-
  The walk of DeriveKeysSpec (chartroomlaw07).
-/
import Derived.Test.YthcbnanohjkllaaDoorDm
namespace Go.Proofs.YthcbnanohjkllaaDoor
open Go.RowKit
set_option linter.unusedVariables false
set_option linter.unusedSimpArgs false

set_option maxRecDepth 100000 in
set_option maxHeartbeats 4000000 in
theorem keysSpec_walk7 (ad : Option Addr) (cp : Nat) (l : List UInt8) (A B : List UInt8) (hA : A.length = 32) (hB : B.length = 32) (s : ByteArray) (hs : s.size ≤ maxLen) (a : Option Addr) (cap : Nat) (ns : List Int) (w : World)
    (hl0 : RdB w.heap.size w ad l) (hcap : l.length ≤ cp) (hc2 : cp ≤ maxLen) (hnil : ad = none → cp = 0) (hr : RdM w.heap.size w a ns) (hI : ∀ n ∈ ns, I64 n) (hT : Tab w) :
    Calls Tryd.prog 3 #[.slice ad l.length cp, .agg (bvA A), .agg (bvA B), .string s, .slice a ns.length cap] w fun e w' => e = .returned (.bool true) ∧ Below w.heap.size w w' := by
  have HT := Lib.hid hT
  have HLA := Lib.hid hA
  have HLB := Lib.hid hB
  have HR := Lib.hid hr
  have HI := Lib.hid hI
  have HL0 := Lib.hid hl0
  have HCA := Lib.hid (And.intro hcap (And.intro hc2 hnil))
  have HKB1 := Lib.hid (((KB.start w).box A hA).box B hB)
  rw [show (w.alloc (.cells (bvA A) 24)).heap.size = w.heap.size + 1 by simp] at HKB1
  obtain ⟨q, hq⟩ : ∃ q, ns.length = q := ⟨_, rfl⟩
  have HQ := Lib.hid hq
  obtain ⟨p, hp⟩ : ∃ p, l.length = p := ⟨_, rfl⟩
  have HPE := Lib.hid hp
  rw [hq, hp]
  clear hT hA hB hr hI hl0 hcap hc2 hnil hq hp
  go_enter Tryd.func3, Tryd.ntmps3
  go_wp2_with (go_at_call 10; refine (dsane_any _ (HT.out.below HKB1.out.below HT.out.lt)).mono ?_; rintro e w2 ⟨rfl, hb⟩; refine Hid.out ?_)
  refine Lib.hid ?_
  have HKB2 := Lib.hid (HKB1.out.call hb)
  clear hb HKB1
  generalize w.heap.size + 1 = gb at *
  obtain ⟨ga, hga⟩ : ∃ ga, w.heap.size = ga := ⟨_, rfl⟩
  rw [hga] at HKB2 ⊢
  have HG1 := Lib.hid hga
  clear hga
  by_cases hl1 : 500 < p
  · have f1 : decide ((500 : Int) < (p : Int)) = true := decide_eq_true (by omega)
    go_wp2_with fail
    go_ret
    exact ⟨rfl, HG1.out ▸ HKB2.out.below⟩
  have f1 : decide ((500 : Int) < (p : Int)) = false := decide_eq_false (by omega)
  by_cases hl2 : 500 < s.size
  · have f2 : decide ((500 : Int) < (s.size : Int)) = true := decide_eq_true (by omega)
    go_wp2_with fail
    go_ret
    exact ⟨rfl, HG1.out ▸ HKB2.out.below⟩
  have f2 : decide ((500 : Int) < (s.size : Int)) = false := decide_eq_false (by omega)
  by_cases hl3 : 40 < q
  · have f3 : decide ((40 : Int) < (q : Int)) = true := decide_eq_true (by omega)
    go_wp2_with fail
    go_ret
    exact ⟨rfl, HG1.out ▸ HKB2.out.below⟩
  have f3 : decide ((40 : Int) < (q : Int)) = false := decide_eq_false (by omega)
  have HF1 := Lib.hid (fun W h1 h2 => First_any ad cp l W h1 h2 HCA.out.1 HCA.out.2.1 (by have := HPE.out; omega))
  have HF2 := Lib.hid (fun W h2 => rFirst_any ad cp l W h2 HCA.out.1 HCA.out.2.1 HCA.out.2.2 (by have := HPE.out; omega))
  have HX1 := Lib.hid (fun W h1 h2 => Expand_any A HLA.out s a cap ns W h1 (by omega) h2 (by have := HQ.out; omega) HI.out)
  have HX2 := Lib.hid (fun W h2 => rExpand_any A HLA.out s a cap ns W (by omega) h2 (by have := HQ.out; omega) HI.out)
  have HM1 := Lib.hid (fun W h => Mix_any s A B HLA.out HLB.out W h (by omega))
  have HM2 := Lib.hid (fun W => rMix_any s A B HLA.out HLB.out W (by omega))
  rw [HQ.out] at HX1 HX2
  rw [HPE.out] at HF1 HF2
  have HFL := Lib.hid (tagS_len tagSeed l)
  have HXL := Lib.hid (expS_len A s ns)
  have HML := Lib.hid (mixS_len s A B)
  generalize tagS tagSeed l = F at *
  generalize expS A s ns = X at *
  generalize mixS s A B = M at *
  have eF := fun W => equal_keyS F HFL.out W
  have eX := fun W => equal_keyS X HXL.out W
  have eM := fun W => equal_keyS M HML.out W
  go_wp2_with fail
  have HE0 : Hid (Below w2.heap.size w2 w2.drew) := Lib.hid (Below.refl _ _).drew
  refine wp_region_held_drew (S := KB w [(gb, B), (ga, A)]) (by kernel_rfl) (HKB2.out.call HE0.out) (fun hHeld => ?_)
  refine wpAnyH_take (i := 0) (v := .slice ad p cp) rfl (by kernel_rfl) (by kernel_rfl) (by kernel_rfl) (fun _ _ _ h => h) (Or.inl ⟨by rfl, fun w _ => by go_simp⟩) hHeld ?_
  simp only [Act.put, List.getElem_toArray, List.getElem_cons_zero, List.getElem_cons_succ, List.setIfInBounds_toArray, List.set_cons_zero, List.set_cons_succ]
  refine wpAnyH_take (i := 2) (v := .slice ad p cp) rfl (by kernel_rfl) (by kernel_rfl) (by kernel_rfl) (fun _ _ _ h => h) (Or.inl ⟨by rfl, fun w _ => by go_simp⟩) hHeld ?_
  simp only [Act.put, List.getElem_toArray, List.getElem_cons_zero, List.getElem_cons_succ, List.setIfInBounds_toArray, List.set_cons_zero, List.set_cons_succ]
  refine wpAnyH_ready (rs := [1]) (by kernel_rfl) (by simp) (AllReadyH.cons rfl (fun K0 hK => ?_) AllReadyH.nil)
  rw [if_pos (by rfl)]
  go_simp
  refine (HF1.out _ (HT.out.below (HKB2.out.call HE0.out).below HT.out.lt) ((HL0.out.below (HKB2.out.call HE0.out).below).mono (HKB2.out.call HE0.out).below.size)).mono ?_
  rintro e u1 ⟨rfl, hb⟩
  have HE1 := Lib.hid (HE0.out.trans (hb.mono HE0.out.size))
  try go_wp2_with fail
  refine hK.out _ _ (HKB2.out.call HE1.out) (fun hHeld => ?_)
  clear hK K0
  try simp only [Act.put, List.getElem_toArray, List.getElem_cons_zero, List.getElem_cons_succ, List.setIfInBounds_toArray, List.set_cons_zero, List.set_cons_succ]
  refine wpAnyH_ready (rs := [3]) (by kernel_rfl) (by simp) (AllReadyH.cons rfl (fun K0 hK => ?_) AllReadyH.nil)
  rw [if_pos (by rfl)]
  go_simp
  refine (HF2.out _ ((HL0.out.below (HKB2.out.call HE1.out).below).mono (HKB2.out.call HE1.out).below.size)).mono ?_
  rintro e u2 ⟨rfl, hb⟩
  have HE2 := Lib.hid (HE1.out.trans (hb.mono HE1.out.size))
  try go_wp2_with fail
  refine hK.out _ _ (HKB2.out.call HE2.out) (fun hHeld => ?_)
  clear hK K0
  try simp only [Act.put, List.getElem_toArray, List.getElem_cons_zero, List.getElem_cons_succ, List.setIfInBounds_toArray, List.set_cons_zero, List.set_cons_succ]
  refine wpAnyH_take (i := 4) (v := .bool true) rfl (by kernel_rfl) (by kernel_rfl) (by kernel_rfl) (fun _ _ _ h => h) (Or.inl ⟨by rfl, fun w _ => run_eqK (.tmp 27) (.tmp 29) (bvA F) (bvA F) true rfl rfl rfl (eF w)⟩) hHeld ?_
  simp only [Act.put, List.getElem_toArray, List.getElem_cons_zero, List.getElem_cons_succ, List.setIfInBounds_toArray, List.set_cons_zero, List.set_cons_succ]
  refine wpAnyH_take (i := 5) (v := .bool true) rfl (by kernel_rfl) (by kernel_rfl) (by kernel_rfl) (fun _ _ _ h => h) (Or.inl ⟨by rfl, fun w _ => by go_simp⟩) hHeld ?_
  simp only [Act.put, List.getElem_toArray, List.getElem_cons_zero, List.getElem_cons_succ, List.setIfInBounds_toArray, List.set_cons_zero, List.set_cons_succ]
  refine wpAnyH_take (i := 6) (v := .agg (bvA A)) rfl (by kernel_rfl) (by kernel_rfl) (by kernel_rfl) (fun _ _ _ h => h) (yieldsIf_load_mid (by rfl) 24 (.tmp 6) rfl ga 0 rfl (A.map bv) _ (fun _ h => (h.key ga A (by simp)).range) Tryd.underlying24 rfl (key_szl _ HLA.out)) hHeld ?_
  simp only [Act.put, List.getElem_toArray, List.getElem_cons_zero, List.getElem_cons_succ, List.setIfInBounds_toArray, List.set_cons_zero, List.set_cons_succ]
  refine wpAnyH_take (i := 7) (v := .string s) rfl (by kernel_rfl) (by kernel_rfl) (by kernel_rfl) (fun _ _ _ h => h) (Or.inl ⟨by rfl, fun w _ => by go_simp⟩) hHeld ?_
  simp only [Act.put, List.getElem_toArray, List.getElem_cons_zero, List.getElem_cons_succ, List.setIfInBounds_toArray, List.set_cons_zero, List.set_cons_succ]
  refine wpAnyH_take (i := 8) (v := .slice a q cap) rfl (by kernel_rfl) (by kernel_rfl) (by kernel_rfl) (fun _ _ _ h => h) (Or.inl ⟨by rfl, fun w _ => by go_simp⟩) hHeld ?_
  simp only [Act.put, List.getElem_toArray, List.getElem_cons_zero, List.getElem_cons_succ, List.setIfInBounds_toArray, List.set_cons_zero, List.set_cons_succ]
  refine wpAnyH_take (i := 10) (v := .agg (bvA A)) rfl (by kernel_rfl) (by kernel_rfl) (by kernel_rfl) (fun _ _ _ h => h) (yieldsIf_load_mid (by rfl) 24 (.tmp 6) rfl ga 0 rfl (A.map bv) _ (fun _ h => (h.key ga A (by simp)).range) Tryd.underlying24 rfl (key_szl _ HLA.out)) hHeld ?_
  simp only [Act.put, List.getElem_toArray, List.getElem_cons_zero, List.getElem_cons_succ, List.setIfInBounds_toArray, List.set_cons_zero, List.set_cons_succ]
  refine wpAnyH_take (i := 11) (v := .string s) rfl (by kernel_rfl) (by kernel_rfl) (by kernel_rfl) (fun _ _ _ h => h) (Or.inl ⟨by rfl, fun w _ => by go_simp⟩) hHeld ?_
  simp only [Act.put, List.getElem_toArray, List.getElem_cons_zero, List.getElem_cons_succ, List.setIfInBounds_toArray, List.set_cons_zero, List.set_cons_succ]
  refine wpAnyH_take (i := 12) (v := .slice a q cap) rfl (by kernel_rfl) (by kernel_rfl) (by kernel_rfl) (fun _ _ _ h => h) (Or.inl ⟨by rfl, fun w _ => by go_simp⟩) hHeld ?_
  simp only [Act.put, List.getElem_toArray, List.getElem_cons_zero, List.getElem_cons_succ, List.setIfInBounds_toArray, List.set_cons_zero, List.set_cons_succ]
  refine wpAnyH_ready (rs := [9]) (by kernel_rfl) (by simp) (AllReadyH.cons rfl (fun K0 hK => ?_) AllReadyH.nil)
  rw [if_pos (by rfl)]
  go_simp
  refine (HX1.out _ (HT.out.below (HKB2.out.call HE2.out).below HT.out.lt) ((HR.out.below (HKB2.out.call HE2.out).below).mono (HKB2.out.call HE2.out).below.size)).mono ?_
  rintro e u3 ⟨rfl, hb⟩
  have HE3 := Lib.hid (HE2.out.trans (hb.mono HE2.out.size))
  try go_wp2_with fail
  refine hK.out _ _ (HKB2.out.call HE3.out) (fun hHeld => ?_)
  clear hK K0
  try simp only [Act.put, List.getElem_toArray, List.getElem_cons_zero, List.getElem_cons_succ, List.setIfInBounds_toArray, List.set_cons_zero, List.set_cons_succ]
  refine wpAnyH_ready (rs := [13]) (by kernel_rfl) (by simp) (AllReadyH.cons rfl (fun K0 hK => ?_) AllReadyH.nil)
  rw [if_pos (by rfl)]
  go_simp
  refine (HX2.out _ ((HR.out.below (HKB2.out.call HE3.out).below).mono (HKB2.out.call HE3.out).below.size)).mono ?_
  rintro e u4 ⟨rfl, hb⟩
  have HE4 := Lib.hid (HE3.out.trans (hb.mono HE3.out.size))
  try go_wp2_with fail
  refine hK.out _ _ (HKB2.out.call HE4.out) (fun hHeld => ?_)
  clear hK K0
  try simp only [Act.put, List.getElem_toArray, List.getElem_cons_zero, List.getElem_cons_succ, List.setIfInBounds_toArray, List.set_cons_zero, List.set_cons_succ]
  refine wpAnyH_take (i := 14) (v := .bool true) rfl (by kernel_rfl) (by kernel_rfl) (by kernel_rfl) (fun _ _ _ h => h) (Or.inl ⟨by rfl, fun w _ => run_eqK (.tmp 35) (.tmp 39) (bvA X) (bvA X) true rfl rfl rfl (eX w)⟩) hHeld ?_
  simp only [Act.put, List.getElem_toArray, List.getElem_cons_zero, List.getElem_cons_succ, List.setIfInBounds_toArray, List.set_cons_zero, List.set_cons_succ]
  refine wpAnyH_take (i := 15) (v := .bool true) rfl (by kernel_rfl) (by kernel_rfl) (by kernel_rfl) (fun _ _ _ h => h) (Or.inl ⟨by rfl, fun w _ => by go_simp⟩) hHeld ?_
  simp only [Act.put, List.getElem_toArray, List.getElem_cons_zero, List.getElem_cons_succ, List.setIfInBounds_toArray, List.set_cons_zero, List.set_cons_succ]
  refine wpAnyH_take (i := 16) (v := .bool true) rfl (by kernel_rfl) (by kernel_rfl) (by kernel_rfl) (fun _ _ _ h => h) (Or.inl ⟨by rfl, fun w _ => by go_simp⟩) hHeld ?_
  simp only [Act.put, List.getElem_toArray, List.getElem_cons_zero, List.getElem_cons_succ, List.setIfInBounds_toArray, List.set_cons_zero, List.set_cons_succ]
  refine wpAnyH_take (i := 17) (v := .string s) rfl (by kernel_rfl) (by kernel_rfl) (by kernel_rfl) (fun _ _ _ h => h) (Or.inl ⟨by rfl, fun w _ => by go_simp⟩) hHeld ?_
  simp only [Act.put, List.getElem_toArray, List.getElem_cons_zero, List.getElem_cons_succ, List.setIfInBounds_toArray, List.set_cons_zero, List.set_cons_succ]
  refine wpAnyH_take (i := 18) (v := .agg (bvA A)) rfl (by kernel_rfl) (by kernel_rfl) (by kernel_rfl) (fun _ _ _ h => h) (yieldsIf_load_mid (by rfl) 24 (.tmp 6) rfl ga 0 rfl (A.map bv) _ (fun _ h => (h.key ga A (by simp)).range) Tryd.underlying24 rfl (key_szl _ HLA.out)) hHeld ?_
  simp only [Act.put, List.getElem_toArray, List.getElem_cons_zero, List.getElem_cons_succ, List.setIfInBounds_toArray, List.set_cons_zero, List.set_cons_succ]
  refine wpAnyH_take (i := 19) (v := .agg (bvA B)) rfl (by kernel_rfl) (by kernel_rfl) (by kernel_rfl) (fun _ _ _ h => h) (yieldsIf_load_mid (by rfl) 24 (.tmp 7) rfl gb 0 rfl (B.map bv) _ (fun _ h => (h.key gb B (by simp)).range) Tryd.underlying24 rfl (key_szl _ HLB.out)) hHeld ?_
  simp only [Act.put, List.getElem_toArray, List.getElem_cons_zero, List.getElem_cons_succ, List.setIfInBounds_toArray, List.set_cons_zero, List.set_cons_succ]
  refine wpAnyH_take (i := 21) (v := .string s) rfl (by kernel_rfl) (by kernel_rfl) (by kernel_rfl) (fun _ _ _ h => h) (Or.inl ⟨by rfl, fun w _ => by go_simp⟩) hHeld ?_
  simp only [Act.put, List.getElem_toArray, List.getElem_cons_zero, List.getElem_cons_succ, List.setIfInBounds_toArray, List.set_cons_zero, List.set_cons_succ]
  refine wpAnyH_take (i := 22) (v := .agg (bvA A)) rfl (by kernel_rfl) (by kernel_rfl) (by kernel_rfl) (fun _ _ _ h => h) (yieldsIf_load_mid (by rfl) 24 (.tmp 6) rfl ga 0 rfl (A.map bv) _ (fun _ h => (h.key ga A (by simp)).range) Tryd.underlying24 rfl (key_szl _ HLA.out)) hHeld ?_
  simp only [Act.put, List.getElem_toArray, List.getElem_cons_zero, List.getElem_cons_succ, List.setIfInBounds_toArray, List.set_cons_zero, List.set_cons_succ]
  refine wpAnyH_take (i := 23) (v := .agg (bvA B)) rfl (by kernel_rfl) (by kernel_rfl) (by kernel_rfl) (fun _ _ _ h => h) (yieldsIf_load_mid (by rfl) 24 (.tmp 7) rfl gb 0 rfl (B.map bv) _ (fun _ h => (h.key gb B (by simp)).range) Tryd.underlying24 rfl (key_szl _ HLB.out)) hHeld ?_
  simp only [Act.put, List.getElem_toArray, List.getElem_cons_zero, List.getElem_cons_succ, List.setIfInBounds_toArray, List.set_cons_zero, List.set_cons_succ]
  refine wpAnyH_ready (rs := [20]) (by kernel_rfl) (by simp) (AllReadyH.cons rfl (fun K0 hK => ?_) AllReadyH.nil)
  rw [if_pos (by rfl)]
  go_simp
  refine (HM1.out _ (HT.out.below (HKB2.out.call HE4.out).below HT.out.lt)).mono ?_
  rintro e u5 ⟨rfl, hb⟩
  have HE5 := Lib.hid (HE4.out.trans (hb.mono HE4.out.size))
  try go_wp2_with fail
  refine hK.out _ _ (HKB2.out.call HE5.out) (fun hHeld => ?_)
  clear hK K0
  try simp only [Act.put, List.getElem_toArray, List.getElem_cons_zero, List.getElem_cons_succ, List.setIfInBounds_toArray, List.set_cons_zero, List.set_cons_succ]
  refine wpAnyH_ready (rs := [24]) (by kernel_rfl) (by simp) (AllReadyH.cons rfl (fun K0 hK => ?_) AllReadyH.nil)
  rw [if_pos (by rfl)]
  go_simp
  refine (HM2.out _).mono ?_
  rintro e u6 ⟨rfl, hb⟩
  have HE6 := Lib.hid (HE5.out.trans (hb.mono HE5.out.size))
  try go_wp2_with fail
  refine hK.out _ _ (HKB2.out.call HE6.out) (fun hHeld => ?_)
  clear hK K0
  try simp only [Act.put, List.getElem_toArray, List.getElem_cons_zero, List.getElem_cons_succ, List.setIfInBounds_toArray, List.set_cons_zero, List.set_cons_succ]
  refine wpAnyH_take (i := 25) (v := .bool true) rfl (by kernel_rfl) (by kernel_rfl) (by kernel_rfl) (fun _ _ _ h => h) (Or.inl ⟨by rfl, fun w _ => run_eqK (.tmp 46) (.tmp 50) (bvA M) (bvA M) true rfl rfl rfl (eM w)⟩) hHeld ?_
  simp only [Act.put, List.getElem_toArray, List.getElem_cons_zero, List.getElem_cons_succ, List.setIfInBounds_toArray, List.set_cons_zero, List.set_cons_succ]
  refine wpAnyH_take (i := 26) (v := .bool true) rfl (by kernel_rfl) (by kernel_rfl) (by kernel_rfl) (fun _ _ _ h => h) (Or.inl ⟨by rfl, fun w _ => by go_simp⟩) hHeld ?_
  simp only [Act.put, List.getElem_toArray, List.getElem_cons_zero, List.getElem_cons_succ, List.setIfInBounds_toArray, List.set_cons_zero, List.set_cons_succ]
  refine wpAnyH_take (i := 27) (v := .bool true) rfl (by kernel_rfl) (by kernel_rfl) (by kernel_rfl) (fun _ _ _ h => h) (Or.inl ⟨by rfl, fun w _ => by go_simp⟩) hHeld ?_
  simp only [Act.put, List.getElem_toArray, List.getElem_cons_zero, List.getElem_cons_succ, List.setIfInBounds_toArray, List.set_cons_zero, List.set_cons_succ]
  refine wpAnyH_done (by kernel_rfl) ?_ _
  have HKBF := Lib.hid (HKB2.out.call HE6.out)
  clear hHeld
  go_wp2_with fail
  go_ret
  exact ⟨rfl, HG1.out ▸ HKBF.out.below⟩
end Go.Proofs.YthcbnanohjkllaaDoor
