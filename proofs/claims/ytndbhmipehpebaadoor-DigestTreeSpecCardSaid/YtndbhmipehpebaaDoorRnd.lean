/-
  The reference's node and Chain.
-/
import Derived.Test.YtndbhmipehpebaaDoorRtg
import Derived.Test.YtndbhmipehpebaaDoorReg
namespace Go.Proofs.YtndbhmipehpebaaDoor
open Go.RowKit
set_option linter.unusedVariables false
set_option linter.unusedSimpArgs false

/-- []byte{}. -/
theorem wp_nilB {o : Oper} {a : Act} {w : World} {K : Act → World → Prop} {Q : Exit → Act → World → Prop} (ho : o.op = .buildSlice 22 0 #[])
    (B : Nat) (hB : B ≤ w.heap.size) (h : ∀ w' v, OwnB B w' v [] → (∀ k, v.ownBlock = some k → w.heap.size ≤ k) → Below w.heap.size w w' → K (a.put o.dst v) w') : o.wp Tryd.prog a w K Q := by
  have hh := h _ _ (OwnB.empty hB) (fun k hk => by simp [Value.ownBlock] at hk; omega) ((Below.refl _ _).alloc (Nat.le_refl _) _)
  unfold Oper.wp execOp
  have hr : (Instr.buildSlice 22 0 #[]).run Tryd.prog w = .ok (.slice (some ⟨w.heap.size, 0, none⟩) 0 0) (w.alloc (.cells #[] 5)) := by kernel_rfl
  simp only [ho, Sem.run_bind, Sem.run_pure, Result.andThen_ok, Array.map_empty, List.map_toArray, List.map_nil, hr]
  exact hh

set_option maxRecDepth 100000 in
set_option maxHeartbeats 1600000 in
theorem refNode (d d2 : List UInt8) (hd : d.length = 32) (hd2 : d2.length = 32) (w : World) :
    Calls Tryd.prog 37 #[.agg (bvA d), .agg (bvA d2)] w fun e w' => e = .returned (.agg (bvA (nodeS d d2))) ∧ Below w.heap.size w w' := by
  have HD := Lib.hid hd
  have HE := Lib.hid hd2
  clear hd hd2
  go_enter Tryd.func37, Tryd.ntmps37
  go_wp2_with fail
  obtain ⟨w1, hw1⟩ : ∃ w1, w1 = ((w.alloc (.cells (bvA d) 26)).alloc (.cells (bvA d2) 26)).alloc (.cells (bvA (List.replicate 32 0)) 26) := ⟨_, rfl⟩
  have hB1 : Below w.heap.size w w1 := hw1 ▸ (((Below.refl _ _).alloc (Nat.le_refl _) _).alloc (by simp) _).alloc (by simp; omega) _
  have hA1 : BB w1 w.heap.size 26 d := hw1 ▸ ((BB.new w _ _).alloc _).alloc _
  have hA2 : BB w1 (w.heap.size + 1) 26 d2 := hw1 ▸ BB.alloc (heap_alloc2_new w _ _) _
  have hD1 : BB w1 (w.heap.size + 2) 26 (List.replicate 32 0) := by
    have h := BB.new ((w.alloc (.cells (bvA d) 26)).alloc (.cells (bvA d2) 26)) 26 (List.replicate 32 0)
    rw [hw1]
    simpa using h
  change Code.wp _ _ _ _ (((w.alloc (.cells (bvA d) 26)).alloc (.cells (bvA d2) 26)).alloc (.cells (bvA (List.replicate 32 0)) 26))
  rw [← hw1]
  have HB1 := Lib.hid hB1; have HA1 := Lib.hid hA1; have HA2 := Lib.hid hA2; have HD1 := Lib.hid hD1
  have HB0 : Hid (Below w1.heap.size w1 w1.drew) := (Below.refl _ _).drew
  have HLN : Hid (([] : List UInt8).length + d.length ≤ 140737488355328) := by show _ ≤ _; rw [HD.out]; simp
  have HLM : Hid (d.length + d2.length ≤ 140737488355328) := by show _ ≤ _; rw [HD.out, HE.out]; omega
  clear hw1 hB1 hA1 hA2 hD1
  refine wp_region_held_drew (S := fun _ => True) (by kernel_rfl) trivial (fun hHeld => ?_)
  refine wpAnyH_take (i := 1) (v := .slice (some ⟨w.heap.size, 0, none⟩) 32 32) rfl (by kernel_rfl) (by kernel_rfl) (by kernel_rfl) (fun _ _ _ h => h) (Or.inl ⟨by rfl, fun w _ => by go_simp⟩) hHeld ?_
  simp only [Act.put, List.getElem_toArray, List.getElem_cons_zero, List.getElem_cons_succ, List.setIfInBounds_toArray, List.set_cons_zero, List.set_cons_succ]
  refine wpAnyH_take (i := 3) (v := .slice (some ⟨w.heap.size + 1, 0, none⟩) 32 32) rfl (by kernel_rfl) (by kernel_rfl) (by kernel_rfl) (fun _ _ _ h => h) (Or.inl ⟨by rfl, fun w _ => by go_simp⟩) hHeld ?_
  simp only [Act.put, List.getElem_toArray, List.getElem_cons_zero, List.getElem_cons_succ, List.setIfInBounds_toArray, List.set_cons_zero, List.set_cons_succ]
  refine wpAnyH_ready (rs := [0]) (by kernel_rfl) (by simp) (AllReadyH.cons rfl (fun K hK => ?_) AllReadyH.nil)
  rw [if_pos (by rfl)]
  refine wp_nilB rfl w1.heap.size HB0.out.size ?_
  intro w2 v2 ho2 hn2 hb2
  have HB2 := Lib.hid (HB0.out.trans (hb2.mono HB0.out.size))
  have HO2 := Lib.hid ho2
  clear ho2 hn2 hb2
  refine hK.out _ _ trivial (fun hHeld => ?_)
  clear hK K
  try simp only [Act.put, List.getElem_toArray, List.getElem_cons_zero, List.getElem_cons_succ, List.setIfInBounds_toArray, List.set_cons_zero, List.set_cons_succ]
  refine wpAnyH_ready (rs := [2]) (by kernel_rfl) (by simp) (AllReadyH.cons rfl (fun K hK => ?_) AllReadyH.nil)
  refine step_appBn rfl (.tmp 5) (.tmp 6) rfl w1.heap.size v2 [] d _ (some ⟨w.heap.size, 0, none⟩) 32 (by rfl) (by rfl) HD.out.symm HO2.out ((HA1.out.below HB2.out HA1.out.lt).rdB (by rw [HD.out]; unfold maxLen; omega)) (fun h => by cases h) HLN.out HB2.out.size ?_
  intro v3 w3 ho3 hg3
  have HB3 := Lib.hid (HB2.out.trans (hg3.below HO2.out.base HB2.out.size))
  have HO3 : Hid (OwnB w1.heap.size w3 v3 d) := ho3
  clear ho3 hg3
  refine hK.out _ _ trivial (fun hHeld => ?_)
  clear hK K
  try simp only [Act.put, List.getElem_toArray, List.getElem_cons_zero, List.getElem_cons_succ, List.setIfInBounds_toArray, List.set_cons_zero, List.set_cons_succ]
  refine wpAnyH_ready (rs := [4]) (by kernel_rfl) (by simp) (AllReadyH.cons rfl (fun K hK => ?_) AllReadyH.nil)
  refine step_appBn rfl (.tmp 7) (.tmp 8) rfl w1.heap.size v3 d d2 _ (some ⟨w.heap.size + 1, 0, none⟩) 32 (by rfl) (by rfl) HE.out.symm HO3.out ((HA2.out.below HB3.out HA2.out.lt).rdB (by rw [HE.out]; unfold maxLen; omega)) (fun h => by cases h) HLM.out HB3.out.size ?_
  intro v4 w4 ho4 hg4
  have HB4 := Lib.hid (HB3.out.trans (hg4.below HO3.out.base HB3.out.size))
  obtain ⟨a4, cap4, rfl, _, _⟩ := ho4.form
  have hSl : (d ++ d2).length ≤ 70368744177000 := by rw [List.length_append, HD.out, HE.out]; omega
  have cS := refTagged ⟨#[110, 111, 100, 101]⟩ a4 cap4 (d ++ d2) w4 ho4.rdOf ho4.caps.1 ho4.caps.2 ho4.nilCap (by decide) hSl
  have HCS : Hid (Calls Tryd.prog 15 #[.string ⟨#[110, 111, 100, 101]⟩, .slice a4 (d ++ d2).length cap4] w4 fun e w' => e = .returned (.agg (bvA (nodeS d d2))) ∧ Below w4.heap.size w4 w') := cS
  clear ho4 hg4 cS hSl
  generalize (d ++ d2).length = ml at *
  refine hK.out _ _ trivial (fun hHeld => ?_)
  clear hK K
  try simp only [Act.put, List.getElem_toArray, List.getElem_cons_zero, List.getElem_cons_succ, List.setIfInBounds_toArray, List.set_cons_zero, List.set_cons_succ]
  refine wpAnyH_ready (rs := [5]) (by kernel_rfl) (by simp) (AllReadyH.cons rfl (fun K hK => ?_) AllReadyH.nil)
  go_simp
  refine HCS.out.mono ?_
  rintro e w5 ⟨rfl, hb5⟩
  have HB5 := Lib.hid (HB4.out.trans (hb5.mono HB4.out.size))
  clear hb5
  try go_wp2_with fail
  refine hK.out _ _ trivial (fun hHeld => ?_)
  clear hK K
  try simp only [Act.put, List.getElem_toArray, List.getElem_cons_zero, List.getElem_cons_succ, List.setIfInBounds_toArray, List.set_cons_zero, List.set_cons_succ]
  refine wpAnyH_ready (rs := [6]) (by kernel_rfl) (by simp) (AllReadyH.cons rfl (fun K hK => ?_) AllReadyH.nil)
  rw [if_pos (by rfl)]
  refine wp_storeA 26 (.tmp 4) (.tmp 10) rfl (w.heap.size + 2) (bvA (nodeS d d2)) rfl rfl 26 _ (HD1.out.below HB5.out HD1.out.lt) (sha_sz _) (sha_old _) (bvA_one _) ?_
  intro w6 h6 hg6
  have HB6 := Lib.hid (grown_below (HB1.out.trans (HB5.out.mono HB1.out.size)) hg6 (by omega) (Nat.le_trans HB1.out.size HB5.out.size))
  clear hg6
  refine hK.out _ _ trivial (fun hHeld => ?_)
  clear hK K
  try simp only [Act.put, List.getElem_toArray, List.getElem_cons_zero, List.getElem_cons_succ, List.setIfInBounds_toArray, List.set_cons_zero, List.set_cons_succ]
  refine wpAnyH_done (by kernel_rfl) ?_ _
  go_wp2_with fail
  refine bodyPost_ret (v := .agg (bvA (nodeS d d2))) ?_ rfl ⟨rfl, HB6.out⟩
  exact results_cell_row rfl _ _ (w.heap.size + 2) 26 _ (0, 0) _ rfl h6 digest_und rfl (sha_sz _)

set_option maxRecDepth 100000 in
set_option maxHeartbeats 1600000 in
theorem refChain (d d2 : List UInt8) (hd : d.length = 32) (hd2 : d2.length = 32) (w : World) :
    Calls Tryd.prog 26 #[.agg (bvA d), .agg (bvA d2)] w fun e w' => e = .returned (.agg (bvA (chainS d d2))) ∧ Below w.heap.size w w' := by
  have HD := Lib.hid hd
  have HE := Lib.hid hd2
  clear hd hd2
  go_enter Tryd.func26, Tryd.ntmps26
  go_wp2_with fail
  obtain ⟨w1, hw1⟩ : ∃ w1, w1 = ((w.alloc (.cells (bvA d) 26)).alloc (.cells (bvA d2) 26)).alloc (.cells (bvA (List.replicate 32 0)) 26) := ⟨_, rfl⟩
  have hB1 : Below w.heap.size w w1 := hw1 ▸ (((Below.refl _ _).alloc (Nat.le_refl _) _).alloc (by simp) _).alloc (by simp; omega) _
  have hA1 : BB w1 w.heap.size 26 d := hw1 ▸ ((BB.new w _ _).alloc _).alloc _
  have hA2 : BB w1 (w.heap.size + 1) 26 d2 := hw1 ▸ BB.alloc (heap_alloc2_new w _ _) _
  have hD1 : BB w1 (w.heap.size + 2) 26 (List.replicate 32 0) := by
    have h := BB.new ((w.alloc (.cells (bvA d) 26)).alloc (.cells (bvA d2) 26)) 26 (List.replicate 32 0)
    rw [hw1]
    simpa using h
  change Code.wp _ _ _ _ (((w.alloc (.cells (bvA d) 26)).alloc (.cells (bvA d2) 26)).alloc (.cells (bvA (List.replicate 32 0)) 26))
  rw [← hw1]
  have HB1 := Lib.hid hB1; have HA1 := Lib.hid hA1; have HA2 := Lib.hid hA2; have HD1 := Lib.hid hD1
  have HB0 : Hid (Below w1.heap.size w1 w1.drew) := (Below.refl _ _).drew
  have HLN : Hid (([] : List UInt8).length + d.length ≤ 140737488355328) := by show _ ≤ _; rw [HD.out]; simp
  have HLM : Hid (d.length + d2.length ≤ 140737488355328) := by show _ ≤ _; rw [HD.out, HE.out]; omega
  clear hw1 hB1 hA1 hA2 hD1
  refine wp_region_held_drew (S := fun _ => True) (by kernel_rfl) trivial (fun hHeld => ?_)
  refine wpAnyH_take (i := 1) (v := .slice (some ⟨w.heap.size, 0, none⟩) 32 32) rfl (by kernel_rfl) (by kernel_rfl) (by kernel_rfl) (fun _ _ _ h => h) (Or.inl ⟨by rfl, fun w _ => by go_simp⟩) hHeld ?_
  simp only [Act.put, List.getElem_toArray, List.getElem_cons_zero, List.getElem_cons_succ, List.setIfInBounds_toArray, List.set_cons_zero, List.set_cons_succ]
  refine wpAnyH_take (i := 3) (v := .slice (some ⟨w.heap.size + 1, 0, none⟩) 32 32) rfl (by kernel_rfl) (by kernel_rfl) (by kernel_rfl) (fun _ _ _ h => h) (Or.inl ⟨by rfl, fun w _ => by go_simp⟩) hHeld ?_
  simp only [Act.put, List.getElem_toArray, List.getElem_cons_zero, List.getElem_cons_succ, List.setIfInBounds_toArray, List.set_cons_zero, List.set_cons_succ]
  refine wpAnyH_ready (rs := [0]) (by kernel_rfl) (by simp) (AllReadyH.cons rfl (fun K hK => ?_) AllReadyH.nil)
  rw [if_pos (by rfl)]
  refine wp_nilB rfl w1.heap.size HB0.out.size ?_
  intro w2 v2 ho2 hn2 hb2
  have HB2 := Lib.hid (HB0.out.trans (hb2.mono HB0.out.size))
  have HO2 := Lib.hid ho2
  clear ho2 hn2 hb2
  refine hK.out _ _ trivial (fun hHeld => ?_)
  clear hK K
  try simp only [Act.put, List.getElem_toArray, List.getElem_cons_zero, List.getElem_cons_succ, List.setIfInBounds_toArray, List.set_cons_zero, List.set_cons_succ]
  refine wpAnyH_ready (rs := [2]) (by kernel_rfl) (by simp) (AllReadyH.cons rfl (fun K hK => ?_) AllReadyH.nil)
  refine step_appBn rfl (.tmp 5) (.tmp 6) rfl w1.heap.size v2 [] d _ (some ⟨w.heap.size, 0, none⟩) 32 (by rfl) (by rfl) HD.out.symm HO2.out ((HA1.out.below HB2.out HA1.out.lt).rdB (by rw [HD.out]; unfold maxLen; omega)) (fun h => by cases h) HLN.out HB2.out.size ?_
  intro v3 w3 ho3 hg3
  have HB3 := Lib.hid (HB2.out.trans (hg3.below HO2.out.base HB2.out.size))
  have HO3 : Hid (OwnB w1.heap.size w3 v3 d) := ho3
  clear ho3 hg3
  refine hK.out _ _ trivial (fun hHeld => ?_)
  clear hK K
  try simp only [Act.put, List.getElem_toArray, List.getElem_cons_zero, List.getElem_cons_succ, List.setIfInBounds_toArray, List.set_cons_zero, List.set_cons_succ]
  refine wpAnyH_ready (rs := [4]) (by kernel_rfl) (by simp) (AllReadyH.cons rfl (fun K hK => ?_) AllReadyH.nil)
  refine step_appBn rfl (.tmp 7) (.tmp 8) rfl w1.heap.size v3 d d2 _ (some ⟨w.heap.size + 1, 0, none⟩) 32 (by rfl) (by rfl) HE.out.symm HO3.out ((HA2.out.below HB3.out HA2.out.lt).rdB (by rw [HE.out]; unfold maxLen; omega)) (fun h => by cases h) HLM.out HB3.out.size ?_
  intro v4 w4 ho4 hg4
  have HB4 := Lib.hid (HB3.out.trans (hg4.below HO3.out.base HB3.out.size))
  obtain ⟨a4, cap4, rfl, _, _⟩ := ho4.form
  have hSl : (d ++ d2).length ≤ 70368744177000 := by rw [List.length_append, HD.out, HE.out]; omega
  have cS := refTagged ⟨#[99, 104, 97, 105, 110]⟩ a4 cap4 (d ++ d2) w4 ho4.rdOf ho4.caps.1 ho4.caps.2 ho4.nilCap (by decide) hSl
  have HCS : Hid (Calls Tryd.prog 15 #[.string ⟨#[99, 104, 97, 105, 110]⟩, .slice a4 (d ++ d2).length cap4] w4 fun e w' => e = .returned (.agg (bvA (chainS d d2))) ∧ Below w4.heap.size w4 w') := cS
  clear ho4 hg4 cS hSl
  generalize (d ++ d2).length = ml at *
  refine hK.out _ _ trivial (fun hHeld => ?_)
  clear hK K
  try simp only [Act.put, List.getElem_toArray, List.getElem_cons_zero, List.getElem_cons_succ, List.setIfInBounds_toArray, List.set_cons_zero, List.set_cons_succ]
  refine wpAnyH_ready (rs := [5]) (by kernel_rfl) (by simp) (AllReadyH.cons rfl (fun K hK => ?_) AllReadyH.nil)
  go_simp
  refine HCS.out.mono ?_
  rintro e w5 ⟨rfl, hb5⟩
  have HB5 := Lib.hid (HB4.out.trans (hb5.mono HB4.out.size))
  clear hb5
  try go_wp2_with fail
  refine hK.out _ _ trivial (fun hHeld => ?_)
  clear hK K
  try simp only [Act.put, List.getElem_toArray, List.getElem_cons_zero, List.getElem_cons_succ, List.setIfInBounds_toArray, List.set_cons_zero, List.set_cons_succ]
  refine wpAnyH_ready (rs := [6]) (by kernel_rfl) (by simp) (AllReadyH.cons rfl (fun K hK => ?_) AllReadyH.nil)
  rw [if_pos (by rfl)]
  refine wp_storeA 26 (.tmp 4) (.tmp 10) rfl (w.heap.size + 2) (bvA (chainS d d2)) rfl rfl 26 _ (HD1.out.below HB5.out HD1.out.lt) (sha_sz _) (sha_old _) (bvA_one _) ?_
  intro w6 h6 hg6
  have HB6 := Lib.hid (grown_below (HB1.out.trans (HB5.out.mono HB1.out.size)) hg6 (by omega) (Nat.le_trans HB1.out.size HB5.out.size))
  clear hg6
  refine hK.out _ _ trivial (fun hHeld => ?_)
  clear hK K
  try simp only [Act.put, List.getElem_toArray, List.getElem_cons_zero, List.getElem_cons_succ, List.setIfInBounds_toArray, List.set_cons_zero, List.set_cons_succ]
  refine wpAnyH_done (by kernel_rfl) ?_ _
  go_wp2_with fail
  refine bodyPost_ret (v := .agg (bvA (chainS d d2))) ?_ rfl ⟨rfl, HB6.out⟩
  exact results_cell_row rfl _ _ (w.heap.size + 2) 26 _ (0, 0) _ rfl h6 digest_und rfl (sha_sz _)

end Go.Proofs.YtndbhmipehpebaaDoor
