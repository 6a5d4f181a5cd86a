/-
  Package pake: the reference: proof, Proof, Accept.
-/
import Derived.Test.YtkpecfhcdechmaaDoorJo
namespace Go.Proofs.YtkpecfhcdechmaaDoor
open Go.RowKit
set_option linter.unusedVariables false
set_option linter.unusedSimpArgs false

set_option maxRecDepth 100000 in
set_option maxHeartbeats 1600000 in
theorem rproof_any (K : List UInt8) (hK : K.length = 32) (r : Int) (w : World) (hT : Tab w) :
    Calls Tryd.prog 44 #[.agg (bvA K), .int .i64 r] w fun e w' => e = .returned (.agg (bvA (prP K (roB r)))) ∧ Below w.heap.size w w' := by
  have HV := Lib.hid (bv_roB r)
  obtain ⟨D, hD⟩ : ∃ D, prP K (roB r) = D := ⟨_, rfl⟩
  have HL : Hid (D.length = 32) := Lib.hid (by rw [← hD]; exact prP_len _ _)
  have HD : Hid (tagS (ByteArray.mk #[112, 114, 111, 111, 102]).data.toList (K ++ [roB r]) = D) := Lib.hid hD
  have HLL : Hid ((K ++ [roB r]).length = 33) := Lib.hid (by rw [List.length_append, hK]; rfl)
  rw [hD]
  obtain ⟨c, hc⟩ : ∃ c, roB r = c := ⟨_, rfl⟩
  rw [hc] at HD HV HLL
  have HK := Lib.hid hK
  obtain ⟨w1, hw1⟩ : ∃ w1, w1 = ((w.alloc (.cells (bvA K) 32)).alloc (.cells (bvA zK) 31)).alloc (.cells #[] 5) := ⟨_, rfl⟩
  have hb1 : Below w.heap.size w ((w.alloc (.cells (bvA K) 32)).alloc (.cells (bvA zK) 31)) := ((Below.refl _ _).alloc (Nat.le_refl _) _).alloc (by simp) _
  have HB1 : Hid (Below w.heap.size w w1) := Lib.hid (hw1 ▸ hb1.alloc hb1.size _)
  have HK1 : Hid (BB w1 w.heap.size 32 K) := Lib.hid (hw1 ▸ ((BB.new w _ _).alloc _).alloc _)
  have hd1 : BB ((w.alloc (.cells (bvA K) 32)).alloc (.cells (bvA zK) 31)) (w.heap.size + 1) 31 zK := by have h := BB.new (w.alloc (.cells (bvA K) 32)) 31 zK; rw [show (w.alloc (.cells (bvA K) 32)).heap.size = w.heap.size + 1 by simp] at h; exact h
  have HD1 : Hid (BB w1 (w.heap.size + 1) 31 zK) := Lib.hid (hw1 ▸ hd1.alloc _)
  have HO1 : Hid (OwnB w.heap.size w1 (.slice (some ⟨w.heap.size + 1 + 1, 0, none⟩) 0 0) []) := Lib.hid (by
    have h : OwnB w.heap.size (((w.alloc (.cells (bvA K) 32)).alloc (.cells (bvA zK) 31)).alloc (.cells #[] 5)) (.slice (some ⟨((w.alloc (.cells (bvA K) 32)).alloc (.cells (bvA zK) 31)).heap.size, 0, none⟩) 0 0) [] := OwnB.empty hb1.size
    rw [show ((w.alloc (.cells (bvA K) 32)).alloc (.cells (bvA zK) 31)).heap.size = w.heap.size + 1 + 1 by simp] at h
    rw [hw1]; exact h)
  clear hK hD hc hb1 hd1
  go_enter Tryd.func44, Tryd.ntmps44
  go_wp2_with ((with_reducible show wpList _ _ _ (({ dst := some 7, op := _, type := _, pos := _, after := _, guard := _ } : Oper) :: _) _ _); refine Hid.out ?_)
  refine Lib.hid ?_
  change wpList _ _ _ _ _ (((w.alloc (.cells (bvA K) 32)).alloc (.cells (bvA zK) 31)).alloc (.cells #[] 5))
  rw [← hw1]
  clear hw1
  refine wpList_appB rfl (.tmp 5) (.tmp 6) rfl w.heap.size _ [] K (some ⟨w.heap.size, 0, none⟩) 32 rfl HO1.out (by rw [HK.out]; rfl) (HK1.out.rdBm HK.out) (fun e => by cases e) (by rw [HK.out]; decide) HB1.out.size ?_
  intro v2 w2 ho hg
  have hne : (Value.slice (some ⟨w.heap.size + 1 + 1, 0, none⟩) 0 0).ownBlock ≠ some (w.heap.size + 1) := fun e => by have e' : some (w.heap.size + 1 + 1) = some (w.heap.size + 1) := e; injection e' with e'; omega
  have HB2 := Lib.hid (HB1.out.trans (hg.below (fun k hk => HO1.out.base k hk) HB1.out.size))
  have HD2 : Hid (BB w2 (w.heap.size + 1) 31 zK) := Lib.hid ((hg.grown.block (w.heap.size + 1) HD1.out.lt (Ne.symm hne)).trans HD1.out)
  have HN2 := Lib.hid (hg.ne hne HD1.out.lt)
  rw [List.nil_append] at ho
  have HO2 := Lib.hid ho
  clear ho hg hne HB1 HD1 HK1 HO1
  obtain ⟨a2, c2, rfl, -, -⟩ := HO2.out.form
  rw [HK.out] at HO2 HN2 ⊢
  go_wp2_with ((with_reducible show wpList _ _ _ (({ dst := some 11, op := _, type := _, pos := _, after := _, guard := _ } : Oper) :: _) _ _); refine Hid.out ?_)
  refine Lib.hid ?_
  rw [HV.out]
  refine wpList_app1 rfl (.tmp 7) (.tmp 10) rfl w.heap.size _ K c w2.heap.size rfl (HO2.out.alloc _) rfl ?_ (by rw [HK.out]; decide) (by have := HB2.out.size; simp; omega) ?_
  · rw [cell_of_row _ _ _ _ _ _ (heap_alloc_new w2 _)]; rfl
  intro v3 w3 ho hg
  obtain ⟨a, cap, rfl, -, -⟩ := ho.form
  have hB2 := HB2.out.alloc HB2.out.size (.cells #[bv c] 5)
  have HB3 := Lib.hid (hB2.trans (hg.below (fun k hk => HO2.out.base k hk) hB2.size))
  have hd2 := HD2.out.alloc (.cells #[bv c] 5)
  have HD3 : Hid (BB w3 (w.heap.size + 1) 31 zK) := Lib.hid ((hg.grown.block (w.heap.size + 1) hd2.lt (Ne.symm HN2.out)).trans hd2)
  have hc := refTagged ⟨#[112, 114, 111, 111, 102]⟩ a cap (K ++ [c]) w3 ho.rdOf ho.caps.1 ho.caps.2 ho.nilCap (by decide) (by rw [HLL.out]; omega)
  rw [HD.out] at hc
  have HC := Lib.hid hc
  clear hc ho hg HB2 HD2 hB2 hd2 HO2 HN2
  generalize (K ++ [c]).length = q at *
  go_wp2_with (go_at_call 42; refine HC.out.mono ?_; rintro e w4 ⟨rfl, hb⟩; refine Hid.out ?_)
  refine Lib.hid ?_
  have HB4 := Lib.hid (HB3.out.trans (hb.mono HB3.out.size))
  have HD4 := Lib.hid (HD3.out.below hb HD3.out.lt)
  clear hb HB3 HD3 HC
  go_wp2_with (refine wpList_storeA rfl 31 (.tmp 4) (.tmp 12) rfl (w.heap.size + 1) (bvA D) rfl rfl 31 _ HD4.out (digP_sz _ HL.out) (key_old _ HL.out) (bvA_one _) ?_)
  intro w8 h8 hg8
  have hB8 := grown_below HB4.out hg8 (by omega) (by have := HD4.out.lt; omega)
  go_wp2_with fail
  refine bodyPost_ret (v := .agg (bvA D)) ?_ rfl ⟨rfl, hB8⟩
  exact results_cell_row rfl _ _ (w.heap.size + 1) 31 _ (0, 0) _ rfl h8 digP_und rfl (digP_sz _ HL.out)

set_option maxRecDepth 100000 in
set_option maxHeartbeats 1600000 in
theorem rProof_any (r c n p : Int) (w : World) (hT : Tab w) :
    Calls Tryd.prog 18 #[sidV r c n, .int .i64 p] w fun e w' => e = .returned (.tuple #[.agg (bvA (prW r c n p)), .int .i64 (shE r c n p)]) ∧ Below w.heap.size w w' := by
  have HT := Lib.hid hT
  have KP := Lib.hid (fun W h2 => rShared_any r c n p W h2)
  have KD := Lib.hid (fun W h2 => rproof_any (kyW r c n p) (kyW_len r c n p) r W h2)
  have HLK := Lib.hid (kyW_len r c n p)
  have HL := Lib.hid (prW_len r c n p)
  have HW := Lib.hid (fun h => prW_ok (r := r) (c := c) (s := n) (p := p) h)
  have HV := Lib.hid (fun h => prW_bad (r := r) (c := c) (s := n) (p := p) h)
  obtain ⟨K, hK⟩ : ∃ K, kyW r c n p = K := ⟨_, rfl⟩
  obtain ⟨D, hD⟩ : ∃ D, prW r c n p = D := ⟨_, rfl⟩
  rw [hK] at KP KD HLK HW
  rw [hD] at HL HW HV ⊢
  have HF1 := Lib.hid (ShF.start w 31 r c n)
  obtain ⟨w1, hw1⟩ : ∃ w1, w1 = shW w 31 r c n := ⟨_, rfl⟩
  rw [← hw1] at HF1
  by_cases hok : okS r c n p
  · rw [shE_ok hok] at KP ⊢
    have HDD := Lib.hid (HW.out hok)
    rw [← HDD.out] at KD
    unfold sidV at *
    clear hT hK hD HW HV hok HDD
    go_enter Tryd.func18, Tryd.ntmps18
    have c0 : w1.cell? ⟨w.heap.size, 0, none⟩ = some (.int .i64 r) := HF1.out.side.cell 0
    have c1 : w1.cell? ⟨w.heap.size, 1, none⟩ = some (.int .i64 c) := HF1.out.side.cell 1
    have c2 : w1.cell? ⟨w.heap.size, 2, none⟩ = some (.int .i64 n) := HF1.out.side.cell 2
    go_wp2_with fail
    change Calls _ _ _ (shW w 31 r c n) _
    rw [← hw1]
    clear hw1 c0 c1 c2
    refine (KP.out _ (HF1.out.tab HT.out)).mono ?_
    rintro e w2 ⟨rfl, hb⟩
    have HF2 := Lib.hid (HF1.out.call hb)
    clear hb HF1 KP
    go_wp2_with (refine wpList_storeA rfl 32 (.tmp 6) (.tmp 12) rfl w2.heap.size (bvA K) rfl rfl 32 _ (BB.new w2 _ zK) (key_sz _ HLK.out) (key_old _ HLK.out) (bvA_one _) ?_)
    intro w3 h3 hg3
    obtain ⟨hk3, hb3⟩ := key_stored h3 hg3
    have HK3 := Lib.hid hk3
    have HF3 := Lib.hid (HF2.out.call hb3)
    clear h3 hg3 hk3 hb3 HF2
    generalize w2.heap.size = gk at *
    have c0 : w3.cell? ⟨w.heap.size, 0, none⟩ = some (.int .i64 r) := HF3.out.side.cell 0
    go_wp2_with (refine wpList_load_row rfl 32 (.tmp 6) rfl gk rfl _ (bvA K) (0, 0) _ HK3.out key_und rfl (key_sz _ HLK.out) ?_)
    clear c0
    refine (KD.out _ (HF3.out.tab HT.out)).mono ?_
    rintro e w4 ⟨rfl, hb⟩
    have HF4 := Lib.hid (HF3.out.call hb)
    clear hb HF3 HK3 KD
    go_wp2_with (refine wpList_storeA rfl 31 (.tmp 4) (.tmp 21) rfl (w.heap.size + 1) (bvA D) rfl rfl 31 _ HF4.out.key (digP_sz _ HL.out) (key_old _ HL.out) (bvA_one _) ?_)
    intro w8 h8 hg8
    have hB8 := grown_below HF4.out.below hg8 (by omega) (by have := HF4.out.key.lt; omega)
    go_wp2_with fail
    refine bodyPost_ret (v := .tuple #[.agg (bvA D), .int .i64 0]) ?_ rfl ⟨rfl, hB8⟩
    exact results_cell_row_tmp rfl _ _ (w.heap.size + 1) 31 _ (0, 0) _ rfl h8 digP_und rfl (digP_sz _ HL.out) _ rfl
  · rw [shE_bad hok] at KP ⊢
    have hDD := HV.out hok
    have hKK : K = zK := by rw [← hK]; exact kyW_bad hok
    subst hDD
    subst hKK
    unfold sidV at *
    clear hT hK hD HW HV hok KD
    go_enter Tryd.func18, Tryd.ntmps18
    go_wp2_with fail
    change Calls _ _ _ (shW w 31 r c n) _
    rw [← hw1]
    clear hw1
    refine (KP.out _ (HF1.out.tab HT.out)).mono ?_
    rintro e w2 ⟨rfl, hb⟩
    have HF2 := Lib.hid (HF1.out.call hb)
    clear hb HF1 KP
    go_wp2_with (refine wpList_storeA rfl 32 (.tmp 6) (.tmp 12) rfl w2.heap.size (bvA zK) rfl rfl 32 _ (BB.new w2 _ zK) (key_sz _ HLK.out) (key_old _ HLK.out) (bvA_one _) ?_)
    intro w3 h3 hg3
    obtain ⟨hk3, hb3⟩ := key_stored h3 hg3
    have HF3 := Lib.hid (HF2.out.call hb3)
    clear h3 hg3 hk3 hb3 HF2
    generalize w2.heap.size = gk at *
    go_wp2_with (first
      | (refine wpList_built rfl 31 #[] rfl [] rfl (bvA zK) (by kernel_rfl) ?_)
      | (refine wpList_storeA rfl 31 (.tmp 4) (.tmp 16) rfl (w.heap.size + 1) (bvA zK) rfl rfl 31 _ HF3.out.key (digP_sz _ HL.out) (key_old _ HL.out) (bvA_one _) ?_))
    intro w8 h8 hg8
    have hB8 := grown_below HF3.out.below hg8 (by omega) (by have := HF3.out.key.lt; omega)
    go_wp2_with fail
    refine bodyPost_ret (v := .tuple #[.agg (bvA zK), .int .i64 100]) ?_ rfl ⟨rfl, hB8⟩
    exact results_cell_row_tmp rfl _ _ (w.heap.size + 1) 31 _ (0, 0) _ rfl h8 digP_und rfl (digP_sz _ HL.out) _ rfl

set_option maxRecDepth 100000 in
set_option maxHeartbeats 1600000 in
theorem rAccept_any (r c n p : Int) (d : List UInt8) (hd : d.length = 32) (w : World) (hT : Tab w) :
    Calls Tryd.prog 21 #[sidV r c n, .int .i64 p, .agg (bvA d)] w fun e w' => e = .returned (.tuple #[.bool (acW r c n p d), .int .i64 (shE r c n p)]) ∧ Below w.heap.size w w' := by
  have HT := Lib.hid hT
  have HLD := Lib.hid hd
  have KP := Lib.hid (fun W h2 => rShared_any r c n p W h2)
  have KD := Lib.hid (fun W h2 => rproof_any (kyW r c n p) (kyW_len r c n p) (3 - r) W h2)
  have HLK := Lib.hid (kyW_len r c n p)
  have HL := Lib.hid (prP_len (kyW r c n p) (roB (3 - r)))
  have HW := Lib.hid (fun h => acW_ok (r := r) (c := c) (s := n) (p := p) h d)
  have HV := Lib.hid (fun h => acW_bad (r := r) (c := c) (s := n) (p := p) h d)
  obtain ⟨K, hK⟩ : ∃ K, kyW r c n p = K := ⟨_, rfl⟩
  rw [hK] at KP KD HLK HW HL
  obtain ⟨D, hD⟩ : ∃ D, prP K (roB (3 - r)) = D := ⟨_, rfl⟩
  rw [hD] at HL HW KD
  obtain ⟨b, hb0⟩ : ∃ b, acW r c n p d = b := ⟨_, rfl⟩
  rw [hb0] at HW HV ⊢
  have HF1 := Lib.hid (ShF.startD w r c n d)
  obtain ⟨w1, hw1⟩ : ∃ w1, w1 = shD w r c n d := ⟨_, rfl⟩
  rw [← hw1] at HF1
  by_cases hok : okS r c n p
  · rw [shE_ok hok] at KP ⊢
    have a3 : IntKind.i64.wrap (3 - r) = 3 - r := IntWalk.i64_in _ (by have := hok.1.1; omega)
    have HEQ : Hid (∀ W, (Op.equalIn 10000 31 (.agg (bvA d)) (.agg (bvA D))).run Tryd.prog W = .ok b W) := Lib.hid (fun W => by rw [HW.out hok]; exact equal_bv d D HLD.out HL.out W)
    obtain ⟨ro, hro⟩ : ∃ ro, 3 - r = ro := ⟨_, rfl⟩
    rw [hro] at KD
    replace a3 := a3.trans hro
    unfold sidV at *
    clear hT hK hD HW HV hok hb0 hd hro
    go_enter Tryd.func21, Tryd.ntmps21
    have c0 : w1.cell? ⟨w.heap.size, 0, none⟩ = some (.int .i64 r) := HF1.out.side.cell 0
    go_wp2_with fail
    change Calls _ _ _ (shD w r c n d) _
    rw [← hw1]
    clear hw1 c0
    refine (KP.out _ (HF1.out.tab HT.out)).mono ?_
    rintro e w2 ⟨rfl, hb⟩
    have HF2 := Lib.hid (HF1.out.call hb)
    clear hb HF1 KP
    go_wp2_with (refine wpList_storeA rfl 32 (.tmp 8) (.tmp 14) rfl w2.heap.size (bvA K) rfl rfl 32 _ (BB.new w2 _ zK) (key_sz _ HLK.out) (key_old _ HLK.out) (bvA_one _) ?_)
    intro w3 h3 hg3
    obtain ⟨hk3, hb3⟩ := key_stored h3 hg3
    have HK3 := Lib.hid hk3
    have HF3 := Lib.hid (HF2.out.call hb3)
    clear h3 hg3 hk3 hb3 HF2
    generalize w2.heap.size = gk at *
    go_wp2_with fail
    have HSB : Hid (∀ W, Below w3.heap.size w3 W → AcS w.heap.size (w.heap.size + 1) gk r d K W) := Lib.hid (fun W hW => ⟨(HF3.out.call hW).side.cell 0, (HF3.out.call hW).key, HK3.out.below hW HK3.out.lt⟩)
    have HE0 : Hid (Below w3.heap.size w3 w3.drew) := Lib.hid (Below.refl _ _).drew
    have HSK := Lib.hid (key_szl K HLK.out)
    have HSD := Lib.hid (digP_szl d HLD.out)
    refine wp_region_held_drew (S := AcS w.heap.size (w.heap.size + 1) gk r d K) (by kernel_rfl) (HSB.out _ HE0.out) (fun hHeld => ?_)
    refine wpAnyH_take (i := 0) (v := .agg (bvA d)) rfl (by kernel_rfl) (by kernel_rfl) (by kernel_rfl) (fun _ _ _ h => h) (yieldsIf_load_mid (by rfl) 31 (.tmp 5) rfl (w.heap.size + 1) 0 rfl (d.map bv) _ (fun _ h => h.dig.range) digP_und rfl HSD.out) hHeld ?_
    simp only [Act.put, List.getElem_toArray, List.getElem_cons_zero, List.getElem_cons_succ, List.setIfInBounds_toArray, List.set_cons_zero, List.set_cons_succ]
    refine wpAnyH_take (i := 1) (v := .agg (bvA K)) rfl (by kernel_rfl) (by kernel_rfl) (by kernel_rfl) (fun _ _ _ h => h) (yieldsIf_load_mid (by rfl) 32 (.tmp 8) rfl gk 0 rfl (K.map bv) _ (fun _ h => h.key.range) key_und rfl HSK.out) hHeld ?_
    simp only [Act.put, List.getElem_toArray, List.getElem_cons_zero, List.getElem_cons_succ, List.setIfInBounds_toArray, List.set_cons_zero, List.set_cons_succ]
    refine wpAnyH_take (i := 2) (v := .pointer (some ⟨w.heap.size, 0, none⟩)) rfl (by kernel_rfl) (by kernel_rfl) (by kernel_rfl) (fun _ _ _ h => h) (Or.inl ⟨by rfl, fun w _ => by go_simp⟩) hHeld ?_
    simp only [Act.put, List.getElem_toArray, List.getElem_cons_zero, List.getElem_cons_succ, List.setIfInBounds_toArray, List.set_cons_zero, List.set_cons_succ]
    refine wpAnyH_take (i := 3) (v := .int .i64 r) rfl (by kernel_rfl) (by kernel_rfl) (by kernel_rfl) (fun _ _ _ h => h) (Or.inl ⟨by rfl, fun w hw => by have h0 := hw.role; go_simp⟩) hHeld ?_
    simp only [Act.put, List.getElem_toArray, List.getElem_cons_zero, List.getElem_cons_succ, List.setIfInBounds_toArray, List.set_cons_zero, List.set_cons_succ]
    refine wpAnyH_take (i := 4) (v := .int .i64 ro) rfl (by kernel_rfl) (by kernel_rfl) (by kernel_rfl) (fun _ _ _ h => h) (Or.inl ⟨by rfl, fun w _ => by go_simp⟩) hHeld ?_
    simp only [Act.put, List.getElem_toArray, List.getElem_cons_zero, List.getElem_cons_succ, List.setIfInBounds_toArray, List.set_cons_zero, List.set_cons_succ]
    refine wpAnyH_ready (rs := [5]) (by kernel_rfl) (by simp) (AllReadyH.cons rfl (fun K0 hK => ?_) AllReadyH.nil)
    rw [if_pos (by rfl)]
    go_simp
    refine (KD.out _ ((HF3.out.call HE0.out).tab HT.out)).mono ?_
    rintro e w5 ⟨rfl, hb⟩
    have HE1 := Lib.hid (HE0.out.trans (hb.mono HE0.out.size))
    clear hb
    try go_wp2_with fail
    refine hK.out _ _ (HSB.out _ HE1.out) (fun hHeld => ?_)
    clear hK K0
    try simp only [Act.put, List.getElem_toArray, List.getElem_cons_zero, List.getElem_cons_succ, List.setIfInBounds_toArray, List.set_cons_zero, List.set_cons_succ]
    refine wpAnyH_take (i := 6) (v := .bool b) rfl (by kernel_rfl) (by kernel_rfl) (by kernel_rfl) (fun _ _ _ h => h) (Or.inl ⟨by rfl, fun w _ => run_eqD (.tmp 19) (.tmp 24) (bvA d) (bvA D) b rfl rfl rfl (HEQ.out w)⟩) hHeld ?_
    simp only [Act.put, List.getElem_toArray, List.getElem_cons_zero, List.getElem_cons_succ, List.setIfInBounds_toArray, List.set_cons_zero, List.set_cons_succ]
    refine wpAnyH_take (i := 7) (v := .bool b) rfl (by kernel_rfl) (by kernel_rfl) (by kernel_rfl) (fun _ _ _ h => h) (Or.inl ⟨by rfl, fun w _ => by go_simp⟩) hHeld ?_
    simp only [Act.put, List.getElem_toArray, List.getElem_cons_zero, List.getElem_cons_succ, List.setIfInBounds_toArray, List.set_cons_zero, List.set_cons_succ]
    refine wpAnyH_take (i := 8) (v := .int .i64 0) rfl (by kernel_rfl) (by kernel_rfl) (by kernel_rfl) (fun _ _ _ h => h) (Or.inl ⟨by rfl, fun w _ => by go_simp⟩) hHeld ?_
    simp only [Act.put, List.getElem_toArray, List.getElem_cons_zero, List.getElem_cons_succ, List.setIfInBounds_toArray, List.set_cons_zero, List.set_cons_succ]
    refine wpAnyH_done (by kernel_rfl) ?_ _
    go_wp2_with fail
    go_ret2
    exact ⟨rfl, (HF3.out.call HE1.out).below⟩
  · rw [shE_bad hok] at KP ⊢
    have hDD := HV.out hok
    subst hDD
    unfold sidV at *
    clear hT hK hD HW HV hok KD
    go_enter Tryd.func21, Tryd.ntmps21
    go_wp2_with fail
    change Calls _ _ _ (shD w r c n d) _
    rw [← hw1]
    clear hw1
    refine (KP.out _ (HF1.out.tab HT.out)).mono ?_
    rintro e w2 ⟨rfl, hb⟩
    have HF2 := Lib.hid (HF1.out.call hb)
    clear hb HF1 KP
    go_wp2_with (refine wpList_storeA rfl 32 (.tmp 8) (.tmp 14) rfl w2.heap.size (bvA K) rfl rfl 32 _ (BB.new w2 _ zK) (key_sz _ HLK.out) (key_old _ HLK.out) (bvA_one _) ?_)
    intro w3 h3 hg3
    obtain ⟨hk3, hb3⟩ := key_stored h3 hg3
    have HF3 := Lib.hid (HF2.out.call hb3)
    clear h3 hg3 hk3 hb3 HF2
    go_wp2_with fail
    go_ret2
    exact ⟨rfl, HF3.out.below⟩
end Go.Proofs.YtkpecfhcdechmaaDoor
