/-
  Package pake: the walk of PakeSharedSpec.
-/
import Derived.Test.YtkpecfhcdechmaaDoorJu
namespace Go.Proofs.YtkpecfhcdechmaaDoor
open Go.RowKit
set_option linter.unusedVariables false
set_option linter.unusedSimpArgs false

set_option maxRecDepth 100000 in
set_option maxHeartbeats 8000000 in
theorem sharedSpec_walk10 (r c n p : Int) (d : List UInt8) (hd : d.length = 32) (w : World) (hT : Tab w) :
    Calls Tryd.prog 4 #[sidV r c n, .int .i64 p, .agg (bvA d)] w fun e w' => e = .returned (.bool true) ∧ Below w.heap.size w w' := by
  have HLd := Lib.hid hd
  have KH := Lib.hid (fun W h => Shared_any r c n p W h)
  have KG := Lib.hid (fun W h => rShared_any r c n p W h)
  have KR := Lib.hid (fun W h => Proof_any r c n p W h)
  have KT := Lib.hid (fun W h => rProof_any r c n p W h)
  have KA := Lib.hid (fun x hx W h => Accept_any r c n p x hx W h)
  have KB := Lib.hid (fun x hx W h => rAccept_any r c n p x hx W h)
  have HLX := Lib.hid (kyW_len r c n p)
  have HLP := Lib.hid (prW_len r c n p)
  obtain ⟨X, hX⟩ : ∃ X, kyW r c n p = X := ⟨_, rfl⟩
  obtain ⟨P, hP⟩ : ∃ P, prW r c n p = P := ⟨_, rfl⟩
  obtain ⟨E, hE⟩ : ∃ E, shE r c n p = E := ⟨_, rfl⟩
  rw [hX, hE] at KH KG
  rw [hP, hE] at KR KT
  rw [hE] at KA KB
  rw [hX] at HLX
  rw [hP] at HLP
  obtain ⟨ro, a3⟩ : ∃ ro, IntKind.i64.wrap (3 - r) = ro := ⟨_, rfl⟩
  have HV2 := Lib.hid (bv_roB ro)
  obtain ⟨c2, hc2⟩ : ∃ x, roB ro = x := ⟨_, rfl⟩
  rw [hc2] at HV2
  obtain ⟨Y2, hY2⟩ : ∃ Y, X ++ [c2] = Y := ⟨_, rfl⟩
  have HXb1 := Lib.hid hY2
  have HXb := Lib.hid (proof_hash X HLX.out c2 Y2 hY2)
  have HLD2 := Lib.hid (prP_len X c2)
  obtain ⟨D2, hD2⟩ : ∃ D, prP X c2 = D := ⟨_, rfl⟩
  rw [hD2] at HLD2 HXb
  obtain ⟨DD, hDD⟩ : ∃ DD, d ++ P ++ D2 = DD := ⟨_, rfl⟩
  have HDD := Lib.hid hDD
  have eX := fun W => equal_keyS X HLX.out W
  have eP := fun W => equal_same P HLP.out W
  clear hX hP hE hc2 hY2 hD2 hDD hd
  unfold sidV at *
  obtain ⟨w1, hw1⟩ : ∃ w1, w1 = (w.alloc (.cells #[.int .i64 r, .int .i64 c, .int .i64 n] 23)).alloc (.cells (bvA d) 31) := ⟨_, rfl⟩
  have HB0 := Lib.hid (((PB.start hT).addS r c n w.heap.size rfl).addB 31 d (w.heap.size + 1) (by simp))
  rw [← hw1] at HB0
  clear hT
  go_enter Tryd.func4, Tryd.ntmps4
  go_wp2_with fail
  rw [← hw1]
  clear hw1
  refine (sane10_any _ HB0.out.tab).mono ?_
  rintro e w2 ⟨rfl, hb⟩
  have HB2 := Lib.hid (HB0.out.call hb)
  clear hb HB0
  obtain ⟨x0, x1, x2⟩ := (HB2.out.side w.heap.size r c n (by simp)).cells3
  go_wp2_with fail
  clear x0 x1 x2
  refine (KH.out _ HB2.out.tab).mono ?_
  rintro e w3 ⟨rfl, hb⟩
  have HB3 := Lib.hid (HB2.out.call hb)
  clear hb HB2
  go_wp2_with (refine wpList_storeA rfl 32 (.tmp 7) (.tmp 28) rfl w3.heap.size (bvA X) rfl rfl 32 _ (BB.new w3 _ zK) (key_sz _ HLX.out) (key_old _ HLX.out) (bvA_one _) ?_)
  intro w4 hst hgr
  have HB4 := Lib.hid (HB3.out.stored 32 X hst hgr)
  clear hst hgr HB3
  generalize w3.heap.size = gk at *
  obtain ⟨x0, x1, x2⟩ := (HB4.out.side w.heap.size r c n (by simp)).cells3
  go_wp2_with fail
  clear x0 x1 x2
  refine (KG.out _ HB4.out.tab).mono ?_
  rintro e w5 ⟨rfl, hb⟩
  have HB5 := Lib.hid (HB4.out.call hb)
  clear hb HB4
  go_wp2_with (refine wpList_storeA rfl 32 (.tmp 9) (.tmp 34) rfl w5.heap.size (bvA X) rfl rfl 32 _ (BB.new w5 _ zK) (key_sz _ HLX.out) (key_old _ HLX.out) (bvA_one _) ?_)
  intro w6 hst hgr
  have HB6 := Lib.hid (HB5.out.stored 32 X hst hgr)
  clear hst hgr HB5
  generalize w5.heap.size = gl at *
  obtain ⟨x0, x1, x2⟩ := (HB6.out.side w.heap.size r c n (by simp)).cells3
  go_wp2_with fail
  clear x0 x1 x2
  refine (KR.out _ HB6.out.tab).mono ?_
  rintro e w7 ⟨rfl, hb⟩
  have HB7 := Lib.hid (HB6.out.call hb)
  clear hb HB6
  go_wp2_with (refine wpList_storeA rfl 31 (.tmp 11) (.tmp 40) rfl w7.heap.size (bvA P) rfl rfl 31 _ (BB.new w7 _ zK) (digP_sz _ HLP.out) (key_old _ HLP.out) (bvA_one _) ?_)
  intro w8 hst hgr
  have HB8 := Lib.hid (HB7.out.stored 31 P hst hgr)
  clear hst hgr HB7
  generalize w7.heap.size = gp at *
  obtain ⟨x0, x1, x2⟩ := (HB8.out.side w.heap.size r c n (by simp)).cells3
  go_wp2_with fail
  clear x0 x1 x2
  refine (KT.out _ HB8.out.tab).mono ?_
  rintro e w9 ⟨rfl, hb⟩
  have HB9 := Lib.hid (HB8.out.call hb)
  clear hb HB8
  go_wp2_with (refine wpList_storeA rfl 31 (.tmp 13) (.tmp 46) rfl w9.heap.size (bvA P) rfl rfl 31 _ (BB.new w9 _ zK) (digP_sz _ HLP.out) (key_old _ HLP.out) (bvA_one _) ?_)
  intro w10 hst hgr
  have HB10 := Lib.hid (HB9.out.stored 31 P hst hgr)
  clear hst hgr HB9
  generalize w9.heap.size = gq at *
  go_wp2_with (first
    | (refine wpList_load_row rfl 32  (.tmp 7) rfl gk rfl _ (bvA X) (0, 0) _ (HB10.out.blk gk 32 X (by simp)) key_und rfl (key_sz _ HLX.out) ?_)
    | (refine wpList_load_row rfl 32  (.tmp 9) rfl gl rfl _ (bvA X) (0, 0) _ (HB10.out.blk gl 32 X (by simp)) key_und rfl (key_sz _ HLX.out) ?_)
    | (refine wpList_load_rowG (by rfl) 31  (.tmp 11) rfl gp rfl _ (bvA P) (0, 0) _ (HB10.out.blk gp 31 P (by simp)) digP_und rfl (digP_sz _ HLP.out) ?_)
    | (refine wpList_load_rowG (by rfl) 31  (.tmp 13) rfl gq rfl _ (bvA P) (0, 0) _ (HB10.out.blk gq 31 P (by simp)) digP_und rfl (digP_sz _ HLP.out) ?_))
  rename_i K0 hK0
  refine region_writes [66, 67, 68, 69, 70, 71, 72, 73, 74, 75, 15] (fun f W => ∃ g, f 15 = .pointer (some ⟨g, 0, none⟩) ∧ BB W g 31 D2 ∧ Below w10.heap.size w10 W) ?_ ?_
  rotate_left
  · clear hK0 K0
    have HBd := Lib.hid HB10.out.drew
    have hEd : Below w10.heap.size w10 w10.drew := (Below.refl _ _).drew
    have HSB : Hid (∀ W, Below w10.drew.heap.size w10.drew W → W.cell? ⟨w.heap.size, 0, none⟩ = some (.int .i64 r)) := Lib.hid (fun W hW => ((HBd.out.call hW).side w.heap.size r c n (by simp)).cell 0)
    refine wp_region_held_drew (S := fun W => W.cell? ⟨w.heap.size, 0, none⟩ = some (.int .i64 r)) (by kernel_rfl) (HSB.out _ (Below.refl _ _)) (fun hHeld => ?_)
    refine wpAnyH_take (i := 1) (v := .slice (some ⟨gl, 0, none⟩) 32 32) rfl (by kernel_rfl) (by kernel_rfl) (by kernel_rfl) (fun _ _ _ h => nomatch h.1) (Or.inl ⟨by rfl, fun w _ => by go_simp⟩) hHeld ?_
    simp only [Act.put, List.getElem_toArray, List.getElem_cons_zero, List.getElem_cons_succ, List.setIfInBounds_toArray, List.set_cons_zero, List.set_cons_succ]
    refine wpAnyH_take (i := 3) (v := .pointer (some ⟨w.heap.size, 0, none⟩)) rfl (by kernel_rfl) (by kernel_rfl) (by kernel_rfl) (fun _ _ _ h => nomatch h.1) (Or.inl ⟨by rfl, fun w _ => by go_simp⟩) hHeld ?_
    simp only [Act.put, List.getElem_toArray, List.getElem_cons_zero, List.getElem_cons_succ, List.setIfInBounds_toArray, List.set_cons_zero, List.set_cons_succ]
    refine wpAnyH_take (i := 4) (v := .int .i64 r) rfl (by kernel_rfl) (by kernel_rfl) (by kernel_rfl) (fun _ _ _ h => nomatch h.1) (Or.inl ⟨by rfl, fun wz hw => by have h0 : wz.cell? ⟨w.heap.size, 0, none⟩ = some (.int .i64 r) := hw; go_simp⟩) hHeld ?_
    simp only [Act.put, List.getElem_toArray, List.getElem_cons_zero, List.getElem_cons_succ, List.setIfInBounds_toArray, List.set_cons_zero, List.set_cons_succ]
    refine wpAnyH_take (i := 5) (v := .int .i64 ro) rfl (by kernel_rfl) (by kernel_rfl) (by kernel_rfl) (fun _ _ _ h => nomatch h.1) (Or.inl ⟨by rfl, fun w _ => by go_simp⟩) hHeld ?_
    simp only [Act.put, List.getElem_toArray, List.getElem_cons_zero, List.getElem_cons_succ, List.setIfInBounds_toArray, List.set_cons_zero, List.set_cons_succ]
    refine wpAnyH_take (i := 6) (v := .int .u8 (ro % 256)) rfl (by kernel_rfl) (by kernel_rfl) (by kernel_rfl) (fun _ _ _ h => nomatch h.1) (Or.inl ⟨by rfl, fun w _ => by first | (go_simp; done) | (go_simp; rfl)⟩) hHeld ?_
    simp only [Act.put, List.getElem_toArray, List.getElem_cons_zero, List.getElem_cons_succ, List.setIfInBounds_toArray, List.set_cons_zero, List.set_cons_succ]
    generalize w10.drew = wd at *
    refine wpAnyH_writes [66, 68, 73, 74, 75, 15] (fun L f W => PrK wd X c2 D2 (L 0) (L 2) (L 7) (L 8) (L 9) (L 10) (L 11) (f 66) (f 68) (f 73) (f 74) (f 75) (f 15) W) [0, 2, 7, 8, 9, 10, 11] (by kernel_rfl) (by kernel_rfl) ?_ (HSB.out _ (Below.refl _ _)) ?_ ?_
    · exact PrK.start wd
    · intro L f W hJ _ hall
      obtain ⟨g, e1, e2, e3, e4⟩ := hJ.done (hall 10 (by simp)) (hall 11 (by simp))
      exact ⟨rfl, writes_ex (by kernel_rfl) ⟨g, Eq.trans (by kernel_rfl) e1, e3, hEd.trans (e4.mono hEd.size)⟩⟩
    refine StepsI.cons [] rfl (by kernel_rfl) ?_ ?_
    · rintro L a' W ⟨f, rfl, hJ⟩ _ hL hd K9 hK
      simp only [writes, List.foldl_cons, List.foldl_nil, Act.put, List.setIfInBounds_toArray, List.set_cons_zero, List.set_cons_succ]
      rw [if_pos (by rfl)]
      refine wp_nil0 rfl ?_
      intro W1 g0 ho hg0 hb
      have hJ2 := hJ.set0 hL (ho.mono hJ.below.size) (fun k hk => by have e : some g0 = some k := hk; injection e with e; omega) hb
      refine hK.out _ _ (HSB.out _ hJ2.below) ?_
      exact writes_ex (by kernel_rfl) hJ2
    refine StepsI.cons [0] rfl (by kernel_rfl) ?_ ?_
    · rintro L a' W ⟨f, rfl, hJ⟩ _ hL hd K9 hK
      simp only [writes, List.foldl_cons, List.foldl_nil, Act.put, List.setIfInBounds_toArray, List.set_cons_zero, List.set_cons_succ]
      have e0 := hd 0 (by simp)
      rw [if_pos (by rfl)]
      refine wp_appB (.tmp 66) (.tmp 67) rfl wd.heap.size _ [] X (some ⟨gl, 0, none⟩) 32 rfl (hJ.a0 e0 hL) (by rw [HLX.out]; rfl) (((HBd.out.call hJ.below).blk gl 32 X (by simp)).rdBm HLX.out) (fun e => by cases e) (by rw [HLX.out]; decide) hJ.below.size ?_
      intro v2 W2 ho hg
      rw [List.nil_append] at ho
      have hJ2 := hJ.set2 hL e0 ho hg
      refine hK.out _ _ (HSB.out _ hJ2.below) ?_
      exact writes_ex (by kernel_rfl) hJ2
    refine StepsI.cons [] rfl (by kernel_rfl) ?_ ?_
    · rintro L a' W ⟨f, rfl, hJ⟩ _ hL hd K9 hK
      simp only [writes, List.foldl_cons, List.foldl_nil, Act.put, List.setIfInBounds_toArray, List.set_cons_zero, List.set_cons_succ]
      rw [if_pos (by rfl)]
      refine wp_oneB rfl c2 HV2.out wd.heap.size hJ.below.size ?_
      intro W1 v ho hf hb
      have hJ2 := hJ.set7 hL ho hf hb
      refine hK.out _ _ (HSB.out _ hJ2.below) ?_
      exact writes_ex (by kernel_rfl) hJ2
    refine StepsI.cons [2, 7] rfl (by kernel_rfl) ?_ ?_
    · rintro L a' W ⟨f, rfl, hJ⟩ _ hL hd K9 hK
      simp only [writes, List.foldl_cons, List.foldl_nil, Act.put, List.setIfInBounds_toArray, List.set_cons_zero, List.set_cons_succ]
      have e2 := hd 2 (by simp)
      have e7 := hd 7 (by simp)
      have h7 := hJ.a7 e7 hL
      obtain ⟨a7, c7, q7, -, -⟩ := h7.form
      rw [q7] at h7
      rw [if_pos (by rfl)]
      refine wp_appB (.tmp 68) (.tmp 73) rfl wd.heap.size _ X [c2] a7 c7 rfl (hJ.a2 e2 hL) q7 h7.rdOf h7.nilCap (by show _ + 1 ≤ _; rw [HLX.out]; decide) hJ.below.size ?_
      intro v2 W2 ho hg
      have hJ2 := hJ.set8 hL e2 e7 ho hg
      refine hK.out _ _ (HSB.out _ hJ2.below) ?_
      exact writes_ex (by kernel_rfl) hJ2
    refine StepsI.cons [8] rfl (by kernel_rfl) ?_ ?_
    · rintro L a' W ⟨f, rfl, hJ⟩ _ hL hd K9 hK
      simp only [writes, List.foldl_cons, List.foldl_nil, Act.put, List.setIfInBounds_toArray, List.set_cons_zero, List.set_cons_succ]
      have e8 := hd 8 (by simp)
      have h8 := hJ.a8 e8 hL
      rw [HXb1.out] at h8
      obtain ⟨a8, c8, q8, -, -⟩ := h8.form
      rw [q8] at h8 ⊢
      go_simp
      refine (HXb.out _ _ _ _ (HBd.out.call hJ.below).tab h8).mono ?_
      rintro e W1 ⟨rfl, hb⟩
      have hJ2 := hJ.set9 e8 hb
      rw [q8] at hJ2
      try go_wp2_with fail
      refine hK.out _ _ (HSB.out _ hJ2.below) ?_
      exact writes_ex (by kernel_rfl) hJ2
    refine StepsI.cons [] rfl (by kernel_rfl) ?_ ?_
    · rintro L a' W ⟨f, rfl, hJ⟩ _ hL hd K9 hK
      simp only [writes, List.foldl_cons, List.foldl_nil, Act.put, List.setIfInBounds_toArray, List.set_cons_zero, List.set_cons_succ]
      rw [if_pos (by rfl)]
      refine wp_allocA rfl ?_
      intro W1 g hn hge hb
      have hJ2 := hJ.set10 hL hn hge hb
      refine hK.out _ _ (HSB.out _ hJ2.below) ?_
      exact writes_ex (by kernel_rfl) hJ2
    refine StepsI.cons [9, 10] rfl (by kernel_rfl) ?_ StepsI.nil
    · rintro L a' W ⟨f, rfl, hJ⟩ _ hL hd K9 hK
      simp only [writes, List.foldl_cons, List.foldl_nil, Act.put, List.setIfInBounds_toArray, List.set_cons_zero, List.set_cons_succ]
      obtain ⟨g, e10, hge, hBB⟩ := hJ.h11 hL (hd 10 (by simp))
      have e9 := hJ.h9 (hd 9 (by simp))
      rw [if_pos (by rfl)]
      refine wp_storeA 31 (.tmp 15) (.tmp 75) rfl g (bvA D2) e10 e9 31 _ hBB (digP_sz _ HLD2.out) (key_old _ HLD2.out) (bvA_one _) ?_
      intro W1 hn hg
      have hJ2 := hJ.put11 (hd 9 (by simp)) (hd 10 (by simp)) e10 hge hn hg
      refine hK.out _ _ (HSB.out _ hJ2.below) ?_
      exact writes_ex (by kernel_rfl) hJ2
  rintro f2 w11 ⟨g2, e10, hBB, hb⟩
  have HB11 := Lib.hid ((HB10.out.call hb).put hBB)
  clear hBB hb HB10
  refine hK0 _ _ ?_
  clear hK0 K0
  simp only [writes, List.foldl_cons, List.foldl_nil, Act.put, List.setIfInBounds_toArray, List.set_cons_zero, List.set_cons_succ]
  rw [e10]
  clear e10
  go_wp2_with (first
    | (refine wpList_load_row rfl 31  (.tmp 5) rfl (w.heap.size + 1) rfl _ (bvA d) (0, 0) _ (HB11.out.blk (w.heap.size + 1) 31 d (by simp)) digP_und rfl (digP_sz _ HLd.out) ?_)
    | (refine wpList_load_row rfl 31  (.tmp 13) rfl gq rfl _ (bvA P) (0, 0) _ (HB11.out.blk gq 31 P (by simp)) digP_und rfl (digP_sz _ HLP.out) ?_)
    | (refine wpList_load_row rfl 31  (.tmp 15) rfl g2 rfl _ (bvA D2) (0, 0) _ (HB11.out.blk g2 31 D2 (by simp)) digP_und rfl (digP_sz _ HLD2.out) ?_)
    | (refine wpList_build3D rfl (.tmp 76) (.tmp 77) (.tmp 78) rfl d P D2 DD HDD.out HLd.out HLP.out HLD2.out rfl rfl rfl ?_))
  have HBl := Lib.hid (HB11.out.addB 31 DD w11.heap.size rfl)
  obtain ⟨wl, hwl⟩ : ∃ wl, wl = w11.alloc (.cells (bvA DD) 31) := ⟨_, rfl⟩
  rw [← hwl] at HBl ⊢
  clear hwl HB11 eX eP
  obtain ⟨gl0, hgl0⟩ : ∃ gl0, gl = gl0 := ⟨_, rfl⟩
  rw [hgl0] at HBl ⊢
  clear hgl0
  generalize w11.heap.size = gl at *
  go_loopw [81] (fun i wr => ∃ k : Nat, k ≤ 3 ∧ i = .int .i64 k ∧ PB w [(w.heap.size, r, c, n)] [(gl, 31, DD), (g2, 31, D2), (gq, 31, P), (gp, 31, P), (gl0, 32, X), (gk, 32, X), (w.heap.size + 1, 31, d)] wr) (fun i _ => 3 - (intOf i).toNat)
  case atStart => exact ⟨0, by omega, rfl, HBl.out⟩
  case round =>
    clear HBl
    obtain ⟨k, hk, rfl, hpb⟩ := hrel
    have HBr := Lib.hid hpb
    clear hpb
    by_cases hlt : k < 3
    · have HP := Lib.hid ((HBr.out.blk gl 31 DD (by simp)).partD HDD.out HLd.out HLP.out HLD2.out k hlt)
      have HLx := Lib.hid (nth3_len HLd.out HLP.out HLD2.out k)
      obtain ⟨x, hx⟩ : ∃ x, nth3 d P D2 k = x := ⟨_, rfl⟩
      rw [hx] at HP HLx
      have KAx := Lib.hid (KA.out x HLx.out)
      have KBx := Lib.hid (KB.out x HLx.out)
      obtain ⟨b, hb0⟩ : ∃ b, acW r c n p x = b := ⟨_, rfl⟩
      rw [hb0] at KAx KBx
      have hbb : (b != b) = false := by cases b <;> rfl
      have hat0 : (0 : Int) ≤ (k : Int) := by omega
      have hat1 : (k : Int) < 3 := by omega
      clear hx hb0
      go_wp2_with (first
        | (refine wpList_load_mid rfl 31 (.tmp 83) rfl gl (k * 32) rfl (x.map bv) _ HP.out digest_und rfl (digP_szl _ HLx.out) ?_)
        | (refine wpList_storeA rfl 31 (.tmp 17) (.tmp 84) rfl wr.heap.size (bvA x) rfl rfl 31 _ (BB.new wr _ zK) (digP_sz _ HLx.out) (key_old _ HLx.out) (bvA_one _) ?_))
      intro wa hst hgr
      have HBa := Lib.hid (HBr.out.stored 31 x hst hgr)
      clear hst hgr HBr HP
      generalize wr.heap.size = gx at *
      obtain ⟨x0, x1, x2⟩ := (HBa.out.side w.heap.size r c n (by simp)).cells3
      go_wp2_with (refine wpList_load_row rfl 31  (.tmp 17) rfl gx rfl _ (bvA x) (0, 0) _ (HBa.out.blk gx 31 x (by simp)) digP_und rfl (digP_sz _ HLx.out) ?_)
      clear x0 x1 x2
      refine (KAx.out _ HBa.out.tab).mono ?_
      rintro e w91 ⟨rfl, hb⟩
      have HB91 := Lib.hid (HBa.out.call hb)
      clear hb HBa
      obtain ⟨x0, x1, x2⟩ := (HB91.out.side w.heap.size r c n (by simp)).cells3
      go_wp2_with (refine wpList_load_row rfl 31  (.tmp 17) rfl gx rfl _ (bvA x) (0, 0) _ (HB91.out.blk gx 31 x (by simp)) digP_und rfl (digP_sz _ HLx.out) ?_)
      clear x0 x1 x2
      refine (KBx.out _ HB91.out.tab).mono ?_
      rintro e w92 ⟨rfl, hb⟩
      have HB92 := Lib.hid (HB91.out.call hb)
      clear hb HB91
      go_wp2_with fail
      go_roundw
      case rel => exact ⟨k + 1, by omega, by go_num, HB92.out.drop⟩
      case measure => simp [intOf]; omega
    · obtain rfl : k = 3 := by omega
      go_wp2_with fail
      go_ret
      exact ⟨rfl, HBr.out.below⟩
end Go.Proofs.YtkpecfhcdechmaaDoor
