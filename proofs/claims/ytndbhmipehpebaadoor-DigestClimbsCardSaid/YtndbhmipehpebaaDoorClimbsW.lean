/-
  The walk of chartroomlaw02.DigestClimbs.
-/
import Derived.Test.YtndbhmipehpebaaDoorReg
namespace Go.Proofs.YtndbhmipehpebaaDoor
open Go.RowKit
set_option linter.unusedVariables false
set_option linter.unusedSimpArgs false

set_option maxRecDepth 100000 in
set_option maxHeartbeats 3200000 in
theorem climbs_walk (a : Option Addr) (cap : Nat) (l : List UInt8) (w : World) (hT : Tab w) (hl : RdB w.heap.size w a l) (hcap : l.length ≤ cap) (hc2 : cap ≤ maxLen) :
    Calls Tryd.prog 6 #[.slice a l.length cap] w fun e w' => e = .returned (.bool true) ∧ Below w.heap.size w w' := by
  have HT := Lib.hid hT
  have HL := Lib.hid hl
  have HC2 := Lib.hid hc2
  have hlt := HT.out.lt
  clear hT hl
  unfold maxLen at hc2
  go_enter Tryd.func6, Tryd.ntmps6
  go_wp2_with fail
  refine (sane_any w HT.out).mono ?_
  rintro e w1 ⟨rfl, hb1⟩
  have HB1 := Lib.hid hb1
  clear hb1
  go_wp2_with fail
  refine (digestsOf_any a cap l w1 ((HL.out.below HB1.out).mono HB1.out.size) hcap HC2.out).mono ?_
  rintro e w2 ⟨v2, rfl, ho2, hb2⟩
  have hD24 := digs_len l
  have hD32 := digs_32 l
  generalize digs l = D at *
  have HO2 := Lib.hid ho2
  have HB2 := Lib.hid (HB1.out.trans (hb2.mono HB1.out.size))
  have HD32 := Lib.hid hD32
  obtain ⟨av, cv, rfl, hf1, hf2, hf3, hf4⟩ := ho2.form
  have HV := Lib.hid hf4
  have HC3 := Lib.hid hf2
  clear ho2 hb2 HB1 hD32 hf4 hf3
  unfold maxLen at hf2
  go_wp2_with fail
  refine (tree_any _ av cv D w2 (Nat.lt_succ_self _) (HT.out.below HB2.out hlt) HV.out hf1 HC3.out).mono ?_
  rintro e w3 ⟨rfl, hb3⟩
  have HV3 := Lib.hid ((HV.out.below hb3))
  have HB3 := Lib.hid (HB2.out.trans (hb3.mono HB2.out.size))
  have hz3 := hb3.size
  obtain ⟨TR, hTR⟩ : ∃ TR, TR = treeS D := ⟨_, rfl⟩
  have hTR32 : TR.length = 32 := by rw [hTR]; exact treeS_len _
  rw [← hTR]
  have HTR := Lib.hid hTR
  have HSR : Hid ((Tryd.prog.info? 26).map (·.size) = some (bvA TR).size) := by show _ = _; rw [bvA_size, hTR32]; exact sha_size
  have HOR : Hid ((bvA (List.replicate 32 0)).size = (bvA TR).size) := by show _ = _; rw [bvA_size, bvA_size, hTR32, List.length_replicate]
  have HTR32 := Lib.hid hTR32
  clear hb3 hTR hTR32 HO2 HB2
  go_wp2_with (refine wpList_storeA rfl 26 (.tmp 4) (.tmp 18) rfl w3.heap.size (bvA TR) rfl rfl 26 (bvA (List.replicate 32 0)) (heap_alloc_new w3 _) HSR.out HOR.out (bvA_one _) ?_)
  intro w4 h4 hg4
  have hB4 : Below w3.heap.size w3 w4 := grown_below ((Below.refl _ _).alloc (Nat.le_refl _) _) hg4 (Nat.le_refl _) (by simp)
  have HV4 := Lib.hid (HV3.out.below (hB4.mono hz3))
  have HR4 := Lib.hid (show BB w4 w3.heap.size 26 TR from h4)
  have HB4 := Lib.hid (HB3.out.trans (hB4.mono HB3.out.size))
  clear h4 hg4 hB4 HV3 HB3
  go_wp2_with fail
  go_loopw [21] (fun i wr => ∃ k : Nat, k ≤ D.length ∧ i = .int .i64 k ∧ Below w4.heap.size w4 wr) (fun i _ => D.length - (intOf i).toNat)
  case atStart => exact ⟨0, by omega, rfl, Below.refl _ _⟩
  case round =>
    obtain ⟨k, hk, rfl, hb⟩ := hrel
    have HBr := Lib.hid hb
    have HR5 := Lib.hid (HR4.out.below hb HR4.out.lt)
    have HV5 := Lib.hid (HV4.out.below (hb.mono (Nat.le_trans hz3 (Nat.le_of_lt HR4.out.lt))))
    have HBw := Lib.hid (HB4.out.trans (hb.mono HB4.out.size))
    have hzr := hb.size
    clear hb
    by_cases hlt2 : k < D.length
    · obtain ⟨b, o, rfl, hbB, hcell⟩ := HV5.out.at_ (by omega)
      obtain ⟨d, hd⟩ : ∃ d, D[k] = d := ⟨_, rfl⟩
      have hrd := hcell k hlt2
      rw [hd] at hrd
      have hd32 : d.length = 32 := by rw [← hd]; exact HD32.out _ (List.getElem_mem hlt2)
      have hcp := climb_path _ D k d (by rw [← hd]; exact List.getElem?_eq_getElem hlt2) (Nat.lt_succ_self _)
      rw [← HTR.out] at hcp
      have hPL := pathS_lenS _ D k (Nat.lt_succ_self _)
      have hP5 := lenS_24 D.length (by omega) k hlt2
      obtain ⟨P, hP⟩ : ∃ P, P = pathS D k := ⟨_, rfl⟩
      rw [← hP] at hcp hPL
      have HCP := Lib.hid hcp
      have HPL := Lib.hid hPL
      have hp5 : P.length ≤ 5 := by omega
      have HRD := Lib.hid hrd
      have HD := Lib.hid hd32
      have HI : Hid ((Tryd.prog.info? 26).map (·.size) = some (d.map bv).length) := by show _ = _; rw [List.length_map, hd32]; exact sha_size
      have HSd : Hid ((Tryd.prog.info? 26).map (·.size) = some (bvA d).size) := by show _ = _; rw [bvA_size, hd32]; exact sha_size
      have HOd : Hid ((bvA (List.replicate 32 0)).size = (bvA d).size) := by show _ = _; rw [bvA_size, bvA_size, hd32, List.length_replicate]
      have hat0 : (0 : Int) ≤ (k : Int) := by omega
      have hat1 : (k : Int) < (D.length : Int) := by omega
      clear hcell hrd hd hd32 hcp hPL
      go_wp2_with (first | (refine wpList_load_mid rfl 26 (.tmp 24) rfl b (o + k * 32) rfl (d.map bv) _ HRD.out digest_und rfl HI.out ?_) | (refine wpList_storeA rfl 26 (.tmp 6) (.tmp 25) rfl wr.heap.size (bvA d) rfl rfl 26 (bvA (List.replicate 32 0)) (heap_alloc_new wr _) HSd.out HOd.out (bvA_one _) ?_))
      intro wa ha hga
      have hBa : Below wr.heap.size wr wa := grown_below ((Below.refl _ _).alloc (Nat.le_refl _) _) hga (Nat.le_refl _) (by simp)
      have HDa := Lib.hid (show BB wa wr.heap.size 26 d from ha)
      have hz2r : w2.heap.size ≤ wr.heap.size := by have := HR4.out.lt; omega
      have HVa := Lib.hid ((HV5.out.below (hBa.mono hz2r)).mono (Nat.le_trans hz2r (Nat.le_of_lt HDa.out.lt)))
      have HRa := Lib.hid (HR5.out.below hBa HR5.out.lt)
      have HBa := Lib.hid (HBr.out.trans (hBa.mono HBr.out.size))
      have HWa := Lib.hid (HBw.out.trans (hBa.mono HBw.out.size))
      clear ha hga hBa HV5 HR5
      go_wp2_with fail
      refine (Path_ok (some ⟨b, o, none⟩) cv D k wa (HT.out.below HWa.out hlt) HVa.out hf1 HC3.out hlt2 (by omega)).mono ?_
      rintro e wb ⟨vb, rfl, hob, hbb⟩
      rw [← hP] at hob
      have HOb := Lib.hid hob
      have HDb := Lib.hid (HDa.out.below hbb HDa.out.lt)
      have HRb := Lib.hid (HRa.out.below hbb HRa.out.lt)
      have HBb := Lib.hid (HBa.out.trans (hbb.mono HBa.out.size))
      have HWb := Lib.hid (HWa.out.trans (hbb.mono HWa.out.size))
      obtain ⟨ap, cp, rfl, hq1, hq2, hq3, hq4⟩ := hob.form
      have HQ2 := Lib.hid hq2
      have HQ3 := Lib.hid hq3
      have HPb := Lib.hid hq4
      clear hob hbb hq3 hq4 hP HDa HRa HVa
      unfold maxLen at hq2
      go_wp2_with (refine wpList_load_mid rfl 26 (.tmp 6) rfl wr.heap.size 0 rfl (d.map bv) _ HDb.out.range digest_und rfl HI.out ?_)
      refine (Climb_ok d k D.length ap cp P wb HD.out (HT.out.below HWb.out hlt) HPb.out hq1 HQ2.out hlt2 (by omega) HPL.out).mono ?_
      rw [HCP.out]
      rintro e wc ⟨rfl, hbc⟩
      have HDc := Lib.hid (HDb.out.below hbc HDb.out.lt)
      have HRc := Lib.hid (HRb.out.below hbc HRb.out.lt)
      have HBc := Lib.hid (HBb.out.trans (hbc.mono HBb.out.size))
      have HWc := Lib.hid (HWb.out.trans (hbc.mono HWb.out.size))
      have HPc := Lib.hid (HPb.out.below hbc)
      have hzc := hbc.size
      clear hbc HDb HRb HPb
      go_wp2_with (refine wpList_storeA rfl 26 (.tmp 9) (.tmp 39) rfl wc.heap.size (bvA TR) rfl rfl 26 (bvA (List.replicate 32 0)) (heap_alloc_new wc _) HSR.out HOR.out (bvA_one _) ?_)
      intro wd hd hgd
      have hBd : Below wc.heap.size wc wd := grown_below ((Below.refl _ _).alloc (Nat.le_refl _) _) hgd (Nat.le_refl _) (by simp)
      have HXd := Lib.hid (show BB wd wc.heap.size 26 TR from hd)
      have HDd := Lib.hid (HDc.out.below hBd HDc.out.lt)
      have HRd := Lib.hid (HRc.out.below hBd HRc.out.lt)
      have HBd := Lib.hid (HBc.out.trans (hBd.mono HBc.out.size))
      have HWd := Lib.hid (HWc.out.trans (hBd.mono HWc.out.size))
      have HPd := Lib.hid ((HPc.out.below (hBd.mono hzc)).mono (Nat.le_trans hzc (Nat.le_of_lt HXd.out.lt)))
      have HTd := Lib.hid (HT.out.below HWd.out hlt)
      clear hd hgd hBd HDc HRc HPc
      go_wp2_with fail
      rename_i K0 hK0
      have HS0 : Hid (∀ W, Below wd.heap.size wd W → W.rangeAt wr.heap.size 0 (d.map bv)) := fun W hW => (HDd.out.below hW HDd.out.lt).range
      obtain ⟨M, hM⟩ : ∃ M, P ++ [d] = M := ⟨_, rfl⟩
      have HMM := Lib.hid hM
      have hMl : M.length = P.length + 1 := by rw [← hM, List.length_append]; rfl
      have CB : Hid (∀ (W : World) (a9 : Option Addr) (c9 : Nat), Calls Tryd.prog 22 #[.agg (bvA d), .int .i64 k, .int .i64 D.length, .slice a9 M.length c9] W (DigErr W zero32 1)) :=
        fun W a9 c9 => Climb_bad d k D.length a9 c9 M W (by omega) (.inr (.inr (.inr (.inr (by have := HPL.out; rw [Int.toNat_natCast, Int.toNat_natCast, hMl]; omega)))))
      have HLA : Hid ((([] : List (List UInt8)).length + P.length) * 32 ≤ 140737488355328) := by show _ ≤ _; simp; omega
      have HLB : Hid ((P.length + [d].length) * 32 ≤ 140737488355328) := by show _ ≤ _; simp; omega
      have HZS : Hid ((Tryd.prog.info? 26).map (·.size) = some (bvA zero32).size) := by show _ = _; kernel_rfl
      have HZO : Hid ((bvA (List.replicate 32 0)).size = (bvA zero32).size) := Lib.hid rfl
      have HB0 := Lib.hid ((Below.refl wd.heap.size wd).drew)
      clear hM hMl
      refine region_mid (fun a' W => ∃ (gA : Nat) (q2 q41 q42 q43 q44 q45 q46 q47 q48 q49 q50 q51 q52 q53 q54 q55 q56 q57 q58 q59 q60 q61 q62 q63 q64 q65 q66 q67 q68 q69 q70 q71 q72 q73 q74 q75 : Value), a' = ⟨#[.slice a l.length cap, undef, q2, .slice (some ⟨b, o, none⟩) D.length cv, .pointer (some ⟨w3.heap.size, 0, none⟩), .int .i64 k, .pointer (some ⟨wr.heap.size, 0, none⟩), .slice ap P.length cp, .int .i64 0, .pointer (some ⟨wc.heap.size, 0, none⟩), .int .i64 0, .pointer (some ⟨gA, 0, none⟩), .int .i64 1, .bool true, .bool false, .slice a l.length cap, .slice (some ⟨b, o, none⟩) D.length cv, .slice (some ⟨b, o, none⟩) D.length cv, .agg (bvA TR), .slice (some ⟨b, o, none⟩) D.length cv, .int .i64 D.length, .int .i64 k, .bool true, .int .i64 k, .pointer (some ⟨b, o + k * 32, none⟩), .agg (List.map bv d).toArray, .tuple #[.slice ap P.length cp, .int .i64 0], .slice (some ⟨b, o, none⟩) D.length cv, .int .i64 k, .tuple #[.slice ap P.length cp, .int .i64 0], .slice ap P.length cp, .int .i64 0, .tuple #[.agg (bvA TR), .int .i64 0], .agg (List.map bv d).toArray, .int .i64 k, .slice (some ⟨b, o, none⟩) D.length cv, .int .i64 D.length, .slice ap P.length cp, .tuple #[.agg (bvA TR), .int .i64 0], .agg (bvA TR), .int .i64 0, q41, q42, q43, q44, q45, q46, q47, q48, q49, q50, q51, q52, q53, q54, q55, q56, q57, q58, q59, q60, q61, q62, q63, q64, q65, q66, q67, q68, q69, q70, q71, q72, q73, q74, q75], []⟩ ∧ Below wd.heap.size wd W) ?_ ?_
      · rintro a' we ⟨gA, q2, q41, q42, q43, q44, q45, q46, q47, q48, q49, q50, q51, q52, q53, q54, q55, q56, q57, q58, q59, q60, q61, q62, q63, q64, q65, q66, q67, q68, q69, q70, q71, q72, q73, q74, q75, rfl, hbe⟩
        refine hK0 _ _ ?_
        have HXe := Lib.hid (HXd.out.below hbe HXd.out.lt)
        have HRe := Lib.hid (HRd.out.below hbe HRd.out.lt)
        have HBe := Lib.hid (HBd.out.trans (hbe.mono HBd.out.size))
        have HIT : Hid ((Tryd.prog.info? 26).map (·.size) = some (TR.map bv).length) := by show _ = _; rw [List.length_map, HTR32.out]; exact sha_size
        have heq : ∀ W, (Op.equalIn 10000 26 (.agg (List.map bv TR).toArray) (.agg (List.map bv TR).toArray)).run Tryd.prog W = .ok true W := equal_same TR HTR32.out
        have hqg : Tryd.prog.eqGuardType Tryd.prog.depth 26 = false := by kernel_rfl
        have f5 : decide ((5 : Int) < (P.length : Int)) = false := decide_eq_false (by omega)
        clear hbe hK0
        go_wp2_with (first | (refine wpList_load_midG (by rfl) 26 (.tmp 9) rfl wc.heap.size 0 rfl (TR.map bv) _ HXe.out.range digest_und rfl HIT.out ?_) | (refine wpList_load_midG (by rfl) 26 (.tmp 4) rfl w3.heap.size 0 rfl (TR.map bv) _ HRe.out.range digest_und rfl HIT.out ?_))
        go_roundw
        case rel => exact ⟨k + 1, by omega, by go_num, HBe.out⟩
        case measure => simp [intOf]; omega
      refine wp_region_held_drew (S := fun w' => w'.rangeAt wr.heap.size 0 (d.map bv)) (by kernel_rfl) (HS0.out _ HB0.out) (fun hHeld => ?_)
      refine wpAnyH_take (i := 0) (v := .agg (bvA d)) rfl (by kernel_rfl) (by kernel_rfl) (by kernel_rfl) (fun _ _ _ h => nomatch h.1) (yieldsIf_load_mid (by rfl) 26 (.tmp 6) rfl wr.heap.size 0 rfl (d.map bv) _ (fun _ h => h) digest_und rfl HI.out) hHeld ?_
      simp only [Act.put, List.getElem_toArray, List.getElem_cons_zero, List.getElem_cons_succ, List.setIfInBounds_toArray, List.set_cons_zero, List.set_cons_succ]
      refine wpAnyH_take (i := 1) (v := .int .i64 k) rfl (by kernel_rfl) (by kernel_rfl) (by kernel_rfl) (fun _ _ _ h => nomatch h.1) (Or.inl ⟨by rfl, fun w _ => by go_simp⟩) hHeld ?_
      simp only [Act.put, List.getElem_toArray, List.getElem_cons_zero, List.getElem_cons_succ, List.setIfInBounds_toArray, List.set_cons_zero, List.set_cons_succ]
      refine wpAnyH_take (i := 2) (v := .slice (some ⟨b, o, none⟩) D.length cv) rfl (by kernel_rfl) (by kernel_rfl) (by kernel_rfl) (fun _ _ _ h => nomatch h.1) (Or.inl ⟨by rfl, fun w _ => by go_simp⟩) hHeld ?_
      simp only [Act.put, List.getElem_toArray, List.getElem_cons_zero, List.getElem_cons_succ, List.setIfInBounds_toArray, List.set_cons_zero, List.set_cons_succ]
      refine wpAnyH_take (i := 3) (v := .int .i64 D.length) rfl (by kernel_rfl) (by kernel_rfl) (by kernel_rfl) (fun _ _ _ h => nomatch h.1) (Or.inl ⟨by rfl, fun w _ => by go_simp⟩) hHeld ?_
      simp only [Act.put, List.getElem_toArray, List.getElem_cons_zero, List.getElem_cons_succ, List.setIfInBounds_toArray, List.set_cons_zero, List.set_cons_succ]
      refine wpAnyH_take (i := 5) (v := .slice ap P.length cp) rfl (by kernel_rfl) (by kernel_rfl) (by kernel_rfl) (fun _ _ _ h => nomatch h.1) (Or.inl ⟨by rfl, fun w _ => by go_simp⟩) hHeld ?_
      simp only [Act.put, List.getElem_toArray, List.getElem_cons_zero, List.getElem_cons_succ, List.setIfInBounds_toArray, List.set_cons_zero, List.set_cons_succ]
      refine wpAnyH_take (i := 7) (v := .agg (bvA d)) rfl (by kernel_rfl) (by kernel_rfl) (by kernel_rfl) (fun _ _ _ h => nomatch h.1) (yieldsIf_load_mid (by rfl) 26 (.tmp 6) rfl wr.heap.size 0 rfl (d.map bv) _ (fun _ h => h) digest_und rfl HI.out) hHeld ?_
      simp only [Act.put, List.getElem_toArray, List.getElem_cons_zero, List.getElem_cons_succ, List.setIfInBounds_toArray, List.set_cons_zero, List.set_cons_succ]
      refine wpAnyH_ready (rs := [4, 8, 14]) (by kernel_rfl) (by simp) ?_
      refine AllReadyH.cons rfl (fun K hK => ?_) ?_
      · rw [if_pos (by rfl)]
        refine wp_nilD rfl wd.heap.size HB0.out.size ?_
        intro w11 v1 hn hgk hb
        have HB1 := Lib.hid (HB0.out.trans (hb.mono HB0.out.size))
        have HO1 := Lib.hid hn
        clear hn hb hgk
        refine hK.out _ _ (HS0.out _ HB1.out) (fun hHeld => ?_)
        clear hK K
        try simp only [Act.put, List.getElem_toArray, List.getElem_cons_zero, List.getElem_cons_succ, List.setIfInBounds_toArray, List.set_cons_zero, List.set_cons_succ]
        refine wpAnyH_ready (rs := [6, 8, 14]) (by kernel_rfl) (by simp) ?_
        refine AllReadyH.cons rfl (fun K hK => ?_) ?_
        · rw [if_pos (by rfl)]
          refine wp_appD (.tmp 46) (.tmp 47) rfl wd.heap.size v1 [] P ap cp rfl HO1.out rfl ((HPd.out.below HB1.out).mono HB1.out.size) HQ3.out HLA.out HB1.out.size ?_
          intro v2 w12 ho hg
          have HB2 := Lib.hid (HB1.out.trans (hg.below (fun k hk => HO1.out.base k hk) HB1.out.size))
          have HO2 := Lib.hid ho
          clear ho hg
          refine hK.out _ _ (HS0.out _ HB2.out) (fun hHeld => ?_)
          clear hK K
          try simp only [Act.put, List.getElem_toArray, List.getElem_cons_zero, List.getElem_cons_succ, List.setIfInBounds_toArray, List.set_cons_zero, List.set_cons_succ]
          refine wpAnyH_ready (rs := [8, 14]) (by kernel_rfl) (by simp) ?_
          refine AllReadyH.cons rfl (fun K hK => ?_) ?_
          · rw [if_pos (by rfl)]
            refine wp_build1A (.tmp 49) rfl d HD.out rfl ?_
            intro w13 gE hn hge hb
            have HNE3 : Hid (Value.ownBlock v2 ≠ some gE) := fun h => by have h1 := HO2.out.lt _ h; omega
            have HB3 := Lib.hid (HB2.out.trans (hb.mono HB2.out.size))
            have HO3 := Lib.hid (HO2.out.below hb)
            have HE3 := Lib.hid hn
            clear hn hb hge
            refine hK.out _ _ (HS0.out _ HB3.out) (fun hHeld => ?_)
            clear hK K
            try simp only [Act.put, List.getElem_toArray, List.getElem_cons_zero, List.getElem_cons_succ, List.setIfInBounds_toArray, List.set_cons_zero, List.set_cons_succ]
            refine wpAnyH_ready (rs := [9, 14]) (by kernel_rfl) (by simp) ?_
            refine AllReadyH.cons rfl (fun K hK => ?_) ?_
            · rw [if_pos (by rfl)]
              refine wp_appD (.tmp 48) (.tmp 50) rfl wd.heap.size v2 P [d] (some ⟨gE, 0, none⟩) 1 rfl HO3.out rfl (RdD.one HE3.out HD.out) (fun h => by cases h) HLB.out HB3.out.size ?_
              intro v4 w14 ho hg
              have HB4 := Lib.hid (HB3.out.trans (hg.below (fun k hk => HO3.out.base k hk) HB3.out.size))
              have HE4 := Lib.hid (BB.grownBy HE3.out hg.grown HNE3.out)
              have HNE4 := Lib.hid (hg.ne HNE3.out HE3.out.lt)
              rw [HMM.out] at ho
              have HO4 := Lib.hid ho
              obtain ⟨a9, c9, rfl, _, _⟩ := ho.form
              clear hg
              refine hK.out _ _ (HS0.out _ HB4.out) (fun hHeld => ?_)
              clear hK K
              try simp only [Act.put, List.getElem_toArray, List.getElem_cons_zero, List.getElem_cons_succ, List.setIfInBounds_toArray, List.set_cons_zero, List.set_cons_succ]
              refine wpAnyH_ready (rs := [10, 14]) (by kernel_rfl) (by simp) ?_
              refine AllReadyH.cons rfl (fun K hK => ?_) ?_
              · go_simp
                refine (CB.out _ a9 c9).mono ?_
                rintro e w15 ⟨rfl, hb⟩
                try go_wp2_with fail
                have HB5 := Lib.hid (HB4.out.trans (hb.mono HB4.out.size))
                clear hb
                refine hK.out _ _ (HS0.out _ HB5.out) (fun hHeld => ?_)
                clear hK K
                try simp only [Act.put, List.getElem_toArray, List.getElem_cons_zero, List.getElem_cons_succ, List.setIfInBounds_toArray, List.set_cons_zero, List.set_cons_succ]
                refine wpAnyH_take (i := 11) (v := .tuple #[.agg (bvA zero32), .int .i64 1]) rfl (by kernel_rfl) (by kernel_rfl) (by kernel_rfl) (fun _ _ _ h => nomatch h.1) (Or.inl ⟨by rfl, fun w _ => by go_simp⟩) hHeld ?_
                simp only [Act.put, List.getElem_toArray, List.getElem_cons_zero, List.getElem_cons_succ, List.setIfInBounds_toArray, List.set_cons_zero, List.set_cons_succ]
                refine wpAnyH_take (i := 12) (v := .agg (bvA zero32)) rfl (by kernel_rfl) (by kernel_rfl) (by kernel_rfl) (fun _ _ _ h => nomatch h.1) (Or.inl ⟨by rfl, fun w _ => by go_simp⟩) hHeld ?_
                simp only [Act.put, List.getElem_toArray, List.getElem_cons_zero, List.getElem_cons_succ, List.setIfInBounds_toArray, List.set_cons_zero, List.set_cons_succ]
                refine wpAnyH_take (i := 13) (v := .int .i64 1) rfl (by kernel_rfl) (by kernel_rfl) (by kernel_rfl) (fun _ _ _ h => nomatch h.1) (Or.inl ⟨by rfl, fun w _ => by go_simp⟩) hHeld ?_
                simp only [Act.put, List.getElem_toArray, List.getElem_cons_zero, List.getElem_cons_succ, List.setIfInBounds_toArray, List.set_cons_zero, List.set_cons_succ]
                refine wpAnyH_ready (rs := [14]) (by kernel_rfl) (by simp) ?_
                refine AllReadyH.cons rfl (fun K hK => ?_) ?_
                · rw [if_pos (by rfl)]
                  refine wp_allocA rfl ?_
                  intro w16 gA hn hge hb
                  have HGA := Lib.hid (Nat.le_trans HB5.out.size hge)
                  have HB6 := Lib.hid (HB5.out.trans (hb.mono HB5.out.size))
                  have HA6 := Lib.hid hn
                  clear hn hb hge
                  refine hK.out _ _ (HS0.out _ HB6.out) (fun hHeld => ?_)
                  clear hK K
                  try simp only [Act.put, List.getElem_toArray, List.getElem_cons_zero, List.getElem_cons_succ, List.setIfInBounds_toArray, List.set_cons_zero, List.set_cons_succ]
                  refine wpAnyH_ready (rs := [15]) (by kernel_rfl) (by simp) (AllReadyH.cons rfl (fun K hK => ?_) AllReadyH.nil)
                  rw [if_pos (by rfl)]
                  refine wp_storeA 26 (.tmp 11) (.tmp 53) rfl _ (bvA zero32) rfl rfl 26 _ HA6.out HZS.out HZO.out (bvA_one _) ?_
                  intro w17 hn hg
                  have HB7 := Lib.hid (grown_below HB6.out hg HGA.out HB6.out.size)
                  clear hn hg
                  refine hK.out _ _ (HS0.out _ HB7.out) (fun hHeld => ?_)
                  clear hK K
                  try simp only [Act.put, List.getElem_toArray, List.getElem_cons_zero, List.getElem_cons_succ, List.setIfInBounds_toArray, List.set_cons_zero, List.set_cons_succ]
                  refine wpAnyH_take (i := 16) (v := .int .i64 1) rfl (by kernel_rfl) (by kernel_rfl) (by kernel_rfl) (fun _ _ _ h => nomatch h.1) (Or.inl ⟨by rfl, fun w _ => by go_simp⟩) hHeld ?_
                  simp only [Act.put, List.getElem_toArray, List.getElem_cons_zero, List.getElem_cons_succ, List.setIfInBounds_toArray, List.set_cons_zero, List.set_cons_succ]
                  refine wpAnyH_done (by kernel_rfl) ?_ _
                  exact ⟨rfl, _, _, _, _, _, _, _, _, _, _, _, _, _, _, _, _, _, _, _, _, _, _, _, _, _, _, _, _, _, _, _, _, _, _, _, _, _, rfl, HB7.out⟩
                exact AllReadyH.nil
              refine AllReadyH.cons rfl (fun K hK => ?_) ?_
              · rw [if_pos (by rfl)]
                refine wp_allocA rfl ?_
                intro w18 gA hn hge hb
                have HNA8 : Hid (Value.ownBlock (Value.slice a9 M.length c9) ≠ some gA) := fun h => by have h1 := HO4.out.lt _ h; omega
                have HGA := Lib.hid (Nat.le_trans HB4.out.size hge)
                have HB8 := Lib.hid (HB4.out.trans (hb.mono HB4.out.size))
                have HE8 := Lib.hid (HE4.out.below hb HE4.out.lt)
                have HO8 := Lib.hid (HO4.out.below hb)
                have HA8 := Lib.hid hn
                clear hn hb hge
                refine hK.out _ _ (HS0.out _ HB8.out) (fun hHeld => ?_)
                clear hK K
                try simp only [Act.put, List.getElem_toArray, List.getElem_cons_zero, List.getElem_cons_succ, List.setIfInBounds_toArray, List.set_cons_zero, List.set_cons_succ]
                refine wpAnyH_ready (rs := [10]) (by kernel_rfl) (by simp) ?_
                refine AllReadyH.cons rfl (fun K hK => ?_) ?_
                · go_simp
                  refine (CB.out _ a9 c9).mono ?_
                  rintro e w19 ⟨rfl, hb⟩
                  try go_wp2_with fail
                  have HB9 := Lib.hid (HB8.out.trans (hb.mono HB8.out.size))
                  have HA9 := Lib.hid (HA8.out.below hb HA8.out.lt)
                  clear hb
                  refine hK.out _ _ (HS0.out _ HB9.out) (fun hHeld => ?_)
                  clear hK K
                  try simp only [Act.put, List.getElem_toArray, List.getElem_cons_zero, List.getElem_cons_succ, List.setIfInBounds_toArray, List.set_cons_zero, List.set_cons_succ]
                  refine wpAnyH_take (i := 11) (v := .tuple #[.agg (bvA zero32), .int .i64 1]) rfl (by kernel_rfl) (by kernel_rfl) (by kernel_rfl) (fun _ _ _ h => nomatch h.1) (Or.inl ⟨by rfl, fun w _ => by go_simp⟩) hHeld ?_
                  simp only [Act.put, List.getElem_toArray, List.getElem_cons_zero, List.getElem_cons_succ, List.setIfInBounds_toArray, List.set_cons_zero, List.set_cons_succ]
                  refine wpAnyH_take (i := 12) (v := .agg (bvA zero32)) rfl (by kernel_rfl) (by kernel_rfl) (by kernel_rfl) (fun _ _ _ h => nomatch h.1) (Or.inl ⟨by rfl, fun w _ => by go_simp⟩) hHeld ?_
                  simp only [Act.put, List.getElem_toArray, List.getElem_cons_zero, List.getElem_cons_succ, List.setIfInBounds_toArray, List.set_cons_zero, List.set_cons_succ]
                  refine wpAnyH_take (i := 13) (v := .int .i64 1) rfl (by kernel_rfl) (by kernel_rfl) (by kernel_rfl) (fun _ _ _ h => nomatch h.1) (Or.inl ⟨by rfl, fun w _ => by go_simp⟩) hHeld ?_
                  simp only [Act.put, List.getElem_toArray, List.getElem_cons_zero, List.getElem_cons_succ, List.setIfInBounds_toArray, List.set_cons_zero, List.set_cons_succ]
                  refine wpAnyH_ready (rs := [15]) (by kernel_rfl) (by simp) (AllReadyH.cons rfl (fun K hK => ?_) AllReadyH.nil)
                  rw [if_pos (by rfl)]
                  refine wp_storeA 26 (.tmp 11) (.tmp 53) rfl _ (bvA zero32) rfl rfl 26 _ HA9.out HZS.out HZO.out (bvA_one _) ?_
                  intro w20 hn hg
                  have HB10 := Lib.hid (grown_below HB9.out hg HGA.out HB9.out.size)
                  clear hn hg
                  refine hK.out _ _ (HS0.out _ HB10.out) (fun hHeld => ?_)
                  clear hK K
                  try simp only [Act.put, List.getElem_toArray, List.getElem_cons_zero, List.getElem_cons_succ, List.setIfInBounds_toArray, List.set_cons_zero, List.set_cons_succ]
                  refine wpAnyH_take (i := 16) (v := .int .i64 1) rfl (by kernel_rfl) (by kernel_rfl) (by kernel_rfl) (fun _ _ _ h => nomatch h.1) (Or.inl ⟨by rfl, fun w _ => by go_simp⟩) hHeld ?_
                  simp only [Act.put, List.getElem_toArray, List.getElem_cons_zero, List.getElem_cons_succ, List.setIfInBounds_toArray, List.set_cons_zero, List.set_cons_succ]
                  refine wpAnyH_done (by kernel_rfl) ?_ _
                  exact ⟨rfl, _, _, _, _, _, _, _, _, _, _, _, _, _, _, _, _, _, _, _, _, _, _, _, _, _, _, _, _, _, _, _, _, _, _, _, _, _, rfl, HB10.out⟩
                exact AllReadyH.nil
              exact AllReadyH.nil
            refine AllReadyH.cons rfl (fun K hK => ?_) ?_
            · rw [if_pos (by rfl)]
              refine wp_allocA rfl ?_
              intro w21 gA hn hge hb
              have HNA11 : Hid (Value.ownBlock v2 ≠ some gA) := fun h => by have h1 := HO3.out.lt _ h; omega
              have HGA := Lib.hid (Nat.le_trans HB3.out.size hge)
              have HB11 := Lib.hid (HB3.out.trans (hb.mono HB3.out.size))
              have HE11 := Lib.hid (HE3.out.below hb HE3.out.lt)
              have HO11 := Lib.hid (HO3.out.below hb)
              have HA11 := Lib.hid hn
              clear hn hb hge
              refine hK.out _ _ (HS0.out _ HB11.out) (fun hHeld => ?_)
              clear hK K
              try simp only [Act.put, List.getElem_toArray, List.getElem_cons_zero, List.getElem_cons_succ, List.setIfInBounds_toArray, List.set_cons_zero, List.set_cons_succ]
              refine wpAnyH_ready (rs := [9]) (by kernel_rfl) (by simp) ?_
              refine AllReadyH.cons rfl (fun K hK => ?_) ?_
              · rw [if_pos (by rfl)]
                refine wp_appD (.tmp 48) (.tmp 50) rfl wd.heap.size v2 P [d] (some ⟨gE, 0, none⟩) 1 rfl HO11.out rfl (RdD.one HE11.out HD.out) (fun h => by cases h) HLB.out HB11.out.size ?_
                intro v12 w22 ho hg
                have HB12 := Lib.hid (HB11.out.trans (hg.below (fun k hk => HO11.out.base k hk) HB11.out.size))
                have HE12 := Lib.hid (BB.grownBy HE11.out hg.grown HNE3.out)
                have HNE12 := Lib.hid (hg.ne HNE3.out HE11.out.lt)
                have HA12 := Lib.hid (BB.grownBy HA11.out hg.grown HNA11.out)
                have HNA12 := Lib.hid (hg.ne HNA11.out HA11.out.lt)
                rw [HMM.out] at ho
                have HO12 := Lib.hid ho
                obtain ⟨a9, c9, rfl, _, _⟩ := ho.form
                clear hg
                refine hK.out _ _ (HS0.out _ HB12.out) (fun hHeld => ?_)
                clear hK K
                try simp only [Act.put, List.getElem_toArray, List.getElem_cons_zero, List.getElem_cons_succ, List.setIfInBounds_toArray, List.set_cons_zero, List.set_cons_succ]
                refine wpAnyH_ready (rs := [10]) (by kernel_rfl) (by simp) ?_
                refine AllReadyH.cons rfl (fun K hK => ?_) ?_
                · go_simp
                  refine (CB.out _ a9 c9).mono ?_
                  rintro e w23 ⟨rfl, hb⟩
                  try go_wp2_with fail
                  have HB13 := Lib.hid (HB12.out.trans (hb.mono HB12.out.size))
                  have HA13 := Lib.hid (HA12.out.below hb HA12.out.lt)
                  clear hb
                  refine hK.out _ _ (HS0.out _ HB13.out) (fun hHeld => ?_)
                  clear hK K
                  try simp only [Act.put, List.getElem_toArray, List.getElem_cons_zero, List.getElem_cons_succ, List.setIfInBounds_toArray, List.set_cons_zero, List.set_cons_succ]
                  refine wpAnyH_take (i := 11) (v := .tuple #[.agg (bvA zero32), .int .i64 1]) rfl (by kernel_rfl) (by kernel_rfl) (by kernel_rfl) (fun _ _ _ h => nomatch h.1) (Or.inl ⟨by rfl, fun w _ => by go_simp⟩) hHeld ?_
                  simp only [Act.put, List.getElem_toArray, List.getElem_cons_zero, List.getElem_cons_succ, List.setIfInBounds_toArray, List.set_cons_zero, List.set_cons_succ]
                  refine wpAnyH_take (i := 12) (v := .agg (bvA zero32)) rfl (by kernel_rfl) (by kernel_rfl) (by kernel_rfl) (fun _ _ _ h => nomatch h.1) (Or.inl ⟨by rfl, fun w _ => by go_simp⟩) hHeld ?_
                  simp only [Act.put, List.getElem_toArray, List.getElem_cons_zero, List.getElem_cons_succ, List.setIfInBounds_toArray, List.set_cons_zero, List.set_cons_succ]
                  refine wpAnyH_take (i := 13) (v := .int .i64 1) rfl (by kernel_rfl) (by kernel_rfl) (by kernel_rfl) (fun _ _ _ h => nomatch h.1) (Or.inl ⟨by rfl, fun w _ => by go_simp⟩) hHeld ?_
                  simp only [Act.put, List.getElem_toArray, List.getElem_cons_zero, List.getElem_cons_succ, List.setIfInBounds_toArray, List.set_cons_zero, List.set_cons_succ]
                  refine wpAnyH_ready (rs := [15]) (by kernel_rfl) (by simp) (AllReadyH.cons rfl (fun K hK => ?_) AllReadyH.nil)
                  rw [if_pos (by rfl)]
                  refine wp_storeA 26 (.tmp 11) (.tmp 53) rfl _ (bvA zero32) rfl rfl 26 _ HA13.out HZS.out HZO.out (bvA_one _) ?_
                  intro w24 hn hg
                  have HB14 := Lib.hid (grown_below HB13.out hg HGA.out HB13.out.size)
                  clear hn hg
                  refine hK.out _ _ (HS0.out _ HB14.out) (fun hHeld => ?_)
                  clear hK K
                  try simp only [Act.put, List.getElem_toArray, List.getElem_cons_zero, List.getElem_cons_succ, List.setIfInBounds_toArray, List.set_cons_zero, List.set_cons_succ]
                  refine wpAnyH_take (i := 16) (v := .int .i64 1) rfl (by kernel_rfl) (by kernel_rfl) (by kernel_rfl) (fun _ _ _ h => nomatch h.1) (Or.inl ⟨by rfl, fun w _ => by go_simp⟩) hHeld ?_
                  simp only [Act.put, List.getElem_toArray, List.getElem_cons_zero, List.getElem_cons_succ, List.setIfInBounds_toArray, List.set_cons_zero, List.set_cons_succ]
                  refine wpAnyH_done (by kernel_rfl) ?_ _
                  exact ⟨rfl, _, _, _, _, _, _, _, _, _, _, _, _, _, _, _, _, _, _, _, _, _, _, _, _, _, _, _, _, _, _, _, _, _, _, _, _, _, rfl, HB14.out⟩
                exact AllReadyH.nil
              exact AllReadyH.nil
            exact AllReadyH.nil
          refine AllReadyH.cons rfl (fun K hK => ?_) ?_
          · rw [if_pos (by rfl)]
            refine wp_allocA rfl ?_
            intro w25 gA hn hge hb
            have HNA15 : Hid (Value.ownBlock v2 ≠ some gA) := fun h => by have h1 := HO2.out.lt _ h; omega
            have HGA := Lib.hid (Nat.le_trans HB2.out.size hge)
            have HB15 := Lib.hid (HB2.out.trans (hb.mono HB2.out.size))
            have HO15 := Lib.hid (HO2.out.below hb)
            have HA15 := Lib.hid hn
            clear hn hb hge
            refine hK.out _ _ (HS0.out _ HB15.out) (fun hHeld => ?_)
            clear hK K
            try simp only [Act.put, List.getElem_toArray, List.getElem_cons_zero, List.getElem_cons_succ, List.setIfInBounds_toArray, List.set_cons_zero, List.set_cons_succ]
            refine wpAnyH_ready (rs := [8]) (by kernel_rfl) (by simp) ?_
            refine AllReadyH.cons rfl (fun K hK => ?_) ?_
            · rw [if_pos (by rfl)]
              refine wp_build1A (.tmp 49) rfl d HD.out rfl ?_
              intro w26 gE hn hge hb
              have HNE16 : Hid (Value.ownBlock v2 ≠ some gE) := fun h => by have h1 := HO15.out.lt _ h; omega
              have HB16 := Lib.hid (HB15.out.trans (hb.mono HB15.out.size))
              have HA16 := Lib.hid (HA15.out.below hb HA15.out.lt)
              have HO16 := Lib.hid (HO15.out.below hb)
              have HE16 := Lib.hid hn
              clear hn hb hge
              refine hK.out _ _ (HS0.out _ HB16.out) (fun hHeld => ?_)
              clear hK K
              try simp only [Act.put, List.getElem_toArray, List.getElem_cons_zero, List.getElem_cons_succ, List.setIfInBounds_toArray, List.set_cons_zero, List.set_cons_succ]
              refine wpAnyH_ready (rs := [9]) (by kernel_rfl) (by simp) ?_
              refine AllReadyH.cons rfl (fun K hK => ?_) ?_
              · rw [if_pos (by rfl)]
                refine wp_appD (.tmp 48) (.tmp 50) rfl wd.heap.size v2 P [d] (some ⟨gE, 0, none⟩) 1 rfl HO16.out rfl (RdD.one HE16.out HD.out) (fun h => by cases h) HLB.out HB16.out.size ?_
                intro v17 w27 ho hg
                have HB17 := Lib.hid (HB16.out.trans (hg.below (fun k hk => HO16.out.base k hk) HB16.out.size))
                have HE17 := Lib.hid (BB.grownBy HE16.out hg.grown HNE16.out)
                have HNE17 := Lib.hid (hg.ne HNE16.out HE16.out.lt)
                have HA17 := Lib.hid (BB.grownBy HA16.out hg.grown HNA15.out)
                have HNA17 := Lib.hid (hg.ne HNA15.out HA16.out.lt)
                rw [HMM.out] at ho
                have HO17 := Lib.hid ho
                obtain ⟨a9, c9, rfl, _, _⟩ := ho.form
                clear hg
                refine hK.out _ _ (HS0.out _ HB17.out) (fun hHeld => ?_)
                clear hK K
                try simp only [Act.put, List.getElem_toArray, List.getElem_cons_zero, List.getElem_cons_succ, List.setIfInBounds_toArray, List.set_cons_zero, List.set_cons_succ]
                refine wpAnyH_ready (rs := [10]) (by kernel_rfl) (by simp) ?_
                refine AllReadyH.cons rfl (fun K hK => ?_) ?_
                · go_simp
                  refine (CB.out _ a9 c9).mono ?_
                  rintro e w28 ⟨rfl, hb⟩
                  try go_wp2_with fail
                  have HB18 := Lib.hid (HB17.out.trans (hb.mono HB17.out.size))
                  have HA18 := Lib.hid (HA17.out.below hb HA17.out.lt)
                  clear hb
                  refine hK.out _ _ (HS0.out _ HB18.out) (fun hHeld => ?_)
                  clear hK K
                  try simp only [Act.put, List.getElem_toArray, List.getElem_cons_zero, List.getElem_cons_succ, List.setIfInBounds_toArray, List.set_cons_zero, List.set_cons_succ]
                  refine wpAnyH_take (i := 11) (v := .tuple #[.agg (bvA zero32), .int .i64 1]) rfl (by kernel_rfl) (by kernel_rfl) (by kernel_rfl) (fun _ _ _ h => nomatch h.1) (Or.inl ⟨by rfl, fun w _ => by go_simp⟩) hHeld ?_
                  simp only [Act.put, List.getElem_toArray, List.getElem_cons_zero, List.getElem_cons_succ, List.setIfInBounds_toArray, List.set_cons_zero, List.set_cons_succ]
                  refine wpAnyH_take (i := 12) (v := .agg (bvA zero32)) rfl (by kernel_rfl) (by kernel_rfl) (by kernel_rfl) (fun _ _ _ h => nomatch h.1) (Or.inl ⟨by rfl, fun w _ => by go_simp⟩) hHeld ?_
                  simp only [Act.put, List.getElem_toArray, List.getElem_cons_zero, List.getElem_cons_succ, List.setIfInBounds_toArray, List.set_cons_zero, List.set_cons_succ]
                  refine wpAnyH_take (i := 13) (v := .int .i64 1) rfl (by kernel_rfl) (by kernel_rfl) (by kernel_rfl) (fun _ _ _ h => nomatch h.1) (Or.inl ⟨by rfl, fun w _ => by go_simp⟩) hHeld ?_
                  simp only [Act.put, List.getElem_toArray, List.getElem_cons_zero, List.getElem_cons_succ, List.setIfInBounds_toArray, List.set_cons_zero, List.set_cons_succ]
                  refine wpAnyH_ready (rs := [15]) (by kernel_rfl) (by simp) (AllReadyH.cons rfl (fun K hK => ?_) AllReadyH.nil)
                  rw [if_pos (by rfl)]
                  refine wp_storeA 26 (.tmp 11) (.tmp 53) rfl _ (bvA zero32) rfl rfl 26 _ HA18.out HZS.out HZO.out (bvA_one _) ?_
                  intro w29 hn hg
                  have HB19 := Lib.hid (grown_below HB18.out hg HGA.out HB18.out.size)
                  clear hn hg
                  refine hK.out _ _ (HS0.out _ HB19.out) (fun hHeld => ?_)
                  clear hK K
                  try simp only [Act.put, List.getElem_toArray, List.getElem_cons_zero, List.getElem_cons_succ, List.setIfInBounds_toArray, List.set_cons_zero, List.set_cons_succ]
                  refine wpAnyH_take (i := 16) (v := .int .i64 1) rfl (by kernel_rfl) (by kernel_rfl) (by kernel_rfl) (fun _ _ _ h => nomatch h.1) (Or.inl ⟨by rfl, fun w _ => by go_simp⟩) hHeld ?_
                  simp only [Act.put, List.getElem_toArray, List.getElem_cons_zero, List.getElem_cons_succ, List.setIfInBounds_toArray, List.set_cons_zero, List.set_cons_succ]
                  refine wpAnyH_done (by kernel_rfl) ?_ _
                  exact ⟨rfl, _, _, _, _, _, _, _, _, _, _, _, _, _, _, _, _, _, _, _, _, _, _, _, _, _, _, _, _, _, _, _, _, _, _, _, _, _, rfl, HB19.out⟩
                exact AllReadyH.nil
              exact AllReadyH.nil
            exact AllReadyH.nil
          exact AllReadyH.nil
        refine AllReadyH.cons rfl (fun K hK => ?_) ?_
        · rw [if_pos (by rfl)]
          refine wp_build1A (.tmp 49) rfl d HD.out rfl ?_
          intro w30 gE hn hge hb
          have HNE20 : Hid (Value.ownBlock v1 ≠ some gE) := fun h => by have h1 := HO1.out.lt _ h; omega
          have HB20 := Lib.hid (HB1.out.trans (hb.mono HB1.out.size))
          have HO20 := Lib.hid (HO1.out.below hb)
          have HE20 := Lib.hid hn
          clear hn hb hge
          refine hK.out _ _ (HS0.out _ HB20.out) (fun hHeld => ?_)
          clear hK K
          try simp only [Act.put, List.getElem_toArray, List.getElem_cons_zero, List.getElem_cons_succ, List.setIfInBounds_toArray, List.set_cons_zero, List.set_cons_succ]
          refine wpAnyH_ready (rs := [6, 14]) (by kernel_rfl) (by simp) ?_
          refine AllReadyH.cons rfl (fun K hK => ?_) ?_
          · rw [if_pos (by rfl)]
            refine wp_appD (.tmp 46) (.tmp 47) rfl wd.heap.size v1 [] P ap cp rfl HO20.out rfl ((HPd.out.below HB20.out).mono HB20.out.size) HQ3.out HLA.out HB20.out.size ?_
            intro v21 w31 ho hg
            have HB21 := Lib.hid (HB20.out.trans (hg.below (fun k hk => HO20.out.base k hk) HB20.out.size))
            have HE21 := Lib.hid (BB.grownBy HE20.out hg.grown HNE20.out)
            have HNE21 := Lib.hid (hg.ne HNE20.out HE20.out.lt)
            have HO21 := Lib.hid ho
            clear ho hg
            refine hK.out _ _ (HS0.out _ HB21.out) (fun hHeld => ?_)
            clear hK K
            try simp only [Act.put, List.getElem_toArray, List.getElem_cons_zero, List.getElem_cons_succ, List.setIfInBounds_toArray, List.set_cons_zero, List.set_cons_succ]
            refine wpAnyH_ready (rs := [9, 14]) (by kernel_rfl) (by simp) ?_
            refine AllReadyH.cons rfl (fun K hK => ?_) ?_
            · rw [if_pos (by rfl)]
              refine wp_appD (.tmp 48) (.tmp 50) rfl wd.heap.size v21 P [d] (some ⟨gE, 0, none⟩) 1 rfl HO21.out rfl (RdD.one HE21.out HD.out) (fun h => by cases h) HLB.out HB21.out.size ?_
              intro v22 w32 ho hg
              have HB22 := Lib.hid (HB21.out.trans (hg.below (fun k hk => HO21.out.base k hk) HB21.out.size))
              have HE22 := Lib.hid (BB.grownBy HE21.out hg.grown HNE21.out)
              have HNE22 := Lib.hid (hg.ne HNE21.out HE21.out.lt)
              rw [HMM.out] at ho
              have HO22 := Lib.hid ho
              obtain ⟨a9, c9, rfl, _, _⟩ := ho.form
              clear hg
              refine hK.out _ _ (HS0.out _ HB22.out) (fun hHeld => ?_)
              clear hK K
              try simp only [Act.put, List.getElem_toArray, List.getElem_cons_zero, List.getElem_cons_succ, List.setIfInBounds_toArray, List.set_cons_zero, List.set_cons_succ]
              refine wpAnyH_ready (rs := [10, 14]) (by kernel_rfl) (by simp) ?_
              refine AllReadyH.cons rfl (fun K hK => ?_) ?_
              · go_simp
                refine (CB.out _ a9 c9).mono ?_
                rintro e w33 ⟨rfl, hb⟩
                try go_wp2_with fail
                have HB23 := Lib.hid (HB22.out.trans (hb.mono HB22.out.size))
                clear hb
                refine hK.out _ _ (HS0.out _ HB23.out) (fun hHeld => ?_)
                clear hK K
                try simp only [Act.put, List.getElem_toArray, List.getElem_cons_zero, List.getElem_cons_succ, List.setIfInBounds_toArray, List.set_cons_zero, List.set_cons_succ]
                refine wpAnyH_take (i := 11) (v := .tuple #[.agg (bvA zero32), .int .i64 1]) rfl (by kernel_rfl) (by kernel_rfl) (by kernel_rfl) (fun _ _ _ h => nomatch h.1) (Or.inl ⟨by rfl, fun w _ => by go_simp⟩) hHeld ?_
                simp only [Act.put, List.getElem_toArray, List.getElem_cons_zero, List.getElem_cons_succ, List.setIfInBounds_toArray, List.set_cons_zero, List.set_cons_succ]
                refine wpAnyH_take (i := 12) (v := .agg (bvA zero32)) rfl (by kernel_rfl) (by kernel_rfl) (by kernel_rfl) (fun _ _ _ h => nomatch h.1) (Or.inl ⟨by rfl, fun w _ => by go_simp⟩) hHeld ?_
                simp only [Act.put, List.getElem_toArray, List.getElem_cons_zero, List.getElem_cons_succ, List.setIfInBounds_toArray, List.set_cons_zero, List.set_cons_succ]
                refine wpAnyH_take (i := 13) (v := .int .i64 1) rfl (by kernel_rfl) (by kernel_rfl) (by kernel_rfl) (fun _ _ _ h => nomatch h.1) (Or.inl ⟨by rfl, fun w _ => by go_simp⟩) hHeld ?_
                simp only [Act.put, List.getElem_toArray, List.getElem_cons_zero, List.getElem_cons_succ, List.setIfInBounds_toArray, List.set_cons_zero, List.set_cons_succ]
                refine wpAnyH_ready (rs := [14]) (by kernel_rfl) (by simp) ?_
                refine AllReadyH.cons rfl (fun K hK => ?_) ?_
                · rw [if_pos (by rfl)]
                  refine wp_allocA rfl ?_
                  intro w34 gA hn hge hb
                  have HGA := Lib.hid (Nat.le_trans HB23.out.size hge)
                  have HB24 := Lib.hid (HB23.out.trans (hb.mono HB23.out.size))
                  have HA24 := Lib.hid hn
                  clear hn hb hge
                  refine hK.out _ _ (HS0.out _ HB24.out) (fun hHeld => ?_)
                  clear hK K
                  try simp only [Act.put, List.getElem_toArray, List.getElem_cons_zero, List.getElem_cons_succ, List.setIfInBounds_toArray, List.set_cons_zero, List.set_cons_succ]
                  refine wpAnyH_ready (rs := [15]) (by kernel_rfl) (by simp) (AllReadyH.cons rfl (fun K hK => ?_) AllReadyH.nil)
                  rw [if_pos (by rfl)]
                  refine wp_storeA 26 (.tmp 11) (.tmp 53) rfl _ (bvA zero32) rfl rfl 26 _ HA24.out HZS.out HZO.out (bvA_one _) ?_
                  intro w35 hn hg
                  have HB25 := Lib.hid (grown_below HB24.out hg HGA.out HB24.out.size)
                  clear hn hg
                  refine hK.out _ _ (HS0.out _ HB25.out) (fun hHeld => ?_)
                  clear hK K
                  try simp only [Act.put, List.getElem_toArray, List.getElem_cons_zero, List.getElem_cons_succ, List.setIfInBounds_toArray, List.set_cons_zero, List.set_cons_succ]
                  refine wpAnyH_take (i := 16) (v := .int .i64 1) rfl (by kernel_rfl) (by kernel_rfl) (by kernel_rfl) (fun _ _ _ h => nomatch h.1) (Or.inl ⟨by rfl, fun w _ => by go_simp⟩) hHeld ?_
                  simp only [Act.put, List.getElem_toArray, List.getElem_cons_zero, List.getElem_cons_succ, List.setIfInBounds_toArray, List.set_cons_zero, List.set_cons_succ]
                  refine wpAnyH_done (by kernel_rfl) ?_ _
                  exact ⟨rfl, _, _, _, _, _, _, _, _, _, _, _, _, _, _, _, _, _, _, _, _, _, _, _, _, _, _, _, _, _, _, _, _, _, _, _, _, _, rfl, HB25.out⟩
                exact AllReadyH.nil
              refine AllReadyH.cons rfl (fun K hK => ?_) ?_
              · rw [if_pos (by rfl)]
                refine wp_allocA rfl ?_
                intro w36 gA hn hge hb
                have HNA26 : Hid (Value.ownBlock (Value.slice a9 M.length c9) ≠ some gA) := fun h => by have h1 := HO22.out.lt _ h; omega
                have HGA := Lib.hid (Nat.le_trans HB22.out.size hge)
                have HB26 := Lib.hid (HB22.out.trans (hb.mono HB22.out.size))
                have HE26 := Lib.hid (HE22.out.below hb HE22.out.lt)
                have HO26 := Lib.hid (HO22.out.below hb)
                have HA26 := Lib.hid hn
                clear hn hb hge
                refine hK.out _ _ (HS0.out _ HB26.out) (fun hHeld => ?_)
                clear hK K
                try simp only [Act.put, List.getElem_toArray, List.getElem_cons_zero, List.getElem_cons_succ, List.setIfInBounds_toArray, List.set_cons_zero, List.set_cons_succ]
                refine wpAnyH_ready (rs := [10]) (by kernel_rfl) (by simp) ?_
                refine AllReadyH.cons rfl (fun K hK => ?_) ?_
                · go_simp
                  refine (CB.out _ a9 c9).mono ?_
                  rintro e w37 ⟨rfl, hb⟩
                  try go_wp2_with fail
                  have HB27 := Lib.hid (HB26.out.trans (hb.mono HB26.out.size))
                  have HA27 := Lib.hid (HA26.out.below hb HA26.out.lt)
                  clear hb
                  refine hK.out _ _ (HS0.out _ HB27.out) (fun hHeld => ?_)
                  clear hK K
                  try simp only [Act.put, List.getElem_toArray, List.getElem_cons_zero, List.getElem_cons_succ, List.setIfInBounds_toArray, List.set_cons_zero, List.set_cons_succ]
                  refine wpAnyH_take (i := 11) (v := .tuple #[.agg (bvA zero32), .int .i64 1]) rfl (by kernel_rfl) (by kernel_rfl) (by kernel_rfl) (fun _ _ _ h => nomatch h.1) (Or.inl ⟨by rfl, fun w _ => by go_simp⟩) hHeld ?_
                  simp only [Act.put, List.getElem_toArray, List.getElem_cons_zero, List.getElem_cons_succ, List.setIfInBounds_toArray, List.set_cons_zero, List.set_cons_succ]
                  refine wpAnyH_take (i := 12) (v := .agg (bvA zero32)) rfl (by kernel_rfl) (by kernel_rfl) (by kernel_rfl) (fun _ _ _ h => nomatch h.1) (Or.inl ⟨by rfl, fun w _ => by go_simp⟩) hHeld ?_
                  simp only [Act.put, List.getElem_toArray, List.getElem_cons_zero, List.getElem_cons_succ, List.setIfInBounds_toArray, List.set_cons_zero, List.set_cons_succ]
                  refine wpAnyH_take (i := 13) (v := .int .i64 1) rfl (by kernel_rfl) (by kernel_rfl) (by kernel_rfl) (fun _ _ _ h => nomatch h.1) (Or.inl ⟨by rfl, fun w _ => by go_simp⟩) hHeld ?_
                  simp only [Act.put, List.getElem_toArray, List.getElem_cons_zero, List.getElem_cons_succ, List.setIfInBounds_toArray, List.set_cons_zero, List.set_cons_succ]
                  refine wpAnyH_ready (rs := [15]) (by kernel_rfl) (by simp) (AllReadyH.cons rfl (fun K hK => ?_) AllReadyH.nil)
                  rw [if_pos (by rfl)]
                  refine wp_storeA 26 (.tmp 11) (.tmp 53) rfl _ (bvA zero32) rfl rfl 26 _ HA27.out HZS.out HZO.out (bvA_one _) ?_
                  intro w38 hn hg
                  have HB28 := Lib.hid (grown_below HB27.out hg HGA.out HB27.out.size)
                  clear hn hg
                  refine hK.out _ _ (HS0.out _ HB28.out) (fun hHeld => ?_)
                  clear hK K
                  try simp only [Act.put, List.getElem_toArray, List.getElem_cons_zero, List.getElem_cons_succ, List.setIfInBounds_toArray, List.set_cons_zero, List.set_cons_succ]
                  refine wpAnyH_take (i := 16) (v := .int .i64 1) rfl (by kernel_rfl) (by kernel_rfl) (by kernel_rfl) (fun _ _ _ h => nomatch h.1) (Or.inl ⟨by rfl, fun w _ => by go_simp⟩) hHeld ?_
                  simp only [Act.put, List.getElem_toArray, List.getElem_cons_zero, List.getElem_cons_succ, List.setIfInBounds_toArray, List.set_cons_zero, List.set_cons_succ]
                  refine wpAnyH_done (by kernel_rfl) ?_ _
                  exact ⟨rfl, _, _, _, _, _, _, _, _, _, _, _, _, _, _, _, _, _, _, _, _, _, _, _, _, _, _, _, _, _, _, _, _, _, _, _, _, _, rfl, HB28.out⟩
                exact AllReadyH.nil
              exact AllReadyH.nil
            refine AllReadyH.cons rfl (fun K hK => ?_) ?_
            · rw [if_pos (by rfl)]
              refine wp_allocA rfl ?_
              intro w39 gA hn hge hb
              have HNA29 : Hid (Value.ownBlock v21 ≠ some gA) := fun h => by have h1 := HO21.out.lt _ h; omega
              have HGA := Lib.hid (Nat.le_trans HB21.out.size hge)
              have HB29 := Lib.hid (HB21.out.trans (hb.mono HB21.out.size))
              have HE29 := Lib.hid (HE21.out.below hb HE21.out.lt)
              have HO29 := Lib.hid (HO21.out.below hb)
              have HA29 := Lib.hid hn
              clear hn hb hge
              refine hK.out _ _ (HS0.out _ HB29.out) (fun hHeld => ?_)
              clear hK K
              try simp only [Act.put, List.getElem_toArray, List.getElem_cons_zero, List.getElem_cons_succ, List.setIfInBounds_toArray, List.set_cons_zero, List.set_cons_succ]
              refine wpAnyH_ready (rs := [9]) (by kernel_rfl) (by simp) ?_
              refine AllReadyH.cons rfl (fun K hK => ?_) ?_
              · rw [if_pos (by rfl)]
                refine wp_appD (.tmp 48) (.tmp 50) rfl wd.heap.size v21 P [d] (some ⟨gE, 0, none⟩) 1 rfl HO29.out rfl (RdD.one HE29.out HD.out) (fun h => by cases h) HLB.out HB29.out.size ?_
                intro v30 w40 ho hg
                have HB30 := Lib.hid (HB29.out.trans (hg.below (fun k hk => HO29.out.base k hk) HB29.out.size))
                have HE30 := Lib.hid (BB.grownBy HE29.out hg.grown HNE21.out)
                have HNE30 := Lib.hid (hg.ne HNE21.out HE29.out.lt)
                have HA30 := Lib.hid (BB.grownBy HA29.out hg.grown HNA29.out)
                have HNA30 := Lib.hid (hg.ne HNA29.out HA29.out.lt)
                rw [HMM.out] at ho
                have HO30 := Lib.hid ho
                obtain ⟨a9, c9, rfl, _, _⟩ := ho.form
                clear hg
                refine hK.out _ _ (HS0.out _ HB30.out) (fun hHeld => ?_)
                clear hK K
                try simp only [Act.put, List.getElem_toArray, List.getElem_cons_zero, List.getElem_cons_succ, List.setIfInBounds_toArray, List.set_cons_zero, List.set_cons_succ]
                refine wpAnyH_ready (rs := [10]) (by kernel_rfl) (by simp) ?_
                refine AllReadyH.cons rfl (fun K hK => ?_) ?_
                · go_simp
                  refine (CB.out _ a9 c9).mono ?_
                  rintro e w41 ⟨rfl, hb⟩
                  try go_wp2_with fail
                  have HB31 := Lib.hid (HB30.out.trans (hb.mono HB30.out.size))
                  have HA31 := Lib.hid (HA30.out.below hb HA30.out.lt)
                  clear hb
                  refine hK.out _ _ (HS0.out _ HB31.out) (fun hHeld => ?_)
                  clear hK K
                  try simp only [Act.put, List.getElem_toArray, List.getElem_cons_zero, List.getElem_cons_succ, List.setIfInBounds_toArray, List.set_cons_zero, List.set_cons_succ]
                  refine wpAnyH_take (i := 11) (v := .tuple #[.agg (bvA zero32), .int .i64 1]) rfl (by kernel_rfl) (by kernel_rfl) (by kernel_rfl) (fun _ _ _ h => nomatch h.1) (Or.inl ⟨by rfl, fun w _ => by go_simp⟩) hHeld ?_
                  simp only [Act.put, List.getElem_toArray, List.getElem_cons_zero, List.getElem_cons_succ, List.setIfInBounds_toArray, List.set_cons_zero, List.set_cons_succ]
                  refine wpAnyH_take (i := 12) (v := .agg (bvA zero32)) rfl (by kernel_rfl) (by kernel_rfl) (by kernel_rfl) (fun _ _ _ h => nomatch h.1) (Or.inl ⟨by rfl, fun w _ => by go_simp⟩) hHeld ?_
                  simp only [Act.put, List.getElem_toArray, List.getElem_cons_zero, List.getElem_cons_succ, List.setIfInBounds_toArray, List.set_cons_zero, List.set_cons_succ]
                  refine wpAnyH_take (i := 13) (v := .int .i64 1) rfl (by kernel_rfl) (by kernel_rfl) (by kernel_rfl) (fun _ _ _ h => nomatch h.1) (Or.inl ⟨by rfl, fun w _ => by go_simp⟩) hHeld ?_
                  simp only [Act.put, List.getElem_toArray, List.getElem_cons_zero, List.getElem_cons_succ, List.setIfInBounds_toArray, List.set_cons_zero, List.set_cons_succ]
                  refine wpAnyH_ready (rs := [15]) (by kernel_rfl) (by simp) (AllReadyH.cons rfl (fun K hK => ?_) AllReadyH.nil)
                  rw [if_pos (by rfl)]
                  refine wp_storeA 26 (.tmp 11) (.tmp 53) rfl _ (bvA zero32) rfl rfl 26 _ HA31.out HZS.out HZO.out (bvA_one _) ?_
                  intro w42 hn hg
                  have HB32 := Lib.hid (grown_below HB31.out hg HGA.out HB31.out.size)
                  clear hn hg
                  refine hK.out _ _ (HS0.out _ HB32.out) (fun hHeld => ?_)
                  clear hK K
                  try simp only [Act.put, List.getElem_toArray, List.getElem_cons_zero, List.getElem_cons_succ, List.setIfInBounds_toArray, List.set_cons_zero, List.set_cons_succ]
                  refine wpAnyH_take (i := 16) (v := .int .i64 1) rfl (by kernel_rfl) (by kernel_rfl) (by kernel_rfl) (fun _ _ _ h => nomatch h.1) (Or.inl ⟨by rfl, fun w _ => by go_simp⟩) hHeld ?_
                  simp only [Act.put, List.getElem_toArray, List.getElem_cons_zero, List.getElem_cons_succ, List.setIfInBounds_toArray, List.set_cons_zero, List.set_cons_succ]
                  refine wpAnyH_done (by kernel_rfl) ?_ _
                  exact ⟨rfl, _, _, _, _, _, _, _, _, _, _, _, _, _, _, _, _, _, _, _, _, _, _, _, _, _, _, _, _, _, _, _, _, _, _, _, _, _, rfl, HB32.out⟩
                exact AllReadyH.nil
              exact AllReadyH.nil
            exact AllReadyH.nil
          refine AllReadyH.cons rfl (fun K hK => ?_) ?_
          · rw [if_pos (by rfl)]
            refine wp_allocA rfl ?_
            intro w43 gA hn hge hb
            have HNA33 : Hid (Value.ownBlock v1 ≠ some gA) := fun h => by have h1 := HO20.out.lt _ h; omega
            have HGA := Lib.hid (Nat.le_trans HB20.out.size hge)
            have HB33 := Lib.hid (HB20.out.trans (hb.mono HB20.out.size))
            have HE33 := Lib.hid (HE20.out.below hb HE20.out.lt)
            have HO33 := Lib.hid (HO20.out.below hb)
            have HA33 := Lib.hid hn
            clear hn hb hge
            refine hK.out _ _ (HS0.out _ HB33.out) (fun hHeld => ?_)
            clear hK K
            try simp only [Act.put, List.getElem_toArray, List.getElem_cons_zero, List.getElem_cons_succ, List.setIfInBounds_toArray, List.set_cons_zero, List.set_cons_succ]
            refine wpAnyH_ready (rs := [6]) (by kernel_rfl) (by simp) ?_
            refine AllReadyH.cons rfl (fun K hK => ?_) ?_
            · rw [if_pos (by rfl)]
              refine wp_appD (.tmp 46) (.tmp 47) rfl wd.heap.size v1 [] P ap cp rfl HO33.out rfl ((HPd.out.below HB33.out).mono HB33.out.size) HQ3.out HLA.out HB33.out.size ?_
              intro v34 w44 ho hg
              have HB34 := Lib.hid (HB33.out.trans (hg.below (fun k hk => HO33.out.base k hk) HB33.out.size))
              have HE34 := Lib.hid (BB.grownBy HE33.out hg.grown HNE20.out)
              have HNE34 := Lib.hid (hg.ne HNE20.out HE33.out.lt)
              have HA34 := Lib.hid (BB.grownBy HA33.out hg.grown HNA33.out)
              have HNA34 := Lib.hid (hg.ne HNA33.out HA33.out.lt)
              have HO34 := Lib.hid ho
              clear ho hg
              refine hK.out _ _ (HS0.out _ HB34.out) (fun hHeld => ?_)
              clear hK K
              try simp only [Act.put, List.getElem_toArray, List.getElem_cons_zero, List.getElem_cons_succ, List.setIfInBounds_toArray, List.set_cons_zero, List.set_cons_succ]
              refine wpAnyH_ready (rs := [9]) (by kernel_rfl) (by simp) ?_
              refine AllReadyH.cons rfl (fun K hK => ?_) ?_
              · rw [if_pos (by rfl)]
                refine wp_appD (.tmp 48) (.tmp 50) rfl wd.heap.size v34 P [d] (some ⟨gE, 0, none⟩) 1 rfl HO34.out rfl (RdD.one HE34.out HD.out) (fun h => by cases h) HLB.out HB34.out.size ?_
                intro v35 w45 ho hg
                have HB35 := Lib.hid (HB34.out.trans (hg.below (fun k hk => HO34.out.base k hk) HB34.out.size))
                have HE35 := Lib.hid (BB.grownBy HE34.out hg.grown HNE34.out)
                have HNE35 := Lib.hid (hg.ne HNE34.out HE34.out.lt)
                have HA35 := Lib.hid (BB.grownBy HA34.out hg.grown HNA34.out)
                have HNA35 := Lib.hid (hg.ne HNA34.out HA34.out.lt)
                rw [HMM.out] at ho
                have HO35 := Lib.hid ho
                obtain ⟨a9, c9, rfl, _, _⟩ := ho.form
                clear hg
                refine hK.out _ _ (HS0.out _ HB35.out) (fun hHeld => ?_)
                clear hK K
                try simp only [Act.put, List.getElem_toArray, List.getElem_cons_zero, List.getElem_cons_succ, List.setIfInBounds_toArray, List.set_cons_zero, List.set_cons_succ]
                refine wpAnyH_ready (rs := [10]) (by kernel_rfl) (by simp) ?_
                refine AllReadyH.cons rfl (fun K hK => ?_) ?_
                · go_simp
                  refine (CB.out _ a9 c9).mono ?_
                  rintro e w46 ⟨rfl, hb⟩
                  try go_wp2_with fail
                  have HB36 := Lib.hid (HB35.out.trans (hb.mono HB35.out.size))
                  have HA36 := Lib.hid (HA35.out.below hb HA35.out.lt)
                  clear hb
                  refine hK.out _ _ (HS0.out _ HB36.out) (fun hHeld => ?_)
                  clear hK K
                  try simp only [Act.put, List.getElem_toArray, List.getElem_cons_zero, List.getElem_cons_succ, List.setIfInBounds_toArray, List.set_cons_zero, List.set_cons_succ]
                  refine wpAnyH_take (i := 11) (v := .tuple #[.agg (bvA zero32), .int .i64 1]) rfl (by kernel_rfl) (by kernel_rfl) (by kernel_rfl) (fun _ _ _ h => nomatch h.1) (Or.inl ⟨by rfl, fun w _ => by go_simp⟩) hHeld ?_
                  simp only [Act.put, List.getElem_toArray, List.getElem_cons_zero, List.getElem_cons_succ, List.setIfInBounds_toArray, List.set_cons_zero, List.set_cons_succ]
                  refine wpAnyH_take (i := 12) (v := .agg (bvA zero32)) rfl (by kernel_rfl) (by kernel_rfl) (by kernel_rfl) (fun _ _ _ h => nomatch h.1) (Or.inl ⟨by rfl, fun w _ => by go_simp⟩) hHeld ?_
                  simp only [Act.put, List.getElem_toArray, List.getElem_cons_zero, List.getElem_cons_succ, List.setIfInBounds_toArray, List.set_cons_zero, List.set_cons_succ]
                  refine wpAnyH_take (i := 13) (v := .int .i64 1) rfl (by kernel_rfl) (by kernel_rfl) (by kernel_rfl) (fun _ _ _ h => nomatch h.1) (Or.inl ⟨by rfl, fun w _ => by go_simp⟩) hHeld ?_
                  simp only [Act.put, List.getElem_toArray, List.getElem_cons_zero, List.getElem_cons_succ, List.setIfInBounds_toArray, List.set_cons_zero, List.set_cons_succ]
                  refine wpAnyH_ready (rs := [15]) (by kernel_rfl) (by simp) (AllReadyH.cons rfl (fun K hK => ?_) AllReadyH.nil)
                  rw [if_pos (by rfl)]
                  refine wp_storeA 26 (.tmp 11) (.tmp 53) rfl _ (bvA zero32) rfl rfl 26 _ HA36.out HZS.out HZO.out (bvA_one _) ?_
                  intro w47 hn hg
                  have HB37 := Lib.hid (grown_below HB36.out hg HGA.out HB36.out.size)
                  clear hn hg
                  refine hK.out _ _ (HS0.out _ HB37.out) (fun hHeld => ?_)
                  clear hK K
                  try simp only [Act.put, List.getElem_toArray, List.getElem_cons_zero, List.getElem_cons_succ, List.setIfInBounds_toArray, List.set_cons_zero, List.set_cons_succ]
                  refine wpAnyH_take (i := 16) (v := .int .i64 1) rfl (by kernel_rfl) (by kernel_rfl) (by kernel_rfl) (fun _ _ _ h => nomatch h.1) (Or.inl ⟨by rfl, fun w _ => by go_simp⟩) hHeld ?_
                  simp only [Act.put, List.getElem_toArray, List.getElem_cons_zero, List.getElem_cons_succ, List.setIfInBounds_toArray, List.set_cons_zero, List.set_cons_succ]
                  refine wpAnyH_done (by kernel_rfl) ?_ _
                  exact ⟨rfl, _, _, _, _, _, _, _, _, _, _, _, _, _, _, _, _, _, _, _, _, _, _, _, _, _, _, _, _, _, _, _, _, _, _, _, _, _, rfl, HB37.out⟩
                exact AllReadyH.nil
              exact AllReadyH.nil
            exact AllReadyH.nil
          exact AllReadyH.nil
        refine AllReadyH.cons rfl (fun K hK => ?_) ?_
        · rw [if_pos (by rfl)]
          refine wp_allocA rfl ?_
          intro w48 gA hn hge hb
          have HNA38 : Hid (Value.ownBlock v1 ≠ some gA) := fun h => by have h1 := HO1.out.lt _ h; omega
          have HGA := Lib.hid (Nat.le_trans HB1.out.size hge)
          have HB38 := Lib.hid (HB1.out.trans (hb.mono HB1.out.size))
          have HO38 := Lib.hid (HO1.out.below hb)
          have HA38 := Lib.hid hn
          clear hn hb hge
          refine hK.out _ _ (HS0.out _ HB38.out) (fun hHeld => ?_)
          clear hK K
          try simp only [Act.put, List.getElem_toArray, List.getElem_cons_zero, List.getElem_cons_succ, List.setIfInBounds_toArray, List.set_cons_zero, List.set_cons_succ]
          refine wpAnyH_ready (rs := [6, 8]) (by kernel_rfl) (by simp) ?_
          refine AllReadyH.cons rfl (fun K hK => ?_) ?_
          · rw [if_pos (by rfl)]
            refine wp_appD (.tmp 46) (.tmp 47) rfl wd.heap.size v1 [] P ap cp rfl HO38.out rfl ((HPd.out.below HB38.out).mono HB38.out.size) HQ3.out HLA.out HB38.out.size ?_
            intro v39 w49 ho hg
            have HB39 := Lib.hid (HB38.out.trans (hg.below (fun k hk => HO38.out.base k hk) HB38.out.size))
            have HA39 := Lib.hid (BB.grownBy HA38.out hg.grown HNA38.out)
            have HNA39 := Lib.hid (hg.ne HNA38.out HA38.out.lt)
            have HO39 := Lib.hid ho
            clear ho hg
            refine hK.out _ _ (HS0.out _ HB39.out) (fun hHeld => ?_)
            clear hK K
            try simp only [Act.put, List.getElem_toArray, List.getElem_cons_zero, List.getElem_cons_succ, List.setIfInBounds_toArray, List.set_cons_zero, List.set_cons_succ]
            refine wpAnyH_ready (rs := [8]) (by kernel_rfl) (by simp) ?_
            refine AllReadyH.cons rfl (fun K hK => ?_) ?_
            · rw [if_pos (by rfl)]
              refine wp_build1A (.tmp 49) rfl d HD.out rfl ?_
              intro w50 gE hn hge hb
              have HNE40 : Hid (Value.ownBlock v39 ≠ some gE) := fun h => by have h1 := HO39.out.lt _ h; omega
              have HB40 := Lib.hid (HB39.out.trans (hb.mono HB39.out.size))
              have HA40 := Lib.hid (HA39.out.below hb HA39.out.lt)
              have HO40 := Lib.hid (HO39.out.below hb)
              have HE40 := Lib.hid hn
              clear hn hb hge
              refine hK.out _ _ (HS0.out _ HB40.out) (fun hHeld => ?_)
              clear hK K
              try simp only [Act.put, List.getElem_toArray, List.getElem_cons_zero, List.getElem_cons_succ, List.setIfInBounds_toArray, List.set_cons_zero, List.set_cons_succ]
              refine wpAnyH_ready (rs := [9]) (by kernel_rfl) (by simp) ?_
              refine AllReadyH.cons rfl (fun K hK => ?_) ?_
              · rw [if_pos (by rfl)]
                refine wp_appD (.tmp 48) (.tmp 50) rfl wd.heap.size v39 P [d] (some ⟨gE, 0, none⟩) 1 rfl HO40.out rfl (RdD.one HE40.out HD.out) (fun h => by cases h) HLB.out HB40.out.size ?_
                intro v41 w51 ho hg
                have HB41 := Lib.hid (HB40.out.trans (hg.below (fun k hk => HO40.out.base k hk) HB40.out.size))
                have HE41 := Lib.hid (BB.grownBy HE40.out hg.grown HNE40.out)
                have HNE41 := Lib.hid (hg.ne HNE40.out HE40.out.lt)
                have HA41 := Lib.hid (BB.grownBy HA40.out hg.grown HNA39.out)
                have HNA41 := Lib.hid (hg.ne HNA39.out HA40.out.lt)
                rw [HMM.out] at ho
                have HO41 := Lib.hid ho
                obtain ⟨a9, c9, rfl, _, _⟩ := ho.form
                clear hg
                refine hK.out _ _ (HS0.out _ HB41.out) (fun hHeld => ?_)
                clear hK K
                try simp only [Act.put, List.getElem_toArray, List.getElem_cons_zero, List.getElem_cons_succ, List.setIfInBounds_toArray, List.set_cons_zero, List.set_cons_succ]
                refine wpAnyH_ready (rs := [10]) (by kernel_rfl) (by simp) ?_
                refine AllReadyH.cons rfl (fun K hK => ?_) ?_
                · go_simp
                  refine (CB.out _ a9 c9).mono ?_
                  rintro e w52 ⟨rfl, hb⟩
                  try go_wp2_with fail
                  have HB42 := Lib.hid (HB41.out.trans (hb.mono HB41.out.size))
                  have HA42 := Lib.hid (HA41.out.below hb HA41.out.lt)
                  clear hb
                  refine hK.out _ _ (HS0.out _ HB42.out) (fun hHeld => ?_)
                  clear hK K
                  try simp only [Act.put, List.getElem_toArray, List.getElem_cons_zero, List.getElem_cons_succ, List.setIfInBounds_toArray, List.set_cons_zero, List.set_cons_succ]
                  refine wpAnyH_take (i := 11) (v := .tuple #[.agg (bvA zero32), .int .i64 1]) rfl (by kernel_rfl) (by kernel_rfl) (by kernel_rfl) (fun _ _ _ h => nomatch h.1) (Or.inl ⟨by rfl, fun w _ => by go_simp⟩) hHeld ?_
                  simp only [Act.put, List.getElem_toArray, List.getElem_cons_zero, List.getElem_cons_succ, List.setIfInBounds_toArray, List.set_cons_zero, List.set_cons_succ]
                  refine wpAnyH_take (i := 12) (v := .agg (bvA zero32)) rfl (by kernel_rfl) (by kernel_rfl) (by kernel_rfl) (fun _ _ _ h => nomatch h.1) (Or.inl ⟨by rfl, fun w _ => by go_simp⟩) hHeld ?_
                  simp only [Act.put, List.getElem_toArray, List.getElem_cons_zero, List.getElem_cons_succ, List.setIfInBounds_toArray, List.set_cons_zero, List.set_cons_succ]
                  refine wpAnyH_take (i := 13) (v := .int .i64 1) rfl (by kernel_rfl) (by kernel_rfl) (by kernel_rfl) (fun _ _ _ h => nomatch h.1) (Or.inl ⟨by rfl, fun w _ => by go_simp⟩) hHeld ?_
                  simp only [Act.put, List.getElem_toArray, List.getElem_cons_zero, List.getElem_cons_succ, List.setIfInBounds_toArray, List.set_cons_zero, List.set_cons_succ]
                  refine wpAnyH_ready (rs := [15]) (by kernel_rfl) (by simp) (AllReadyH.cons rfl (fun K hK => ?_) AllReadyH.nil)
                  rw [if_pos (by rfl)]
                  refine wp_storeA 26 (.tmp 11) (.tmp 53) rfl _ (bvA zero32) rfl rfl 26 _ HA42.out HZS.out HZO.out (bvA_one _) ?_
                  intro w53 hn hg
                  have HB43 := Lib.hid (grown_below HB42.out hg HGA.out HB42.out.size)
                  clear hn hg
                  refine hK.out _ _ (HS0.out _ HB43.out) (fun hHeld => ?_)
                  clear hK K
                  try simp only [Act.put, List.getElem_toArray, List.getElem_cons_zero, List.getElem_cons_succ, List.setIfInBounds_toArray, List.set_cons_zero, List.set_cons_succ]
                  refine wpAnyH_take (i := 16) (v := .int .i64 1) rfl (by kernel_rfl) (by kernel_rfl) (by kernel_rfl) (fun _ _ _ h => nomatch h.1) (Or.inl ⟨by rfl, fun w _ => by go_simp⟩) hHeld ?_
                  simp only [Act.put, List.getElem_toArray, List.getElem_cons_zero, List.getElem_cons_succ, List.setIfInBounds_toArray, List.set_cons_zero, List.set_cons_succ]
                  refine wpAnyH_done (by kernel_rfl) ?_ _
                  exact ⟨rfl, _, _, _, _, _, _, _, _, _, _, _, _, _, _, _, _, _, _, _, _, _, _, _, _, _, _, _, _, _, _, _, _, _, _, _, _, _, rfl, HB43.out⟩
                exact AllReadyH.nil
              exact AllReadyH.nil
            exact AllReadyH.nil
          refine AllReadyH.cons rfl (fun K hK => ?_) ?_
          · rw [if_pos (by rfl)]
            refine wp_build1A (.tmp 49) rfl d HD.out rfl ?_
            intro w54 gE hn hge hb
            have HNE44 : Hid (Value.ownBlock v1 ≠ some gE) := fun h => by have h1 := HO38.out.lt _ h; omega
            have HB44 := Lib.hid (HB38.out.trans (hb.mono HB38.out.size))
            have HA44 := Lib.hid (HA38.out.below hb HA38.out.lt)
            have HO44 := Lib.hid (HO38.out.below hb)
            have HE44 := Lib.hid hn
            clear hn hb hge
            refine hK.out _ _ (HS0.out _ HB44.out) (fun hHeld => ?_)
            clear hK K
            try simp only [Act.put, List.getElem_toArray, List.getElem_cons_zero, List.getElem_cons_succ, List.setIfInBounds_toArray, List.set_cons_zero, List.set_cons_succ]
            refine wpAnyH_ready (rs := [6]) (by kernel_rfl) (by simp) ?_
            refine AllReadyH.cons rfl (fun K hK => ?_) ?_
            · rw [if_pos (by rfl)]
              refine wp_appD (.tmp 46) (.tmp 47) rfl wd.heap.size v1 [] P ap cp rfl HO44.out rfl ((HPd.out.below HB44.out).mono HB44.out.size) HQ3.out HLA.out HB44.out.size ?_
              intro v45 w55 ho hg
              have HB45 := Lib.hid (HB44.out.trans (hg.below (fun k hk => HO44.out.base k hk) HB44.out.size))
              have HE45 := Lib.hid (BB.grownBy HE44.out hg.grown HNE44.out)
              have HNE45 := Lib.hid (hg.ne HNE44.out HE44.out.lt)
              have HA45 := Lib.hid (BB.grownBy HA44.out hg.grown HNA38.out)
              have HNA45 := Lib.hid (hg.ne HNA38.out HA44.out.lt)
              have HO45 := Lib.hid ho
              clear ho hg
              refine hK.out _ _ (HS0.out _ HB45.out) (fun hHeld => ?_)
              clear hK K
              try simp only [Act.put, List.getElem_toArray, List.getElem_cons_zero, List.getElem_cons_succ, List.setIfInBounds_toArray, List.set_cons_zero, List.set_cons_succ]
              refine wpAnyH_ready (rs := [9]) (by kernel_rfl) (by simp) ?_
              refine AllReadyH.cons rfl (fun K hK => ?_) ?_
              · rw [if_pos (by rfl)]
                refine wp_appD (.tmp 48) (.tmp 50) rfl wd.heap.size v45 P [d] (some ⟨gE, 0, none⟩) 1 rfl HO45.out rfl (RdD.one HE45.out HD.out) (fun h => by cases h) HLB.out HB45.out.size ?_
                intro v46 w56 ho hg
                have HB46 := Lib.hid (HB45.out.trans (hg.below (fun k hk => HO45.out.base k hk) HB45.out.size))
                have HE46 := Lib.hid (BB.grownBy HE45.out hg.grown HNE45.out)
                have HNE46 := Lib.hid (hg.ne HNE45.out HE45.out.lt)
                have HA46 := Lib.hid (BB.grownBy HA45.out hg.grown HNA45.out)
                have HNA46 := Lib.hid (hg.ne HNA45.out HA45.out.lt)
                rw [HMM.out] at ho
                have HO46 := Lib.hid ho
                obtain ⟨a9, c9, rfl, _, _⟩ := ho.form
                clear hg
                refine hK.out _ _ (HS0.out _ HB46.out) (fun hHeld => ?_)
                clear hK K
                try simp only [Act.put, List.getElem_toArray, List.getElem_cons_zero, List.getElem_cons_succ, List.setIfInBounds_toArray, List.set_cons_zero, List.set_cons_succ]
                refine wpAnyH_ready (rs := [10]) (by kernel_rfl) (by simp) ?_
                refine AllReadyH.cons rfl (fun K hK => ?_) ?_
                · go_simp
                  refine (CB.out _ a9 c9).mono ?_
                  rintro e w57 ⟨rfl, hb⟩
                  try go_wp2_with fail
                  have HB47 := Lib.hid (HB46.out.trans (hb.mono HB46.out.size))
                  have HA47 := Lib.hid (HA46.out.below hb HA46.out.lt)
                  clear hb
                  refine hK.out _ _ (HS0.out _ HB47.out) (fun hHeld => ?_)
                  clear hK K
                  try simp only [Act.put, List.getElem_toArray, List.getElem_cons_zero, List.getElem_cons_succ, List.setIfInBounds_toArray, List.set_cons_zero, List.set_cons_succ]
                  refine wpAnyH_take (i := 11) (v := .tuple #[.agg (bvA zero32), .int .i64 1]) rfl (by kernel_rfl) (by kernel_rfl) (by kernel_rfl) (fun _ _ _ h => nomatch h.1) (Or.inl ⟨by rfl, fun w _ => by go_simp⟩) hHeld ?_
                  simp only [Act.put, List.getElem_toArray, List.getElem_cons_zero, List.getElem_cons_succ, List.setIfInBounds_toArray, List.set_cons_zero, List.set_cons_succ]
                  refine wpAnyH_take (i := 12) (v := .agg (bvA zero32)) rfl (by kernel_rfl) (by kernel_rfl) (by kernel_rfl) (fun _ _ _ h => nomatch h.1) (Or.inl ⟨by rfl, fun w _ => by go_simp⟩) hHeld ?_
                  simp only [Act.put, List.getElem_toArray, List.getElem_cons_zero, List.getElem_cons_succ, List.setIfInBounds_toArray, List.set_cons_zero, List.set_cons_succ]
                  refine wpAnyH_take (i := 13) (v := .int .i64 1) rfl (by kernel_rfl) (by kernel_rfl) (by kernel_rfl) (fun _ _ _ h => nomatch h.1) (Or.inl ⟨by rfl, fun w _ => by go_simp⟩) hHeld ?_
                  simp only [Act.put, List.getElem_toArray, List.getElem_cons_zero, List.getElem_cons_succ, List.setIfInBounds_toArray, List.set_cons_zero, List.set_cons_succ]
                  refine wpAnyH_ready (rs := [15]) (by kernel_rfl) (by simp) (AllReadyH.cons rfl (fun K hK => ?_) AllReadyH.nil)
                  rw [if_pos (by rfl)]
                  refine wp_storeA 26 (.tmp 11) (.tmp 53) rfl _ (bvA zero32) rfl rfl 26 _ HA47.out HZS.out HZO.out (bvA_one _) ?_
                  intro w58 hn hg
                  have HB48 := Lib.hid (grown_below HB47.out hg HGA.out HB47.out.size)
                  clear hn hg
                  refine hK.out _ _ (HS0.out _ HB48.out) (fun hHeld => ?_)
                  clear hK K
                  try simp only [Act.put, List.getElem_toArray, List.getElem_cons_zero, List.getElem_cons_succ, List.setIfInBounds_toArray, List.set_cons_zero, List.set_cons_succ]
                  refine wpAnyH_take (i := 16) (v := .int .i64 1) rfl (by kernel_rfl) (by kernel_rfl) (by kernel_rfl) (fun _ _ _ h => nomatch h.1) (Or.inl ⟨by rfl, fun w _ => by go_simp⟩) hHeld ?_
                  simp only [Act.put, List.getElem_toArray, List.getElem_cons_zero, List.getElem_cons_succ, List.setIfInBounds_toArray, List.set_cons_zero, List.set_cons_succ]
                  refine wpAnyH_done (by kernel_rfl) ?_ _
                  exact ⟨rfl, _, _, _, _, _, _, _, _, _, _, _, _, _, _, _, _, _, _, _, _, _, _, _, _, _, _, _, _, _, _, _, _, _, _, _, _, _, rfl, HB48.out⟩
                exact AllReadyH.nil
              exact AllReadyH.nil
            exact AllReadyH.nil
          exact AllReadyH.nil
        exact AllReadyH.nil
      refine AllReadyH.cons rfl (fun K hK => ?_) ?_
      · rw [if_pos (by rfl)]
        refine wp_build1A (.tmp 49) rfl d HD.out rfl ?_
        intro w59 gE hn hge hb
        have HB49 := Lib.hid (HB0.out.trans (hb.mono HB0.out.size))
        have HE49 := Lib.hid hn
        clear hn hb hge
        refine hK.out _ _ (HS0.out _ HB49.out) (fun hHeld => ?_)
        clear hK K
        try simp only [Act.put, List.getElem_toArray, List.getElem_cons_zero, List.getElem_cons_succ, List.setIfInBounds_toArray, List.set_cons_zero, List.set_cons_succ]
        refine wpAnyH_ready (rs := [4, 14]) (by kernel_rfl) (by simp) ?_
        refine AllReadyH.cons rfl (fun K hK => ?_) ?_
        · rw [if_pos (by rfl)]
          refine wp_nilD rfl wd.heap.size HB49.out.size ?_
          intro w60 v50 hn hgk hb
          have HNE50 : Hid (Value.ownBlock v50 ≠ some gE) := fun h => by have h1 := hgk _ h; have h2 := HE49.out.lt; omega
          have HB50 := Lib.hid (HB49.out.trans (hb.mono HB49.out.size))
          have HE50 := Lib.hid (HE49.out.below hb HE49.out.lt)
          have HO50 := Lib.hid hn
          clear hn hb hgk
          refine hK.out _ _ (HS0.out _ HB50.out) (fun hHeld => ?_)
          clear hK K
          try simp only [Act.put, List.getElem_toArray, List.getElem_cons_zero, List.getElem_cons_succ, List.setIfInBounds_toArray, List.set_cons_zero, List.set_cons_succ]
          refine wpAnyH_ready (rs := [6, 14]) (by kernel_rfl) (by simp) ?_
          refine AllReadyH.cons rfl (fun K hK => ?_) ?_
          · rw [if_pos (by rfl)]
            refine wp_appD (.tmp 46) (.tmp 47) rfl wd.heap.size v50 [] P ap cp rfl HO50.out rfl ((HPd.out.below HB50.out).mono HB50.out.size) HQ3.out HLA.out HB50.out.size ?_
            intro v51 w61 ho hg
            have HB51 := Lib.hid (HB50.out.trans (hg.below (fun k hk => HO50.out.base k hk) HB50.out.size))
            have HE51 := Lib.hid (BB.grownBy HE50.out hg.grown HNE50.out)
            have HNE51 := Lib.hid (hg.ne HNE50.out HE50.out.lt)
            have HO51 := Lib.hid ho
            clear ho hg
            refine hK.out _ _ (HS0.out _ HB51.out) (fun hHeld => ?_)
            clear hK K
            try simp only [Act.put, List.getElem_toArray, List.getElem_cons_zero, List.getElem_cons_succ, List.setIfInBounds_toArray, List.set_cons_zero, List.set_cons_succ]
            refine wpAnyH_ready (rs := [9, 14]) (by kernel_rfl) (by simp) ?_
            refine AllReadyH.cons rfl (fun K hK => ?_) ?_
            · rw [if_pos (by rfl)]
              refine wp_appD (.tmp 48) (.tmp 50) rfl wd.heap.size v51 P [d] (some ⟨gE, 0, none⟩) 1 rfl HO51.out rfl (RdD.one HE51.out HD.out) (fun h => by cases h) HLB.out HB51.out.size ?_
              intro v52 w62 ho hg
              have HB52 := Lib.hid (HB51.out.trans (hg.below (fun k hk => HO51.out.base k hk) HB51.out.size))
              have HE52 := Lib.hid (BB.grownBy HE51.out hg.grown HNE51.out)
              have HNE52 := Lib.hid (hg.ne HNE51.out HE51.out.lt)
              rw [HMM.out] at ho
              have HO52 := Lib.hid ho
              obtain ⟨a9, c9, rfl, _, _⟩ := ho.form
              clear hg
              refine hK.out _ _ (HS0.out _ HB52.out) (fun hHeld => ?_)
              clear hK K
              try simp only [Act.put, List.getElem_toArray, List.getElem_cons_zero, List.getElem_cons_succ, List.setIfInBounds_toArray, List.set_cons_zero, List.set_cons_succ]
              refine wpAnyH_ready (rs := [10, 14]) (by kernel_rfl) (by simp) ?_
              refine AllReadyH.cons rfl (fun K hK => ?_) ?_
              · go_simp
                refine (CB.out _ a9 c9).mono ?_
                rintro e w63 ⟨rfl, hb⟩
                try go_wp2_with fail
                have HB53 := Lib.hid (HB52.out.trans (hb.mono HB52.out.size))
                clear hb
                refine hK.out _ _ (HS0.out _ HB53.out) (fun hHeld => ?_)
                clear hK K
                try simp only [Act.put, List.getElem_toArray, List.getElem_cons_zero, List.getElem_cons_succ, List.setIfInBounds_toArray, List.set_cons_zero, List.set_cons_succ]
                refine wpAnyH_take (i := 11) (v := .tuple #[.agg (bvA zero32), .int .i64 1]) rfl (by kernel_rfl) (by kernel_rfl) (by kernel_rfl) (fun _ _ _ h => nomatch h.1) (Or.inl ⟨by rfl, fun w _ => by go_simp⟩) hHeld ?_
                simp only [Act.put, List.getElem_toArray, List.getElem_cons_zero, List.getElem_cons_succ, List.setIfInBounds_toArray, List.set_cons_zero, List.set_cons_succ]
                refine wpAnyH_take (i := 12) (v := .agg (bvA zero32)) rfl (by kernel_rfl) (by kernel_rfl) (by kernel_rfl) (fun _ _ _ h => nomatch h.1) (Or.inl ⟨by rfl, fun w _ => by go_simp⟩) hHeld ?_
                simp only [Act.put, List.getElem_toArray, List.getElem_cons_zero, List.getElem_cons_succ, List.setIfInBounds_toArray, List.set_cons_zero, List.set_cons_succ]
                refine wpAnyH_take (i := 13) (v := .int .i64 1) rfl (by kernel_rfl) (by kernel_rfl) (by kernel_rfl) (fun _ _ _ h => nomatch h.1) (Or.inl ⟨by rfl, fun w _ => by go_simp⟩) hHeld ?_
                simp only [Act.put, List.getElem_toArray, List.getElem_cons_zero, List.getElem_cons_succ, List.setIfInBounds_toArray, List.set_cons_zero, List.set_cons_succ]
                refine wpAnyH_ready (rs := [14]) (by kernel_rfl) (by simp) ?_
                refine AllReadyH.cons rfl (fun K hK => ?_) ?_
                · rw [if_pos (by rfl)]
                  refine wp_allocA rfl ?_
                  intro w64 gA hn hge hb
                  have HGA := Lib.hid (Nat.le_trans HB53.out.size hge)
                  have HB54 := Lib.hid (HB53.out.trans (hb.mono HB53.out.size))
                  have HA54 := Lib.hid hn
                  clear hn hb hge
                  refine hK.out _ _ (HS0.out _ HB54.out) (fun hHeld => ?_)
                  clear hK K
                  try simp only [Act.put, List.getElem_toArray, List.getElem_cons_zero, List.getElem_cons_succ, List.setIfInBounds_toArray, List.set_cons_zero, List.set_cons_succ]
                  refine wpAnyH_ready (rs := [15]) (by kernel_rfl) (by simp) (AllReadyH.cons rfl (fun K hK => ?_) AllReadyH.nil)
                  rw [if_pos (by rfl)]
                  refine wp_storeA 26 (.tmp 11) (.tmp 53) rfl _ (bvA zero32) rfl rfl 26 _ HA54.out HZS.out HZO.out (bvA_one _) ?_
                  intro w65 hn hg
                  have HB55 := Lib.hid (grown_below HB54.out hg HGA.out HB54.out.size)
                  clear hn hg
                  refine hK.out _ _ (HS0.out _ HB55.out) (fun hHeld => ?_)
                  clear hK K
                  try simp only [Act.put, List.getElem_toArray, List.getElem_cons_zero, List.getElem_cons_succ, List.setIfInBounds_toArray, List.set_cons_zero, List.set_cons_succ]
                  refine wpAnyH_take (i := 16) (v := .int .i64 1) rfl (by kernel_rfl) (by kernel_rfl) (by kernel_rfl) (fun _ _ _ h => nomatch h.1) (Or.inl ⟨by rfl, fun w _ => by go_simp⟩) hHeld ?_
                  simp only [Act.put, List.getElem_toArray, List.getElem_cons_zero, List.getElem_cons_succ, List.setIfInBounds_toArray, List.set_cons_zero, List.set_cons_succ]
                  refine wpAnyH_done (by kernel_rfl) ?_ _
                  exact ⟨rfl, _, _, _, _, _, _, _, _, _, _, _, _, _, _, _, _, _, _, _, _, _, _, _, _, _, _, _, _, _, _, _, _, _, _, _, _, _, rfl, HB55.out⟩
                exact AllReadyH.nil
              refine AllReadyH.cons rfl (fun K hK => ?_) ?_
              · rw [if_pos (by rfl)]
                refine wp_allocA rfl ?_
                intro w66 gA hn hge hb
                have HNA56 : Hid (Value.ownBlock (Value.slice a9 M.length c9) ≠ some gA) := fun h => by have h1 := HO52.out.lt _ h; omega
                have HGA := Lib.hid (Nat.le_trans HB52.out.size hge)
                have HB56 := Lib.hid (HB52.out.trans (hb.mono HB52.out.size))
                have HE56 := Lib.hid (HE52.out.below hb HE52.out.lt)
                have HO56 := Lib.hid (HO52.out.below hb)
                have HA56 := Lib.hid hn
                clear hn hb hge
                refine hK.out _ _ (HS0.out _ HB56.out) (fun hHeld => ?_)
                clear hK K
                try simp only [Act.put, List.getElem_toArray, List.getElem_cons_zero, List.getElem_cons_succ, List.setIfInBounds_toArray, List.set_cons_zero, List.set_cons_succ]
                refine wpAnyH_ready (rs := [10]) (by kernel_rfl) (by simp) ?_
                refine AllReadyH.cons rfl (fun K hK => ?_) ?_
                · go_simp
                  refine (CB.out _ a9 c9).mono ?_
                  rintro e w67 ⟨rfl, hb⟩
                  try go_wp2_with fail
                  have HB57 := Lib.hid (HB56.out.trans (hb.mono HB56.out.size))
                  have HA57 := Lib.hid (HA56.out.below hb HA56.out.lt)
                  clear hb
                  refine hK.out _ _ (HS0.out _ HB57.out) (fun hHeld => ?_)
                  clear hK K
                  try simp only [Act.put, List.getElem_toArray, List.getElem_cons_zero, List.getElem_cons_succ, List.setIfInBounds_toArray, List.set_cons_zero, List.set_cons_succ]
                  refine wpAnyH_take (i := 11) (v := .tuple #[.agg (bvA zero32), .int .i64 1]) rfl (by kernel_rfl) (by kernel_rfl) (by kernel_rfl) (fun _ _ _ h => nomatch h.1) (Or.inl ⟨by rfl, fun w _ => by go_simp⟩) hHeld ?_
                  simp only [Act.put, List.getElem_toArray, List.getElem_cons_zero, List.getElem_cons_succ, List.setIfInBounds_toArray, List.set_cons_zero, List.set_cons_succ]
                  refine wpAnyH_take (i := 12) (v := .agg (bvA zero32)) rfl (by kernel_rfl) (by kernel_rfl) (by kernel_rfl) (fun _ _ _ h => nomatch h.1) (Or.inl ⟨by rfl, fun w _ => by go_simp⟩) hHeld ?_
                  simp only [Act.put, List.getElem_toArray, List.getElem_cons_zero, List.getElem_cons_succ, List.setIfInBounds_toArray, List.set_cons_zero, List.set_cons_succ]
                  refine wpAnyH_take (i := 13) (v := .int .i64 1) rfl (by kernel_rfl) (by kernel_rfl) (by kernel_rfl) (fun _ _ _ h => nomatch h.1) (Or.inl ⟨by rfl, fun w _ => by go_simp⟩) hHeld ?_
                  simp only [Act.put, List.getElem_toArray, List.getElem_cons_zero, List.getElem_cons_succ, List.setIfInBounds_toArray, List.set_cons_zero, List.set_cons_succ]
                  refine wpAnyH_ready (rs := [15]) (by kernel_rfl) (by simp) (AllReadyH.cons rfl (fun K hK => ?_) AllReadyH.nil)
                  rw [if_pos (by rfl)]
                  refine wp_storeA 26 (.tmp 11) (.tmp 53) rfl _ (bvA zero32) rfl rfl 26 _ HA57.out HZS.out HZO.out (bvA_one _) ?_
                  intro w68 hn hg
                  have HB58 := Lib.hid (grown_below HB57.out hg HGA.out HB57.out.size)
                  clear hn hg
                  refine hK.out _ _ (HS0.out _ HB58.out) (fun hHeld => ?_)
                  clear hK K
                  try simp only [Act.put, List.getElem_toArray, List.getElem_cons_zero, List.getElem_cons_succ, List.setIfInBounds_toArray, List.set_cons_zero, List.set_cons_succ]
                  refine wpAnyH_take (i := 16) (v := .int .i64 1) rfl (by kernel_rfl) (by kernel_rfl) (by kernel_rfl) (fun _ _ _ h => nomatch h.1) (Or.inl ⟨by rfl, fun w _ => by go_simp⟩) hHeld ?_
                  simp only [Act.put, List.getElem_toArray, List.getElem_cons_zero, List.getElem_cons_succ, List.setIfInBounds_toArray, List.set_cons_zero, List.set_cons_succ]
                  refine wpAnyH_done (by kernel_rfl) ?_ _
                  exact ⟨rfl, _, _, _, _, _, _, _, _, _, _, _, _, _, _, _, _, _, _, _, _, _, _, _, _, _, _, _, _, _, _, _, _, _, _, _, _, _, rfl, HB58.out⟩
                exact AllReadyH.nil
              exact AllReadyH.nil
            refine AllReadyH.cons rfl (fun K hK => ?_) ?_
            · rw [if_pos (by rfl)]
              refine wp_allocA rfl ?_
              intro w69 gA hn hge hb
              have HNA59 : Hid (Value.ownBlock v51 ≠ some gA) := fun h => by have h1 := HO51.out.lt _ h; omega
              have HGA := Lib.hid (Nat.le_trans HB51.out.size hge)
              have HB59 := Lib.hid (HB51.out.trans (hb.mono HB51.out.size))
              have HE59 := Lib.hid (HE51.out.below hb HE51.out.lt)
              have HO59 := Lib.hid (HO51.out.below hb)
              have HA59 := Lib.hid hn
              clear hn hb hge
              refine hK.out _ _ (HS0.out _ HB59.out) (fun hHeld => ?_)
              clear hK K
              try simp only [Act.put, List.getElem_toArray, List.getElem_cons_zero, List.getElem_cons_succ, List.setIfInBounds_toArray, List.set_cons_zero, List.set_cons_succ]
              refine wpAnyH_ready (rs := [9]) (by kernel_rfl) (by simp) ?_
              refine AllReadyH.cons rfl (fun K hK => ?_) ?_
              · rw [if_pos (by rfl)]
                refine wp_appD (.tmp 48) (.tmp 50) rfl wd.heap.size v51 P [d] (some ⟨gE, 0, none⟩) 1 rfl HO59.out rfl (RdD.one HE59.out HD.out) (fun h => by cases h) HLB.out HB59.out.size ?_
                intro v60 w70 ho hg
                have HB60 := Lib.hid (HB59.out.trans (hg.below (fun k hk => HO59.out.base k hk) HB59.out.size))
                have HE60 := Lib.hid (BB.grownBy HE59.out hg.grown HNE51.out)
                have HNE60 := Lib.hid (hg.ne HNE51.out HE59.out.lt)
                have HA60 := Lib.hid (BB.grownBy HA59.out hg.grown HNA59.out)
                have HNA60 := Lib.hid (hg.ne HNA59.out HA59.out.lt)
                rw [HMM.out] at ho
                have HO60 := Lib.hid ho
                obtain ⟨a9, c9, rfl, _, _⟩ := ho.form
                clear hg
                refine hK.out _ _ (HS0.out _ HB60.out) (fun hHeld => ?_)
                clear hK K
                try simp only [Act.put, List.getElem_toArray, List.getElem_cons_zero, List.getElem_cons_succ, List.setIfInBounds_toArray, List.set_cons_zero, List.set_cons_succ]
                refine wpAnyH_ready (rs := [10]) (by kernel_rfl) (by simp) ?_
                refine AllReadyH.cons rfl (fun K hK => ?_) ?_
                · go_simp
                  refine (CB.out _ a9 c9).mono ?_
                  rintro e w71 ⟨rfl, hb⟩
                  try go_wp2_with fail
                  have HB61 := Lib.hid (HB60.out.trans (hb.mono HB60.out.size))
                  have HA61 := Lib.hid (HA60.out.below hb HA60.out.lt)
                  clear hb
                  refine hK.out _ _ (HS0.out _ HB61.out) (fun hHeld => ?_)
                  clear hK K
                  try simp only [Act.put, List.getElem_toArray, List.getElem_cons_zero, List.getElem_cons_succ, List.setIfInBounds_toArray, List.set_cons_zero, List.set_cons_succ]
                  refine wpAnyH_take (i := 11) (v := .tuple #[.agg (bvA zero32), .int .i64 1]) rfl (by kernel_rfl) (by kernel_rfl) (by kernel_rfl) (fun _ _ _ h => nomatch h.1) (Or.inl ⟨by rfl, fun w _ => by go_simp⟩) hHeld ?_
                  simp only [Act.put, List.getElem_toArray, List.getElem_cons_zero, List.getElem_cons_succ, List.setIfInBounds_toArray, List.set_cons_zero, List.set_cons_succ]
                  refine wpAnyH_take (i := 12) (v := .agg (bvA zero32)) rfl (by kernel_rfl) (by kernel_rfl) (by kernel_rfl) (fun _ _ _ h => nomatch h.1) (Or.inl ⟨by rfl, fun w _ => by go_simp⟩) hHeld ?_
                  simp only [Act.put, List.getElem_toArray, List.getElem_cons_zero, List.getElem_cons_succ, List.setIfInBounds_toArray, List.set_cons_zero, List.set_cons_succ]
                  refine wpAnyH_take (i := 13) (v := .int .i64 1) rfl (by kernel_rfl) (by kernel_rfl) (by kernel_rfl) (fun _ _ _ h => nomatch h.1) (Or.inl ⟨by rfl, fun w _ => by go_simp⟩) hHeld ?_
                  simp only [Act.put, List.getElem_toArray, List.getElem_cons_zero, List.getElem_cons_succ, List.setIfInBounds_toArray, List.set_cons_zero, List.set_cons_succ]
                  refine wpAnyH_ready (rs := [15]) (by kernel_rfl) (by simp) (AllReadyH.cons rfl (fun K hK => ?_) AllReadyH.nil)
                  rw [if_pos (by rfl)]
                  refine wp_storeA 26 (.tmp 11) (.tmp 53) rfl _ (bvA zero32) rfl rfl 26 _ HA61.out HZS.out HZO.out (bvA_one _) ?_
                  intro w72 hn hg
                  have HB62 := Lib.hid (grown_below HB61.out hg HGA.out HB61.out.size)
                  clear hn hg
                  refine hK.out _ _ (HS0.out _ HB62.out) (fun hHeld => ?_)
                  clear hK K
                  try simp only [Act.put, List.getElem_toArray, List.getElem_cons_zero, List.getElem_cons_succ, List.setIfInBounds_toArray, List.set_cons_zero, List.set_cons_succ]
                  refine wpAnyH_take (i := 16) (v := .int .i64 1) rfl (by kernel_rfl) (by kernel_rfl) (by kernel_rfl) (fun _ _ _ h => nomatch h.1) (Or.inl ⟨by rfl, fun w _ => by go_simp⟩) hHeld ?_
                  simp only [Act.put, List.getElem_toArray, List.getElem_cons_zero, List.getElem_cons_succ, List.setIfInBounds_toArray, List.set_cons_zero, List.set_cons_succ]
                  refine wpAnyH_done (by kernel_rfl) ?_ _
                  exact ⟨rfl, _, _, _, _, _, _, _, _, _, _, _, _, _, _, _, _, _, _, _, _, _, _, _, _, _, _, _, _, _, _, _, _, _, _, _, _, _, rfl, HB62.out⟩
                exact AllReadyH.nil
              exact AllReadyH.nil
            exact AllReadyH.nil
          refine AllReadyH.cons rfl (fun K hK => ?_) ?_
          · rw [if_pos (by rfl)]
            refine wp_allocA rfl ?_
            intro w73 gA hn hge hb
            have HNA63 : Hid (Value.ownBlock v50 ≠ some gA) := fun h => by have h1 := HO50.out.lt _ h; omega
            have HGA := Lib.hid (Nat.le_trans HB50.out.size hge)
            have HB63 := Lib.hid (HB50.out.trans (hb.mono HB50.out.size))
            have HE63 := Lib.hid (HE50.out.below hb HE50.out.lt)
            have HO63 := Lib.hid (HO50.out.below hb)
            have HA63 := Lib.hid hn
            clear hn hb hge
            refine hK.out _ _ (HS0.out _ HB63.out) (fun hHeld => ?_)
            clear hK K
            try simp only [Act.put, List.getElem_toArray, List.getElem_cons_zero, List.getElem_cons_succ, List.setIfInBounds_toArray, List.set_cons_zero, List.set_cons_succ]
            refine wpAnyH_ready (rs := [6]) (by kernel_rfl) (by simp) ?_
            refine AllReadyH.cons rfl (fun K hK => ?_) ?_
            · rw [if_pos (by rfl)]
              refine wp_appD (.tmp 46) (.tmp 47) rfl wd.heap.size v50 [] P ap cp rfl HO63.out rfl ((HPd.out.below HB63.out).mono HB63.out.size) HQ3.out HLA.out HB63.out.size ?_
              intro v64 w74 ho hg
              have HB64 := Lib.hid (HB63.out.trans (hg.below (fun k hk => HO63.out.base k hk) HB63.out.size))
              have HE64 := Lib.hid (BB.grownBy HE63.out hg.grown HNE50.out)
              have HNE64 := Lib.hid (hg.ne HNE50.out HE63.out.lt)
              have HA64 := Lib.hid (BB.grownBy HA63.out hg.grown HNA63.out)
              have HNA64 := Lib.hid (hg.ne HNA63.out HA63.out.lt)
              have HO64 := Lib.hid ho
              clear ho hg
              refine hK.out _ _ (HS0.out _ HB64.out) (fun hHeld => ?_)
              clear hK K
              try simp only [Act.put, List.getElem_toArray, List.getElem_cons_zero, List.getElem_cons_succ, List.setIfInBounds_toArray, List.set_cons_zero, List.set_cons_succ]
              refine wpAnyH_ready (rs := [9]) (by kernel_rfl) (by simp) ?_
              refine AllReadyH.cons rfl (fun K hK => ?_) ?_
              · rw [if_pos (by rfl)]
                refine wp_appD (.tmp 48) (.tmp 50) rfl wd.heap.size v64 P [d] (some ⟨gE, 0, none⟩) 1 rfl HO64.out rfl (RdD.one HE64.out HD.out) (fun h => by cases h) HLB.out HB64.out.size ?_
                intro v65 w75 ho hg
                have HB65 := Lib.hid (HB64.out.trans (hg.below (fun k hk => HO64.out.base k hk) HB64.out.size))
                have HE65 := Lib.hid (BB.grownBy HE64.out hg.grown HNE64.out)
                have HNE65 := Lib.hid (hg.ne HNE64.out HE64.out.lt)
                have HA65 := Lib.hid (BB.grownBy HA64.out hg.grown HNA64.out)
                have HNA65 := Lib.hid (hg.ne HNA64.out HA64.out.lt)
                rw [HMM.out] at ho
                have HO65 := Lib.hid ho
                obtain ⟨a9, c9, rfl, _, _⟩ := ho.form
                clear hg
                refine hK.out _ _ (HS0.out _ HB65.out) (fun hHeld => ?_)
                clear hK K
                try simp only [Act.put, List.getElem_toArray, List.getElem_cons_zero, List.getElem_cons_succ, List.setIfInBounds_toArray, List.set_cons_zero, List.set_cons_succ]
                refine wpAnyH_ready (rs := [10]) (by kernel_rfl) (by simp) ?_
                refine AllReadyH.cons rfl (fun K hK => ?_) ?_
                · go_simp
                  refine (CB.out _ a9 c9).mono ?_
                  rintro e w76 ⟨rfl, hb⟩
                  try go_wp2_with fail
                  have HB66 := Lib.hid (HB65.out.trans (hb.mono HB65.out.size))
                  have HA66 := Lib.hid (HA65.out.below hb HA65.out.lt)
                  clear hb
                  refine hK.out _ _ (HS0.out _ HB66.out) (fun hHeld => ?_)
                  clear hK K
                  try simp only [Act.put, List.getElem_toArray, List.getElem_cons_zero, List.getElem_cons_succ, List.setIfInBounds_toArray, List.set_cons_zero, List.set_cons_succ]
                  refine wpAnyH_take (i := 11) (v := .tuple #[.agg (bvA zero32), .int .i64 1]) rfl (by kernel_rfl) (by kernel_rfl) (by kernel_rfl) (fun _ _ _ h => nomatch h.1) (Or.inl ⟨by rfl, fun w _ => by go_simp⟩) hHeld ?_
                  simp only [Act.put, List.getElem_toArray, List.getElem_cons_zero, List.getElem_cons_succ, List.setIfInBounds_toArray, List.set_cons_zero, List.set_cons_succ]
                  refine wpAnyH_take (i := 12) (v := .agg (bvA zero32)) rfl (by kernel_rfl) (by kernel_rfl) (by kernel_rfl) (fun _ _ _ h => nomatch h.1) (Or.inl ⟨by rfl, fun w _ => by go_simp⟩) hHeld ?_
                  simp only [Act.put, List.getElem_toArray, List.getElem_cons_zero, List.getElem_cons_succ, List.setIfInBounds_toArray, List.set_cons_zero, List.set_cons_succ]
                  refine wpAnyH_take (i := 13) (v := .int .i64 1) rfl (by kernel_rfl) (by kernel_rfl) (by kernel_rfl) (fun _ _ _ h => nomatch h.1) (Or.inl ⟨by rfl, fun w _ => by go_simp⟩) hHeld ?_
                  simp only [Act.put, List.getElem_toArray, List.getElem_cons_zero, List.getElem_cons_succ, List.setIfInBounds_toArray, List.set_cons_zero, List.set_cons_succ]
                  refine wpAnyH_ready (rs := [15]) (by kernel_rfl) (by simp) (AllReadyH.cons rfl (fun K hK => ?_) AllReadyH.nil)
                  rw [if_pos (by rfl)]
                  refine wp_storeA 26 (.tmp 11) (.tmp 53) rfl _ (bvA zero32) rfl rfl 26 _ HA66.out HZS.out HZO.out (bvA_one _) ?_
                  intro w77 hn hg
                  have HB67 := Lib.hid (grown_below HB66.out hg HGA.out HB66.out.size)
                  clear hn hg
                  refine hK.out _ _ (HS0.out _ HB67.out) (fun hHeld => ?_)
                  clear hK K
                  try simp only [Act.put, List.getElem_toArray, List.getElem_cons_zero, List.getElem_cons_succ, List.setIfInBounds_toArray, List.set_cons_zero, List.set_cons_succ]
                  refine wpAnyH_take (i := 16) (v := .int .i64 1) rfl (by kernel_rfl) (by kernel_rfl) (by kernel_rfl) (fun _ _ _ h => nomatch h.1) (Or.inl ⟨by rfl, fun w _ => by go_simp⟩) hHeld ?_
                  simp only [Act.put, List.getElem_toArray, List.getElem_cons_zero, List.getElem_cons_succ, List.setIfInBounds_toArray, List.set_cons_zero, List.set_cons_succ]
                  refine wpAnyH_done (by kernel_rfl) ?_ _
                  exact ⟨rfl, _, _, _, _, _, _, _, _, _, _, _, _, _, _, _, _, _, _, _, _, _, _, _, _, _, _, _, _, _, _, _, _, _, _, _, _, _, rfl, HB67.out⟩
                exact AllReadyH.nil
              exact AllReadyH.nil
            exact AllReadyH.nil
          exact AllReadyH.nil
        refine AllReadyH.cons rfl (fun K hK => ?_) ?_
        · rw [if_pos (by rfl)]
          refine wp_allocA rfl ?_
          intro w78 gA hn hge hb
          have HGA := Lib.hid (Nat.le_trans HB49.out.size hge)
          have HB68 := Lib.hid (HB49.out.trans (hb.mono HB49.out.size))
          have HE68 := Lib.hid (HE49.out.below hb HE49.out.lt)
          have HA68 := Lib.hid hn
          clear hn hb hge
          refine hK.out _ _ (HS0.out _ HB68.out) (fun hHeld => ?_)
          clear hK K
          try simp only [Act.put, List.getElem_toArray, List.getElem_cons_zero, List.getElem_cons_succ, List.setIfInBounds_toArray, List.set_cons_zero, List.set_cons_succ]
          refine wpAnyH_ready (rs := [4]) (by kernel_rfl) (by simp) ?_
          refine AllReadyH.cons rfl (fun K hK => ?_) ?_
          · rw [if_pos (by rfl)]
            refine wp_nilD rfl wd.heap.size HB68.out.size ?_
            intro w79 v69 hn hgk hb
            have HNE69 : Hid (Value.ownBlock v69 ≠ some gE) := fun h => by have h1 := hgk _ h; have h2 := HE68.out.lt; omega
            have HNA69 : Hid (Value.ownBlock v69 ≠ some gA) := fun h => by have h1 := hgk _ h; have h2 := HA68.out.lt; omega
            have HB69 := Lib.hid (HB68.out.trans (hb.mono HB68.out.size))
            have HE69 := Lib.hid (HE68.out.below hb HE68.out.lt)
            have HA69 := Lib.hid (HA68.out.below hb HA68.out.lt)
            have HO69 := Lib.hid hn
            clear hn hb hgk
            refine hK.out _ _ (HS0.out _ HB69.out) (fun hHeld => ?_)
            clear hK K
            try simp only [Act.put, List.getElem_toArray, List.getElem_cons_zero, List.getElem_cons_succ, List.setIfInBounds_toArray, List.set_cons_zero, List.set_cons_succ]
            refine wpAnyH_ready (rs := [6]) (by kernel_rfl) (by simp) ?_
            refine AllReadyH.cons rfl (fun K hK => ?_) ?_
            · rw [if_pos (by rfl)]
              refine wp_appD (.tmp 46) (.tmp 47) rfl wd.heap.size v69 [] P ap cp rfl HO69.out rfl ((HPd.out.below HB69.out).mono HB69.out.size) HQ3.out HLA.out HB69.out.size ?_
              intro v70 w80 ho hg
              have HB70 := Lib.hid (HB69.out.trans (hg.below (fun k hk => HO69.out.base k hk) HB69.out.size))
              have HE70 := Lib.hid (BB.grownBy HE69.out hg.grown HNE69.out)
              have HNE70 := Lib.hid (hg.ne HNE69.out HE69.out.lt)
              have HA70 := Lib.hid (BB.grownBy HA69.out hg.grown HNA69.out)
              have HNA70 := Lib.hid (hg.ne HNA69.out HA69.out.lt)
              have HO70 := Lib.hid ho
              clear ho hg
              refine hK.out _ _ (HS0.out _ HB70.out) (fun hHeld => ?_)
              clear hK K
              try simp only [Act.put, List.getElem_toArray, List.getElem_cons_zero, List.getElem_cons_succ, List.setIfInBounds_toArray, List.set_cons_zero, List.set_cons_succ]
              refine wpAnyH_ready (rs := [9]) (by kernel_rfl) (by simp) ?_
              refine AllReadyH.cons rfl (fun K hK => ?_) ?_
              · rw [if_pos (by rfl)]
                refine wp_appD (.tmp 48) (.tmp 50) rfl wd.heap.size v70 P [d] (some ⟨gE, 0, none⟩) 1 rfl HO70.out rfl (RdD.one HE70.out HD.out) (fun h => by cases h) HLB.out HB70.out.size ?_
                intro v71 w81 ho hg
                have HB71 := Lib.hid (HB70.out.trans (hg.below (fun k hk => HO70.out.base k hk) HB70.out.size))
                have HE71 := Lib.hid (BB.grownBy HE70.out hg.grown HNE70.out)
                have HNE71 := Lib.hid (hg.ne HNE70.out HE70.out.lt)
                have HA71 := Lib.hid (BB.grownBy HA70.out hg.grown HNA70.out)
                have HNA71 := Lib.hid (hg.ne HNA70.out HA70.out.lt)
                rw [HMM.out] at ho
                have HO71 := Lib.hid ho
                obtain ⟨a9, c9, rfl, _, _⟩ := ho.form
                clear hg
                refine hK.out _ _ (HS0.out _ HB71.out) (fun hHeld => ?_)
                clear hK K
                try simp only [Act.put, List.getElem_toArray, List.getElem_cons_zero, List.getElem_cons_succ, List.setIfInBounds_toArray, List.set_cons_zero, List.set_cons_succ]
                refine wpAnyH_ready (rs := [10]) (by kernel_rfl) (by simp) ?_
                refine AllReadyH.cons rfl (fun K hK => ?_) ?_
                · go_simp
                  refine (CB.out _ a9 c9).mono ?_
                  rintro e w82 ⟨rfl, hb⟩
                  try go_wp2_with fail
                  have HB72 := Lib.hid (HB71.out.trans (hb.mono HB71.out.size))
                  have HA72 := Lib.hid (HA71.out.below hb HA71.out.lt)
                  clear hb
                  refine hK.out _ _ (HS0.out _ HB72.out) (fun hHeld => ?_)
                  clear hK K
                  try simp only [Act.put, List.getElem_toArray, List.getElem_cons_zero, List.getElem_cons_succ, List.setIfInBounds_toArray, List.set_cons_zero, List.set_cons_succ]
                  refine wpAnyH_take (i := 11) (v := .tuple #[.agg (bvA zero32), .int .i64 1]) rfl (by kernel_rfl) (by kernel_rfl) (by kernel_rfl) (fun _ _ _ h => nomatch h.1) (Or.inl ⟨by rfl, fun w _ => by go_simp⟩) hHeld ?_
                  simp only [Act.put, List.getElem_toArray, List.getElem_cons_zero, List.getElem_cons_succ, List.setIfInBounds_toArray, List.set_cons_zero, List.set_cons_succ]
                  refine wpAnyH_take (i := 12) (v := .agg (bvA zero32)) rfl (by kernel_rfl) (by kernel_rfl) (by kernel_rfl) (fun _ _ _ h => nomatch h.1) (Or.inl ⟨by rfl, fun w _ => by go_simp⟩) hHeld ?_
                  simp only [Act.put, List.getElem_toArray, List.getElem_cons_zero, List.getElem_cons_succ, List.setIfInBounds_toArray, List.set_cons_zero, List.set_cons_succ]
                  refine wpAnyH_take (i := 13) (v := .int .i64 1) rfl (by kernel_rfl) (by kernel_rfl) (by kernel_rfl) (fun _ _ _ h => nomatch h.1) (Or.inl ⟨by rfl, fun w _ => by go_simp⟩) hHeld ?_
                  simp only [Act.put, List.getElem_toArray, List.getElem_cons_zero, List.getElem_cons_succ, List.setIfInBounds_toArray, List.set_cons_zero, List.set_cons_succ]
                  refine wpAnyH_ready (rs := [15]) (by kernel_rfl) (by simp) (AllReadyH.cons rfl (fun K hK => ?_) AllReadyH.nil)
                  rw [if_pos (by rfl)]
                  refine wp_storeA 26 (.tmp 11) (.tmp 53) rfl _ (bvA zero32) rfl rfl 26 _ HA72.out HZS.out HZO.out (bvA_one _) ?_
                  intro w83 hn hg
                  have HB73 := Lib.hid (grown_below HB72.out hg HGA.out HB72.out.size)
                  clear hn hg
                  refine hK.out _ _ (HS0.out _ HB73.out) (fun hHeld => ?_)
                  clear hK K
                  try simp only [Act.put, List.getElem_toArray, List.getElem_cons_zero, List.getElem_cons_succ, List.setIfInBounds_toArray, List.set_cons_zero, List.set_cons_succ]
                  refine wpAnyH_take (i := 16) (v := .int .i64 1) rfl (by kernel_rfl) (by kernel_rfl) (by kernel_rfl) (fun _ _ _ h => nomatch h.1) (Or.inl ⟨by rfl, fun w _ => by go_simp⟩) hHeld ?_
                  simp only [Act.put, List.getElem_toArray, List.getElem_cons_zero, List.getElem_cons_succ, List.setIfInBounds_toArray, List.set_cons_zero, List.set_cons_succ]
                  refine wpAnyH_done (by kernel_rfl) ?_ _
                  exact ⟨rfl, _, _, _, _, _, _, _, _, _, _, _, _, _, _, _, _, _, _, _, _, _, _, _, _, _, _, _, _, _, _, _, _, _, _, _, _, _, rfl, HB73.out⟩
                exact AllReadyH.nil
              exact AllReadyH.nil
            exact AllReadyH.nil
          exact AllReadyH.nil
        exact AllReadyH.nil
      refine AllReadyH.cons rfl (fun K hK => ?_) ?_
      · rw [if_pos (by rfl)]
        refine wp_allocA rfl ?_
        intro w84 gA hn hge hb
        have HGA := Lib.hid (Nat.le_trans HB0.out.size hge)
        have HB74 := Lib.hid (HB0.out.trans (hb.mono HB0.out.size))
        have HA74 := Lib.hid hn
        clear hn hb hge
        refine hK.out _ _ (HS0.out _ HB74.out) (fun hHeld => ?_)
        clear hK K
        try simp only [Act.put, List.getElem_toArray, List.getElem_cons_zero, List.getElem_cons_succ, List.setIfInBounds_toArray, List.set_cons_zero, List.set_cons_succ]
        refine wpAnyH_ready (rs := [4, 8]) (by kernel_rfl) (by simp) ?_
        refine AllReadyH.cons rfl (fun K hK => ?_) ?_
        · rw [if_pos (by rfl)]
          refine wp_nilD rfl wd.heap.size HB74.out.size ?_
          intro w85 v75 hn hgk hb
          have HNA75 : Hid (Value.ownBlock v75 ≠ some gA) := fun h => by have h1 := hgk _ h; have h2 := HA74.out.lt; omega
          have HB75 := Lib.hid (HB74.out.trans (hb.mono HB74.out.size))
          have HA75 := Lib.hid (HA74.out.below hb HA74.out.lt)
          have HO75 := Lib.hid hn
          clear hn hb hgk
          refine hK.out _ _ (HS0.out _ HB75.out) (fun hHeld => ?_)
          clear hK K
          try simp only [Act.put, List.getElem_toArray, List.getElem_cons_zero, List.getElem_cons_succ, List.setIfInBounds_toArray, List.set_cons_zero, List.set_cons_succ]
          refine wpAnyH_ready (rs := [6, 8]) (by kernel_rfl) (by simp) ?_
          refine AllReadyH.cons rfl (fun K hK => ?_) ?_
          · rw [if_pos (by rfl)]
            refine wp_appD (.tmp 46) (.tmp 47) rfl wd.heap.size v75 [] P ap cp rfl HO75.out rfl ((HPd.out.below HB75.out).mono HB75.out.size) HQ3.out HLA.out HB75.out.size ?_
            intro v76 w86 ho hg
            have HB76 := Lib.hid (HB75.out.trans (hg.below (fun k hk => HO75.out.base k hk) HB75.out.size))
            have HA76 := Lib.hid (BB.grownBy HA75.out hg.grown HNA75.out)
            have HNA76 := Lib.hid (hg.ne HNA75.out HA75.out.lt)
            have HO76 := Lib.hid ho
            clear ho hg
            refine hK.out _ _ (HS0.out _ HB76.out) (fun hHeld => ?_)
            clear hK K
            try simp only [Act.put, List.getElem_toArray, List.getElem_cons_zero, List.getElem_cons_succ, List.setIfInBounds_toArray, List.set_cons_zero, List.set_cons_succ]
            refine wpAnyH_ready (rs := [8]) (by kernel_rfl) (by simp) ?_
            refine AllReadyH.cons rfl (fun K hK => ?_) ?_
            · rw [if_pos (by rfl)]
              refine wp_build1A (.tmp 49) rfl d HD.out rfl ?_
              intro w87 gE hn hge hb
              have HNE77 : Hid (Value.ownBlock v76 ≠ some gE) := fun h => by have h1 := HO76.out.lt _ h; omega
              have HB77 := Lib.hid (HB76.out.trans (hb.mono HB76.out.size))
              have HA77 := Lib.hid (HA76.out.below hb HA76.out.lt)
              have HO77 := Lib.hid (HO76.out.below hb)
              have HE77 := Lib.hid hn
              clear hn hb hge
              refine hK.out _ _ (HS0.out _ HB77.out) (fun hHeld => ?_)
              clear hK K
              try simp only [Act.put, List.getElem_toArray, List.getElem_cons_zero, List.getElem_cons_succ, List.setIfInBounds_toArray, List.set_cons_zero, List.set_cons_succ]
              refine wpAnyH_ready (rs := [9]) (by kernel_rfl) (by simp) ?_
              refine AllReadyH.cons rfl (fun K hK => ?_) ?_
              · rw [if_pos (by rfl)]
                refine wp_appD (.tmp 48) (.tmp 50) rfl wd.heap.size v76 P [d] (some ⟨gE, 0, none⟩) 1 rfl HO77.out rfl (RdD.one HE77.out HD.out) (fun h => by cases h) HLB.out HB77.out.size ?_
                intro v78 w88 ho hg
                have HB78 := Lib.hid (HB77.out.trans (hg.below (fun k hk => HO77.out.base k hk) HB77.out.size))
                have HE78 := Lib.hid (BB.grownBy HE77.out hg.grown HNE77.out)
                have HNE78 := Lib.hid (hg.ne HNE77.out HE77.out.lt)
                have HA78 := Lib.hid (BB.grownBy HA77.out hg.grown HNA76.out)
                have HNA78 := Lib.hid (hg.ne HNA76.out HA77.out.lt)
                rw [HMM.out] at ho
                have HO78 := Lib.hid ho
                obtain ⟨a9, c9, rfl, _, _⟩ := ho.form
                clear hg
                refine hK.out _ _ (HS0.out _ HB78.out) (fun hHeld => ?_)
                clear hK K
                try simp only [Act.put, List.getElem_toArray, List.getElem_cons_zero, List.getElem_cons_succ, List.setIfInBounds_toArray, List.set_cons_zero, List.set_cons_succ]
                refine wpAnyH_ready (rs := [10]) (by kernel_rfl) (by simp) ?_
                refine AllReadyH.cons rfl (fun K hK => ?_) ?_
                · go_simp
                  refine (CB.out _ a9 c9).mono ?_
                  rintro e w89 ⟨rfl, hb⟩
                  try go_wp2_with fail
                  have HB79 := Lib.hid (HB78.out.trans (hb.mono HB78.out.size))
                  have HA79 := Lib.hid (HA78.out.below hb HA78.out.lt)
                  clear hb
                  refine hK.out _ _ (HS0.out _ HB79.out) (fun hHeld => ?_)
                  clear hK K
                  try simp only [Act.put, List.getElem_toArray, List.getElem_cons_zero, List.getElem_cons_succ, List.setIfInBounds_toArray, List.set_cons_zero, List.set_cons_succ]
                  refine wpAnyH_take (i := 11) (v := .tuple #[.agg (bvA zero32), .int .i64 1]) rfl (by kernel_rfl) (by kernel_rfl) (by kernel_rfl) (fun _ _ _ h => nomatch h.1) (Or.inl ⟨by rfl, fun w _ => by go_simp⟩) hHeld ?_
                  simp only [Act.put, List.getElem_toArray, List.getElem_cons_zero, List.getElem_cons_succ, List.setIfInBounds_toArray, List.set_cons_zero, List.set_cons_succ]
                  refine wpAnyH_take (i := 12) (v := .agg (bvA zero32)) rfl (by kernel_rfl) (by kernel_rfl) (by kernel_rfl) (fun _ _ _ h => nomatch h.1) (Or.inl ⟨by rfl, fun w _ => by go_simp⟩) hHeld ?_
                  simp only [Act.put, List.getElem_toArray, List.getElem_cons_zero, List.getElem_cons_succ, List.setIfInBounds_toArray, List.set_cons_zero, List.set_cons_succ]
                  refine wpAnyH_take (i := 13) (v := .int .i64 1) rfl (by kernel_rfl) (by kernel_rfl) (by kernel_rfl) (fun _ _ _ h => nomatch h.1) (Or.inl ⟨by rfl, fun w _ => by go_simp⟩) hHeld ?_
                  simp only [Act.put, List.getElem_toArray, List.getElem_cons_zero, List.getElem_cons_succ, List.setIfInBounds_toArray, List.set_cons_zero, List.set_cons_succ]
                  refine wpAnyH_ready (rs := [15]) (by kernel_rfl) (by simp) (AllReadyH.cons rfl (fun K hK => ?_) AllReadyH.nil)
                  rw [if_pos (by rfl)]
                  refine wp_storeA 26 (.tmp 11) (.tmp 53) rfl _ (bvA zero32) rfl rfl 26 _ HA79.out HZS.out HZO.out (bvA_one _) ?_
                  intro w90 hn hg
                  have HB80 := Lib.hid (grown_below HB79.out hg HGA.out HB79.out.size)
                  clear hn hg
                  refine hK.out _ _ (HS0.out _ HB80.out) (fun hHeld => ?_)
                  clear hK K
                  try simp only [Act.put, List.getElem_toArray, List.getElem_cons_zero, List.getElem_cons_succ, List.setIfInBounds_toArray, List.set_cons_zero, List.set_cons_succ]
                  refine wpAnyH_take (i := 16) (v := .int .i64 1) rfl (by kernel_rfl) (by kernel_rfl) (by kernel_rfl) (fun _ _ _ h => nomatch h.1) (Or.inl ⟨by rfl, fun w _ => by go_simp⟩) hHeld ?_
                  simp only [Act.put, List.getElem_toArray, List.getElem_cons_zero, List.getElem_cons_succ, List.setIfInBounds_toArray, List.set_cons_zero, List.set_cons_succ]
                  refine wpAnyH_done (by kernel_rfl) ?_ _
                  exact ⟨rfl, _, _, _, _, _, _, _, _, _, _, _, _, _, _, _, _, _, _, _, _, _, _, _, _, _, _, _, _, _, _, _, _, _, _, _, _, _, rfl, HB80.out⟩
                exact AllReadyH.nil
              exact AllReadyH.nil
            exact AllReadyH.nil
          refine AllReadyH.cons rfl (fun K hK => ?_) ?_
          · rw [if_pos (by rfl)]
            refine wp_build1A (.tmp 49) rfl d HD.out rfl ?_
            intro w91 gE hn hge hb
            have HNE81 : Hid (Value.ownBlock v75 ≠ some gE) := fun h => by have h1 := HO75.out.lt _ h; omega
            have HB81 := Lib.hid (HB75.out.trans (hb.mono HB75.out.size))
            have HA81 := Lib.hid (HA75.out.below hb HA75.out.lt)
            have HO81 := Lib.hid (HO75.out.below hb)
            have HE81 := Lib.hid hn
            clear hn hb hge
            refine hK.out _ _ (HS0.out _ HB81.out) (fun hHeld => ?_)
            clear hK K
            try simp only [Act.put, List.getElem_toArray, List.getElem_cons_zero, List.getElem_cons_succ, List.setIfInBounds_toArray, List.set_cons_zero, List.set_cons_succ]
            refine wpAnyH_ready (rs := [6]) (by kernel_rfl) (by simp) ?_
            refine AllReadyH.cons rfl (fun K hK => ?_) ?_
            · rw [if_pos (by rfl)]
              refine wp_appD (.tmp 46) (.tmp 47) rfl wd.heap.size v75 [] P ap cp rfl HO81.out rfl ((HPd.out.below HB81.out).mono HB81.out.size) HQ3.out HLA.out HB81.out.size ?_
              intro v82 w92 ho hg
              have HB82 := Lib.hid (HB81.out.trans (hg.below (fun k hk => HO81.out.base k hk) HB81.out.size))
              have HE82 := Lib.hid (BB.grownBy HE81.out hg.grown HNE81.out)
              have HNE82 := Lib.hid (hg.ne HNE81.out HE81.out.lt)
              have HA82 := Lib.hid (BB.grownBy HA81.out hg.grown HNA75.out)
              have HNA82 := Lib.hid (hg.ne HNA75.out HA81.out.lt)
              have HO82 := Lib.hid ho
              clear ho hg
              refine hK.out _ _ (HS0.out _ HB82.out) (fun hHeld => ?_)
              clear hK K
              try simp only [Act.put, List.getElem_toArray, List.getElem_cons_zero, List.getElem_cons_succ, List.setIfInBounds_toArray, List.set_cons_zero, List.set_cons_succ]
              refine wpAnyH_ready (rs := [9]) (by kernel_rfl) (by simp) ?_
              refine AllReadyH.cons rfl (fun K hK => ?_) ?_
              · rw [if_pos (by rfl)]
                refine wp_appD (.tmp 48) (.tmp 50) rfl wd.heap.size v82 P [d] (some ⟨gE, 0, none⟩) 1 rfl HO82.out rfl (RdD.one HE82.out HD.out) (fun h => by cases h) HLB.out HB82.out.size ?_
                intro v83 w93 ho hg
                have HB83 := Lib.hid (HB82.out.trans (hg.below (fun k hk => HO82.out.base k hk) HB82.out.size))
                have HE83 := Lib.hid (BB.grownBy HE82.out hg.grown HNE82.out)
                have HNE83 := Lib.hid (hg.ne HNE82.out HE82.out.lt)
                have HA83 := Lib.hid (BB.grownBy HA82.out hg.grown HNA82.out)
                have HNA83 := Lib.hid (hg.ne HNA82.out HA82.out.lt)
                rw [HMM.out] at ho
                have HO83 := Lib.hid ho
                obtain ⟨a9, c9, rfl, _, _⟩ := ho.form
                clear hg
                refine hK.out _ _ (HS0.out _ HB83.out) (fun hHeld => ?_)
                clear hK K
                try simp only [Act.put, List.getElem_toArray, List.getElem_cons_zero, List.getElem_cons_succ, List.setIfInBounds_toArray, List.set_cons_zero, List.set_cons_succ]
                refine wpAnyH_ready (rs := [10]) (by kernel_rfl) (by simp) ?_
                refine AllReadyH.cons rfl (fun K hK => ?_) ?_
                · go_simp
                  refine (CB.out _ a9 c9).mono ?_
                  rintro e w94 ⟨rfl, hb⟩
                  try go_wp2_with fail
                  have HB84 := Lib.hid (HB83.out.trans (hb.mono HB83.out.size))
                  have HA84 := Lib.hid (HA83.out.below hb HA83.out.lt)
                  clear hb
                  refine hK.out _ _ (HS0.out _ HB84.out) (fun hHeld => ?_)
                  clear hK K
                  try simp only [Act.put, List.getElem_toArray, List.getElem_cons_zero, List.getElem_cons_succ, List.setIfInBounds_toArray, List.set_cons_zero, List.set_cons_succ]
                  refine wpAnyH_take (i := 11) (v := .tuple #[.agg (bvA zero32), .int .i64 1]) rfl (by kernel_rfl) (by kernel_rfl) (by kernel_rfl) (fun _ _ _ h => nomatch h.1) (Or.inl ⟨by rfl, fun w _ => by go_simp⟩) hHeld ?_
                  simp only [Act.put, List.getElem_toArray, List.getElem_cons_zero, List.getElem_cons_succ, List.setIfInBounds_toArray, List.set_cons_zero, List.set_cons_succ]
                  refine wpAnyH_take (i := 12) (v := .agg (bvA zero32)) rfl (by kernel_rfl) (by kernel_rfl) (by kernel_rfl) (fun _ _ _ h => nomatch h.1) (Or.inl ⟨by rfl, fun w _ => by go_simp⟩) hHeld ?_
                  simp only [Act.put, List.getElem_toArray, List.getElem_cons_zero, List.getElem_cons_succ, List.setIfInBounds_toArray, List.set_cons_zero, List.set_cons_succ]
                  refine wpAnyH_take (i := 13) (v := .int .i64 1) rfl (by kernel_rfl) (by kernel_rfl) (by kernel_rfl) (fun _ _ _ h => nomatch h.1) (Or.inl ⟨by rfl, fun w _ => by go_simp⟩) hHeld ?_
                  simp only [Act.put, List.getElem_toArray, List.getElem_cons_zero, List.getElem_cons_succ, List.setIfInBounds_toArray, List.set_cons_zero, List.set_cons_succ]
                  refine wpAnyH_ready (rs := [15]) (by kernel_rfl) (by simp) (AllReadyH.cons rfl (fun K hK => ?_) AllReadyH.nil)
                  rw [if_pos (by rfl)]
                  refine wp_storeA 26 (.tmp 11) (.tmp 53) rfl _ (bvA zero32) rfl rfl 26 _ HA84.out HZS.out HZO.out (bvA_one _) ?_
                  intro w95 hn hg
                  have HB85 := Lib.hid (grown_below HB84.out hg HGA.out HB84.out.size)
                  clear hn hg
                  refine hK.out _ _ (HS0.out _ HB85.out) (fun hHeld => ?_)
                  clear hK K
                  try simp only [Act.put, List.getElem_toArray, List.getElem_cons_zero, List.getElem_cons_succ, List.setIfInBounds_toArray, List.set_cons_zero, List.set_cons_succ]
                  refine wpAnyH_take (i := 16) (v := .int .i64 1) rfl (by kernel_rfl) (by kernel_rfl) (by kernel_rfl) (fun _ _ _ h => nomatch h.1) (Or.inl ⟨by rfl, fun w _ => by go_simp⟩) hHeld ?_
                  simp only [Act.put, List.getElem_toArray, List.getElem_cons_zero, List.getElem_cons_succ, List.setIfInBounds_toArray, List.set_cons_zero, List.set_cons_succ]
                  refine wpAnyH_done (by kernel_rfl) ?_ _
                  exact ⟨rfl, _, _, _, _, _, _, _, _, _, _, _, _, _, _, _, _, _, _, _, _, _, _, _, _, _, _, _, _, _, _, _, _, _, _, _, _, _, rfl, HB85.out⟩
                exact AllReadyH.nil
              exact AllReadyH.nil
            exact AllReadyH.nil
          exact AllReadyH.nil
        refine AllReadyH.cons rfl (fun K hK => ?_) ?_
        · rw [if_pos (by rfl)]
          refine wp_build1A (.tmp 49) rfl d HD.out rfl ?_
          intro w96 gE hn hge hb
          have HB86 := Lib.hid (HB74.out.trans (hb.mono HB74.out.size))
          have HA86 := Lib.hid (HA74.out.below hb HA74.out.lt)
          have HE86 := Lib.hid hn
          clear hn hb hge
          refine hK.out _ _ (HS0.out _ HB86.out) (fun hHeld => ?_)
          clear hK K
          try simp only [Act.put, List.getElem_toArray, List.getElem_cons_zero, List.getElem_cons_succ, List.setIfInBounds_toArray, List.set_cons_zero, List.set_cons_succ]
          refine wpAnyH_ready (rs := [4]) (by kernel_rfl) (by simp) ?_
          refine AllReadyH.cons rfl (fun K hK => ?_) ?_
          · rw [if_pos (by rfl)]
            refine wp_nilD rfl wd.heap.size HB86.out.size ?_
            intro w97 v87 hn hgk hb
            have HNE87 : Hid (Value.ownBlock v87 ≠ some gE) := fun h => by have h1 := hgk _ h; have h2 := HE86.out.lt; omega
            have HNA87 : Hid (Value.ownBlock v87 ≠ some gA) := fun h => by have h1 := hgk _ h; have h2 := HA86.out.lt; omega
            have HB87 := Lib.hid (HB86.out.trans (hb.mono HB86.out.size))
            have HE87 := Lib.hid (HE86.out.below hb HE86.out.lt)
            have HA87 := Lib.hid (HA86.out.below hb HA86.out.lt)
            have HO87 := Lib.hid hn
            clear hn hb hgk
            refine hK.out _ _ (HS0.out _ HB87.out) (fun hHeld => ?_)
            clear hK K
            try simp only [Act.put, List.getElem_toArray, List.getElem_cons_zero, List.getElem_cons_succ, List.setIfInBounds_toArray, List.set_cons_zero, List.set_cons_succ]
            refine wpAnyH_ready (rs := [6]) (by kernel_rfl) (by simp) ?_
            refine AllReadyH.cons rfl (fun K hK => ?_) ?_
            · rw [if_pos (by rfl)]
              refine wp_appD (.tmp 46) (.tmp 47) rfl wd.heap.size v87 [] P ap cp rfl HO87.out rfl ((HPd.out.below HB87.out).mono HB87.out.size) HQ3.out HLA.out HB87.out.size ?_
              intro v88 w98 ho hg
              have HB88 := Lib.hid (HB87.out.trans (hg.below (fun k hk => HO87.out.base k hk) HB87.out.size))
              have HE88 := Lib.hid (BB.grownBy HE87.out hg.grown HNE87.out)
              have HNE88 := Lib.hid (hg.ne HNE87.out HE87.out.lt)
              have HA88 := Lib.hid (BB.grownBy HA87.out hg.grown HNA87.out)
              have HNA88 := Lib.hid (hg.ne HNA87.out HA87.out.lt)
              have HO88 := Lib.hid ho
              clear ho hg
              refine hK.out _ _ (HS0.out _ HB88.out) (fun hHeld => ?_)
              clear hK K
              try simp only [Act.put, List.getElem_toArray, List.getElem_cons_zero, List.getElem_cons_succ, List.setIfInBounds_toArray, List.set_cons_zero, List.set_cons_succ]
              refine wpAnyH_ready (rs := [9]) (by kernel_rfl) (by simp) ?_
              refine AllReadyH.cons rfl (fun K hK => ?_) ?_
              · rw [if_pos (by rfl)]
                refine wp_appD (.tmp 48) (.tmp 50) rfl wd.heap.size v88 P [d] (some ⟨gE, 0, none⟩) 1 rfl HO88.out rfl (RdD.one HE88.out HD.out) (fun h => by cases h) HLB.out HB88.out.size ?_
                intro v89 w99 ho hg
                have HB89 := Lib.hid (HB88.out.trans (hg.below (fun k hk => HO88.out.base k hk) HB88.out.size))
                have HE89 := Lib.hid (BB.grownBy HE88.out hg.grown HNE88.out)
                have HNE89 := Lib.hid (hg.ne HNE88.out HE88.out.lt)
                have HA89 := Lib.hid (BB.grownBy HA88.out hg.grown HNA88.out)
                have HNA89 := Lib.hid (hg.ne HNA88.out HA88.out.lt)
                rw [HMM.out] at ho
                have HO89 := Lib.hid ho
                obtain ⟨a9, c9, rfl, _, _⟩ := ho.form
                clear hg
                refine hK.out _ _ (HS0.out _ HB89.out) (fun hHeld => ?_)
                clear hK K
                try simp only [Act.put, List.getElem_toArray, List.getElem_cons_zero, List.getElem_cons_succ, List.setIfInBounds_toArray, List.set_cons_zero, List.set_cons_succ]
                refine wpAnyH_ready (rs := [10]) (by kernel_rfl) (by simp) ?_
                refine AllReadyH.cons rfl (fun K hK => ?_) ?_
                · go_simp
                  refine (CB.out _ a9 c9).mono ?_
                  rintro e w100 ⟨rfl, hb⟩
                  try go_wp2_with fail
                  have HB90 := Lib.hid (HB89.out.trans (hb.mono HB89.out.size))
                  have HA90 := Lib.hid (HA89.out.below hb HA89.out.lt)
                  clear hb
                  refine hK.out _ _ (HS0.out _ HB90.out) (fun hHeld => ?_)
                  clear hK K
                  try simp only [Act.put, List.getElem_toArray, List.getElem_cons_zero, List.getElem_cons_succ, List.setIfInBounds_toArray, List.set_cons_zero, List.set_cons_succ]
                  refine wpAnyH_take (i := 11) (v := .tuple #[.agg (bvA zero32), .int .i64 1]) rfl (by kernel_rfl) (by kernel_rfl) (by kernel_rfl) (fun _ _ _ h => nomatch h.1) (Or.inl ⟨by rfl, fun w _ => by go_simp⟩) hHeld ?_
                  simp only [Act.put, List.getElem_toArray, List.getElem_cons_zero, List.getElem_cons_succ, List.setIfInBounds_toArray, List.set_cons_zero, List.set_cons_succ]
                  refine wpAnyH_take (i := 12) (v := .agg (bvA zero32)) rfl (by kernel_rfl) (by kernel_rfl) (by kernel_rfl) (fun _ _ _ h => nomatch h.1) (Or.inl ⟨by rfl, fun w _ => by go_simp⟩) hHeld ?_
                  simp only [Act.put, List.getElem_toArray, List.getElem_cons_zero, List.getElem_cons_succ, List.setIfInBounds_toArray, List.set_cons_zero, List.set_cons_succ]
                  refine wpAnyH_take (i := 13) (v := .int .i64 1) rfl (by kernel_rfl) (by kernel_rfl) (by kernel_rfl) (fun _ _ _ h => nomatch h.1) (Or.inl ⟨by rfl, fun w _ => by go_simp⟩) hHeld ?_
                  simp only [Act.put, List.getElem_toArray, List.getElem_cons_zero, List.getElem_cons_succ, List.setIfInBounds_toArray, List.set_cons_zero, List.set_cons_succ]
                  refine wpAnyH_ready (rs := [15]) (by kernel_rfl) (by simp) (AllReadyH.cons rfl (fun K hK => ?_) AllReadyH.nil)
                  rw [if_pos (by rfl)]
                  refine wp_storeA 26 (.tmp 11) (.tmp 53) rfl _ (bvA zero32) rfl rfl 26 _ HA90.out HZS.out HZO.out (bvA_one _) ?_
                  intro w101 hn hg
                  have HB91 := Lib.hid (grown_below HB90.out hg HGA.out HB90.out.size)
                  clear hn hg
                  refine hK.out _ _ (HS0.out _ HB91.out) (fun hHeld => ?_)
                  clear hK K
                  try simp only [Act.put, List.getElem_toArray, List.getElem_cons_zero, List.getElem_cons_succ, List.setIfInBounds_toArray, List.set_cons_zero, List.set_cons_succ]
                  refine wpAnyH_take (i := 16) (v := .int .i64 1) rfl (by kernel_rfl) (by kernel_rfl) (by kernel_rfl) (fun _ _ _ h => nomatch h.1) (Or.inl ⟨by rfl, fun w _ => by go_simp⟩) hHeld ?_
                  simp only [Act.put, List.getElem_toArray, List.getElem_cons_zero, List.getElem_cons_succ, List.setIfInBounds_toArray, List.set_cons_zero, List.set_cons_succ]
                  refine wpAnyH_done (by kernel_rfl) ?_ _
                  exact ⟨rfl, _, _, _, _, _, _, _, _, _, _, _, _, _, _, _, _, _, _, _, _, _, _, _, _, _, _, _, _, _, _, _, _, _, _, _, _, _, rfl, HB91.out⟩
                exact AllReadyH.nil
              exact AllReadyH.nil
            exact AllReadyH.nil
          exact AllReadyH.nil
        exact AllReadyH.nil
      exact AllReadyH.nil
    · go_wp2_with fail
      go_ret
      exact ⟨rfl, HBw.out⟩
end Go.Proofs.YtndbhmipehpebaaDoor
