/-
  The reference's climb and Climb.
-/
import Derived.Test.YtndbhmipehpebaaDoorRpt
namespace Go.Proofs.YtndbhmipehpebaaDoor
open Go.RowKit
set_option linter.unusedVariables false
set_option linter.unusedSimpArgs false

set_option maxRecDepth 100000 in
set_option maxHeartbeats 1600000 in
theorem refClimbIn : ∀ (N : Nat) (d : List UInt8) (at_ n : Nat) (a : Option Addr) (cap : Nat) (p : List (List UInt8)) (w : World), n < N → d.length = 32 → RdD w.heap.size w a p → p.length ≤ cap → cap ≤ maxLen → at_ < n → n ≤ 1099511627776 → p.length = lenS at_ n →
    Calls Tryd.prog 43 #[.agg (bvA d), .int .i64 at_, .int .i64 n, .slice a p.length cap] w fun e w' => e = .returned (.agg (bvA (climbS d at_ n p))) ∧ Below w.heap.size w w' := by
  intro N
  induction N with
  | zero => intro d at_ n a cap p w hN; omega
  | succ N ih =>
    intro d at_ n a cap p w hN hd hl hcap hc2 hat hmax hlen
    have HL := Lib.hid hl
    have HC2 := Lib.hid hc2
    have HD := Lib.hid hd
    clear hl hd
    unfold maxLen at hc2
    by_cases h1 : n = 1
    · rw [climbS_one d at_ n p (by omega)]
      have h1' : ((n : Int) == 1) = true := by rw [beq_iff_eq]; omega
      have HLEN := Lib.hid hlen
      clear h1 hlen hN ih
      go_enter Tryd.func43, Tryd.ntmps43
      go_wp2_with fail
      obtain ⟨w1, hw1⟩ : ∃ w1, w1 = (w.alloc (.cells (bvA d) 26)).alloc (.cells (bvA (List.replicate 32 0)) 26) := ⟨_, rfl⟩
      have hB1 : Below w.heap.size w w1 := hw1 ▸ ((Below.refl _ _).alloc (Nat.le_refl _) _).alloc (by simp) _
      have hA1 : BB w1 w.heap.size 26 d := hw1 ▸ (BB.new w _ _).alloc _
      have hD1 : BB w1 (w.heap.size + 1) 26 (List.replicate 32 0) := hw1 ▸ heap_alloc2_new w _ _
      have hc := refTagged ⟨#[108, 101, 97, 102]⟩ (some ⟨w.heap.size, 0, none⟩) 32 d w1 (hA1.rdB (by rw [HD.out]; unfold maxLen; omega)) (by rw [HD.out]; omega) (by unfold maxLen; omega) (fun h => by cases h) (by decide) (by rw [HD.out]; omega)
      rw [HD.out, hw1] at hc
      refine hc.mono ?_
      rintro e w2 ⟨rfl, hb2⟩
      rw [← hw1] at hb2
      have HD2 := Lib.hid (hD1.below hb2 hD1.lt)
      have HB2 := Lib.hid (hB1.trans (hb2.mono hB1.size))
      clear hb2 hD1 hB1 hA1 hc hw1 w1
      go_wp2_with (refine wpList_storeA rfl 26 (.tmp 8) (.tmp 14) rfl (w.heap.size + 1) (bvA (leafS d)) rfl rfl 26 _ HD2.out (sha_sz _) (sha_old _) (bvA_one _) ?_)
      intro w9 h9 hg9
      have hB9 := grown_below HB2.out hg9 (Nat.le_succ _) HB2.out.size
      go_wp2_with fail
      refine bodyPost_ret (v := .agg (bvA (leafS d))) ?_ rfl ⟨rfl, hB9⟩
      exact results_cell_row rfl _ _ (w.heap.size + 1) 26 _ (0, 0) _ rfl h9 digest_und rfl (sha_sz _)
    · have h2 : 2 ≤ n := by omega
      have hb := half_bd n h2
      obtain ⟨hb1, hb2, hb3⟩ := hb
      have hne1 : ((n : Int) == 1) = false := by rw [beq_eq_false_iff_ne]; omega
      have hp0 : 0 < p.length := by
        by_cases ha : at_ < half n
        · rw [hlen, lenS_lo _ _ h2 ha]; omega
        · rw [hlen, lenS_hi _ _ h2 (by omega)]; omega
      obtain ⟨top, htop⟩ : ∃ top, top = p.length - 1 := ⟨_, rfl⟩
      have htl : p.length = top + 1 := by omega
      obtain ⟨b, o, rfl, hbB, hcell⟩ := HL.out.at_ hp0
      obtain ⟨q, hq⟩ : ∃ q, p.getD top [] = q := ⟨_, rfl⟩
      have hq2 : p[top]'(by omega) = q := by rw [← hq]; simp [List.getD, show top < p.length by omega]
      have hqr := hcell top (by omega)
      rw [hq2] at hqr
      have hq32 : q.length = 32 := by rw [← hq2]; exact HL.out.len top (by omega)
      have HID : Hid ((Tryd.prog.info? 26).map (·.size) = some (d.map bv).length) := by show _ = _; rw [List.length_map, HD.out]; exact sha_size
      have HIQ : Hid ((Tryd.prog.info? 26).map (·.size) = some (q.map bv).length) := by show _ = _; rw [List.length_map, hq32]; exact sha_size
      have HSQ : Hid ((Tryd.prog.info? 26).map (·.size) = some (bvA q).size) := by show _ = _; rw [bvA_size, hq32]; exact sha_size
      have HOQ : Hid ((bvA (List.replicate 32 0)).size = (bvA q).size) := by show _ = _; rw [bvA_size, bvA_size, hq32, List.length_replicate]
      have hlt1 : p.length ≤ 1099511627776 := by rw [hlen]; have := lenS_le _ at_ n (Nat.lt_succ_self _); omega
      have hs2 := sliceD_to (some ⟨b, o, none⟩) p.length cap top (by omega)
      have HQ := Lib.hid hq
      have HLEN := Lib.hid hlen
      have HTOP := Lib.hid htop
      have HQR := Lib.hid hqr
      have HQL := Lib.hid hq32
      clear hcell hqr hq hq2 hlen hq32
      have HTL := Lib.hid htl
      clear htop h1
      have hpl : (p.length : Int) - 1 = (top : Int) := by have := HTL.out; omega
      have ht0 : (0 : Int) ≤ (top : Int) := by omega
      have ht1 : (top : Int) < (p.length : Int) := by have := HTL.out; omega
      have hwt : IntKind.i64.wrap (top : Int) = (top : Int) := IntWalk.i64_in _ (by have := HTL.out; omega)
      by_cases ha : at_ < half n
      · skip
        obtain ⟨X, hX⟩ : ∃ X, X = climbS d at_ (half n) (p.take top) := ⟨_, rfl⟩
        have HS : Hid (climbS d at_ n p = nodeS X q) := by show _ = _; rw [climbS_lo _ _ _ _ h2 ha, ← HTOP.out, HQ.out, ← hX]
        have c1 : Hid (∀ W, Below w.heap.size w W → Calls Tryd.prog 43 #[.agg (bvA d), .int .i64 at_, .int .i64 (half n), .slice (some ⟨b, o, none⟩) top cap] W fun e w2 => e = .returned (.agg (bvA X)) ∧ Below W.heap.size W w2) := by
          intro W hW
          have h := ih d at_ (half n) (some ⟨b, o, none⟩) cap (p.take top) W (by omega) HD.out (((HL.out.take _).below hW).mono hW.size) (by rw [List.length_take]; omega) HC2.out ha (by omega) (by rw [List.length_take, Nat.min_eq_left (by omega)]; have h := HLEN.out; rw [lenS_lo _ _ h2 ha] at h; omega)
          rw [List.length_take, Nat.min_eq_left (by omega), ← hX] at h
          exact h
        have c2 : Hid (∀ W, Calls Tryd.prog 37 #[.agg (bvA X), .agg (bvA q)] W fun e w2 => e = .returned (.agg (bvA (nodeS X q))) ∧ Below W.heap.size W w2) := fun W =>
          refNode X q (by rw [hX]; exact climbS_len _ _ _ _) HQL.out W
        rw [HS.out]
        clear hX htl ih HS
        go_enter Tryd.func43, Tryd.ntmps43
        go_wp2_with fail
        change Calls _ _ _ ((w.alloc (.cells (bvA d) 26)).alloc (.cells (bvA (List.replicate 32 0)) 26)) _
        obtain ⟨w1, hw1⟩ : ∃ w1, w1 = (w.alloc (.cells (bvA d) 26)).alloc (.cells (bvA (List.replicate 32 0)) 26) := ⟨_, rfl⟩
        have hB1 : Below w.heap.size w w1 := hw1 ▸ ((Below.refl _ _).alloc (Nat.le_refl _) _).alloc (by simp) _
        have hD1 : BB w1 (w.heap.size + 1) 26 (List.replicate 32 0) := hw1 ▸ heap_alloc2_new w _ _
        have hA1 : BB w1 w.heap.size 26 d := hw1 ▸ heap_alloc2_old w _ _
        have HB1 := Lib.hid hB1
        have HD1 := Lib.hid hD1
        have HA1 := Lib.hid hA1
        have HQ1 : Hid (w1.rangeAt b (o + top * 32) (q.map bv)) := fun i v hv => (hB1.cell (p := ⟨b, _, none⟩) hbB).trans (HQR.out i v hv)
        rw [← hw1]
        clear hw1 hB1 hD1 hA1
        refine (refHalf n w1 h2 hmax).mono ?_
        rintro e w1' ⟨rfl, hw⟩
        rw [← hw]
        clear hw w1'
        go_wp2_with (first | (refine wpList_load_mid rfl 26 (.tmp 21) rfl b (o + top * 32) rfl (q.map bv) _ HQ1.out digest_und rfl HIQ.out ?_) | (refine wpList_storeA rfl 26 (.tmp 10) (.tmp 22) rfl w1.heap.size (bvA q) rfl rfl 26 (bvA (List.replicate 32 0)) (heap_alloc_new w1 _) HSQ.out HOQ.out (bvA_one _) ?_))
        intro wa ha9 hga
        have hBa : Below w1.heap.size w1 wa := grown_below ((Below.refl _ _).alloc (Nat.le_refl _) _) hga (Nat.le_refl _) (by simp)
        have HXa : Hid (BB wa w1.heap.size 26 q) := ha9
        have HAa := Lib.hid (HA1.out.below hBa HA1.out.lt)
        have HDa := Lib.hid (HD1.out.below hBa HD1.out.lt)
        have HBa := Lib.hid (HB1.out.trans (hBa.mono HB1.out.size))
        have HNE : Hid (w1.heap.size ≠ w.heap.size + 1) := Nat.ne_of_gt HD1.out.lt
        clear ha9 hga hBa HA1 HD1 HB1 HQ1
        generalize w1.heap.size = g10 at *
        go_wp2_with fail
        have HB0 : Hid (Below wa.heap.size wa wa.drew) := (Below.refl _ _).drew
        have HSA : Hid (∀ W, Below wa.heap.size wa W → W.rangeAt w.heap.size 0 (d.map bv) ∧ W.rangeAt g10 0 (q.map bv)) := fun W hW => ⟨(HAa.out.below hW HAa.out.lt).range, (HXa.out.below hW HXa.out.lt).range⟩
        refine wp_region_held_drew (S := fun w' => w'.rangeAt w.heap.size 0 (d.map bv) ∧ w'.rangeAt g10 0 (q.map bv)) (by kernel_rfl) (HSA.out _ HB0.out) (fun hHeld => ?_)
        refine wpAnyH_take (i := 0) (v := .agg (bvA d)) rfl (by kernel_rfl) (by kernel_rfl) (by kernel_rfl) (fun _ _ _ h => h) (yieldsIf_load_mid (by rfl) 26 (.tmp 4) rfl w.heap.size 0 rfl (d.map bv) _ (fun _ h => h.1) digest_und rfl HID.out) hHeld ?_
        simp only [Act.put, List.getElem_toArray, List.getElem_cons_zero, List.getElem_cons_succ, List.setIfInBounds_toArray, List.set_cons_zero, List.set_cons_succ]
        refine wpAnyH_take (i := 1) (v := .int .i64 at_) rfl (by kernel_rfl) (by kernel_rfl) (by kernel_rfl) (fun _ _ _ h => h) (Or.inl ⟨by rfl, fun w _ => by go_simp⟩) hHeld ?_
        simp only [Act.put, List.getElem_toArray, List.getElem_cons_zero, List.getElem_cons_succ, List.setIfInBounds_toArray, List.set_cons_zero, List.set_cons_succ]
        refine wpAnyH_take (i := 2) (v := .int .i64 (half n)) rfl (by kernel_rfl) (by kernel_rfl) (by kernel_rfl) (fun _ _ _ h => h) (Or.inl ⟨by rfl, fun w _ => by go_simp⟩) hHeld ?_
        simp only [Act.put, List.getElem_toArray, List.getElem_cons_zero, List.getElem_cons_succ, List.setIfInBounds_toArray, List.set_cons_zero, List.set_cons_succ]
        refine wpAnyH_take (i := 3) (v := .slice (some ⟨b, o, none⟩) p.length cap) rfl (by kernel_rfl) (by kernel_rfl) (by kernel_rfl) (fun _ _ _ h => h) (Or.inl ⟨by rfl, fun w _ => by go_simp⟩) hHeld ?_
        simp only [Act.put, List.getElem_toArray, List.getElem_cons_zero, List.getElem_cons_succ, List.setIfInBounds_toArray, List.set_cons_zero, List.set_cons_succ]
        refine wpAnyH_take (i := 4) (v := .slice (some ⟨b, o, none⟩) p.length cap) rfl (by kernel_rfl) (by kernel_rfl) (by kernel_rfl) (fun _ _ _ h => h) (Or.inl ⟨by rfl, fun w _ => by go_simp⟩) hHeld ?_
        simp only [Act.put, List.getElem_toArray, List.getElem_cons_zero, List.getElem_cons_succ, List.setIfInBounds_toArray, List.set_cons_zero, List.set_cons_succ]
        refine wpAnyH_take (i := 5) (v := .int .i64 p.length) rfl (by kernel_rfl) (by kernel_rfl) (by kernel_rfl) (fun _ _ _ h => h) (Or.inl ⟨by rfl, fun w _ => by go_simp⟩) hHeld ?_
        simp only [Act.put, List.getElem_toArray, List.getElem_cons_zero, List.getElem_cons_succ, List.setIfInBounds_toArray, List.set_cons_zero, List.set_cons_succ]
        refine wpAnyH_take (i := 6) (v := .int .i64 top) rfl (by kernel_rfl) (by kernel_rfl) (by kernel_rfl) (fun _ _ _ h => h) (Or.inl ⟨by rfl, fun w _ => by go_simp⟩) hHeld ?_
        simp only [Act.put, List.getElem_toArray, List.getElem_cons_zero, List.getElem_cons_succ, List.setIfInBounds_toArray, List.set_cons_zero, List.set_cons_succ]
        refine wpAnyH_take (i := 7) (v := .slice (some ⟨b, o, none⟩) top cap) rfl (by kernel_rfl) (by kernel_rfl) (by kernel_rfl) (fun _ _ _ h => h) (Or.inl ⟨by rfl, fun w _ => by go_simp⟩) hHeld ?_
        simp only [Act.put, List.getElem_toArray, List.getElem_cons_zero, List.getElem_cons_succ, List.setIfInBounds_toArray, List.set_cons_zero, List.set_cons_succ]
        refine wpAnyH_take (i := 9) (v := .agg (bvA q)) rfl (by kernel_rfl) (by kernel_rfl) (by kernel_rfl) (fun _ _ _ h => h) (yieldsIf_load_mid (by rfl) 26 (.tmp 10) rfl g10 0 rfl (q.map bv) _ (fun _ h => h.2) digest_und rfl HIQ.out) hHeld ?_
        simp only [Act.put, List.getElem_toArray, List.getElem_cons_zero, List.getElem_cons_succ, List.setIfInBounds_toArray, List.set_cons_zero, List.set_cons_succ]
        refine wpAnyH_ready (rs := [8]) (by kernel_rfl) (by simp) (AllReadyH.cons rfl (fun K hK => ?_) AllReadyH.nil)
        go_simp
        refine (c1.out _ (HBa.out.trans (HB0.out.mono HBa.out.size))).mono ?_
        rintro e w2 ⟨rfl, hb⟩
        have HB2 := Lib.hid (HB0.out.trans (hb.mono HB0.out.size))
        clear hb
        try go_wp2_with fail
        refine hK.out _ _ (HSA.out _ HB2.out) (fun hHeld => ?_)
        clear hK K
        try simp only [Act.put, List.getElem_toArray, List.getElem_cons_zero, List.getElem_cons_succ, List.setIfInBounds_toArray, List.set_cons_zero, List.set_cons_succ]
        refine wpAnyH_ready (rs := [10]) (by kernel_rfl) (by simp) (AllReadyH.cons rfl (fun K hK => ?_) AllReadyH.nil)
        go_simp
        refine (c2.out _).mono ?_
        rintro e w3 ⟨rfl, hb⟩
        have HB3 := Lib.hid (HB2.out.trans (hb.mono HB2.out.size))
        clear hb
        try go_wp2_with fail
        refine hK.out _ _ (HSA.out _ HB3.out) (fun hHeld => ?_)
        clear hK K
        try simp only [Act.put, List.getElem_toArray, List.getElem_cons_zero, List.getElem_cons_succ, List.setIfInBounds_toArray, List.set_cons_zero, List.set_cons_succ]
        refine wpAnyH_ready (rs := [11]) (by kernel_rfl) (by simp) (AllReadyH.cons rfl (fun K hK => ?_) AllReadyH.nil)
        rw [if_pos (by rfl)]
        refine wp_storeA 26 (.tmp 8) (.tmp 36) rfl (w.heap.size + 1) (bvA (nodeS X q)) rfl rfl 26 _ (HDa.out.below HB3.out HDa.out.lt) (sha_sz _) (sha_old _) (bvA_one _) ?_
        intro w4 h4 hg4
        have HB4 := Lib.hid (grown_below (HBa.out.trans (HB3.out.mono HBa.out.size)) hg4 (Nat.le_succ _) (Nat.le_trans HBa.out.size HB3.out.size))
        have HS4 : Hid (w4.rangeAt w.heap.size 0 (d.map bv) ∧ w4.rangeAt g10 0 (q.map bv)) := ⟨((HAa.out.below HB3.out HAa.out.lt).grown hg4 (by omega)).range, ((HXa.out.below HB3.out HXa.out.lt).grown hg4 HNE.out).range⟩
        clear hg4
        refine hK.out _ _ HS4.out (fun hHeld => ?_)
        clear hK K
        try simp only [Act.put, List.getElem_toArray, List.getElem_cons_zero, List.getElem_cons_succ, List.setIfInBounds_toArray, List.set_cons_zero, List.set_cons_succ]
        refine wpAnyH_done (by kernel_rfl) ?_ _
        go_wp2_with fail
        refine bodyPost_ret (v := .agg (bvA (nodeS X q))) ?_ rfl ⟨rfl, HB4.out⟩
        exact results_cell_row rfl _ _ (w.heap.size + 1) 26 _ (0, 0) _ rfl h4 digest_und rfl (sha_sz _)
      · skip
        obtain ⟨X, hX⟩ : ∃ X, X = climbS d (at_ - half n) (n - half n) (p.take top) := ⟨_, rfl⟩
        have HS : Hid (climbS d at_ n p = nodeS q X) := by show _ = _; rw [climbS_hi _ _ _ _ h2 (by omega), ← HTOP.out, HQ.out, ← hX]
        have c1 : Hid (∀ W, Below w.heap.size w W → Calls Tryd.prog 43 #[.agg (bvA d), .int .i64 ((at_ : Int) - (half n : Nat)), .int .i64 ((n : Int) - (half n : Nat)), .slice (some ⟨b, o, none⟩) top cap] W fun e w2 => e = .returned (.agg (bvA X)) ∧ Below W.heap.size W w2) := by
          intro W hW
          have h := ih d (at_ - half n) (n - half n) (some ⟨b, o, none⟩) cap (p.take top) W (by omega) HD.out (((HL.out.take _).below hW).mono hW.size) (by rw [List.length_take]; omega) HC2.out (by omega) (by omega) (by rw [List.length_take, Nat.min_eq_left (by omega)]; have h := HLEN.out; rw [lenS_hi _ _ h2 (by omega)] at h; omega)
          rw [List.length_take, Nat.min_eq_left (by omega), ← hX, Int.ofNat_sub (by omega), Int.ofNat_sub (by omega)] at h
          exact h
        have c2 : Hid (∀ W, Calls Tryd.prog 37 #[.agg (bvA q), .agg (bvA X)] W fun e w2 => e = .returned (.agg (bvA (nodeS q X))) ∧ Below W.heap.size W w2) := fun W =>
          refNode q X HQL.out (by rw [hX]; exact climbS_len _ _ _ _) W
        have hwr1 : IntKind.i64.wrap ((at_ : Int) - (half n : Nat)) = (at_ : Int) - (half n : Nat) := IntWalk.i64_in _ (by omega)
        have hwr2 : IntKind.i64.wrap ((n : Int) - (half n : Nat)) = (n : Int) - (half n : Nat) := IntWalk.i64_in _ (by omega)
        have hge : (half n : Int) ≤ (at_ : Int) := by omega
        rw [HS.out]
        clear hX htl ih HS
        go_enter Tryd.func43, Tryd.ntmps43
        go_wp2_with fail
        change Calls _ _ _ ((w.alloc (.cells (bvA d) 26)).alloc (.cells (bvA (List.replicate 32 0)) 26)) _
        obtain ⟨w1, hw1⟩ : ∃ w1, w1 = (w.alloc (.cells (bvA d) 26)).alloc (.cells (bvA (List.replicate 32 0)) 26) := ⟨_, rfl⟩
        have hB1 : Below w.heap.size w w1 := hw1 ▸ ((Below.refl _ _).alloc (Nat.le_refl _) _).alloc (by simp) _
        have hD1 : BB w1 (w.heap.size + 1) 26 (List.replicate 32 0) := hw1 ▸ heap_alloc2_new w _ _
        have hA1 : BB w1 w.heap.size 26 d := hw1 ▸ heap_alloc2_old w _ _
        have HB1 := Lib.hid hB1
        have HD1 := Lib.hid hD1
        have HA1 := Lib.hid hA1
        have HQ1 : Hid (w1.rangeAt b (o + top * 32) (q.map bv)) := fun i v hv => (hB1.cell (p := ⟨b, _, none⟩) hbB).trans (HQR.out i v hv)
        rw [← hw1]
        clear hw1 hB1 hD1 hA1
        refine (refHalf n w1 h2 hmax).mono ?_
        rintro e w1' ⟨rfl, hw⟩
        rw [← hw]
        clear hw w1'
        go_wp2_with (first | (refine wpList_load_mid rfl 26 (.tmp 21) rfl b (o + top * 32) rfl (q.map bv) _ HQ1.out digest_und rfl HIQ.out ?_) | (refine wpList_storeA rfl 26 (.tmp 10) (.tmp 22) rfl w1.heap.size (bvA q) rfl rfl 26 (bvA (List.replicate 32 0)) (heap_alloc_new w1 _) HSQ.out HOQ.out (bvA_one _) ?_))
        intro wa ha9 hga
        have hBa : Below w1.heap.size w1 wa := grown_below ((Below.refl _ _).alloc (Nat.le_refl _) _) hga (Nat.le_refl _) (by simp)
        have HXa : Hid (BB wa w1.heap.size 26 q) := ha9
        have HAa := Lib.hid (HA1.out.below hBa HA1.out.lt)
        have HDa := Lib.hid (HD1.out.below hBa HD1.out.lt)
        have HBa := Lib.hid (HB1.out.trans (hBa.mono HB1.out.size))
        have HNE : Hid (w1.heap.size ≠ w.heap.size + 1) := Nat.ne_of_gt HD1.out.lt
        clear ha9 hga hBa HA1 HD1 HB1 HQ1
        generalize w1.heap.size = g10 at *
        go_wp2_with fail
        have HB0 : Hid (Below wa.heap.size wa wa.drew) := (Below.refl _ _).drew
        have HSA : Hid (∀ W, Below wa.heap.size wa W → W.rangeAt w.heap.size 0 (d.map bv) ∧ W.rangeAt g10 0 (q.map bv)) := fun W hW => ⟨(HAa.out.below hW HAa.out.lt).range, (HXa.out.below hW HXa.out.lt).range⟩
        refine wp_region_held_drew (S := fun w' => w'.rangeAt w.heap.size 0 (d.map bv) ∧ w'.rangeAt g10 0 (q.map bv)) (by kernel_rfl) (HSA.out _ HB0.out) (fun hHeld => ?_)
        refine wpAnyH_take (i := 0) (v := .agg (bvA q)) rfl (by kernel_rfl) (by kernel_rfl) (by kernel_rfl) (fun _ _ _ h => h) (yieldsIf_load_mid (by rfl) 26 (.tmp 10) rfl g10 0 rfl (q.map bv) _ (fun _ h => h.2) digest_und rfl HIQ.out) hHeld ?_
        simp only [Act.put, List.getElem_toArray, List.getElem_cons_zero, List.getElem_cons_succ, List.setIfInBounds_toArray, List.set_cons_zero, List.set_cons_succ]
        refine wpAnyH_take (i := 1) (v := .agg (bvA d)) rfl (by kernel_rfl) (by kernel_rfl) (by kernel_rfl) (fun _ _ _ h => h) (yieldsIf_load_mid (by rfl) 26 (.tmp 4) rfl w.heap.size 0 rfl (d.map bv) _ (fun _ h => h.1) digest_und rfl HID.out) hHeld ?_
        simp only [Act.put, List.getElem_toArray, List.getElem_cons_zero, List.getElem_cons_succ, List.setIfInBounds_toArray, List.set_cons_zero, List.set_cons_succ]
        refine wpAnyH_take (i := 2) (v := .int .i64 at_) rfl (by kernel_rfl) (by kernel_rfl) (by kernel_rfl) (fun _ _ _ h => h) (Or.inl ⟨by rfl, fun w _ => by go_simp⟩) hHeld ?_
        simp only [Act.put, List.getElem_toArray, List.getElem_cons_zero, List.getElem_cons_succ, List.setIfInBounds_toArray, List.set_cons_zero, List.set_cons_succ]
        refine wpAnyH_take (i := 3) (v := .int .i64 (half n)) rfl (by kernel_rfl) (by kernel_rfl) (by kernel_rfl) (fun _ _ _ h => h) (Or.inl ⟨by rfl, fun w _ => by go_simp⟩) hHeld ?_
        simp only [Act.put, List.getElem_toArray, List.getElem_cons_zero, List.getElem_cons_succ, List.setIfInBounds_toArray, List.set_cons_zero, List.set_cons_succ]
        refine wpAnyH_take (i := 4) (v := .int .i64 ((at_ : Int) - (half n : Nat))) rfl (by kernel_rfl) (by kernel_rfl) (by kernel_rfl) (fun _ _ _ h => h) (Or.inl ⟨by rfl, fun w _ => by go_simp⟩) hHeld ?_
        simp only [Act.put, List.getElem_toArray, List.getElem_cons_zero, List.getElem_cons_succ, List.setIfInBounds_toArray, List.set_cons_zero, List.set_cons_succ]
        refine wpAnyH_take (i := 5) (v := .int .i64 n) rfl (by kernel_rfl) (by kernel_rfl) (by kernel_rfl) (fun _ _ _ h => h) (Or.inl ⟨by rfl, fun w _ => by go_simp⟩) hHeld ?_
        simp only [Act.put, List.getElem_toArray, List.getElem_cons_zero, List.getElem_cons_succ, List.setIfInBounds_toArray, List.set_cons_zero, List.set_cons_succ]
        refine wpAnyH_take (i := 6) (v := .int .i64 (half n)) rfl (by kernel_rfl) (by kernel_rfl) (by kernel_rfl) (fun _ _ _ h => h) (Or.inl ⟨by rfl, fun w _ => by go_simp⟩) hHeld ?_
        simp only [Act.put, List.getElem_toArray, List.getElem_cons_zero, List.getElem_cons_succ, List.setIfInBounds_toArray, List.set_cons_zero, List.set_cons_succ]
        refine wpAnyH_take (i := 7) (v := .int .i64 ((n : Int) - (half n : Nat))) rfl (by kernel_rfl) (by kernel_rfl) (by kernel_rfl) (fun _ _ _ h => h) (Or.inl ⟨by rfl, fun w _ => by go_simp⟩) hHeld ?_
        simp only [Act.put, List.getElem_toArray, List.getElem_cons_zero, List.getElem_cons_succ, List.setIfInBounds_toArray, List.set_cons_zero, List.set_cons_succ]
        refine wpAnyH_take (i := 8) (v := .slice (some ⟨b, o, none⟩) p.length cap) rfl (by kernel_rfl) (by kernel_rfl) (by kernel_rfl) (fun _ _ _ h => h) (Or.inl ⟨by rfl, fun w _ => by go_simp⟩) hHeld ?_
        simp only [Act.put, List.getElem_toArray, List.getElem_cons_zero, List.getElem_cons_succ, List.setIfInBounds_toArray, List.set_cons_zero, List.set_cons_succ]
        refine wpAnyH_take (i := 9) (v := .slice (some ⟨b, o, none⟩) p.length cap) rfl (by kernel_rfl) (by kernel_rfl) (by kernel_rfl) (fun _ _ _ h => h) (Or.inl ⟨by rfl, fun w _ => by go_simp⟩) hHeld ?_
        simp only [Act.put, List.getElem_toArray, List.getElem_cons_zero, List.getElem_cons_succ, List.setIfInBounds_toArray, List.set_cons_zero, List.set_cons_succ]
        refine wpAnyH_take (i := 10) (v := .int .i64 p.length) rfl (by kernel_rfl) (by kernel_rfl) (by kernel_rfl) (fun _ _ _ h => h) (Or.inl ⟨by rfl, fun w _ => by go_simp⟩) hHeld ?_
        simp only [Act.put, List.getElem_toArray, List.getElem_cons_zero, List.getElem_cons_succ, List.setIfInBounds_toArray, List.set_cons_zero, List.set_cons_succ]
        refine wpAnyH_take (i := 11) (v := .int .i64 top) rfl (by kernel_rfl) (by kernel_rfl) (by kernel_rfl) (fun _ _ _ h => h) (Or.inl ⟨by rfl, fun w _ => by go_simp⟩) hHeld ?_
        simp only [Act.put, List.getElem_toArray, List.getElem_cons_zero, List.getElem_cons_succ, List.setIfInBounds_toArray, List.set_cons_zero, List.set_cons_succ]
        refine wpAnyH_take (i := 12) (v := .slice (some ⟨b, o, none⟩) top cap) rfl (by kernel_rfl) (by kernel_rfl) (by kernel_rfl) (fun _ _ _ h => h) (Or.inl ⟨by rfl, fun w _ => by go_simp⟩) hHeld ?_
        simp only [Act.put, List.getElem_toArray, List.getElem_cons_zero, List.getElem_cons_succ, List.setIfInBounds_toArray, List.set_cons_zero, List.set_cons_succ]
        refine wpAnyH_ready (rs := [13]) (by kernel_rfl) (by simp) (AllReadyH.cons rfl (fun K hK => ?_) AllReadyH.nil)
        go_simp
        refine (c1.out _ (HBa.out.trans (HB0.out.mono HBa.out.size))).mono ?_
        rintro e w2 ⟨rfl, hb⟩
        have HB2 := Lib.hid (HB0.out.trans (hb.mono HB0.out.size))
        clear hb
        try go_wp2_with fail
        refine hK.out _ _ (HSA.out _ HB2.out) (fun hHeld => ?_)
        clear hK K
        try simp only [Act.put, List.getElem_toArray, List.getElem_cons_zero, List.getElem_cons_succ, List.setIfInBounds_toArray, List.set_cons_zero, List.set_cons_succ]
        refine wpAnyH_ready (rs := [14]) (by kernel_rfl) (by simp) (AllReadyH.cons rfl (fun K hK => ?_) AllReadyH.nil)
        go_simp
        refine (c2.out _).mono ?_
        rintro e w3 ⟨rfl, hb⟩
        have HB3 := Lib.hid (HB2.out.trans (hb.mono HB2.out.size))
        clear hb
        try go_wp2_with fail
        refine hK.out _ _ (HSA.out _ HB3.out) (fun hHeld => ?_)
        clear hK K
        try simp only [Act.put, List.getElem_toArray, List.getElem_cons_zero, List.getElem_cons_succ, List.setIfInBounds_toArray, List.set_cons_zero, List.set_cons_succ]
        refine wpAnyH_ready (rs := [15]) (by kernel_rfl) (by simp) (AllReadyH.cons rfl (fun K hK => ?_) AllReadyH.nil)
        rw [if_pos (by rfl)]
        refine wp_storeA 26 (.tmp 8) (.tmp 51) rfl (w.heap.size + 1) (bvA (nodeS q X)) rfl rfl 26 _ (HDa.out.below HB3.out HDa.out.lt) (sha_sz _) (sha_old _) (bvA_one _) ?_
        intro w4 h4 hg4
        have HB4 := Lib.hid (grown_below (HBa.out.trans (HB3.out.mono HBa.out.size)) hg4 (Nat.le_succ _) (Nat.le_trans HBa.out.size HB3.out.size))
        have HS4 : Hid (w4.rangeAt w.heap.size 0 (d.map bv) ∧ w4.rangeAt g10 0 (q.map bv)) := ⟨((HAa.out.below HB3.out HAa.out.lt).grown hg4 (by omega)).range, ((HXa.out.below HB3.out HXa.out.lt).grown hg4 HNE.out).range⟩
        clear hg4
        refine hK.out _ _ HS4.out (fun hHeld => ?_)
        clear hK K
        try simp only [Act.put, List.getElem_toArray, List.getElem_cons_zero, List.getElem_cons_succ, List.setIfInBounds_toArray, List.set_cons_zero, List.set_cons_succ]
        refine wpAnyH_done (by kernel_rfl) ?_ _
        go_wp2_with fail
        refine bodyPost_ret (v := .agg (bvA (nodeS q X))) ?_ rfl ⟨rfl, HB4.out⟩
        exact results_cell_row rfl _ _ (w.heap.size + 1) 26 _ (0, 0) _ rfl h4 digest_und rfl (sha_sz _)

set_option maxRecDepth 100000 in
set_option maxHeartbeats 800000 in
theorem refClimb_ok (d : List UInt8) (at_ n : Nat) (a : Option Addr) (cap : Nat) (p : List (List UInt8)) (w : World) (hd : d.length = 32) (hl : RdD w.heap.size w a p) (hcap : p.length ≤ cap) (hc2 : cap ≤ maxLen) (hat : at_ < n) (hmax : n ≤ 1099511627776) (hlen : p.length = lenS at_ n) :
    Calls Tryd.prog 23 #[.agg (bvA d), .int .i64 at_, .int .i64 n, .slice a p.length cap] w (DigErr w (climbS d at_ n p) 0) := by
  have HL := Lib.hid hl
  have HC2 := Lib.hid hc2
  have HD := Lib.hid hd
  have HLEN := Lib.hid hlen
  have hlt1 : p.length ≤ 1099511627776 := by rw [hlen]; have := lenS_le _ at_ n (Nat.lt_succ_self _); omega
  clear hl hd hlen
  unfold maxLen at hc2
  have HBX : Hid (((w.alloc (.cells (bvA d) 26)).alloc (.cells (bvA (List.replicate 32 0)) 26)).heap[w.heap.size]? = some (.cells (bvA d) 26 (0, 0))) := heap_alloc2_old w _ _
  have HSR : Hid ((Tryd.prog.info? 26).map (·.size) = some (bvA d).size) := by show _ = _; rw [bvA_size, HD.out]; exact sha_size
  have hPL := fun W => refLength _ at_ n W (Nat.lt_succ_self _) hat hmax
  rw [← HLEN.out] at hPL
  have HPL := Lib.hid hPL
  clear hPL
  have f1 : decide ((n : Int) < 1) = false := decide_eq_false (by omega)
  have f2 : decide (1099511627776 < (n : Int)) = false := decide_eq_false (by omega)
  have f3 : decide ((at_ : Int) < 0) = false := decide_eq_false (by omega)
  have f4 : decide (n ≤ at_) = false := decide_eq_false (by omega)
  go_enter Tryd.func23, Tryd.ntmps23
  go_wp2_with (first | (go_at_call 42; refine (HPL.out _).mono ?_; rintro e w' ⟨rfl, rfl⟩) | (refine wpList_load_row rfl 26 (.tmp 4) rfl w.heap.size rfl _ (bvA d) (0, 0) _ HBX.out digest_und rfl HSR.out ?_))
  obtain ⟨w1, hw1⟩ : ∃ w1, w1 = (w.alloc (.cells (bvA d) 26)).alloc (.cells (bvA (List.replicate 32 0)) 26) := ⟨_, rfl⟩
  have hB1 : Below w.heap.size w w1 := hw1 ▸ ((Below.refl _ _).alloc (Nat.le_refl _) _).alloc (by simp) _
  have hD1 : BB w1 (w.heap.size + 1) 26 (List.replicate 32 0) := hw1 ▸ heap_alloc2_new w _ _
  change Calls _ _ _ ((w.alloc (.cells (bvA d) 26)).alloc (.cells (bvA (List.replicate 32 0)) 26)) _
  rw [← hw1]
  clear hw1
  refine (refClimbIn _ d at_ n a cap p w1 (Nat.lt_succ_self _) HD.out ((HL.out.below hB1).mono hB1.size) hcap HC2.out hat hmax HLEN.out).mono ?_
  rintro e w2 ⟨rfl, hb2⟩
  have HD2 := Lib.hid (hD1.below hb2 hD1.lt)
  have HB2 := Lib.hid (hB1.trans (hb2.mono hB1.size))
  have hX := climbS_len d at_ n p
  generalize climbS d at_ n p = X at *
  have HSX : Hid ((Tryd.prog.info? 26).map (·.size) = some (bvA X).size) := by show _ = _; rw [bvA_size, hX]; exact sha_size
  have HOX : Hid ((bvA (List.replicate 32 0)).size = (bvA X).size) := by show _ = _; rw [bvA_size, bvA_size, hX, List.length_replicate]
  clear hb2 hD1 hB1 hX
  go_wp2_with (refine wpList_storeA rfl 26 (.tmp 8) (.tmp 38) rfl (w.heap.size + 1) (bvA X) rfl rfl 26 _ HD2.out HSX.out HOX.out (bvA_one _) ?_)
  intro w9 h9 hg9
  have hB9 := grown_below HB2.out hg9 (Nat.le_succ _) HB2.out.size
  have hr9 : w9.rangeAt (w.heap.size + 1) 0 (X.map bv) := BB.range h9
  go_wp2_with fail
  refine bodyPost_ret (v := .tuple #[.agg (bvA X), .int .i64 0]) ?_ rfl ⟨rfl, hB9⟩
  exact results_cell_tmp rfl _ _ (w.heap.size + 1) 0 (X.map bv) _ rfl hr9 digest_und rfl (by rw [List.length_map, ← bvA_size]; exact HSX.out) _ rfl

set_option maxRecDepth 100000 in
set_option maxHeartbeats 1600000 in
theorem refClimb_bad (d : List UInt8) (at_ n : Int) (a : Option Addr) (cap : Nat) (p : List (List UInt8)) (w : World) (hlp : p.length ≤ 9223372036854775807)
    (h : n < 1 ∨ 1099511627776 < n ∨ at_ < 0 ∨ n ≤ at_ ∨ p.length ≠ lenS at_.toNat n.toNat) :
    Calls Tryd.prog 23 #[.agg (bvA d), .int .i64 at_, .int .i64 n, .slice a p.length cap] w (DigErr w zero32 1) := by
  have HSX : Hid ((Tryd.prog.info? 26).map (·.size) = some (bvA zero32).size) := by show _ = _; kernel_rfl
  have HBD : Hid (((w.alloc (.cells (bvA d) 26)).alloc (.cells (bvA (List.replicate 32 0)) 26)).heap[w.heap.size + 1]? = some (.cells (bvA zero32) 26 (0, 0))) := heap_alloc2_new w _ _
  have HB1 : Hid (Below w.heap.size w ((w.alloc (.cells (bvA d) 26)).alloc (.cells (bvA (List.replicate 32 0)) 26))) := ((Below.refl _ _).alloc (Nat.le_refl _) _).alloc (by simp) _
  have HSZ : Hid (w.heap.size ≤ ((w.alloc (.cells (bvA d) 26)).alloc (.cells (bvA (List.replicate 32 0)) 26)).heap.size) := by show _ ≤ _; simp; omega
  by_cases h1 : n < 1
  · have f1 : decide (n < 1) = true := decide_eq_true h1
    clear h
    go_enter Tryd.func23, Tryd.ntmps23
    go_wp2_with (first | (go_at_call 42; refine (HPL.out _).mono ?_; rintro e w' ⟨rfl, rfl⟩) | (refine wpList_storeA rfl 26 (.tmp 8) (.tmp 33) rfl (w.heap.size + 1) (bvA zero32) rfl rfl 26 _ HBD.out HSX.out rfl (bvA_one _) ?_))
    intro w9 h9 hg9
    have hB9 := grown_below HB1.out hg9 (Nat.le_succ _) HSZ.out
    have hr9 : w9.rangeAt (w.heap.size + 1) 0 (zero32.map bv) := BB.range h9
    go_wp2_with fail
    refine bodyPost_ret (v := .tuple #[.agg (bvA zero32), .int .i64 1]) ?_ rfl ⟨rfl, hB9⟩
    exact results_cell_tmp rfl _ _ (w.heap.size + 1) 0 (zero32.map bv) _ rfl hr9 digest_und rfl (by rw [List.length_map, ← bvA_size]; exact HSX.out) _ rfl
  by_cases h2 : 1099511627776 < n
  · have f1 : decide (n < 1) = false := decide_eq_false h1
    have f2 : decide (1099511627776 < n) = true := decide_eq_true h2
    clear h
    go_enter Tryd.func23, Tryd.ntmps23
    go_wp2_with (first | (go_at_call 42; refine (HPL.out _).mono ?_; rintro e w' ⟨rfl, rfl⟩) | (refine wpList_storeA rfl 26 (.tmp 8) (.tmp 33) rfl (w.heap.size + 1) (bvA zero32) rfl rfl 26 _ HBD.out HSX.out rfl (bvA_one _) ?_))
    intro w9 h9 hg9
    have hB9 := grown_below HB1.out hg9 (Nat.le_succ _) HSZ.out
    have hr9 : w9.rangeAt (w.heap.size + 1) 0 (zero32.map bv) := BB.range h9
    go_wp2_with fail
    refine bodyPost_ret (v := .tuple #[.agg (bvA zero32), .int .i64 1]) ?_ rfl ⟨rfl, hB9⟩
    exact results_cell_tmp rfl _ _ (w.heap.size + 1) 0 (zero32.map bv) _ rfl hr9 digest_und rfl (by rw [List.length_map, ← bvA_size]; exact HSX.out) _ rfl
  by_cases h3 : at_ < 0
  · have f1 : decide (n < 1) = false := decide_eq_false h1
    have f2 : decide (1099511627776 < n) = false := decide_eq_false h2
    have f3 : decide (at_ < 0) = true := decide_eq_true h3
    clear h
    go_enter Tryd.func23, Tryd.ntmps23
    go_wp2_with (first | (go_at_call 42; refine (HPL.out _).mono ?_; rintro e w' ⟨rfl, rfl⟩) | (refine wpList_storeA rfl 26 (.tmp 8) (.tmp 33) rfl (w.heap.size + 1) (bvA zero32) rfl rfl 26 _ HBD.out HSX.out rfl (bvA_one _) ?_))
    intro w9 h9 hg9
    have hB9 := grown_below HB1.out hg9 (Nat.le_succ _) HSZ.out
    have hr9 : w9.rangeAt (w.heap.size + 1) 0 (zero32.map bv) := BB.range h9
    go_wp2_with fail
    refine bodyPost_ret (v := .tuple #[.agg (bvA zero32), .int .i64 1]) ?_ rfl ⟨rfl, hB9⟩
    exact results_cell_tmp rfl _ _ (w.heap.size + 1) 0 (zero32.map bv) _ rfl hr9 digest_und rfl (by rw [List.length_map, ← bvA_size]; exact HSX.out) _ rfl
  by_cases h4 : n ≤ at_
  · have f1 : decide (n < 1) = false := decide_eq_false h1
    have f2 : decide (1099511627776 < n) = false := decide_eq_false h2
    have f3 : decide (at_ < 0) = false := decide_eq_false h3
    have f4 : decide (n ≤ at_) = true := decide_eq_true h4
    clear h
    go_enter Tryd.func23, Tryd.ntmps23
    go_wp2_with (first | (go_at_call 42; refine (HPL.out _).mono ?_; rintro e w' ⟨rfl, rfl⟩) | (refine wpList_storeA rfl 26 (.tmp 8) (.tmp 33) rfl (w.heap.size + 1) (bvA zero32) rfl rfl 26 _ HBD.out HSX.out rfl (bvA_one _) ?_))
    intro w9 h9 hg9
    have hB9 := grown_below HB1.out hg9 (Nat.le_succ _) HSZ.out
    have hr9 : w9.rangeAt (w.heap.size + 1) 0 (zero32.map bv) := BB.range h9
    go_wp2_with fail
    refine bodyPost_ret (v := .tuple #[.agg (bvA zero32), .int .i64 1]) ?_ rfl ⟨rfl, hB9⟩
    exact results_cell_tmp rfl _ _ (w.heap.size + 1) 0 (zero32.map bv) _ rfl hr9 digest_und rfl (by rw [List.length_map, ← bvA_size]; exact HSX.out) _ rfl
  have h5 : p.length ≠ lenS at_.toNat n.toNat := by omega
  have hle := lenS_le _ at_.toNat n.toNat (Nat.lt_succ_self _)
  have hPL := fun W => refLength _ at_.toNat n.toNat W (Nat.lt_succ_self _) (by omega) (by omega)
  rw [Int.toNat_of_nonneg (by omega), Int.toNat_of_nonneg (by omega)] at hPL
  generalize lenS at_.toNat n.toNat = L at *
  have HPL := Lib.hid hPL
  have f1 : decide (n < 1) = false := decide_eq_false h1
  have f2 : decide (1099511627776 < n) = false := decide_eq_false h2
  have f3 : decide (at_ < 0) = false := decide_eq_false h3
  have f4 : decide (n ≤ at_) = false := decide_eq_false h4
  have f5 : ((p.length : Int) != (L : Int)) = true := by rw [bne_iff_ne]; omega
  have HL5 := Lib.hid h5
  clear h hPL hle h5
  go_enter Tryd.func23, Tryd.ntmps23
  go_wp2_with (first | (go_at_call 42; refine (HPL.out _).mono ?_; rintro e w' ⟨rfl, rfl⟩) | (refine wpList_storeA rfl 26 (.tmp 8) (.tmp 33) rfl (w.heap.size + 1) (bvA zero32) rfl rfl 26 _ HBD.out HSX.out rfl (bvA_one _) ?_))
  intro w9 h9 hg9
  have hB9 := grown_below HB1.out hg9 (Nat.le_succ _) HSZ.out
  have hr9 : w9.rangeAt (w.heap.size + 1) 0 (zero32.map bv) := BB.range h9
  go_wp2_with fail
  refine bodyPost_ret (v := .tuple #[.agg (bvA zero32), .int .i64 1]) ?_ rfl ⟨rfl, hB9⟩
  exact results_cell_tmp rfl _ _ (w.heap.size + 1) 0 (zero32.map bv) _ rfl hr9 digest_und rfl (by rw [List.length_map, ← bvA_size]; exact HSX.out) _ rfl
end Go.Proofs.YtndbhmipehpebaaDoor
