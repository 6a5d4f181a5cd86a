/-
  Package proxy: the functions that attempt calls.
-/
import Derived.Test.YteigldfdaciopaaGreatDoorLg
namespace Go.Proofs.YteigldfdaciopaaGreatDoor
open Go.RowKit
set_option linter.unusedVariables false
set_option linter.unusedSimpArgs false

set_option maxRecDepth 100000 in
set_option maxHeartbeats 800000 in
theorem lockC_ok (gp gs gk p : Nat) (K S : List UInt8) (hp : IsEl (p : Int)) (hK : K.length = 32) (hS : S.length = 32) (w : World) (hT : Tab w) (cp : CB w gp 3 #[.int .i64 p]) (cs : BB w gs 23 S) (ck : BB w gk 23 K) :
    Calls Tryz.prog 22 #[.pointer (some ⟨gp, 0, none⟩), .pointer (some ⟨gs, 0, none⟩), .pointer (some ⟨gk, 0, none⟩)] w fun e w' => e = .returned (.agg (capA ((lkA p (lkR S) : Nat) : Int) ((lkB (lkR S) (lkM S) : Nat) : Int) (lkX S K))) ∧ Below w.heap.size w w' := by
  have K1 := Lib.hid (fun W => gCheck_ok p hp W)
  have k0 := fun W => ensure_ok W
  have K2 := Lib.hid (fun W h => DScalar_any S hS ⟨#[108, 111, 99, 107]⟩ W h (by decide))
  have K3 := Lib.hid (fun W h => DScalar_any S hS ⟨#[109, 97, 115, 107]⟩ W h (by decide))
  have K4 := Lib.hid (fun W => gBase_okP (lkM S) (lkM_lt S) W)
  have KL := Lib.hid (fun (r : Nat) W => locking_ex (r : Int) W)
  have KP := Lib.hid (fun W (g : Nat) (hT : Tab W) (hg : CB W g 3 #[.int .i64 (lkR S : Nat)]) => pass_lock g (lkR S) (4 ^ lkM S % 4611686018427377339) (lkR_lt S) (pow_isP El4 _) K hK W hT hg)
  rw [lkB_eq S, show kxor K (pmS ((4 ^ lkM S % 4611686018427377339 : Nat) : Int)) = lkX S K from rfl] at KP
  have KX := Lib.hid (fun W => gExp_ok p (lkR S) hp (lkR_lt S) W)
  rw [show p ^ lkR S % 4611686018427377339 = lkA p (lkR S) from rfl] at KX
  have k5 := fun (n : Nat) W => must_ok (n : Int) W
  have HLX : Hid ((lkX S K).length = 32) := Lib.hid (lkX_len S hK)
  rw [show scS S ⟨#[108, 111, 99, 107]⟩ = lkR S from rfl] at K2
  rw [show scS S ⟨#[109, 97, 115, 107]⟩ = lkM S from rfl] at K3
  obtain ⟨X, hX⟩ : ∃ X, lkX S K = X := ⟨_, rfl⟩
  rw [hX] at KP HLX ⊢
  obtain ⟨A, hA⟩ : ∃ A, lkA p (lkR S) = A := ⟨_, rfl⟩
  rw [hA] at KX ⊢
  obtain ⟨B, hB⟩ : ∃ B, lkB (lkR S) (lkM S) = B := ⟨_, rfl⟩
  rw [hB] at KP ⊢
  obtain ⟨m, hm⟩ : ∃ m, 4 ^ lkM S % 4611686018427377339 = m := ⟨_, rfl⟩
  rw [hm] at KP K4
  obtain ⟨r, hr⟩ : ∃ r, lkR S = r := ⟨_, rfl⟩
  rw [hr] at KP KX K2
  obtain ⟨s, hs⟩ : ∃ s, lkM S = s := ⟨_, rfl⟩
  rw [hs] at K3 K4
  have hzc := fun W => zero_cap W
  have HLK := Lib.hid hK
  have HLS := Lib.hid hS
  have HLZ := Lib.hid kZ_len
  have HLP := Lib.hid cp.lt
  have HS : Hid (PX w [(gk, 23, bvA K), (gs, 23, bvA S), (gp, 3, #[.int .i64 p])] w) := Lib.hid ((((PX.start hT).put cp).put (T := 23) (cs := bvA S) cs).put (T := 23) (cs := bvA K) ck)
  have HB0 := Lib.hid (HS.out.add 25 (capA 0 0 kZ) _ rfl)
  have c_p := KB1 (HB0.out.blk gp 3 #[.int .i64 p] (List.Mem.tail _ (List.Mem.tail _ (List.Mem.tail _ (List.Mem.head _)))))
  clear hX hA hB hm hr hs hT cp cs ck hp hK hS HS
  go_enter Tryz.func22, Tryz.ntmps22
  go_wp2_with fail
  obtain ⟨wa, hwa⟩ : ∃ wa, wa = w.alloc (.cells (capA 0 0 kZ) 25) := ⟨_, rfl⟩
  rw [← hwa] at HB0 ⊢
  clear hwa c_p hzc
  with_reducible refine (K1.out _).mono ?_
  rintro e w1 ⟨rfl, hb⟩
  have HB1 := Lib.hid (HB0.out.call hb)
  clear hb HB0
  go_wp2_with (first
    | (go_at_call 23; with_reducible refine (k0 _).mono ?_; rintro e wo ⟨rfl, hwo⟩; rw [hwo]; clear hwo wo)
    | (refine wpList_load_row rfl 23 (.tmp 1) rfl gs rfl _ (bvA S) (0, 0) _ (HB1.out.blk gs 23 (bvA S) (List.Mem.tail _ (List.Mem.tail _ (List.Mem.head _)))) key_und rfl (key_sz _ HLS.out) ?_))
  with_reducible refine (K2.out _ HB1.out.tab).mono ?_
  rintro e w2 ⟨rfl, hb⟩
  have HB2 := Lib.hid (HB1.out.call hb)
  clear hb HB1
  go_wp2_with (refine wpList_load_row rfl 23 (.tmp 1) rfl gs rfl _ (bvA S) (0, 0) _ (HB2.out.blk gs 23 (bvA S) (List.Mem.tail _ (List.Mem.tail _ (List.Mem.head _)))) key_und rfl (key_sz _ HLS.out) ?_)
  with_reducible refine (K3.out _ HB2.out.tab).mono ?_
  rintro e w3 ⟨rfl, hb⟩
  have HB3 := Lib.hid (HB2.out.call hb)
  clear hb HB2
  go_wp2_with fail
  with_reducible refine (K4.out _).mono ?_
  rintro e w4 ⟨rfl, hb⟩
  have HB4 := Lib.hid (HB3.out.call hb)
  clear hb HB3
  go_wp2_with (go_at_call 26; with_reducible refine (k5 _ _).mono ?_; rintro e wo ⟨rfl, hwo⟩; rw [hwo]; clear hwo wo)
  rename_i K0 hK0
  refine region_writes [19, 20, 21, 22, 23, 24, 25, 26, 7, 6] (fun f W => ∃ g, f 6 = .int .i64 (B : Int) ∧ f 7 = .pointer (some ⟨g, 0, none⟩) ∧ BB W g 23 X ∧ w.heap.size < g ∧ Below w4.heap.size w4 W) ?_ ?_
  rotate_left
  · clear hK0 K0
    have HE : Hid (Below w4.heap.size w4 w4.drew) := Lib.hid ((Below.refl _ _).drew)
    have HSB : Hid (∀ W, Below w4.heap.size w4 W → W.rangeAt gk 0 (K.map bv)) := Lib.hid (fun W hW => BB.range (((HB4.out.blk gk 23 (bvA K) (List.Mem.tail _ (List.Mem.head _)))).call hW))
    refine wp_region_held_drew (S := fun W => W.rangeAt gk 0 (K.map bv)) (by kernel_rfl) (HSB.out _ HE.out) (fun hHeld => ?_)
    refine wpAnyH_take (i := 0) (v := .int .i64 (r : Int)) rfl (by kernel_rfl) (by kernel_rfl) (by kernel_rfl) (fun _ _ _ h => nomatch h.1) (Or.inl ⟨by rfl, fun w _ => by go_simp⟩) hHeld ?_
    simp only [Act.put, List.getElem_toArray, List.getElem_cons_zero, List.getElem_cons_succ, List.setIfInBounds_toArray, List.set_cons_zero, List.set_cons_succ]
    refine wpAnyH_take (i := 2) (v := .int .i64 (m : Int)) rfl (by kernel_rfl) (by kernel_rfl) (by kernel_rfl) (fun _ _ _ h => nomatch h.1) (Or.inl ⟨by rfl, fun w _ => by go_simp⟩) hHeld ?_
    simp only [Act.put, List.getElem_toArray, List.getElem_cons_zero, List.getElem_cons_succ, List.setIfInBounds_toArray, List.set_cons_zero, List.set_cons_succ]
    refine wpAnyH_take (i := 3) (v := .agg (bvA K)) rfl (by kernel_rfl) (by kernel_rfl) (by kernel_rfl) (fun _ _ _ h => nomatch h.1) (yieldsIf_load_mid (by rfl) 23 (.tmp 2) rfl gk 0 rfl (K.map bv) _ (fun _ h => h) key_und rfl (key_szl _ HLK.out)) hHeld ?_
    simp only [Act.put, List.getElem_toArray, List.getElem_cons_zero, List.getElem_cons_succ, List.setIfInBounds_toArray, List.set_cons_zero, List.set_cons_succ]
    refine wpAnyH_ready (rs := [1, 8]) (by kernel_rfl) (by simp) (AllReadyH.cons rfl (fun K hK => ?_) (AllReadyH.cons rfl (fun K hK => ?_) AllReadyH.nil))
    · rw [if_pos (by rfl)]
      go_simp
      with_reducible refine (KL.out r w4.drew).mono ?_
      rintro e v1 ⟨gg, rfl, hc, hb⟩
      have HG := Lib.hid (hc)
      replace HE := Lib.hid (HE.out.trans (hb.mono HE.out.size))
      clear hb
      refine hK.out _ _ (HSB.out _ HE.out) (fun hHeld => ?_)
      clear hK K
      try simp only [Act.put, List.getElem_toArray, List.getElem_cons_zero, List.getElem_cons_succ, List.setIfInBounds_toArray, List.set_cons_zero, List.set_cons_succ]
      refine wpAnyH_ready (rs := [4, 8]) (by kernel_rfl) (by simp) (AllReadyH.cons rfl (fun K hK => ?_) (AllReadyH.cons rfl (fun K hK => ?_) AllReadyH.nil))
      · rw [if_pos (by rfl)]
        go_simp
        with_reducible refine (KP.out v1 gg (HB4.out.call HE.out).tab HG.out).mono ?_
        rintro e v2 ⟨rfl, hb⟩
        replace HG := Lib.hid (HG.out.call hb)
        replace HE := Lib.hid (HE.out.trans (hb.mono HE.out.size))
        clear hb
        refine hK.out _ _ (HSB.out _ HE.out) (fun hHeld => ?_)
        clear hK K
        try simp only [Act.put, List.getElem_toArray, List.getElem_cons_zero, List.getElem_cons_succ, List.setIfInBounds_toArray, List.set_cons_zero, List.set_cons_succ]
        refine wpAnyH_take (i := 5) (v := .tuple #[.int .i64 (B : Int), .agg (bvA X)]) rfl (by kernel_rfl) (by kernel_rfl) (by kernel_rfl) (fun _ _ _ h => nomatch h.1) (Or.inl ⟨by rfl, fun w _ => by go_simp⟩) hHeld ?_
        simp only [Act.put, List.getElem_toArray, List.getElem_cons_zero, List.getElem_cons_succ, List.setIfInBounds_toArray, List.set_cons_zero, List.set_cons_succ]
        refine wpAnyH_take (i := 6) (v := .int .i64 (B : Int)) rfl (by kernel_rfl) (by kernel_rfl) (by kernel_rfl) (fun _ _ _ h => nomatch h.1) (Or.inl ⟨by rfl, fun w _ => by go_simp⟩) hHeld ?_
        simp only [Act.put, List.getElem_toArray, List.getElem_cons_zero, List.getElem_cons_succ, List.setIfInBounds_toArray, List.set_cons_zero, List.set_cons_succ]
        refine wpAnyH_take (i := 7) (v := .agg (bvA X)) rfl (by kernel_rfl) (by kernel_rfl) (by kernel_rfl) (fun _ _ _ h => nomatch h.1) (Or.inl ⟨by rfl, fun w _ => by go_simp⟩) hHeld ?_
        simp only [Act.put, List.getElem_toArray, List.getElem_cons_zero, List.getElem_cons_succ, List.setIfInBounds_toArray, List.set_cons_zero, List.set_cons_succ]
        refine wpAnyH_ready (rs := [8]) (by kernel_rfl) (by simp) (AllReadyH.cons rfl (fun K hK => ?_) AllReadyH.nil)
        rw [if_pos (by rfl)]
        refine wp_allocKy rfl ?_
        intro v3 g8 hn hge hb
        replace HG := Lib.hid (HG.out.call hb)
        have HN := Lib.hid hn
        have HNg : Hid (w4.heap.size ≤ g8) := Lib.hid (Nat.le_trans HE.out.size hge)
        replace HE := Lib.hid (HE.out.trans (hb.mono HE.out.size))
        clear hn hge hb
        refine hK.out _ _ (HSB.out _ HE.out) (fun hHeld => ?_)
        clear hK K
        try simp only [Act.put, List.getElem_toArray, List.getElem_cons_zero, List.getElem_cons_succ, List.setIfInBounds_toArray, List.set_cons_zero, List.set_cons_succ]
        refine wpAnyH_take (i := 9) (v := .int .i64 (B : Int)) rfl (by kernel_rfl) (by kernel_rfl) (by kernel_rfl) (fun _ _ _ h => nomatch h.1) (Or.inl ⟨by rfl, fun w _ => by go_simp⟩) hHeld ?_
        simp only [Act.put, List.getElem_toArray, List.getElem_cons_zero, List.getElem_cons_succ, List.setIfInBounds_toArray, List.set_cons_zero, List.set_cons_succ]
        refine wpAnyH_ready (rs := [10]) (by kernel_rfl) (by simp) (AllReadyH.cons rfl (fun K hK => ?_) AllReadyH.nil)
        rw [if_pos (by rfl)]
        refine wp_storeA 23 (.tmp 7) (.tmp 26) rfl g8 (bvA X) rfl rfl 23 _ HN.out (key_sz _ HLX.out) (key_old _ HLX.out) (bvA_one _) ?_
        intro v4 hn hg
        have HN9 := Lib.hid hn
        replace HE := Lib.hid (grown_below HE.out hg HNg.out HE.out.size)
        clear hn hg HN
        refine hK.out _ _ (HSB.out _ HE.out) (fun hHeld => ?_)
        clear hK K
        try simp only [Act.put, List.getElem_toArray, List.getElem_cons_zero, List.getElem_cons_succ, List.setIfInBounds_toArray, List.set_cons_zero, List.set_cons_succ]
        refine wpAnyH_done (by kernel_rfl) ?_ _
        exact ⟨rfl, writes_ex (by kernel_rfl) (⟨g8, rfl, rfl, HN9.out, Nat.lt_of_lt_of_le ((HB4.out.blk w.heap.size 25 (capA 0 0 kZ) (List.Mem.head _)).lt) HNg.out, HE.out⟩)⟩
      · rw [if_pos (by rfl)]
        refine wp_allocKy rfl ?_
        intro v5 g8 hn hge hb
        replace HG := Lib.hid (HG.out.call hb)
        have HN := Lib.hid hn
        have HNg : Hid (w4.heap.size ≤ g8) := Lib.hid (Nat.le_trans HE.out.size hge)
        replace HE := Lib.hid (HE.out.trans (hb.mono HE.out.size))
        clear hn hge hb
        refine hK.out _ _ (HSB.out _ HE.out) (fun hHeld => ?_)
        clear hK K
        try simp only [Act.put, List.getElem_toArray, List.getElem_cons_zero, List.getElem_cons_succ, List.setIfInBounds_toArray, List.set_cons_zero, List.set_cons_succ]
        refine wpAnyH_ready (rs := [4]) (by kernel_rfl) (by simp) (AllReadyH.cons rfl (fun K hK => ?_) AllReadyH.nil)
        rw [if_pos (by rfl)]
        go_simp
        with_reducible refine (KP.out v5 gg (HB4.out.call HE.out).tab HG.out).mono ?_
        rintro e v6 ⟨rfl, hb⟩
        replace HG := Lib.hid (HG.out.call hb)
        replace HN := Lib.hid (HN.out.below hb HN.out.lt)
        replace HE := Lib.hid (HE.out.trans (hb.mono HE.out.size))
        clear hb
        refine hK.out _ _ (HSB.out _ HE.out) (fun hHeld => ?_)
        clear hK K
        try simp only [Act.put, List.getElem_toArray, List.getElem_cons_zero, List.getElem_cons_succ, List.setIfInBounds_toArray, List.set_cons_zero, List.set_cons_succ]
        refine wpAnyH_take (i := 5) (v := .tuple #[.int .i64 (B : Int), .agg (bvA X)]) rfl (by kernel_rfl) (by kernel_rfl) (by kernel_rfl) (fun _ _ _ h => nomatch h.1) (Or.inl ⟨by rfl, fun w _ => by go_simp⟩) hHeld ?_
        simp only [Act.put, List.getElem_toArray, List.getElem_cons_zero, List.getElem_cons_succ, List.setIfInBounds_toArray, List.set_cons_zero, List.set_cons_succ]
        refine wpAnyH_take (i := 6) (v := .int .i64 (B : Int)) rfl (by kernel_rfl) (by kernel_rfl) (by kernel_rfl) (fun _ _ _ h => nomatch h.1) (Or.inl ⟨by rfl, fun w _ => by go_simp⟩) hHeld ?_
        simp only [Act.put, List.getElem_toArray, List.getElem_cons_zero, List.getElem_cons_succ, List.setIfInBounds_toArray, List.set_cons_zero, List.set_cons_succ]
        refine wpAnyH_take (i := 7) (v := .agg (bvA X)) rfl (by kernel_rfl) (by kernel_rfl) (by kernel_rfl) (fun _ _ _ h => nomatch h.1) (Or.inl ⟨by rfl, fun w _ => by go_simp⟩) hHeld ?_
        simp only [Act.put, List.getElem_toArray, List.getElem_cons_zero, List.getElem_cons_succ, List.setIfInBounds_toArray, List.set_cons_zero, List.set_cons_succ]
        refine wpAnyH_take (i := 9) (v := .int .i64 (B : Int)) rfl (by kernel_rfl) (by kernel_rfl) (by kernel_rfl) (fun _ _ _ h => nomatch h.1) (Or.inl ⟨by rfl, fun w _ => by go_simp⟩) hHeld ?_
        simp only [Act.put, List.getElem_toArray, List.getElem_cons_zero, List.getElem_cons_succ, List.setIfInBounds_toArray, List.set_cons_zero, List.set_cons_succ]
        refine wpAnyH_ready (rs := [10]) (by kernel_rfl) (by simp) (AllReadyH.cons rfl (fun K hK => ?_) AllReadyH.nil)
        rw [if_pos (by rfl)]
        refine wp_storeA 23 (.tmp 7) (.tmp 26) rfl g8 (bvA X) rfl rfl 23 _ HN.out (key_sz _ HLX.out) (key_old _ HLX.out) (bvA_one _) ?_
        intro v7 hn hg
        have HN9 := Lib.hid hn
        replace HE := Lib.hid (grown_below HE.out hg HNg.out HE.out.size)
        clear hn hg HN
        refine hK.out _ _ (HSB.out _ HE.out) (fun hHeld => ?_)
        clear hK K
        try simp only [Act.put, List.getElem_toArray, List.getElem_cons_zero, List.getElem_cons_succ, List.setIfInBounds_toArray, List.set_cons_zero, List.set_cons_succ]
        refine wpAnyH_done (by kernel_rfl) ?_ _
        exact ⟨rfl, writes_ex (by kernel_rfl) (⟨g8, rfl, rfl, HN9.out, Nat.lt_of_lt_of_le ((HB4.out.blk w.heap.size 25 (capA 0 0 kZ) (List.Mem.head _)).lt) HNg.out, HE.out⟩)⟩
    · rw [if_pos (by rfl)]
      refine wp_allocKy rfl ?_
      intro v8 g8 hn hge hb
      have HN := Lib.hid hn
      have HNg : Hid (w4.heap.size ≤ g8) := Lib.hid (Nat.le_trans HE.out.size hge)
      replace HE := Lib.hid (HE.out.trans (hb.mono HE.out.size))
      clear hn hge hb
      refine hK.out _ _ (HSB.out _ HE.out) (fun hHeld => ?_)
      clear hK K
      try simp only [Act.put, List.getElem_toArray, List.getElem_cons_zero, List.getElem_cons_succ, List.setIfInBounds_toArray, List.set_cons_zero, List.set_cons_succ]
      refine wpAnyH_ready (rs := [1]) (by kernel_rfl) (by simp) (AllReadyH.cons rfl (fun K hK => ?_) AllReadyH.nil)
      rw [if_pos (by rfl)]
      go_simp
      with_reducible refine (KL.out r v8).mono ?_
      rintro e v9 ⟨gg, rfl, hc, hb⟩
      replace HN := Lib.hid (HN.out.below hb HN.out.lt)
      have HG := Lib.hid (hc)
      replace HE := Lib.hid (HE.out.trans (hb.mono HE.out.size))
      clear hb
      refine hK.out _ _ (HSB.out _ HE.out) (fun hHeld => ?_)
      clear hK K
      try simp only [Act.put, List.getElem_toArray, List.getElem_cons_zero, List.getElem_cons_succ, List.setIfInBounds_toArray, List.set_cons_zero, List.set_cons_succ]
      refine wpAnyH_ready (rs := [4]) (by kernel_rfl) (by simp) (AllReadyH.cons rfl (fun K hK => ?_) AllReadyH.nil)
      rw [if_pos (by rfl)]
      go_simp
      with_reducible refine (KP.out v9 gg (HB4.out.call HE.out).tab HG.out).mono ?_
      rintro e v10 ⟨rfl, hb⟩
      replace HN := Lib.hid (HN.out.below hb HN.out.lt)
      replace HG := Lib.hid (HG.out.call hb)
      replace HE := Lib.hid (HE.out.trans (hb.mono HE.out.size))
      clear hb
      refine hK.out _ _ (HSB.out _ HE.out) (fun hHeld => ?_)
      clear hK K
      try simp only [Act.put, List.getElem_toArray, List.getElem_cons_zero, List.getElem_cons_succ, List.setIfInBounds_toArray, List.set_cons_zero, List.set_cons_succ]
      refine wpAnyH_take (i := 5) (v := .tuple #[.int .i64 (B : Int), .agg (bvA X)]) rfl (by kernel_rfl) (by kernel_rfl) (by kernel_rfl) (fun _ _ _ h => nomatch h.1) (Or.inl ⟨by rfl, fun w _ => by go_simp⟩) hHeld ?_
      simp only [Act.put, List.getElem_toArray, List.getElem_cons_zero, List.getElem_cons_succ, List.setIfInBounds_toArray, List.set_cons_zero, List.set_cons_succ]
      refine wpAnyH_take (i := 6) (v := .int .i64 (B : Int)) rfl (by kernel_rfl) (by kernel_rfl) (by kernel_rfl) (fun _ _ _ h => nomatch h.1) (Or.inl ⟨by rfl, fun w _ => by go_simp⟩) hHeld ?_
      simp only [Act.put, List.getElem_toArray, List.getElem_cons_zero, List.getElem_cons_succ, List.setIfInBounds_toArray, List.set_cons_zero, List.set_cons_succ]
      refine wpAnyH_take (i := 7) (v := .agg (bvA X)) rfl (by kernel_rfl) (by kernel_rfl) (by kernel_rfl) (fun _ _ _ h => nomatch h.1) (Or.inl ⟨by rfl, fun w _ => by go_simp⟩) hHeld ?_
      simp only [Act.put, List.getElem_toArray, List.getElem_cons_zero, List.getElem_cons_succ, List.setIfInBounds_toArray, List.set_cons_zero, List.set_cons_succ]
      refine wpAnyH_take (i := 9) (v := .int .i64 (B : Int)) rfl (by kernel_rfl) (by kernel_rfl) (by kernel_rfl) (fun _ _ _ h => nomatch h.1) (Or.inl ⟨by rfl, fun w _ => by go_simp⟩) hHeld ?_
      simp only [Act.put, List.getElem_toArray, List.getElem_cons_zero, List.getElem_cons_succ, List.setIfInBounds_toArray, List.set_cons_zero, List.set_cons_succ]
      refine wpAnyH_ready (rs := [10]) (by kernel_rfl) (by simp) (AllReadyH.cons rfl (fun K hK => ?_) AllReadyH.nil)
      rw [if_pos (by rfl)]
      refine wp_storeA 23 (.tmp 7) (.tmp 26) rfl g8 (bvA X) rfl rfl 23 _ HN.out (key_sz _ HLX.out) (key_old _ HLX.out) (bvA_one _) ?_
      intro v11 hn hg
      have HN9 := Lib.hid hn
      replace HE := Lib.hid (grown_below HE.out hg HNg.out HE.out.size)
      clear hn hg HN
      refine hK.out _ _ (HSB.out _ HE.out) (fun hHeld => ?_)
      clear hK K
      try simp only [Act.put, List.getElem_toArray, List.getElem_cons_zero, List.getElem_cons_succ, List.setIfInBounds_toArray, List.set_cons_zero, List.set_cons_succ]
      refine wpAnyH_done (by kernel_rfl) ?_ _
      exact ⟨rfl, writes_ex (by kernel_rfl) (⟨g8, rfl, rfl, HN9.out, Nat.lt_of_lt_of_le ((HB4.out.blk w.heap.size 25 (capA 0 0 kZ) (List.Mem.head _)).lt) HNg.out, HE.out⟩)⟩
  rintro f wr ⟨g7, e6, e7, hn, hlt, hb⟩
  have HBR := Lib.hid ((HB4.out.call hb).put (T := 23) (cs := bvA X) hn)
  have HNE : Hid (gp ≠ w.heap.size ∧ g7 ≠ w.heap.size) := Lib.hid ⟨Nat.ne_of_lt HLP.out, Nat.ne_of_gt hlt⟩
  clear hn hb hlt HLP HB4
  refine hK0 _ _ ?_
  clear hK0 K0
  simp only [writes, List.foldl_cons, List.foldl_nil, Act.put, List.setIfInBounds_toArray, List.set_cons_zero, List.set_cons_succ]
  rw [e6, e7]
  clear e6 e7
  go_wp2_with fail
  rename_i K0 hK0
  refine region_writes [27, 28, 29, 30, 31, 32, 33, 34, 35] (fun f W => CB W w.heap.size 25 (capA (A : Int) (B : Int) X) ∧ Below w.heap.size w W) ?_ ?_
  rotate_left
  · clear hK0 K0
    have HE : Hid (Below wr.heap.size wr wr.drew) := Lib.hid ((Below.refl _ _).drew)
    have HSB : Hid (∀ W, Below wr.heap.size wr W → (W.cell? ⟨gp, 0, none⟩ = some (.int .i64 (p : Int)) ∧ W.rangeAt g7 0 (X.map bv))) := Lib.hid (fun W hW => ⟨((HBR.out.blk gp 3 (#[.int .i64 p]) (List.Mem.tail _ (List.Mem.tail _ (List.Mem.tail _ (List.Mem.tail _ (List.Mem.head _)))))).call hW).cell 0, BB.range (((HBR.out.blk g7 23 (bvA X) (List.Mem.head _))).call hW)⟩)
    refine wp_region_held_drew (S := fun W => W.cell? ⟨gp, 0, none⟩ = some (.int .i64 (p : Int)) ∧ W.rangeAt g7 0 (X.map bv)) (by kernel_rfl) (HSB.out _ HE.out) (fun hHeld => ?_)
    refine wpAnyH_take (i := 0) (v := .int .i64 (p : Int)) rfl (by kernel_rfl) (by kernel_rfl) (by kernel_rfl) (fun _ _ _ h => nomatch h.1) (Or.inl ⟨by rfl, fun w hw => by obtain ⟨h1, h2⟩ := hw; go_simp⟩) hHeld ?_
    simp only [Act.put, List.getElem_toArray, List.getElem_cons_zero, List.getElem_cons_succ, List.setIfInBounds_toArray, List.set_cons_zero, List.set_cons_succ]
    refine wpAnyH_take (i := 1) (v := .int .i64 (r : Int)) rfl (by kernel_rfl) (by kernel_rfl) (by kernel_rfl) (fun _ _ _ h => nomatch h.1) (Or.inl ⟨by rfl, fun w _ => by go_simp⟩) hHeld ?_
    simp only [Act.put, List.getElem_toArray, List.getElem_cons_zero, List.getElem_cons_succ, List.setIfInBounds_toArray, List.set_cons_zero, List.set_cons_succ]
    refine wpAnyH_take (i := 6) (v := .int .i64 (B : Int)) rfl (by kernel_rfl) (by kernel_rfl) (by kernel_rfl) (fun _ _ _ h => nomatch h.1) (Or.inl ⟨by rfl, fun w _ => by go_simp⟩) hHeld ?_
    simp only [Act.put, List.getElem_toArray, List.getElem_cons_zero, List.getElem_cons_succ, List.setIfInBounds_toArray, List.set_cons_zero, List.set_cons_succ]
    refine wpAnyH_take (i := 7) (v := .agg (bvA X)) rfl (by kernel_rfl) (by kernel_rfl) (by kernel_rfl) (fun _ _ _ h => nomatch h.1) (yieldsIf_load_mid (by rfl) 23 (.tmp 7) rfl g7 0 rfl (X.map bv) _ (fun _ h => h.2) key_und rfl (key_szl _ HLX.out)) hHeld ?_
    simp only [Act.put, List.getElem_toArray, List.getElem_cons_zero, List.getElem_cons_succ, List.setIfInBounds_toArray, List.set_cons_zero, List.set_cons_succ]
    refine wpAnyH_ready (rs := [2]) (by kernel_rfl) (by simp) (AllReadyH.cons rfl (fun K hK => ?_) AllReadyH.nil)
    rw [if_pos (by rfl)]
    go_simp
    with_reducible refine (KX.out wr.drew).mono ?_
    rintro e v1 ⟨rfl, hb⟩
    replace HE := Lib.hid (HE.out.trans (hb.mono HE.out.size))
    clear hb
    refine hK.out _ _ (HSB.out _ HE.out) (fun hHeld => ?_)
    clear hK K
    try simp only [Act.put, List.getElem_toArray, List.getElem_cons_zero, List.getElem_cons_succ, List.setIfInBounds_toArray, List.set_cons_zero, List.set_cons_succ]
    refine wpAnyH_take (i := 3) (v := .int .i64 (A : Int)) rfl (by kernel_rfl) (by kernel_rfl) (by kernel_rfl) (fun _ _ _ h => nomatch h.1) (Or.inl ⟨by rfl, fun w _ => by go_simp⟩) hHeld ?_
    simp only [Act.put, List.getElem_toArray, List.getElem_cons_zero, List.getElem_cons_succ, List.setIfInBounds_toArray, List.set_cons_zero, List.set_cons_succ]
    refine wpAnyH_take (i := 4) (v := .int .i64 0) rfl (by kernel_rfl) (by kernel_rfl) (by kernel_rfl) (fun _ _ _ h => nomatch h.1) (Or.inl ⟨by rfl, fun w _ => by go_simp⟩) hHeld ?_
    simp only [Act.put, List.getElem_toArray, List.getElem_cons_zero, List.getElem_cons_succ, List.setIfInBounds_toArray, List.set_cons_zero, List.set_cons_succ]
    refine wpAnyH_ready (rs := [5]) (by kernel_rfl) (by simp) (AllReadyH.cons rfl (fun K hK => ?_) AllReadyH.nil)
    rw [if_pos (by rfl)]
    go_simp
    with_reducible refine (k5 A v1).mono ?_
    rintro e wo ⟨rfl, hwo⟩
    rw [hwo]
    clear hwo wo
    refine hK.out _ _ (HSB.out _ HE.out) (fun hHeld => ?_)
    clear hK K
    try simp only [Act.put, List.getElem_toArray, List.getElem_cons_zero, List.getElem_cons_succ, List.setIfInBounds_toArray, List.set_cons_zero, List.set_cons_succ]
    refine wpAnyH_take (i := 8) (v := .agg (capA (A : Int) (B : Int) X)) rfl (by kernel_rfl) (by kernel_rfl) (by kernel_rfl) (fun _ _ _ h => nomatch h.1) (Or.inl ⟨by rfl, fun w _ => exec_built 25 _ rfl [(0, .int .i64 (A : Int)), (1, .int .i64 (B : Int)), (2, .agg (bvA X))] (by kernel_rfl) _ (built_cap _ _ _ HLX.out)⟩) hHeld ?_
    simp only [Act.put, List.getElem_toArray, List.getElem_cons_zero, List.getElem_cons_succ, List.setIfInBounds_toArray, List.set_cons_zero, List.set_cons_succ]
    refine wpAnyH_ready (rs := [9]) (by kernel_rfl) (by simp) (AllReadyH.cons rfl (fun K hK => ?_) AllReadyH.nil)
    rw [if_pos (by rfl)]
    have HC9 := Lib.hid ((HBR.out.blk w.heap.size 25 (capA 0 0 kZ) (List.Mem.tail _ (List.Mem.head _))).call HE.out)
    refine wp_storeA 25 (.tmp 3) (.tmp 35) rfl w.heap.size (capA (A : Int) (B : Int) X) rfl rfl 25 _ HC9.out (cap_sz _ _ _ HLX.out) (cap_old _ _ _ _ _ _ kZ_len HLX.out) (capA_one _ _ _) ?_
    intro v2 hn hg
    have HN9 : Hid (CB v2 w.heap.size 25 (capA (A : Int) (B : Int) X)) := Lib.hid hn
    have HE9 : Hid (Below w.heap.size w v2) := Lib.hid (grown_below (HBR.out.below.trans (HE.out.mono HBR.out.below.size)) hg (Nat.le_refl _) (Nat.le_trans HBR.out.below.size HE.out.size))
    have HP9 := Lib.hid (((HBR.out.blk gp 3 (#[.int .i64 p]) (List.Mem.tail _ (List.Mem.tail _ (List.Mem.tail _ (List.Mem.tail _ (List.Mem.head _)))))).call HE.out).grown hg (HNE.out.1))
    have HX9 := Lib.hid (BB.range ((((HBR.out.blk g7 23 (bvA X) (List.Mem.head _))).call HE.out).grown hg (HNE.out.2)))
    clear hn hg
    refine hK.out _ _ (⟨HP9.out.cell 0, HX9.out⟩) (fun hHeld => ?_)
    clear hK K
    try simp only [Act.put, List.getElem_toArray, List.getElem_cons_zero, List.getElem_cons_succ, List.setIfInBounds_toArray, List.set_cons_zero, List.set_cons_succ]
    refine wpAnyH_done (by kernel_rfl) ?_ _
    exact ⟨rfl, writes_ex (by kernel_rfl) (⟨HN9.out, HE9.out⟩)⟩
  rintro f w9 ⟨hn, hb⟩
  refine hK0 _ _ ?_
  clear hK0 K0
  simp only [writes, List.foldl_cons, List.foldl_nil, Act.put, List.setIfInBounds_toArray, List.set_cons_zero, List.set_cons_succ]
  go_wp2_with fail
  refine bodyPost_ret (v := .agg (capA (A : Int) (B : Int) X)) ?_ rfl ⟨rfl, hb⟩
  exact results_cell_row rfl _ _ w.heap.size 25 _ (0, 0) _ rfl hn cap_und rfl (cap_sz _ _ _ HLX.out)

set_option maxRecDepth 100000 in
set_option maxHeartbeats 800000 in
theorem lockC_bad (gp gs gk : Nat) (p : Int) (hp : ¬ IsEl p) (w : World) (hT : Tab w) (cp : CB w gp 3 #[.int .i64 p]) :
    Calls Tryz.prog 22 #[.pointer (some ⟨gp, 0, none⟩), .pointer (some ⟨gs, 0, none⟩), .pointer (some ⟨gk, 0, none⟩)] w fun e w' => e = .panicked (errP 40) ∧ Below w.heap.size w w' := by
  have K1 := Lib.hid (fun W => gCheck_bad p hp W)
  have kb := fun W => ensure_bad 40 (by decide) W
  have hzc := fun W => zero_cap W
  have HS : Hid (PX w [(gp, 3, #[.int .i64 p])] w) := Lib.hid ((PX.start hT).put cp)
  have HB0 := Lib.hid (HS.out.add 25 (capA 0 0 kZ) _ rfl)
  have c_p := KB1 (HB0.out.blk gp 3 #[.int .i64 p] (List.Mem.tail _ (List.Mem.head _)))
  clear hT cp hp HS
  go_enter Tryz.func22, Tryz.ntmps22
  go_wp2_with fail
  obtain ⟨wa, hwa⟩ : ∃ wa, wa = w.alloc (.cells (capA 0 0 kZ) 25) := ⟨_, rfl⟩
  rw [← hwa] at HB0 ⊢
  clear hwa c_p hzc
  with_reducible refine (K1.out _).mono ?_
  rintro e w1 ⟨rfl, hb⟩
  have HB1 := Lib.hid (HB0.out.call hb)
  clear hb HB0
  go_wp2_with (go_at_call 23; with_reducible refine (kb _).mono ?_; rintro e wo ⟨rfl, hwo⟩; rw [hwo]; clear hwo wo)
  exact ⟨rfl, rfl, HB1.out.below⟩
end Go.Proofs.YteigldfdaciopaaGreatDoor
