/-
  Package proxy: the functions that attempt calls: Open, Turn, Factor.
-/
import Derived.Test.YteigldfdaciopaaGreatDoorLh
namespace Go.Proofs.YteigldfdaciopaaGreatDoor
open Go.RowKit
set_option linter.unusedVariables false
set_option linter.unusedSimpArgs false

theorem pvR1_ok {x : Nat} (h : PkQ x) : pvR [(x : Int)] = 0 := by
  unfold pvR pvB PkQ at *
  rw [if_pos]
  simp only [List.all_cons, List.all_nil, Bool.and_true]
  exact decide_eq_true (by omega)
theorem pvR1_bad {x : Int} (h : ¬ (1 ≤ x ∧ x < 2305843009213688669)) : pvR [x] = 50 := by
  unfold pvR pvB
  rw [if_neg]
  simp only [List.all_cons, List.all_nil, Bool.and_true]
  rw [decide_eq_false h]; decide
theorem pvR2_ok {x y : Nat} (h : PkQ x) (h2 : PkQ y) : pvR [(x : Int), (y : Int)] = 0 := by
  unfold pvR pvB PkQ at *
  rw [if_pos]
  simp only [List.all_cons, List.all_nil, Bool.and_true]
  rw [decide_eq_true (by omega), decide_eq_true (by omega)]; rfl
theorem pvR2_bad {x y : Int} (h : ¬ ((1 ≤ x ∧ x < 2305843009213688669) ∧ (1 ≤ y ∧ y < 2305843009213688669))) : pvR [x, y] = 50 := by
  unfold pvR pvB
  rw [if_neg]
  simp only [List.all_cons, List.all_nil, Bool.and_true, Bool.and_eq_true, decide_eq_true_eq]
  exact h
theorem private1 (g : Nat) (x : Int) (w : World) (h : CB w g 3 #[.int .i64 x]) :
    Calls Tryz.prog 38 #[.slice (some ⟨g, 0, none⟩) 1 1] w fun e w' => e = .returned (.int .i64 (pvR [x])) ∧ w' = w := private_any g [x] w (by simp) (rdn1 h)
theorem private2 (g : Nat) (x y : Int) (w : World) (h : CB w g 3 #[.int .i64 x, .int .i64 y]) :
    Calls Tryz.prog 38 #[.slice (some ⟨g, 0, none⟩) 2 2] w fun e w' => e = .returned (.int .i64 (pvR [x, y])) ∧ w' = w := private_any g [x, y] w (by simp) (rdn2 h)

set_option maxRecDepth 100000 in
set_option maxHeartbeats 800000 in
theorem openC_ok (gx gc x a b : Nat) (l : List UInt8) (hx : PkQ x) (ha : IsEl (a : Int)) (hb0 : IsEl (b : Int)) (hl : l.length = 32) (w : World) (hT : Tab w) (cx : CB w gx 3 #[.int .i64 x]) (cc : CB w gc 25 (capA a b l)) :
    Calls Tryz.prog 37 #[.pointer (some ⟨gx, 0, none⟩), .pointer (some ⟨gc, 0, none⟩)] w fun e w' => e = .returned (.agg (bvA (kxor l (pmS ((opM x a b : Nat) : Int))))) ∧ Below w.heap.size w w' := by
  have HPV : Hid (pvR [(x : Int)] = 0) := Lib.hid (pvR1_ok hx)
  have HCK : Hid (ckR (a : Int) (b : Int) = 0) := Lib.hid (ckR_ok ha hb0)
  have k0 := fun W => ensure_ok W
  have KC := Lib.hid (fun W => pCheck11_any (a : Int) (b : Int) l hl W)
  have KP := Lib.hid (fun W (ga gx : Nat) (hT : Tab W) (h1 : CB W ga 3 #[.int .i64 a]) (h2 : CB W gx 3 #[.int .i64 x]) => pass_open ga gx a x b ha hx hb0 l hl W hT h1 h2)
  have HLX : Hid ((kxor l (pmS ((opM x a b : Nat) : Int))).length = 32) := Lib.hid (kxor_len hl (pmS_len _))
  obtain ⟨X, hX⟩ : ∃ X, kxor l (pmS ((opM x a b : Nat) : Int)) = X := ⟨_, rfl⟩
  rw [hX] at KP HLX ⊢
  obtain ⟨M, hM⟩ : ∃ M, opM x a b = M := ⟨_, rfl⟩
  rw [hM] at KP
  have hzz := fun W => zero_ky W
  have HLL := Lib.hid hl
  clear hX hM hx ha hb0 hl
  have HLZ := Lib.hid kZ_len
  have HS : Hid (PX w [(gc, 25, capA a b l), (gx, 3, #[.int .i64 x])] w) := Lib.hid (((PX.start hT).put (T := 3) (cs := #[.int .i64 x]) cx).put (T := 25) (cs := capA a b l) cc)
  have HB0 := Lib.hid (HS.out.add 23 (bvA kZ) _ rfl)
  have c_x := KB1 (HB0.out.blk gx 3 (#[.int .i64 x]) (List.Mem.tail _ (List.Mem.tail _ (List.Mem.head _))))
  have HB1 := Lib.hid (HB0.out.add 3 #[.int .i64 (x : Int)] (w.heap.size + 1) (by simp))
  obtain ⟨wb, hwb⟩ : ∃ wb, wb = (w.alloc (.cells (bvA kZ) 23)).alloc (.cells #[.int .i64 (x : Int)] 3) := ⟨_, rfl⟩
  have HWB : Hid ((w.alloc (.cells (bvA kZ) 23)).alloc (.cells #[.int .i64 (x : Int)] 3) = wb) := Lib.hid hwb.symm
  rw [← hwb] at HB1
  clear HB0 HS hwb hT cx cc
  go_enter Tryz.func37, Tryz.ntmps37
  go_wp2_with fail
  rw [HWB.out]
  clear HWB hzz c_x
  with_reducible refine (private1 _ _ _ (HB1.out.blk (w.heap.size + 1) 3 #[.int .i64 (x : Int)] (List.Mem.head _))).mono ?_
  rintro e wo ⟨rfl, hwo⟩
  rw [hwo]
  clear hwo wo
  rw [HPV.out]
  go_wp2_with (first
    | (go_at_call 23; with_reducible refine (k0 _).mono ?_; rintro e wo ⟨rfl, hwo⟩; rw [hwo]; clear hwo wo)
    | (refine wpList_load_row rfl 25 (.tmp 1) rfl gc rfl _ (capA a b l) (0, 0) _ (HB1.out.blk gc 25 (capA a b l) (List.Mem.tail _ (List.Mem.tail _ (List.Mem.head _)))) cap_und rfl (cap_sz _ _ _ HLL.out) ?_))
  with_reducible refine (KC.out _).mono ?_
  rintro e w2 ⟨rfl, hb⟩
  have HB2 := Lib.hid (HB1.out.call hb)
  clear hb HB1
  rw [HCK.out]
  go_wp2_with (go_at_call 23; with_reducible refine (k0 _).mono ?_; rintro e wo ⟨rfl, hwo⟩; rw [hwo]; clear hwo wo)
  rename_i K0 hK0
  refine region_writes [13, 14, 15, 16, 17, 18, 19, 20, 21, 12, 22, 23, 4, 3] (fun f W => ∃ g, f 4 = .pointer (some ⟨g, 0, none⟩) ∧ BB W g 23 X ∧ w.heap.size < g ∧ Below w2.heap.size w2 W) ?_ ?_
  rotate_left
  · clear hK0 K0
    have HE : Hid (Below w2.heap.size w2 w2.drew) := Lib.hid ((Below.refl _ _).drew)
    have HSB : Hid (∀ W, Below w2.heap.size w2 W → (W.cell? ⟨gx, 0, none⟩ = some (.int .i64 (x : Int)) ∧ W.cell? ⟨gc, 0, none⟩ = some (.int .i64 (a : Int)) ∧ W.cell? ⟨gc, 1, none⟩ = some (.int .i64 (b : Int)) ∧ W.rangeAt gc 2 (l.map bv))) := Lib.hid (fun W hW => ⟨((HB2.out.blk gx 3 (#[.int .i64 x]) (List.Mem.tail _ (List.Mem.tail _ (List.Mem.tail _ (List.Mem.head _))))).call hW).cell 0, ((HB2.out.blk gc 25 (capA a b l) (List.Mem.tail _ (List.Mem.tail _ (List.Mem.head _)))).call hW).A, ((HB2.out.blk gc 25 (capA a b l) (List.Mem.tail _ (List.Mem.tail _ (List.Mem.head _)))).call hW).B, ((HB2.out.blk gc 25 (capA a b l) (List.Mem.tail _ (List.Mem.tail _ (List.Mem.head _)))).call hW).pad⟩)
    refine wp_region_held_drew (S := fun W => W.cell? ⟨gx, 0, none⟩ = some (.int .i64 (x : Int)) ∧ W.cell? ⟨gc, 0, none⟩ = some (.int .i64 (a : Int)) ∧ W.cell? ⟨gc, 1, none⟩ = some (.int .i64 (b : Int)) ∧ W.rangeAt gc 2 (l.map bv)) (by kernel_rfl) (HSB.out _ HE.out) (fun hHeld => ?_)
    refine wpAnyH_take (i := 0) (v := .int .i64 (x : Int)) rfl (by kernel_rfl) (by kernel_rfl) (by kernel_rfl) (fun _ _ _ h => nomatch h.1) (Or.inl ⟨by rfl, fun w hw => by obtain ⟨h1, h2, h3, h4⟩ := hw; go_simp⟩) hHeld ?_
    simp only [Act.put, List.getElem_toArray, List.getElem_cons_zero, List.getElem_cons_succ, List.setIfInBounds_toArray, List.set_cons_zero, List.set_cons_succ]
    refine wpAnyH_take (i := 1) (v := .pointer (some ⟨gc, 0, none⟩)) rfl (by kernel_rfl) (by kernel_rfl) (by kernel_rfl) (fun _ _ _ h => nomatch h.1) (Or.inl ⟨by rfl, fun w _ => by go_simp⟩) hHeld ?_
    simp only [Act.put, List.getElem_toArray, List.getElem_cons_zero, List.getElem_cons_succ, List.setIfInBounds_toArray, List.set_cons_zero, List.set_cons_succ]
    refine wpAnyH_take (i := 2) (v := .int .i64 (a : Int)) rfl (by kernel_rfl) (by kernel_rfl) (by kernel_rfl) (fun _ _ _ h => nomatch h.1) (Or.inl ⟨by rfl, fun w hw => by obtain ⟨h1, h2, h3, h4⟩ := hw; go_simp⟩) hHeld ?_
    simp only [Act.put, List.getElem_toArray, List.getElem_cons_zero, List.getElem_cons_succ, List.setIfInBounds_toArray, List.set_cons_zero, List.set_cons_succ]
    refine wpAnyH_take (i := 4) (v := .pointer (some ⟨gc, 1, none⟩)) rfl (by kernel_rfl) (by kernel_rfl) (by kernel_rfl) (fun _ _ _ h => nomatch h.1) (Or.inl ⟨by rfl, fun w _ => by go_simp⟩) hHeld ?_
    simp only [Act.put, List.getElem_toArray, List.getElem_cons_zero, List.getElem_cons_succ, List.setIfInBounds_toArray, List.set_cons_zero, List.set_cons_succ]
    refine wpAnyH_take (i := 5) (v := .int .i64 (b : Int)) rfl (by kernel_rfl) (by kernel_rfl) (by kernel_rfl) (fun _ _ _ h => nomatch h.1) (Or.inl ⟨by rfl, fun w hw => by obtain ⟨h1, h2, h3, h4⟩ := hw; go_simp⟩) hHeld ?_
    simp only [Act.put, List.getElem_toArray, List.getElem_cons_zero, List.getElem_cons_succ, List.setIfInBounds_toArray, List.set_cons_zero, List.set_cons_succ]
    refine wpAnyH_take (i := 6) (v := .pointer (some ⟨gc, 2, none⟩)) rfl (by kernel_rfl) (by kernel_rfl) (by kernel_rfl) (fun _ _ _ h => nomatch h.1) (Or.inl ⟨by rfl, fun w _ => by go_simp⟩) hHeld ?_
    simp only [Act.put, List.getElem_toArray, List.getElem_cons_zero, List.getElem_cons_succ, List.setIfInBounds_toArray, List.set_cons_zero, List.set_cons_succ]
    refine wpAnyH_take (i := 7) (v := .agg (bvA l)) rfl (by kernel_rfl) (by kernel_rfl) (by kernel_rfl) (fun _ _ _ h => nomatch h.1) (yieldsIf_load_mid (by rfl) 23 (.tmp 19) rfl gc 2 rfl (l.map bv) _ (fun _ h => h.2.2.2) key_und rfl (key_szl _ HLL.out)) hHeld ?_
    simp only [Act.put, List.getElem_toArray, List.getElem_cons_zero, List.getElem_cons_succ, List.setIfInBounds_toArray, List.set_cons_zero, List.set_cons_succ]
    refine wpAnyH_ready (rs := [3, 12]) (by kernel_rfl) (by simp) (AllReadyH.cons rfl (fun K hK => ?_) (AllReadyH.cons rfl (fun K hK => ?_) AllReadyH.nil))
    · rw [if_pos (by rfl)]
      go_simp
      with_reducible refine (opening_ex (x : Int) (a : Int) w2.drew).mono ?_
      rintro e v1 ⟨ga, gy, rfl, hca, hcy, hb⟩
      have HGA := Lib.hid (hca)
      have HGY := Lib.hid (hcy)
      replace HE := Lib.hid (HE.out.trans (hb.mono HE.out.size))
      clear hb
      refine hK.out _ _ (HSB.out _ HE.out) (fun hHeld => ?_)
      clear hK K
      try simp only [Act.put, List.getElem_toArray, List.getElem_cons_zero, List.getElem_cons_succ, List.setIfInBounds_toArray, List.set_cons_zero, List.set_cons_succ]
      refine wpAnyH_ready (rs := [8, 12]) (by kernel_rfl) (by simp) (AllReadyH.cons rfl (fun K hK => ?_) (AllReadyH.cons rfl (fun K hK => ?_) AllReadyH.nil))
      · rw [if_pos (by rfl)]
        go_simp
        with_reducible refine (KP.out v1 ga gy (HB2.out.call HE.out).tab HGA.out HGY.out).mono ?_
        rintro e v2 ⟨rfl, hb⟩
        replace HGA := Lib.hid (HGA.out.call hb)
        replace HGY := Lib.hid (HGY.out.call hb)
        replace HE := Lib.hid (HE.out.trans (hb.mono HE.out.size))
        clear hb
        refine hK.out _ _ (HSB.out _ HE.out) (fun hHeld => ?_)
        clear hK K
        try simp only [Act.put, List.getElem_toArray, List.getElem_cons_zero, List.getElem_cons_succ, List.setIfInBounds_toArray, List.set_cons_zero, List.set_cons_succ]
        refine wpAnyH_take (i := 9) (v := .tuple #[.int .i64 (M : Int), .agg (bvA X)]) rfl (by kernel_rfl) (by kernel_rfl) (by kernel_rfl) (fun _ _ _ h => nomatch h.1) (Or.inl ⟨by rfl, fun w _ => by go_simp⟩) hHeld ?_
        simp only [Act.put, List.getElem_toArray, List.getElem_cons_zero, List.getElem_cons_succ, List.setIfInBounds_toArray, List.set_cons_zero, List.set_cons_succ]
        refine wpAnyH_take (i := 10) (v := .int .i64 (M : Int)) rfl (by kernel_rfl) (by kernel_rfl) (by kernel_rfl) (fun _ _ _ h => nomatch h.1) (Or.inl ⟨by rfl, fun w _ => by go_simp⟩) hHeld ?_
        simp only [Act.put, List.getElem_toArray, List.getElem_cons_zero, List.getElem_cons_succ, List.setIfInBounds_toArray, List.set_cons_zero, List.set_cons_succ]
        refine wpAnyH_take (i := 11) (v := .agg (bvA X)) rfl (by kernel_rfl) (by kernel_rfl) (by kernel_rfl) (fun _ _ _ h => nomatch h.1) (Or.inl ⟨by rfl, fun w _ => by go_simp⟩) hHeld ?_
        simp only [Act.put, List.getElem_toArray, List.getElem_cons_zero, List.getElem_cons_succ, List.setIfInBounds_toArray, List.set_cons_zero, List.set_cons_succ]
        refine wpAnyH_ready (rs := [12]) (by kernel_rfl) (by simp) (AllReadyH.cons rfl (fun K hK => ?_) AllReadyH.nil)
        rw [if_pos (by rfl)]
        refine wp_allocKy rfl ?_
        intro v3 g8 hn hge hb
        replace HGA := Lib.hid (HGA.out.call hb)
        replace HGY := Lib.hid (HGY.out.call hb)
        have HN := Lib.hid hn
        have HNg : Hid (w2.heap.size ≤ g8) := Lib.hid (Nat.le_trans HE.out.size hge)
        replace HE := Lib.hid (HE.out.trans (hb.mono HE.out.size))
        clear hn hge hb
        refine hK.out _ _ (HSB.out _ HE.out) (fun hHeld => ?_)
        clear hK K
        try simp only [Act.put, List.getElem_toArray, List.getElem_cons_zero, List.getElem_cons_succ, List.setIfInBounds_toArray, List.set_cons_zero, List.set_cons_succ]
        refine wpAnyH_take (i := 13) (v := .int .i64 (M : Int)) rfl (by kernel_rfl) (by kernel_rfl) (by kernel_rfl) (fun _ _ _ h => nomatch h.1) (Or.inl ⟨by rfl, fun w _ => by go_simp⟩) hHeld ?_
        simp only [Act.put, List.getElem_toArray, List.getElem_cons_zero, List.getElem_cons_succ, List.setIfInBounds_toArray, List.set_cons_zero, List.set_cons_succ]
        refine wpAnyH_ready (rs := [14]) (by kernel_rfl) (by simp) (AllReadyH.cons rfl (fun K hK => ?_) AllReadyH.nil)
        rw [if_pos (by rfl)]
        refine wp_storeA 23 (.tmp 4) (.tmp 23) rfl g8 (bvA X) rfl rfl 23 _ HN.out (key_sz _ HLX.out) (key_old _ HLX.out) (bvA_one _) ?_
        intro v4 hn hg
        have HN9 := Lib.hid hn
        replace HE := Lib.hid (grown_below HE.out hg HNg.out HE.out.size)
        clear hn hg HN
        refine hK.out _ _ (HSB.out _ HE.out) (fun hHeld => ?_)
        clear hK K
        try simp only [Act.put, List.getElem_toArray, List.getElem_cons_zero, List.getElem_cons_succ, List.setIfInBounds_toArray, List.set_cons_zero, List.set_cons_succ]
        refine wpAnyH_done (by kernel_rfl) ?_ _
        exact ⟨rfl, writes_ex (by kernel_rfl) (⟨g8, rfl, HN9.out, Nat.lt_of_lt_of_le ((HB2.out.blk w.heap.size 23 (bvA kZ) (List.Mem.tail _ (List.Mem.head _))).lt) HNg.out, HE.out⟩)⟩
      · rw [if_pos (by rfl)]
        refine wp_allocKy rfl ?_
        intro v5 g8 hn hge hb
        replace HGA := Lib.hid (HGA.out.call hb)
        replace HGY := Lib.hid (HGY.out.call hb)
        have HN := Lib.hid hn
        have HNg : Hid (w2.heap.size ≤ g8) := Lib.hid (Nat.le_trans HE.out.size hge)
        replace HE := Lib.hid (HE.out.trans (hb.mono HE.out.size))
        clear hn hge hb
        refine hK.out _ _ (HSB.out _ HE.out) (fun hHeld => ?_)
        clear hK K
        try simp only [Act.put, List.getElem_toArray, List.getElem_cons_zero, List.getElem_cons_succ, List.setIfInBounds_toArray, List.set_cons_zero, List.set_cons_succ]
        refine wpAnyH_ready (rs := [8]) (by kernel_rfl) (by simp) (AllReadyH.cons rfl (fun K hK => ?_) AllReadyH.nil)
        rw [if_pos (by rfl)]
        go_simp
        with_reducible refine (KP.out v5 ga gy (HB2.out.call HE.out).tab HGA.out HGY.out).mono ?_
        rintro e v6 ⟨rfl, hb⟩
        replace HGA := Lib.hid (HGA.out.call hb)
        replace HGY := Lib.hid (HGY.out.call hb)
        replace HN := Lib.hid (HN.out.below hb HN.out.lt)
        replace HE := Lib.hid (HE.out.trans (hb.mono HE.out.size))
        clear hb
        refine hK.out _ _ (HSB.out _ HE.out) (fun hHeld => ?_)
        clear hK K
        try simp only [Act.put, List.getElem_toArray, List.getElem_cons_zero, List.getElem_cons_succ, List.setIfInBounds_toArray, List.set_cons_zero, List.set_cons_succ]
        refine wpAnyH_take (i := 9) (v := .tuple #[.int .i64 (M : Int), .agg (bvA X)]) rfl (by kernel_rfl) (by kernel_rfl) (by kernel_rfl) (fun _ _ _ h => nomatch h.1) (Or.inl ⟨by rfl, fun w _ => by go_simp⟩) hHeld ?_
        simp only [Act.put, List.getElem_toArray, List.getElem_cons_zero, List.getElem_cons_succ, List.setIfInBounds_toArray, List.set_cons_zero, List.set_cons_succ]
        refine wpAnyH_take (i := 10) (v := .int .i64 (M : Int)) rfl (by kernel_rfl) (by kernel_rfl) (by kernel_rfl) (fun _ _ _ h => nomatch h.1) (Or.inl ⟨by rfl, fun w _ => by go_simp⟩) hHeld ?_
        simp only [Act.put, List.getElem_toArray, List.getElem_cons_zero, List.getElem_cons_succ, List.setIfInBounds_toArray, List.set_cons_zero, List.set_cons_succ]
        refine wpAnyH_take (i := 11) (v := .agg (bvA X)) rfl (by kernel_rfl) (by kernel_rfl) (by kernel_rfl) (fun _ _ _ h => nomatch h.1) (Or.inl ⟨by rfl, fun w _ => by go_simp⟩) hHeld ?_
        simp only [Act.put, List.getElem_toArray, List.getElem_cons_zero, List.getElem_cons_succ, List.setIfInBounds_toArray, List.set_cons_zero, List.set_cons_succ]
        refine wpAnyH_take (i := 13) (v := .int .i64 (M : Int)) rfl (by kernel_rfl) (by kernel_rfl) (by kernel_rfl) (fun _ _ _ h => nomatch h.1) (Or.inl ⟨by rfl, fun w _ => by go_simp⟩) hHeld ?_
        simp only [Act.put, List.getElem_toArray, List.getElem_cons_zero, List.getElem_cons_succ, List.setIfInBounds_toArray, List.set_cons_zero, List.set_cons_succ]
        refine wpAnyH_ready (rs := [14]) (by kernel_rfl) (by simp) (AllReadyH.cons rfl (fun K hK => ?_) AllReadyH.nil)
        rw [if_pos (by rfl)]
        refine wp_storeA 23 (.tmp 4) (.tmp 23) rfl g8 (bvA X) rfl rfl 23 _ HN.out (key_sz _ HLX.out) (key_old _ HLX.out) (bvA_one _) ?_
        intro v7 hn hg
        have HN9 := Lib.hid hn
        replace HE := Lib.hid (grown_below HE.out hg HNg.out HE.out.size)
        clear hn hg HN
        refine hK.out _ _ (HSB.out _ HE.out) (fun hHeld => ?_)
        clear hK K
        try simp only [Act.put, List.getElem_toArray, List.getElem_cons_zero, List.getElem_cons_succ, List.setIfInBounds_toArray, List.set_cons_zero, List.set_cons_succ]
        refine wpAnyH_done (by kernel_rfl) ?_ _
        exact ⟨rfl, writes_ex (by kernel_rfl) (⟨g8, rfl, HN9.out, Nat.lt_of_lt_of_le ((HB2.out.blk w.heap.size 23 (bvA kZ) (List.Mem.tail _ (List.Mem.head _))).lt) HNg.out, HE.out⟩)⟩
    · rw [if_pos (by rfl)]
      refine wp_allocKy rfl ?_
      intro v8 g8 hn hge hb
      have HN := Lib.hid hn
      have HNg : Hid (w2.heap.size ≤ g8) := Lib.hid (Nat.le_trans HE.out.size hge)
      replace HE := Lib.hid (HE.out.trans (hb.mono HE.out.size))
      clear hn hge hb
      refine hK.out _ _ (HSB.out _ HE.out) (fun hHeld => ?_)
      clear hK K
      try simp only [Act.put, List.getElem_toArray, List.getElem_cons_zero, List.getElem_cons_succ, List.setIfInBounds_toArray, List.set_cons_zero, List.set_cons_succ]
      refine wpAnyH_ready (rs := [3]) (by kernel_rfl) (by simp) (AllReadyH.cons rfl (fun K hK => ?_) AllReadyH.nil)
      rw [if_pos (by rfl)]
      go_simp
      with_reducible refine (opening_ex (x : Int) (a : Int) v8).mono ?_
      rintro e v9 ⟨ga, gy, rfl, hca, hcy, hb⟩
      replace HN := Lib.hid (HN.out.below hb HN.out.lt)
      have HGA := Lib.hid (hca)
      have HGY := Lib.hid (hcy)
      replace HE := Lib.hid (HE.out.trans (hb.mono HE.out.size))
      clear hb
      refine hK.out _ _ (HSB.out _ HE.out) (fun hHeld => ?_)
      clear hK K
      try simp only [Act.put, List.getElem_toArray, List.getElem_cons_zero, List.getElem_cons_succ, List.setIfInBounds_toArray, List.set_cons_zero, List.set_cons_succ]
      refine wpAnyH_ready (rs := [8]) (by kernel_rfl) (by simp) (AllReadyH.cons rfl (fun K hK => ?_) AllReadyH.nil)
      rw [if_pos (by rfl)]
      go_simp
      with_reducible refine (KP.out v9 ga gy (HB2.out.call HE.out).tab HGA.out HGY.out).mono ?_
      rintro e v10 ⟨rfl, hb⟩
      replace HN := Lib.hid (HN.out.below hb HN.out.lt)
      replace HGA := Lib.hid (HGA.out.call hb)
      replace HGY := Lib.hid (HGY.out.call hb)
      replace HE := Lib.hid (HE.out.trans (hb.mono HE.out.size))
      clear hb
      refine hK.out _ _ (HSB.out _ HE.out) (fun hHeld => ?_)
      clear hK K
      try simp only [Act.put, List.getElem_toArray, List.getElem_cons_zero, List.getElem_cons_succ, List.setIfInBounds_toArray, List.set_cons_zero, List.set_cons_succ]
      refine wpAnyH_take (i := 9) (v := .tuple #[.int .i64 (M : Int), .agg (bvA X)]) rfl (by kernel_rfl) (by kernel_rfl) (by kernel_rfl) (fun _ _ _ h => nomatch h.1) (Or.inl ⟨by rfl, fun w _ => by go_simp⟩) hHeld ?_
      simp only [Act.put, List.getElem_toArray, List.getElem_cons_zero, List.getElem_cons_succ, List.setIfInBounds_toArray, List.set_cons_zero, List.set_cons_succ]
      refine wpAnyH_take (i := 10) (v := .int .i64 (M : Int)) rfl (by kernel_rfl) (by kernel_rfl) (by kernel_rfl) (fun _ _ _ h => nomatch h.1) (Or.inl ⟨by rfl, fun w _ => by go_simp⟩) hHeld ?_
      simp only [Act.put, List.getElem_toArray, List.getElem_cons_zero, List.getElem_cons_succ, List.setIfInBounds_toArray, List.set_cons_zero, List.set_cons_succ]
      refine wpAnyH_take (i := 11) (v := .agg (bvA X)) rfl (by kernel_rfl) (by kernel_rfl) (by kernel_rfl) (fun _ _ _ h => nomatch h.1) (Or.inl ⟨by rfl, fun w _ => by go_simp⟩) hHeld ?_
      simp only [Act.put, List.getElem_toArray, List.getElem_cons_zero, List.getElem_cons_succ, List.setIfInBounds_toArray, List.set_cons_zero, List.set_cons_succ]
      refine wpAnyH_take (i := 13) (v := .int .i64 (M : Int)) rfl (by kernel_rfl) (by kernel_rfl) (by kernel_rfl) (fun _ _ _ h => nomatch h.1) (Or.inl ⟨by rfl, fun w _ => by go_simp⟩) hHeld ?_
      simp only [Act.put, List.getElem_toArray, List.getElem_cons_zero, List.getElem_cons_succ, List.setIfInBounds_toArray, List.set_cons_zero, List.set_cons_succ]
      refine wpAnyH_ready (rs := [14]) (by kernel_rfl) (by simp) (AllReadyH.cons rfl (fun K hK => ?_) AllReadyH.nil)
      rw [if_pos (by rfl)]
      refine wp_storeA 23 (.tmp 4) (.tmp 23) rfl g8 (bvA X) rfl rfl 23 _ HN.out (key_sz _ HLX.out) (key_old _ HLX.out) (bvA_one _) ?_
      intro v11 hn hg
      have HN9 := Lib.hid hn
      replace HE := Lib.hid (grown_below HE.out hg HNg.out HE.out.size)
      clear hn hg HN
      refine hK.out _ _ (HSB.out _ HE.out) (fun hHeld => ?_)
      clear hK K
      try simp only [Act.put, List.getElem_toArray, List.getElem_cons_zero, List.getElem_cons_succ, List.setIfInBounds_toArray, List.set_cons_zero, List.set_cons_succ]
      refine wpAnyH_done (by kernel_rfl) ?_ _
      exact ⟨rfl, writes_ex (by kernel_rfl) (⟨g8, rfl, HN9.out, Nat.lt_of_lt_of_le ((HB2.out.blk w.heap.size 23 (bvA kZ) (List.Mem.tail _ (List.Mem.head _))).lt) HNg.out, HE.out⟩)⟩
  rintro f wr ⟨g7, e7, hn, hlt, hb⟩
  have HBR := Lib.hid ((HB2.out.call hb).put (T := 23) (cs := bvA X) hn)
  clear hn hb hlt HB2
  refine hK0 _ _ ?_
  clear hK0 K0
  simp only [writes, List.foldl_cons, List.foldl_nil, Act.put, List.setIfInBounds_toArray, List.set_cons_zero, List.set_cons_succ]
  rw [e7]
  clear e7
  go_wp2_with (first
    | (refine wpList_load_row rfl 23 (.tmp 4) rfl g7 rfl _ (bvA X) (0, 0) _ (HBR.out.blk g7 23 (bvA X) (List.Mem.head _)) key_und rfl (key_sz _ HLX.out) ?_)
    | (refine wpList_storeA rfl 23 (.tmp 2) (.tmp 24) rfl w.heap.size (bvA X) rfl rfl 23 _ (HBR.out.blk w.heap.size 23 (bvA kZ) (List.Mem.tail _ (List.Mem.tail _ (List.Mem.head _)))) (key_sz _ HLX.out) (key_old _ HLX.out) (bvA_one _) ?_))
  intro w9 hn hg
  have hB9 := grown_below HBR.out.below hg (Nat.le_refl _) HBR.out.below.size
  go_wp2_with fail
  refine bodyPost_ret (v := .agg (bvA X)) ?_ rfl ⟨rfl, hB9⟩
  exact results_cell_row rfl _ _ w.heap.size 23 _ (0, 0) _ rfl hn key_und rfl (key_sz _ HLX.out)

set_option maxRecDepth 100000 in
set_option maxHeartbeats 800000 in
theorem openC_key (gx gc : Nat) (x a b : Int) (l : List UInt8) (hl : l.length = 32) (hx : ¬ (1 ≤ x ∧ x < 2305843009213688669)) (w : World) (hT : Tab w) (cx : CB w gx 3 #[.int .i64 x]) (cc : CB w gc 25 (capA a b l)) :
    Calls Tryz.prog 37 #[.pointer (some ⟨gx, 0, none⟩), .pointer (some ⟨gc, 0, none⟩)] w fun e w' => e = .panicked (errP 50) ∧ Below w.heap.size w w' := by
  have HPV : Hid (pvR [x] = 50) := Lib.hid (pvR1_bad hx)
  have kb := fun W => ensure_bad 50 (by decide) W
  have hzz := fun W => zero_ky W
  have HLL := Lib.hid hl
  clear hx hl
  have HLZ := Lib.hid kZ_len
  have HS : Hid (PX w [(gc, 25, capA a b l), (gx, 3, #[.int .i64 x])] w) := Lib.hid (((PX.start hT).put (T := 3) (cs := #[.int .i64 x]) cx).put (T := 25) (cs := capA a b l) cc)
  have HB0 := Lib.hid (HS.out.add 23 (bvA kZ) _ rfl)
  have c_x := KB1 (HB0.out.blk gx 3 (#[.int .i64 x]) (List.Mem.tail _ (List.Mem.tail _ (List.Mem.head _))))
  have HB1 := Lib.hid (HB0.out.add 3 #[.int .i64 x] (w.heap.size + 1) (by simp))
  obtain ⟨wb, hwb⟩ : ∃ wb, wb = (w.alloc (.cells (bvA kZ) 23)).alloc (.cells #[.int .i64 x] 3) := ⟨_, rfl⟩
  have HWB : Hid ((w.alloc (.cells (bvA kZ) 23)).alloc (.cells #[.int .i64 x] 3) = wb) := Lib.hid hwb.symm
  rw [← hwb] at HB1
  clear HB0 HS hwb hT cx cc
  go_enter Tryz.func37, Tryz.ntmps37
  go_wp2_with fail
  rw [HWB.out]
  clear HWB hzz c_x
  with_reducible refine (private1 _ _ _ (HB1.out.blk (w.heap.size + 1) 3 #[.int .i64 x] (List.Mem.head _))).mono ?_
  rintro e wo ⟨rfl, hwo⟩
  rw [hwo]
  clear hwo wo
  rw [HPV.out]
  go_wp2_with (go_at_call 23; with_reducible refine (kb _).mono ?_; rintro e wo ⟨rfl, hwo⟩; rw [hwo]; clear hwo wo)
  exact ⟨rfl, rfl, HB1.out.below⟩

set_option maxRecDepth 100000 in
set_option maxHeartbeats 800000 in
theorem openC_cap (gx gc x : Nat) (a b : Int) (l : List UInt8) (hl : l.length = 32) (hx : PkQ x) (hab : ¬ (IsEl a ∧ IsEl b)) (w : World) (hT : Tab w) (cx : CB w gx 3 #[.int .i64 x]) (cc : CB w gc 25 (capA a b l)) :
    Calls Tryz.prog 37 #[.pointer (some ⟨gx, 0, none⟩), .pointer (some ⟨gc, 0, none⟩)] w fun e w' => e = .panicked (errP 110) ∧ Below w.heap.size w w' := by
  have HPV : Hid (pvR [(x : Int)] = 0) := Lib.hid (pvR1_ok hx)
  have HCK : Hid (ckR a b = 110) := Lib.hid (ckR_bad hab)
  have k0 := fun W => ensure_ok W
  have KC := Lib.hid (fun W => pCheck11_any a b l hl W)
  have kb := fun W => ensure_bad 110 (by decide) W
  have hzz := fun W => zero_ky W
  have HLL := Lib.hid hl
  clear hx hab hl
  have HLZ := Lib.hid kZ_len
  have HS : Hid (PX w [(gc, 25, capA a b l), (gx, 3, #[.int .i64 x])] w) := Lib.hid (((PX.start hT).put (T := 3) (cs := #[.int .i64 x]) cx).put (T := 25) (cs := capA a b l) cc)
  have HB0 := Lib.hid (HS.out.add 23 (bvA kZ) _ rfl)
  have c_x := KB1 (HB0.out.blk gx 3 (#[.int .i64 x]) (List.Mem.tail _ (List.Mem.tail _ (List.Mem.head _))))
  have HB1 := Lib.hid (HB0.out.add 3 #[.int .i64 (x : Int)] (w.heap.size + 1) (by simp))
  obtain ⟨wb, hwb⟩ : ∃ wb, wb = (w.alloc (.cells (bvA kZ) 23)).alloc (.cells #[.int .i64 (x : Int)] 3) := ⟨_, rfl⟩
  have HWB : Hid ((w.alloc (.cells (bvA kZ) 23)).alloc (.cells #[.int .i64 (x : Int)] 3) = wb) := Lib.hid hwb.symm
  rw [← hwb] at HB1
  clear HB0 HS hwb hT cx cc
  go_enter Tryz.func37, Tryz.ntmps37
  go_wp2_with fail
  rw [HWB.out]
  clear HWB hzz c_x
  with_reducible refine (private1 _ _ _ (HB1.out.blk (w.heap.size + 1) 3 #[.int .i64 (x : Int)] (List.Mem.head _))).mono ?_
  rintro e wo ⟨rfl, hwo⟩
  rw [hwo]
  clear hwo wo
  rw [HPV.out]
  go_wp2_with (first
    | (go_at_call 23; with_reducible refine (k0 _).mono ?_; rintro e wo ⟨rfl, hwo⟩; rw [hwo]; clear hwo wo)
    | (refine wpList_load_row rfl 25 (.tmp 1) rfl gc rfl _ (capA a b l) (0, 0) _ (HB1.out.blk gc 25 (capA a b l) (List.Mem.tail _ (List.Mem.tail _ (List.Mem.head _)))) cap_und rfl (cap_sz _ _ _ HLL.out) ?_))
  with_reducible refine (KC.out _).mono ?_
  rintro e w2 ⟨rfl, hb⟩
  have HB2 := Lib.hid (HB1.out.call hb)
  clear hb HB1
  rw [HCK.out]
  go_wp2_with (go_at_call 23; with_reducible refine (kb _).mono ?_; rintro e wo ⟨rfl, hwo⟩; rw [hwo]; clear hwo wo)
  exact ⟨rfl, rfl, HB2.out.below⟩

set_option maxRecDepth 100000 in
set_option maxHeartbeats 800000 in
theorem turnC_ok (gx gc x a b : Nat) (l : List UInt8) (hx : PkQ x) (ha : IsEl (a : Int)) (hb0 : IsEl (b : Int)) (hl : l.length = 32) (w : World) (hT : Tab w) (cx : CB w gx 3 #[.int .i64 x]) (cc : CB w gc 25 (capA a b l)) :
    Calls Tryz.prog 48 #[.pointer (some ⟨gx, 0, none⟩), .pointer (some ⟨gc, 0, none⟩)] w fun e w' => e = .returned (.agg (capA ((a ^ x % 4611686018427377339 : Nat) : Int) (b : Int) l)) ∧ Below w.heap.size w w' := by
  have HPV : Hid (pvR [(x : Int)] = 0) := Lib.hid (pvR1_ok hx)
  have HCK : Hid (ckR (a : Int) (b : Int) = 0) := Lib.hid (ckR_ok ha hb0)
  have k0 := fun W => ensure_ok W
  have k5 := fun (n : Nat) W => must_ok (n : Int) W
  have KC := Lib.hid (fun W => pCheck11_any (a : Int) (b : Int) l hl W)
  have KX := Lib.hid (fun W => gExp_ok a x ha hx.2 W)
  obtain ⟨A, hA⟩ : ∃ A, a ^ x % 4611686018427377339 = A := ⟨_, rfl⟩
  rw [hA] at KX ⊢
  have hzz := fun W => zero_cap W
  have HLL := Lib.hid hl
  have HNE : Hid (gx ≠ w.heap.size ∧ gc ≠ w.heap.size) := Lib.hid ⟨Nat.ne_of_lt cx.lt, Nat.ne_of_lt cc.lt⟩
  clear hA hx ha hb0 hl
  have HLZ := Lib.hid kZ_len
  have HS : Hid (PX w [(gc, 25, capA a b l), (gx, 3, #[.int .i64 x])] w) := Lib.hid (((PX.start hT).put (T := 3) (cs := #[.int .i64 x]) cx).put (T := 25) (cs := capA a b l) cc)
  have HB0 := Lib.hid (HS.out.add 25 (capA 0 0 kZ) _ rfl)
  have c_x := KB1 (HB0.out.blk gx 3 (#[.int .i64 x]) (List.Mem.tail _ (List.Mem.tail _ (List.Mem.head _))))
  have HB1 := Lib.hid (HB0.out.add 3 #[.int .i64 (x : Int)] (w.heap.size + 1) (by simp))
  obtain ⟨wb, hwb⟩ : ∃ wb, wb = (w.alloc (.cells (capA 0 0 kZ) 25)).alloc (.cells #[.int .i64 (x : Int)] 3) := ⟨_, rfl⟩
  have HWB : Hid ((w.alloc (.cells (capA 0 0 kZ) 25)).alloc (.cells #[.int .i64 (x : Int)] 3) = wb) := Lib.hid hwb.symm
  rw [← hwb] at HB1
  clear HB0 HS hwb hT cx cc
  go_enter Tryz.func48, Tryz.ntmps48
  go_wp2_with fail
  rw [HWB.out]
  clear HWB hzz c_x
  with_reducible refine (private1 _ _ _ (HB1.out.blk (w.heap.size + 1) 3 #[.int .i64 (x : Int)] (List.Mem.head _))).mono ?_
  rintro e wo ⟨rfl, hwo⟩
  rw [hwo]
  clear hwo wo
  rw [HPV.out]
  go_wp2_with (first
    | (go_at_call 23; with_reducible refine (k0 _).mono ?_; rintro e wo ⟨rfl, hwo⟩; rw [hwo]; clear hwo wo)
    | (refine wpList_load_row rfl 25 (.tmp 1) rfl gc rfl _ (capA a b l) (0, 0) _ (HB1.out.blk gc 25 (capA a b l) (List.Mem.tail _ (List.Mem.tail _ (List.Mem.head _)))) cap_und rfl (cap_sz _ _ _ HLL.out) ?_))
  with_reducible refine (KC.out _).mono ?_
  rintro e w2 ⟨rfl, hb⟩
  have HB2 := Lib.hid (HB1.out.call hb)
  clear hb HB1
  rw [HCK.out]
  go_wp2_with (go_at_call 23; with_reducible refine (k0 _).mono ?_; rintro e wo ⟨rfl, hwo⟩; rw [hwo]; clear hwo wo)
  rename_i K0 hK0
  refine region_writes [10, 11, 12, 13, 14, 15, 16, 17, 18, 19, 20, 21] (fun f W => CB W w.heap.size 25 (capA (A : Int) (b : Int) l) ∧ Below w.heap.size w W) ?_ ?_
  rotate_left
  · clear hK0 K0
    have HE : Hid (Below w2.heap.size w2 w2.drew) := Lib.hid ((Below.refl _ _).drew)
    have HSB : Hid (∀ W, Below w2.heap.size w2 W → (W.cell? ⟨gx, 0, none⟩ = some (.int .i64 (x : Int)) ∧ W.cell? ⟨gc, 0, none⟩ = some (.int .i64 (a : Int)) ∧ W.cell? ⟨gc, 1, none⟩ = some (.int .i64 (b : Int)) ∧ W.rangeAt gc 2 (l.map bv))) := Lib.hid (fun W hW => ⟨((HB2.out.blk gx 3 (#[.int .i64 x]) (List.Mem.tail _ (List.Mem.tail _ (List.Mem.tail _ (List.Mem.head _))))).call hW).cell 0, ((HB2.out.blk gc 25 (capA a b l) (List.Mem.tail _ (List.Mem.tail _ (List.Mem.head _)))).call hW).A, ((HB2.out.blk gc 25 (capA a b l) (List.Mem.tail _ (List.Mem.tail _ (List.Mem.head _)))).call hW).B, ((HB2.out.blk gc 25 (capA a b l) (List.Mem.tail _ (List.Mem.tail _ (List.Mem.head _)))).call hW).pad⟩)
    refine wp_region_held_drew (S := fun W => W.cell? ⟨gx, 0, none⟩ = some (.int .i64 (x : Int)) ∧ W.cell? ⟨gc, 0, none⟩ = some (.int .i64 (a : Int)) ∧ W.cell? ⟨gc, 1, none⟩ = some (.int .i64 (b : Int)) ∧ W.rangeAt gc 2 (l.map bv)) (by kernel_rfl) (HSB.out _ HE.out) (fun hHeld => ?_)
    refine wpAnyH_take (i := 0) (v := .pointer (some ⟨gc, 0, none⟩)) rfl (by kernel_rfl) (by kernel_rfl) (by kernel_rfl) (fun _ _ _ h => nomatch h.1) (Or.inl ⟨by rfl, fun w _ => by go_simp⟩) hHeld ?_
    simp only [Act.put, List.getElem_toArray, List.getElem_cons_zero, List.getElem_cons_succ, List.setIfInBounds_toArray, List.set_cons_zero, List.set_cons_succ]
    refine wpAnyH_take (i := 1) (v := .int .i64 (a : Int)) rfl (by kernel_rfl) (by kernel_rfl) (by kernel_rfl) (fun _ _ _ h => nomatch h.1) (Or.inl ⟨by rfl, fun w hw => by obtain ⟨h1, h2, h3, h4⟩ := hw; go_simp⟩) hHeld ?_
    simp only [Act.put, List.getElem_toArray, List.getElem_cons_zero, List.getElem_cons_succ, List.setIfInBounds_toArray, List.set_cons_zero, List.set_cons_succ]
    refine wpAnyH_take (i := 2) (v := .int .i64 (x : Int)) rfl (by kernel_rfl) (by kernel_rfl) (by kernel_rfl) (fun _ _ _ h => nomatch h.1) (Or.inl ⟨by rfl, fun w hw => by obtain ⟨h1, h2, h3, h4⟩ := hw; go_simp⟩) hHeld ?_
    simp only [Act.put, List.getElem_toArray, List.getElem_cons_zero, List.getElem_cons_succ, List.setIfInBounds_toArray, List.set_cons_zero, List.set_cons_succ]
    refine wpAnyH_take (i := 7) (v := .pointer (some ⟨gc, 1, none⟩)) rfl (by kernel_rfl) (by kernel_rfl) (by kernel_rfl) (fun _ _ _ h => nomatch h.1) (Or.inl ⟨by rfl, fun w _ => by go_simp⟩) hHeld ?_
    simp only [Act.put, List.getElem_toArray, List.getElem_cons_zero, List.getElem_cons_succ, List.setIfInBounds_toArray, List.set_cons_zero, List.set_cons_succ]
    refine wpAnyH_take (i := 8) (v := .int .i64 (b : Int)) rfl (by kernel_rfl) (by kernel_rfl) (by kernel_rfl) (fun _ _ _ h => nomatch h.1) (Or.inl ⟨by rfl, fun w hw => by obtain ⟨h1, h2, h3, h4⟩ := hw; go_simp⟩) hHeld ?_
    simp only [Act.put, List.getElem_toArray, List.getElem_cons_zero, List.getElem_cons_succ, List.setIfInBounds_toArray, List.set_cons_zero, List.set_cons_succ]
    refine wpAnyH_take (i := 9) (v := .pointer (some ⟨gc, 2, none⟩)) rfl (by kernel_rfl) (by kernel_rfl) (by kernel_rfl) (fun _ _ _ h => nomatch h.1) (Or.inl ⟨by rfl, fun w _ => by go_simp⟩) hHeld ?_
    simp only [Act.put, List.getElem_toArray, List.getElem_cons_zero, List.getElem_cons_succ, List.setIfInBounds_toArray, List.set_cons_zero, List.set_cons_succ]
    refine wpAnyH_take (i := 10) (v := .agg (bvA l)) rfl (by kernel_rfl) (by kernel_rfl) (by kernel_rfl) (fun _ _ _ h => nomatch h.1) (yieldsIf_load_mid (by rfl) 23 (.tmp 19) rfl gc 2 rfl (l.map bv) _ (fun _ h => h.2.2.2) key_und rfl (key_szl _ HLL.out)) hHeld ?_
    simp only [Act.put, List.getElem_toArray, List.getElem_cons_zero, List.getElem_cons_succ, List.setIfInBounds_toArray, List.set_cons_zero, List.set_cons_succ]
    refine wpAnyH_ready (rs := [3]) (by kernel_rfl) (by simp) (AllReadyH.cons rfl (fun K hK => ?_) AllReadyH.nil)
    rw [if_pos (by rfl)]
    go_simp
    with_reducible refine (KX.out w2.drew).mono ?_
    rintro e v1 ⟨rfl, hb⟩
    replace HE := Lib.hid (HE.out.trans (hb.mono HE.out.size))
    clear hb
    refine hK.out _ _ (HSB.out _ HE.out) (fun hHeld => ?_)
    clear hK K
    try simp only [Act.put, List.getElem_toArray, List.getElem_cons_zero, List.getElem_cons_succ, List.setIfInBounds_toArray, List.set_cons_zero, List.set_cons_succ]
    refine wpAnyH_take (i := 4) (v := .int .i64 (A : Int)) rfl (by kernel_rfl) (by kernel_rfl) (by kernel_rfl) (fun _ _ _ h => nomatch h.1) (Or.inl ⟨by rfl, fun w _ => by go_simp⟩) hHeld ?_
    simp only [Act.put, List.getElem_toArray, List.getElem_cons_zero, List.getElem_cons_succ, List.setIfInBounds_toArray, List.set_cons_zero, List.set_cons_succ]
    refine wpAnyH_take (i := 5) (v := .int .i64 0) rfl (by kernel_rfl) (by kernel_rfl) (by kernel_rfl) (fun _ _ _ h => nomatch h.1) (Or.inl ⟨by rfl, fun w _ => by go_simp⟩) hHeld ?_
    simp only [Act.put, List.getElem_toArray, List.getElem_cons_zero, List.getElem_cons_succ, List.setIfInBounds_toArray, List.set_cons_zero, List.set_cons_succ]
    refine wpAnyH_ready (rs := [6]) (by kernel_rfl) (by simp) (AllReadyH.cons rfl (fun K hK => ?_) AllReadyH.nil)
    rw [if_pos (by rfl)]
    go_simp
    with_reducible refine (k5 A v1).mono ?_
    rintro e wo ⟨rfl, hwo⟩
    rw [hwo]
    clear hwo wo
    refine hK.out _ _ (HSB.out _ HE.out) (fun hHeld => ?_)
    clear hK K
    try simp only [Act.put, List.getElem_toArray, List.getElem_cons_zero, List.getElem_cons_succ, List.setIfInBounds_toArray, List.set_cons_zero, List.set_cons_succ]
    refine wpAnyH_take (i := 11) (v := .agg (capA (A : Int) (b : Int) l)) rfl (by kernel_rfl) (by kernel_rfl) (by kernel_rfl) (fun _ _ _ h => nomatch h.1) (Or.inl ⟨by rfl, fun w _ => exec_built 25 _ rfl [(0, .int .i64 (A : Int)), (1, .int .i64 (b : Int)), (2, .agg (bvA l))] (by kernel_rfl) _ (built_cap _ _ _ HLL.out)⟩) hHeld ?_
    simp only [Act.put, List.getElem_toArray, List.getElem_cons_zero, List.getElem_cons_succ, List.setIfInBounds_toArray, List.set_cons_zero, List.set_cons_succ]
    refine wpAnyH_ready (rs := [12]) (by kernel_rfl) (by simp) (AllReadyH.cons rfl (fun K hK => ?_) AllReadyH.nil)
    rw [if_pos (by rfl)]
    have HC9 := Lib.hid ((HB2.out.blk w.heap.size 25 (capA 0 0 kZ) (List.Mem.tail _ (List.Mem.head _))).call HE.out)
    refine wp_storeA 25 (.tmp 2) (.tmp 21) rfl w.heap.size (capA (A : Int) (b : Int) l) rfl rfl 25 _ HC9.out (cap_sz _ _ _ HLL.out) (cap_old _ _ _ _ _ _ kZ_len HLL.out) (capA_one _ _ _) ?_
    intro v2 hn hg
    have HN9 : Hid (CB v2 w.heap.size 25 (capA (A : Int) (b : Int) l)) := Lib.hid hn
    have HE9 : Hid (Below w.heap.size w v2) := Lib.hid (grown_below (HB2.out.below.trans (HE.out.mono HB2.out.below.size)) hg (Nat.le_refl _) (Nat.le_trans HB2.out.below.size HE.out.size))
    have HP9 := Lib.hid (((HB2.out.blk gx 3 (#[.int .i64 x]) (List.Mem.tail _ (List.Mem.tail _ (List.Mem.tail _ (List.Mem.head _))))).call HE.out).grown hg HNE.out.1)
    have HX9 := Lib.hid (((HB2.out.blk gc 25 (capA a b l) (List.Mem.tail _ (List.Mem.tail _ (List.Mem.head _)))).call HE.out).grown hg HNE.out.2)
    clear hn hg
    refine hK.out _ _ (⟨HP9.out.cell 0, HX9.out.A, HX9.out.B, HX9.out.pad⟩) (fun hHeld => ?_)
    clear hK K
    try simp only [Act.put, List.getElem_toArray, List.getElem_cons_zero, List.getElem_cons_succ, List.setIfInBounds_toArray, List.set_cons_zero, List.set_cons_succ]
    refine wpAnyH_done (by kernel_rfl) ?_ _
    exact ⟨rfl, writes_ex (by kernel_rfl) (⟨HN9.out, HE9.out⟩)⟩
  rintro f w9 ⟨hn, hb⟩
  refine hK0 _ _ ?_
  clear hK0 K0
  simp only [writes, List.foldl_cons, List.foldl_nil, Act.put, List.setIfInBounds_toArray, List.set_cons_zero, List.set_cons_succ]
  go_wp2_with fail
  refine bodyPost_ret (v := .agg (capA (A : Int) (b : Int) l)) ?_ rfl ⟨rfl, hb⟩
  exact results_cell_row rfl _ _ w.heap.size 25 _ (0, 0) _ rfl hn cap_und rfl (cap_sz _ _ _ HLL.out)

set_option maxRecDepth 100000 in
set_option maxHeartbeats 800000 in
theorem turnC_key (gx gc : Nat) (x a b : Int) (l : List UInt8) (hl : l.length = 32) (hx : ¬ (1 ≤ x ∧ x < 2305843009213688669)) (w : World) (hT : Tab w) (cx : CB w gx 3 #[.int .i64 x]) (cc : CB w gc 25 (capA a b l)) :
    Calls Tryz.prog 48 #[.pointer (some ⟨gx, 0, none⟩), .pointer (some ⟨gc, 0, none⟩)] w fun e w' => e = .panicked (errP 50) ∧ Below w.heap.size w w' := by
  have HPV : Hid (pvR [x] = 50) := Lib.hid (pvR1_bad hx)
  have kb := fun W => ensure_bad 50 (by decide) W
  have hzz := fun W => zero_cap W
  have HLL := Lib.hid hl
  clear hx hl
  have HLZ := Lib.hid kZ_len
  have HS : Hid (PX w [(gc, 25, capA a b l), (gx, 3, #[.int .i64 x])] w) := Lib.hid (((PX.start hT).put (T := 3) (cs := #[.int .i64 x]) cx).put (T := 25) (cs := capA a b l) cc)
  have HB0 := Lib.hid (HS.out.add 25 (capA 0 0 kZ) _ rfl)
  have c_x := KB1 (HB0.out.blk gx 3 (#[.int .i64 x]) (List.Mem.tail _ (List.Mem.tail _ (List.Mem.head _))))
  have HB1 := Lib.hid (HB0.out.add 3 #[.int .i64 x] (w.heap.size + 1) (by simp))
  obtain ⟨wb, hwb⟩ : ∃ wb, wb = (w.alloc (.cells (capA 0 0 kZ) 25)).alloc (.cells #[.int .i64 x] 3) := ⟨_, rfl⟩
  have HWB : Hid ((w.alloc (.cells (capA 0 0 kZ) 25)).alloc (.cells #[.int .i64 x] 3) = wb) := Lib.hid hwb.symm
  rw [← hwb] at HB1
  clear HB0 HS hwb hT cx cc
  go_enter Tryz.func48, Tryz.ntmps48
  go_wp2_with fail
  rw [HWB.out]
  clear HWB hzz c_x
  with_reducible refine (private1 _ _ _ (HB1.out.blk (w.heap.size + 1) 3 #[.int .i64 x] (List.Mem.head _))).mono ?_
  rintro e wo ⟨rfl, hwo⟩
  rw [hwo]
  clear hwo wo
  rw [HPV.out]
  go_wp2_with (go_at_call 23; with_reducible refine (kb _).mono ?_; rintro e wo ⟨rfl, hwo⟩; rw [hwo]; clear hwo wo)
  exact ⟨rfl, rfl, HB1.out.below⟩

set_option maxRecDepth 100000 in
set_option maxHeartbeats 800000 in
theorem turnC_cap (gx gc x : Nat) (a b : Int) (l : List UInt8) (hl : l.length = 32) (hx : PkQ x) (hab : ¬ (IsEl a ∧ IsEl b)) (w : World) (hT : Tab w) (cx : CB w gx 3 #[.int .i64 x]) (cc : CB w gc 25 (capA a b l)) :
    Calls Tryz.prog 48 #[.pointer (some ⟨gx, 0, none⟩), .pointer (some ⟨gc, 0, none⟩)] w fun e w' => e = .panicked (errP 110) ∧ Below w.heap.size w w' := by
  have HPV : Hid (pvR [(x : Int)] = 0) := Lib.hid (pvR1_ok hx)
  have HCK : Hid (ckR a b = 110) := Lib.hid (ckR_bad hab)
  have k0 := fun W => ensure_ok W
  have KC := Lib.hid (fun W => pCheck11_any a b l hl W)
  have kb := fun W => ensure_bad 110 (by decide) W
  have hzz := fun W => zero_cap W
  have HLL := Lib.hid hl
  clear hx hab hl
  have HLZ := Lib.hid kZ_len
  have HS : Hid (PX w [(gc, 25, capA a b l), (gx, 3, #[.int .i64 x])] w) := Lib.hid (((PX.start hT).put (T := 3) (cs := #[.int .i64 x]) cx).put (T := 25) (cs := capA a b l) cc)
  have HB0 := Lib.hid (HS.out.add 25 (capA 0 0 kZ) _ rfl)
  have c_x := KB1 (HB0.out.blk gx 3 (#[.int .i64 x]) (List.Mem.tail _ (List.Mem.tail _ (List.Mem.head _))))
  have HB1 := Lib.hid (HB0.out.add 3 #[.int .i64 (x : Int)] (w.heap.size + 1) (by simp))
  obtain ⟨wb, hwb⟩ : ∃ wb, wb = (w.alloc (.cells (capA 0 0 kZ) 25)).alloc (.cells #[.int .i64 (x : Int)] 3) := ⟨_, rfl⟩
  have HWB : Hid ((w.alloc (.cells (capA 0 0 kZ) 25)).alloc (.cells #[.int .i64 (x : Int)] 3) = wb) := Lib.hid hwb.symm
  rw [← hwb] at HB1
  clear HB0 HS hwb hT cx cc
  go_enter Tryz.func48, Tryz.ntmps48
  go_wp2_with fail
  rw [HWB.out]
  clear HWB hzz c_x
  with_reducible refine (private1 _ _ _ (HB1.out.blk (w.heap.size + 1) 3 #[.int .i64 (x : Int)] (List.Mem.head _))).mono ?_
  rintro e wo ⟨rfl, hwo⟩
  rw [hwo]
  clear hwo wo
  rw [HPV.out]
  go_wp2_with (first
    | (go_at_call 23; with_reducible refine (k0 _).mono ?_; rintro e wo ⟨rfl, hwo⟩; rw [hwo]; clear hwo wo)
    | (refine wpList_load_row rfl 25 (.tmp 1) rfl gc rfl _ (capA a b l) (0, 0) _ (HB1.out.blk gc 25 (capA a b l) (List.Mem.tail _ (List.Mem.tail _ (List.Mem.head _)))) cap_und rfl (cap_sz _ _ _ HLL.out) ?_))
  with_reducible refine (KC.out _).mono ?_
  rintro e w2 ⟨rfl, hb⟩
  have HB2 := Lib.hid (HB1.out.call hb)
  clear hb HB1
  rw [HCK.out]
  go_wp2_with (go_at_call 23; with_reducible refine (kb _).mono ?_; rintro e wo ⟨rfl, hwo⟩; rw [hwo]; clear hwo wo)
  exact ⟨rfl, rfl, HB2.out.below⟩

set_option maxRecDepth 100000 in
set_option maxHeartbeats 800000 in
theorem factorC_ok (gx gy x y : Nat) (hx : PkQ x) (hy : PkQ y) (w : World) (hT : Tab w) (cx : CB w gx 3 #[.int .i64 x]) (cy : CB w gy 3 #[.int .i64 y]) :
    Calls Tryz.prog 44 #[.pointer (some ⟨gx, 0, none⟩), .pointer (some ⟨gy, 0, none⟩)] w fun e w' => e = .returned (.int .i64 ((fcS x y : Nat) : Int)) ∧ Below w.heap.size w w' := by
  have HPV : Hid (pvR [(x : Int), (y : Int)] = 0) := Lib.hid (pvR2_ok hx hy)
  have k0 := fun W => ensure_ok W
  have k5 := fun (n : Nat) W => must_ok (n : Int) W
  have KI := Lib.hid (fun W => fInv x (by have := hx.1; omega) hx.2 W)
  rw [show x ^ (kQ - 1) % 2305843009213688669 = fvR x from rfl] at KI
  have KM := Lib.hid (fun W => fMul y (fvR x) hy.2 (fvR_lt x) W)
  rw [show y * fvR x % 2305843009213688669 = fcS x y from rfl] at KM
  obtain ⟨F, hF⟩ : ∃ F, fcS x y = F := ⟨_, rfl⟩
  rw [hF] at KM ⊢
  obtain ⟨i, hi⟩ : ∃ i, fvR x = i := ⟨_, rfl⟩
  rw [hi] at KI KM
  clear hF hi hx hy
  have HS : Hid (PX w [(gy, 3, #[.int .i64 y]), (gx, 3, #[.int .i64 x])] w) := Lib.hid (((PX.start hT).put (T := 3) (cs := #[.int .i64 x]) cx).put (T := 3) (cs := #[.int .i64 y]) cy)
  have HB0 := HS
  have c_x := KB1 (HB0.out.blk gx 3 (#[.int .i64 x]) (List.Mem.tail _ (List.Mem.head _)))
  have c_y := KB1 (HB0.out.blk gy 3 (#[.int .i64 y]) (List.Mem.head _))
  have HB1 := Lib.hid (HB0.out.add 3 #[.int .i64 (x : Int), .int .i64 (y : Int)] (w.heap.size) rfl)
  obtain ⟨wb, hwb⟩ : ∃ wb, wb = w.alloc (.cells #[.int .i64 (x : Int), .int .i64 (y : Int)] 3) := ⟨_, rfl⟩
  have HWB : Hid (w.alloc (.cells #[.int .i64 (x : Int), .int .i64 (y : Int)] 3) = wb) := Lib.hid hwb.symm
  rw [← hwb] at HB1
  clear HB0 HS hwb hT cx cy
  go_enter Tryz.func44, Tryz.ntmps44
  go_wp2_with fail
  rw [HWB.out]
  clear HWB c_x c_y
  with_reducible refine (private2 _ _ _ _ (HB1.out.blk (w.heap.size) 3 #[.int .i64 (x : Int), .int .i64 (y : Int)] (List.Mem.head _))).mono ?_
  rintro e wo ⟨rfl, hwo⟩
  rw [hwo]
  clear hwo wo
  rw [HPV.out]
  go_wp2_with (go_at_call 23; with_reducible refine (k0 _).mono ?_; rintro e wo ⟨rfl, hwo⟩; rw [hwo]; clear hwo wo)
  have HBd := Lib.hid HB1.out.drew
  have hS0 : wb.drew.cell? ⟨gx, 0, none⟩ = some (.int .i64 (x : Int)) ∧ wb.drew.cell? ⟨gy, 0, none⟩ = some (.int .i64 (y : Int)) := ⟨(HBd.out.blk gx 3 #[.int .i64 (x : Int)] (List.Mem.tail _ (List.Mem.tail _ (List.Mem.head _)))).cell 0, (HBd.out.blk gy 3 #[.int .i64 (y : Int)] (List.Mem.tail _ (List.Mem.head _))).cell 0⟩
  go_region_held3 (fun w' => w'.cell? ⟨gx, 0, none⟩ = some (.int .i64 (x : Int)) ∧ w'.cell? ⟨gy, 0, none⟩ = some (.int .i64 (y : Int)))
    (first
      | exact hS2
      | exact hS1
      | exact hS0)
    (first
      | (go_at_call 46
         with_reducible refine (KI.out wb.drew).mono ?_
         rintro e w1 ⟨rfl, hb⟩
         have HB2 := Lib.hid (HBd.out.call hb)
         have hS1 : w1.cell? ⟨gx, 0, none⟩ = some (.int .i64 (x : Int)) ∧ w1.cell? ⟨gy, 0, none⟩ = some (.int .i64 (y : Int)) := ⟨(HB2.out.blk gx 3 #[.int .i64 (x : Int)] (List.Mem.tail _ (List.Mem.tail _ (List.Mem.head _)))).cell 0, (HB2.out.blk gy 3 #[.int .i64 (y : Int)] (List.Mem.tail _ (List.Mem.head _))).cell 0⟩
         clear hb)
      | (go_at_call 26
         with_reducible refine (k5 i _).mono ?_
         rintro e wo ⟨rfl, hwo⟩
         rw [hwo]
         clear hwo wo)
      | (go_at_call 45
         with_reducible refine (KM.out w1).mono ?_
         rintro e w2 ⟨rfl, hb⟩
         have HB3 := Lib.hid (HB2.out.call hb)
         have hS2 : w2.cell? ⟨gx, 0, none⟩ = some (.int .i64 (x : Int)) ∧ w2.cell? ⟨gy, 0, none⟩ = some (.int .i64 (y : Int)) := ⟨(HB3.out.blk gx 3 #[.int .i64 (x : Int)] (List.Mem.tail _ (List.Mem.tail _ (List.Mem.head _)))).cell 0, (HB3.out.blk gy 3 #[.int .i64 (y : Int)] (List.Mem.tail _ (List.Mem.head _))).cell 0⟩
         clear hb)
      | (go_at_call 26
         with_reducible refine (k5 F _).mono ?_
         rintro e wo ⟨rfl, hwo⟩
         rw [hwo]
         clear hwo wo))
  all_goals
    go_wp2_with fail
    go_ret
    exact ⟨rfl, HB3.out.below⟩

set_option maxRecDepth 100000 in
set_option maxHeartbeats 800000 in
theorem factorC_bad (gx gy : Nat) (x y : Int) (hx : ¬ ((1 ≤ x ∧ x < 2305843009213688669) ∧ (1 ≤ y ∧ y < 2305843009213688669))) (w : World) (hT : Tab w) (cx : CB w gx 3 #[.int .i64 x]) (cy : CB w gy 3 #[.int .i64 y]) :
    Calls Tryz.prog 44 #[.pointer (some ⟨gx, 0, none⟩), .pointer (some ⟨gy, 0, none⟩)] w fun e w' => e = .panicked (errP 50) ∧ Below w.heap.size w w' := by
  have HPV : Hid (pvR [x, y] = 50) := Lib.hid (pvR2_bad hx)
  have kb := fun W => ensure_bad 50 (by decide) W
  clear hx
  have HS : Hid (PX w [(gy, 3, #[.int .i64 y]), (gx, 3, #[.int .i64 x])] w) := Lib.hid (((PX.start hT).put (T := 3) (cs := #[.int .i64 x]) cx).put (T := 3) (cs := #[.int .i64 y]) cy)
  have HB0 := HS
  have c_x := KB1 (HB0.out.blk gx 3 (#[.int .i64 x]) (List.Mem.tail _ (List.Mem.head _)))
  have c_y := KB1 (HB0.out.blk gy 3 (#[.int .i64 y]) (List.Mem.head _))
  have HB1 := Lib.hid (HB0.out.add 3 #[.int .i64 x, .int .i64 y] (w.heap.size) rfl)
  obtain ⟨wb, hwb⟩ : ∃ wb, wb = w.alloc (.cells #[.int .i64 x, .int .i64 y] 3) := ⟨_, rfl⟩
  have HWB : Hid (w.alloc (.cells #[.int .i64 x, .int .i64 y] 3) = wb) := Lib.hid hwb.symm
  rw [← hwb] at HB1
  clear HB0 HS hwb hT cx cy
  go_enter Tryz.func44, Tryz.ntmps44
  go_wp2_with fail
  rw [HWB.out]
  clear HWB c_x c_y
  with_reducible refine (private2 _ _ _ _ (HB1.out.blk (w.heap.size) 3 #[.int .i64 x, .int .i64 y] (List.Mem.head _))).mono ?_
  rintro e wo ⟨rfl, hwo⟩
  rw [hwo]
  clear hwo wo
  rw [HPV.out]
  go_wp2_with (go_at_call 23; with_reducible refine (kb _).mono ?_; rintro e wo ⟨rfl, hwo⟩; rw [hwo]; clear hwo wo)
  exact ⟨rfl, rfl, HB1.out.below⟩
end Go.Proofs.YteigldfdaciopaaGreatDoor
