/-
  The reference's half and Tree.
-/
import Derived.Test.YtndbhmipehpebaaDoorRnd
namespace Go.Proofs.YtndbhmipehpebaaDoor
open Go.RowKit
set_option linter.unusedVariables false
set_option linter.unusedSimpArgs false

set_option maxRecDepth 100000 in
set_option maxHeartbeats 800000 in
theorem refHalf (n : Nat) (w : World) (h : 2 ≤ n) (hn : n ≤ 1099511627776) :
    Calls Tryd.prog 36 #[.int .i64 n] w fun e w' => e = .returned (.int .i64 (half n)) ∧ w = w' := by
  go_enter Tryd.func36, Tryd.ntmps36
  go_wp2_with fail
  go_loop [3] (fun m => ∃ i j : Nat, m = .int .i64 j ∧ j < n ∧ Hid (j = 2 ^ i)) (fun m => n - (intOf m).toNat)
  case atStart => exact ⟨0, 1, rfl, by omega, Lib.hid rfl⟩
  case round =>
    obtain ⟨i, j, rfl, hj, hji⟩ := hrel
    have hj0 : 1 ≤ j := by have := hji.out; have := @Nat.one_le_two_pow i; omega
    by_cases h2 : 2 * j < n
    · go_wp2_with fail
      go_round
      case rel => exact ⟨i + 1, 2 * j, by go_num, h2, by show _ = _; rw [hji.out, Nat.pow_succ]; omega⟩
      case measure => simp [intOf]; omega
    · have hh : j = half n := by
        rw [hji.out]
        exact half_unique n i (by rw [← hji.out]; exact hj) (by rw [Nat.pow_succ, ← hji.out]; omega)
      subst hh
      go_wp2_with fail
      go_ret
      exact ⟨rfl, rfl⟩

set_option maxRecDepth 100000 in
set_option maxHeartbeats 1600000 in
theorem refTree : ∀ (N : Nat) (a : Option Addr) (cap : Nat) (l : List (List UInt8)) (w : World), l.length < N → RdD w.heap.size w a l → l.length ≤ cap → cap ≤ maxLen → l.length ≤ 1099511627776 →
    Calls Tryd.prog 18 #[.slice a l.length cap] w fun e w' => e = .returned (.agg (bvA (treeS l))) ∧ Below w.heap.size w w' := by
  intro N
  induction N with
  | zero => intro a cap l w hN; omega
  | succ N ih =>
    intro a cap l w hN hl hcap hc2 hmax
    have HL := Lib.hid hl
    have HC2 := Lib.hid hc2
    clear hl
    unfold maxLen at hc2
    by_cases h0 : l.length = 0
    · obtain rfl := List.eq_nil_of_length_eq_zero h0
      rw [treeS_nil]
      clear hN h0 hcap
      go_enter Tryd.func18, Tryd.ntmps18
      go_wp2_with fail
      change Calls _ _ _ (w.alloc (.cells (bvA (List.replicate 32 0)) 26)) _
      obtain ⟨w1, hw1⟩ : ∃ w1, w1 = w.alloc (.cells (bvA (List.replicate 32 0)) 26) := ⟨_, rfl⟩
      have hB1 : Below w.heap.size w w1 := hw1 ▸ (Below.refl _ _).alloc (Nat.le_refl _) _
      have hD1 : BB w1 w.heap.size 26 (List.replicate 32 0) := hw1 ▸ BB.new w _ _
      rw [← hw1]
      clear hw1
      refine (refTagged ⟨#[101, 109, 112, 116, 121]⟩ none 0 [] w1 ⟨Nat.zero_le _, .inl rfl⟩ (Nat.le_refl _) (Nat.zero_le _) (fun _ => rfl) (by decide) (Nat.zero_le _)).mono ?_
      rintro e w2 ⟨rfl, hb2⟩
      have HD2 := Lib.hid (hD1.below hb2 hD1.lt)
      have HB2 := Lib.hid (hB1.trans (hb2.mono hB1.size))
      clear hb2 hD1 hB1
      go_wp2_with (refine wpList_storeA rfl 26 (.tmp 2) (.tmp 7) rfl w.heap.size (bvA (tagS [101, 109, 112, 116, 121] [])) rfl rfl 26 _ HD2.out (sha_sz _) (sha_old _) (bvA_one _) ?_)
      intro w9 h9 hg9
      have hB9 := grown_below HB2.out hg9 (Nat.le_refl _) HB2.out.size
      go_wp2_with fail
      refine bodyPost_ret (v := .agg (bvA (tagS [101, 109, 112, 116, 121] []))) ?_ rfl ⟨rfl, hB9⟩
      exact results_cell_row rfl _ _ w.heap.size 26 _ (0, 0) _ rfl h9 digest_und rfl (sha_sz _)
    · by_cases h1 : l.length = 1
      · obtain ⟨d, rfl⟩ := List.length_eq_one_iff.1 h1
        rw [treeS_one]
        obtain ⟨b, o, rfl, hbB, hcell⟩ := HL.out.at_ (by simp)
        have hr := hcell 0 (by simp)
        have hd : d.length = 32 := HL.out.2.1 d (by simp)
        have hrB : RdB w.heap.size w (some ⟨b, o + 0, none⟩) d := ⟨by rw [hd]; unfold maxLen; omega, .inr ⟨b, o + 0, rfl, hbB, fun j hj => by
          have := hr j (bv d[j]) (by simp [hj]); simpa using this⟩⟩
        have HRB := Lib.hid hrB
        have HD := Lib.hid hd
        have c2 : Hid (∀ W, Below w.heap.size w W → Calls Tryd.prog 15 #[.string ⟨#[108, 101, 97, 102]⟩, .slice (some ⟨b, o + 0, none⟩) 32 32] W fun e w2 => e = .returned (.agg (bvA (leafS d))) ∧ Below W.heap.size W w2) := by
          intro W hW
          have h := refTagged ⟨#[108, 101, 97, 102]⟩ (some ⟨b, o + 0, none⟩) 32 d W ((HRB.out.below hW).mono hW.size) (by omega) (by unfold maxLen; omega) (fun h => by cases h) (by decide) (by omega)
          rw [hd] at h
          exact h
        clear hN h0 h1 hcap hcell hr hd hrB
        have HAL : Hid (Below w.heap.size w (w.alloc (.cells (bvA (List.replicate 32 0)) 26))) := (Below.refl _ _).alloc (Nat.le_refl _) _
        go_enter Tryd.func18, Tryd.ntmps18
        go_wp2_with fail
        change Calls _ _ #[_, .slice (some ⟨b, o + 0, none⟩) 32 32] (w.alloc (.cells (bvA (List.replicate 32 0)) 26)) _
        obtain ⟨w1, hw1⟩ : ∃ w1, w1 = w.alloc (.cells (bvA (List.replicate 32 0)) 26) := ⟨_, rfl⟩
        have hB1 : Below w.heap.size w w1 := hw1 ▸ (Below.refl _ _).alloc (Nat.le_refl _) _
        have hD1 : BB w1 w.heap.size 26 (List.replicate 32 0) := hw1 ▸ BB.new w _ _
        rw [← hw1]
        clear hw1
        refine (c2.out w1 hB1).mono ?_
        rintro e w2 ⟨rfl, hb2⟩
        have HD2 := Lib.hid (hD1.below hb2 hD1.lt)
        have HB2 := Lib.hid (hB1.trans (hb2.mono hB1.size))
        clear hb2 hD1 hB1
        go_wp2_with (refine wpList_storeA rfl 26 (.tmp 2) (.tmp 14) rfl w.heap.size (bvA (leafS d)) rfl rfl 26 _ HD2.out (sha_sz _) (sha_old _) (bvA_one _) ?_)
        intro w9 h9 hg9
        have hB9 := grown_below HB2.out hg9 (Nat.le_refl _) HB2.out.size
        go_wp2_with fail
        refine bodyPost_ret (v := .agg (bvA (leafS d))) ?_ rfl ⟨rfl, hB9⟩
        exact results_cell_row rfl _ _ w.heap.size 26 _ (0, 0) _ rfl h9 digest_und rfl (sha_sz _)
      · have h2 : 2 ≤ l.length := by omega
        have hb := half_bd l.length h2
        obtain ⟨hb1, hb2, hb3⟩ := hb
        have hne0 : ((l.length : Int) == 0) = false := by rw [beq_eq_false_iff_ne]; omega
        have hne1 : ((l.length : Int) == 1) = false := by rw [beq_eq_false_iff_ne]; omega
        have hs1 := sliceD_from a l.length cap (half l.length) (by omega)
        have hs2 := sliceD_to a l.length cap (half l.length) (by omega)
        obtain ⟨X, hX⟩ : ∃ X, X = treeS (l.take (half l.length)) := ⟨_, rfl⟩
        obtain ⟨Y, hY⟩ : ∃ Y, Y = treeS (l.drop (half l.length)) := ⟨_, rfl⟩
        have HXY : Hid (treeS l = nodeS X Y) := by show _ = _; rw [treeS_node l h2, hX, hY]
        have c1 : Hid (∀ W, Below w.heap.size w W → Calls Tryd.prog 18 #[.slice a (half l.length) cap] W fun e w2 => e = .returned (.agg (bvA X)) ∧ Below W.heap.size W w2) := by
          intro W hW
          have h := ih a cap (l.take (half l.length)) W (by rw [List.length_take]; omega) (((HL.out.take _).below hW).mono hW.size) (by rw [List.length_take]; omega) HC2.out (by rw [List.length_take]; omega)
          rw [List.length_take, Nat.min_eq_left (by omega), ← hX] at h
          exact h
        have c2 : Hid (∀ W, Below w.heap.size w W → Calls Tryd.prog 18 #[tailD a l.length cap (half l.length)] W fun e w2 => e = .returned (.agg (bvA Y)) ∧ Below W.heap.size W w2) := by
          intro W hW
          have h := ih (if cap = half l.length then a else a.map (·.add (half l.length * 32))) (cap - half l.length) (l.drop (half l.length)) W (by rw [List.length_drop]; omega) (((HL.out.drop hcap _).below hW).mono hW.size) (by rw [List.length_drop]; omega) (by unfold maxLen; omega) (by rw [List.length_drop]; omega)
          rw [List.length_drop, ← hY] at h
          exact h
        have c3 : Hid (∀ W, Calls Tryd.prog 37 #[.agg (bvA X), .agg (bvA Y)] W fun e w2 => e = .returned (.agg (bvA (nodeS X Y))) ∧ Below W.heap.size W w2) := fun W =>
          refNode X Y (by rw [hX]; exact treeS_len _) (by rw [hY]; exact treeS_len _) W
        clear hX hY hb1 hb2 hb3 h0 h1
        have hmx : l.length ≤ 1099511627776 := hmax
        go_enter Tryd.func18, Tryd.ntmps18
        go_wp2_with fail
        refine (refHalf l.length _ h2 hmax).mono ?_
        rintro e w1 ⟨rfl, hw⟩
        subst hw
        go_wp2_with fail
        clear hne0 hne1
        change Code.wp _ _ _ _ (w.alloc (.cells (bvA (List.replicate 32 0)) 26))
        obtain ⟨w1, hw1⟩ : ∃ w1, w1 = w.alloc (.cells (bvA (List.replicate 32 0)) 26) := ⟨_, rfl⟩
        have hB1 : Below w.heap.size w w1 := hw1 ▸ (Below.refl _ _).alloc (Nat.le_refl _) _
        have hD1 : BB w1 w.heap.size 26 (List.replicate 32 0) := hw1 ▸ BB.new w _ _
        rw [← hw1]
        clear hw1
        have HD1 : Hid (BB w1.drew w.heap.size 26 (List.replicate 32 0)) := hD1.drew
        have HB1 : Hid (Below w.heap.size w w1.drew) := hB1.drew
        clear hB1 hD1
        refine wp_region_held_drew (S := fun _ => True) (by kernel_rfl) trivial (fun hHeld => ?_)
        refine wpAnyH_take (i := 0) (v := .slice a l.length cap) rfl (by kernel_rfl) (by kernel_rfl) (by kernel_rfl) (fun _ _ _ h => h) (Or.inl ⟨by rfl, fun w _ => by go_simp⟩) hHeld ?_
        simp only [Act.put, List.getElem_toArray, List.getElem_cons_zero, List.getElem_cons_succ, List.setIfInBounds_toArray, List.set_cons_zero, List.set_cons_succ]
        refine wpAnyH_take (i := 1) (v := .int .i64 (half l.length)) rfl (by kernel_rfl) (by kernel_rfl) (by kernel_rfl) (fun _ _ _ h => h) (Or.inl ⟨by rfl, fun w _ => by go_simp⟩) hHeld ?_
        simp only [Act.put, List.getElem_toArray, List.getElem_cons_zero, List.getElem_cons_succ, List.setIfInBounds_toArray, List.set_cons_zero, List.set_cons_succ]
        refine wpAnyH_take (i := 2) (v := .slice a (half l.length) cap) rfl (by kernel_rfl) (by kernel_rfl) (by kernel_rfl) (fun _ _ _ h => h) (Or.inl ⟨by rfl, fun w _ => by go_simp⟩) hHeld ?_
        simp only [Act.put, List.getElem_toArray, List.getElem_cons_zero, List.getElem_cons_succ, List.setIfInBounds_toArray, List.set_cons_zero, List.set_cons_succ]
        refine wpAnyH_take (i := 4) (v := .slice a l.length cap) rfl (by kernel_rfl) (by kernel_rfl) (by kernel_rfl) (fun _ _ _ h => h) (Or.inl ⟨by rfl, fun w _ => by go_simp⟩) hHeld ?_
        simp only [Act.put, List.getElem_toArray, List.getElem_cons_zero, List.getElem_cons_succ, List.setIfInBounds_toArray, List.set_cons_zero, List.set_cons_succ]
        refine wpAnyH_take (i := 5) (v := .int .i64 (half l.length)) rfl (by kernel_rfl) (by kernel_rfl) (by kernel_rfl) (fun _ _ _ h => h) (Or.inl ⟨by rfl, fun w _ => by go_simp⟩) hHeld ?_
        simp only [Act.put, List.getElem_toArray, List.getElem_cons_zero, List.getElem_cons_succ, List.setIfInBounds_toArray, List.set_cons_zero, List.set_cons_succ]
        refine wpAnyH_take (i := 6) (v := tailD a l.length cap (half l.length)) rfl (by kernel_rfl) (by kernel_rfl) (by kernel_rfl) (fun _ _ _ h => h) (Or.inl ⟨by rfl, fun w _ => by go_simp⟩) hHeld ?_
        simp only [Act.put, List.getElem_toArray, List.getElem_cons_zero, List.getElem_cons_succ, List.setIfInBounds_toArray, List.set_cons_zero, List.set_cons_succ]
        refine wpAnyH_ready (rs := [3]) (by kernel_rfl) (by simp) (AllReadyH.cons rfl (fun K hK => ?_) AllReadyH.nil)
        go_simp
        refine (c1.out _ HB1.out).mono ?_
        rintro e w2 ⟨rfl, hb⟩
        have HD2 := Lib.hid (HD1.out.below hb HD1.out.lt)
        have HB2 := Lib.hid (HB1.out.trans (hb.mono HB1.out.size))
        clear hb
        try go_wp2_with fail
        refine hK.out _ _ trivial (fun hHeld => ?_)
        clear hK K
        try simp only [Act.put, List.getElem_toArray, List.getElem_cons_zero, List.getElem_cons_succ, List.setIfInBounds_toArray, List.set_cons_zero, List.set_cons_succ]
        refine wpAnyH_ready (rs := [7]) (by kernel_rfl) (by simp) (AllReadyH.cons rfl (fun K hK => ?_) AllReadyH.nil)
        go_simp
        refine (c2.out _ HB2.out).mono ?_
        rintro e w3 ⟨rfl, hb⟩
        have HD3 := Lib.hid (HD2.out.below hb HD2.out.lt)
        have HB3 := Lib.hid (HB2.out.trans (hb.mono HB2.out.size))
        clear hb
        try go_wp2_with fail
        refine hK.out _ _ trivial (fun hHeld => ?_)
        clear hK K
        try simp only [Act.put, List.getElem_toArray, List.getElem_cons_zero, List.getElem_cons_succ, List.setIfInBounds_toArray, List.set_cons_zero, List.set_cons_succ]
        refine wpAnyH_ready (rs := [8]) (by kernel_rfl) (by simp) (AllReadyH.cons rfl (fun K hK => ?_) AllReadyH.nil)
        go_simp
        refine (c3.out _).mono ?_
        rintro e w4 ⟨rfl, hb⟩
        have HD4 := Lib.hid (HD3.out.below hb HD3.out.lt)
        have HB4 := Lib.hid (HB3.out.trans (hb.mono HB3.out.size))
        clear hb
        try go_wp2_with fail
        refine hK.out _ _ trivial (fun hHeld => ?_)
        clear hK K
        try simp only [Act.put, List.getElem_toArray, List.getElem_cons_zero, List.getElem_cons_succ, List.setIfInBounds_toArray, List.set_cons_zero, List.set_cons_succ]
        refine wpAnyH_ready (rs := [9]) (by kernel_rfl) (by simp) (AllReadyH.cons rfl (fun K hK => ?_) AllReadyH.nil)
        rw [if_pos (by rfl)]
        refine wp_storeA 26 (.tmp 2) (.tmp 26) rfl w.heap.size (bvA (nodeS X Y)) rfl rfl 26 _ HD4.out (sha_sz _) (sha_old _) (bvA_one _) ?_
        intro w9 h9 hg9
        have HB9 := Lib.hid (grown_below HB4.out hg9 (Nat.le_refl _) HB4.out.size)
        clear hg9
        refine hK.out _ _ trivial (fun hHeld => ?_)
        clear hK K
        try simp only [Act.put, List.getElem_toArray, List.getElem_cons_zero, List.getElem_cons_succ, List.setIfInBounds_toArray, List.set_cons_zero, List.set_cons_succ]
        refine wpAnyH_done (by kernel_rfl) ?_ _
        go_wp2_with fail
        refine bodyPost_ret (v := .agg (bvA (nodeS X Y))) ?_ rfl ⟨by rw [HXY.out], HB9.out⟩
        exact results_cell_row rfl _ _ w.heap.size 26 _ (0, 0) _ rfl h9 digest_und rfl (sha_sz _)
end Go.Proofs.YtndbhmipehpebaaDoor
