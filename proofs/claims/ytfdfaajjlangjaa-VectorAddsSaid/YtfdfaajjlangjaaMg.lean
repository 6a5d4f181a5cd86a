/-
  The reference of vector: Covers, Compare.
-/
import Derived.Test.YtfdfaajjlangjaaMf
namespace Go.Proofs.Ytfdfaajjlangjaa
open Go.RowKit
set_option linter.unusedVariables false
set_option linter.unusedSimpArgs false

theorem nextB {w w1 w2 : World} (h : Hid (Below w.heap.size w w1)) (hb : Below w1.heap.size w1 w2) : Hid (Below w.heap.size w w2) := Lib.hid (h.out.trans (hb.mono h.out.size))
theorem ch2_ok {l m : List Dt} (h1 : okV l) (h2 : okV m) : ch2 l m = 0 := by unfold ch2; rw [if_pos h1, chV_ok h2]
theorem ch2_bad {l m : List Dt} (h : ¬ (okV l ∧ okV m)) : ch2 l m = 120 := by
  unfold ch2
  by_cases h1 : okV l
  · rw [if_pos h1, chV_bad (fun h2 => h ⟨h1, h2⟩)]
  · rw [if_neg h1]

set_option maxRecDepth 100000 in
set_option maxHeartbeats 800000 in
theorem rCovers12_any (a : Option Addr) (cap : Nat) (l : List Dt) (d : Dt) (w : World) (hl : RdDt w.heap.size w a l) :
    Calls Try.prog 19 #[.slice a l.length cap, dtV d] w fun e w' => e = .returned (.bool (decide (covV l d))) ∧ Below w.heap.size w w' := by
  unfold dtV
  have KA := Lib.hid (fun W (h : Below w.heap.size w W) => rAt12_any a cap l d.1 W (hl.call h))
  obtain ⟨wb, hwb⟩ : ∃ wb, wb = w.alloc (.cells #[.int .i64 d.1, .int .i64 d.2] 24) := ⟨_, rfl⟩
  have HB : Hid (Below w.heap.size w wb) := Lib.hid (by rw [hwb]; exact (Below.refl _ _).alloc (Nat.le_refl _) _)
  have HD : Hid (DB wb w.heap.size d) := Lib.hid (by rw [hwb]; exact DB.new w d)
  have HWB : Hid (w.alloc (.cells #[.int .i64 d.1, .int .i64 d.2] 24) = wb) := Lib.hid hwb.symm
  clear hwb
  by_cases h : 1 ≤ d.2
  · have f1 : decide (1 ≤ d.2) = true := decide_eq_true h
    obtain ⟨B, hB⟩ := exEqD (decide (d.2 ≤ atV l d.1))
    rw [show decide (covV l d) = B from by
      rw [← hB]
      unfold covV
      simp [h]]
    obtain ⟨v, hv⟩ := exEqD (atV l d.1)
    rw [hv] at KA hB
    clear hl hv h
    generalize l.length = n at *
    go_enter Try.func19, Try.ntmps19
    go_wp2_with fail
    rw [HWB.out]
    clear HWB
    rename_i K0 hK0
    refine region_writes [5, 6, 7, 8, 9, 10, 11, 12, 13, 14, 15, 16, 4] (fun f W => f 4 = .bool B ∧ Below wb.heap.size wb W) ?_ ?_
    rotate_left
    · clear hK0 K0
      have HE : Hid (Below wb.heap.size wb wb.drew) := Lib.hid ((Below.refl _ _).drew)
      have HSB : Hid (∀ W, Below wb.heap.size wb W → (W.cell? ⟨w.heap.size, 0, none⟩ = some (.int .i64 d.1) ∧ W.cell? ⟨w.heap.size, 1, none⟩ = some (.int .i64 d.2))) := Lib.hid (fun W hW => ⟨(HD.out.call hW).cell0, (HD.out.call hW).cell1⟩)
      refine wp_region_held_drew (S := fun W => W.cell? ⟨w.heap.size, 0, none⟩ = some (.int .i64 d.1) ∧ W.cell? ⟨w.heap.size, 1, none⟩ = some (.int .i64 d.2)) (by kernel_rfl) (HSB.out _ HE.out) (fun hHeld => ?_)
      refine wpAnyH_take (i := 0) (v := .pointer (some ⟨w.heap.size, 1, none⟩)) rfl (by kernel_rfl) (by kernel_rfl) (by kernel_rfl) (fun _ _ _ h => nomatch h.1) (Or.inl ⟨by rfl, fun w _ => by go_simp⟩) hHeld ?_
      simp only [Act.put, List.getElem_toArray, List.getElem_cons_zero, List.getElem_cons_succ, List.setIfInBounds_toArray, List.set_cons_zero, List.set_cons_succ]
      refine wpAnyH_take (i := 1) (v := .int .i64 d.2) rfl (by kernel_rfl) (by kernel_rfl) (by kernel_rfl) (fun _ _ _ h => nomatch h.1) (Or.inl ⟨by rfl, fun w hw => by obtain ⟨h1, h2⟩ := hw; go_simp⟩) hHeld ?_
      simp only [Act.put, List.getElem_toArray, List.getElem_cons_zero, List.getElem_cons_succ, List.setIfInBounds_toArray, List.set_cons_zero, List.set_cons_succ]
      refine wpAnyH_take (i := 2) (v := .bool true) rfl (by kernel_rfl) (by kernel_rfl) (by kernel_rfl) (fun _ _ _ h => nomatch h.1) (Or.inl ⟨by rfl, fun w _ => by go_simp⟩) hHeld ?_
      simp only [Act.put, List.getElem_toArray, List.getElem_cons_zero, List.getElem_cons_succ, List.setIfInBounds_toArray, List.set_cons_zero, List.set_cons_succ]
      refine wpAnyH_take (i := 3) (v := .bool true) rfl (by kernel_rfl) (by kernel_rfl) (by kernel_rfl) (fun _ _ _ h => nomatch h.1) (Or.inl ⟨by rfl, fun w _ => by go_simp⟩) hHeld ?_
      simp only [Act.put, List.getElem_toArray, List.getElem_cons_zero, List.getElem_cons_succ, List.setIfInBounds_toArray, List.set_cons_zero, List.set_cons_succ]
      refine wpAnyH_take (i := 4) (v := .pointer (some ⟨w.heap.size, 1, none⟩)) rfl (by kernel_rfl) (by kernel_rfl) (by kernel_rfl) (fun _ _ _ h => nomatch h.1) (Or.inl ⟨by rfl, fun w _ => by go_simp⟩) hHeld ?_
      simp only [Act.put, List.getElem_toArray, List.getElem_cons_zero, List.getElem_cons_succ, List.setIfInBounds_toArray, List.set_cons_zero, List.set_cons_succ]
      refine wpAnyH_take (i := 5) (v := .int .i64 d.2) rfl (by kernel_rfl) (by kernel_rfl) (by kernel_rfl) (fun _ _ _ h => nomatch h.1) (Or.inl ⟨by rfl, fun w hw => by obtain ⟨h1, h2⟩ := hw; go_simp⟩) hHeld ?_
      simp only [Act.put, List.getElem_toArray, List.getElem_cons_zero, List.getElem_cons_succ, List.setIfInBounds_toArray, List.set_cons_zero, List.set_cons_succ]
      refine wpAnyH_take (i := 6) (v := .slice a n cap) rfl (by kernel_rfl) (by kernel_rfl) (by kernel_rfl) (fun _ _ _ h => nomatch h.1) (Or.inl ⟨by rfl, fun w _ => by go_simp⟩) hHeld ?_
      simp only [Act.put, List.getElem_toArray, List.getElem_cons_zero, List.getElem_cons_succ, List.setIfInBounds_toArray, List.set_cons_zero, List.set_cons_succ]
      refine wpAnyH_take (i := 7) (v := .pointer (some ⟨w.heap.size, 0, none⟩)) rfl (by kernel_rfl) (by kernel_rfl) (by kernel_rfl) (fun _ _ _ h => nomatch h.1) (Or.inl ⟨by rfl, fun w _ => by go_simp⟩) hHeld ?_
      simp only [Act.put, List.getElem_toArray, List.getElem_cons_zero, List.getElem_cons_succ, List.setIfInBounds_toArray, List.set_cons_zero, List.set_cons_succ]
      refine wpAnyH_take (i := 8) (v := .int .i64 d.1) rfl (by kernel_rfl) (by kernel_rfl) (by kernel_rfl) (fun _ _ _ h => nomatch h.1) (Or.inl ⟨by rfl, fun w hw => by obtain ⟨h1, h2⟩ := hw; go_simp⟩) hHeld ?_
      simp only [Act.put, List.getElem_toArray, List.getElem_cons_zero, List.getElem_cons_succ, List.setIfInBounds_toArray, List.set_cons_zero, List.set_cons_succ]
      refine wpAnyH_ready (rs := [9]) (by kernel_rfl) (by simp) (AllReadyH.cons rfl (fun K hK => ?_) AllReadyH.nil)
      rw [if_pos (by rfl)]
      go_simp
      with_reducible refine (KA.out wb.drew (HB.out.trans (HE.out.mono HB.out.size))).mono ?_
      rintro e wo ⟨rfl, hwo⟩
      rw [hwo]
      clear hwo wo
      refine hK.out _ _ (HSB.out _ HE.out) (fun hHeld => ?_)
      clear hK K
      try simp only [Act.put, List.getElem_toArray, List.getElem_cons_zero, List.getElem_cons_succ, List.setIfInBounds_toArray, List.set_cons_zero, List.set_cons_succ]
      refine wpAnyH_take (i := 10) (v := .bool B) rfl (by kernel_rfl) (by kernel_rfl) (by kernel_rfl) (fun _ _ _ h => nomatch h.1) (Or.inl ⟨by rfl, fun w _ => by go_simp⟩) hHeld ?_
      simp only [Act.put, List.getElem_toArray, List.getElem_cons_zero, List.getElem_cons_succ, List.setIfInBounds_toArray, List.set_cons_zero, List.set_cons_succ]
      refine wpAnyH_take (i := 11) (v := .bool B) rfl (by kernel_rfl) (by kernel_rfl) (by kernel_rfl) (fun _ _ _ h => nomatch h.1) (Or.inl ⟨by rfl, fun w _ => by go_simp⟩) hHeld ?_
      simp only [Act.put, List.getElem_toArray, List.getElem_cons_zero, List.getElem_cons_succ, List.setIfInBounds_toArray, List.set_cons_zero, List.set_cons_succ]
      refine wpAnyH_take (i := 12) (v := .bool B) rfl (by kernel_rfl) (by kernel_rfl) (by kernel_rfl) (fun _ _ _ h => nomatch h.1) (Or.inl ⟨by rfl, fun w _ => by go_simp⟩) hHeld ?_
      simp only [Act.put, List.getElem_toArray, List.getElem_cons_zero, List.getElem_cons_succ, List.setIfInBounds_toArray, List.set_cons_zero, List.set_cons_succ]
      refine wpAnyH_done (by kernel_rfl) ?_ _
      exact ⟨rfl, writes_ex (by kernel_rfl) (⟨rfl, HE.out⟩)⟩
    rintro f w1 ⟨e4, hb1⟩
    have HB1 := nextB HB hb1
    clear hb1
    refine hK0 _ _ ?_
    clear hK0 K0
    simp only [writes, List.foldl_cons, List.foldl_nil, Act.put, List.setIfInBounds_toArray, List.set_cons_zero, List.set_cons_succ]
    rw [e4]
    clear e4
    go_wp2_with fail
    go_ret
    exact ⟨rfl, HB1.out⟩
  · have f1 : decide (1 ≤ d.2) = false := decide_eq_false h
    rw [decide_eq_false (p := covV l d) (fun h2 => h h2.1)]
    clear hl h KA
    generalize l.length = n at *
    go_enter Try.func19, Try.ntmps19
    go_wp2_with fail
    rw [HWB.out]
    clear HWB
    rename_i K0 hK0
    refine region_writes [5, 6, 7, 8, 9, 10, 11, 12, 13, 14, 15, 16, 4] (fun f W => f 4 = .bool false ∧ Below wb.heap.size wb W) ?_ ?_
    rotate_left
    · clear hK0 K0
      have HE : Hid (Below wb.heap.size wb wb.drew) := Lib.hid ((Below.refl _ _).drew)
      have HSB : Hid (∀ W, Below wb.heap.size wb W → (W.cell? ⟨w.heap.size, 0, none⟩ = some (.int .i64 d.1) ∧ W.cell? ⟨w.heap.size, 1, none⟩ = some (.int .i64 d.2))) := Lib.hid (fun W hW => ⟨(HD.out.call hW).cell0, (HD.out.call hW).cell1⟩)
      refine wp_region_held_drew (S := fun W => W.cell? ⟨w.heap.size, 0, none⟩ = some (.int .i64 d.1) ∧ W.cell? ⟨w.heap.size, 1, none⟩ = some (.int .i64 d.2)) (by kernel_rfl) (HSB.out _ HE.out) (fun hHeld => ?_)
      refine wpAnyH_take (i := 0) (v := .pointer (some ⟨w.heap.size, 1, none⟩)) rfl (by kernel_rfl) (by kernel_rfl) (by kernel_rfl) (fun _ _ _ h => nomatch h.1) (Or.inl ⟨by rfl, fun w _ => by go_simp⟩) hHeld ?_
      simp only [Act.put, List.getElem_toArray, List.getElem_cons_zero, List.getElem_cons_succ, List.setIfInBounds_toArray, List.set_cons_zero, List.set_cons_succ]
      refine wpAnyH_take (i := 1) (v := .int .i64 d.2) rfl (by kernel_rfl) (by kernel_rfl) (by kernel_rfl) (fun _ _ _ h => nomatch h.1) (Or.inl ⟨by rfl, fun w hw => by obtain ⟨h1, h2⟩ := hw; go_simp⟩) hHeld ?_
      simp only [Act.put, List.getElem_toArray, List.getElem_cons_zero, List.getElem_cons_succ, List.setIfInBounds_toArray, List.set_cons_zero, List.set_cons_succ]
      refine wpAnyH_take (i := 2) (v := .bool false) rfl (by kernel_rfl) (by kernel_rfl) (by kernel_rfl) (fun _ _ _ h => nomatch h.1) (Or.inl ⟨by rfl, fun w _ => by go_simp⟩) hHeld ?_
      simp only [Act.put, List.getElem_toArray, List.getElem_cons_zero, List.getElem_cons_succ, List.setIfInBounds_toArray, List.set_cons_zero, List.set_cons_succ]
      refine wpAnyH_take (i := 3) (v := .bool false) rfl (by kernel_rfl) (by kernel_rfl) (by kernel_rfl) (fun _ _ _ h => nomatch h.1) (Or.inl ⟨by rfl, fun w _ => by go_simp⟩) hHeld ?_
      simp only [Act.put, List.getElem_toArray, List.getElem_cons_zero, List.getElem_cons_succ, List.setIfInBounds_toArray, List.set_cons_zero, List.set_cons_succ]
      refine wpAnyH_take (i := 4) (v := undef) rfl (by kernel_rfl) (by kernel_rfl) (by kernel_rfl) (fun _ _ _ h => nomatch h.1) (Or.inr ⟨by rfl, rfl⟩) hHeld ?_
      simp only [Act.put, List.getElem_toArray, List.getElem_cons_zero, List.getElem_cons_succ, List.setIfInBounds_toArray, List.set_cons_zero, List.set_cons_succ]
      refine wpAnyH_take (i := 5) (v := undef) rfl (by kernel_rfl) (by kernel_rfl) (by kernel_rfl) (fun _ _ _ h => nomatch h.1) (Or.inr ⟨by rfl, rfl⟩) hHeld ?_
      simp only [Act.put, List.getElem_toArray, List.getElem_cons_zero, List.getElem_cons_succ, List.setIfInBounds_toArray, List.set_cons_zero, List.set_cons_succ]
      refine wpAnyH_take (i := 6) (v := undef) rfl (by kernel_rfl) (by kernel_rfl) (by kernel_rfl) (fun _ _ _ h => nomatch h.1) (Or.inr ⟨by rfl, rfl⟩) hHeld ?_
      simp only [Act.put, List.getElem_toArray, List.getElem_cons_zero, List.getElem_cons_succ, List.setIfInBounds_toArray, List.set_cons_zero, List.set_cons_succ]
      refine wpAnyH_take (i := 7) (v := undef) rfl (by kernel_rfl) (by kernel_rfl) (by kernel_rfl) (fun _ _ _ h => nomatch h.1) (Or.inr ⟨by rfl, rfl⟩) hHeld ?_
      simp only [Act.put, List.getElem_toArray, List.getElem_cons_zero, List.getElem_cons_succ, List.setIfInBounds_toArray, List.set_cons_zero, List.set_cons_succ]
      refine wpAnyH_take (i := 8) (v := undef) rfl (by kernel_rfl) (by kernel_rfl) (by kernel_rfl) (fun _ _ _ h => nomatch h.1) (Or.inr ⟨by rfl, rfl⟩) hHeld ?_
      simp only [Act.put, List.getElem_toArray, List.getElem_cons_zero, List.getElem_cons_succ, List.setIfInBounds_toArray, List.set_cons_zero, List.set_cons_succ]
      refine wpAnyH_take (i := 9) (v := undef) rfl (by kernel_rfl) (by kernel_rfl) (by kernel_rfl) (fun _ _ _ h => nomatch h.1) (Or.inr ⟨by rfl, rfl⟩) hHeld ?_
      simp only [Act.put, List.getElem_toArray, List.getElem_cons_zero, List.getElem_cons_succ, List.setIfInBounds_toArray, List.set_cons_zero, List.set_cons_succ]
      refine wpAnyH_take (i := 10) (v := undef) rfl (by kernel_rfl) (by kernel_rfl) (by kernel_rfl) (fun _ _ _ h => nomatch h.1) (Or.inr ⟨by rfl, rfl⟩) hHeld ?_
      simp only [Act.put, List.getElem_toArray, List.getElem_cons_zero, List.getElem_cons_succ, List.setIfInBounds_toArray, List.set_cons_zero, List.set_cons_succ]
      refine wpAnyH_take (i := 11) (v := .bool false) rfl (by kernel_rfl) (by kernel_rfl) (by kernel_rfl) (fun _ _ _ h => nomatch h.1) (Or.inl ⟨by rfl, fun w _ => by go_simp⟩) hHeld ?_
      simp only [Act.put, List.getElem_toArray, List.getElem_cons_zero, List.getElem_cons_succ, List.setIfInBounds_toArray, List.set_cons_zero, List.set_cons_succ]
      refine wpAnyH_take (i := 12) (v := .bool false) rfl (by kernel_rfl) (by kernel_rfl) (by kernel_rfl) (fun _ _ _ h => nomatch h.1) (Or.inl ⟨by rfl, fun w _ => by go_simp⟩) hHeld ?_
      simp only [Act.put, List.getElem_toArray, List.getElem_cons_zero, List.getElem_cons_succ, List.setIfInBounds_toArray, List.set_cons_zero, List.set_cons_succ]
      refine wpAnyH_done (by kernel_rfl) ?_ _
      exact ⟨rfl, writes_ex (by kernel_rfl) (⟨rfl, HE.out⟩)⟩
    rintro f w1 ⟨e4, hb1⟩
    have HB1 := nextB HB hb1
    clear hb1
    refine hK0 _ _ ?_
    clear hK0 K0
    simp only [writes, List.foldl_cons, List.foldl_nil, Act.put, List.setIfInBounds_toArray, List.set_cons_zero, List.set_cons_succ]
    rw [e4]
    clear e4
    go_wp2_with fail
    go_ret
    exact ⟨rfl, HB1.out⟩

theorem cmpV_of {l m : List Dt} (b c : Bool) (hb : decide (leV l m) = b) (hc : decide (leV m l) = c) : cmpV l m = if b = true then (if c = true then 0 else -1) else if c = true then 1 else 2 := by
  subst hb; subst hc
  unfold cmpV
  by_cases h1 : leV l m <;> by_cases h2 : leV m l <;> simp [h1, h2]

set_option maxRecDepth 100000 in
set_option maxHeartbeats 800000 in
theorem rCompare12_ok (a : Option Addr) (cap : Nat) (l : List Dt) (a2 : Option Addr) (cap2 : Nat) (m : List Dt) (h1 : okV l) (h2 : okV m) (w : World) (hl : RdDt w.heap.size w a l) (hm : RdDt w.heap.size w a2 m) :
    Calls Try.prog 26 #[.slice a l.length cap, .slice a2 m.length cap2] w fun e w' => e = .returned (.tuple #[.int .i64 (cmpV l m), .int .i64 0]) ∧ Below w.heap.size w w' := by
  have K0 := Lib.hid (rCheck2_any a cap l a2 cap2 m w hl hm)
  rw [ch2_ok h1 h2] at K0
  have K1 := Lib.hid (fun W (h : Below w.heap.size w W) => rMost12_any a cap l a2 cap2 m W (hl.call h) (hm.call h))
  have K2 := Lib.hid (fun W (h : Below w.heap.size w W) => rMost12_any a2 cap2 m a cap l W (hm.call h) (hl.call h))
  have HB := Lib.hid (Below.refl w.heap.size w)
  obtain ⟨b, hb0⟩ := exEqD (decide (leV l m))
  obtain ⟨c, hc0⟩ := exEqD (decide (leV m l))
  have HC := cmpV_of b c hb0 hc0
  rw [hb0] at K1
  rw [hc0] at K2
  rw [HC]
  clear hl hm h1 h2 hb0 hc0 HC
  generalize l.length = n at *
  generalize m.length = q at *
  cases b <;> cases c
  all_goals
    go_enter Try.func26, Try.ntmps26
    go_wp2_with (first
        | (go_at_call 31; with_reducible refine K0.out.mono ?_; rintro e w1 ⟨rfl, hb⟩; replace HB := nextB HB hb; clear hb)
        | (go_at_call 35; with_reducible refine (K1.out _ HB.out).mono ?_; rintro e w1 ⟨rfl, hb⟩; replace HB := nextB HB hb; clear hb)
        | (go_at_call 35; with_reducible refine (K2.out _ HB.out).mono ?_; rintro e w1 ⟨rfl, hb⟩; replace HB := nextB HB hb; clear hb))
    go_ret2
    exact ⟨rfl, HB.out⟩

set_option maxRecDepth 100000 in
set_option maxHeartbeats 800000 in
theorem rCompare12_bad (a : Option Addr) (cap : Nat) (l : List Dt) (a2 : Option Addr) (cap2 : Nat) (m : List Dt) (h : ¬ (okV l ∧ okV m)) (w : World) (hl : RdDt w.heap.size w a l) (hm : RdDt w.heap.size w a2 m) :
    Calls Try.prog 26 #[.slice a l.length cap, .slice a2 m.length cap2] w fun e w' => e = .returned (.tuple #[.int .i64 0, .int .i64 120]) ∧ Below w.heap.size w w' := by
  have K0 := Lib.hid (rCheck2_any a cap l a2 cap2 m w hl hm)
  rw [ch2_bad h] at K0
  have HB := Lib.hid (Below.refl w.heap.size w)
  clear hl hm h
  generalize l.length = n at *
  generalize m.length = q at *
  go_enter Try.func26, Try.ntmps26
  go_wp2_with (go_at_call 31; with_reducible refine K0.out.mono ?_; rintro e w1 ⟨rfl, hb⟩; replace HB := nextB HB hb; clear hb)
  go_ret2
  exact ⟨rfl, HB.out⟩
end Go.Proofs.Ytfdfaajjlangjaa
