/-
  Statements about vector: the reference; what a joined vector covers; With.
-/
import Derived.Test.YtfdfaajjlangjaaMw
namespace Go.Proofs.Ytfdfaajjlangjaa
open Go.RowKit
set_option linter.unusedVariables false
set_option linter.unusedSimpArgs false

theorem SameVT {v : Value} {l : List Dt} {v2 : Value} {m : List Dt} {w : World} (h : RsV w.heap.size w v l) (h2 : RsV w.heap.size w v2 m) (e : l = m) :
    Calls Try.prog 20 #[v, v2] w fun e w' => e = .returned (.bool true) ∧ Below w.heap.size w w' := by
  have K := SameV h h2
  rw [decide_eq_true e] at K
  exact K
theorem CoversVT {v : Value} {l : List Dt} {w : World} (h : RsV w.heap.size w v l) (d : Dt) (b : Bool) (e : decide (covV l d) = b) :
    Calls Try.prog 18 #[v, .agg #[.int .i64 d.1, .int .i64 d.2]] w fun e w' => e = .returned (.bool b) ∧ Below w.heap.size w w' := by
  have K := CoversV h d
  rw [e] at K
  exact K
theorem AtVT {v : Value} {l : List Dt} {w : World} (h : RsV w.heap.size w v l) (k : Int) (n : Int) (e : atV l k = n) :
    Calls Try.prog 16 #[v, .int .i64 k] w fun e w' => e = .returned (.int .i64 n) ∧ Below w.heap.size w w' := by
  have K := AtV h k
  rw [e] at K
  exact K

set_option maxRecDepth 100000 in
set_option maxHeartbeats 4000000 in
theorem vectorSpec_walk {va : Value} {l : List Dt} (k : Int) (d : Dt) (w : World) (h0 : RsV w.heap.size w va l) :
    Calls Try.prog 3 #[va, .int .i64 k, .agg #[.int .i64 d.1, .int .i64 d.2]] w fun e w' => e = .returned (.bool true) ∧ Below w.heap.size w w' := by
  have HB0 := Lib.hid ((DX.start w).add h0)
  clear h0
  go_enter Try.func3, Try.ntmps3
  go_wp2_with fail
  have HB1 : Hid (DX w (w.alloc (.cells #[.int .i64 d.1, .int .i64 d.2] 24)) [(va, l)] [(w.heap.size, d)]) := Lib.hid (HB0.out.box d (w.heap.size) (by rfl))
  clear HB0
  with_reducible refine (sane12_any _).mono ?_
  rintro e w2 ⟨rfl, hb⟩
  have HB2 := Lib.hid (HB1.out.call hb)
  clear hb HB1
  go_wp2_with fail
  by_cases hf_v : l.length ≤ 600
  rotate_left
  · have K := FewV (HB2.out.rd _ _ (List.Mem.head _))
    rw [decide_eq_false hf_v] at K
    with_reducible refine K.mono ?_
    rintro e wx ⟨rfl, hb⟩
    clear K
    have HB9 := Lib.hid (HB2.out.call hb)
    clear hb
    go_wp2_with fail
    go_ret
    exact ⟨rfl, HB9.out.below⟩
  have K2 := FewV (HB2.out.rd _ _ (List.Mem.head _))
  rw [decide_eq_true hf_v] at K2
  with_reducible refine (K2).mono ?_
  rintro e w3 ⟨rfl, hb⟩
  clear K2
  have HB3 := Lib.hid (HB2.out.call hb)
  clear hb HB2
  have c0_d := (HB3.out.db _ _ (List.Mem.head _)).cell0
  have c1_d := (HB3.out.db _ _ (List.Mem.head _)).cell1
  go_wp2_with fail
  clear c0_d c1_d
  with_reducible refine (WithV (HB3.out.rd _ _ (List.Mem.head _)) hf_v d).mono ?_
  rintro e w4 ⟨vx, rfl, hr, hb⟩
  have HB4 := Lib.hid (HB3.out.call hb)
  clear hb HB3
  have HB5 := Lib.hid (HB4.out.add hr)
  clear hr HB4
  have c0_d := (HB5.out.db _ _ (List.Mem.head _)).cell0
  have c1_d := (HB5.out.db _ _ (List.Mem.head _)).cell1
  go_wp2_with fail
  clear c0_d c1_d
  with_reducible refine (rWithV (HB5.out.rd _ _ (List.Mem.tail _ (List.Mem.head _))) hf_v d).mono ?_
  rintro e w6 ⟨vy, rfl, hr, hb⟩
  have HB6 := Lib.hid (HB5.out.call hb)
  clear hb HB5
  have HB7 := Lib.hid (HB6.out.add hr)
  clear hr HB6
  go_wp2_with fail
  rename_i K0 hK0
  refine region_writes [28, 29, 30, 31, 32, 33, 34, 35, 36, 37, 38, 39, 40, 41, 42, 43, 44, 45, 46, 47, 48, 49, 50, 51, 52, 53, 54, 55, 56, 57, 58, 59, 60, 6] (fun f W => f 6 = .bool true ∧ DX w W [(vy, wiR l d), (vx, wiR l d), (va, l)] [(w.heap.size, d)]) ?_ ?_
  rotate_left
  · clear hK0 K0
    have HE : Hid (Below w6.heap.size w6 w6.drew) := Lib.hid ((Below.refl _ _).drew)
    have HSB : Hid (∀ W, Below w6.heap.size w6 W → (W.cell? ⟨w.heap.size, 0, none⟩ = some (.int .i64 d.1) ∧ W.cell? ⟨w.heap.size, 1, none⟩ = some (.int .i64 d.2))) := Lib.hid (fun W hW => ⟨(((HB7.out.db _ _ (List.Mem.head _))).call hW).cell0, (((HB7.out.db _ _ (List.Mem.head _))).call hW).cell1⟩)
    have HD := Lib.hid (HB7.out.call (Below.refl _ _).drew)
    refine wp_region_held_drew (S := fun W => W.cell? ⟨w.heap.size, 0, none⟩ = some (.int .i64 d.1) ∧ W.cell? ⟨w.heap.size, 1, none⟩ = some (.int .i64 d.2)) (by kernel_rfl) (HSB.out _ HE.out) (fun hHeld => ?_)
    refine wpAnyH_take (i := 0) (v := va) rfl (by kernel_rfl) (by kernel_rfl) (by kernel_rfl) (fun _ _ _ h => nomatch h.1) (Or.inl ⟨by rfl, fun w _ => by go_simp⟩) hHeld ?_
    simp only [Act.put, List.getElem_toArray, List.getElem_cons_zero, List.getElem_cons_succ, List.setIfInBounds_toArray, List.set_cons_zero, List.set_cons_succ]
    refine wpAnyH_take (i := 2) (v := va) rfl (by kernel_rfl) (by kernel_rfl) (by kernel_rfl) (fun _ _ _ h => nomatch h.1) (Or.inl ⟨by rfl, fun w _ => by go_simp⟩) hHeld ?_
    simp only [Act.put, List.getElem_toArray, List.getElem_cons_zero, List.getElem_cons_succ, List.setIfInBounds_toArray, List.set_cons_zero, List.set_cons_succ]
    refine wpAnyH_ready (rs := [1]) (by kernel_rfl) (by simp) (AllReadyH.cons rfl (fun K hK => ?_) AllReadyH.nil)
    rw [if_pos (by rfl)]
    go_simp
    with_reducible refine (CheckV (HD.out.rd _ _ (List.Mem.tail _ (List.Mem.tail _ (List.Mem.head _))))).mono ?_
    rintro e v1 ⟨rfl, hb⟩
    replace HD := Lib.hid (HD.out.call hb)
    replace HE := Lib.hid (HE.out.trans (hb.mono HE.out.size))
    clear hb
    refine hK.out _ _ (HSB.out _ HE.out) (fun hHeld => ?_)
    clear hK K
    try simp only [Act.put, List.getElem_toArray, List.getElem_cons_zero, List.getElem_cons_succ, List.setIfInBounds_toArray, List.set_cons_zero, List.set_cons_succ]
    refine wpAnyH_ready (rs := [3]) (by kernel_rfl) (by simp) (AllReadyH.cons rfl (fun K hK => ?_) AllReadyH.nil)
    rw [if_pos (by rfl)]
    go_simp
    with_reducible refine (rCheckV (HD.out.rd _ _ (List.Mem.tail _ (List.Mem.tail _ (List.Mem.head _))))).mono ?_
    rintro e v2 ⟨rfl, hb⟩
    replace HD := Lib.hid (HD.out.call hb)
    replace HE := Lib.hid (HE.out.trans (hb.mono HE.out.size))
    clear hb
    refine hK.out _ _ (HSB.out _ HE.out) (fun hHeld => ?_)
    clear hK K
    try simp only [Act.put, List.getElem_toArray, List.getElem_cons_zero, List.getElem_cons_succ, List.setIfInBounds_toArray, List.set_cons_zero, List.set_cons_succ]
    refine wpAnyH_take (i := 4) (v := .bool true) rfl (by kernel_rfl) (by kernel_rfl) (by kernel_rfl) (fun _ _ _ h => nomatch h.1) (Or.inl ⟨by rfl, fun w _ => by go_simp⟩) hHeld ?_
    simp only [Act.put, List.getElem_toArray, List.getElem_cons_zero, List.getElem_cons_succ, List.setIfInBounds_toArray, List.set_cons_zero, List.set_cons_succ]
    refine wpAnyH_take (i := 5) (v := .bool true) rfl (by kernel_rfl) (by kernel_rfl) (by kernel_rfl) (fun _ _ _ h => nomatch h.1) (Or.inl ⟨by rfl, fun w _ => by go_simp⟩) hHeld ?_
    simp only [Act.put, List.getElem_toArray, List.getElem_cons_zero, List.getElem_cons_succ, List.setIfInBounds_toArray, List.set_cons_zero, List.set_cons_succ]
    refine wpAnyH_take (i := 6) (v := va) rfl (by kernel_rfl) (by kernel_rfl) (by kernel_rfl) (fun _ _ _ h => nomatch h.1) (Or.inl ⟨by rfl, fun w _ => by go_simp⟩) hHeld ?_
    simp only [Act.put, List.getElem_toArray, List.getElem_cons_zero, List.getElem_cons_succ, List.setIfInBounds_toArray, List.set_cons_zero, List.set_cons_succ]
    refine wpAnyH_take (i := 7) (v := .int .i64 k) rfl (by kernel_rfl) (by kernel_rfl) (by kernel_rfl) (fun _ _ _ h => nomatch h.1) (Or.inl ⟨by rfl, fun w _ => by go_simp⟩) hHeld ?_
    simp only [Act.put, List.getElem_toArray, List.getElem_cons_zero, List.getElem_cons_succ, List.setIfInBounds_toArray, List.set_cons_zero, List.set_cons_succ]
    refine wpAnyH_take (i := 9) (v := va) rfl (by kernel_rfl) (by kernel_rfl) (by kernel_rfl) (fun _ _ _ h => nomatch h.1) (Or.inl ⟨by rfl, fun w _ => by go_simp⟩) hHeld ?_
    simp only [Act.put, List.getElem_toArray, List.getElem_cons_zero, List.getElem_cons_succ, List.setIfInBounds_toArray, List.set_cons_zero, List.set_cons_succ]
    refine wpAnyH_take (i := 10) (v := .int .i64 k) rfl (by kernel_rfl) (by kernel_rfl) (by kernel_rfl) (fun _ _ _ h => nomatch h.1) (Or.inl ⟨by rfl, fun w _ => by go_simp⟩) hHeld ?_
    simp only [Act.put, List.getElem_toArray, List.getElem_cons_zero, List.getElem_cons_succ, List.setIfInBounds_toArray, List.set_cons_zero, List.set_cons_succ]
    refine wpAnyH_ready (rs := [8]) (by kernel_rfl) (by simp) (AllReadyH.cons rfl (fun K hK => ?_) AllReadyH.nil)
    rw [if_pos (by rfl)]
    go_simp
    with_reducible refine (AtV (HD.out.rd _ _ (List.Mem.tail _ (List.Mem.tail _ (List.Mem.head _)))) k).mono ?_
    rintro e v3 ⟨rfl, hb⟩
    replace HD := Lib.hid (HD.out.call hb)
    replace HE := Lib.hid (HE.out.trans (hb.mono HE.out.size))
    clear hb
    refine hK.out _ _ (HSB.out _ HE.out) (fun hHeld => ?_)
    clear hK K
    try simp only [Act.put, List.getElem_toArray, List.getElem_cons_zero, List.getElem_cons_succ, List.setIfInBounds_toArray, List.set_cons_zero, List.set_cons_succ]
    refine wpAnyH_ready (rs := [11]) (by kernel_rfl) (by simp) (AllReadyH.cons rfl (fun K hK => ?_) AllReadyH.nil)
    rw [if_pos (by rfl)]
    go_simp
    with_reducible refine (rAtV (HD.out.rd _ _ (List.Mem.tail _ (List.Mem.tail _ (List.Mem.head _)))) k).mono ?_
    rintro e v4 ⟨rfl, hb⟩
    replace HD := Lib.hid (HD.out.call hb)
    replace HE := Lib.hid (HE.out.trans (hb.mono HE.out.size))
    clear hb
    refine hK.out _ _ (HSB.out _ HE.out) (fun hHeld => ?_)
    clear hK K
    try simp only [Act.put, List.getElem_toArray, List.getElem_cons_zero, List.getElem_cons_succ, List.setIfInBounds_toArray, List.set_cons_zero, List.set_cons_succ]
    refine wpAnyH_take (i := 12) (v := .bool true) rfl (by kernel_rfl) (by kernel_rfl) (by kernel_rfl) (fun _ _ _ h => nomatch h.1) (Or.inl ⟨by rfl, fun w _ => by go_simp⟩) hHeld ?_
    simp only [Act.put, List.getElem_toArray, List.getElem_cons_zero, List.getElem_cons_succ, List.setIfInBounds_toArray, List.set_cons_zero, List.set_cons_succ]
    refine wpAnyH_take (i := 13) (v := .bool true) rfl (by kernel_rfl) (by kernel_rfl) (by kernel_rfl) (fun _ _ _ h => nomatch h.1) (Or.inl ⟨by rfl, fun w _ => by go_simp⟩) hHeld ?_
    simp only [Act.put, List.getElem_toArray, List.getElem_cons_zero, List.getElem_cons_succ, List.setIfInBounds_toArray, List.set_cons_zero, List.set_cons_succ]
    refine wpAnyH_take (i := 14) (v := .bool true) rfl (by kernel_rfl) (by kernel_rfl) (by kernel_rfl) (fun _ _ _ h => nomatch h.1) (Or.inl ⟨by rfl, fun w _ => by go_simp⟩) hHeld ?_
    simp only [Act.put, List.getElem_toArray, List.getElem_cons_zero, List.getElem_cons_succ, List.setIfInBounds_toArray, List.set_cons_zero, List.set_cons_succ]
    refine wpAnyH_take (i := 15) (v := va) rfl (by kernel_rfl) (by kernel_rfl) (by kernel_rfl) (fun _ _ _ h => nomatch h.1) (Or.inl ⟨by rfl, fun w _ => by go_simp⟩) hHeld ?_
    simp only [Act.put, List.getElem_toArray, List.getElem_cons_zero, List.getElem_cons_succ, List.setIfInBounds_toArray, List.set_cons_zero, List.set_cons_succ]
    refine wpAnyH_take (i := 16) (v := .agg #[.int .i64 d.1, .int .i64 d.2]) rfl (by kernel_rfl) (by kernel_rfl) (by kernel_rfl) (fun _ _ _ h => nomatch h.1) (Or.inl ⟨by rfl, fun w hw => by obtain ⟨h0, h1⟩ := hw; go_simp⟩) hHeld ?_
    simp only [Act.put, List.getElem_toArray, List.getElem_cons_zero, List.getElem_cons_succ, List.setIfInBounds_toArray, List.set_cons_zero, List.set_cons_succ]
    refine wpAnyH_take (i := 18) (v := va) rfl (by kernel_rfl) (by kernel_rfl) (by kernel_rfl) (fun _ _ _ h => nomatch h.1) (Or.inl ⟨by rfl, fun w _ => by go_simp⟩) hHeld ?_
    simp only [Act.put, List.getElem_toArray, List.getElem_cons_zero, List.getElem_cons_succ, List.setIfInBounds_toArray, List.set_cons_zero, List.set_cons_succ]
    refine wpAnyH_take (i := 19) (v := .agg #[.int .i64 d.1, .int .i64 d.2]) rfl (by kernel_rfl) (by kernel_rfl) (by kernel_rfl) (fun _ _ _ h => nomatch h.1) (Or.inl ⟨by rfl, fun w hw => by obtain ⟨h0, h1⟩ := hw; go_simp⟩) hHeld ?_
    simp only [Act.put, List.getElem_toArray, List.getElem_cons_zero, List.getElem_cons_succ, List.setIfInBounds_toArray, List.set_cons_zero, List.set_cons_succ]
    refine wpAnyH_ready (rs := [17]) (by kernel_rfl) (by simp) (AllReadyH.cons rfl (fun K hK => ?_) AllReadyH.nil)
    rw [if_pos (by rfl)]
    go_simp
    with_reducible refine (CoversV (HD.out.rd _ _ (List.Mem.tail _ (List.Mem.tail _ (List.Mem.head _)))) d).mono ?_
    rintro e v5 ⟨rfl, hb⟩
    replace HD := Lib.hid (HD.out.call hb)
    replace HE := Lib.hid (HE.out.trans (hb.mono HE.out.size))
    clear hb
    refine hK.out _ _ (HSB.out _ HE.out) (fun hHeld => ?_)
    clear hK K
    try simp only [Act.put, List.getElem_toArray, List.getElem_cons_zero, List.getElem_cons_succ, List.setIfInBounds_toArray, List.set_cons_zero, List.set_cons_succ]
    refine wpAnyH_ready (rs := [20]) (by kernel_rfl) (by simp) (AllReadyH.cons rfl (fun K hK => ?_) AllReadyH.nil)
    rw [if_pos (by rfl)]
    go_simp
    with_reducible refine (rCoversV (HD.out.rd _ _ (List.Mem.tail _ (List.Mem.tail _ (List.Mem.head _)))) d).mono ?_
    rintro e v6 ⟨rfl, hb⟩
    replace HD := Lib.hid (HD.out.call hb)
    replace HE := Lib.hid (HE.out.trans (hb.mono HE.out.size))
    clear hb
    refine hK.out _ _ (HSB.out _ HE.out) (fun hHeld => ?_)
    clear hK K
    try simp only [Act.put, List.getElem_toArray, List.getElem_cons_zero, List.getElem_cons_succ, List.setIfInBounds_toArray, List.set_cons_zero, List.set_cons_succ]
    refine wpAnyH_take (i := 21) (v := .bool true) rfl (by kernel_rfl) (by kernel_rfl) (by kernel_rfl) (fun _ _ _ h => nomatch h.1) (Or.inl ⟨by rfl, fun w _ => by go_simp⟩) hHeld ?_
    simp only [Act.put, List.getElem_toArray, List.getElem_cons_zero, List.getElem_cons_succ, List.setIfInBounds_toArray, List.set_cons_zero, List.set_cons_succ]
    refine wpAnyH_take (i := 22) (v := .bool true) rfl (by kernel_rfl) (by kernel_rfl) (by kernel_rfl) (fun _ _ _ h => nomatch h.1) (Or.inl ⟨by rfl, fun w _ => by go_simp⟩) hHeld ?_
    simp only [Act.put, List.getElem_toArray, List.getElem_cons_zero, List.getElem_cons_succ, List.setIfInBounds_toArray, List.set_cons_zero, List.set_cons_succ]
    refine wpAnyH_take (i := 23) (v := .bool true) rfl (by kernel_rfl) (by kernel_rfl) (by kernel_rfl) (fun _ _ _ h => nomatch h.1) (Or.inl ⟨by rfl, fun w _ => by go_simp⟩) hHeld ?_
    simp only [Act.put, List.getElem_toArray, List.getElem_cons_zero, List.getElem_cons_succ, List.setIfInBounds_toArray, List.set_cons_zero, List.set_cons_succ]
    refine wpAnyH_take (i := 24) (v := vx) rfl (by kernel_rfl) (by kernel_rfl) (by kernel_rfl) (fun _ _ _ h => nomatch h.1) (Or.inl ⟨by rfl, fun w _ => by go_simp⟩) hHeld ?_
    simp only [Act.put, List.getElem_toArray, List.getElem_cons_zero, List.getElem_cons_succ, List.setIfInBounds_toArray, List.set_cons_zero, List.set_cons_succ]
    refine wpAnyH_take (i := 25) (v := vy) rfl (by kernel_rfl) (by kernel_rfl) (by kernel_rfl) (fun _ _ _ h => nomatch h.1) (Or.inl ⟨by rfl, fun w _ => by go_simp⟩) hHeld ?_
    simp only [Act.put, List.getElem_toArray, List.getElem_cons_zero, List.getElem_cons_succ, List.setIfInBounds_toArray, List.set_cons_zero, List.set_cons_succ]
    refine wpAnyH_ready (rs := [26]) (by kernel_rfl) (by simp) (AllReadyH.cons rfl (fun K hK => ?_) AllReadyH.nil)
    rw [if_pos (by rfl)]
    go_simp
    with_reducible refine (SameVT (HD.out.rd _ _ (List.Mem.tail _ (List.Mem.head _))) (HD.out.rd _ _ (List.Mem.head _)) rfl).mono ?_
    rintro e v7 ⟨rfl, hb⟩
    replace HD := Lib.hid (HD.out.call hb)
    replace HE := Lib.hid (HE.out.trans (hb.mono HE.out.size))
    clear hb
    refine hK.out _ _ (HSB.out _ HE.out) (fun hHeld => ?_)
    clear hK K
    try simp only [Act.put, List.getElem_toArray, List.getElem_cons_zero, List.getElem_cons_succ, List.setIfInBounds_toArray, List.set_cons_zero, List.set_cons_succ]
    refine wpAnyH_take (i := 27) (v := .bool true) rfl (by kernel_rfl) (by kernel_rfl) (by kernel_rfl) (fun _ _ _ h => nomatch h.1) (Or.inl ⟨by rfl, fun w _ => by go_simp⟩) hHeld ?_
    simp only [Act.put, List.getElem_toArray, List.getElem_cons_zero, List.getElem_cons_succ, List.setIfInBounds_toArray, List.set_cons_zero, List.set_cons_succ]
    refine wpAnyH_take (i := 28) (v := .bool true) rfl (by kernel_rfl) (by kernel_rfl) (by kernel_rfl) (fun _ _ _ h => nomatch h.1) (Or.inl ⟨by rfl, fun w _ => by go_simp⟩) hHeld ?_
    simp only [Act.put, List.getElem_toArray, List.getElem_cons_zero, List.getElem_cons_succ, List.setIfInBounds_toArray, List.set_cons_zero, List.set_cons_succ]
    refine wpAnyH_take (i := 29) (v := .int .i64 (erW l d)) rfl (by kernel_rfl) (by kernel_rfl) (by kernel_rfl) (fun _ _ _ h => nomatch h.1) (Or.inl ⟨by rfl, fun w _ => by go_simp⟩) hHeld ?_
    simp only [Act.put, List.getElem_toArray, List.getElem_cons_zero, List.getElem_cons_succ, List.setIfInBounds_toArray, List.set_cons_zero, List.set_cons_succ]
    refine wpAnyH_take (i := 30) (v := .int .i64 (erW l d)) rfl (by kernel_rfl) (by kernel_rfl) (by kernel_rfl) (fun _ _ _ h => nomatch h.1) (Or.inl ⟨by rfl, fun w _ => by go_simp⟩) hHeld ?_
    simp only [Act.put, List.getElem_toArray, List.getElem_cons_zero, List.getElem_cons_succ, List.setIfInBounds_toArray, List.set_cons_zero, List.set_cons_succ]
    refine wpAnyH_take (i := 31) (v := .bool true) rfl (by kernel_rfl) (by kernel_rfl) (by kernel_rfl) (fun _ _ _ h => nomatch h.1) (Or.inl ⟨by rfl, fun w _ => by go_simp⟩) hHeld ?_
    simp only [Act.put, List.getElem_toArray, List.getElem_cons_zero, List.getElem_cons_succ, List.setIfInBounds_toArray, List.set_cons_zero, List.set_cons_succ]
    refine wpAnyH_take (i := 32) (v := .bool true) rfl (by kernel_rfl) (by kernel_rfl) (by kernel_rfl) (fun _ _ _ h => nomatch h.1) (Or.inl ⟨by rfl, fun w _ => by go_simp⟩) hHeld ?_
    simp only [Act.put, List.getElem_toArray, List.getElem_cons_zero, List.getElem_cons_succ, List.setIfInBounds_toArray, List.set_cons_zero, List.set_cons_succ]
    refine wpAnyH_take (i := 33) (v := .bool true) rfl (by kernel_rfl) (by kernel_rfl) (by kernel_rfl) (fun _ _ _ h => nomatch h.1) (Or.inl ⟨by rfl, fun w _ => by go_simp⟩) hHeld ?_
    simp only [Act.put, List.getElem_toArray, List.getElem_cons_zero, List.getElem_cons_succ, List.setIfInBounds_toArray, List.set_cons_zero, List.set_cons_succ]
    refine wpAnyH_done (by kernel_rfl) ?_ _
    exact ⟨rfl, writes_ex (by kernel_rfl) (⟨rfl, HD.out⟩)⟩
  rintro f w8 ⟨e6, hd⟩
  have HB8 := Lib.hid hd
  clear hd HB7
  refine hK0 _ _ ?_
  clear hK0 K0
  simp only [writes, List.foldl_cons, List.foldl_nil, Act.put, List.setIfInBounds_toArray, List.set_cons_zero, List.set_cons_succ]
  rw [e6]
  clear e6
  go_wp2_with fail
  go_ret
  exact ⟨rfl, HB8.out.below⟩

set_option maxRecDepth 100000 in
set_option maxHeartbeats 4000000 in
theorem vectorCovers_walk {va : Value} {l : List Dt} {vb : Value} {m : List Dt} (d : Dt) (w : World) (h0 : RsV w.heap.size w va l) (h1 : RsV w.heap.size w vb m) :
    Calls Try.prog 5 #[va, vb, .agg #[.int .i64 d.1, .int .i64 d.2]] w fun e w' => e = .returned (.bool true) ∧ Below w.heap.size w w' := by
  have HB0 := Lib.hid (((DX.start w).add h1).add h0)
  clear h0 h1
  go_enter Try.func5, Try.ntmps5
  go_wp2_with fail
  have HB1 : Hid (DX w (w.alloc (.cells #[.int .i64 d.1, .int .i64 d.2] 24)) [(va, l), (vb, m)] [(w.heap.size, d)]) := Lib.hid (HB0.out.box d (w.heap.size) (by rfl))
  clear HB0
  with_reducible refine (sane12_any _).mono ?_
  rintro e w2 ⟨rfl, hb⟩
  have HB2 := Lib.hid (HB1.out.call hb)
  clear hb HB1
  go_wp2_with fail
  by_cases hf_a : l.length ≤ 600
  rotate_left
  · have K := FewV (HB2.out.rd _ _ (List.Mem.head _))
    rw [decide_eq_false hf_a] at K
    with_reducible refine K.mono ?_
    rintro e wx ⟨rfl, hb⟩
    clear K
    have HB9 := Lib.hid (HB2.out.call hb)
    clear hb
    go_wp2_with fail
    go_ret
    exact ⟨rfl, HB9.out.below⟩
  have K2 := FewV (HB2.out.rd _ _ (List.Mem.head _))
  rw [decide_eq_true hf_a] at K2
  with_reducible refine (K2).mono ?_
  rintro e w3 ⟨rfl, hb⟩
  clear K2
  have HB3 := Lib.hid (HB2.out.call hb)
  clear hb HB2
  go_wp2_with fail
  by_cases hf_b : m.length ≤ 600
  rotate_left
  · have K := FewV (HB3.out.rd _ _ (List.Mem.tail _ (List.Mem.head _)))
    rw [decide_eq_false hf_b] at K
    with_reducible refine K.mono ?_
    rintro e wx ⟨rfl, hb⟩
    clear K
    have HB9 := Lib.hid (HB3.out.call hb)
    clear hb
    go_wp2_with fail
    go_ret
    exact ⟨rfl, HB9.out.below⟩
  have K3 := FewV (HB3.out.rd _ _ (List.Mem.tail _ (List.Mem.head _)))
  rw [decide_eq_true hf_b] at K3
  with_reducible refine (K3).mono ?_
  rintro e w4 ⟨rfl, hb⟩
  clear K3
  have HB4 := Lib.hid (HB3.out.call hb)
  clear hb HB3
  go_wp2_with fail
  by_cases ho_a : okV l
  rotate_left
  · have K := CheckV (HB4.out.rd _ _ (List.Mem.head _))
    rw [chV_bad ho_a] at K
    with_reducible refine K.mono ?_
    rintro e wx ⟨rfl, hb⟩
    clear K
    have HB9 := Lib.hid (HB4.out.call hb)
    clear hb
    go_wp2_with fail
    go_ret
    exact ⟨rfl, HB9.out.below⟩
  have K4 := CheckV (HB4.out.rd _ _ (List.Mem.head _))
  rw [chV_ok ho_a] at K4
  with_reducible refine (K4).mono ?_
  rintro e w5 ⟨rfl, hb⟩
  clear K4
  have HB5 := Lib.hid (HB4.out.call hb)
  clear hb HB4
  go_wp2_with fail
  by_cases ho_b : okV m
  rotate_left
  · have K := CheckV (HB5.out.rd _ _ (List.Mem.tail _ (List.Mem.head _)))
    rw [chV_bad ho_b] at K
    with_reducible refine K.mono ?_
    rintro e wx ⟨rfl, hb⟩
    clear K
    have HB9 := Lib.hid (HB5.out.call hb)
    clear hb
    go_wp2_with fail
    go_ret
    exact ⟨rfl, HB9.out.below⟩
  have K5 := CheckV (HB5.out.rd _ _ (List.Mem.tail _ (List.Mem.head _)))
  rw [chV_ok ho_b] at K5
  with_reducible refine (K5).mono ?_
  rintro e w6 ⟨rfl, hb⟩
  clear K5
  have HB6 := Lib.hid (HB5.out.call hb)
  clear hb HB5
  go_wp2_with fail
  have K6 := JoinV (HB6.out.rd _ _ (List.Mem.head _)) (HB6.out.rd _ _ (List.Mem.tail _ (List.Mem.head _))) (okV_few ho_a) (okV_few1 ho_b)
  rw [erR_ok ho_a ho_b, jnR_ok ho_a ho_b] at K6
  with_reducible refine (K6).mono ?_
  rintro e w7 ⟨v_j, rfl, hr, hb⟩
  clear K6
  have HB7 := Lib.hid (HB6.out.call hb)
  clear hb HB6
  have HB8 := Lib.hid (HB7.out.add hr)
  clear hr HB7
  go_wp2_with fail
  have K8 := MeetV (HB8.out.rd _ _ (List.Mem.tail _ (List.Mem.head _))) (HB8.out.rd _ _ (List.Mem.tail _ (List.Mem.tail _ (List.Mem.head _)))) (okV_few ho_a) (okV_few1 ho_b)
  rw [erR_ok ho_a ho_b, mtR_ok ho_a ho_b] at K8
  with_reducible refine (K8).mono ?_
  rintro e w9 ⟨v_k, rfl, hr, hb⟩
  clear K8
  have HB9 := Lib.hid (HB8.out.call hb)
  clear hb HB8
  have HB10 := Lib.hid (HB9.out.add hr)
  clear hr HB9
  go_wp2_with fail
  have K10 := CheckV (HB10.out.rd _ _ (List.Mem.tail _ (List.Mem.head _)))
  rw [chV_ok (jnV_ok _ _ ho_a ho_b)] at K10
  with_reducible refine (K10).mono ?_
  rintro e w11 ⟨rfl, hb⟩
  clear K10
  have HB11 := Lib.hid (HB10.out.call hb)
  clear hb HB10
  go_wp2_with fail
  have K11 := CheckV (HB11.out.rd _ _ (List.Mem.head _))
  rw [chV_ok (mtV_ok _ _ ho_a ho_b)] at K11
  with_reducible refine (K11).mono ?_
  rintro e w12 ⟨rfl, hb⟩
  clear K11
  have HB12 := Lib.hid (HB11.out.call hb)
  clear hb HB11
  by_cases c1 : covV l d <;> by_cases c2 : covV m d
  · have D1 := decide_eq_true c1
    have D2 := decide_eq_true c2
    have D3 : decide (covV (jnV l m) d) = true := decide_eq_true ((covV_join ho_a ho_b d).2 (.inl c1))
    have D4 : decide (covV (mtV l m) d) = true := decide_eq_true ((covV_meet ho_a ho_b d).2 ⟨c1, c2⟩)
    replace D1 := Lib.hid D1
    replace D2 := Lib.hid D2
    replace D3 := Lib.hid D3
    replace D4 := Lib.hid D4
    clear c1 c2
    go_wp2_with fail
    rename_i K0 hK0
    refine region_writes [61, 62, 63, 64, 65, 66, 11, 12] (fun f W => f 11 = .bool true ∧ f 12 = .bool true ∧ DX w W [(v_k, mtV l m), (v_j, jnV l m), (va, l), (vb, m)] [(w.heap.size, d)]) ?_ ?_
    rotate_left
    · clear hK0 K0
      have HE : Hid (Below w12.heap.size w12 w12.drew) := Lib.hid ((Below.refl _ _).drew)
      have HSB : Hid (∀ W, Below w12.heap.size w12 W → (W.cell? ⟨w.heap.size, 0, none⟩ = some (.int .i64 d.1) ∧ W.cell? ⟨w.heap.size, 1, none⟩ = some (.int .i64 d.2))) := Lib.hid (fun W hW => ⟨(((HB12.out.db _ _ (List.Mem.head _))).call hW).cell0, (((HB12.out.db _ _ (List.Mem.head _))).call hW).cell1⟩)
      have HD := Lib.hid (HB12.out.call (Below.refl _ _).drew)
      refine wp_region_held_drew (S := fun W => W.cell? ⟨w.heap.size, 0, none⟩ = some (.int .i64 d.1) ∧ W.cell? ⟨w.heap.size, 1, none⟩ = some (.int .i64 d.2)) (by kernel_rfl) (HSB.out _ HE.out) (fun hHeld => ?_)
      refine wpAnyH_take (i := 0) (v := va) rfl (by kernel_rfl) (by kernel_rfl) (by kernel_rfl) (fun _ _ _ h => nomatch h.1) (Or.inl ⟨by rfl, fun w _ => by go_simp⟩) hHeld ?_
      simp only [Act.put, List.getElem_toArray, List.getElem_cons_zero, List.getElem_cons_succ, List.setIfInBounds_toArray, List.set_cons_zero, List.set_cons_succ]
      refine wpAnyH_take (i := 1) (v := .agg #[.int .i64 d.1, .int .i64 d.2]) rfl (by kernel_rfl) (by kernel_rfl) (by kernel_rfl) (fun _ _ _ h => nomatch h.1) (Or.inl ⟨by rfl, fun w hw => by obtain ⟨h0, h1⟩ := hw; go_simp⟩) hHeld ?_
      simp only [Act.put, List.getElem_toArray, List.getElem_cons_zero, List.getElem_cons_succ, List.setIfInBounds_toArray, List.set_cons_zero, List.set_cons_succ]
      refine wpAnyH_take (i := 3) (v := vb) rfl (by kernel_rfl) (by kernel_rfl) (by kernel_rfl) (fun _ _ _ h => nomatch h.1) (Or.inl ⟨by rfl, fun w _ => by go_simp⟩) hHeld ?_
      simp only [Act.put, List.getElem_toArray, List.getElem_cons_zero, List.getElem_cons_succ, List.setIfInBounds_toArray, List.set_cons_zero, List.set_cons_succ]
      refine wpAnyH_take (i := 4) (v := .agg #[.int .i64 d.1, .int .i64 d.2]) rfl (by kernel_rfl) (by kernel_rfl) (by kernel_rfl) (fun _ _ _ h => nomatch h.1) (Or.inl ⟨by rfl, fun w hw => by obtain ⟨h0, h1⟩ := hw; go_simp⟩) hHeld ?_
      simp only [Act.put, List.getElem_toArray, List.getElem_cons_zero, List.getElem_cons_succ, List.setIfInBounds_toArray, List.set_cons_zero, List.set_cons_succ]
      refine wpAnyH_ready (rs := [2]) (by kernel_rfl) (by simp) (AllReadyH.cons rfl (fun K hK => ?_) AllReadyH.nil)
      rw [if_pos (by rfl)]
      go_simp
      with_reducible refine (CoversVT (HD.out.rd _ _ (List.Mem.tail _ (List.Mem.tail _ (List.Mem.head _)))) d _ D1.out).mono ?_
      rintro e v1 ⟨rfl, hb⟩
      replace HD := Lib.hid (HD.out.call hb)
      replace HE := Lib.hid (HE.out.trans (hb.mono HE.out.size))
      clear hb
      refine hK.out _ _ (HSB.out _ HE.out) (fun hHeld => ?_)
      clear hK K
      try simp only [Act.put, List.getElem_toArray, List.getElem_cons_zero, List.getElem_cons_succ, List.setIfInBounds_toArray, List.set_cons_zero, List.set_cons_succ]
      refine wpAnyH_ready (rs := [5]) (by kernel_rfl) (by simp) (AllReadyH.cons rfl (fun K hK => ?_) AllReadyH.nil)
      rw [if_pos (by rfl)]
      go_simp
      with_reducible refine (CoversVT (HD.out.rd _ _ (List.Mem.tail _ (List.Mem.tail _ (List.Mem.tail _ (List.Mem.head _))))) d _ D2.out).mono ?_
      rintro e v2 ⟨rfl, hb⟩
      replace HD := Lib.hid (HD.out.call hb)
      replace HE := Lib.hid (HE.out.trans (hb.mono HE.out.size))
      clear hb
      refine hK.out _ _ (HSB.out _ HE.out) (fun hHeld => ?_)
      clear hK K
      try simp only [Act.put, List.getElem_toArray, List.getElem_cons_zero, List.getElem_cons_succ, List.setIfInBounds_toArray, List.set_cons_zero, List.set_cons_succ]
      refine wpAnyH_take (i := 6) (v := .bool true) rfl (by kernel_rfl) (by kernel_rfl) (by kernel_rfl) (fun _ _ _ h => nomatch h.1) (Or.inl ⟨by rfl, fun w _ => by go_simp⟩) hHeld ?_
      simp only [Act.put, List.getElem_toArray, List.getElem_cons_zero, List.getElem_cons_succ, List.setIfInBounds_toArray, List.set_cons_zero, List.set_cons_succ]
      refine wpAnyH_take (i := 7) (v := .bool true) rfl (by kernel_rfl) (by kernel_rfl) (by kernel_rfl) (fun _ _ _ h => nomatch h.1) (Or.inl ⟨by rfl, fun w _ => by go_simp⟩) hHeld ?_
      simp only [Act.put, List.getElem_toArray, List.getElem_cons_zero, List.getElem_cons_succ, List.setIfInBounds_toArray, List.set_cons_zero, List.set_cons_succ]
      refine wpAnyH_done (by kernel_rfl) ?_ _
      exact ⟨rfl, writes_ex (by kernel_rfl) (⟨rfl, rfl, HD.out⟩)⟩
    rintro f w13 ⟨e11, e12, hd⟩
    have HB13 := Lib.hid hd
    clear hd HB12
    refine hK0 _ _ ?_
    clear hK0 K0
    simp only [writes, List.foldl_cons, List.foldl_nil, Act.put, List.setIfInBounds_toArray, List.set_cons_zero, List.set_cons_succ]
    rw [e11, e12]
    clear e11 e12
    have c0_d := (HB13.out.db _ _ (List.Mem.head _)).cell0
    have c1_d := (HB13.out.db _ _ (List.Mem.head _)).cell1
    go_wp2_with fail
    clear c0_d c1_d
    with_reducible refine (CoversVT (HB13.out.rd _ _ (List.Mem.tail _ (List.Mem.head _))) d _ D3.out).mono ?_
    rintro e w14 ⟨rfl, hb⟩
    have HB14 := Lib.hid (HB13.out.call hb)
    clear hb HB13
    have c0_d := (HB14.out.db _ _ (List.Mem.head _)).cell0
    have c1_d := (HB14.out.db _ _ (List.Mem.head _)).cell1
    go_wp2_with fail
    clear c0_d c1_d
    with_reducible refine (CoversVT (HB14.out.rd _ _ (List.Mem.head _)) d _ D4.out).mono ?_
    rintro e w15 ⟨rfl, hb⟩
    have HB15 := Lib.hid (HB14.out.call hb)
    clear hb HB14
    go_wp2_with fail
    go_ret
    exact ⟨rfl, HB15.out.below⟩
  · have D1 := decide_eq_true c1
    have D2 := decide_eq_false c2
    have D3 : decide (covV (jnV l m) d) = true := decide_eq_true ((covV_join ho_a ho_b d).2 (.inl c1))
    have D4 : decide (covV (mtV l m) d) = false := decide_eq_false (fun h9 => c2 ((covV_meet ho_a ho_b d).1 h9).2)
    replace D1 := Lib.hid D1
    replace D2 := Lib.hid D2
    replace D3 := Lib.hid D3
    replace D4 := Lib.hid D4
    clear c1 c2
    go_wp2_with fail
    rename_i K0 hK0
    refine region_writes [61, 62, 63, 64, 65, 66, 11, 12] (fun f W => f 11 = .bool true ∧ f 12 = .bool false ∧ DX w W [(v_k, mtV l m), (v_j, jnV l m), (va, l), (vb, m)] [(w.heap.size, d)]) ?_ ?_
    rotate_left
    · clear hK0 K0
      have HE : Hid (Below w12.heap.size w12 w12.drew) := Lib.hid ((Below.refl _ _).drew)
      have HSB : Hid (∀ W, Below w12.heap.size w12 W → (W.cell? ⟨w.heap.size, 0, none⟩ = some (.int .i64 d.1) ∧ W.cell? ⟨w.heap.size, 1, none⟩ = some (.int .i64 d.2))) := Lib.hid (fun W hW => ⟨(((HB12.out.db _ _ (List.Mem.head _))).call hW).cell0, (((HB12.out.db _ _ (List.Mem.head _))).call hW).cell1⟩)
      have HD := Lib.hid (HB12.out.call (Below.refl _ _).drew)
      refine wp_region_held_drew (S := fun W => W.cell? ⟨w.heap.size, 0, none⟩ = some (.int .i64 d.1) ∧ W.cell? ⟨w.heap.size, 1, none⟩ = some (.int .i64 d.2)) (by kernel_rfl) (HSB.out _ HE.out) (fun hHeld => ?_)
      refine wpAnyH_take (i := 0) (v := va) rfl (by kernel_rfl) (by kernel_rfl) (by kernel_rfl) (fun _ _ _ h => nomatch h.1) (Or.inl ⟨by rfl, fun w _ => by go_simp⟩) hHeld ?_
      simp only [Act.put, List.getElem_toArray, List.getElem_cons_zero, List.getElem_cons_succ, List.setIfInBounds_toArray, List.set_cons_zero, List.set_cons_succ]
      refine wpAnyH_take (i := 1) (v := .agg #[.int .i64 d.1, .int .i64 d.2]) rfl (by kernel_rfl) (by kernel_rfl) (by kernel_rfl) (fun _ _ _ h => nomatch h.1) (Or.inl ⟨by rfl, fun w hw => by obtain ⟨h0, h1⟩ := hw; go_simp⟩) hHeld ?_
      simp only [Act.put, List.getElem_toArray, List.getElem_cons_zero, List.getElem_cons_succ, List.setIfInBounds_toArray, List.set_cons_zero, List.set_cons_succ]
      refine wpAnyH_take (i := 3) (v := vb) rfl (by kernel_rfl) (by kernel_rfl) (by kernel_rfl) (fun _ _ _ h => nomatch h.1) (Or.inl ⟨by rfl, fun w _ => by go_simp⟩) hHeld ?_
      simp only [Act.put, List.getElem_toArray, List.getElem_cons_zero, List.getElem_cons_succ, List.setIfInBounds_toArray, List.set_cons_zero, List.set_cons_succ]
      refine wpAnyH_take (i := 4) (v := .agg #[.int .i64 d.1, .int .i64 d.2]) rfl (by kernel_rfl) (by kernel_rfl) (by kernel_rfl) (fun _ _ _ h => nomatch h.1) (Or.inl ⟨by rfl, fun w hw => by obtain ⟨h0, h1⟩ := hw; go_simp⟩) hHeld ?_
      simp only [Act.put, List.getElem_toArray, List.getElem_cons_zero, List.getElem_cons_succ, List.setIfInBounds_toArray, List.set_cons_zero, List.set_cons_succ]
      refine wpAnyH_ready (rs := [2]) (by kernel_rfl) (by simp) (AllReadyH.cons rfl (fun K hK => ?_) AllReadyH.nil)
      rw [if_pos (by rfl)]
      go_simp
      with_reducible refine (CoversVT (HD.out.rd _ _ (List.Mem.tail _ (List.Mem.tail _ (List.Mem.head _)))) d _ D1.out).mono ?_
      rintro e v1 ⟨rfl, hb⟩
      replace HD := Lib.hid (HD.out.call hb)
      replace HE := Lib.hid (HE.out.trans (hb.mono HE.out.size))
      clear hb
      refine hK.out _ _ (HSB.out _ HE.out) (fun hHeld => ?_)
      clear hK K
      try simp only [Act.put, List.getElem_toArray, List.getElem_cons_zero, List.getElem_cons_succ, List.setIfInBounds_toArray, List.set_cons_zero, List.set_cons_succ]
      refine wpAnyH_ready (rs := [5]) (by kernel_rfl) (by simp) (AllReadyH.cons rfl (fun K hK => ?_) AllReadyH.nil)
      rw [if_pos (by rfl)]
      go_simp
      with_reducible refine (CoversVT (HD.out.rd _ _ (List.Mem.tail _ (List.Mem.tail _ (List.Mem.tail _ (List.Mem.head _))))) d _ D2.out).mono ?_
      rintro e v2 ⟨rfl, hb⟩
      replace HD := Lib.hid (HD.out.call hb)
      replace HE := Lib.hid (HE.out.trans (hb.mono HE.out.size))
      clear hb
      refine hK.out _ _ (HSB.out _ HE.out) (fun hHeld => ?_)
      clear hK K
      try simp only [Act.put, List.getElem_toArray, List.getElem_cons_zero, List.getElem_cons_succ, List.setIfInBounds_toArray, List.set_cons_zero, List.set_cons_succ]
      refine wpAnyH_take (i := 6) (v := .bool true) rfl (by kernel_rfl) (by kernel_rfl) (by kernel_rfl) (fun _ _ _ h => nomatch h.1) (Or.inl ⟨by rfl, fun w _ => by go_simp⟩) hHeld ?_
      simp only [Act.put, List.getElem_toArray, List.getElem_cons_zero, List.getElem_cons_succ, List.setIfInBounds_toArray, List.set_cons_zero, List.set_cons_succ]
      refine wpAnyH_take (i := 7) (v := .bool false) rfl (by kernel_rfl) (by kernel_rfl) (by kernel_rfl) (fun _ _ _ h => nomatch h.1) (Or.inl ⟨by rfl, fun w _ => by go_simp⟩) hHeld ?_
      simp only [Act.put, List.getElem_toArray, List.getElem_cons_zero, List.getElem_cons_succ, List.setIfInBounds_toArray, List.set_cons_zero, List.set_cons_succ]
      refine wpAnyH_done (by kernel_rfl) ?_ _
      exact ⟨rfl, writes_ex (by kernel_rfl) (⟨rfl, rfl, HD.out⟩)⟩
    rintro f w13 ⟨e11, e12, hd⟩
    have HB13 := Lib.hid hd
    clear hd HB12
    refine hK0 _ _ ?_
    clear hK0 K0
    simp only [writes, List.foldl_cons, List.foldl_nil, Act.put, List.setIfInBounds_toArray, List.set_cons_zero, List.set_cons_succ]
    rw [e11, e12]
    clear e11 e12
    have c0_d := (HB13.out.db _ _ (List.Mem.head _)).cell0
    have c1_d := (HB13.out.db _ _ (List.Mem.head _)).cell1
    go_wp2_with fail
    clear c0_d c1_d
    with_reducible refine (CoversVT (HB13.out.rd _ _ (List.Mem.tail _ (List.Mem.head _))) d _ D3.out).mono ?_
    rintro e w14 ⟨rfl, hb⟩
    have HB14 := Lib.hid (HB13.out.call hb)
    clear hb HB13
    have c0_d := (HB14.out.db _ _ (List.Mem.head _)).cell0
    have c1_d := (HB14.out.db _ _ (List.Mem.head _)).cell1
    go_wp2_with fail
    clear c0_d c1_d
    with_reducible refine (CoversVT (HB14.out.rd _ _ (List.Mem.head _)) d _ D4.out).mono ?_
    rintro e w15 ⟨rfl, hb⟩
    have HB15 := Lib.hid (HB14.out.call hb)
    clear hb HB14
    go_wp2_with fail
    go_ret
    exact ⟨rfl, HB15.out.below⟩
  · have D1 := decide_eq_false c1
    have D2 := decide_eq_true c2
    have D3 : decide (covV (jnV l m) d) = true := decide_eq_true ((covV_join ho_a ho_b d).2 (.inr c2))
    have D4 : decide (covV (mtV l m) d) = false := decide_eq_false (fun h9 => c1 ((covV_meet ho_a ho_b d).1 h9).1)
    replace D1 := Lib.hid D1
    replace D2 := Lib.hid D2
    replace D3 := Lib.hid D3
    replace D4 := Lib.hid D4
    clear c1 c2
    go_wp2_with fail
    rename_i K0 hK0
    refine region_writes [61, 62, 63, 64, 65, 66, 11, 12] (fun f W => f 11 = .bool false ∧ f 12 = .bool true ∧ DX w W [(v_k, mtV l m), (v_j, jnV l m), (va, l), (vb, m)] [(w.heap.size, d)]) ?_ ?_
    rotate_left
    · clear hK0 K0
      have HE : Hid (Below w12.heap.size w12 w12.drew) := Lib.hid ((Below.refl _ _).drew)
      have HSB : Hid (∀ W, Below w12.heap.size w12 W → (W.cell? ⟨w.heap.size, 0, none⟩ = some (.int .i64 d.1) ∧ W.cell? ⟨w.heap.size, 1, none⟩ = some (.int .i64 d.2))) := Lib.hid (fun W hW => ⟨(((HB12.out.db _ _ (List.Mem.head _))).call hW).cell0, (((HB12.out.db _ _ (List.Mem.head _))).call hW).cell1⟩)
      have HD := Lib.hid (HB12.out.call (Below.refl _ _).drew)
      refine wp_region_held_drew (S := fun W => W.cell? ⟨w.heap.size, 0, none⟩ = some (.int .i64 d.1) ∧ W.cell? ⟨w.heap.size, 1, none⟩ = some (.int .i64 d.2)) (by kernel_rfl) (HSB.out _ HE.out) (fun hHeld => ?_)
      refine wpAnyH_take (i := 0) (v := va) rfl (by kernel_rfl) (by kernel_rfl) (by kernel_rfl) (fun _ _ _ h => nomatch h.1) (Or.inl ⟨by rfl, fun w _ => by go_simp⟩) hHeld ?_
      simp only [Act.put, List.getElem_toArray, List.getElem_cons_zero, List.getElem_cons_succ, List.setIfInBounds_toArray, List.set_cons_zero, List.set_cons_succ]
      refine wpAnyH_take (i := 1) (v := .agg #[.int .i64 d.1, .int .i64 d.2]) rfl (by kernel_rfl) (by kernel_rfl) (by kernel_rfl) (fun _ _ _ h => nomatch h.1) (Or.inl ⟨by rfl, fun w hw => by obtain ⟨h0, h1⟩ := hw; go_simp⟩) hHeld ?_
      simp only [Act.put, List.getElem_toArray, List.getElem_cons_zero, List.getElem_cons_succ, List.setIfInBounds_toArray, List.set_cons_zero, List.set_cons_succ]
      refine wpAnyH_take (i := 3) (v := vb) rfl (by kernel_rfl) (by kernel_rfl) (by kernel_rfl) (fun _ _ _ h => nomatch h.1) (Or.inl ⟨by rfl, fun w _ => by go_simp⟩) hHeld ?_
      simp only [Act.put, List.getElem_toArray, List.getElem_cons_zero, List.getElem_cons_succ, List.setIfInBounds_toArray, List.set_cons_zero, List.set_cons_succ]
      refine wpAnyH_take (i := 4) (v := .agg #[.int .i64 d.1, .int .i64 d.2]) rfl (by kernel_rfl) (by kernel_rfl) (by kernel_rfl) (fun _ _ _ h => nomatch h.1) (Or.inl ⟨by rfl, fun w hw => by obtain ⟨h0, h1⟩ := hw; go_simp⟩) hHeld ?_
      simp only [Act.put, List.getElem_toArray, List.getElem_cons_zero, List.getElem_cons_succ, List.setIfInBounds_toArray, List.set_cons_zero, List.set_cons_succ]
      refine wpAnyH_ready (rs := [2]) (by kernel_rfl) (by simp) (AllReadyH.cons rfl (fun K hK => ?_) AllReadyH.nil)
      rw [if_pos (by rfl)]
      go_simp
      with_reducible refine (CoversVT (HD.out.rd _ _ (List.Mem.tail _ (List.Mem.tail _ (List.Mem.head _)))) d _ D1.out).mono ?_
      rintro e v1 ⟨rfl, hb⟩
      replace HD := Lib.hid (HD.out.call hb)
      replace HE := Lib.hid (HE.out.trans (hb.mono HE.out.size))
      clear hb
      refine hK.out _ _ (HSB.out _ HE.out) (fun hHeld => ?_)
      clear hK K
      try simp only [Act.put, List.getElem_toArray, List.getElem_cons_zero, List.getElem_cons_succ, List.setIfInBounds_toArray, List.set_cons_zero, List.set_cons_succ]
      refine wpAnyH_ready (rs := [5]) (by kernel_rfl) (by simp) (AllReadyH.cons rfl (fun K hK => ?_) AllReadyH.nil)
      rw [if_pos (by rfl)]
      go_simp
      with_reducible refine (CoversVT (HD.out.rd _ _ (List.Mem.tail _ (List.Mem.tail _ (List.Mem.tail _ (List.Mem.head _))))) d _ D2.out).mono ?_
      rintro e v2 ⟨rfl, hb⟩
      replace HD := Lib.hid (HD.out.call hb)
      replace HE := Lib.hid (HE.out.trans (hb.mono HE.out.size))
      clear hb
      refine hK.out _ _ (HSB.out _ HE.out) (fun hHeld => ?_)
      clear hK K
      try simp only [Act.put, List.getElem_toArray, List.getElem_cons_zero, List.getElem_cons_succ, List.setIfInBounds_toArray, List.set_cons_zero, List.set_cons_succ]
      refine wpAnyH_take (i := 6) (v := .bool false) rfl (by kernel_rfl) (by kernel_rfl) (by kernel_rfl) (fun _ _ _ h => nomatch h.1) (Or.inl ⟨by rfl, fun w _ => by go_simp⟩) hHeld ?_
      simp only [Act.put, List.getElem_toArray, List.getElem_cons_zero, List.getElem_cons_succ, List.setIfInBounds_toArray, List.set_cons_zero, List.set_cons_succ]
      refine wpAnyH_take (i := 7) (v := .bool true) rfl (by kernel_rfl) (by kernel_rfl) (by kernel_rfl) (fun _ _ _ h => nomatch h.1) (Or.inl ⟨by rfl, fun w _ => by go_simp⟩) hHeld ?_
      simp only [Act.put, List.getElem_toArray, List.getElem_cons_zero, List.getElem_cons_succ, List.setIfInBounds_toArray, List.set_cons_zero, List.set_cons_succ]
      refine wpAnyH_done (by kernel_rfl) ?_ _
      exact ⟨rfl, writes_ex (by kernel_rfl) (⟨rfl, rfl, HD.out⟩)⟩
    rintro f w13 ⟨e11, e12, hd⟩
    have HB13 := Lib.hid hd
    clear hd HB12
    refine hK0 _ _ ?_
    clear hK0 K0
    simp only [writes, List.foldl_cons, List.foldl_nil, Act.put, List.setIfInBounds_toArray, List.set_cons_zero, List.set_cons_succ]
    rw [e11, e12]
    clear e11 e12
    have c0_d := (HB13.out.db _ _ (List.Mem.head _)).cell0
    have c1_d := (HB13.out.db _ _ (List.Mem.head _)).cell1
    go_wp2_with fail
    clear c0_d c1_d
    with_reducible refine (CoversVT (HB13.out.rd _ _ (List.Mem.tail _ (List.Mem.head _))) d _ D3.out).mono ?_
    rintro e w14 ⟨rfl, hb⟩
    have HB14 := Lib.hid (HB13.out.call hb)
    clear hb HB13
    have c0_d := (HB14.out.db _ _ (List.Mem.head _)).cell0
    have c1_d := (HB14.out.db _ _ (List.Mem.head _)).cell1
    go_wp2_with fail
    clear c0_d c1_d
    with_reducible refine (CoversVT (HB14.out.rd _ _ (List.Mem.head _)) d _ D4.out).mono ?_
    rintro e w15 ⟨rfl, hb⟩
    have HB15 := Lib.hid (HB14.out.call hb)
    clear hb HB14
    go_wp2_with fail
    go_ret
    exact ⟨rfl, HB15.out.below⟩
  · have D1 := decide_eq_false c1
    have D2 := decide_eq_false c2
    have D3 : decide (covV (jnV l m) d) = false := decide_eq_false (fun h9 => ((covV_join ho_a ho_b d).1 h9).elim c1 c2)
    have D4 : decide (covV (mtV l m) d) = false := decide_eq_false (fun h9 => c1 ((covV_meet ho_a ho_b d).1 h9).1)
    replace D1 := Lib.hid D1
    replace D2 := Lib.hid D2
    replace D3 := Lib.hid D3
    replace D4 := Lib.hid D4
    clear c1 c2
    go_wp2_with fail
    rename_i K0 hK0
    refine region_writes [61, 62, 63, 64, 65, 66, 11, 12] (fun f W => f 11 = .bool false ∧ f 12 = .bool false ∧ DX w W [(v_k, mtV l m), (v_j, jnV l m), (va, l), (vb, m)] [(w.heap.size, d)]) ?_ ?_
    rotate_left
    · clear hK0 K0
      have HE : Hid (Below w12.heap.size w12 w12.drew) := Lib.hid ((Below.refl _ _).drew)
      have HSB : Hid (∀ W, Below w12.heap.size w12 W → (W.cell? ⟨w.heap.size, 0, none⟩ = some (.int .i64 d.1) ∧ W.cell? ⟨w.heap.size, 1, none⟩ = some (.int .i64 d.2))) := Lib.hid (fun W hW => ⟨(((HB12.out.db _ _ (List.Mem.head _))).call hW).cell0, (((HB12.out.db _ _ (List.Mem.head _))).call hW).cell1⟩)
      have HD := Lib.hid (HB12.out.call (Below.refl _ _).drew)
      refine wp_region_held_drew (S := fun W => W.cell? ⟨w.heap.size, 0, none⟩ = some (.int .i64 d.1) ∧ W.cell? ⟨w.heap.size, 1, none⟩ = some (.int .i64 d.2)) (by kernel_rfl) (HSB.out _ HE.out) (fun hHeld => ?_)
      refine wpAnyH_take (i := 0) (v := va) rfl (by kernel_rfl) (by kernel_rfl) (by kernel_rfl) (fun _ _ _ h => nomatch h.1) (Or.inl ⟨by rfl, fun w _ => by go_simp⟩) hHeld ?_
      simp only [Act.put, List.getElem_toArray, List.getElem_cons_zero, List.getElem_cons_succ, List.setIfInBounds_toArray, List.set_cons_zero, List.set_cons_succ]
      refine wpAnyH_take (i := 1) (v := .agg #[.int .i64 d.1, .int .i64 d.2]) rfl (by kernel_rfl) (by kernel_rfl) (by kernel_rfl) (fun _ _ _ h => nomatch h.1) (Or.inl ⟨by rfl, fun w hw => by obtain ⟨h0, h1⟩ := hw; go_simp⟩) hHeld ?_
      simp only [Act.put, List.getElem_toArray, List.getElem_cons_zero, List.getElem_cons_succ, List.setIfInBounds_toArray, List.set_cons_zero, List.set_cons_succ]
      refine wpAnyH_take (i := 3) (v := vb) rfl (by kernel_rfl) (by kernel_rfl) (by kernel_rfl) (fun _ _ _ h => nomatch h.1) (Or.inl ⟨by rfl, fun w _ => by go_simp⟩) hHeld ?_
      simp only [Act.put, List.getElem_toArray, List.getElem_cons_zero, List.getElem_cons_succ, List.setIfInBounds_toArray, List.set_cons_zero, List.set_cons_succ]
      refine wpAnyH_take (i := 4) (v := .agg #[.int .i64 d.1, .int .i64 d.2]) rfl (by kernel_rfl) (by kernel_rfl) (by kernel_rfl) (fun _ _ _ h => nomatch h.1) (Or.inl ⟨by rfl, fun w hw => by obtain ⟨h0, h1⟩ := hw; go_simp⟩) hHeld ?_
      simp only [Act.put, List.getElem_toArray, List.getElem_cons_zero, List.getElem_cons_succ, List.setIfInBounds_toArray, List.set_cons_zero, List.set_cons_succ]
      refine wpAnyH_ready (rs := [2]) (by kernel_rfl) (by simp) (AllReadyH.cons rfl (fun K hK => ?_) AllReadyH.nil)
      rw [if_pos (by rfl)]
      go_simp
      with_reducible refine (CoversVT (HD.out.rd _ _ (List.Mem.tail _ (List.Mem.tail _ (List.Mem.head _)))) d _ D1.out).mono ?_
      rintro e v1 ⟨rfl, hb⟩
      replace HD := Lib.hid (HD.out.call hb)
      replace HE := Lib.hid (HE.out.trans (hb.mono HE.out.size))
      clear hb
      refine hK.out _ _ (HSB.out _ HE.out) (fun hHeld => ?_)
      clear hK K
      try simp only [Act.put, List.getElem_toArray, List.getElem_cons_zero, List.getElem_cons_succ, List.setIfInBounds_toArray, List.set_cons_zero, List.set_cons_succ]
      refine wpAnyH_ready (rs := [5]) (by kernel_rfl) (by simp) (AllReadyH.cons rfl (fun K hK => ?_) AllReadyH.nil)
      rw [if_pos (by rfl)]
      go_simp
      with_reducible refine (CoversVT (HD.out.rd _ _ (List.Mem.tail _ (List.Mem.tail _ (List.Mem.tail _ (List.Mem.head _))))) d _ D2.out).mono ?_
      rintro e v2 ⟨rfl, hb⟩
      replace HD := Lib.hid (HD.out.call hb)
      replace HE := Lib.hid (HE.out.trans (hb.mono HE.out.size))
      clear hb
      refine hK.out _ _ (HSB.out _ HE.out) (fun hHeld => ?_)
      clear hK K
      try simp only [Act.put, List.getElem_toArray, List.getElem_cons_zero, List.getElem_cons_succ, List.setIfInBounds_toArray, List.set_cons_zero, List.set_cons_succ]
      refine wpAnyH_take (i := 6) (v := .bool false) rfl (by kernel_rfl) (by kernel_rfl) (by kernel_rfl) (fun _ _ _ h => nomatch h.1) (Or.inl ⟨by rfl, fun w _ => by go_simp⟩) hHeld ?_
      simp only [Act.put, List.getElem_toArray, List.getElem_cons_zero, List.getElem_cons_succ, List.setIfInBounds_toArray, List.set_cons_zero, List.set_cons_succ]
      refine wpAnyH_take (i := 7) (v := .bool false) rfl (by kernel_rfl) (by kernel_rfl) (by kernel_rfl) (fun _ _ _ h => nomatch h.1) (Or.inl ⟨by rfl, fun w _ => by go_simp⟩) hHeld ?_
      simp only [Act.put, List.getElem_toArray, List.getElem_cons_zero, List.getElem_cons_succ, List.setIfInBounds_toArray, List.set_cons_zero, List.set_cons_succ]
      refine wpAnyH_done (by kernel_rfl) ?_ _
      exact ⟨rfl, writes_ex (by kernel_rfl) (⟨rfl, rfl, HD.out⟩)⟩
    rintro f w13 ⟨e11, e12, hd⟩
    have HB13 := Lib.hid hd
    clear hd HB12
    refine hK0 _ _ ?_
    clear hK0 K0
    simp only [writes, List.foldl_cons, List.foldl_nil, Act.put, List.setIfInBounds_toArray, List.set_cons_zero, List.set_cons_succ]
    rw [e11, e12]
    clear e11 e12
    have c0_d := (HB13.out.db _ _ (List.Mem.head _)).cell0
    have c1_d := (HB13.out.db _ _ (List.Mem.head _)).cell1
    go_wp2_with fail
    clear c0_d c1_d
    with_reducible refine (CoversVT (HB13.out.rd _ _ (List.Mem.tail _ (List.Mem.head _))) d _ D3.out).mono ?_
    rintro e w14 ⟨rfl, hb⟩
    have HB14 := Lib.hid (HB13.out.call hb)
    clear hb HB13
    have c0_d := (HB14.out.db _ _ (List.Mem.head _)).cell0
    have c1_d := (HB14.out.db _ _ (List.Mem.head _)).cell1
    go_wp2_with fail
    clear c0_d c1_d
    with_reducible refine (CoversVT (HB14.out.rd _ _ (List.Mem.head _)) d _ D4.out).mono ?_
    rintro e w15 ⟨rfl, hb⟩
    have HB15 := Lib.hid (HB14.out.call hb)
    clear hb HB14
    go_wp2_with fail
    go_ret
    exact ⟨rfl, HB15.out.below⟩
end Go.Proofs.Ytfdfaajjlangjaa
