/-
  The reference of cipher: Seal and Open.
-/
import Derived.Test.YtcibbghggfklbaaDoorRg
namespace Go.Proofs.YtcibbghggfklbaaDoor
open Go.RowKit
set_option linter.unusedVariables false
set_option linter.unusedSimpArgs false

theorem refStreamLe (k n : List UInt8) (hk : k.length = 32) (hn : n.length = 12) (l : List UInt8) (a : Option Addr) (q cap : Nat) (w : World) (hl : RdV w (.slice a q cap) l) (h : l.length ≤ 65536) :
    Calls Tryd.prog 15 #[.agg (bvA k), .agg (bvA n), .slice a q cap] w (AnsO (cstream k n l) 0 w) := by
  have := refStreamAny k n hk hn l a q cap w hl
  unfold streamX streamE at this
  rwa [if_pos h, if_pos h] at this
theorem refStreamGt (k n : List UInt8) (hk : k.length = 32) (hn : n.length = 12) (l : List UInt8) (a : Option Addr) (q cap : Nat) (w : World) (hl : RdV w (.slice a q cap) l) (h : ¬ l.length ≤ 65536) :
    Calls Tryd.prog 15 #[.agg (bvA k), .agg (bvA n), .slice a q cap] w (AnsO [] 60 w) := by
  have := refStreamAny k n hk hn l a q cap w hl
  unfold streamX streamE at this
  rwa [if_neg h, if_neg h] at this

set_option maxRecDepth 100000 in
set_option maxHeartbeats 2000000 in
theorem refSealAny (k n : List UInt8) (hk : k.length = 32) (hn : n.length = 12) (hd l : List UInt8) (ah : Option Addr) (p ch : Nat) (a : Option Addr) (q cap : Nat) (w : World) (hh : RdV w (.slice ah p ch) hd) (hl : RdV w (.slice a q cap) l) (hhl : hd.length ≤ 70368744100000) :
    Calls Tryd.prog 17 #[.agg (bvA k), .agg (bvA n), .slice ah p ch, .slice a q cap] w (AnsO (sealX k n hd l) (streamE l) w) := by
  have HSK := Lib.hid (key_size k hk)
  have HSN := Lib.hid (nonce_size n hn)
  have HKN := Lib.hid (KN.start w k n)
  unfold sealX streamE
  by_cases h : l.length ≤ 65536
  · rw [if_pos h, if_pos h]
    have HS := Lib.hid (fun W (hW : Below w.heap.size w W) => refStreamLe k n hk hn l a q cap W (hl.call hW) h)
    have HG : Hid (∀ W a c, Below w.heap.size w W → RdV W (.slice a (cstream k n l).length c) (cstream k n l) → Calls Tryd.prog 26 #[.agg (bvA k), .agg (bvA n), .slice ah p ch, .slice a (cstream k n l).length c] W fun e w' => ∃ v', e = .returned v' ∧ OwnB W.heap.size w' v' (tagC k n hd (cstream k n l)) ∧ Below W.heap.size W w') :=
      Lib.hid (fun W a c hW hL => refTagAny k n hd _ hk hn ah p ch a _ c W (hh.call hW) hL hhl (by rw [cstream_len]; omega))
    have HSE : Hid (sealC k n hd l = cstream k n l ++ tagC k n hd (cstream k n l)) := Lib.hid rfl
    have HLS : Hid ((cstream k n l).length + (tagC k n hd (cstream k n l)).length ≤ 140737488355328) := Lib.hid (by rw [cstream_len, tagC_len]; omega)
    generalize cstream k n l = X at *
    generalize tagC k n hd X = T at *
    clear hk hn hl hh h
    go_enter Tryd.func17, Tryd.ntmps17
    go_wp2_with (first
      | (refine wpList_load_row rfl 23 (.tmp 4) rfl w.heap.size rfl _ (bvA k) (0, 0) _ HKN.out.key Tryd.underlying23 rfl HSK.out ?_)
      | (refine wpList_load_row rfl 25 (.tmp 5) rfl (w.heap.size + 1) rfl _ (bvA n) (0, 0) _ HKN.out.nonce Tryd.underlying25 rfl HSN.out ?_)
      | (go_at_call 15; with_reducible refine (HS.out _ HKN.out.below).mono ?_; rintro e w2 hA; obtain ⟨a2, c2, rfl, ho2, hb2⟩ := hA.open; have HO2 := Lib.hid (ho2.mono HKN.out.below.size); have HK2 := Lib.hid (HKN.out.call hb2); clear hA ho2 hb2)
      | (refine wpList_load_row rfl 23 (.tmp 4) rfl w.heap.size rfl _ (bvA k) (0, 0) _ HK2.out.key Tryd.underlying23 rfl HSK.out ?_)
      | (refine wpList_load_row rfl 25 (.tmp 5) rfl (w.heap.size + 1) rfl _ (bvA n) (0, 0) _ HK2.out.nonce Tryd.underlying25 rfl HSN.out ?_)
      | (go_at_call 26; with_reducible refine (HG.out w2 a2 c2 HK2.out.below HO2.out.rdv).mono ?_; rintro e w3 ⟨v3, rfl, ho3, hb3⟩; obtain ⟨a3, c3, hv3, -, -⟩ := ho3.form; subst hv3; obtain ⟨ra, rc, he, r1, r2, r3, r4⟩ := ho3.rdv.form; injection he with e1 e2 e3; subst e1; subst e3; have HO3 := Lib.hid (HO2.out.below hb3); have HK3 := Lib.hid (HK2.out.call hb3); clear hb3 e2)
      | (refine wpList_appB rfl (.tmp 22) (.tmp 27) rfl w.heap.size _ X T _ _ rfl HO3.out rfl r1 r4 HLS.out HK3.out.below.size ?_; intro v4 w4 ho4 hg4))
    go_ret2
    rw [HSE.out]
    exact ⟨_, rfl, ho4, HK3.out.below.trans (hg4.below (fun r hr => HO3.out.base r hr) HK3.out.below.size)⟩
  · rw [if_neg h, if_neg h]
    have HS := Lib.hid (fun W (hW : Below w.heap.size w W) => refStreamGt k n hk hn l a q cap W (hl.call hW) h)
    clear hk hn hl hh h
    go_enter Tryd.func17, Tryd.ntmps17
    go_wp2_with (first
      | (refine wpList_load_row rfl 23 (.tmp 4) rfl w.heap.size rfl _ (bvA k) (0, 0) _ HKN.out.key Tryd.underlying23 rfl HSK.out ?_)
      | (refine wpList_load_row rfl 25 (.tmp 5) rfl (w.heap.size + 1) rfl _ (bvA n) (0, 0) _ HKN.out.nonce Tryd.underlying25 rfl HSN.out ?_)
      | (go_at_call 15; with_reducible refine (HS.out _ HKN.out.below).mono ?_; rintro e w2 hA; obtain ⟨a2, c2, rfl, ho2, hb2⟩ := hA.open; have HK2 := Lib.hid (HKN.out.call hb2); clear hA ho2 hb2))
    go_ret2
    exact AnsO.none HK2.out.below

theorem refOpen_short (k n : List UInt8) (hv : Value) (a : Option Addr) (q cap : Nat) (w : World) (hq : q < 16 ∨ 65552 < q) :
    Calls Tryd.prog 19 #[.agg (bvA k), .agg (bvA n), hv, .slice a q cap] w fun e w' => e = .returned (.tuple #[.slice none 0 0, .int .i64 60]) ∧ Below w.heap.size w w' := by
  have HKN := Lib.hid (KN.start w k n)
  rcases hq with hq | hq
  · have f1 : decide ((q : Int) < 16) = true := decide_eq_true (by omega)
    go_enter Tryd.func19, Tryd.ntmps19
    go_wp2_with fail
    go_ret2
    exact ⟨rfl, HKN.out.below⟩
  · have f1 : decide ((q : Int) < 16) = false := decide_eq_false (by omega)
    have f2 : decide ((65552 : Int) < (q : Int)) = true := decide_eq_true (by omega)
    go_enter Tryd.func19, Tryd.ntmps19
    go_wp2_with fail
    go_ret2
    exact ⟨rfl, HKN.out.below⟩

set_option maxRecDepth 100000 in
set_option maxHeartbeats 2000000 in
theorem refOpen_in (k n hd l : List UInt8) (s : Nat) (hk : k.length = 32) (hn : n.length = 12) (ah : Option Addr) (p ch : Nat) (b o : Nat) (cap : Nat) (w : World) (hh : RdV w (.slice ah p ch) hd) (hl : RdB w.heap.size w (some ⟨b, o, none⟩) l) (hcap : l.length ≤ cap) (hc2 : cap ≤ maxLen) (hhl : hd.length ≤ 70368744100000) (hs : l.length = s + 16) (h16 : s ≤ 65536) :
    Calls Tryd.prog 19 #[.agg (bvA k), .agg (bvA n), .slice ah p ch, .slice (some ⟨b, o, none⟩) (s + 16) cap] w (OpenP (tagged16 k n hd l) (cstream k n (l.take s)) w) := by
  have HSK := Lib.hid (key_sizeL k hk)
  have HSN := Lib.hid (nonce_sizeL n hn)
  have HSK' := Lib.hid (key_size k hk)
  have HSN' := Lib.hid (nonce_size n hn)
  have HKN := Lib.hid (KN.start w k n)
  have hcs : s ≤ cap := by omega
  have HL1 : Hid (RdV w (.slice (some ⟨b, o, none⟩) s cap) (l.take s)) := Lib.hid ⟨_, _, by rw [List.length_take, hs, Nat.min_eq_left (by omega)], hl.take s, by rw [List.length_take]; omega, hc2, fun e => by cases e⟩
  have HL2 : Hid (RdV w (.slice (some ⟨b, o + s, none⟩) 16 (cap - s)) (l.drop s)) := Lib.hid ⟨_, _, by rw [List.length_drop, hs, Nat.add_sub_cancel_left], hl.drop s, by rw [List.length_drop]; omega, by omega, fun e => by cases e⟩
  have HTL1 : Hid ((l.take s).length = s) := Lib.hid (by rw [List.length_take, hs, Nat.min_eq_left (by omega)])
  have HTG : Hid (tagged16 k n hd l = (l.drop s == tagC k n hd (l.take s))) := Lib.hid (by
    unfold tagged16; rw [hs, Nat.add_sub_cancel])
  have HG : Hid (∀ W, Below w.heap.size w W → Calls Tryd.prog 26 #[.agg (bvA k), .agg (bvA n), .slice ah p ch, .slice (some ⟨b, o, none⟩) s cap] W fun e w' => ∃ v', e = .returned v' ∧ OwnB W.heap.size w' v' (tagC k n hd (l.take s)) ∧ Below W.heap.size W w') :=
    Lib.hid (fun W hW => refTagAny k n hd _ hk hn ah p ch _ s cap W (hh.call hW) (HL1.out.call hW) hhl (by rw [HTL1.out]; omega))
  have HS : Hid (∀ W, Below w.heap.size w W → Calls Tryd.prog 15 #[.agg (bvA k), .agg (bvA n), .slice (some ⟨b, o, none⟩) s cap] W (AnsO (cstream k n (l.take s)) 0 W)) :=
    Lib.hid (fun W hW => refStreamLe k n hk hn (l.take s) _ s cap W (HL1.out.call hW) (by rw [HTL1.out]; exact h16))
  have f1 : decide (((s + 16 : Nat) : Int) < 16) = false := decide_eq_false (by omega)
  have f1' : decide ((s : Int) + 16 < 16) = false := decide_eq_false (by omega)
  have f2 : decide ((65552 : Int) < ((s + 16 : Nat) : Int)) = false := decide_eq_false (by omega)
  have f2' : decide ((65552 : Int) < (s : Int) + 16) = false := decide_eq_false (by omega)
  have f0 : IntKind.i64.wrap (((s + 16 : Nat) : Int) - 16) = (s : Int) := by rw [IntWalk.i64_in _ (by omega)]; omega
  have f0' : IntKind.i64.wrap (s : Int) = (s : Int) := IntWalk.i64_in _ (by omega)
  have i0 : (0 : Int) ≤ (s : Int) := by omega
  have i1 : (s : Int) ≤ (cap : Int) := by omega
  have i2 : s + 16 ≤ cap := by omega
  have i3 : (s : Int) ≤ (s : Int) + 16 := by omega
  have i4 : s + 16 - s = 16 := by omega
  have i5 : ¬ cap = s := by omega
  obtain ⟨X, hX⟩ : ∃ X, l.take s = X := ⟨_, rfl⟩
  obtain ⟨Y, hY⟩ : ∃ Y, l.drop s = Y := ⟨_, rfl⟩
  rw [hX] at HL1 HTL1 HTG HG HS
  rw [hY] at HL2 HTG
  rw [hX, HTG.out]
  obtain ⟨t, ht⟩ : ∃ t, tagC k n hd X = t := ⟨_, rfl⟩
  rw [ht] at HG ⊢
  have hst := str_beq Y t
  obtain ⟨sY, qY⟩ : ∃ s, (⟨Y.toArray⟩ : ByteArray) = s := ⟨_, rfl⟩
  obtain ⟨sT, qT⟩ : ∃ s, (⟨t.toArray⟩ : ByteArray) = s := ⟨_, rfl⟩
  rw [qY, qT] at hst
  have HQY := Lib.hid qY
  have HQT := Lib.hid qT
  obtain ⟨bb, hbb⟩ : ∃ bb, (Y == t) = bb := ⟨_, rfl⟩
  rw [hbb] at hst ⊢
  clear hk hn hl hh hX hY hs HTG HTL1 ht hbb qY qT
  obtain ⟨w1, hw1⟩ : ∃ w1, w1 = (w.alloc (.cells (bvA k) 23)).alloc (.cells (bvA n) 25) := ⟨_, rfl⟩
  rw [← hw1] at HKN
  have HW1 := Lib.hid hw1
  clear hw1
  go_enter Tryd.func19, Tryd.ntmps19
  go_wp2_with fail
  rw [← HW1.out]
  clear HW1
  have HSB : Hid (∀ W, Below w1.heap.size w1 W → KN w k n W ∧ RdV W (.slice (some ⟨b, o + s, none⟩) 16 (cap - s)) Y) := Lib.hid (fun W hW => ⟨HKN.out.call hW, HL2.out.call (HKN.out.below.trans (hW.mono HKN.out.below.size))⟩)
  have HB0 : Hid (Below w1.heap.size w1 w1.drew) := (Below.refl _ _).drew
  refine wp_region_held_drew (S := fun W => KN w k n W ∧ RdV W (.slice (some ⟨b, o + s, none⟩) 16 (cap - s)) Y) (by kernel_rfl) (HSB.out _ HB0.out) (fun hHeld => ?_)
  refine wpAnyH_take (i := 0) (v := .slice (some ⟨b, o, none⟩) (s + 16) cap) rfl (by kernel_rfl) (by kernel_rfl) (by kernel_rfl) (fun _ _ _ h => h) (Or.inl ⟨by rfl, fun w _ => by go_simp⟩) hHeld ?_
  simp only [Act.put, List.getElem_toArray, List.getElem_cons_zero, List.getElem_cons_succ, List.setIfInBounds_toArray, List.set_cons_zero, List.set_cons_succ]
  refine wpAnyH_take (i := 1) (v := .slice (some ⟨b, o, none⟩) (s + 16) cap) rfl (by kernel_rfl) (by kernel_rfl) (by kernel_rfl) (fun _ _ _ h => h) (Or.inl ⟨by rfl, fun w _ => by go_simp⟩) hHeld ?_
  simp only [Act.put, List.getElem_toArray, List.getElem_cons_zero, List.getElem_cons_succ, List.setIfInBounds_toArray, List.set_cons_zero, List.set_cons_succ]
  refine wpAnyH_take (i := 2) (v := .int .i64 ((s : Int) + 16)) rfl (by kernel_rfl) (by kernel_rfl) (by kernel_rfl) (fun _ _ _ h => h) (Or.inl ⟨by rfl, fun w _ => by go_simp⟩) hHeld ?_
  simp only [Act.put, List.getElem_toArray, List.getElem_cons_zero, List.getElem_cons_succ, List.setIfInBounds_toArray, List.set_cons_zero, List.set_cons_succ]
  refine wpAnyH_take (i := 3) (v := .int .i64 s) rfl (by kernel_rfl) (by kernel_rfl) (by kernel_rfl) (fun _ _ _ h => h) (Or.inl ⟨by rfl, fun w _ => by go_simp⟩) hHeld ?_
  simp only [Act.put, List.getElem_toArray, List.getElem_cons_zero, List.getElem_cons_succ, List.setIfInBounds_toArray, List.set_cons_zero, List.set_cons_succ]
  refine wpAnyH_take (i := 4) (v := .slice (some ⟨b, o + s, none⟩) 16 (cap - s)) rfl (by kernel_rfl) (by kernel_rfl) (by kernel_rfl) (fun _ _ _ h => h) (Or.inl ⟨by rfl, fun w _ => by go_simp⟩) hHeld ?_
  simp only [Act.put, List.getElem_toArray, List.getElem_cons_zero, List.getElem_cons_succ, List.setIfInBounds_toArray, List.set_cons_zero, List.set_cons_succ]
  refine wpAnyH_take (i := 5) (v := .string sY) rfl (by kernel_rfl) (by kernel_rfl) (by kernel_rfl) (fun _ _ _ h => h) (Or.inl ⟨by rfl, fun w hS => by have hv := hS.2.str; rw [HQY.out] at hv; go_simp⟩) hHeld ?_
  simp only [Act.put, List.getElem_toArray, List.getElem_cons_zero, List.getElem_cons_succ, List.setIfInBounds_toArray, List.set_cons_zero, List.set_cons_succ]
  refine wpAnyH_take (i := 6) (v := .agg (bvA k)) rfl (by kernel_rfl) (by kernel_rfl) (by kernel_rfl) (fun _ _ _ h => h) (yieldsIf_load_mid (by rfl) 23 (.tmp 4) rfl w.heap.size 0 rfl (k.map bv) _ (fun _ h => h.1.key.range) Tryd.underlying23 rfl HSK.out) hHeld ?_
  simp only [Act.put, List.getElem_toArray, List.getElem_cons_zero, List.getElem_cons_succ, List.setIfInBounds_toArray, List.set_cons_zero, List.set_cons_succ]
  refine wpAnyH_take (i := 7) (v := .agg (bvA n)) rfl (by kernel_rfl) (by kernel_rfl) (by kernel_rfl) (fun _ _ _ h => h) (yieldsIf_load_mid (by rfl) 25 (.tmp 5) rfl (w.heap.size + 1) 0 rfl (n.map bv) _ (fun _ h => h.1.nonce.range) Tryd.underlying25 rfl HSN.out) hHeld ?_
  simp only [Act.put, List.getElem_toArray, List.getElem_cons_zero, List.getElem_cons_succ, List.setIfInBounds_toArray, List.set_cons_zero, List.set_cons_succ]
  refine wpAnyH_take (i := 8) (v := .slice ah p ch) rfl (by kernel_rfl) (by kernel_rfl) (by kernel_rfl) (fun _ _ _ h => h) (Or.inl ⟨by rfl, fun w _ => by go_simp⟩) hHeld ?_
  simp only [Act.put, List.getElem_toArray, List.getElem_cons_zero, List.getElem_cons_succ, List.setIfInBounds_toArray, List.set_cons_zero, List.set_cons_succ]
  refine wpAnyH_take (i := 9) (v := .slice (some ⟨b, o, none⟩) s cap) rfl (by kernel_rfl) (by kernel_rfl) (by kernel_rfl) (fun _ _ _ h => h) (Or.inl ⟨by rfl, fun w _ => by go_simp⟩) hHeld ?_
  simp only [Act.put, List.getElem_toArray, List.getElem_cons_zero, List.getElem_cons_succ, List.setIfInBounds_toArray, List.set_cons_zero, List.set_cons_succ]
  refine wpAnyH_ready (rs := [10]) (by kernel_rfl) (by simp) (AllReadyH.cons rfl (fun K hK => ?_) AllReadyH.nil)
  go_simp
  refine (HG.out _ (HKN.out.below.trans (HB0.out.mono HKN.out.below.size))).mono ?_
  rintro e w2 ⟨v2, rfl, ho2, hb2⟩
  obtain ⟨a2, c2, hv2, -, -⟩ := ho2.form
  subst hv2
  have hcv := ho2.rdv.str
  rw [HQT.out] at hcv
  have HE2 := Lib.hid (HB0.out.trans (hb2.mono HB0.out.size))
  clear ho2 hb2
  try go_wp2_with fail
  refine hK.out _ _ (HSB.out _ HE2.out) (fun hHeld => ?_)
  clear hK K
  try simp only [Act.put, List.getElem_toArray, List.getElem_cons_zero, List.getElem_cons_succ, List.setIfInBounds_toArray, List.set_cons_zero, List.set_cons_succ]
  refine wpAnyH_ready (rs := [11]) (by kernel_rfl) (by simp) (AllReadyH.cons rfl (fun K hK => ?_) AllReadyH.nil)
  go_simp
  refine hK.out _ _ (HSB.out _ HE2.out) (fun hHeld => ?_)
  clear hK K
  try simp only [Act.put, List.getElem_toArray, List.getElem_cons_zero, List.getElem_cons_succ, List.setIfInBounds_toArray, List.set_cons_zero, List.set_cons_succ]
  refine wpAnyH_take (i := 12) (v := .bool (!bb)) rfl (by kernel_rfl) (by kernel_rfl) (by kernel_rfl) (fun _ _ _ h => h) (Or.inl ⟨by rfl, fun w _ => by go_simp⟩) hHeld ?_
  simp only [Act.put, List.getElem_toArray, List.getElem_cons_zero, List.getElem_cons_succ, List.setIfInBounds_toArray, List.set_cons_zero, List.set_cons_succ]
  refine wpAnyH_done (by kernel_rfl) ?_ _
  have HKW := Lib.hid (HSB.out _ HE2.out).1
  clear hHeld HE2 HB0 HSB HKN HL2 HG hcv hst
  cases bb
  · simp only [Bool.not_false]
    go_wp2_with fail
    go_ret2
    exact OpenP.bad HKW.out.below
  · simp only [Bool.not_true]
    go_wp2_with (first
      | (refine wpList_load_row rfl 23 (.tmp 4) rfl w.heap.size rfl _ (bvA k) (0, 0) _ HKW.out.key Tryd.underlying23 rfl HSK'.out ?_)
      | (refine wpList_load_row rfl 25 (.tmp 5) rfl (w.heap.size + 1) rfl _ (bvA n) (0, 0) _ HKW.out.nonce Tryd.underlying25 rfl HSN'.out ?_)
      | (go_at_call 15; with_reducible refine (HS.out _ HKW.out.below).mono ?_; rintro e w4 hA; obtain ⟨a4, c4, rfl, ho4, hb4⟩ := hA.open; have HO4 := Lib.hid (ho4.mono HKW.out.below.size); have HK4 := Lib.hid (HKW.out.call hb4); clear hA ho4 hb4))
    go_ret2
    exact OpenP.ok HO4.out HK4.out.below
  
theorem refOpenAny (k n : List UInt8) (hk : k.length = 32) (hn : n.length = 12) (hd l : List UInt8) (ah : Option Addr) (p ch : Nat) (a : Option Addr) (q cap : Nat) (w : World) (hh : RdV w (.slice ah p ch) hd) (hl : RdV w (.slice a q cap) l) (hhl : hd.length ≤ 70368744100000) :
    Calls Tryd.prog 19 #[.agg (bvA k), .agg (bvA n), .slice ah p ch, .slice a q cap] w (AnsO (openX k n hd l) (openE k n hd l) w) := by
  obtain ⟨a', cap', e, h1, h2, h3, h4⟩ := hl.form
  injection e with e1 e2 e3
  subst e1; subst e2; subst e3
  unfold openX openE opensC
  by_cases h : 16 ≤ l.length ∧ l.length ≤ 65552
  · rw [decide_eq_true h.1, decide_eq_true h.2, Bool.true_and, Bool.true_and]
    obtain ⟨s, hs⟩ : ∃ s, l.length = s + 16 := ⟨l.length - 16, by omega⟩
    obtain ⟨b, o, rfl, _, _⟩ := h1.at_ (by omega)
    have ho := refOpen_in k n hd l s hk hn ah p ch b o cap w hh h1 h2 h3 hhl hs (by omega)
    unfold openC
    rw [hs, Nat.add_sub_cancel]
    refine ho.mono fun e w' hp => ?_
    cases ht : tagged16 k n hd l
    · rw [ht] at hp
      obtain ⟨rfl, hb⟩ := hp
      exact AnsO.none hb
    · rw [ht] at hp
      obtain ⟨⟨v, rfl, ho⟩, hb⟩ := hp
      exact ⟨v, rfl, ho, hb⟩
  · have hx : (decide (16 ≤ l.length) && (decide (l.length ≤ 65552) && tagged16 k n hd l)) = false := by
      by_cases h16 : 16 ≤ l.length
      · rw [decide_eq_false (by omega : ¬ l.length ≤ 65552), Bool.false_and, Bool.and_false]
      · rw [decide_eq_false h16, Bool.false_and]
    rw [hx]
    exact (refOpen_short k n _ a l.length cap w (by omega)).mono fun e w' ⟨he, hb⟩ => he ▸ AnsO.none hb
end Go.Proofs.YtcibbghggfklbaaDoor
