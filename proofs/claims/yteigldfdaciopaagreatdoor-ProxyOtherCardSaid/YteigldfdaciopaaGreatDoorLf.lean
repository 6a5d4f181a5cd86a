/-
  Package proxy: pass, in both directions.
-/
import Derived.Test.YteigldfdaciopaaGreatDoorLe
import Derived.Deep.RegionHeld3
import Derived.Laws.ResultCell
import Derived.Test.YteigldfdaciopaaGreatDoorPkE
namespace Go.Proofs.YteigldfdaciopaaGreatDoor
open Go.RowKit
set_option linter.unusedVariables false
set_option linter.unusedSimpArgs false


set_option maxRecDepth 100000 in
set_option maxHeartbeats 800000 in
theorem pass_lock (g r m : Nat) (hr : r < 2305843009213688669) (hm : IsEl (m : Int)) (K : List UInt8) (hK : K.length = 32) (w : World) (hT : Tab w) (hg : CB w g 3 #[.int .i64 r]) :
    Calls Tryz.prog 28 #[lockV g, .int .i64 m, .agg (bvA K)] w fun e w' => e = .returned (.tuple #[.int .i64 ((m * (4 ^ r % 4611686018427377339) % 4611686018427377339 : Nat) : Int), .agg (bvA (kxor K (pmS ((m : Nat) : Int))))]) ∧ Below w.heap.size w w' := by
  have K1 := Lib.hid (fun W (h : Below w.heap.size w W) => lockF_any g r hr W ((hg.below h hg.lt).cell 0))
  have K2 := Lib.hid (fun W => gMul_ok m (4 ^ r % 4611686018427377339) hm (pow_isP El4 r) W)
  have kh := fun (p : Nat) W => lockH_any (m : Int) (p : Int) W
  obtain ⟨p, hp⟩ : ∃ p, m * (4 ^ r % 4611686018427377339) % 4611686018427377339 = p := ⟨_, rfl⟩
  rw [hp] at K2 ⊢
  obtain ⟨z, hz⟩ : ∃ z, 4 ^ r % 4611686018427377339 = z := ⟨_, rfl⟩
  rw [hz] at K1 K2
  clear hp hz hr hm
  unfold lockV
  have k3 := fun (n : Nat) W => must_ok (n : Int) W
  obtain ⟨ZK, hZK⟩ : ∃ ZK, ZK = bvA kZ := ⟨_, rfl⟩
  have hzk := fun W : World => (by rw [hZK]; kernel_rfl : (zeroValue 23).run Tryz.prog W = .ok (.agg ZK) W)
  have HLX : Hid ((kxor K (pmS ((m : Nat) : Int))).length = 32) := Lib.hid (kxor_len hK (pmS_len _))
  have K4 := Lib.hid (fun W h => mask_any ((m : Nat) : Int) W h)
  have K5 := Lib.hid (fun W => combined_any K (pmS ((m : Nat) : Int)) hK (pmS_len _) W)
  obtain ⟨X, hX⟩ : ∃ X, kxor K (pmS ((m : Nat) : Int)) = X := ⟨_, rfl⟩
  rw [hX] at HLX K5 ⊢
  obtain ⟨M, hM⟩ : ∃ M, pmS ((m : Nat) : Int) = M := ⟨_, rfl⟩
  rw [hM] at K4 K5
  have HLK := Lib.hid hK
  have HT := Lib.hid hT
  obtain ⟨w1, hw1⟩ : ∃ w1, w1 = ((w.alloc (.cells #[.func (.func 55) #[] #[.pointer (some ⟨g, 0, none⟩)], .func (.func 56) #[] #[]] 52)).alloc (.cells (bvA K) 23)).alloc (.cells ZK 23) := ⟨_, rfl⟩
  have HB1 : Hid (Below w.heap.size w w1) := Lib.hid (by rw [hw1]; exact (((Below.refl _ _).alloc (Nat.le_refl _) _).alloc (by simp) _).alloc (by simp; omega) _)
  have HF1 : Hid (CB w1 w.heap.size 52 #[.func (.func 55) #[] #[.pointer (some ⟨g, 0, none⟩)], .func (.func 56) #[] #[]]) := Lib.hid (by rw [hw1]; exact ((CB.new w _ _).alloc _).alloc _)
  have HK1 : Hid (BB w1 (w.heap.size + 1) 23 K) := Lib.hid (by
    have h := (BB.new (w.alloc (.cells #[.func (.func 55) #[] #[.pointer (some ⟨g, 0, none⟩)], .func (.func 56) #[] #[]] 52)) 23 K).alloc (.cells ZK 23)
    rw [hw1]
    simpa using h)
  have HZ1 : Hid (BB w1 (w.heap.size + 1 + 1) 23 kZ) := Lib.hid (by
    have h := BB.new ((w.alloc (.cells #[.func (.func 55) #[] #[.pointer (some ⟨g, 0, none⟩)], .func (.func 56) #[] #[]] 52)).alloc (.cells (bvA K) 23)) 23 kZ
    rw [hw1, hZK]
    simpa using h)
  have cf0 : (((w.alloc (.cells #[.func (.func 55) #[] #[.pointer (some ⟨g, 0, none⟩)], .func (.func 56) #[] #[]] 52)).alloc (.cells (bvA K) 23)).alloc (.cells ZK 23)).cell? ⟨w.heap.size, 0, none⟩ = some (.func (.func 55) #[] #[.pointer (some ⟨g, 0, none⟩)]) := by rw [← hw1]; exact HF1.out.cell 0
  clear hZK hK hT hX hM
  go_enter Tryz.func28, Tryz.ntmps28
  go_wp2_with fail
  rw [← hw1]
  clear hw1 cf0 hzk
  refine (K1.out _ HB1.out).mono ?_
  rintro e w2 ⟨rfl, hb⟩
  have HB2 := Lib.hid (HB1.out.trans (hb.mono HB1.out.size))
  have HF2 := Lib.hid (HF1.out.call hb)
  have HK2 := Lib.hid (HK1.out.below hb HK1.out.lt)
  have HZ2 := Lib.hid (HZ1.out.below hb HZ1.out.lt)
  clear hb HB1 HF1 HK1 HZ1
  go_wp2_with fail
  refine (K2.out _).mono ?_
  rintro e w3 ⟨rfl, hb⟩
  have HB3 := Lib.hid (HB2.out.trans (hb.mono HB2.out.size))
  have HF3 := Lib.hid (HF2.out.call hb)
  have HK3 := Lib.hid (HK2.out.below hb HK2.out.lt)
  have HZ3 := Lib.hid (HZ2.out.below hb HZ2.out.lt)
  clear hb HB2 HF2 HK2 HZ2
  go_wp2_with (go_at_call 26; with_reducible refine (k3 _ _).mono ?_; rintro e wo ⟨rfl, hwo⟩; rw [hwo]; clear hwo wo)
  have HSB : Hid (∀ W, Below w3.heap.size w3 W → (W.cell? ⟨w.heap.size, 1, none⟩ = some (.func (.func 56) #[] #[]) ∧ W.rangeAt (w.heap.size + 1) 0 (K.map bv))) := Lib.hid (fun W hW => ⟨(HF3.out.call hW).cell 1, (HK3.out.below hW HK3.out.lt).range⟩)
  have HTB : Hid (∀ W, Below w3.heap.size w3 W → Tab W) := Lib.hid (fun W hW => (HT.out.below HB3.out HT.out.lt).below hW (HT.out.below HB3.out HT.out.lt).lt)
  rename_i K0 hK0
  refine region_writes [16, 17, 18, 19, 20, 21, 22, 23, 24, 6] (fun f W => f 6 = .int .i64 (p : Int) ∧ BB W (w.heap.size + 1 + 1) 23 X ∧ Below w.heap.size w W) ?_ ?_
  rotate_left
  · clear hK0 K0
    have HE : Hid (Below w3.heap.size w3 w3.drew) := Lib.hid ((Below.refl _ _).drew)
    refine wp_region_held_drew (S := fun W => W.cell? ⟨w.heap.size, 1, none⟩ = some (.func (.func 56) #[] #[]) ∧ W.rangeAt (w.heap.size + 1) 0 (K.map bv)) (by kernel_rfl) (HSB.out _ HE.out) (fun hHeld => ?_)
    refine wpAnyH_take (i := 0) (v := .int .i64 (p : Int)) rfl (by kernel_rfl) (by kernel_rfl) (by kernel_rfl) (fun _ _ _ h => nomatch h.1) (Or.inl ⟨by rfl, fun w _ => by go_simp⟩) hHeld ?_
    simp only [Act.put, List.getElem_toArray, List.getElem_cons_zero, List.getElem_cons_succ, List.setIfInBounds_toArray, List.set_cons_zero, List.set_cons_succ]
    refine wpAnyH_take (i := 1) (v := .agg (bvA K)) rfl (by kernel_rfl) (by kernel_rfl) (by kernel_rfl) (fun _ _ _ h => nomatch h.1) (yieldsIf_load_mid (by rfl) 23 (.tmp 5) rfl (w.heap.size + 1) 0 rfl (K.map bv) _ (fun _ h => h.2) key_und rfl (key_szl _ HLK.out)) hHeld ?_
    simp only [Act.put, List.getElem_toArray, List.getElem_cons_zero, List.getElem_cons_succ, List.setIfInBounds_toArray, List.set_cons_zero, List.set_cons_succ]
    refine wpAnyH_take (i := 2) (v := .pointer (some ⟨w.heap.size, 1, none⟩)) rfl (by kernel_rfl) (by kernel_rfl) (by kernel_rfl) (fun _ _ _ h => nomatch h.1) (Or.inl ⟨by rfl, fun w _ => by go_simp⟩) hHeld ?_
    simp only [Act.put, List.getElem_toArray, List.getElem_cons_zero, List.getElem_cons_succ, List.setIfInBounds_toArray, List.set_cons_zero, List.set_cons_succ]
    refine wpAnyH_take (i := 3) (v := .func (.func 56) #[] #[]) rfl (by kernel_rfl) (by kernel_rfl) (by kernel_rfl) (fun _ _ _ h => nomatch h.1) (Or.inl ⟨by rfl, fun w hw => by obtain ⟨h1, h2⟩ := hw; go_simp⟩) hHeld ?_
    simp only [Act.put, List.getElem_toArray, List.getElem_cons_zero, List.getElem_cons_succ, List.setIfInBounds_toArray, List.set_cons_zero, List.set_cons_succ]
    refine wpAnyH_take (i := 4) (v := .int .i64 (m : Int)) rfl (by kernel_rfl) (by kernel_rfl) (by kernel_rfl) (fun _ _ _ h => nomatch h.1) (Or.inl ⟨by rfl, fun w _ => by go_simp⟩) hHeld ?_
    simp only [Act.put, List.getElem_toArray, List.getElem_cons_zero, List.getElem_cons_succ, List.setIfInBounds_toArray, List.set_cons_zero, List.set_cons_succ]
    refine wpAnyH_take (i := 5) (v := .int .i64 (p : Int)) rfl (by kernel_rfl) (by kernel_rfl) (by kernel_rfl) (fun _ _ _ h => nomatch h.1) (Or.inl ⟨by rfl, fun w _ => by go_simp⟩) hHeld ?_
    simp only [Act.put, List.getElem_toArray, List.getElem_cons_zero, List.getElem_cons_succ, List.setIfInBounds_toArray, List.set_cons_zero, List.set_cons_succ]
    refine wpAnyH_ready (rs := [6]) (by kernel_rfl) (by simp) (AllReadyH.cons rfl (fun K hK => ?_) AllReadyH.nil)
    rw [if_pos (by rfl)]
    go_simp
    refine (kh p w3.drew).mono ?_
    rintro e wo ⟨rfl, hwo⟩
    rw [hwo]
    clear hwo wo
    refine hK.out _ _ (HSB.out _ HE.out) (fun hHeld => ?_)
    clear hK K
    try simp only [Act.put, List.getElem_toArray, List.getElem_cons_zero, List.getElem_cons_succ, List.setIfInBounds_toArray, List.set_cons_zero, List.set_cons_succ]
    refine wpAnyH_ready (rs := [7]) (by kernel_rfl) (by simp) (AllReadyH.cons rfl (fun K hK => ?_) AllReadyH.nil)
    rw [if_pos (by rfl)]
    go_simp
    refine (K4.out w3.drew (HTB.out _ HE.out)).mono ?_
    rintro e v1 ⟨rfl, hb⟩
    replace HE := Lib.hid (HE.out.trans (hb.mono HE.out.size))
    clear hb
    refine hK.out _ _ (HSB.out _ HE.out) (fun hHeld => ?_)
    clear hK K
    try simp only [Act.put, List.getElem_toArray, List.getElem_cons_zero, List.getElem_cons_succ, List.setIfInBounds_toArray, List.set_cons_zero, List.set_cons_succ]
    refine wpAnyH_ready (rs := [8]) (by kernel_rfl) (by simp) (AllReadyH.cons rfl (fun K hK => ?_) AllReadyH.nil)
    rw [if_pos (by rfl)]
    go_simp
    refine (K5.out v1).mono ?_
    rintro e v2 ⟨rfl, hb⟩
    replace HE := Lib.hid (HE.out.trans (hb.mono HE.out.size))
    clear hb
    refine hK.out _ _ (HSB.out _ HE.out) (fun hHeld => ?_)
    clear hK K
    try simp only [Act.put, List.getElem_toArray, List.getElem_cons_zero, List.getElem_cons_succ, List.setIfInBounds_toArray, List.set_cons_zero, List.set_cons_succ]
    refine wpAnyH_take (i := 9) (v := .int .i64 (p : Int)) rfl (by kernel_rfl) (by kernel_rfl) (by kernel_rfl) (fun _ _ _ h => nomatch h.1) (Or.inl ⟨by rfl, fun w _ => by go_simp⟩) hHeld ?_
    simp only [Act.put, List.getElem_toArray, List.getElem_cons_zero, List.getElem_cons_succ, List.setIfInBounds_toArray, List.set_cons_zero, List.set_cons_succ]
    refine wpAnyH_ready (rs := [10]) (by kernel_rfl) (by simp) (AllReadyH.cons rfl (fun K hK => ?_) AllReadyH.nil)
    rw [if_pos (by rfl)]
    have HZ9 := Lib.hid (HZ3.out.below HE.out HZ3.out.lt)
    refine wp_storeA 23 (.tmp 7) (.tmp 24) rfl (w.heap.size + 1 + 1) (bvA X) rfl rfl 23 _ HZ9.out (key_sz _ HLX.out) (key_old _ HLX.out) (bvA_one _) ?_
    intro v3 hn hg
    have HN9 : Hid (BB v3 (w.heap.size + 1 + 1) 23 X) := Lib.hid hn
    have HE9 : Hid (Below w.heap.size w v3) := Lib.hid (grown_below (HB3.out.trans (HE.out.mono HB3.out.size)) hg (by omega) (Nat.le_trans HB3.out.size HE.out.size))
    have HF9 := Lib.hid ((HF3.out.call HE.out).grown hg (by omega))
    have HK9 := Lib.hid ((HK3.out.below HE.out HK3.out.lt).grown hg (by omega))
    clear hn hg
    refine hK.out _ _ (⟨HF9.out.cell 1, HK9.out.range⟩) (fun hHeld => ?_)
    clear hK K
    try simp only [Act.put, List.getElem_toArray, List.getElem_cons_zero, List.getElem_cons_succ, List.setIfInBounds_toArray, List.set_cons_zero, List.set_cons_succ]
    refine wpAnyH_done (by kernel_rfl) ?_ _
    exact ⟨rfl, writes_ex (by kernel_rfl) (⟨rfl, HN9.out, HE9.out⟩)⟩
  rintro f W ⟨e6, hn, hB9⟩
  refine hK0 _ _ ?_
  clear hK0 K0
  simp only [writes, List.foldl_cons, List.foldl_nil, Act.put, List.setIfInBounds_toArray, List.set_cons_zero, List.set_cons_succ]
  rw [e6]
  clear e6
  go_wp2_with fail
  refine bodyPost_ret (v := .tuple #[.int .i64 (p : Int), .agg (bvA X)]) ?_ rfl ⟨rfl, hB9⟩
  exact results_tmp_row (by rfl) _ _ (w.heap.size + 1 + 1) 23 _ (0, 0) _ rfl hn key_und rfl (key_sz _ HLX.out) _ rfl

set_option maxRecDepth 100000 in
set_option maxHeartbeats 800000 in
theorem pass_open (ga gx a x b : Nat) (ha : IsEl (a : Int)) (hx : PkQ x) (hb0 : IsEl (b : Int)) (K : List UInt8) (hK : K.length = 32) (w : World) (hT : Tab w) (hga : CB w ga 3 #[.int .i64 a]) (hgx : CB w gx 3 #[.int .i64 x]) :
    Calls Tryz.prog 28 #[openV ga gx, .int .i64 b, .agg (bvA K)] w fun e w' => e = .returned (.tuple #[.int .i64 ((opM x a b : Nat) : Int), .agg (bvA (kxor K (pmS ((opM x a b : Nat) : Int))))]) ∧ Below w.heap.size w w' := by
  have K1 := Lib.hid (fun W (h : Below w.heap.size w W) => openF_any ga gx a x ha hx W ((hga.below h hga.lt).cell 0) ((hgx.below h hgx.lt).cell 0) (Nat.lt_of_lt_of_le hga.lt h.size) (Nat.lt_of_lt_of_le hgx.lt h.size))
  have K2 := Lib.hid (fun W => gMul_ok b ((a ^ fvR x % 4611686018427377339) ^ (oQ - 1) % 4611686018427377339) hb0 (inv_isP (ha.el.pow _)) W)
  rw [show b * ((a ^ fvR x % 4611686018427377339) ^ (oQ - 1) % 4611686018427377339) % 4611686018427377339 = opM x a b from rfl] at K2
  obtain ⟨p, hp⟩ : ∃ p, opM x a b = p := ⟨_, rfl⟩
  rw [hp] at K2 ⊢
  have kh := fun W => openH_any (b : Int) (p : Int) W
  obtain ⟨z, hz⟩ : ∃ z, (a ^ fvR x % 4611686018427377339) ^ (oQ - 1) % 4611686018427377339 = z := ⟨_, rfl⟩
  rw [hz] at K1 K2
  clear hp hz ha hx hb0
  unfold openV
  have k3 := fun (n : Nat) W => must_ok (n : Int) W
  obtain ⟨ZK, hZK⟩ : ∃ ZK, ZK = bvA kZ := ⟨_, rfl⟩
  have hzk := fun W : World => (by rw [hZK]; kernel_rfl : (zeroValue 23).run Tryz.prog W = .ok (.agg ZK) W)
  have HLX : Hid ((kxor K (pmS ((p : Nat) : Int))).length = 32) := Lib.hid (kxor_len hK (pmS_len _))
  have K4 := Lib.hid (fun W h => mask_any ((p : Nat) : Int) W h)
  have K5 := Lib.hid (fun W => combined_any K (pmS ((p : Nat) : Int)) hK (pmS_len _) W)
  obtain ⟨X, hX⟩ : ∃ X, kxor K (pmS ((p : Nat) : Int)) = X := ⟨_, rfl⟩
  rw [hX] at HLX K5 ⊢
  obtain ⟨M, hM⟩ : ∃ M, pmS ((p : Nat) : Int) = M := ⟨_, rfl⟩
  rw [hM] at K4 K5
  have HLK := Lib.hid hK
  have HT := Lib.hid hT
  obtain ⟨w1, hw1⟩ : ∃ w1, w1 = ((w.alloc (.cells #[.func (.func 68) #[] #[.pointer (some ⟨ga, 0, none⟩), .pointer (some ⟨gx, 0, none⟩)], .func (.func 69) #[] #[]] 52)).alloc (.cells (bvA K) 23)).alloc (.cells ZK 23) := ⟨_, rfl⟩
  have HB1 : Hid (Below w.heap.size w w1) := Lib.hid (by rw [hw1]; exact (((Below.refl _ _).alloc (Nat.le_refl _) _).alloc (by simp) _).alloc (by simp; omega) _)
  have HF1 : Hid (CB w1 w.heap.size 52 #[.func (.func 68) #[] #[.pointer (some ⟨ga, 0, none⟩), .pointer (some ⟨gx, 0, none⟩)], .func (.func 69) #[] #[]]) := Lib.hid (by rw [hw1]; exact ((CB.new w _ _).alloc _).alloc _)
  have HK1 : Hid (BB w1 (w.heap.size + 1) 23 K) := Lib.hid (by
    have h := (BB.new (w.alloc (.cells #[.func (.func 68) #[] #[.pointer (some ⟨ga, 0, none⟩), .pointer (some ⟨gx, 0, none⟩)], .func (.func 69) #[] #[]] 52)) 23 K).alloc (.cells ZK 23)
    rw [hw1]
    simpa using h)
  have HZ1 : Hid (BB w1 (w.heap.size + 1 + 1) 23 kZ) := Lib.hid (by
    have h := BB.new ((w.alloc (.cells #[.func (.func 68) #[] #[.pointer (some ⟨ga, 0, none⟩), .pointer (some ⟨gx, 0, none⟩)], .func (.func 69) #[] #[]] 52)).alloc (.cells (bvA K) 23)) 23 kZ
    rw [hw1, hZK]
    simpa using h)
  have cf0 : (((w.alloc (.cells #[.func (.func 68) #[] #[.pointer (some ⟨ga, 0, none⟩), .pointer (some ⟨gx, 0, none⟩)], .func (.func 69) #[] #[]] 52)).alloc (.cells (bvA K) 23)).alloc (.cells ZK 23)).cell? ⟨w.heap.size, 0, none⟩ = some (.func (.func 68) #[] #[.pointer (some ⟨ga, 0, none⟩), .pointer (some ⟨gx, 0, none⟩)]) := by rw [← hw1]; exact HF1.out.cell 0
  clear hZK hK hT hX hM
  go_enter Tryz.func28, Tryz.ntmps28
  go_wp2_with fail
  rw [← hw1]
  clear hw1 cf0 hzk
  refine (K1.out _ HB1.out).mono ?_
  rintro e w2 ⟨rfl, hb⟩
  have HB2 := Lib.hid (HB1.out.trans (hb.mono HB1.out.size))
  have HF2 := Lib.hid (HF1.out.call hb)
  have HK2 := Lib.hid (HK1.out.below hb HK1.out.lt)
  have HZ2 := Lib.hid (HZ1.out.below hb HZ1.out.lt)
  clear hb HB1 HF1 HK1 HZ1
  go_wp2_with fail
  refine (K2.out _).mono ?_
  rintro e w3 ⟨rfl, hb⟩
  have HB3 := Lib.hid (HB2.out.trans (hb.mono HB2.out.size))
  have HF3 := Lib.hid (HF2.out.call hb)
  have HK3 := Lib.hid (HK2.out.below hb HK2.out.lt)
  have HZ3 := Lib.hid (HZ2.out.below hb HZ2.out.lt)
  clear hb HB2 HF2 HK2 HZ2
  go_wp2_with (go_at_call 26; with_reducible refine (k3 _ _).mono ?_; rintro e wo ⟨rfl, hwo⟩; rw [hwo]; clear hwo wo)
  have HSB : Hid (∀ W, Below w3.heap.size w3 W → (W.cell? ⟨w.heap.size, 1, none⟩ = some (.func (.func 69) #[] #[]) ∧ W.rangeAt (w.heap.size + 1) 0 (K.map bv))) := Lib.hid (fun W hW => ⟨(HF3.out.call hW).cell 1, (HK3.out.below hW HK3.out.lt).range⟩)
  have HTB : Hid (∀ W, Below w3.heap.size w3 W → Tab W) := Lib.hid (fun W hW => (HT.out.below HB3.out HT.out.lt).below hW (HT.out.below HB3.out HT.out.lt).lt)
  rename_i K0 hK0
  refine region_writes [16, 17, 18, 19, 20, 21, 22, 23, 24, 6] (fun f W => f 6 = .int .i64 (p : Int) ∧ BB W (w.heap.size + 1 + 1) 23 X ∧ Below w.heap.size w W) ?_ ?_
  rotate_left
  · clear hK0 K0
    have HE : Hid (Below w3.heap.size w3 w3.drew) := Lib.hid ((Below.refl _ _).drew)
    refine wp_region_held_drew (S := fun W => W.cell? ⟨w.heap.size, 1, none⟩ = some (.func (.func 69) #[] #[]) ∧ W.rangeAt (w.heap.size + 1) 0 (K.map bv)) (by kernel_rfl) (HSB.out _ HE.out) (fun hHeld => ?_)
    refine wpAnyH_take (i := 0) (v := .int .i64 (p : Int)) rfl (by kernel_rfl) (by kernel_rfl) (by kernel_rfl) (fun _ _ _ h => nomatch h.1) (Or.inl ⟨by rfl, fun w _ => by go_simp⟩) hHeld ?_
    simp only [Act.put, List.getElem_toArray, List.getElem_cons_zero, List.getElem_cons_succ, List.setIfInBounds_toArray, List.set_cons_zero, List.set_cons_succ]
    refine wpAnyH_take (i := 1) (v := .agg (bvA K)) rfl (by kernel_rfl) (by kernel_rfl) (by kernel_rfl) (fun _ _ _ h => nomatch h.1) (yieldsIf_load_mid (by rfl) 23 (.tmp 5) rfl (w.heap.size + 1) 0 rfl (K.map bv) _ (fun _ h => h.2) key_und rfl (key_szl _ HLK.out)) hHeld ?_
    simp only [Act.put, List.getElem_toArray, List.getElem_cons_zero, List.getElem_cons_succ, List.setIfInBounds_toArray, List.set_cons_zero, List.set_cons_succ]
    refine wpAnyH_take (i := 2) (v := .pointer (some ⟨w.heap.size, 1, none⟩)) rfl (by kernel_rfl) (by kernel_rfl) (by kernel_rfl) (fun _ _ _ h => nomatch h.1) (Or.inl ⟨by rfl, fun w _ => by go_simp⟩) hHeld ?_
    simp only [Act.put, List.getElem_toArray, List.getElem_cons_zero, List.getElem_cons_succ, List.setIfInBounds_toArray, List.set_cons_zero, List.set_cons_succ]
    refine wpAnyH_take (i := 3) (v := .func (.func 69) #[] #[]) rfl (by kernel_rfl) (by kernel_rfl) (by kernel_rfl) (fun _ _ _ h => nomatch h.1) (Or.inl ⟨by rfl, fun w hw => by obtain ⟨h1, h2⟩ := hw; go_simp⟩) hHeld ?_
    simp only [Act.put, List.getElem_toArray, List.getElem_cons_zero, List.getElem_cons_succ, List.setIfInBounds_toArray, List.set_cons_zero, List.set_cons_succ]
    refine wpAnyH_take (i := 4) (v := .int .i64 (b : Int)) rfl (by kernel_rfl) (by kernel_rfl) (by kernel_rfl) (fun _ _ _ h => nomatch h.1) (Or.inl ⟨by rfl, fun w _ => by go_simp⟩) hHeld ?_
    simp only [Act.put, List.getElem_toArray, List.getElem_cons_zero, List.getElem_cons_succ, List.setIfInBounds_toArray, List.set_cons_zero, List.set_cons_succ]
    refine wpAnyH_take (i := 5) (v := .int .i64 (p : Int)) rfl (by kernel_rfl) (by kernel_rfl) (by kernel_rfl) (fun _ _ _ h => nomatch h.1) (Or.inl ⟨by rfl, fun w _ => by go_simp⟩) hHeld ?_
    simp only [Act.put, List.getElem_toArray, List.getElem_cons_zero, List.getElem_cons_succ, List.setIfInBounds_toArray, List.set_cons_zero, List.set_cons_succ]
    refine wpAnyH_ready (rs := [6]) (by kernel_rfl) (by simp) (AllReadyH.cons rfl (fun K hK => ?_) AllReadyH.nil)
    rw [if_pos (by rfl)]
    go_simp
    refine (kh w3.drew).mono ?_
    rintro e wo ⟨rfl, hwo⟩
    rw [hwo]
    clear hwo wo
    refine hK.out _ _ (HSB.out _ HE.out) (fun hHeld => ?_)
    clear hK K
    try simp only [Act.put, List.getElem_toArray, List.getElem_cons_zero, List.getElem_cons_succ, List.setIfInBounds_toArray, List.set_cons_zero, List.set_cons_succ]
    refine wpAnyH_ready (rs := [7]) (by kernel_rfl) (by simp) (AllReadyH.cons rfl (fun K hK => ?_) AllReadyH.nil)
    rw [if_pos (by rfl)]
    go_simp
    refine (K4.out w3.drew (HTB.out _ HE.out)).mono ?_
    rintro e v1 ⟨rfl, hb⟩
    replace HE := Lib.hid (HE.out.trans (hb.mono HE.out.size))
    clear hb
    refine hK.out _ _ (HSB.out _ HE.out) (fun hHeld => ?_)
    clear hK K
    try simp only [Act.put, List.getElem_toArray, List.getElem_cons_zero, List.getElem_cons_succ, List.setIfInBounds_toArray, List.set_cons_zero, List.set_cons_succ]
    refine wpAnyH_ready (rs := [8]) (by kernel_rfl) (by simp) (AllReadyH.cons rfl (fun K hK => ?_) AllReadyH.nil)
    rw [if_pos (by rfl)]
    go_simp
    refine (K5.out v1).mono ?_
    rintro e v2 ⟨rfl, hb⟩
    replace HE := Lib.hid (HE.out.trans (hb.mono HE.out.size))
    clear hb
    refine hK.out _ _ (HSB.out _ HE.out) (fun hHeld => ?_)
    clear hK K
    try simp only [Act.put, List.getElem_toArray, List.getElem_cons_zero, List.getElem_cons_succ, List.setIfInBounds_toArray, List.set_cons_zero, List.set_cons_succ]
    refine wpAnyH_take (i := 9) (v := .int .i64 (p : Int)) rfl (by kernel_rfl) (by kernel_rfl) (by kernel_rfl) (fun _ _ _ h => nomatch h.1) (Or.inl ⟨by rfl, fun w _ => by go_simp⟩) hHeld ?_
    simp only [Act.put, List.getElem_toArray, List.getElem_cons_zero, List.getElem_cons_succ, List.setIfInBounds_toArray, List.set_cons_zero, List.set_cons_succ]
    refine wpAnyH_ready (rs := [10]) (by kernel_rfl) (by simp) (AllReadyH.cons rfl (fun K hK => ?_) AllReadyH.nil)
    rw [if_pos (by rfl)]
    have HZ9 := Lib.hid (HZ3.out.below HE.out HZ3.out.lt)
    refine wp_storeA 23 (.tmp 7) (.tmp 24) rfl (w.heap.size + 1 + 1) (bvA X) rfl rfl 23 _ HZ9.out (key_sz _ HLX.out) (key_old _ HLX.out) (bvA_one _) ?_
    intro v3 hn hg
    have HN9 : Hid (BB v3 (w.heap.size + 1 + 1) 23 X) := Lib.hid hn
    have HE9 : Hid (Below w.heap.size w v3) := Lib.hid (grown_below (HB3.out.trans (HE.out.mono HB3.out.size)) hg (by omega) (Nat.le_trans HB3.out.size HE.out.size))
    have HF9 := Lib.hid ((HF3.out.call HE.out).grown hg (by omega))
    have HK9 := Lib.hid ((HK3.out.below HE.out HK3.out.lt).grown hg (by omega))
    clear hn hg
    refine hK.out _ _ (⟨HF9.out.cell 1, HK9.out.range⟩) (fun hHeld => ?_)
    clear hK K
    try simp only [Act.put, List.getElem_toArray, List.getElem_cons_zero, List.getElem_cons_succ, List.setIfInBounds_toArray, List.set_cons_zero, List.set_cons_succ]
    refine wpAnyH_done (by kernel_rfl) ?_ _
    exact ⟨rfl, writes_ex (by kernel_rfl) (⟨rfl, HN9.out, HE9.out⟩)⟩
  rintro f W ⟨e6, hn, hB9⟩
  refine hK0 _ _ ?_
  clear hK0 K0
  simp only [writes, List.foldl_cons, List.foldl_nil, Act.put, List.setIfInBounds_toArray, List.set_cons_zero, List.set_cons_succ]
  rw [e6]
  clear e6
  go_wp2_with fail
  refine bodyPost_ret (v := .tuple #[.int .i64 (p : Int), .agg (bvA X)]) ?_ rfl ⟨rfl, hB9⟩
  exact results_tmp_row (by rfl) _ _ (w.heap.size + 1 + 1) 23 _ (0, 0) _ rfl hn key_und rfl (key_sz _ HLX.out) _ rfl
end Go.Proofs.YteigldfdaciopaaGreatDoor
