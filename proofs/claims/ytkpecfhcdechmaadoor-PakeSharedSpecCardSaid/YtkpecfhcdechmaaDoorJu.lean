/-
  Package pake: the walk of PakeProofs.
-/
import Derived.Test.YtkpecfhcdechmaaDoorJt
import Derived.Test.YtkpecfhcdechmaaDoorJv
namespace Go.Proofs.YtkpecfhcdechmaaDoor
open Go.RowKit
set_option linter.unusedVariables false
set_option linter.unusedSimpArgs false

/-- The hash of a key and a byte, for whatever slice holds them. -/
theorem proof_hash (K : List UInt8) (hK : K.length = 32) (c : UInt8) (KC : List UInt8) (h : K ++ [c] = KC) (a : Option Addr) (cap : Nat) (B : Nat) (W : World) (hT : Tab W) (ho : OwnB B W (.slice a KC.length cap) KC) :
    Calls Tryd.prog 19 #[.string ⟨#[112, 114, 111, 111, 102]⟩, .slice a KC.length cap] W fun e w' => e = .returned (.agg (bvA (prP K c))) ∧ Below W.heap.size W w' := by
  have hl : KC.length = 33 := by rw [← h, List.length_append, hK]; rfl
  have k := Tagged_any ⟨#[112, 114, 111, 111, 102]⟩ a cap KC W hT ho.rdOf ho.caps.1 ho.caps.2 (by decide) (by rw [hl]; omega)
  rw [← h] at k ⊢
  exact k

set_option maxRecDepth 100000 in
set_option maxHeartbeats 8000000 in
theorem proofs_walk10 (role code sa pw : Int) (d : List UInt8) (hd : d.length = 32) (w : World) (hT : Tab w) :
    Calls Tryd.prog 8 #[.int .i64 role, .int .i64 code, .int .i64 sa, .int .i64 pw, .agg (bvA d)] w fun e w' => e = .returned (.bool true) ∧ Below w.heap.size w w' := by
  have HLd := Lib.hid hd
  have KS1 := Lib.hid (fun W => side_any role code sa W)
  have h1 := sd_ok role code sa
  obtain ⟨r, hr⟩ : ∃ r, sdR role = r := ⟨_, rfl⟩
  obtain ⟨c, hc⟩ : ∃ c, sdC code = c := ⟨_, rfl⟩
  obtain ⟨n, hn⟩ : ∃ n, sdS sa = n := ⟨_, rfl⟩
  rw [hr, hc, hn] at KS1 h1
  clear hr hc hn
  obtain ⟨q, hq, hq2⟩ : ∃ q : Nat, (IntKind.u64.wrap pw).tmod 2305843009213688669 = (q : Int) ∧ q < 2305843009213688669 := ⟨(pw % 18446744073709551616 % 2305843009213688669).toNat, by rw [IntKind.wrap_u64, Int.tmod_eq_emod_of_nonneg (by omega)]; omega, by omega⟩
  have hq3 : wrap64 (q : Int) = (q : Int) := by unfold wrap64; omega
  have KB := Lib.hid (fun W => gBase_ok q hq2 W)
  have hp := four_is q
  obtain ⟨p, hpp⟩ : ∃ p, 4 ^ q % 4611686018427377339 = p := ⟨_, rfl⟩
  rw [hpp] at KB hp
  have s1 : okS r c n p := ⟨h1, hp⟩
  have KH := Lib.hid (fun W h => Shared_any r c n p W h)
  have KR := Lib.hid (fun W h => Proof_any r c n p W h)
  rw [shE_ok s1] at KH
  rw [prW_ok s1, shE_ok s1] at KR
  have a3 : IntKind.i64.wrap (3 - r) = 3 - r := IntWalk.i64_in _ (by have := h1.1; omega)
  have HLX := Lib.hid (kyW_len r c n p)
  obtain ⟨X, hX⟩ : ∃ X, kyW r c n p = X := ⟨_, rfl⟩
  rw [hX] at KH KR HLX
  have HV1 := Lib.hid (bv_roB r)
  have HV2 := Lib.hid (bv_roB (3 - r))
  obtain ⟨ro, hro⟩ : ∃ ro, 3 - r = ro := ⟨_, rfl⟩
  replace a3 := a3.trans hro
  rw [hro] at HV2
  obtain ⟨c1, hc1⟩ : ∃ x, roB r = x := ⟨_, rfl⟩
  obtain ⟨c2, hc2⟩ : ∃ x, roB ro = x := ⟨_, rfl⟩
  rw [hc1] at HV1 KR
  rw [hc2] at HV2
  obtain ⟨Y1, hY1⟩ : ∃ Y, X ++ [c1] = Y := ⟨_, rfl⟩
  obtain ⟨Y2, hY2⟩ : ∃ Y, X ++ [c2] = Y := ⟨_, rfl⟩
  have HXa1 := Lib.hid hY1
  have HXb1 := Lib.hid hY2
  have HXa := Lib.hid (proof_hash X HLX.out c1 Y1 hY1)
  have HXb := Lib.hid (proof_hash X HLX.out c2 Y2 hY2)
  have HLD1 := Lib.hid (prP_len X c1)
  have HLD2 := Lib.hid (prP_len X c2)
  obtain ⟨D1, hD1⟩ : ∃ D, prP X c1 = D := ⟨_, rfl⟩
  obtain ⟨D2, hD2⟩ : ∃ D, prP X c2 = D := ⟨_, rfl⟩
  rw [hD1] at HLD1 HXa KR
  rw [hD2] at HLD2 HXb
  have KA : Hid (∀ x : List UInt8, x.length = 32 → ∀ W, Tab W → Calls Tryd.prog 20 #[sidV r c n, .int .i64 p, .agg (bvA x)] W fun e w' => e = .returned (.tuple #[.bool (deq x D2), .int .i64 0]) ∧ Below W.heap.size W w') := Lib.hid (fun x hx W h => by
    have k := Accept_any r c n p x hx W h
    rw [acW_ok s1, shE_ok s1, hX, hro, hc2, hD2] at k
    exact k)
  obtain ⟨DD, hDD⟩ : ∃ DD, d ++ D1 ++ D2 = DD := ⟨_, rfl⟩
  have HDD := Lib.hid hDD
  clear hDD
  clear h1 hq2 hp hpp s1 hX hro hc1 hc2 hY1 hY2 hD1 hD2 hd
  unfold sidV at *
  obtain ⟨w1, hw1⟩ : ∃ w1, w1 = w.alloc (.cells (bvA d) 31) := ⟨_, rfl⟩
  have HB1 := Lib.hid ((PB.start hT).addB 31 d w.heap.size rfl)
  rw [← hw1] at HB1
  clear hT
  go_enter Tryd.func8, Tryd.ntmps8
  go_wp2_with fail
  rw [← hw1]
  clear hw1
  refine (sane10_any _ HB1.out.tab).mono ?_
  rintro e w2 ⟨rfl, hb⟩
  have HB2 := Lib.hid (HB1.out.call hb)
  clear hb HB1
  go_wp2_with fail
  refine (KS1.out _).mono ?_
  rintro e w3 ⟨rfl, hb⟩
  have HB3 := Lib.hid ((HB2.out.call hb).addS r c n w3.heap.size rfl)
  clear hb HB2
  obtain ⟨w4, hw4⟩ : ∃ w4, w4 = w3.alloc (.cells #[.int .i64 r, .int .i64 c, .int .i64 n] 23) := ⟨_, rfl⟩
  rw [← hw4] at HB3
  go_wp2_with fail
  rw [← hw4]
  clear hw4 hq hq3
  generalize w3.heap.size = gx at *
  refine (KB.out _).mono ?_
  rintro e w5 ⟨rfl, hb⟩
  have HB5 := Lib.hid (HB3.out.call hb)
  clear hb HB3
  obtain ⟨x0, x1, x2⟩ := (HB5.out.side gx r c n (by simp)).cells3
  go_wp2_with fail
  clear x0 x1 x2
  refine (KH.out _ HB5.out.tab).mono ?_
  rintro e w6 ⟨rfl, hb⟩
  have HB6 := Lib.hid (HB5.out.call hb)
  clear hb HB5
  go_wp2_with (refine wpList_storeA rfl 32 (.tmp 14) (.tmp 42) rfl w6.heap.size (bvA X) rfl rfl 32 _ (BB.new w6 _ zK) (key_sz _ HLX.out) (key_old _ HLX.out) (bvA_one _) ?_)
  intro w7 hst hgr
  have HB7 := Lib.hid (HB6.out.stored 32 X hst hgr)
  clear hst hgr HB6
  generalize w6.heap.size = gk at *
  obtain ⟨x0, x1, x2⟩ := (HB7.out.side gx r c n (by simp)).cells3
  go_wp2_with fail
  clear x0 x1 x2
  refine (KR.out _ HB7.out.tab).mono ?_
  rintro e w8 ⟨rfl, hb⟩
  have HB8 := Lib.hid (HB7.out.call hb)
  clear hb HB7
  go_wp2_with (refine wpList_storeA rfl 31 (.tmp 16) (.tmp 48) rfl w8.heap.size (bvA D1) rfl rfl 31 _ (BB.new w8 _ zK) (digP_sz _ HLD1.out) (key_old _ HLD1.out) (bvA_one _) ?_)
  intro w9 hst hgr
  have HB9 := Lib.hid (HB8.out.stored 31 D1 hst hgr)
  clear hst hgr HB8
  generalize w8.heap.size = gp at *
  go_wp2_with fail
  rename_i K0 hK0
  refine region_writes [60, 61, 62, 63, 64, 65, 66, 67, 68, 18] (fun f W => ∃ g, f 18 = .pointer (some ⟨g, 0, none⟩) ∧ BB W g 31 D1 ∧ Below w9.heap.size w9 W) ?_ ?_
  rotate_left
  · clear hK0 K0
    have HBd := Lib.hid HB9.out.drew
    have hEd : Below w9.heap.size w9 w9.drew := (Below.refl _ _).drew
    have HSB : Hid (∀ W, Below w9.drew.heap.size w9.drew W → W.cell? ⟨gx, 0, none⟩ = some (.int .i64 r)) := Lib.hid (fun W hW => ((HBd.out.call hW).side gx r c n (by simp)).cell 0)
    refine wp_region_held_drew (S := fun W => W.cell? ⟨gx, 0, none⟩ = some (.int .i64 r)) (by kernel_rfl) (HSB.out _ (Below.refl _ _)) (fun hHeld => ?_)
    refine wpAnyH_take (i := 1) (v := .slice (some ⟨gk, 0, none⟩) 32 32) rfl (by kernel_rfl) (by kernel_rfl) (by kernel_rfl) (fun _ _ _ h => nomatch h.1) (Or.inl ⟨by rfl, fun w _ => by go_simp⟩) hHeld ?_
    simp only [Act.put, List.getElem_toArray, List.getElem_cons_zero, List.getElem_cons_succ, List.setIfInBounds_toArray, List.set_cons_zero, List.set_cons_succ]
    refine wpAnyH_take (i := 3) (v := .pointer (some ⟨gx, 0, none⟩)) rfl (by kernel_rfl) (by kernel_rfl) (by kernel_rfl) (fun _ _ _ h => nomatch h.1) (Or.inl ⟨by rfl, fun w _ => by go_simp⟩) hHeld ?_
    simp only [Act.put, List.getElem_toArray, List.getElem_cons_zero, List.getElem_cons_succ, List.setIfInBounds_toArray, List.set_cons_zero, List.set_cons_succ]
    refine wpAnyH_take (i := 4) (v := .int .i64 r) rfl (by kernel_rfl) (by kernel_rfl) (by kernel_rfl) (fun _ _ _ h => nomatch h.1) (Or.inl ⟨by rfl, fun w hw => by have h0 : w.cell? ⟨gx, 0, none⟩ = some (.int .i64 r) := hw; go_simp⟩) hHeld ?_
    simp only [Act.put, List.getElem_toArray, List.getElem_cons_zero, List.getElem_cons_succ, List.setIfInBounds_toArray, List.set_cons_zero, List.set_cons_succ]
    refine wpAnyH_take (i := 5) (v := .int .u8 (r % 256)) rfl (by kernel_rfl) (by kernel_rfl) (by kernel_rfl) (fun _ _ _ h => nomatch h.1) (Or.inl ⟨by rfl, fun w _ => by first | (go_simp; done) | (go_simp; rfl)⟩) hHeld ?_
    simp only [Act.put, List.getElem_toArray, List.getElem_cons_zero, List.getElem_cons_succ, List.setIfInBounds_toArray, List.set_cons_zero, List.set_cons_succ]
    generalize w9.drew = wd at *
    refine wpAnyH_writes [60, 62, 66, 67, 68, 18] (fun L f W => PrK wd X c1 D1 (L 0) (L 2) (L 6) (L 7) (L 8) (L 9) (L 10) (f 60) (f 62) (f 66) (f 67) (f 68) (f 18) W) [0, 2, 6, 7, 8, 9, 10] (by kernel_rfl) (by kernel_rfl) ?_ (HSB.out _ (Below.refl _ _)) ?_ ?_
    · exact PrK.start wd
    · intro L f W hJ _ hall
      obtain ⟨g, e1, e2, e3, e4⟩ := hJ.done (hall 9 (by simp)) (hall 10 (by simp))
      exact ⟨rfl, writes_ex (by kernel_rfl) ⟨g, Eq.trans (by kernel_rfl) e1, e3, hEd.trans (e4.mono hEd.size)⟩⟩
    refine StepsI.cons [] rfl (by kernel_rfl) ?_ ?_
    · rintro L a' W ⟨f, rfl, hJ⟩ _ hL hd K9 hK
      simp only [writes, List.foldl_cons, List.foldl_nil, Act.put, List.setIfInBounds_toArray, List.set_cons_zero, List.set_cons_succ]
      rw [if_pos (by rfl)]
      refine wp_nil0 rfl ?_
      intro W1 g0 ho hg0 hb
      have hJ2 := hJ.set0 hL (ho.mono hJ.below.size) (fun k hk => by have e : some g0 = some k := hk; injection e with e; omega) hb
      refine hK.out _ _ (HSB.out _ hJ2.below) ?_
      exact writes_ex (by kernel_rfl) hJ2
    refine StepsI.cons [0] rfl (by kernel_rfl) ?_ ?_
    · rintro L a' W ⟨f, rfl, hJ⟩ _ hL hd K9 hK
      simp only [writes, List.foldl_cons, List.foldl_nil, Act.put, List.setIfInBounds_toArray, List.set_cons_zero, List.set_cons_succ]
      have e0 := hd 0 (by simp)
      rw [if_pos (by rfl)]
      refine wp_appB (.tmp 60) (.tmp 61) rfl wd.heap.size _ [] X (some ⟨gk, 0, none⟩) 32 rfl (hJ.a0 e0 hL) (by rw [HLX.out]; rfl) (((HBd.out.call hJ.below).blk gk 32 X (by simp)).rdBm HLX.out) (fun e => by cases e) (by rw [HLX.out]; decide) hJ.below.size ?_
      intro v2 W2 ho hg
      rw [List.nil_append] at ho
      have hJ2 := hJ.set2 hL e0 ho hg
      refine hK.out _ _ (HSB.out _ hJ2.below) ?_
      exact writes_ex (by kernel_rfl) hJ2
    refine StepsI.cons [] rfl (by kernel_rfl) ?_ ?_
    · rintro L a' W ⟨f, rfl, hJ⟩ _ hL hd K9 hK
      simp only [writes, List.foldl_cons, List.foldl_nil, Act.put, List.setIfInBounds_toArray, List.set_cons_zero, List.set_cons_succ]
      rw [if_pos (by rfl)]
      refine wp_oneB rfl c1 HV1.out wd.heap.size hJ.below.size ?_
      intro W1 v ho hf hb
      have hJ2 := hJ.set7 hL ho hf hb
      refine hK.out _ _ (HSB.out _ hJ2.below) ?_
      exact writes_ex (by kernel_rfl) hJ2
    refine StepsI.cons [2, 6] rfl (by kernel_rfl) ?_ ?_
    · rintro L a' W ⟨f, rfl, hJ⟩ _ hL hd K9 hK
      simp only [writes, List.foldl_cons, List.foldl_nil, Act.put, List.setIfInBounds_toArray, List.set_cons_zero, List.set_cons_succ]
      have e2 := hd 2 (by simp)
      have e7 := hd 6 (by simp)
      have h7 := hJ.a7 e7 hL
      obtain ⟨a7, c7, q7, -, -⟩ := h7.form
      rw [q7] at h7
      rw [if_pos (by rfl)]
      refine wp_appB (.tmp 62) (.tmp 66) rfl wd.heap.size _ X [c1] a7 c7 rfl (hJ.a2 e2 hL) q7 h7.rdOf h7.nilCap (by show _ + 1 ≤ _; rw [HLX.out]; decide) hJ.below.size ?_
      intro v2 W2 ho hg
      have hJ2 := hJ.set8 hL e2 e7 ho hg
      refine hK.out _ _ (HSB.out _ hJ2.below) ?_
      exact writes_ex (by kernel_rfl) hJ2
    refine StepsI.cons [7] rfl (by kernel_rfl) ?_ ?_
    · rintro L a' W ⟨f, rfl, hJ⟩ _ hL hd K9 hK
      simp only [writes, List.foldl_cons, List.foldl_nil, Act.put, List.setIfInBounds_toArray, List.set_cons_zero, List.set_cons_succ]
      have e8 := hd 7 (by simp)
      have h8 := hJ.a8 e8 hL
      rw [HXa1.out] at h8
      obtain ⟨a8, c8, q8, -, -⟩ := h8.form
      rw [q8] at h8 ⊢
      go_simp
      refine (HXa.out _ _ _ _ (HBd.out.call hJ.below).tab h8).mono ?_
      rintro e W1 ⟨rfl, hb⟩
      have hJ2 := hJ.set9 e8 hb
      rw [q8] at hJ2
      try go_wp2_with fail
      refine hK.out _ _ (HSB.out _ hJ2.below) ?_
      exact writes_ex (by kernel_rfl) hJ2
    refine StepsI.cons [] rfl (by kernel_rfl) ?_ ?_
    · rintro L a' W ⟨f, rfl, hJ⟩ _ hL hd K9 hK
      simp only [writes, List.foldl_cons, List.foldl_nil, Act.put, List.setIfInBounds_toArray, List.set_cons_zero, List.set_cons_succ]
      rw [if_pos (by rfl)]
      refine wp_allocA rfl ?_
      intro W1 g hn hge hb
      have hJ2 := hJ.set10 hL hn hge hb
      refine hK.out _ _ (HSB.out _ hJ2.below) ?_
      exact writes_ex (by kernel_rfl) hJ2
    refine StepsI.cons [8, 9] rfl (by kernel_rfl) ?_ StepsI.nil
    · rintro L a' W ⟨f, rfl, hJ⟩ _ hL hd K9 hK
      simp only [writes, List.foldl_cons, List.foldl_nil, Act.put, List.setIfInBounds_toArray, List.set_cons_zero, List.set_cons_succ]
      obtain ⟨g, e10, hge, hBB⟩ := hJ.h11 hL (hd 9 (by simp))
      have e9 := hJ.h9 (hd 8 (by simp))
      rw [if_pos (by rfl)]
      refine wp_storeA 31 (.tmp 18) (.tmp 68) rfl g (bvA D1) e10 e9 31 _ hBB (digP_sz _ HLD1.out) (key_old _ HLD1.out) (bvA_one _) ?_
      intro W1 hn hg
      have hJ2 := hJ.put11 (hd 8 (by simp)) (hd 9 (by simp)) e10 hge hn hg
      refine hK.out _ _ (HSB.out _ hJ2.below) ?_
      exact writes_ex (by kernel_rfl) hJ2
  rintro f1 w10 ⟨g1, e10, hBB, hb⟩
  have HB10 := Lib.hid ((HB9.out.call hb).put hBB)
  clear hBB hb HB9
  refine hK0 _ _ ?_
  clear hK0 K0
  simp only [writes, List.foldl_cons, List.foldl_nil, Act.put, List.setIfInBounds_toArray, List.set_cons_zero, List.set_cons_succ]
  rw [e10]
  clear e10
  go_wp2_with fail
  rename_i K0 hK0
  refine region_writes [69, 70, 71, 72, 73, 74, 75, 76, 77, 78, 19] (fun f W => ∃ g, f 19 = .pointer (some ⟨g, 0, none⟩) ∧ BB W g 31 D2 ∧ Below w10.heap.size w10 W) ?_ ?_
  rotate_left
  · clear hK0 K0
    have HBd := Lib.hid HB10.out.drew
    have hEd : Below w10.heap.size w10 w10.drew := (Below.refl _ _).drew
    have HSB : Hid (∀ W, Below w10.drew.heap.size w10.drew W → W.cell? ⟨gx, 0, none⟩ = some (.int .i64 r)) := Lib.hid (fun W hW => ((HBd.out.call hW).side gx r c n (by simp)).cell 0)
    refine wp_region_held_drew (S := fun W => W.cell? ⟨gx, 0, none⟩ = some (.int .i64 r)) (by kernel_rfl) (HSB.out _ (Below.refl _ _)) (fun hHeld => ?_)
    refine wpAnyH_take (i := 1) (v := .slice (some ⟨gk, 0, none⟩) 32 32) rfl (by kernel_rfl) (by kernel_rfl) (by kernel_rfl) (fun _ _ _ h => nomatch h.1) (Or.inl ⟨by rfl, fun w _ => by go_simp⟩) hHeld ?_
    simp only [Act.put, List.getElem_toArray, List.getElem_cons_zero, List.getElem_cons_succ, List.setIfInBounds_toArray, List.set_cons_zero, List.set_cons_succ]
    refine wpAnyH_take (i := 3) (v := .pointer (some ⟨gx, 0, none⟩)) rfl (by kernel_rfl) (by kernel_rfl) (by kernel_rfl) (fun _ _ _ h => nomatch h.1) (Or.inl ⟨by rfl, fun w _ => by go_simp⟩) hHeld ?_
    simp only [Act.put, List.getElem_toArray, List.getElem_cons_zero, List.getElem_cons_succ, List.setIfInBounds_toArray, List.set_cons_zero, List.set_cons_succ]
    refine wpAnyH_take (i := 4) (v := .int .i64 r) rfl (by kernel_rfl) (by kernel_rfl) (by kernel_rfl) (fun _ _ _ h => nomatch h.1) (Or.inl ⟨by rfl, fun w hw => by have h0 : w.cell? ⟨gx, 0, none⟩ = some (.int .i64 r) := hw; go_simp⟩) hHeld ?_
    simp only [Act.put, List.getElem_toArray, List.getElem_cons_zero, List.getElem_cons_succ, List.setIfInBounds_toArray, List.set_cons_zero, List.set_cons_succ]
    refine wpAnyH_take (i := 5) (v := .int .i64 ro) rfl (by kernel_rfl) (by kernel_rfl) (by kernel_rfl) (fun _ _ _ h => nomatch h.1) (Or.inl ⟨by rfl, fun w _ => by go_simp⟩) hHeld ?_
    simp only [Act.put, List.getElem_toArray, List.getElem_cons_zero, List.getElem_cons_succ, List.setIfInBounds_toArray, List.set_cons_zero, List.set_cons_succ]
    refine wpAnyH_take (i := 6) (v := .int .u8 (ro % 256)) rfl (by kernel_rfl) (by kernel_rfl) (by kernel_rfl) (fun _ _ _ h => nomatch h.1) (Or.inl ⟨by rfl, fun w _ => by first | (go_simp; done) | (go_simp; rfl)⟩) hHeld ?_
    simp only [Act.put, List.getElem_toArray, List.getElem_cons_zero, List.getElem_cons_succ, List.setIfInBounds_toArray, List.set_cons_zero, List.set_cons_succ]
    generalize w10.drew = wd at *
    refine wpAnyH_writes [69, 71, 76, 77, 78, 19] (fun L f W => PrK wd X c2 D2 (L 0) (L 2) (L 7) (L 8) (L 9) (L 10) (L 11) (f 69) (f 71) (f 76) (f 77) (f 78) (f 19) W) [0, 2, 7, 8, 9, 10, 11] (by kernel_rfl) (by kernel_rfl) ?_ (HSB.out _ (Below.refl _ _)) ?_ ?_
    · exact PrK.start wd
    · intro L f W hJ _ hall
      obtain ⟨g, e1, e2, e3, e4⟩ := hJ.done (hall 10 (by simp)) (hall 11 (by simp))
      exact ⟨rfl, writes_ex (by kernel_rfl) ⟨g, Eq.trans (by kernel_rfl) e1, e3, hEd.trans (e4.mono hEd.size)⟩⟩
    refine StepsI.cons [] rfl (by kernel_rfl) ?_ ?_
    · rintro L a' W ⟨f, rfl, hJ⟩ _ hL hd K9 hK
      simp only [writes, List.foldl_cons, List.foldl_nil, Act.put, List.setIfInBounds_toArray, List.set_cons_zero, List.set_cons_succ]
      rw [if_pos (by rfl)]
      refine wp_nil0 rfl ?_
      intro W1 g0 ho hg0 hb
      have hJ2 := hJ.set0 hL (ho.mono hJ.below.size) (fun k hk => by have e : some g0 = some k := hk; injection e with e; omega) hb
      refine hK.out _ _ (HSB.out _ hJ2.below) ?_
      exact writes_ex (by kernel_rfl) hJ2
    refine StepsI.cons [0] rfl (by kernel_rfl) ?_ ?_
    · rintro L a' W ⟨f, rfl, hJ⟩ _ hL hd K9 hK
      simp only [writes, List.foldl_cons, List.foldl_nil, Act.put, List.setIfInBounds_toArray, List.set_cons_zero, List.set_cons_succ]
      have e0 := hd 0 (by simp)
      rw [if_pos (by rfl)]
      refine wp_appB (.tmp 69) (.tmp 70) rfl wd.heap.size _ [] X (some ⟨gk, 0, none⟩) 32 rfl (hJ.a0 e0 hL) (by rw [HLX.out]; rfl) (((HBd.out.call hJ.below).blk gk 32 X (by simp)).rdBm HLX.out) (fun e => by cases e) (by rw [HLX.out]; decide) hJ.below.size ?_
      intro v2 W2 ho hg
      rw [List.nil_append] at ho
      have hJ2 := hJ.set2 hL e0 ho hg
      refine hK.out _ _ (HSB.out _ hJ2.below) ?_
      exact writes_ex (by kernel_rfl) hJ2
    refine StepsI.cons [] rfl (by kernel_rfl) ?_ ?_
    · rintro L a' W ⟨f, rfl, hJ⟩ _ hL hd K9 hK
      simp only [writes, List.foldl_cons, List.foldl_nil, Act.put, List.setIfInBounds_toArray, List.set_cons_zero, List.set_cons_succ]
      rw [if_pos (by rfl)]
      refine wp_oneB rfl c2 HV2.out wd.heap.size hJ.below.size ?_
      intro W1 v ho hf hb
      have hJ2 := hJ.set7 hL ho hf hb
      refine hK.out _ _ (HSB.out _ hJ2.below) ?_
      exact writes_ex (by kernel_rfl) hJ2
    refine StepsI.cons [2, 7] rfl (by kernel_rfl) ?_ ?_
    · rintro L a' W ⟨f, rfl, hJ⟩ _ hL hd K9 hK
      simp only [writes, List.foldl_cons, List.foldl_nil, Act.put, List.setIfInBounds_toArray, List.set_cons_zero, List.set_cons_succ]
      have e2 := hd 2 (by simp)
      have e7 := hd 7 (by simp)
      have h7 := hJ.a7 e7 hL
      obtain ⟨a7, c7, q7, -, -⟩ := h7.form
      rw [q7] at h7
      rw [if_pos (by rfl)]
      refine wp_appB (.tmp 71) (.tmp 76) rfl wd.heap.size _ X [c2] a7 c7 rfl (hJ.a2 e2 hL) q7 h7.rdOf h7.nilCap (by show _ + 1 ≤ _; rw [HLX.out]; decide) hJ.below.size ?_
      intro v2 W2 ho hg
      have hJ2 := hJ.set8 hL e2 e7 ho hg
      refine hK.out _ _ (HSB.out _ hJ2.below) ?_
      exact writes_ex (by kernel_rfl) hJ2
    refine StepsI.cons [8] rfl (by kernel_rfl) ?_ ?_
    · rintro L a' W ⟨f, rfl, hJ⟩ _ hL hd K9 hK
      simp only [writes, List.foldl_cons, List.foldl_nil, Act.put, List.setIfInBounds_toArray, List.set_cons_zero, List.set_cons_succ]
      have e8 := hd 8 (by simp)
      have h8 := hJ.a8 e8 hL
      rw [HXb1.out] at h8
      obtain ⟨a8, c8, q8, -, -⟩ := h8.form
      rw [q8] at h8 ⊢
      go_simp
      refine (HXb.out _ _ _ _ (HBd.out.call hJ.below).tab h8).mono ?_
      rintro e W1 ⟨rfl, hb⟩
      have hJ2 := hJ.set9 e8 hb
      rw [q8] at hJ2
      try go_wp2_with fail
      refine hK.out _ _ (HSB.out _ hJ2.below) ?_
      exact writes_ex (by kernel_rfl) hJ2
    refine StepsI.cons [] rfl (by kernel_rfl) ?_ ?_
    · rintro L a' W ⟨f, rfl, hJ⟩ _ hL hd K9 hK
      simp only [writes, List.foldl_cons, List.foldl_nil, Act.put, List.setIfInBounds_toArray, List.set_cons_zero, List.set_cons_succ]
      rw [if_pos (by rfl)]
      refine wp_allocA rfl ?_
      intro W1 g hn hge hb
      have hJ2 := hJ.set10 hL hn hge hb
      refine hK.out _ _ (HSB.out _ hJ2.below) ?_
      exact writes_ex (by kernel_rfl) hJ2
    refine StepsI.cons [9, 10] rfl (by kernel_rfl) ?_ StepsI.nil
    · rintro L a' W ⟨f, rfl, hJ⟩ _ hL hd K9 hK
      simp only [writes, List.foldl_cons, List.foldl_nil, Act.put, List.setIfInBounds_toArray, List.set_cons_zero, List.set_cons_succ]
      obtain ⟨g, e10, hge, hBB⟩ := hJ.h11 hL (hd 10 (by simp))
      have e9 := hJ.h9 (hd 9 (by simp))
      rw [if_pos (by rfl)]
      refine wp_storeA 31 (.tmp 19) (.tmp 78) rfl g (bvA D2) e10 e9 31 _ hBB (digP_sz _ HLD2.out) (key_old _ HLD2.out) (bvA_one _) ?_
      intro W1 hn hg
      have hJ2 := hJ.put11 (hd 9 (by simp)) (hd 10 (by simp)) e10 hge hn hg
      refine hK.out _ _ (HSB.out _ hJ2.below) ?_
      exact writes_ex (by kernel_rfl) hJ2
  rintro f2 w11 ⟨g2, e10, hBB, hb⟩
  have HB11 := Lib.hid ((HB10.out.call hb).put hBB)
  clear hBB hb HB10
  refine hK0 _ _ ?_
  clear hK0 K0
  simp only [writes, List.foldl_cons, List.foldl_nil, Act.put, List.setIfInBounds_toArray, List.set_cons_zero, List.set_cons_succ]
  rw [e10]
  clear e10
  go_wp2_with (first
    | (refine wpList_load_row rfl 31  (.tmp 9) rfl w.heap.size rfl _ (bvA d) (0, 0) _ (HB11.out.blk w.heap.size 31 d (by simp)) digP_und rfl (digP_sz _ HLd.out) ?_)
    | (refine wpList_load_row rfl 31  (.tmp 16) rfl gp rfl _ (bvA D1) (0, 0) _ (HB11.out.blk gp 31 D1 (by simp)) digP_und rfl (digP_sz _ HLD1.out) ?_)
    | (refine wpList_load_row rfl 31  (.tmp 19) rfl g2 rfl _ (bvA D2) (0, 0) _ (HB11.out.blk g2 31 D2 (by simp)) digP_und rfl (digP_sz _ HLD2.out) ?_)
    | (refine wpList_build3D rfl (.tmp 79) (.tmp 80) (.tmp 81) rfl d D1 D2 DD HDD.out HLd.out HLD1.out HLD2.out rfl rfl rfl ?_))
  have HBl := Lib.hid (HB11.out.addB 31 DD w11.heap.size rfl)
  obtain ⟨wl, hwl⟩ : ∃ wl, wl = w11.alloc (.cells (bvA DD) 31) := ⟨_, rfl⟩
  rw [← hwl] at HBl ⊢
  clear hwl HB11
  generalize w11.heap.size = gl at *
  go_loopw [84] (fun i wr => ∃ k : Nat, k ≤ 3 ∧ i = .int .i64 k ∧ PB w [(gx, r, c, n)] [(gl, 31, DD), (g2, 31, D2), (g1, 31, D1), (gp, 31, D1), (gk, 32, X), (w.heap.size, 31, d)] wr) (fun i _ => 3 - (intOf i).toNat)
  case atStart => exact ⟨0, by omega, rfl, HBl.out⟩
  case round =>
    clear HBl
    obtain ⟨k, hk, rfl, hpb⟩ := hrel
    have HBr := Lib.hid hpb
    clear hpb
    by_cases hlt : k < 3
    · have HP := Lib.hid ((HBr.out.blk gl 31 DD (by simp)).partD HDD.out HLd.out HLD1.out HLD2.out k hlt)
      have HLx := Lib.hid (nth3_len HLd.out HLD1.out HLD2.out k)
      obtain ⟨x, hx⟩ : ∃ x, nth3 d D1 D2 k = x := ⟨_, rfl⟩
      rw [hx] at HP HLx
      have KAx := Lib.hid (KA.out x HLx.out)
      have eQ : ∀ W, (Op.equalIn 10000 31 (.agg (bvA x)) (.agg (bvA D2))).run Tryd.prog W = .ok (deq x D2) W := fun W => equal_bv x D2 HLx.out HLD2.out W
      obtain ⟨b, hb0⟩ : ∃ b, deq x D2 = b := ⟨_, rfl⟩
      rw [hb0] at KAx eQ
      have hbb : (b != b) = false := by cases b <;> rfl
      have hat0 : (0 : Int) ≤ (k : Int) := by omega
      have hat1 : (k : Int) < 3 := by omega
      clear hx hb0
      go_wp2_with (first
        | (refine wpList_load_mid rfl 31 (.tmp 86) rfl gl (k * 32) rfl (x.map bv) _ HP.out digest_und rfl (digP_szl _ HLx.out) ?_)
        | (refine wpList_storeA rfl 31 (.tmp 21) (.tmp 87) rfl wr.heap.size (bvA x) rfl rfl 31 _ (BB.new wr _ zK) (digP_sz _ HLx.out) (key_old _ HLx.out) (bvA_one _) ?_))
      intro wa hst hgr
      have HBa := Lib.hid (HBr.out.stored 31 x hst hgr)
      clear hst hgr HBr HP
      generalize wr.heap.size = gq at *
      obtain ⟨x0, x1, x2⟩ := (HBa.out.side gx r c n (by simp)).cells3
      go_wp2_with (refine wpList_load_row rfl 31  (.tmp 21) rfl gq rfl _ (bvA x) (0, 0) _ (HBa.out.blk gq 31 x (by simp)) digP_und rfl (digP_sz _ HLx.out) ?_)
      clear x0 x1 x2
      refine (KAx.out _ HBa.out.tab).mono ?_
      rintro e w91 ⟨rfl, hb⟩
      have HB91 := Lib.hid (HBa.out.call hb)
      clear hb HBa
      go_wp2_with (first
        | (refine wpList_load_rowG (by rfl) 31  (.tmp 21) rfl gq rfl _ (bvA x) (0, 0) _ (HB91.out.blk gq 31 x (by simp)) digP_und rfl (digP_sz _ HLx.out) ?_)
        | (refine wpList_load_rowG (by rfl) 31  (.tmp 19) rfl g2 rfl _ (bvA D2) (0, 0) _ (HB91.out.blk g2 31 D2 (by simp)) digP_und rfl (digP_sz _ HLD2.out) ?_))
      go_roundw
      case rel => exact ⟨k + 1, by omega, by go_num, HB91.out.drop⟩
      case measure => simp [intOf]; omega
    · obtain rfl : k = 3 := by omega
      have eD := fun W => equal_same D1 HLD1.out W
      go_wp2_with (first
        | (refine wpList_load_row rfl 31  (.tmp 16) rfl gp rfl _ (bvA D1) (0, 0) _ (HBr.out.blk gp 31 D1 (by simp)) digP_und rfl (digP_sz _ HLD1.out) ?_)
        | (refine wpList_load_row rfl 31  (.tmp 18) rfl g1 rfl _ (bvA D1) (0, 0) _ (HBr.out.blk g1 31 D1 (by simp)) digP_und rfl (digP_sz _ HLD1.out) ?_))
      go_ret
      exact ⟨rfl, HBr.out.below⟩
end Go.Proofs.YtkpecfhcdechmaaDoor
