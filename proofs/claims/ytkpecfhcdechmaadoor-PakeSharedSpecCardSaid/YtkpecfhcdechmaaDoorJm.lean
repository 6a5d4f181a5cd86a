/-
  Package pake: the chapter's examples (sane of chartroomlaw10).
-/
import Derived.Test.YtkpecfhcdechmaaDoorJl
import Derived.Test.YtkpecfhcdechmaaDoorPkH
namespace Go.Proofs.YtkpecfhcdechmaaDoor
open Go.RowKit
set_option linter.unusedVariables false
set_option linter.unusedSimpArgs false

theorem not_is0 : ¬ IsEl 0 := fun h => absurd h.1 (by decide)
/-- What both sides calculate. -/
theorem pair_ok {c : Int} {n m : Nat} (h : okP 1 c n) (h2 : okP 2 c m) :
    okS 1 c n (ptP 2 c m : Nat) ∧ okS 2 c m (ptP 1 c n : Nat) ∧ kyW 1 c n (ptP 2 c m : Nat) = kyP 1 c n (ptP 2 c m) ∧ kyW 2 c m (ptP 1 c n : Nat) = kyP 1 c n (ptP 2 c m) := by
  have s1 : okS 1 c n (ptP 2 c m : Nat) := ⟨h, ptP_is _ _ _⟩
  have s2 : okS 2 c m (ptP 1 c n : Nat) := ⟨h2, ptP_is _ _ _⟩
  exact ⟨s1, s2, kyW_ok s1, (kyW_ok s2).trans (kyP_agree c n m).symm⟩
set_option maxRecDepth 100000 in
set_option maxHeartbeats 4000000 in
theorem sane10_any (w : World) (hT : Tab w) : Calls Tryd.prog 10 #[] w fun e w' => e = .returned (.bool true) ∧ Below w.heap.size w w' := by
  have HB0 := Lib.hid (PB.start hT)
  have KS1 := Lib.hid (fun W => side_any 0 123456 7 W)
  have KS2 := Lib.hid (fun W => side_any 1 123456 11 W)
  have h1 := sd_ok 0 123456 7
  have h2 := sd_ok 1 123456 11
  rw [sdR0] at KS1 h1
  rw [sdR1] at KS2 h2
  obtain ⟨c, hc⟩ : ∃ c, sdC 123456 = c := ⟨_, rfl⟩
  rw [hc] at KS1 KS2 h1 h2
  obtain ⟨n, hn⟩ : ∃ n, sdS 7 = n := ⟨_, rfl⟩
  obtain ⟨m, hm⟩ : ∃ m, sdS 11 = m := ⟨_, rfl⟩
  rw [hn] at KS1 h1
  rw [hm] at KS2 h2
  clear hc hn hm
  obtain ⟨s1, s2, e1, e2⟩ := pair_ok h1 h2
  have KP1 := Lib.hid (fun W h => Point_ok 1 c n h1 W h)
  have KP2 := Lib.hid (fun W h => Point_ok 2 c m h2 W h)
  have KH := Lib.hid (fun W h => Shared_any 1 c n (ptP 2 c m : Nat) W h)
  have KG := Lib.hid (fun W h => Shared_any 2 c m (ptP 1 c n : Nat) W h)
  rw [e1, shE_ok s1] at KH
  rw [e2, shE_ok s2] at KG
  have KR := Lib.hid (fun W h => Proof_any 2 c m (ptP 1 c n : Nat) W h)
  rw [prW_ok s2, e2, shE_ok s2] at KR
  have HLX := Lib.hid (kyP_len 1 c n (ptP 2 c m))
  have HLD := Lib.hid (prP_len (kyP 1 c n (ptP 2 c m)) (roB 2))
  have KA := Lib.hid (fun W h => Accept_any 1 c n (ptP 2 c m : Nat) (prP (kyP 1 c n (ptP 2 c m)) (roB 2)) HLD.out W h)
  rw [acW_ok s1, e1, shE_ok s1, show roB (3 - 1) = roB 2 from rfl, deq_self] at KA
  have b1 : ¬ okS 1 c n 0 := fun h => not_is0 h.2
  have b2 : ¬ okS 1 c n 2 := fun h => no2 h.2
  have KZ := Lib.hid (fun W h => Shared_any 1 c n 0 W h)
  rw [kyW_bad b1, shE_bad b1] at KZ
  have KY := Lib.hid (fun W h => Accept_any 1 c n 2 (prP (kyP 1 c n (ptP 2 c m)) (roB 2)) HLD.out W h)
  rw [acW_bad b2, shE_bad b2] at KY
  have KC := Lib.hid (fun W => gCheck_ok (ptP 1 c n : Nat) (ptP_is _ _ _) W)
  have KC1 := Lib.hid (fun W => pCheck_any 3 0 1 W)
  rw [pkE_bad (by unfold okP; omega)] at KC1
  have KC2 := Lib.hid (fun W => pCheck_any 1 1000000 1 W)
  rw [pkE_bad (by unfold okP; omega)] at KC2
  obtain ⟨D, hD⟩ : ∃ D, prP (kyP 1 c n (ptP 2 c m)) (roB 2) = D := ⟨_, rfl⟩
  rw [hD] at KR KA KY HLD
  obtain ⟨X, hX⟩ : ∃ X, kyP 1 c n (ptP 2 c m) = X := ⟨_, rfl⟩
  rw [hX] at KH KG HLX
  obtain ⟨a, ha⟩ : ∃ a, ptP 1 c n = a := ⟨_, rfl⟩
  obtain ⟨b, hb0⟩ : ∃ b, ptP 2 c m = b := ⟨_, rfl⟩
  rw [ha] at KP1 KG KR KC
  rw [hb0] at KP2 KH KA
  have HLZ := Lib.hid zK_len
  clear h1 h2 s1 s2 e1 e2 b1 b2 hD hX ha hb0 hT
  have eX := fun W => equal_keyS X HLX.out W
  unfold sidV at *
  go_enter Tryd.func10, Tryd.ntmps10
  go_wp2_with fail
  refine (KS1.out _).mono ?_
  rintro e w1 ⟨rfl, hb⟩
  have HB1 := Lib.hid (HB0.out.call hb)
  clear hb HB0
  go_wp2_with fail
  refine (KS2.out _).mono ?_
  rintro e w2 ⟨rfl, hb⟩
  have HB2 := Lib.hid (HB1.out.call hb)
  clear hb HB1
  have HB3 := Lib.hid ((HB2.out.addS 1 c n w2.heap.size rfl).addS 2 c m (w2.heap.size + 1) (by simp))
  obtain ⟨w3, hw⟩ : ∃ w3, w3 = (w2.alloc (.cells #[.int .i64 1, .int .i64 c, .int .i64 n] 23)).alloc (.cells #[.int .i64 2, .int .i64 c, .int .i64 m] 23) := ⟨_, rfl⟩
  rw [← hw] at HB3
  go_wp2_with fail
  rw [← hw]
  clear hw HB2
  generalize w2.heap.size + 1 = gy at *
  generalize w2.heap.size = gx at *
  refine (KP1.out _ HB3.out.tab).mono ?_
  rintro e w4 ⟨rfl, hb⟩
  have HB4 := Lib.hid (HB3.out.call hb)
  clear hb HB3
  obtain ⟨y0, y1, y2⟩ := (HB4.out.side gy 2 c m (by simp)).cells3
  go_wp2_with fail
  clear y0 y1 y2
  refine (KP2.out _ HB4.out.tab).mono ?_
  rintro e w5 ⟨rfl, hb⟩
  have HB5 := Lib.hid (HB4.out.call hb)
  clear hb HB4
  obtain ⟨x0, x1, x2⟩ := (HB5.out.side gx 1 c n (by simp)).cells3
  go_wp2_with fail
  clear x0 x1 x2
  refine (KH.out _ HB5.out.tab).mono ?_
  rintro e w6 ⟨rfl, hb⟩
  have HB6 := Lib.hid (HB5.out.call hb)
  clear hb HB5
  go_wp2_with (refine wpList_storeA rfl 32 (.tmp 7) (.tmp 35) rfl w6.heap.size (bvA X) rfl rfl 32 _ (BB.new w6 _ zK) (key_sz _ HLX.out) (key_old _ HLX.out) (bvA_one _) ?_)
  intro w7 hst hgr
  have HB7 := Lib.hid (HB6.out.stored 32 X hst hgr)
  clear hst hgr HB6
  generalize w6.heap.size = gk at *
  obtain ⟨y0, y1, y2⟩ := (HB7.out.side gy 2 c m (by simp)).cells3
  go_wp2_with fail
  clear y0 y1 y2
  refine (KG.out _ HB7.out.tab).mono ?_
  rintro e w8 ⟨rfl, hb⟩
  have HB8 := Lib.hid (HB7.out.call hb)
  clear hb HB7
  go_wp2_with (refine wpList_storeA rfl 32 (.tmp 9) (.tmp 41) rfl w8.heap.size (bvA X) rfl rfl 32 _ (BB.new w8 _ zK) (key_sz _ HLX.out) (key_old _ HLX.out) (bvA_one _) ?_)
  intro w9 hst hgr
  have HB9 := Lib.hid (HB8.out.stored 32 X hst hgr)
  clear hst hgr HB8
  generalize w8.heap.size = gl at *
  obtain ⟨y0, y1, y2⟩ := (HB9.out.side gy 2 c m (by simp)).cells3
  go_wp2_with fail
  clear y0 y1 y2
  refine (KR.out _ HB9.out.tab).mono ?_
  rintro e w10 ⟨rfl, hb⟩
  have HB10 := Lib.hid (HB9.out.call hb)
  clear hb HB9
  go_wp2_with (refine wpList_storeA rfl 31 (.tmp 11) (.tmp 47) rfl w10.heap.size (bvA D) rfl rfl 31 _ (BB.new w10 _ zK) (digP_sz _ HLD.out) (key_old _ HLD.out) (bvA_one _) ?_)
  intro w11 hst hgr
  have HB11 := Lib.hid (HB10.out.stored 31 D hst hgr)
  clear hst hgr HB10
  generalize w10.heap.size = gp at *
  obtain ⟨x0, x1, x2⟩ := (HB11.out.side gx 1 c n (by simp)).cells3
  go_wp2_with (refine wpList_load_row rfl 31  (.tmp 11) rfl gp rfl _ (bvA D) (0, 0) _ (HB11.out.blk gp 31 D (by simp)) digP_und rfl (digP_sz _ HLD.out) ?_)
  clear x0 x1 x2
  refine (KA.out _ HB11.out.tab).mono ?_
  rintro e w12 ⟨rfl, hb⟩
  have HB12 := Lib.hid (HB11.out.call hb)
  clear hb HB11
  obtain ⟨x0, x1, x2⟩ := (HB12.out.side gx 1 c n (by simp)).cells3
  go_wp2_with fail
  clear x0 x1 x2
  refine (KZ.out _ HB12.out.tab).mono ?_
  rintro e w13 ⟨rfl, hb⟩
  have HB13 := Lib.hid (HB12.out.call hb)
  clear hb HB12
  go_wp2_with (refine wpList_storeA rfl 32 (.tmp 15) (.tmp 59) rfl w13.heap.size (bvA zK) rfl rfl 32 _ (BB.new w13 _ zK) (key_sz _ HLZ.out) (key_old _ HLZ.out) (bvA_one _) ?_)
  intro w14 hst hgr
  have HB14 := Lib.hid (HB13.out.stored 32 zK hst hgr)
  clear hst hgr HB13
  generalize w13.heap.size = gz at *
  obtain ⟨x0, x1, x2⟩ := (HB14.out.side gx 1 c n (by simp)).cells3
  go_wp2_with (refine wpList_load_row rfl 31  (.tmp 11) rfl gp rfl _ (bvA D) (0, 0) _ (HB14.out.blk gp 31 D (by simp)) digP_und rfl (digP_sz _ HLD.out) ?_)
  clear x0 x1 x2
  refine (KY.out _ HB14.out.tab).mono ?_
  rintro e w15 ⟨rfl, hb⟩
  have HB15 := Lib.hid (HB14.out.call hb)
  clear hb HB14
  go_wp2_with fail
  refine (KC.out _).mono ?_
  rintro e w16 ⟨rfl, hb⟩
  have HB16 := Lib.hid (HB15.out.call hb)
  clear hb HB15
  go_wp2_with (first
    | (refine wpList_load_rowG (by rfl) 32  (.tmp 7) rfl gk rfl _ (bvA X) (0, 0) _ (HB16.out.blk gk 32 X (by simp)) key_und rfl (key_sz _ HLX.out) ?_)
    | (refine wpList_load_rowG (by rfl) 32  (.tmp 9) rfl gl rfl _ (bvA X) (0, 0) _ (HB16.out.blk gl 32 X (by simp)) key_und rfl (key_sz _ HLX.out) ?_))
  refine (KC1.out _).mono ?_
  rintro e wa ⟨rfl, hb⟩
  have HBa := Lib.hid (HB16.out.call hb)
  clear hb
  go_wp2_with fail
  refine (KC2.out _).mono ?_
  rintro e wb ⟨rfl, hb⟩
  go_wp2_with fail
  go_ret
  exact ⟨rfl, (HBa.out.call hb).below⟩
end Go.Proofs.YtkpecfhcdechmaaDoor
