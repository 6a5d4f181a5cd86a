/-
  The statements of proxy: the examples.
-/
import Derived.Test.YteigldfdaciopaaGreatDoorLl
namespace Go.Proofs.YteigldfdaciopaaGreatDoor
open Go.RowKit
set_option linter.unusedVariables false
set_option linter.unusedSimpArgs false

set_option maxRecDepth 100000 in
set_option maxHeartbeats 1600000 in
theorem sane11_any (w : World) (hT : Tab w) : Calls Tryz.prog 6 #[] w fun e w' => e = .returned (.bool true) ∧ Below w.heap.size w w' := by
  have q1 : IsEl ((lkA (4 ^ 5 % 4611686018427377339) (lkR (exP 8)) : Nat) : Int) := lk_isA (x := 5) (exP 8)
  have q2 : IsEl ((lkB (lkR (exP 8)) (lkM (exP 8)) : Nat) : Int) := lk_isB (exP 8)
  have q3 : IsEl ((lkA (4 ^ 5 % 4611686018427377339) (lkR (exP 8)) ^ fcS 5 6 % 4611686018427377339 : Nat) : Int) := pow_isP (lk_elA (x := 5) (exP 8)) _
  have KB := Lib.hid (fun W => gBase_okP 5 (by decide) W)
  have KL := Lib.hid (fun W hT => Lock_ok (4 ^ 5 % 4611686018427377339) (exP 7) (exP 8) (pow_isP El4 5) (exP_len 7) (exP_len 8) W hT)
  have KO := Lib.hid (fun W hT => Open_ok 5 _ _ (lkX (exP 8) (exP 7)) pk5 q1 q2 (lkX_len _ (exP_len 7)) W hT)
  rw [lk_open pk5 (exP 8) (exP_len 7)] at KO
  have KF := Lib.hid (fun W hT => Factor_ok 5 6 pk5 pk6 W hT)
  have KT := Lib.hid (fun W hT => Turn_ok (fcS 5 6) _ _ (lkX (exP 8) (exP 7)) (fcS_key pk5 pk6) q1 q2 (lkX_len _ (exP_len 7)) W hT)
  have KO6 := Lib.hid (fun W hT => Open_ok 6 _ _ (lkX (exP 8) (exP 7)) pk6 q3 q2 (lkX_len _ (exP_len 7)) W hT)
  rw [opM_turn _ (lk_elA (x := 5) (exP 8)) pk5 pk6, lk_open pk5 (exP 8) (exP_len 7)] at KO6
  have KL0 := Lib.hid (fun W hT => Lock_bad 0 (exP 7) (exP 8) not0 W hT)
  have KO0 := Lib.hid (fun W hT => Open_key 0 ((lkA (4 ^ 5 % 4611686018427377339) (lkR (exP 8)) : Nat) : Int) ((lkB (lkR (exP 8)) (lkM (exP 8)) : Nat) : Int) (lkX (exP 8) (exP 7)) (lkX_len _ (exP_len 7)) (by decide) W hT)
  have KO1 := Lib.hid (fun W hT => Open_cap 1 0 0 kZ kZ_len pk1 (fun h => not0 h.1) W hT)
  have KF5 := Lib.hid (fun W hT => Factor_ok 5 5 pk5 pk5 W hT)
  rw [fcS_self pk5] at KF5
  have KC := Lib.hid (fun W => pCheck11_any ((lkA (4 ^ 5 % 4611686018427377339) (lkR (exP 8)) : Nat) : Int) ((lkB (lkR (exP 8)) (lkM (exP 8)) : Nat) : Int) (lkX (exP 8) (exP 7)) (lkX_len _ (exP_len 7)) W)
  rw [ckR_ok q1 q2] at KC
  have KC0 := Lib.hid (fun W => pCheck11_any 0 0 kZ kZ_len W)
  rw [ckR_bad1 0 not0] at KC0
  have HLX : Hid ((lkX (exP 8) (exP 7)).length = 32) := Lib.hid (lkX_len _ (exP_len 7))
  have HL7 : Hid ((exP 7).length = 32) := Lib.hid (exP_len 7)
  have HL8 : Hid ((exP 8).length = 32) := Lib.hid (exP_len 8)
  have HBT7 := Lib.hid exP7
  have HBT8 := Lib.hid exP8
  clear q1 q2 q3
  obtain ⟨X, hX⟩ := exEq (lkX (exP 8) (exP 7))
  rw [hX] at KL KO KT KO6 KO0 KC HLX
  obtain ⟨B, hB⟩ := exEq (lkB (lkR (exP 8)) (lkM (exP 8)))
  rw [hB] at KL KO KT KO6 KO0 KC
  obtain ⟨A1, hA1⟩ := exEq (lkA (4 ^ 5 % 4611686018427377339) (lkR (exP 8)) ^ fcS 5 6 % 4611686018427377339)
  rw [hA1] at KT KO6
  obtain ⟨A, hA⟩ := exEq (lkA (4 ^ 5 % 4611686018427377339) (lkR (exP 8)))
  rw [hA] at KL KO KT KO0 KC
  obtain ⟨y, hy⟩ := exEq (4 ^ 5 % 4611686018427377339)
  rw [hy] at KB KL
  obtain ⟨F, hF⟩ := exEq (fcS 5 6)
  rw [hF] at KF KT
  clear hX hB hA1 hA hy hF
  have n5 : ((5 : Nat) : Int) = 5 := rfl
  have n6 : ((6 : Nat) : Int) = 6 := rfl
  have n1 : ((1 : Nat) : Int) = 1 := rfl
  rw [n5] at KB KO KF KF5
  rw [n6] at KF KO6
  rw [n1] at KO1 KF5
  clear n5 n6 n1
  obtain ⟨K, hK⟩ := exEq (exP 7)
  rw [hK] at KL KO KO6 KL0 HL7 HBT7
  obtain ⟨S, hS⟩ := exEq (exP 8)
  rw [hS] at KL KL0 HL8 HBT8
  have eK := fun W => equal_keyS K HL7.out W
  clear hK hS
  have HSt := Lib.hid (PX.start hT)
  clear hT
  have hzc := fun W => zero_cap W
  have hzk := fun W => zero_ky W
  have HLZ := Lib.hid kZ_len
  go_enter Tryz.func6, Tryz.ntmps6
  go_wp2_with (first
    | (refine wpList_run (by rfl) (.agg (bvA K)) (exec_built 23 #[(0, .const (.int .u8 7))] rfl [(0, .int .u8 7)] (by kernel_rfl) _ HBT7.out) ?_)
    | (refine wpList_run (by rfl) (.agg (bvA S)) (exec_built 23 #[(0, .const (.int .u8 8))] rfl [(0, .int .u8 8)] (by kernel_rfl) _ HBT8.out) ?_)
    | (refine wpList_storeA rfl 23 (.tmp 1) (.tmp 23) rfl w.heap.size (bvA K) rfl rfl 23 _ ((CB.new w 23 (bvA kZ)).alloc _) (key_sz _ HL7.out) (key_old _ HL7.out) (bvA_one _) ?_))
  intro wx hst hgr
  have HBx := Lib.hid (show PX w [(w.heap.size + 1, 23, bvA kZ), (w.heap.size, 23, bvA K)] wx from by
    have h0 := ((HSt.out.add 23 (bvA kZ) (w.heap.size) rfl).add 23 (bvA kZ) (w.heap.size + 1) (by simp))
    have hB := grown_below h0.below hgr (Nat.le_refl _) h0.below.size
    have h2 := (h0.blk (w.heap.size + 1) 23 (bvA kZ) (List.Mem.head _)).grown hgr (by omega)
    refine ⟨hB, HSt.out.tab.below hB HSt.out.tab.lt, fun p hp => ?_⟩
    rcases List.mem_cons.1 hp with rfl | hp
    · exact h2
    · rcases List.mem_cons.1 hp with rfl | hp
      · exact hst
      · cases hp)
  clear hst hgr
  go_wp2_with (refine wpList_storeA rfl 23 (.tmp 2) (.tmp 24) rfl (w.heap.size + 1) (bvA S) rfl rfl 23 _ (HBx.out.blk (w.heap.size + 1) 23 (bvA kZ) (List.Mem.head _)) (key_sz _ HL8.out) (key_old _ HL8.out) (bvA_one _) ?_)
  intro w1 hst hgr
  have HB0 := Lib.hid (show PX w [(w.heap.size + 1, 23, bvA S), (w.heap.size, 23, bvA K)] w1 from by
    have hB := grown_below HBx.out.below hgr (Nat.le_succ _) HBx.out.below.size
    have h2 := (HBx.out.blk (w.heap.size) 23 (bvA K) (List.Mem.tail _ (List.Mem.head _))).grown hgr (by omega)
    refine ⟨hB, HSt.out.tab.below hB HSt.out.tab.lt, fun p hp => ?_⟩
    rcases List.mem_cons.1 hp with rfl | hp
    · exact hst
    · rcases List.mem_cons.1 hp with rfl | hp
      · exact h2
      · cases hp)
  clear hst hgr HBx HSt
  go_wp2_with fail
  with_reducible refine (KB.out _).mono ?_
  rintro e w2 ⟨rfl, hb⟩
  have HB2 := Lib.hid (HB0.out.call hb)
  clear hb HB0
  go_wp2_with (first
    | (refine wpList_load_row rfl 23 (.tmp 1) rfl w.heap.size rfl _ (bvA K) (0, 0) _ (HB2.out.blk w.heap.size 23 (bvA K) (List.Mem.tail _ (List.Mem.head _))) key_und rfl (key_sz _ HL7.out) ?_)
    | (refine wpList_load_row rfl 23 (.tmp 2) rfl (w.heap.size + 1) rfl _ (bvA S) (0, 0) _ (HB2.out.blk (w.heap.size + 1) 23 (bvA S) (List.Mem.head _)) key_und rfl (key_sz _ HL8.out) ?_))
  with_reducible refine (KL.out _ HB2.out.tab).mono ?_
  rintro e w3 ⟨rfl, hb⟩
  have HB3 := Lib.hid (HB2.out.call hb)
  clear hb HB2
  go_wp2_with (refine wpList_storeA rfl 25 (.tmp 5) (.tmp 34) rfl w3.heap.size (capA (A : Int) (B : Int) X) rfl rfl 25 _ (CB.new w3 _ (capA 0 0 kZ)) (cap_sz _ _ _ HLX.out) (cap_old _ _ _ _ _ _ kZ_len HLX.out) (capA_one _ _ _) ?_)
  intro w4 hst hgr
  have HB4 := Lib.hid (HB3.out.stored 25 _ (capA (A : Int) (B : Int) X) hst hgr)
  clear hst hgr HB3
  generalize w3.heap.size = gc at *
  go_wp2_with (refine wpList_load_row rfl 25 (.tmp 5) rfl gc rfl _ (capA (A : Int) (B : Int) X) (0, 0) _ (HB4.out.blk gc 25 (capA (A : Int) (B : Int) X) (List.Mem.head _)) cap_und rfl (cap_sz _ _ _ HLX.out) ?_)
  with_reducible refine (KO.out _ HB4.out.tab).mono ?_
  rintro e w5 ⟨rfl, hb⟩
  have HB5 := Lib.hid (HB4.out.call hb)
  clear hb HB4
  go_wp2_with (refine wpList_storeA rfl 23 (.tmp 7) (.tmp 39) rfl w5.heap.size (bvA K) rfl rfl 23 _ (CB.new w5 _ (bvA kZ)) (key_sz _ HL7.out) (key_old _ HL7.out) (bvA_one _) ?_)
  intro w6 hst hgr
  have HB6 := Lib.hid (HB5.out.stored 23 _ (bvA K) hst hgr)
  clear hst hgr HB5
  generalize w5.heap.size = gx at *
  go_wp2_with fail
  with_reducible refine (KF.out _ HB6.out.tab).mono ?_
  rintro e w7 ⟨rfl, hb⟩
  have HB7 := Lib.hid (HB6.out.call hb)
  clear hb HB6
  go_wp2_with (refine wpList_load_row rfl 25 (.tmp 5) rfl gc rfl _ (capA (A : Int) (B : Int) X) (0, 0) _ (HB7.out.blk gc 25 (capA (A : Int) (B : Int) X) (List.Mem.tail _ (List.Mem.head _))) cap_und rfl (cap_sz _ _ _ HLX.out) ?_)
  with_reducible refine (KT.out _ HB7.out.tab).mono ?_
  rintro e w8 ⟨rfl, hb⟩
  have HB8 := Lib.hid (HB7.out.call hb)
  clear hb HB7
  go_wp2_with (refine wpList_storeA rfl 25 (.tmp 11) (.tmp 49) rfl w8.heap.size (capA (A1 : Int) (B : Int) X) rfl rfl 25 _ (CB.new w8 _ (capA 0 0 kZ)) (cap_sz _ _ _ HLX.out) (cap_old _ _ _ _ _ _ kZ_len HLX.out) (capA_one _ _ _) ?_)
  intro w9 hst hgr
  have HB9 := Lib.hid (HB8.out.stored 25 _ (capA (A1 : Int) (B : Int) X) hst hgr)
  clear hst hgr HB8
  generalize w8.heap.size = gd at *
  go_wp2_with (refine wpList_load_row rfl 25 (.tmp 11) rfl gd rfl _ (capA (A1 : Int) (B : Int) X) (0, 0) _ (HB9.out.blk gd 25 (capA (A1 : Int) (B : Int) X) (List.Mem.head _)) cap_und rfl (cap_sz _ _ _ HLX.out) ?_)
  with_reducible refine (KO6.out _ HB9.out.tab).mono ?_
  rintro e w10 ⟨rfl, hb⟩
  have HB10 := Lib.hid (HB9.out.call hb)
  clear hb HB9
  go_wp2_with (refine wpList_storeA rfl 23 (.tmp 13) (.tmp 54) rfl w10.heap.size (bvA K) rfl rfl 23 _ (CB.new w10 _ (bvA kZ)) (key_sz _ HL7.out) (key_old _ HL7.out) (bvA_one _) ?_)
  intro w11 hst hgr
  have HB11 := Lib.hid (HB10.out.stored 23 _ (bvA K) hst hgr)
  clear hst hgr HB10
  generalize w10.heap.size = gz at *
  go_wp2_with (first
    | (refine wpList_load_row rfl 23 (.tmp 1) rfl w.heap.size rfl _ (bvA K) (0, 0) _ (HB11.out.blk w.heap.size 23 (bvA K) (List.Mem.tail _ (List.Mem.tail _ (List.Mem.tail _ (List.Mem.tail _ (List.Mem.tail _ (List.Mem.head _))))))) key_und rfl (key_sz _ HL7.out) ?_)
    | (refine wpList_load_row rfl 23 (.tmp 2) rfl (w.heap.size + 1) rfl _ (bvA S) (0, 0) _ (HB11.out.blk (w.heap.size + 1) 23 (bvA S) (List.Mem.tail _ (List.Mem.tail _ (List.Mem.tail _ (List.Mem.tail _ (List.Mem.head _)))))) key_und rfl (key_sz _ HL8.out) ?_))
  with_reducible refine (KL0.out _ HB11.out.tab).mono ?_
  rintro e w12 ⟨rfl, hb⟩
  have HB12 := Lib.hid (HB11.out.call hb)
  clear hb HB11
  go_wp2_with (refine wpList_storeA rfl 25 (.tmp 15) (.tmp 60) rfl w12.heap.size (capA 0 0 kZ) rfl rfl 25 _ (CB.new w12 _ (capA 0 0 kZ)) (cap_sz _ _ _ HLZ.out) (cap_old _ _ _ _ _ _ kZ_len HLZ.out) (capA_one _ _ _) ?_)
  intro w13 hst hgr
  have HB13 := Lib.hid (HB12.out.stored 25 _ (capA 0 0 kZ) hst hgr)
  clear hst hgr HB12
  generalize w12.heap.size = ge at *
  go_wp2_with (refine wpList_load_row rfl 25 (.tmp 5) rfl gc rfl _ (capA (A : Int) (B : Int) X) (0, 0) _ (HB13.out.blk gc 25 (capA (A : Int) (B : Int) X) (List.Mem.tail _ (List.Mem.tail _ (List.Mem.tail _ (List.Mem.tail _ (List.Mem.head _)))))) cap_und rfl (cap_sz _ _ _ HLX.out) ?_)
  with_reducible refine (KO0.out _ HB13.out.tab).mono ?_
  rintro e w14 ⟨rfl, hb⟩
  have HB14 := Lib.hid (HB13.out.call hb)
  clear hb HB13
  go_wp2_with (refine wpList_storeA rfl 23 (.tmp 17) (.tmp 65) rfl w14.heap.size (bvA kZ) rfl rfl 23 _ (CB.new w14 _ (bvA kZ)) (key_sz _ HLZ.out) (key_old _ HLZ.out) (bvA_one _) ?_)
  intro w15 hst hgr
  have HB15 := Lib.hid (HB14.out.stored 23 _ (bvA kZ) hst hgr)
  clear hst hgr HB14
  generalize w14.heap.size = gf at *
  go_wp2_with (refine wpList_run (by rfl) (.agg (capA 0 0 kZ)) (exec_built 25 #[] rfl [] (by kernel_rfl) _ built_cap0) ?_)
  with_reducible refine (KO1.out _ HB15.out.tab).mono ?_
  rintro e w16 ⟨rfl, hb⟩
  have HB16 := Lib.hid (HB15.out.call hb)
  clear hb HB15
  go_wp2_with (refine wpList_storeA rfl 23 (.tmp 19) (.tmp 70) rfl w16.heap.size (bvA kZ) rfl rfl 23 _ (CB.new w16 _ (bvA kZ)) (key_sz _ HLZ.out) (key_old _ HLZ.out) (bvA_one _) ?_)
  intro w17 hst hgr
  have HB17 := Lib.hid (HB16.out.stored 23 _ (bvA kZ) hst hgr)
  clear hst hgr HB16
  generalize w16.heap.size = gh at *
  go_wp2_with fail
  with_reducible refine (KF5.out _ HB17.out.tab).mono ?_
  rintro e w18 ⟨rfl, hb⟩
  have HB18 := Lib.hid (HB17.out.call hb)
  clear hb HB17
  go_wp2_with (first
    | (refine wpList_load_row rfl 23 (.tmp 7) rfl gx rfl _ (bvA K) (0, 0) _ (HB18.out.blk gx 23 (bvA K) (List.Mem.tail _ (List.Mem.tail _ (List.Mem.tail _ (List.Mem.tail _ (List.Mem.tail _ (List.Mem.head _))))))) key_und rfl (key_sz _ HL7.out) ?_)
    | (refine wpList_load_row rfl 23 (.tmp 1) rfl w.heap.size rfl _ (bvA K) (0, 0) _ (HB18.out.blk w.heap.size 23 (bvA K) (List.Mem.tail _ (List.Mem.tail _ (List.Mem.tail _ (List.Mem.tail _ (List.Mem.tail _ (List.Mem.tail _ (List.Mem.tail _ (List.Mem.tail _ (List.Mem.head _)))))))))) key_und rfl (key_sz _ HL7.out) ?_)
    | (refine wpList_load_rowG (by rfl) 23 (.tmp 13) rfl gz rfl _ (bvA K) (0, 0) _ (HB18.out.blk gz 23 (bvA K) (List.Mem.tail _ (List.Mem.tail _ (List.Mem.tail _ (List.Mem.head _))))) key_und rfl (key_sz _ HL7.out) ?_)
    | (refine wpList_load_rowG (by rfl) 23 (.tmp 1) rfl w.heap.size rfl _ (bvA K) (0, 0) _ (HB18.out.blk w.heap.size 23 (bvA K) (List.Mem.tail _ (List.Mem.tail _ (List.Mem.tail _ (List.Mem.tail _ (List.Mem.tail _ (List.Mem.tail _ (List.Mem.tail _ (List.Mem.tail _ (List.Mem.head _)))))))))) key_und rfl (key_sz _ HL7.out) ?_)
    | (refine wpList_load_rowG (by rfl) 25 (.tmp 5) rfl gc rfl _ (capA (A : Int) (B : Int) X) (0, 0) _ (HB18.out.blk gc 25 (capA (A : Int) (B : Int) X) (List.Mem.tail _ (List.Mem.tail _ (List.Mem.tail _ (List.Mem.tail _ (List.Mem.tail _ (List.Mem.tail _ (List.Mem.head _)))))))) cap_und rfl (cap_sz _ _ _ HLX.out) ?_))
  with_reducible refine (KC.out _).mono ?_
  rintro e w19 ⟨rfl, hb⟩
  have HB19 := Lib.hid (HB18.out.call hb)
  clear hb HB18
  go_wp2_with (refine wpList_run (by rfl) (.agg (capA 0 0 kZ)) (exec_built 25 #[] rfl [] (by kernel_rfl) _ built_cap0) ?_)
  with_reducible refine (KC0.out _).mono ?_
  rintro e w20 ⟨rfl, hb⟩
  have HB20 := Lib.hid (HB19.out.call hb)
  clear hb HB19
  go_wp2_with fail
  go_ret
  exact ⟨rfl, HB20.out.below⟩
end Go.Proofs.YteigldfdaciopaaGreatDoor
