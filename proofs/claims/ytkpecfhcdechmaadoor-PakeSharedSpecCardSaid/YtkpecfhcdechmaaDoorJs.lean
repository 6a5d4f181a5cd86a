/-
  Package pake: the walk of PakeCodes.
-/
import Derived.Test.YtkpecfhcdechmaaDoorJr
namespace Go.Proofs.YtkpecfhcdechmaaDoor
open Go.RowKit
set_option linter.unusedVariables false
set_option linter.unusedSimpArgs false

set_option maxRecDepth 100000 in
set_option maxHeartbeats 8000000 in
theorem codes_walk10 (code other sa sb : Int) (w : World) (hT : Tab w) :
    Calls Tryd.prog 6 #[.int .i64 code, .int .i64 other, .int .i64 sa, .int .i64 sb] w fun e w' => e = .returned (.bool true) ∧ Below w.heap.size w w' := by
  have HB0 := Lib.hid (PB.start hT)
  have KS1 := Lib.hid (fun W => side_any 0 code sa W)
  have KS2 := Lib.hid (fun W => side_any 1 other sb W)
  have h1 := sd_ok 0 code sa
  have h2 := sd_ok 1 other sb
  rw [sdR0] at KS1 h1
  rw [sdR1] at KS2 h2
  obtain ⟨c, hc⟩ : ∃ c, sdC code = c := ⟨_, rfl⟩
  obtain ⟨d, hd⟩ : ∃ d, sdC other = d := ⟨_, rfl⟩
  obtain ⟨n, hn⟩ : ∃ n, sdS sa = n := ⟨_, rfl⟩
  obtain ⟨m, hm⟩ : ∃ m, sdS sb = m := ⟨_, rfl⟩
  rw [hc, hn] at KS1 h1
  rw [hd, hm] at KS2 h2
  clear hc hd hn hm
  have ln : n < 2305843009213688669 := by have := h1.2.2.2; omega
  have lm : m < 2305843009213688669 := by have := h2.2.2.2; omega
  have s1 : okS 1 c n (ptP 2 d m : Nat) := ⟨h1, ptP_is _ _ _⟩
  have s2 : okS 2 d m (ptP 1 c n : Nat) := ⟨h2, ptP_is _ _ _⟩
  have KP1 := Lib.hid (fun W h => Point_ok 1 c n h1 W h)
  have KP2 := Lib.hid (fun W h => Point_ok 2 d m h2 W h)
  have KH := Lib.hid (fun W h => Shared_any 1 c n (ptP 2 d m : Nat) W h)
  rw [kyW_ok s1, shE_ok s1] at KH
  have KG := Lib.hid (fun W h => Shared_any 2 d m (ptP 1 c n : Nat) W h)
  rw [kyW_ok s2, shE_ok s2] at KG
  have KU := Lib.hid (fun W => rPassword_any c W)
  have KV := Lib.hid (fun W => rPassword_any d W)
  have KM2 := Lib.hid (fun W => rMask_any 2 W)
  have KM1 := Lib.hid (fun W => rMask_any 1 W)
  have KW2 := Lib.hid (fun W => lpower_any (mkS 2) (pwS d) (pwS c) n (mkS_is 2) (pwS_bd d).2 (pwS_bd c).2 ln W)
  have KW1 := Lib.hid (fun W => lpower_any (mkS 1) (pwS c) (pwS d) m (mkS_is 1) (pwS_bd c).2 (pwS_bd d).2 lm W)
  have KZ1 := Lib.hid (fun W => rElement_any 1 c n (ptP 2 d m) h1 (ptP_is _ _ _) W)
  have KZ2 := Lib.hid (fun W => rElement_any 2 d m (ptP 1 c n) h2 (ptP_is _ _ _) W)
  have hiff := zP_codes c d n m
  have hXX : zP 1 c n (ptP 2 d m) = zP 2 d m (ptP 1 c n) → kyP 1 c n (ptP 2 d m) = kyP 2 d m (ptP 1 c n) := fun h => by
    unfold kyP; rw [if_pos rfl, if_neg (by decide), h]
  have hX1 : tagS (ByteArray.mk #[112, 97, 107, 101]).data.toList (be8 (ptP 1 c n : Nat) ++ be8 (ptP 2 d m : Nat) ++ be8 (zP 1 c n (ptP 2 d m) : Nat)) = kyP 1 c n (ptP 2 d m) := by unfold kyP; rw [if_pos rfl]; rfl
  have hX2 : tagS (ByteArray.mk #[112, 97, 107, 101]).data.toList (be8 (ptP 1 c n : Nat) ++ be8 (ptP 2 d m : Nat) ++ be8 (zP 2 d m (ptP 1 c n) : Nat)) = kyP 2 d m (ptP 1 c n) := by unfold kyP; rw [if_neg (by decide)]; rfl
  have HLX := Lib.hid (kyP_len 1 c n (ptP 2 d m))
  have HLY := Lib.hid (kyP_len 2 d m (ptP 1 c n))
  obtain ⟨M, hM⟩ : ∃ M, mkS 2 ^ (dif (pwS d) (pwS c) * n % 2305843009213688669) % 4611686018427377339 = M := ⟨_, rfl⟩
  obtain ⟨N, hN⟩ : ∃ N, mkS 1 ^ (dif (pwS c) (pwS d) * m % 2305843009213688669) % 4611686018427377339 = N := ⟨_, rfl⟩
  rw [hM] at KW2 hiff
  rw [hN] at KW1 hiff
  obtain ⟨X, hX⟩ : ∃ X, kyP 1 c n (ptP 2 d m) = X := ⟨_, rfl⟩
  obtain ⟨Y, hY⟩ : ∃ Y, kyP 2 d m (ptP 1 c n) = Y := ⟨_, rfl⟩
  rw [hX] at KH HLX hX1 hXX
  rw [hY] at KG HLY hX2 hXX
  obtain ⟨z, hz⟩ : ∃ z, zP 1 c n (ptP 2 d m) = z := ⟨_, rfl⟩
  obtain ⟨t, ht⟩ : ∃ t, zP 2 d m (ptP 1 c n) = t := ⟨_, rfl⟩
  rw [hz] at KZ1 hX1 hXX hiff
  rw [ht] at KZ2 hX2 hXX hiff
  obtain ⟨a, ha⟩ : ∃ a, ptP 1 c n = a := ⟨_, rfl⟩
  obtain ⟨b, hb0⟩ : ∃ b, ptP 2 d m = b := ⟨_, rfl⟩
  rw [ha] at KP1 KG KZ2 hX1 hX2
  rw [hb0] at KP2 KH KZ1 hX1 hX2
  obtain ⟨k1, hk1⟩ : ∃ k, mkS 1 = k := ⟨_, rfl⟩
  obtain ⟨k2, hk2⟩ : ∃ k, mkS 2 = k := ⟨_, rfl⟩
  rw [hk1] at KM1 KW1
  rw [hk2] at KM2 KW2
  obtain ⟨u, hu⟩ : ∃ u, pwS c = u := ⟨_, rfl⟩
  obtain ⟨v, hv⟩ : ∃ v, pwS d = v := ⟨_, rfl⟩
  rw [hu] at KU KW1 KW2
  rw [hv] at KV KW1 KW2
  have KE1 := Lib.hid (fun W => rEight_any (a : Int) W)
  have KE2 := Lib.hid (fun W => rEight_any (b : Int) W)
  have KE3 := Lib.hid (fun W => rEight_any (z : Int) W)
  have KE4 := Lib.hid (fun W => rEight_any (t : Int) W)
  obtain ⟨B1, hB1⟩ : ∃ B, be8 (a : Int) = B := ⟨_, rfl⟩
  obtain ⟨B2, hB2⟩ : ∃ B, be8 (b : Int) = B := ⟨_, rfl⟩
  obtain ⟨B3, hB3⟩ : ∃ B, be8 (z : Int) = B := ⟨_, rfl⟩
  obtain ⟨B4, hB4⟩ : ∃ B, be8 (t : Int) = B := ⟨_, rfl⟩
  have HL1 : Hid (B1.length = 8) := Lib.hid (by rw [← hB1]; exact be8_len _)
  have HL2 : Hid (B2.length = 8) := Lib.hid (by rw [← hB2]; exact be8_len _)
  have HL3 : Hid (B3.length = 8) := Lib.hid (by rw [← hB3]; exact be8_len _)
  have HL4 : Hid (B4.length = 8) := Lib.hid (by rw [← hB4]; exact be8_len _)
  rw [hB1] at KE1 hX1 hX2
  rw [hB2] at KE2 hX1 hX2
  rw [hB3] at KE3 hX1
  rw [hB4] at KE4 hX2
  obtain ⟨B5, hB5⟩ : ∃ B, B1 ++ B2 = B := ⟨_, rfl⟩
  have HL5 : Hid (B5.length = 16) := Lib.hid (by rw [← hB5, List.length_append, HL1.out, HL2.out])
  have H5 := Lib.hid hB5
  rw [hB5] at hX1 hX2
  obtain ⟨B6, hB6⟩ : ∃ B, B5 ++ B3 = B := ⟨_, rfl⟩
  have HL6 : Hid (B6.length = 24) := Lib.hid (by rw [← hB6, List.length_append, HL5.out, HL3.out])
  have H6 := Lib.hid hB6
  rw [hB6] at hX1
  obtain ⟨B7, hB7⟩ : ∃ B, B5 ++ B4 = B := ⟨_, rfl⟩
  have HL7 : Hid (B7.length = 24) := Lib.hid (by rw [← hB7, List.length_append, HL5.out, HL4.out])
  have H7 := Lib.hid hB7
  rw [hB7] at hX2
  have HX1 := Lib.hid hX1
  have HX2 := Lib.hid hX2
  have eX := fun W => equal_same X HLX.out W
  have eY := fun W => equal_same Y HLY.out W
  obtain ⟨kb, hkb⟩ : ∃ kb : Bool, decide (z = t) = kb := ⟨_, rfl⟩
  have q1 : ((z : Int) == (t : Int)) = kb := by rw [← hkb, Bool.eq_iff_iff, beq_iff_eq, decide_eq_true_iff]; omega
  have q2 : ((M : Int) == (N : Int)) = kb := by rw [← hkb, Bool.eq_iff_iff, beq_iff_eq, decide_eq_true_iff, ← hiff]; omega
  have HQQ : Hid (kb = true → X = Y) := Lib.hid (fun h => hXX (by rw [h] at hkb; exact of_decide_eq_true hkb))
  clear h1 h2 ln lm s1 s2 hM hN hX hY hz ht ha hb0 hk1 hk2 hu hv hB1 hB2 hB3 hB4 hB5 hB6 hB7 hX1 hX2 hXX hiff hkb hT
  unfold sidV at *
  go_enter Tryd.func6, Tryd.ntmps6
  go_wp2_with fail
  refine (sane10_any _ HB0.out.tab).mono ?_
  rintro e w1 ⟨rfl, hb⟩
  have HB1 := Lib.hid (HB0.out.call hb)
  clear hb HB0
  go_wp2_with fail
  refine (KS1.out _).mono ?_
  rintro e w2 ⟨rfl, hb⟩
  have HB2 := Lib.hid (HB1.out.call hb)
  clear hb HB1
  go_wp2_with fail
  refine (KS2.out _).mono ?_
  rintro e w3 ⟨rfl, hb⟩
  have HB3 := Lib.hid (HB2.out.call hb)
  clear hb HB2
  have HB4 := Lib.hid ((HB3.out.addS 1 c n w3.heap.size rfl).addS 2 d m (w3.heap.size + 1) (by simp))
  obtain ⟨w4, hw⟩ : ∃ w4, w4 = (w3.alloc (.cells #[.int .i64 1, .int .i64 c, .int .i64 n] 23)).alloc (.cells #[.int .i64 2, .int .i64 d, .int .i64 m] 23) := ⟨_, rfl⟩
  rw [← hw] at HB4
  go_wp2_with fail
  rw [← hw]
  clear hw HB3
  generalize w3.heap.size + 1 = gy at *
  generalize w3.heap.size = gx at *
  refine (KP1.out _ HB4.out.tab).mono ?_
  rintro e w5 ⟨rfl, hb⟩
  have HB5 := Lib.hid (HB4.out.call hb)
  clear hb HB4
  obtain ⟨y0, y1, y2⟩ := (HB5.out.side gy 2 d m (by simp)).cells3
  go_wp2_with fail
  clear y0 y1 y2
  refine (KP2.out _ HB5.out.tab).mono ?_
  rintro e w6 ⟨rfl, hb⟩
  have HB6 := Lib.hid (HB5.out.call hb)
  clear hb HB5
  obtain ⟨x0, x1, x2⟩ := (HB6.out.side gx 1 c n (by simp)).cells3
  go_wp2_with fail
  clear x0 x1 x2
  refine (KH.out _ HB6.out.tab).mono ?_
  rintro e w7 ⟨rfl, hb⟩
  have HB7 := Lib.hid (HB6.out.call hb)
  clear hb HB6
  go_wp2_with (refine wpList_storeA rfl 32 (.tmp 15) (.tmp 52) rfl w7.heap.size (bvA X) rfl rfl 32 _ (BB.new w7 _ zK) (key_sz _ HLX.out) (key_old _ HLX.out) (bvA_one _) ?_)
  intro w8 hst hgr
  have HB8 := Lib.hid (HB7.out.stored 32 X hst hgr)
  clear hst hgr HB7
  generalize w7.heap.size = gk at *
  obtain ⟨y0, y1, y2⟩ := (HB8.out.side gy 2 d m (by simp)).cells3
  go_wp2_with fail
  clear y0 y1 y2
  refine (KG.out _ HB8.out.tab).mono ?_
  rintro e w9 ⟨rfl, hb⟩
  have HB9 := Lib.hid (HB8.out.call hb)
  clear hb HB8
  go_wp2_with (refine wpList_storeA rfl 32 (.tmp 17) (.tmp 58) rfl w9.heap.size (bvA Y) rfl rfl 32 _ (BB.new w9 _ zK) (key_sz _ HLY.out) (key_old _ HLY.out) (bvA_one _) ?_)
  intro w10 hst hgr
  have HB10 := Lib.hid (HB9.out.stored 32 Y hst hgr)
  clear hst hgr HB9
  generalize w9.heap.size = gl at *
  go_wp2_with fail
  have HBd := Lib.hid HB10.out.drew
  have hS0 : w10.drew.cell? ⟨gx, 0, none⟩ = some (.int .i64 1) ∧ w10.drew.cell? ⟨gx, 1, none⟩ = some (.int .i64 c) ∧ w10.drew.cell? ⟨gx, 2, none⟩ = some (.int .i64 n) ∧ w10.drew.cell? ⟨gy, 0, none⟩ = some (.int .i64 2) ∧ w10.drew.cell? ⟨gy, 1, none⟩ = some (.int .i64 d) ∧ w10.drew.cell? ⟨gy, 2, none⟩ = some (.int .i64 m) := ⟨(HBd.out.side gx 1 c n (by simp)).cells3.1, (HBd.out.side gx 1 c n (by simp)).cells3.2.1, (HBd.out.side gx 1 c n (by simp)).cells3.2.2, (HBd.out.side gy 2 d m (by simp)).cells3.1, (HBd.out.side gy 2 d m (by simp)).cells3.2.1, (HBd.out.side gy 2 d m (by simp)).cells3.2.2⟩
  go_region_held3 (fun w' => w'.cell? ⟨gx, 0, none⟩ = some (.int .i64 1) ∧ w'.cell? ⟨gx, 1, none⟩ = some (.int .i64 c) ∧ w'.cell? ⟨gx, 2, none⟩ = some (.int .i64 n) ∧ w'.cell? ⟨gy, 0, none⟩ = some (.int .i64 2) ∧ w'.cell? ⟨gy, 1, none⟩ = some (.int .i64 d) ∧ w'.cell? ⟨gy, 2, none⟩ = some (.int .i64 m))
    (first
      | exact hS2
      | exact hS1
      | exact hS0)
    (first
      | (go_at_call 24
         with_reducible refine (KU.out w10.drew).mono ?_
         rintro e w11 ⟨rfl, hb⟩
         have HB11 := Lib.hid (HBd.out.call hb)
         have hS1 : w11.cell? ⟨gx, 0, none⟩ = some (.int .i64 1) ∧ w11.cell? ⟨gx, 1, none⟩ = some (.int .i64 c) ∧ w11.cell? ⟨gx, 2, none⟩ = some (.int .i64 n) ∧ w11.cell? ⟨gy, 0, none⟩ = some (.int .i64 2) ∧ w11.cell? ⟨gy, 1, none⟩ = some (.int .i64 d) ∧ w11.cell? ⟨gy, 2, none⟩ = some (.int .i64 m) := ⟨(HB11.out.side gx 1 c n (by simp)).cells3.1, (HB11.out.side gx 1 c n (by simp)).cells3.2.1, (HB11.out.side gx 1 c n (by simp)).cells3.2.2, (HB11.out.side gy 2 d m (by simp)).cells3.1, (HB11.out.side gy 2 d m (by simp)).cells3.2.1, (HB11.out.side gy 2 d m (by simp)).cells3.2.2⟩
         clear hb)
      | (go_at_call 24
         with_reducible refine (KV.out w11).mono ?_
         rintro e w12 ⟨rfl, hb⟩
         have HB12 := Lib.hid (HB11.out.call hb)
         have hS2 : w12.cell? ⟨gx, 0, none⟩ = some (.int .i64 1) ∧ w12.cell? ⟨gx, 1, none⟩ = some (.int .i64 c) ∧ w12.cell? ⟨gx, 2, none⟩ = some (.int .i64 n) ∧ w12.cell? ⟨gy, 0, none⟩ = some (.int .i64 2) ∧ w12.cell? ⟨gy, 1, none⟩ = some (.int .i64 d) ∧ w12.cell? ⟨gy, 2, none⟩ = some (.int .i64 m) := ⟨(HB12.out.side gx 1 c n (by simp)).cells3.1, (HB12.out.side gx 1 c n (by simp)).cells3.2.1, (HB12.out.side gx 1 c n (by simp)).cells3.2.2, (HB12.out.side gy 2 d m (by simp)).cells3.1, (HB12.out.side gy 2 d m (by simp)).cells3.2.1, (HB12.out.side gy 2 d m (by simp)).cells3.2.2⟩
         clear hb))
  clear hS0 hS1 hS2
  go_wp2_with fail
  have HBd := Lib.hid HB12.out.drew
  have hS0 : w12.drew.cell? ⟨gx, 0, none⟩ = some (.int .i64 1) ∧ w12.drew.cell? ⟨gx, 1, none⟩ = some (.int .i64 c) ∧ w12.drew.cell? ⟨gx, 2, none⟩ = some (.int .i64 n) ∧ w12.drew.cell? ⟨gy, 0, none⟩ = some (.int .i64 2) ∧ w12.drew.cell? ⟨gy, 1, none⟩ = some (.int .i64 d) ∧ w12.drew.cell? ⟨gy, 2, none⟩ = some (.int .i64 m) := ⟨(HBd.out.side gx 1 c n (by simp)).cells3.1, (HBd.out.side gx 1 c n (by simp)).cells3.2.1, (HBd.out.side gx 1 c n (by simp)).cells3.2.2, (HBd.out.side gy 2 d m (by simp)).cells3.1, (HBd.out.side gy 2 d m (by simp)).cells3.2.1, (HBd.out.side gy 2 d m (by simp)).cells3.2.2⟩
  go_region_held3 (fun w' => w'.cell? ⟨gx, 0, none⟩ = some (.int .i64 1) ∧ w'.cell? ⟨gx, 1, none⟩ = some (.int .i64 c) ∧ w'.cell? ⟨gx, 2, none⟩ = some (.int .i64 n) ∧ w'.cell? ⟨gy, 0, none⟩ = some (.int .i64 2) ∧ w'.cell? ⟨gy, 1, none⟩ = some (.int .i64 d) ∧ w'.cell? ⟨gy, 2, none⟩ = some (.int .i64 m))
    (first
      | exact hS2
      | exact hS1
      | exact hS0)
    (first
      | (go_at_call 26
         with_reducible refine (KM2.out w12.drew).mono ?_
         rintro e w13 ⟨rfl, hb⟩
         have HB13 := Lib.hid (HBd.out.call hb)
         have hS1 : w13.cell? ⟨gx, 0, none⟩ = some (.int .i64 1) ∧ w13.cell? ⟨gx, 1, none⟩ = some (.int .i64 c) ∧ w13.cell? ⟨gx, 2, none⟩ = some (.int .i64 n) ∧ w13.cell? ⟨gy, 0, none⟩ = some (.int .i64 2) ∧ w13.cell? ⟨gy, 1, none⟩ = some (.int .i64 d) ∧ w13.cell? ⟨gy, 2, none⟩ = some (.int .i64 m) := ⟨(HB13.out.side gx 1 c n (by simp)).cells3.1, (HB13.out.side gx 1 c n (by simp)).cells3.2.1, (HB13.out.side gx 1 c n (by simp)).cells3.2.2, (HB13.out.side gy 2 d m (by simp)).cells3.1, (HB13.out.side gy 2 d m (by simp)).cells3.2.1, (HB13.out.side gy 2 d m (by simp)).cells3.2.2⟩
         clear hb)
      | (go_at_call 25
         with_reducible refine (KW2.out w13).mono ?_
         rintro e w14 ⟨rfl, hb⟩
         have HB14 := Lib.hid (HB13.out.call hb)
         have hS2 : w14.cell? ⟨gx, 0, none⟩ = some (.int .i64 1) ∧ w14.cell? ⟨gx, 1, none⟩ = some (.int .i64 c) ∧ w14.cell? ⟨gx, 2, none⟩ = some (.int .i64 n) ∧ w14.cell? ⟨gy, 0, none⟩ = some (.int .i64 2) ∧ w14.cell? ⟨gy, 1, none⟩ = some (.int .i64 d) ∧ w14.cell? ⟨gy, 2, none⟩ = some (.int .i64 m) := ⟨(HB14.out.side gx 1 c n (by simp)).cells3.1, (HB14.out.side gx 1 c n (by simp)).cells3.2.1, (HB14.out.side gx 1 c n (by simp)).cells3.2.2, (HB14.out.side gy 2 d m (by simp)).cells3.1, (HB14.out.side gy 2 d m (by simp)).cells3.2.1, (HB14.out.side gy 2 d m (by simp)).cells3.2.2⟩
         clear hb))
  clear hS0 hS1 hS2
  go_wp2_with fail
  have HBd := Lib.hid HB14.out.drew
  have hS0 : w14.drew.cell? ⟨gx, 0, none⟩ = some (.int .i64 1) ∧ w14.drew.cell? ⟨gx, 1, none⟩ = some (.int .i64 c) ∧ w14.drew.cell? ⟨gx, 2, none⟩ = some (.int .i64 n) ∧ w14.drew.cell? ⟨gy, 0, none⟩ = some (.int .i64 2) ∧ w14.drew.cell? ⟨gy, 1, none⟩ = some (.int .i64 d) ∧ w14.drew.cell? ⟨gy, 2, none⟩ = some (.int .i64 m) := ⟨(HBd.out.side gx 1 c n (by simp)).cells3.1, (HBd.out.side gx 1 c n (by simp)).cells3.2.1, (HBd.out.side gx 1 c n (by simp)).cells3.2.2, (HBd.out.side gy 2 d m (by simp)).cells3.1, (HBd.out.side gy 2 d m (by simp)).cells3.2.1, (HBd.out.side gy 2 d m (by simp)).cells3.2.2⟩
  go_region_held3 (fun w' => w'.cell? ⟨gx, 0, none⟩ = some (.int .i64 1) ∧ w'.cell? ⟨gx, 1, none⟩ = some (.int .i64 c) ∧ w'.cell? ⟨gx, 2, none⟩ = some (.int .i64 n) ∧ w'.cell? ⟨gy, 0, none⟩ = some (.int .i64 2) ∧ w'.cell? ⟨gy, 1, none⟩ = some (.int .i64 d) ∧ w'.cell? ⟨gy, 2, none⟩ = some (.int .i64 m))
    (first
      | exact hS2
      | exact hS1
      | exact hS0)
    (first
      | (go_at_call 26
         with_reducible refine (KM1.out w14.drew).mono ?_
         rintro e w15 ⟨rfl, hb⟩
         have HB15 := Lib.hid (HBd.out.call hb)
         have hS1 : w15.cell? ⟨gx, 0, none⟩ = some (.int .i64 1) ∧ w15.cell? ⟨gx, 1, none⟩ = some (.int .i64 c) ∧ w15.cell? ⟨gx, 2, none⟩ = some (.int .i64 n) ∧ w15.cell? ⟨gy, 0, none⟩ = some (.int .i64 2) ∧ w15.cell? ⟨gy, 1, none⟩ = some (.int .i64 d) ∧ w15.cell? ⟨gy, 2, none⟩ = some (.int .i64 m) := ⟨(HB15.out.side gx 1 c n (by simp)).cells3.1, (HB15.out.side gx 1 c n (by simp)).cells3.2.1, (HB15.out.side gx 1 c n (by simp)).cells3.2.2, (HB15.out.side gy 2 d m (by simp)).cells3.1, (HB15.out.side gy 2 d m (by simp)).cells3.2.1, (HB15.out.side gy 2 d m (by simp)).cells3.2.2⟩
         clear hb)
      | (go_at_call 25
         with_reducible refine (KW1.out w15).mono ?_
         rintro e w16 ⟨rfl, hb⟩
         have HB16 := Lib.hid (HB15.out.call hb)
         have hS2 : w16.cell? ⟨gx, 0, none⟩ = some (.int .i64 1) ∧ w16.cell? ⟨gx, 1, none⟩ = some (.int .i64 c) ∧ w16.cell? ⟨gx, 2, none⟩ = some (.int .i64 n) ∧ w16.cell? ⟨gy, 0, none⟩ = some (.int .i64 2) ∧ w16.cell? ⟨gy, 1, none⟩ = some (.int .i64 d) ∧ w16.cell? ⟨gy, 2, none⟩ = some (.int .i64 m) := ⟨(HB16.out.side gx 1 c n (by simp)).cells3.1, (HB16.out.side gx 1 c n (by simp)).cells3.2.1, (HB16.out.side gx 1 c n (by simp)).cells3.2.2, (HB16.out.side gy 2 d m (by simp)).cells3.1, (HB16.out.side gy 2 d m (by simp)).cells3.2.1, (HB16.out.side gy 2 d m (by simp)).cells3.2.2⟩
         clear hb))
  clear hS0 hS1 hS2
  go_wp2_with fail
  have HBd := Lib.hid HB16.out.drew
  have hS0 : w16.drew.cell? ⟨gx, 0, none⟩ = some (.int .i64 1) ∧ w16.drew.cell? ⟨gx, 1, none⟩ = some (.int .i64 c) ∧ w16.drew.cell? ⟨gx, 2, none⟩ = some (.int .i64 n) ∧ w16.drew.cell? ⟨gy, 0, none⟩ = some (.int .i64 2) ∧ w16.drew.cell? ⟨gy, 1, none⟩ = some (.int .i64 d) ∧ w16.drew.cell? ⟨gy, 2, none⟩ = some (.int .i64 m) := ⟨(HBd.out.side gx 1 c n (by simp)).cells3.1, (HBd.out.side gx 1 c n (by simp)).cells3.2.1, (HBd.out.side gx 1 c n (by simp)).cells3.2.2, (HBd.out.side gy 2 d m (by simp)).cells3.1, (HBd.out.side gy 2 d m (by simp)).cells3.2.1, (HBd.out.side gy 2 d m (by simp)).cells3.2.2⟩
  go_region_held3 (fun w' => w'.cell? ⟨gx, 0, none⟩ = some (.int .i64 1) ∧ w'.cell? ⟨gx, 1, none⟩ = some (.int .i64 c) ∧ w'.cell? ⟨gx, 2, none⟩ = some (.int .i64 n) ∧ w'.cell? ⟨gy, 0, none⟩ = some (.int .i64 2) ∧ w'.cell? ⟨gy, 1, none⟩ = some (.int .i64 d) ∧ w'.cell? ⟨gy, 2, none⟩ = some (.int .i64 m))
    (first
      | exact hS2
      | exact hS1
      | exact hS0)
    (first
      | (go_at_call 27
         with_reducible refine (KZ1.out w16.drew).mono ?_
         rintro e w17 ⟨rfl, hb⟩
         have HB17 := Lib.hid (HBd.out.call hb)
         have hS1 : w17.cell? ⟨gx, 0, none⟩ = some (.int .i64 1) ∧ w17.cell? ⟨gx, 1, none⟩ = some (.int .i64 c) ∧ w17.cell? ⟨gx, 2, none⟩ = some (.int .i64 n) ∧ w17.cell? ⟨gy, 0, none⟩ = some (.int .i64 2) ∧ w17.cell? ⟨gy, 1, none⟩ = some (.int .i64 d) ∧ w17.cell? ⟨gy, 2, none⟩ = some (.int .i64 m) := ⟨(HB17.out.side gx 1 c n (by simp)).cells3.1, (HB17.out.side gx 1 c n (by simp)).cells3.2.1, (HB17.out.side gx 1 c n (by simp)).cells3.2.2, (HB17.out.side gy 2 d m (by simp)).cells3.1, (HB17.out.side gy 2 d m (by simp)).cells3.2.1, (HB17.out.side gy 2 d m (by simp)).cells3.2.2⟩
         clear hb)
      | (go_at_call 27
         with_reducible refine (KZ2.out w17).mono ?_
         rintro e w18 ⟨rfl, hb⟩
         have HB18 := Lib.hid (HB17.out.call hb)
         have hS2 : w18.cell? ⟨gx, 0, none⟩ = some (.int .i64 1) ∧ w18.cell? ⟨gx, 1, none⟩ = some (.int .i64 c) ∧ w18.cell? ⟨gx, 2, none⟩ = some (.int .i64 n) ∧ w18.cell? ⟨gy, 0, none⟩ = some (.int .i64 2) ∧ w18.cell? ⟨gy, 1, none⟩ = some (.int .i64 d) ∧ w18.cell? ⟨gy, 2, none⟩ = some (.int .i64 m) := ⟨(HB18.out.side gx 1 c n (by simp)).cells3.1, (HB18.out.side gx 1 c n (by simp)).cells3.2.1, (HB18.out.side gx 1 c n (by simp)).cells3.2.2, (HB18.out.side gy 2 d m (by simp)).cells3.1, (HB18.out.side gy 2 d m (by simp)).cells3.2.1, (HB18.out.side gy 2 d m (by simp)).cells3.2.2⟩
         clear hb))
  clear hS0 hS1 hS2
  have q3 : (kb != kb) = false := by cases kb <;> rfl
  go_wp2_with fail
  refine (KE1.out _).mono ?_
  rintro e u1 ⟨v1, rfl, ho, hb⟩
  obtain ⟨a1, c1, rfl, -, -⟩ := ho.form
  have HE1 := Lib.hid hb
  have HO1 := Lib.hid ho
  clear ho hb KE1
  go_wp2_with fail
  refine (KE2.out _).mono ?_
  rintro e u2 ⟨v2, rfl, ho, hb⟩
  obtain ⟨a2, c2, rfl, -, -⟩ := ho.form
  have HE2 := Lib.hid (HE1.out.trans (hb.mono HE1.out.size))
  have HO2 := Lib.hid (ho.mono HE1.out.size)
  have HO1b := Lib.hid (HO1.out.below hb)
  clear ho hb KE2 HO1 HE1
  go_wp2_with ((with_reducible show wpList _ _ _ (({ dst := some 123, op := _, type := _, pos := _, after := _, guard := _ } : Oper) :: _) _ _); go_must (refine wpList_appB rfl (.tmp 120) (.tmp 122) rfl w18.heap.size _ B1 B2 _ _ rfl HO1b.out rfl HO2.out.rdOf HO2.out.nilCap (by rw [HL1.out, HL2.out]; decide) HE2.out.size ?_))
  intro v3 u3 ho hg
  rw [H5.out] at ho
  have HE3 := Lib.hid (HE2.out.trans (hg.below (fun r hr => HO1b.out.base r hr) HE2.out.size))
  obtain ⟨ah, ch, rfl, -, -⟩ := ho.form
  have HOh := Lib.hid ho
  have HBb := Lib.hid (HB18.out.call HE3.out)
  clear ho hg HO1b HO2 HE2 HE3 HB18
  go_wp2_with ((with_reducible show wpList _ _ _ (({ dst := some 126, op := _, type := _, pos := _, after := _, guard := _ } : Oper) :: _) _ _); refine Hid.out ?_)
  refine Lib.hid ?_
  obtain ⟨n7, hn7⟩ : ∃ n7, n7 = u3.alloc (.cells #[] 5) := ⟨_, rfl⟩
  rw [← hn7]
  have HN7 : Hid (OwnB u3.heap.size n7 (.slice (some ⟨u3.heap.size, 0, none⟩) 0 0) []) := Lib.hid (hn7 ▸ OwnB.empty (Nat.le_refl _))
  have hz7 : Below u3.heap.size u3 n7 := hn7 ▸ (Below.refl _ _).alloc (Nat.le_refl _) _
  have HE70 := Lib.hid hz7
  have HH7 := Lib.hid (HOh.out.below hz7)
  have HZ7 : Hid (∀ r, (Value.slice ah B5.length ch).ownBlock = some r → r < u3.heap.size) := Lib.hid (fun r hr => (World.ownsRow.lt HOh.out r hr).2)
  clear hn7 hz7 HOh
  refine wpList_appB rfl (.tmp 124) (.tmp 125) rfl u3.heap.size _ [] B5 ah ch rfl HN7.out rfl HH7.out.rdOf HH7.out.nilCap (by rw [HL5.out]; decide) HE70.out.size ?_
  intro v71 m71 ho hg
  rw [List.nil_append] at ho
  have hn1 : (∀ k, (Value.slice ah B5.length ch).ownBlock = some k → (Value.slice (some ⟨u3.heap.size, 0, none⟩) 0 0).ownBlock ≠ some k) := fun k hk e => by have e' : some u3.heap.size = some k := e; injection e' with e'; have := HZ7.out k hk; omega
  have HHa7 := Lib.hid (HH7.out.grew hg hn1)
  have HNa7 : Hid (∀ k, (Value.slice ah B5.length ch).ownBlock = some k → v71.ownBlock ≠ some k) := Lib.hid (fun k hk => hg.ne (hn1 k hk) (Nat.lt_of_lt_of_le (HZ7.out k hk) HE70.out.size))
  have HE71 := Lib.hid (HE70.out.trans (hg.below (fun r hr => HN7.out.base r hr) HE70.out.size))
  have HO71 := Lib.hid ho
  obtain ⟨a71, c71, rfl, -, -⟩ := ho.form
  clear ho hg hn1 HH7 HN7 HE70
  go_wp2_with fail
  refine (KE3.out _).mono ?_
  rintro e m72 ⟨v72, rfl, ho, hb⟩
  obtain ⟨a72, c72, rfl, -, -⟩ := ho.form
  have HE72 := Lib.hid (HE71.out.trans (hb.mono HE71.out.size))
  have HO72 := Lib.hid (ho.mono HE71.out.size)
  have HO73 := Lib.hid (HO71.out.below hb)
  have HHb7 := Lib.hid (HHa7.out.below hb)
  clear ho hb KE3 HO71 HE71 HHa7
  go_wp2_with ((with_reducible show wpList _ _ _ (({ dst := some 129, op := _, type := _, pos := _, after := _, guard := _ } : Oper) :: _) _ _); go_must (refine wpList_appB rfl (.tmp 126) (.tmp 128) rfl u3.heap.size _ B5 B3 _ _ rfl HO73.out rfl HO72.out.rdOf HO72.out.nilCap (by rw [HL5.out, HL3.out]; decide) HE72.out.size ?_))
  intro v74 m74 ho hg
  rw [H6.out] at ho
  have HHc7 := Lib.hid (HHb7.out.grew hg HNa7.out)
  have HE74 := Lib.hid (HE72.out.trans (hg.below (fun r hr => HO73.out.base r hr) HE72.out.size))
  obtain ⟨a74, c74, rfl, -, -⟩ := ho.form
  have HB74 := Lib.hid (HBb.out.call HE74.out)
  have hc := Tagged_any ⟨#[112, 97, 107, 101]⟩ a74 c74 B6 m74 HB74.out.tab ho.rdOf ho.caps.1 ho.caps.2 (by decide) (by rw [HL6.out]; omega)
  rw [HX1.out] at hc
  have HC7 := Lib.hid hc
  clear ho hg hc HO73 HO72 HE72 HE74 HHb7 HNa7 HBb
  generalize B6.length = lq7 at *
  go_wp2_with (go_at_call 19; refine HC7.out.mono ?_; rintro e m75 ⟨rfl, hb⟩; refine Hid.out ?_)
  refine Lib.hid ?_
  have HB75 := Lib.hid (HB74.out.call hb)
  have HHd7 := Lib.hid (HHc7.out.below hb)
  clear hb HB74 HC7 HHc7 HZ7
  go_wp2_with (refine wpList_storeA rfl 31 (.tmp 28) (.tmp 130) rfl m75.heap.size (bvA X) rfl rfl 31 _ (BB.new m75 _ zK) (digP_sz _ HLX.out) (key_old _ HLX.out) (bvA_one _) ?_)
  intro m76 hst hgr
  have HB76 := Lib.hid (HB75.out.stored 31 X hst hgr)
  have HOh := Lib.hid (HHd7.out.below (dig_stored hst hgr).2)
  clear hst hgr HB75 HHd7
  generalize m75.heap.size = gd7 at *
  go_wp2_with ((with_reducible show wpList _ _ _ (({ dst := some 133, op := _, type := _, pos := _, after := _, guard := _ } : Oper) :: _) _ _); refine Hid.out ?_)
  refine Lib.hid ?_
  obtain ⟨n8, hn8⟩ : ∃ n8, n8 = m76.alloc (.cells #[] 5) := ⟨_, rfl⟩
  rw [← hn8]
  have HN8 : Hid (OwnB m76.heap.size n8 (.slice (some ⟨m76.heap.size, 0, none⟩) 0 0) []) := Lib.hid (hn8 ▸ OwnB.empty (Nat.le_refl _))
  have hz8 : Below m76.heap.size m76 n8 := hn8 ▸ (Below.refl _ _).alloc (Nat.le_refl _) _
  have HE80 := Lib.hid hz8
  have HH8 := Lib.hid (HOh.out.below hz8)
  have HZ8 : Hid (∀ r, (Value.slice ah B5.length ch).ownBlock = some r → r < m76.heap.size) := Lib.hid (fun r hr => (World.ownsRow.lt HOh.out r hr).2)
  clear hn8 hz8 HOh
  refine wpList_appB rfl (.tmp 131) (.tmp 132) rfl m76.heap.size _ [] B5 ah ch rfl HN8.out rfl HH8.out.rdOf HH8.out.nilCap (by rw [HL5.out]; decide) HE80.out.size ?_
  intro v81 m81 ho hg
  rw [List.nil_append] at ho
  have hn1 : (∀ k, (Value.slice ah B5.length ch).ownBlock = some k → (Value.slice (some ⟨m76.heap.size, 0, none⟩) 0 0).ownBlock ≠ some k) := fun k hk e => by have e' : some m76.heap.size = some k := e; injection e' with e'; have := HZ8.out k hk; omega
  have HHa8 := Lib.hid (HH8.out.grew hg hn1)
  have HNa8 : Hid (∀ k, (Value.slice ah B5.length ch).ownBlock = some k → v81.ownBlock ≠ some k) := Lib.hid (fun k hk => hg.ne (hn1 k hk) (Nat.lt_of_lt_of_le (HZ8.out k hk) HE80.out.size))
  have HE81 := Lib.hid (HE80.out.trans (hg.below (fun r hr => HN8.out.base r hr) HE80.out.size))
  have HO81 := Lib.hid ho
  obtain ⟨a81, c81, rfl, -, -⟩ := ho.form
  clear ho hg hn1 HH8 HN8 HE80
  go_wp2_with fail
  refine (KE4.out _).mono ?_
  rintro e m82 ⟨v82, rfl, ho, hb⟩
  obtain ⟨a82, c82, rfl, -, -⟩ := ho.form
  have HE82 := Lib.hid (HE81.out.trans (hb.mono HE81.out.size))
  have HO82 := Lib.hid (ho.mono HE81.out.size)
  have HO83 := Lib.hid (HO81.out.below hb)
  have HHb8 := Lib.hid (HHa8.out.below hb)
  clear ho hb KE4 HO81 HE81 HHa8
  go_wp2_with ((with_reducible show wpList _ _ _ (({ dst := some 136, op := _, type := _, pos := _, after := _, guard := _ } : Oper) :: _) _ _); go_must (refine wpList_appB rfl (.tmp 133) (.tmp 135) rfl m76.heap.size _ B5 B4 _ _ rfl HO83.out rfl HO82.out.rdOf HO82.out.nilCap (by rw [HL5.out, HL4.out]; decide) HE82.out.size ?_))
  intro v84 m84 ho hg
  rw [H7.out] at ho
  have HHc8 := Lib.hid (HHb8.out.grew hg HNa8.out)
  have HE84 := Lib.hid (HE82.out.trans (hg.below (fun r hr => HO83.out.base r hr) HE82.out.size))
  obtain ⟨a84, c84, rfl, -, -⟩ := ho.form
  have HB84 := Lib.hid (HB76.out.call HE84.out)
  have hc := Tagged_any ⟨#[112, 97, 107, 101]⟩ a84 c84 B7 m84 HB84.out.tab ho.rdOf ho.caps.1 ho.caps.2 (by decide) (by rw [HL7.out]; omega)
  rw [HX2.out] at hc
  have HC8 := Lib.hid hc
  clear ho hg hc HO83 HO82 HE82 HE84 HHb8 HNa8 HB76
  generalize B7.length = lq8 at *
  go_wp2_with (go_at_call 19; refine HC8.out.mono ?_; rintro e m85 ⟨rfl, hb⟩; refine Hid.out ?_)
  refine Lib.hid ?_
  have HB85 := Lib.hid (HB84.out.call hb)
  have HHd8 := Lib.hid (HHc8.out.below hb)
  clear hb HB84 HC8 HHc8 HZ8
  go_wp2_with (refine wpList_storeA rfl 31 (.tmp 29) (.tmp 137) rfl m85.heap.size (bvA Y) rfl rfl 31 _ (BB.new m85 _ zK) (digP_sz _ HLY.out) (key_old _ HLY.out) (bvA_one _) ?_)
  intro m86 hst hgr
  have HB86 := Lib.hid (HB85.out.stored 31 Y hst hgr)
  have HOh := Lib.hid (HHd8.out.below (dig_stored hst hgr).2)
  clear hst hgr HB85 HHd8
  generalize m85.heap.size = gd8 at *
  clear HOh
  have eXk := fun W => equal_keyS X HLX.out W
  rcases kb with _ | _
  · have hzt : ¬ ((z : Int) = (t : Int)) := fun e => by rw [e, beq_self_eq_true] at q1; cases q1
    go_wp2_with (first
      | (refine wpList_load_row rfl 32 (.tmp 15) rfl gk rfl _ (bvA X) (0, 0) _ (HB86.out.blk gk 32 X (by simp)) key_und rfl (key_sz _ HLX.out) ?_)
      | (refine wpList_load_row rfl 31 (.tmp 28) rfl gd7 rfl _ (bvA X) (0, 0) _ (HB86.out.blk gd7 31 X (by simp)) digP_und rfl (digP_sz _ HLX.out) ?_)
      | (refine wpList_load_rowG (by rfl) 32 (.tmp 17) rfl gl rfl _ (bvA Y) (0, 0) _ (HB86.out.blk gl 32 Y (by simp)) key_und rfl (key_sz _ HLY.out) ?_)
      | (refine wpList_load_rowG (by rfl) 31 (.tmp 29) rfl gd8 rfl _ (bvA Y) (0, 0) _ (HB86.out.blk gd8 31 Y (by simp)) digP_und rfl (digP_sz _ HLY.out) ?_))
    go_ret
    exact ⟨rfl, HB86.out.below⟩
  · obtain rfl := HQQ.out rfl
    obtain rfl : z = t := by have := beq_iff_eq.1 q1; omega
    go_wp2_with (first
      | (refine wpList_load_row rfl 32 (.tmp 15) rfl gk rfl _ (bvA X) (0, 0) _ (HB86.out.blk gk 32 X (by simp)) key_und rfl (key_sz _ HLX.out) ?_)
      | (refine wpList_load_row rfl 31 (.tmp 28) rfl gd7 rfl _ (bvA X) (0, 0) _ (HB86.out.blk gd7 31 X (by simp)) digP_und rfl (digP_sz _ HLX.out) ?_)
      | (refine wpList_load_rowG (by rfl) 32 (.tmp 17) rfl gl rfl _ (bvA X) (0, 0) _ (HB86.out.blk gl 32 X (by simp)) key_und rfl (key_sz _ HLX.out) ?_)
      | (refine wpList_load_rowG (by rfl) 31 (.tmp 29) rfl gd8 rfl _ (bvA X) (0, 0) _ (HB86.out.blk gd8 31 X (by simp)) digP_und rfl (digP_sz _ HLX.out) ?_)
      | (refine wpList_load_rowG (by rfl) 32 (.tmp 15) rfl gk rfl _ (bvA X) (0, 0) _ (HB86.out.blk gk 32 X (by simp)) key_und rfl (key_sz _ HLX.out) ?_))
    go_ret
    exact ⟨rfl, HB86.out.below⟩
end Go.Proofs.YtkpecfhcdechmaaDoor
