/-
  The statements of proxy: what is locked is opened; factors; products.
-/
import Derived.Test.YteigldfdaciopaaDoorLm
namespace Go.Proofs.YteigldfdaciopaaDoor
open Go.RowKit
set_option linter.unusedVariables false
set_option linter.unusedSimpArgs false

set_option maxRecDepth 100000 in
set_option maxHeartbeats 1600000 in
theorem opens11_walk (n : Int) (h_n : -9223372036854775808 ≤ n) (k_n : n < 9223372036854775808) (K S : List UInt8) (hK : K.length = 32) (hS : S.length = 32) (w : World) (hT : Tab w) :
    Calls Tryd.prog 3 #[.int .i64 n, .agg (bvA K), .agg (bvA S)] w fun e w' => e = .returned (.bool true) ∧ Below w.heap.size w w' := by
  have KS := Lib.hid (fun W hT => sane11_any W hT)
  have KYn := Lib.hid (fun W => rKey11_any n h_n k_n W)
  have hx := kyQ_pk n
  obtain ⟨x, hx0⟩ := exEq (kyQ n)
  rw [hx0] at KYn hx
  clear hx0 h_n k_n
  have KB := Lib.hid (fun W => gBase_okP x hx.2 W)
  have q1 := lk_isA (x := x) S
  have q2 := lk_isB S
  have HLX : Hid ((lkX S K).length = 32) := Lib.hid (lkX_len S hK)
  have KL := Lib.hid (fun W hT => Lock_ok (4 ^ x % 4611686018427377339) K S (pow_isP El4 x) hK hS W hT)
  have KO := Lib.hid (fun W hT => Open_ok x _ _ (lkX S K) hx q1 q2 HLX.out W hT)
  rw [lk_open hx S hK] at KO
  have KC := Lib.hid (fun W => pCheck11_any ((lkA (4 ^ x % 4611686018427377339) (lkR S) : Nat) : Int) ((lkB (lkR S) (lkM S) : Nat) : Int) (lkX S K) HLX.out W)
  rw [ckR_ok q1 q2] at KC
  have HLK := Lib.hid hK
  have HLS := Lib.hid hS
  have eK := fun W => equal_keyS K hK W
  obtain ⟨X, hX⟩ := exEq (lkX S K)
  rw [hX] at KL KO KC HLX
  obtain ⟨A, hA⟩ := exEq (lkA (4 ^ x % 4611686018427377339) (lkR S))
  rw [hA] at KL KO KC
  obtain ⟨B, hB⟩ := exEq (lkB (lkR S) (lkM S))
  rw [hB] at KL KO KC
  obtain ⟨y, hy⟩ := exEq (4 ^ x % 4611686018427377339)
  rw [hy] at KB KL
  clear hX hA hB hy q1 q2 hK hS hx
  have hzc := fun W => zero_cap W
  have hzk := fun W => zero_ky W
  have HLZ := Lib.hid kZ_len
  have HS0 := Lib.hid (PX.start hT)
  have HS1 := Lib.hid (HS0.out.add 23 (bvA K) (w.heap.size) (by simp))
  have HS2 := Lib.hid (HS1.out.add 23 (bvA S) (w.heap.size + 1) (by simp))
  obtain ⟨wb, hwb⟩ : ∃ wb, wb = ((w.alloc (.cells (bvA K) 23)).alloc (.cells (bvA S) 23)) := ⟨_, rfl⟩
  rw [← hwb] at HS2
  have HB0 := HS2
  clear hT HS0 HS1 HS2
  go_enter Tryd.func3, Tryd.ntmps3
  go_wp2_with fail
  rw [← hwb]
  clear hwb
  with_reducible refine (KS.out _ HB0.out.tab).mono ?_
  rintro e w1 ⟨rfl, hb⟩
  have HB1 := Lib.hid (HB0.out.call hb)
  clear hb HB0
  go_wp2_with fail
  with_reducible refine (KYn.out _).mono ?_
  rintro e wo ⟨rfl, hwo⟩
  rw [hwo]
  clear hwo wo
  go_wp2_with fail
  with_reducible refine (KB.out _).mono ?_
  rintro e w2 ⟨rfl, hb⟩
  have HB2 := Lib.hid (HB1.out.call hb)
  clear hb HB1
  go_wp2_with (first
    | (refine wpList_load_row rfl 23 (.tmp 4) rfl w.heap.size rfl _ (bvA K) (0, 0) _ (HB2.out.blk w.heap.size 23 (bvA K) (List.Mem.tail _ (List.Mem.head _))) key_und rfl (key_sz _ HLK.out) ?_)
    | (refine wpList_load_row rfl 23 (.tmp 5) rfl (w.heap.size + 1) rfl _ (bvA S) (0, 0) _ (HB2.out.blk (w.heap.size + 1) 23 (bvA S) (List.Mem.head _)) key_und rfl (key_sz _ HLS.out) ?_))
  with_reducible refine (KL.out _ HB2.out.tab).mono ?_
  rintro e w3 ⟨rfl, hb⟩
  have HB3 := Lib.hid (HB2.out.call hb)
  clear hb HB2
  go_wp2_with (refine wpList_storeA rfl 30 (.tmp 10) (.tmp 28) rfl w3.heap.size (capA (A : Int) (B : Int) X) rfl rfl 30 _ (CB.new w3 _ (capA 0 0 kZ)) (cap_sz _ _ _ HLX.out) (cap_old _ _ _ _ _ _ kZ_len HLX.out) (capA_one _ _ _) ?_)
  intro w4 hst hgr
  have HB4 := Lib.hid (HB3.out.stored 30 _ (capA (A : Int) (B : Int) X) hst hgr)
  clear hst hgr HB3
  generalize w3.heap.size = gc at *
  go_wp2_with (refine wpList_load_row rfl 30 (.tmp 10) rfl gc rfl _ (capA (A : Int) (B : Int) X) (0, 0) _ (HB4.out.blk gc 30 (capA (A : Int) (B : Int) X) (List.Mem.head _)) cap_und rfl (cap_sz _ _ _ HLX.out) ?_)
  with_reducible refine (KO.out _ HB4.out.tab).mono ?_
  rintro e w5 ⟨rfl, hb⟩
  have HB5 := Lib.hid (HB4.out.call hb)
  clear hb HB4
  go_wp2_with (refine wpList_storeA rfl 23 (.tmp 12) (.tmp 34) rfl w5.heap.size (bvA K) rfl rfl 23 _ (CB.new w5 _ (bvA kZ)) (key_sz _ HLK.out) (key_old _ HLK.out) (bvA_one _) ?_)
  intro w6 hst hgr
  have HB6 := Lib.hid (HB5.out.stored 23 _ (bvA K) hst hgr)
  clear hst hgr HB5
  generalize w5.heap.size = gz at *
  go_wp2_with (first
    | (refine wpList_load_rowG (by rfl) 23 (.tmp 12) rfl gz rfl _ (bvA K) (0, 0) _ (HB6.out.blk gz 23 (bvA K) (List.Mem.head _)) key_und rfl (key_sz _ HLK.out) ?_)
    | (refine wpList_load_rowG (by rfl) 23 (.tmp 4) rfl w.heap.size rfl _ (bvA K) (0, 0) _ (HB6.out.blk w.heap.size 23 (bvA K) (List.Mem.tail _ (List.Mem.tail _ (List.Mem.tail _ (List.Mem.head _))))) key_und rfl (key_sz _ HLK.out) ?_)
    | (refine wpList_load_rowG (by rfl) 30 (.tmp 10) rfl gc rfl _ (capA (A : Int) (B : Int) X) (0, 0) _ (HB6.out.blk gc 30 (capA (A : Int) (B : Int) X) (List.Mem.tail _ (List.Mem.head _))) cap_und rfl (cap_sz _ _ _ HLX.out) ?_))
  with_reducible refine (KC.out _).mono ?_
  rintro e w7 ⟨rfl, hb⟩
  have HB7 := Lib.hid (HB6.out.call hb)
  clear hb HB6
  go_wp2_with fail
  go_ret
  exact ⟨rfl, HB7.out.below⟩

set_option maxRecDepth 100000 in
set_option maxHeartbeats 1600000 in
theorem turned11_walk (a b c : Int) (h_a : -9223372036854775808 ≤ a) (k_a : a < 9223372036854775808) (h_b : -9223372036854775808 ≤ b) (k_b : b < 9223372036854775808) (h_c : -9223372036854775808 ≤ c) (k_c : c < 9223372036854775808) (K S : List UInt8) (hK : K.length = 32) (hS : S.length = 32) (w : World) (hT : Tab w) :
    Calls Tryd.prog 4 #[.int .i64 a, .int .i64 b, .int .i64 c, .agg (bvA K), .agg (bvA S)] w fun e w' => e = .returned (.bool true) ∧ Below w.heap.size w w' := by
  have KS := Lib.hid (fun W hT => sane11_any W hT)
  have KYa := Lib.hid (fun W => rKey11_any a h_a k_a W)
  have hx := kyQ_pk a
  obtain ⟨x, hx0⟩ := exEq (kyQ a)
  rw [hx0] at KYa hx
  clear hx0 h_a k_a
  have KYb := Lib.hid (fun W => rKey11_any b h_b k_b W)
  have hy := kyQ_pk b
  obtain ⟨y, hy0⟩ := exEq (kyQ b)
  rw [hy0] at KYb hy
  clear hy0 h_b k_b
  have KYc := Lib.hid (fun W => rKey11_any c h_c k_c W)
  have hz := kyQ_pk c
  obtain ⟨z, hz0⟩ := exEq (kyQ c)
  rw [hz0] at KYc hz
  clear hz0 h_c k_c
  have KB := Lib.hid (fun W => gBase_okP x hx.2 W)
  have q1 := lk_isA (x := x) S
  have q2 := lk_isB S
  have qe := lk_elA (x := x) S
  have HLX : Hid ((lkX S K).length = 32) := Lib.hid (lkX_len S hK)
  have KL := Lib.hid (fun W hT => Lock_ok (4 ^ x % 4611686018427377339) K S (pow_isP El4 x) hK hS W hT)
  have KFm := Lib.hid (fun W hT => Factor_ok x y hx hy W hT)
  have KFn := Lib.hid (fun W hT => Factor_ok y z hy hz W hT)
  have KFo := Lib.hid (fun W hT => Factor_ok x z hx hz W hT)
  have KTm := Lib.hid (fun W hT => Turn_ok (fcS x y) _ _ (lkX S K) (fcS_key hx hy) q1 q2 HLX.out W hT)
  have KTn := Lib.hid (fun W hT => Turn_ok (fcS y z) (lkA (4 ^ x % 4611686018427377339) (lkR S) ^ fcS x y % 4611686018427377339) _ (lkX S K) (fcS_key hy hz) (pow_isP qe _) q2 HLX.out W hT)
  rw [turn_fc qe hy] at KTn
  have KTo := Lib.hid (fun W hT => Turn_ok (fcS x z) _ _ (lkX S K) (fcS_key hx hz) q1 q2 HLX.out W hT)
  have KOy := Lib.hid (fun W hT => Open_ok y (lkA (4 ^ x % 4611686018427377339) (lkR S) ^ fcS x y % 4611686018427377339) _ (lkX S K) hy (pow_isP qe _) q2 HLX.out W hT)
  rw [opM_turn _ qe hx hy, lk_open hx S hK] at KOy
  have KOz := Lib.hid (fun W hT => Open_ok z (lkA (4 ^ x % 4611686018427377339) (lkR S) ^ fcS x z % 4611686018427377339) _ (lkX S K) hz (pow_isP qe _) q2 HLX.out W hT)
  rw [opM_turn _ qe hx hz, lk_open hx S hK] at KOz
  have HLK := Lib.hid hK
  have HLS := Lib.hid hS
  have eK := fun W => equal_keyS K hK W
  obtain ⟨X, hX⟩ := exEq (lkX S K)
  rw [hX] at KL KTm KTn KTo KOy KOz HLX
  obtain ⟨A1, hA1⟩ := exEq (lkA (4 ^ x % 4611686018427377339) (lkR S) ^ fcS x y % 4611686018427377339)
  rw [hA1] at KTm KTn KOy
  obtain ⟨A2, hA2⟩ := exEq (lkA (4 ^ x % 4611686018427377339) (lkR S) ^ fcS x z % 4611686018427377339)
  rw [hA2] at KTn KTo KOz
  obtain ⟨A, hA⟩ := exEq (lkA (4 ^ x % 4611686018427377339) (lkR S))
  rw [hA] at KL KTm KTo
  obtain ⟨B, hB⟩ := exEq (lkB (lkR S) (lkM S))
  rw [hB] at KL KTm KTn KTo KOy KOz
  obtain ⟨u, hu⟩ := exEq (4 ^ x % 4611686018427377339)
  rw [hu] at KB KL
  obtain ⟨m, hm⟩ := exEq (fcS x y)
  rw [hm] at KFm KTm
  obtain ⟨n, hn⟩ := exEq (fcS y z)
  rw [hn] at KFn KTn
  obtain ⟨r, hr⟩ := exEq (fcS x z)
  rw [hr] at KFo KTo
  have eX := fun W => equal_keyM X HLX.out W
  have EC := Lib.hid (fun W => equal_capS (A2 : Int) (B : Int) X HLX.out W)
  clear hX hA1 hA2 hA hB hu hm hn hr q1 q2 qe hK hS hx hy hz
  have hzc := fun W => zero_cap W
  have hzk := fun W => zero_ky W
  have HLZ := Lib.hid kZ_len
  have HS0 := Lib.hid (PX.start hT)
  have HS1 := Lib.hid (HS0.out.add 23 (bvA K) (w.heap.size) (by simp))
  have HS2 := Lib.hid (HS1.out.add 23 (bvA S) (w.heap.size + 1) (by simp))
  obtain ⟨wb, hwb⟩ : ∃ wb, wb = ((w.alloc (.cells (bvA K) 23)).alloc (.cells (bvA S) 23)) := ⟨_, rfl⟩
  rw [← hwb] at HS2
  have HB0 := HS2
  clear hT HS0 HS1 HS2
  go_enter Tryd.func4, Tryd.ntmps4
  go_wp2_with fail
  rw [← hwb]
  clear hwb
  with_reducible refine (KS.out _ HB0.out.tab).mono ?_
  rintro e w1 ⟨rfl, hb⟩
  have HB1 := Lib.hid (HB0.out.call hb)
  clear hb HB0
  go_wp2_with fail
  with_reducible refine (KYa.out _).mono ?_
  rintro e wo ⟨rfl, hwo⟩
  rw [hwo]
  clear hwo wo
  go_wp2_with fail
  with_reducible refine (KYb.out _).mono ?_
  rintro e wo ⟨rfl, hwo⟩
  rw [hwo]
  clear hwo wo
  go_wp2_with fail
  with_reducible refine (KYc.out _).mono ?_
  rintro e wo ⟨rfl, hwo⟩
  rw [hwo]
  clear hwo wo
  go_wp2_with fail
  with_reducible refine (KB.out _).mono ?_
  rintro e w2 ⟨rfl, hb⟩
  have HB2 := Lib.hid (HB1.out.call hb)
  clear hb HB1
  go_wp2_with (first
    | (refine wpList_load_row rfl 23 (.tmp 8) rfl w.heap.size rfl _ (bvA K) (0, 0) _ (HB2.out.blk w.heap.size 23 (bvA K) (List.Mem.tail _ (List.Mem.head _))) key_und rfl (key_sz _ HLK.out) ?_)
    | (refine wpList_load_row rfl 23 (.tmp 9) rfl (w.heap.size + 1) rfl _ (bvA S) (0, 0) _ (HB2.out.blk (w.heap.size + 1) 23 (bvA S) (List.Mem.head _)) key_und rfl (key_sz _ HLS.out) ?_))
  with_reducible refine (KL.out _ HB2.out.tab).mono ?_
  rintro e w3 ⟨rfl, hb⟩
  have HB3 := Lib.hid (HB2.out.call hb)
  clear hb HB2
  go_wp2_with (refine wpList_storeA rfl 30 (.tmp 16) (.tmp 52) rfl w3.heap.size (capA (A : Int) (B : Int) X) rfl rfl 30 _ (CB.new w3 _ (capA 0 0 kZ)) (cap_sz _ _ _ HLX.out) (cap_old _ _ _ _ _ _ kZ_len HLX.out) (capA_one _ _ _) ?_)
  intro w4 hst hgr
  have HB4 := Lib.hid (HB3.out.stored 30 _ (capA (A : Int) (B : Int) X) hst hgr)
  clear hst hgr HB3
  generalize w3.heap.size = gp at *
  go_wp2_with fail
  with_reducible refine (KFm.out _ HB4.out.tab).mono ?_
  rintro e w5 ⟨rfl, hb⟩
  have HB5 := Lib.hid (HB4.out.call hb)
  clear hb HB4
  go_wp2_with fail
  with_reducible refine (KFn.out _ HB5.out.tab).mono ?_
  rintro e w6 ⟨rfl, hb⟩
  have HB6 := Lib.hid (HB5.out.call hb)
  clear hb HB5
  go_wp2_with fail
  with_reducible refine (KFo.out _ HB6.out.tab).mono ?_
  rintro e w7 ⟨rfl, hb⟩
  have HB7 := Lib.hid (HB6.out.call hb)
  clear hb HB6
  go_wp2_with (refine wpList_load_row rfl 30 (.tmp 16) rfl gp rfl _ (capA (A : Int) (B : Int) X) (0, 0) _ (HB7.out.blk gp 30 (capA (A : Int) (B : Int) X) (List.Mem.head _)) cap_und rfl (cap_sz _ _ _ HLX.out) ?_)
  with_reducible refine (KTm.out _ HB7.out.tab).mono ?_
  rintro e w8 ⟨rfl, hb⟩
  have HB8 := Lib.hid (HB7.out.call hb)
  clear hb HB7
  go_wp2_with (refine wpList_storeA rfl 30 (.tmp 24) (.tmp 76) rfl w8.heap.size (capA (A1 : Int) (B : Int) X) rfl rfl 30 _ (CB.new w8 _ (capA 0 0 kZ)) (cap_sz _ _ _ HLX.out) (cap_old _ _ _ _ _ _ kZ_len HLX.out) (capA_one _ _ _) ?_)
  intro w9 hst hgr
  have HB9 := Lib.hid (HB8.out.stored 30 _ (capA (A1 : Int) (B : Int) X) hst hgr)
  clear hst hgr HB8
  generalize w8.heap.size = gq at *
  go_wp2_with (refine wpList_load_row rfl 30 (.tmp 24) rfl gq rfl _ (capA (A1 : Int) (B : Int) X) (0, 0) _ (HB9.out.blk gq 30 (capA (A1 : Int) (B : Int) X) (List.Mem.head _)) cap_und rfl (cap_sz _ _ _ HLX.out) ?_)
  with_reducible refine (KTn.out _ HB9.out.tab).mono ?_
  rintro e w10 ⟨rfl, hb⟩
  have HB10 := Lib.hid (HB9.out.call hb)
  clear hb HB9
  go_wp2_with (refine wpList_storeA rfl 30 (.tmp 26) (.tmp 82) rfl w10.heap.size (capA (A2 : Int) (B : Int) X) rfl rfl 30 _ (CB.new w10 _ (capA 0 0 kZ)) (cap_sz _ _ _ HLX.out) (cap_old _ _ _ _ _ _ kZ_len HLX.out) (capA_one _ _ _) ?_)
  intro w11 hst hgr
  have HB11 := Lib.hid (HB10.out.stored 30 _ (capA (A2 : Int) (B : Int) X) hst hgr)
  clear hst hgr HB10
  generalize w10.heap.size = gr1 at *
  go_wp2_with (refine wpList_load_row rfl 30 (.tmp 16) rfl gp rfl _ (capA (A : Int) (B : Int) X) (0, 0) _ (HB11.out.blk gp 30 (capA (A : Int) (B : Int) X) (List.Mem.tail _ (List.Mem.tail _ (List.Mem.head _)))) cap_und rfl (cap_sz _ _ _ HLX.out) ?_)
  with_reducible refine (KTo.out _ HB11.out.tab).mono ?_
  rintro e w12 ⟨rfl, hb⟩
  have HB12 := Lib.hid (HB11.out.call hb)
  clear hb HB11
  go_wp2_with (refine wpList_storeA rfl 30 (.tmp 28) (.tmp 88) rfl w12.heap.size (capA (A2 : Int) (B : Int) X) rfl rfl 30 _ (CB.new w12 _ (capA 0 0 kZ)) (cap_sz _ _ _ HLX.out) (cap_old _ _ _ _ _ _ kZ_len HLX.out) (capA_one _ _ _) ?_)
  intro w13 hst hgr
  have HB13 := Lib.hid (HB12.out.stored 30 _ (capA (A2 : Int) (B : Int) X) hst hgr)
  clear hst hgr HB12
  generalize w12.heap.size = gs1 at *
  go_wp2_with (refine wpList_load_row rfl 30 (.tmp 24) rfl gq rfl _ (capA (A1 : Int) (B : Int) X) (0, 0) _ (HB13.out.blk gq 30 (capA (A1 : Int) (B : Int) X) (List.Mem.tail _ (List.Mem.tail _ (List.Mem.head _)))) cap_und rfl (cap_sz _ _ _ HLX.out) ?_)
  with_reducible refine (KOy.out _ HB13.out.tab).mono ?_
  rintro e w14 ⟨rfl, hb⟩
  have HB14 := Lib.hid (HB13.out.call hb)
  clear hb HB13
  go_wp2_with (refine wpList_storeA rfl 23 (.tmp 30) (.tmp 94) rfl w14.heap.size (bvA K) rfl rfl 23 _ (CB.new w14 _ (bvA kZ)) (key_sz _ HLK.out) (key_old _ HLK.out) (bvA_one _) ?_)
  intro w15 hst hgr
  have HB15 := Lib.hid (HB14.out.stored 23 _ (bvA K) hst hgr)
  clear hst hgr HB14
  generalize w14.heap.size = gu1 at *
  go_wp2_with (refine wpList_load_row rfl 30 (.tmp 26) rfl gr1 rfl _ (capA (A2 : Int) (B : Int) X) (0, 0) _ (HB15.out.blk gr1 30 (capA (A2 : Int) (B : Int) X) (List.Mem.tail _ (List.Mem.tail _ (List.Mem.head _)))) cap_und rfl (cap_sz _ _ _ HLX.out) ?_)
  with_reducible refine (KOz.out _ HB15.out.tab).mono ?_
  rintro e w16 ⟨rfl, hb⟩
  have HB16 := Lib.hid (HB15.out.call hb)
  clear hb HB15
  go_wp2_with (refine wpList_storeA rfl 23 (.tmp 32) (.tmp 100) rfl w16.heap.size (bvA K) rfl rfl 23 _ (CB.new w16 _ (bvA kZ)) (key_sz _ HLK.out) (key_old _ HLK.out) (bvA_one _) ?_)
  intro w17 hst hgr
  have HB17 := Lib.hid (HB16.out.stored 23 _ (bvA K) hst hgr)
  clear hst hgr HB16
  generalize w16.heap.size = gv1 at *
  have d_q1 := ((HB17.out.blk gq 30 (capA (A1 : Int) (B : Int) X) (List.Mem.tail _ (List.Mem.tail _ (List.Mem.tail _ (List.Mem.tail _ (List.Mem.head _))))))).B
  have d_p1 := ((HB17.out.blk gp 30 (capA (A : Int) (B : Int) X) (List.Mem.tail _ (List.Mem.tail _ (List.Mem.tail _ (List.Mem.tail _ (List.Mem.tail _ (List.Mem.head _)))))))).B
  go_wp2_with (first
    | (refine wpList_load_row rfl 23 (.tmp 30) rfl gu1 rfl _ (bvA K) (0, 0) _ (HB17.out.blk gu1 23 (bvA K) (List.Mem.tail _ (List.Mem.head _))) key_und rfl (key_sz _ HLK.out) ?_)
    | (refine wpList_load_row rfl 23 (.tmp 8) rfl w.heap.size rfl _ (bvA K) (0, 0) _ (HB17.out.blk w.heap.size 23 (bvA K) (List.Mem.tail _ (List.Mem.tail _ (List.Mem.tail _ (List.Mem.tail _ (List.Mem.tail _ (List.Mem.tail _ (List.Mem.tail _ (List.Mem.head _))))))))) key_und rfl (key_sz _ HLK.out) ?_)
    | (refine wpList_load_rowG (by rfl) 23 (.tmp 32) rfl gv1 rfl _ (bvA K) (0, 0) _ (HB17.out.blk gv1 23 (bvA K) (List.Mem.head _)) key_und rfl (key_sz _ HLK.out) ?_)
    | (refine wpList_load_rowG (by rfl) 23 (.tmp 8) rfl w.heap.size rfl _ (bvA K) (0, 0) _ (HB17.out.blk w.heap.size 23 (bvA K) (List.Mem.tail _ (List.Mem.tail _ (List.Mem.tail _ (List.Mem.tail _ (List.Mem.tail _ (List.Mem.tail _ (List.Mem.tail _ (List.Mem.head _))))))))) key_und rfl (key_sz _ HLK.out) ?_)
    | (refine wpList_load_rowG (by rfl) 30 (.tmp 26) rfl gr1 rfl _ (capA (A2 : Int) (B : Int) X) (0, 0) _ (HB17.out.blk gr1 30 (capA (A2 : Int) (B : Int) X) (List.Mem.tail _ (List.Mem.tail _ (List.Mem.tail _ (List.Mem.head _))))) cap_und rfl (cap_sz _ _ _ HLX.out) ?_)
    | (refine wpList_load_rowG (by rfl) 30 (.tmp 28) rfl gs1 rfl _ (capA (A2 : Int) (B : Int) X) (0, 0) _ (HB17.out.blk gs1 30 (capA (A2 : Int) (B : Int) X) (List.Mem.tail _ (List.Mem.tail _ (List.Mem.head _)))) cap_und rfl (cap_sz _ _ _ HLX.out) ?_)
    | (refine wpList_run (by rfl) (.bool true) (run_eqC (.tmp 149) (.tmp 150) (capA (A2 : Int) (B : Int) X) (capA (A2 : Int) (B : Int) X) true rfl rfl rfl (EC.out _)) ?_)
    | (refine wpList_load_midG (by rfl) 23 (.tmp 161) rfl gq 2 rfl (X.map bv) _ ((HB17.out.blk gq 30 (capA (A1 : Int) (B : Int) X) (List.Mem.tail _ (List.Mem.tail _ (List.Mem.tail _ (List.Mem.tail _ (List.Mem.head _)))))).pad) key_und rfl (key_szl _ HLX.out) ?_)
    | (refine wpList_load_midG (by rfl) 23 (.tmp 163) rfl gp 2 rfl (X.map bv) _ ((HB17.out.blk gp 30 (capA (A : Int) (B : Int) X) (List.Mem.tail _ (List.Mem.tail _ (List.Mem.tail _ (List.Mem.tail _ (List.Mem.tail _ (List.Mem.head _))))))).pad) key_und rfl (key_szl _ HLX.out) ?_))
  go_ret
  exact ⟨rfl, HB17.out.below⟩

set_option maxRecDepth 100000 in
set_option maxHeartbeats 1600000 in
theorem factors11_walk (a b c : Int) (h_a : -9223372036854775808 ≤ a) (k_a : a < 9223372036854775808) (h_b : -9223372036854775808 ≤ b) (k_b : b < 9223372036854775808) (h_c : -9223372036854775808 ≤ c) (k_c : c < 9223372036854775808) (w : World) (hT : Tab w) :
    Calls Tryd.prog 5 #[.int .i64 a, .int .i64 b, .int .i64 c] w fun e w' => e = .returned (.bool true) ∧ Below w.heap.size w w' := by
  have KS := Lib.hid (fun W hT => sane11_any W hT)
  have KYa := Lib.hid (fun W => rKey11_any a h_a k_a W)
  have hx := kyQ_pk a
  obtain ⟨x, hx0⟩ := exEq (kyQ a)
  rw [hx0] at KYa hx
  clear hx0 h_a k_a
  have KYb := Lib.hid (fun W => rKey11_any b h_b k_b W)
  have hy := kyQ_pk b
  obtain ⟨y, hy0⟩ := exEq (kyQ b)
  rw [hy0] at KYb hy
  clear hy0 h_b k_b
  have KYc := Lib.hid (fun W => rKey11_any c h_c k_c W)
  have hz := kyQ_pk c
  obtain ⟨z, hz0⟩ := exEq (kyQ c)
  rw [hz0] at KYc hz
  clear hz0 h_c k_c
  have KFm := Lib.hid (fun W hT => Factor_ok x y hx hy W hT)
  have KFn := Lib.hid (fun W hT => Factor_ok y z hy hz W hT)
  have KFo := Lib.hid (fun W hT => Factor_ok x z hx hz W hT)
  have KFp := Lib.hid (fun W hT => Factor_ok y x hy hx W hT)
  have KFq := Lib.hid (fun W hT => Factor_ok x x hx hx W hT)
  rw [fcS_self hx, show ((1 : Nat) : Int) = 1 from rfl] at KFq
  have KMn := Lib.hid (fun W => fMul (fcS x y) (fcS y z) (fcS_key hx hy).2 (fcS_key hy hz).2 W)
  rw [fcS_mul hy] at KMn
  have KMp := Lib.hid (fun W => fMul (fcS x y) (fcS y x) (fcS_key hx hy).2 (fcS_key hy hx).2 W)
  rw [fcS_back hx hy, show ((1 : Nat) : Int) = 1 from rfl] at KMp
  obtain ⟨m, hm⟩ := exEq (fcS x y)
  rw [hm] at KFm KMn KMp
  obtain ⟨n, hn⟩ := exEq (fcS y z)
  rw [hn] at KFn KMn
  obtain ⟨r, hr⟩ := exEq (fcS x z)
  rw [hr] at KFo KMn
  obtain ⟨p, hp⟩ := exEq (fcS y x)
  rw [hp] at KFp KMp
  clear hm hn hr hp hx hy hz
  have HS0 := Lib.hid (PX.start hT)
  have HB0 := HS0
  clear hT HS0
  go_enter Tryd.func5, Tryd.ntmps5
  go_wp2_with fail
  with_reducible refine (KS.out _ HB0.out.tab).mono ?_
  rintro e w1 ⟨rfl, hb⟩
  have HB1 := Lib.hid (HB0.out.call hb)
  clear hb HB0
  go_wp2_with fail
  with_reducible refine (KYa.out _).mono ?_
  rintro e wo ⟨rfl, hwo⟩
  rw [hwo]
  clear hwo wo
  go_wp2_with fail
  with_reducible refine (KYb.out _).mono ?_
  rintro e wo ⟨rfl, hwo⟩
  rw [hwo]
  clear hwo wo
  go_wp2_with fail
  with_reducible refine (KYc.out _).mono ?_
  rintro e wo ⟨rfl, hwo⟩
  rw [hwo]
  clear hwo wo
  go_wp2_with fail
  with_reducible refine (KFm.out _ HB1.out.tab).mono ?_
  rintro e w2 ⟨rfl, hb⟩
  have HB2 := Lib.hid (HB1.out.call hb)
  clear hb HB1
  go_wp2_with fail
  with_reducible refine (KFn.out _ HB2.out.tab).mono ?_
  rintro e w3 ⟨rfl, hb⟩
  have HB3 := Lib.hid (HB2.out.call hb)
  clear hb HB2
  go_wp2_with fail
  with_reducible refine (KFo.out _ HB3.out.tab).mono ?_
  rintro e w4 ⟨rfl, hb⟩
  have HB4 := Lib.hid (HB3.out.call hb)
  clear hb HB3
  go_wp2_with fail
  with_reducible refine (KFp.out _ HB4.out.tab).mono ?_
  rintro e w5 ⟨rfl, hb⟩
  have HB5 := Lib.hid (HB4.out.call hb)
  clear hb HB4
  go_wp2_with fail
  with_reducible refine (KFq.out _ HB5.out.tab).mono ?_
  rintro e w6 ⟨rfl, hb⟩
  have HB6 := Lib.hid (HB5.out.call hb)
  clear hb HB5
  go_wp2_with fail
  with_reducible refine (KMn.out _).mono ?_
  rintro e w7 ⟨rfl, hb⟩
  have HB7 := Lib.hid (HB6.out.call hb)
  clear hb HB6
  go_wp2_with fail
  with_reducible refine (KMp.out _).mono ?_
  rintro e w8 ⟨rfl, hb⟩
  have HB8 := Lib.hid (HB7.out.call hb)
  clear hb HB7
  go_wp2_with fail
  go_ret
  exact ⟨rfl, HB8.out.below⟩

set_option maxRecDepth 100000 in
set_option maxHeartbeats 1600000 in
theorem products11_ok (A B : Nat) (l : List UInt8) (hA : IsEl (A : Int)) (hB : IsEl (B : Int)) (hl : l.length = 32) (m n : Int) (h_m : -9223372036854775808 ≤ m) (k_m : m < 9223372036854775808) (h_n : -9223372036854775808 ≤ n) (k_n : n < 9223372036854775808) (w : World) (hT : Tab w) :
    Calls Tryd.prog 6 #[.agg (capA (A : Int) (B : Int) l), .int .i64 m, .int .i64 n] w fun e w' => e = .returned (.bool true) ∧ Below w.heap.size w w' := by
  have KS := Lib.hid (fun W hT => sane11_any W hT)
  have KYm := Lib.hid (fun W => rKey11_any m h_m k_m W)
  have hx := kyQ_pk m
  obtain ⟨x, hx0⟩ := exEq (kyQ m)
  rw [hx0] at KYm hx
  clear hx0 h_m k_m
  have KYn := Lib.hid (fun W => rKey11_any n h_n k_n W)
  have hy := kyQ_pk n
  obtain ⟨y, hy0⟩ := exEq (kyQ n)
  rw [hy0] at KYn hy
  clear hy0 h_n k_n
  have KM := Lib.hid (fun W => fMul x y hx.2 hy.2 W)
  have KI := Lib.hid (fun W => fInv x (by have := hx.1; omega) hx.2 W)
  rw [show x ^ (kQ - 1) % 2305843009213688669 = fvR x from rfl] at KI
  have KTa := Lib.hid (fun W hT => Turn_ok x A B l hx hA hB hl W hT)
  have KTb := Lib.hid (fun W hT => Turn_ok y (A ^ x % 4611686018427377339) B l hy (pow_isP hA.el _) hB hl W hT)
  rw [turn_two hA.el x y] at KTb
  have KTd := Lib.hid (fun W hT => Turn_ok y A B l hy hA hB hl W hT)
  have KTp := Lib.hid (fun W hT => Turn_ok x (A ^ y % 4611686018427377339) B l hx (pow_isP hA.el _) hB hl W hT)
  rw [turn_two hA.el y x, Nat.mul_comm y x] at KTp
  have KTq := Lib.hid (fun W hT => Turn_ok (x * y % 2305843009213688669) A B l (mulQ_key hx hy) hA hB hl W hT)
  have KTr := Lib.hid (fun W hT => Turn_ok (fvR x) (A ^ x % 4611686018427377339) B l (fvR_key hx) (pow_isP hA.el _) hB hl W hT)
  rw [turn_back hA.el (by have := hA.2.1; omega) hx] at KTr
  have HLL := Lib.hid hl
  obtain ⟨A2, hA2⟩ := exEq (A ^ (x * y % 2305843009213688669) % 4611686018427377339)
  rw [hA2] at KTb KTp KTq
  obtain ⟨z, hz⟩ := exEq (x * y % 2305843009213688669)
  rw [hz] at KM KTq
  obtain ⟨A1, hA1⟩ := exEq (A ^ x % 4611686018427377339)
  rw [hA1] at KTa KTb KTr
  obtain ⟨A3, hA3⟩ := exEq (A ^ y % 4611686018427377339)
  rw [hA3] at KTd KTp
  obtain ⟨i, hi⟩ := exEq (fvR x)
  rw [hi] at KI KTr
  have E2 := Lib.hid (fun W => equal_capS (A2 : Int) (B : Int) l HLL.out W)
  have E1 := Lib.hid (fun W => equal_capS (A : Int) (B : Int) l HLL.out W)
  clear hA2 hz hA1 hA3 hi hA hB hl hx hy
  have hzc := fun W => zero_cap W
  have hzk := fun W => zero_ky W
  have HLZ := Lib.hid kZ_len
  have HS0 := Lib.hid (PX.start hT)
  have HS1 := Lib.hid (HS0.out.add 30 (capA (A : Int) (B : Int) l) (w.heap.size) (by simp))
  obtain ⟨wb, hwb⟩ : ∃ wb, wb = (w.alloc (.cells (capA (A : Int) (B : Int) l) 30)) := ⟨_, rfl⟩
  rw [← hwb] at HS1
  have HB0 := HS1
  clear hT HS0 HS1
  go_enter Tryd.func6, Tryd.ntmps6
  go_wp2_with fail
  rw [← hwb]
  clear hwb
  with_reducible refine (KS.out _ HB0.out.tab).mono ?_
  rintro e w1 ⟨rfl, hb⟩
  have HB1 := Lib.hid (HB0.out.call hb)
  clear hb HB0
  go_wp2_with fail
  with_reducible refine (KYm.out _).mono ?_
  rintro e wo ⟨rfl, hwo⟩
  rw [hwo]
  clear hwo wo
  go_wp2_with fail
  with_reducible refine (KYn.out _).mono ?_
  rintro e wo ⟨rfl, hwo⟩
  rw [hwo]
  clear hwo wo
  go_wp2_with fail
  with_reducible refine (KM.out _).mono ?_
  rintro e w2 ⟨rfl, hb⟩
  have HB2 := Lib.hid (HB1.out.call hb)
  clear hb HB1
  go_wp2_with fail
  with_reducible refine (KI.out _).mono ?_
  rintro e w3 ⟨rfl, hb⟩
  have HB3 := Lib.hid (HB2.out.call hb)
  clear hb HB2
  go_wp2_with (refine wpList_load_row rfl 30 (.tmp 3) rfl w.heap.size rfl _ (capA (A : Int) (B : Int) l) (0, 0) _ (HB3.out.blk w.heap.size 30 (capA (A : Int) (B : Int) l) (List.Mem.head _)) cap_und rfl (cap_sz _ _ _ HLL.out) ?_)
  with_reducible refine (KTa.out _ HB3.out.tab).mono ?_
  rintro e w4 ⟨rfl, hb⟩
  have HB4 := Lib.hid (HB3.out.call hb)
  clear hb HB3
  go_wp2_with (refine wpList_storeA rfl 30 (.tmp 13) (.tmp 52) rfl w4.heap.size (capA (A1 : Int) (B : Int) l) rfl rfl 30 _ (CB.new w4 _ (capA 0 0 kZ)) (cap_sz _ _ _ HLL.out) (cap_old _ _ _ _ _ _ kZ_len HLL.out) (capA_one _ _ _) ?_)
  intro w5 hst hgr
  have HB5 := Lib.hid (HB4.out.stored 30 _ (capA (A1 : Int) (B : Int) l) hst hgr)
  clear hst hgr HB4
  generalize w4.heap.size = ga at *
  go_wp2_with (refine wpList_load_row rfl 30 (.tmp 13) rfl ga rfl _ (capA (A1 : Int) (B : Int) l) (0, 0) _ (HB5.out.blk ga 30 (capA (A1 : Int) (B : Int) l) (List.Mem.head _)) cap_und rfl (cap_sz _ _ _ HLL.out) ?_)
  with_reducible refine (KTb.out _ HB5.out.tab).mono ?_
  rintro e w6 ⟨rfl, hb⟩
  have HB6 := Lib.hid (HB5.out.call hb)
  clear hb HB5
  go_wp2_with (refine wpList_storeA rfl 30 (.tmp 15) (.tmp 67) rfl w6.heap.size (capA (A2 : Int) (B : Int) l) rfl rfl 30 _ (CB.new w6 _ (capA 0 0 kZ)) (cap_sz _ _ _ HLL.out) (cap_old _ _ _ _ _ _ kZ_len HLL.out) (capA_one _ _ _) ?_)
  intro w7 hst hgr
  have HB7 := Lib.hid (HB6.out.stored 30 _ (capA (A2 : Int) (B : Int) l) hst hgr)
  clear hst hgr HB6
  generalize w6.heap.size = gb at *
  go_wp2_with (refine wpList_load_row rfl 30 (.tmp 3) rfl w.heap.size rfl _ (capA (A : Int) (B : Int) l) (0, 0) _ (HB7.out.blk w.heap.size 30 (capA (A : Int) (B : Int) l) (List.Mem.tail _ (List.Mem.tail _ (List.Mem.head _)))) cap_und rfl (cap_sz _ _ _ HLL.out) ?_)
  with_reducible refine (KTd.out _ HB7.out.tab).mono ?_
  rintro e w8 ⟨rfl, hb⟩
  have HB8 := Lib.hid (HB7.out.call hb)
  clear hb HB7
  go_wp2_with (refine wpList_storeA rfl 30 (.tmp 17) (.tmp 73) rfl w8.heap.size (capA (A3 : Int) (B : Int) l) rfl rfl 30 _ (CB.new w8 _ (capA 0 0 kZ)) (cap_sz _ _ _ HLL.out) (cap_old _ _ _ _ _ _ kZ_len HLL.out) (capA_one _ _ _) ?_)
  intro w9 hst hgr
  have HB9 := Lib.hid (HB8.out.stored 30 _ (capA (A3 : Int) (B : Int) l) hst hgr)
  clear hst hgr HB8
  generalize w8.heap.size = gd at *
  go_wp2_with (refine wpList_load_row rfl 30 (.tmp 17) rfl gd rfl _ (capA (A3 : Int) (B : Int) l) (0, 0) _ (HB9.out.blk gd 30 (capA (A3 : Int) (B : Int) l) (List.Mem.head _)) cap_und rfl (cap_sz _ _ _ HLL.out) ?_)
  with_reducible refine (KTp.out _ HB9.out.tab).mono ?_
  rintro e w10 ⟨rfl, hb⟩
  have HB10 := Lib.hid (HB9.out.call hb)
  clear hb HB9
  go_wp2_with (refine wpList_storeA rfl 30 (.tmp 19) (.tmp 79) rfl w10.heap.size (capA (A2 : Int) (B : Int) l) rfl rfl 30 _ (CB.new w10 _ (capA 0 0 kZ)) (cap_sz _ _ _ HLL.out) (cap_old _ _ _ _ _ _ kZ_len HLL.out) (capA_one _ _ _) ?_)
  intro w11 hst hgr
  have HB11 := Lib.hid (HB10.out.stored 30 _ (capA (A2 : Int) (B : Int) l) hst hgr)
  clear hst hgr HB10
  generalize w10.heap.size = gp at *
  go_wp2_with (refine wpList_load_row rfl 30 (.tmp 3) rfl w.heap.size rfl _ (capA (A : Int) (B : Int) l) (0, 0) _ (HB11.out.blk w.heap.size 30 (capA (A : Int) (B : Int) l) (List.Mem.tail _ (List.Mem.tail _ (List.Mem.tail _ (List.Mem.tail _ (List.Mem.head _)))))) cap_und rfl (cap_sz _ _ _ HLL.out) ?_)
  with_reducible refine (KTq.out _ HB11.out.tab).mono ?_
  rintro e w12 ⟨rfl, hb⟩
  have HB12 := Lib.hid (HB11.out.call hb)
  clear hb HB11
  go_wp2_with (refine wpList_storeA rfl 30 (.tmp 21) (.tmp 85) rfl w12.heap.size (capA (A2 : Int) (B : Int) l) rfl rfl 30 _ (CB.new w12 _ (capA 0 0 kZ)) (cap_sz _ _ _ HLL.out) (cap_old _ _ _ _ _ _ kZ_len HLL.out) (capA_one _ _ _) ?_)
  intro w13 hst hgr
  have HB13 := Lib.hid (HB12.out.stored 30 _ (capA (A2 : Int) (B : Int) l) hst hgr)
  clear hst hgr HB12
  generalize w12.heap.size = gq at *
  go_wp2_with (refine wpList_load_row rfl 30 (.tmp 13) rfl ga rfl _ (capA (A1 : Int) (B : Int) l) (0, 0) _ (HB13.out.blk ga 30 (capA (A1 : Int) (B : Int) l) (List.Mem.tail _ (List.Mem.tail _ (List.Mem.tail _ (List.Mem.tail _ (List.Mem.head _)))))) cap_und rfl (cap_sz _ _ _ HLL.out) ?_)
  with_reducible refine (KTr.out _ HB13.out.tab).mono ?_
  rintro e w14 ⟨rfl, hb⟩
  have HB14 := Lib.hid (HB13.out.call hb)
  clear hb HB13
  go_wp2_with (refine wpList_storeA rfl 30 (.tmp 23) (.tmp 91) rfl w14.heap.size (capA (A : Int) (B : Int) l) rfl rfl 30 _ (CB.new w14 _ (capA 0 0 kZ)) (cap_sz _ _ _ HLL.out) (cap_old _ _ _ _ _ _ kZ_len HLL.out) (capA_one _ _ _) ?_)
  intro w15 hst hgr
  have HB15 := Lib.hid (HB14.out.stored 30 _ (capA (A : Int) (B : Int) l) hst hgr)
  clear hst hgr HB14
  generalize w14.heap.size = gr at *
  go_wp2_with (first
    | (refine wpList_load_rowG (by rfl) 30 (.tmp 15) rfl gb rfl _ (capA (A2 : Int) (B : Int) l) (0, 0) _ (HB15.out.blk gb 30 (capA (A2 : Int) (B : Int) l) (List.Mem.tail _ (List.Mem.tail _ (List.Mem.tail _ (List.Mem.tail _ (List.Mem.head _)))))) cap_und rfl (cap_sz _ _ _ HLL.out) ?_)
    | (refine wpList_load_rowG (by rfl) 30 (.tmp 19) rfl gp rfl _ (capA (A2 : Int) (B : Int) l) (0, 0) _ (HB15.out.blk gp 30 (capA (A2 : Int) (B : Int) l) (List.Mem.tail _ (List.Mem.tail _ (List.Mem.head _)))) cap_und rfl (cap_sz _ _ _ HLL.out) ?_)
    | (refine wpList_run (by rfl) (.bool true) (run_eqC (.tmp 112) (.tmp 113) (capA (A2 : Int) (B : Int) l) (capA (A2 : Int) (B : Int) l) true rfl rfl rfl (E2.out _)) ?_)
    | (refine wpList_load_rowG (by rfl) 30 (.tmp 15) rfl gb rfl _ (capA (A2 : Int) (B : Int) l) (0, 0) _ (HB15.out.blk gb 30 (capA (A2 : Int) (B : Int) l) (List.Mem.tail _ (List.Mem.tail _ (List.Mem.tail _ (List.Mem.tail _ (List.Mem.head _)))))) cap_und rfl (cap_sz _ _ _ HLL.out) ?_)
    | (refine wpList_load_rowG (by rfl) 30 (.tmp 21) rfl gq rfl _ (capA (A2 : Int) (B : Int) l) (0, 0) _ (HB15.out.blk gq 30 (capA (A2 : Int) (B : Int) l) (List.Mem.tail _ (List.Mem.head _))) cap_und rfl (cap_sz _ _ _ HLL.out) ?_)
    | (refine wpList_run (by rfl) (.bool true) (run_eqC (.tmp 117) (.tmp 118) (capA (A2 : Int) (B : Int) l) (capA (A2 : Int) (B : Int) l) true rfl rfl rfl (E2.out _)) ?_)
    | (refine wpList_load_rowG (by rfl) 30 (.tmp 23) rfl gr rfl _ (capA (A : Int) (B : Int) l) (0, 0) _ (HB15.out.blk gr 30 (capA (A : Int) (B : Int) l) (List.Mem.head _)) cap_und rfl (cap_sz _ _ _ HLL.out) ?_)
    | (refine wpList_load_rowG (by rfl) 30 (.tmp 3) rfl w.heap.size rfl _ (capA (A : Int) (B : Int) l) (0, 0) _ (HB15.out.blk w.heap.size 30 (capA (A : Int) (B : Int) l) (List.Mem.tail _ (List.Mem.tail _ (List.Mem.tail _ (List.Mem.tail _ (List.Mem.tail _ (List.Mem.tail _ (List.Mem.head _)))))))) cap_und rfl (cap_sz _ _ _ HLL.out) ?_)
    | (refine wpList_run (by rfl) (.bool true) (run_eqC (.tmp 122) (.tmp 123) (capA (A : Int) (B : Int) l) (capA (A : Int) (B : Int) l) true rfl rfl rfl (E1.out _)) ?_))
  go_ret
  exact ⟨rfl, HB15.out.below⟩

set_option maxRecDepth 100000 in
set_option maxHeartbeats 1600000 in
theorem products11_bad (A B : Int) (l : List UInt8) (hAB : ¬ (IsEl A ∧ IsEl B)) (hl : l.length = 32) (m n : Int) (h_m : -9223372036854775808 ≤ m) (k_m : m < 9223372036854775808) (h_n : -9223372036854775808 ≤ n) (k_n : n < 9223372036854775808) (w : World) (hT : Tab w) :
    Calls Tryd.prog 6 #[.agg (capA A B l), .int .i64 m, .int .i64 n] w fun e w' => e = .returned (.bool true) ∧ Below w.heap.size w w' := by
  have KS := Lib.hid (fun W hT => sane11_any W hT)
  have KYm := Lib.hid (fun W => rKey11_any m h_m k_m W)
  have hx := kyQ_pk m
  obtain ⟨x, hx0⟩ := exEq (kyQ m)
  rw [hx0] at KYm hx
  clear hx0 h_m k_m
  have KYn := Lib.hid (fun W => rKey11_any n h_n k_n W)
  have hy := kyQ_pk n
  obtain ⟨y, hy0⟩ := exEq (kyQ n)
  rw [hy0] at KYn hy
  clear hy0 h_n k_n
  have KM := Lib.hid (fun W => fMul x y hx.2 hy.2 W)
  have KI := Lib.hid (fun W => fInv x (by have := hx.1; omega) hx.2 W)
  have KTa := Lib.hid (fun W hT => Turn_cap x A B l hl hx hAB W hT)
  have KC := Lib.hid (fun W => pCheck11_any A B l hl W)
  rw [ckR_bad hAB] at KC
  have HLL := Lib.hid hl
  obtain ⟨z, hz⟩ := exEq (x * y % 2305843009213688669)
  rw [hz] at KM
  obtain ⟨i, hi⟩ := exEq (x ^ (kQ - 1) % 2305843009213688669)
  rw [hi] at KI
  clear hz hi hAB hl hx hy
  have hzc := fun W => zero_cap W
  have hzk := fun W => zero_ky W
  have HLZ := Lib.hid kZ_len
  have HS0 := Lib.hid (PX.start hT)
  have HS1 := Lib.hid (HS0.out.add 30 (capA A B l) (w.heap.size) (by simp))
  obtain ⟨wb, hwb⟩ : ∃ wb, wb = (w.alloc (.cells (capA A B l) 30)) := ⟨_, rfl⟩
  rw [← hwb] at HS1
  have HB0 := HS1
  clear hT HS0 HS1
  go_enter Tryd.func6, Tryd.ntmps6
  go_wp2_with fail
  rw [← hwb]
  clear hwb
  with_reducible refine (KS.out _ HB0.out.tab).mono ?_
  rintro e w1 ⟨rfl, hb⟩
  have HB1 := Lib.hid (HB0.out.call hb)
  clear hb HB0
  go_wp2_with fail
  with_reducible refine (KYm.out _).mono ?_
  rintro e wo ⟨rfl, hwo⟩
  rw [hwo]
  clear hwo wo
  go_wp2_with fail
  with_reducible refine (KYn.out _).mono ?_
  rintro e wo ⟨rfl, hwo⟩
  rw [hwo]
  clear hwo wo
  go_wp2_with fail
  with_reducible refine (KM.out _).mono ?_
  rintro e w2 ⟨rfl, hb⟩
  have HB2 := Lib.hid (HB1.out.call hb)
  clear hb HB1
  go_wp2_with fail
  with_reducible refine (KI.out _).mono ?_
  rintro e w3 ⟨rfl, hb⟩
  have HB3 := Lib.hid (HB2.out.call hb)
  clear hb HB2
  go_wp2_with (refine wpList_load_row rfl 30 (.tmp 3) rfl w.heap.size rfl _ (capA A B l) (0, 0) _ (HB3.out.blk w.heap.size 30 (capA A B l) (List.Mem.head _)) cap_und rfl (cap_sz _ _ _ HLL.out) ?_)
  with_reducible refine (KTa.out _ HB3.out.tab).mono ?_
  rintro e w4 ⟨rfl, hb⟩
  have HB4 := Lib.hid (HB3.out.call hb)
  clear hb HB3
  go_wp2_with (refine wpList_storeA rfl 30 (.tmp 13) (.tmp 52) rfl w4.heap.size (capA 0 0 kZ) rfl rfl 30 _ (CB.new w4 _ (capA 0 0 kZ)) (cap_sz _ _ _ HLZ.out) (cap_old _ _ _ _ _ _ kZ_len HLZ.out) (capA_one _ _ _) ?_)
  intro w5 hst hgr
  have HB5 := Lib.hid (HB4.out.stored 30 _ (capA 0 0 kZ) hst hgr)
  clear hst hgr HB4
  generalize w4.heap.size = ga at *
  go_wp2_with (refine wpList_load_rowG (by rfl) 30 (.tmp 3) rfl w.heap.size rfl _ (capA A B l) (0, 0) _ (HB5.out.blk w.heap.size 30 (capA A B l) (List.Mem.tail _ (List.Mem.head _))) cap_und rfl (cap_sz _ _ _ HLL.out) ?_)
  with_reducible refine (KC.out _).mono ?_
  rintro e w6 ⟨rfl, hb⟩
  have HB6 := Lib.hid (HB5.out.call hb)
  clear hb HB5
  go_wp2_with fail
  go_ret
  exact ⟨rfl, HB6.out.below⟩
theorem products11_walk (A B : Int) (l : List UInt8) (hl : l.length = 32) (m n : Int) (h_m : -9223372036854775808 ≤ m) (k_m : m < 9223372036854775808) (h_n : -9223372036854775808 ≤ n) (k_n : n < 9223372036854775808) (w : World) (hT : Tab w) :
    Calls Tryd.prog 6 #[.agg (capA A B l), .int .i64 m, .int .i64 n] w fun e w' => e = .returned (.bool true) ∧ Below w.heap.size w w' := by
  by_cases h : IsEl A ∧ IsEl B
  · obtain ⟨a, rfl, -⟩ := h.1.nat
    obtain ⟨b, rfl, -⟩ := h.2.nat
    exact products11_ok a b l h.1 h.2 hl m n h_m k_m h_n k_n w hT
  · exact products11_bad A B l h hl m n h_m k_m h_n k_n w hT
end Go.Proofs.YteigldfdaciopaaDoor
