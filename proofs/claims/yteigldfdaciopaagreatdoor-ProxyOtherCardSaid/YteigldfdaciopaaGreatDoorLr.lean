/-
  The statements of proxy that need the reference.
-/
import Derived.Test.YteigldfdaciopaaGreatDoorLq
import Derived.Test.YteigldfdaciopaaGreatDoorPkE
namespace Go.Proofs.YteigldfdaciopaaGreatDoor
open Go.RowKit
set_option linter.unusedVariables false
set_option linter.unusedSimpArgs false

theorem CB.rangeC {w : World} {g : Nat} {T : TypeId} {cs : Array Value} (h : CB w g T cs) : w.rangeAt g 0 cs.toList := by
  intro j v hv
  rw [Nat.zero_add, h.cell j]
  simpa using hv
theorem cap_szL (a b : Int) (l : List UInt8) (h : l.length = 32) : (Tryz.prog.info? 25).map (·.size) = some (capA a b l).toList.length := (cap_sz a b l h).trans (by simp)
theorem lock_both (p : Int) (K S : List UInt8) (hK : K.length = 32) (hS : S.length = 32) : ∃ (A B : Int) (X : List UInt8) (c : Int), X.length = 32 ∧ (∀ W, Tab W → Calls Tryz.prog 7 #[.int .i64 p, .agg (bvA K), .agg (bvA S)] W fun e w' => e = .returned (.tuple #[.agg (capA A B X), .int .i64 c]) ∧ Below W.heap.size W w') ∧ (∀ W, Tab W → Calls Tryz.prog 8 #[.int .i64 p, .agg (bvA K), .agg (bvA S)] W fun e w' => e = .returned (.tuple #[.agg (capA A B X), .int .i64 c]) ∧ Below W.heap.size W w') := by
  by_cases h : IsEl p
  · obtain ⟨n, rfl, -⟩ := h.nat
    exact ⟨_, _, _, _, lkX_len S hK, fun W hT => Lock_ok n K S h hK hS W hT, fun W hT => rLock_ok n K S h hK hS W hT⟩
  · exact ⟨_, _, _, _, kZ_len, fun W hT => Lock_bad p K S h W hT, fun W hT => rLock_bad p K S h W hT⟩
theorem open_both (x a b : Int) (l : List UInt8) (hl : l.length = 32) : ∃ (X : List UInt8) (c : Int), X.length = 32 ∧ (∀ W, Tab W → Calls Tryz.prog 9 #[.int .i64 x, .agg (capA a b l)] W fun e w' => e = .returned (.tuple #[.agg (bvA X), .int .i64 c]) ∧ Below W.heap.size W w') ∧ (∀ W, Tab W → Calls Tryz.prog 10 #[.int .i64 x, .agg (capA a b l)] W fun e w' => e = .returned (.tuple #[.agg (bvA X), .int .i64 c]) ∧ Below W.heap.size W w') := by
  by_cases hx : 1 ≤ x ∧ x < 2305843009213688669
  · obtain ⟨n, rfl⟩ : ∃ n : Nat, x = (n : Int) := ⟨x.toNat, by omega⟩
    have hn : PkQ n := by unfold PkQ; omega
    by_cases h : IsEl a ∧ IsEl b
    · obtain ⟨c, rfl, -⟩ := h.1.nat
      obtain ⟨d, rfl, -⟩ := h.2.nat
      exact ⟨_, _, kxor_len hl (pmS_len _), fun W hT => Open_ok n c d l hn h.1 h.2 hl W hT, fun W hT => rOpen_ok n c d l hn h.1 h.2 hl W hT⟩
    · exact ⟨_, _, kZ_len, fun W hT => Open_cap n a b l hl hn h W hT, fun W hT => rOpen_cap n a b l hl hn h W hT⟩
  · exact ⟨_, _, kZ_len, fun W hT => Open_key x a b l hl hx W hT, fun W hT => rOpen_key x a b l hl hx W hT⟩
theorem turn_both (x a b : Int) (l : List UInt8) (hl : l.length = 32) : ∃ (A B : Int) (X : List UInt8) (c : Int), X.length = 32 ∧ (∀ W, Tab W → Calls Tryz.prog 15 #[.int .i64 x, .agg (capA a b l)] W fun e w' => e = .returned (.tuple #[.agg (capA A B X), .int .i64 c]) ∧ Below W.heap.size W w') ∧ (∀ W, Tab W → Calls Tryz.prog 16 #[.int .i64 x, .agg (capA a b l)] W fun e w' => e = .returned (.tuple #[.agg (capA A B X), .int .i64 c]) ∧ Below W.heap.size W w') := by
  by_cases hx : 1 ≤ x ∧ x < 2305843009213688669
  · obtain ⟨n, rfl⟩ : ∃ n : Nat, x = (n : Int) := ⟨x.toNat, by omega⟩
    have hn : PkQ n := by unfold PkQ; omega
    by_cases h : IsEl a ∧ IsEl b
    · obtain ⟨c, rfl, -⟩ := h.1.nat
      obtain ⟨d, rfl, -⟩ := h.2.nat
      exact ⟨_, _, _, _, hl, fun W hT => Turn_ok n c d l hn h.1 h.2 hl W hT, fun W hT => rTurn_ok n c d l hn h.1 h.2 hl W hT⟩
    · exact ⟨_, _, _, _, kZ_len, fun W hT => Turn_cap n a b l hl hn h W hT, fun W hT => rTurn_cap n a b l hl hn h W hT⟩
  · exact ⟨_, _, _, _, kZ_len, fun W hT => Turn_key x a b l hl hx W hT, fun W hT => rTurn_key x a b l hl hx W hT⟩
theorem factor_both (x y : Int) : ∃ (n c : Int), (∀ W, Tab W → Calls Tryz.prog 13 #[.int .i64 x, .int .i64 y] W fun e w' => e = .returned (.tuple #[.int .i64 n, .int .i64 c]) ∧ Below W.heap.size W w') ∧ (∀ W, Calls Tryz.prog 14 #[.int .i64 x, .int .i64 y] W fun e w' => e = .returned (.tuple #[.int .i64 n, .int .i64 c]) ∧ w' = W) := by
  by_cases h : (1 ≤ x ∧ x < 2305843009213688669) ∧ (1 ≤ y ∧ y < 2305843009213688669)
  · obtain ⟨n, rfl⟩ : ∃ n : Nat, x = (n : Int) := ⟨x.toNat, by omega⟩
    obtain ⟨m, rfl⟩ : ∃ m : Nat, y = (m : Int) := ⟨y.toNat, by omega⟩
    have hn : PkQ n := by unfold PkQ; omega
    have hm : PkQ m := by unfold PkQ; omega
    exact ⟨_, _, fun W hT => Factor_ok n m hn hm W hT, fun W => rFactor_ok n m hn hm W⟩
  · exact ⟨_, _, fun W hT => Factor_bad x y h W hT, fun W => rFactor_bad x y h W⟩

set_option maxRecDepth 100000 in
set_option maxHeartbeats 1600000 in
theorem turnSpec11_walk (a b n A B : Int) (l : List UInt8) (hl : l.length = 32) (w : World) (hT : Tab w) :
    Calls Tryz.prog 4 #[.int .i64 a, .int .i64 b, .int .i64 n, .agg (capA A B l)] w fun e w' => e = .returned (.bool true) ∧ Below w.heap.size w w' := by
  have KS := Lib.hid (fun W hT => sane11_any W hT)
  obtain ⟨f, c1, kf1, kf2⟩ := factor_both a b
  obtain ⟨A2, B2, X, c2, hX, kt1, kt2⟩ := turn_both n A B l hl
  have KF1 := Lib.hid kf1
  have KF2 := Lib.hid kf2
  have KT1 := Lib.hid kt1
  have KT2 := Lib.hid kt2
  have HLL := Lib.hid hl
  have HLX := Lib.hid hX
  have EC := Lib.hid (fun W => equal_capS A2 B2 X hX W)
  clear kf1 kf2 kt1 kt2 hl hX
  have hzc := fun W => zero_cap W
  have hzk := fun W => zero_ky W
  have HLZ := Lib.hid kZ_len
  have HS0 := Lib.hid (PX.start hT)
  have HS1 := Lib.hid (HS0.out.add 25 (capA A B l) (w.heap.size) (by simp))
  obtain ⟨wb, hwb⟩ : ∃ wb, wb = (w.alloc (.cells (capA A B l) 25)) := ⟨_, rfl⟩
  rw [← hwb] at HS1
  have HB0 := HS1
  clear hT HS0 HS1
  go_enter Tryz.func4, Tryz.ntmps4
  go_wp2_with fail
  rw [← hwb]
  clear hwb
  with_reducible refine (KS.out _ HB0.out.tab).mono ?_
  rintro e w1 ⟨rfl, hb⟩
  have HB1 := Lib.hid (HB0.out.call hb)
  clear hb HB0
  go_wp2_with fail
  with_reducible refine (KF1.out _ HB1.out.tab).mono ?_
  rintro e w2 ⟨rfl, hb⟩
  have HB2 := Lib.hid (HB1.out.call hb)
  clear hb HB1
  go_wp2_with fail
  with_reducible refine (KF2.out _).mono ?_
  rintro e wo ⟨rfl, hwo⟩
  rw [hwo]
  clear hwo wo
  go_wp2_with (refine wpList_load_row rfl 25 (.tmp 7) rfl w.heap.size rfl _ (capA A B l) (0, 0) _ (HB2.out.blk w.heap.size 25 (capA A B l) (List.Mem.head _)) cap_und rfl (cap_sz _ _ _ HLL.out) ?_)
  with_reducible refine (KT1.out _ HB2.out.tab).mono ?_
  rintro e w3 ⟨rfl, hb⟩
  have HB3 := Lib.hid (HB2.out.call hb)
  clear hb HB2
  go_wp2_with (refine wpList_storeA rfl 25 (.tmp 13) (.tmp 35) rfl w3.heap.size (capA A2 B2 X) rfl rfl 25 _ (CB.new w3 _ (capA 0 0 kZ)) (cap_sz _ _ _ HLX.out) (cap_old _ _ _ _ _ _ kZ_len HLX.out) (capA_one _ _ _) ?_)
  intro w4 hst hgr
  have HB4 := Lib.hid (HB3.out.stored 25 _ (capA A2 B2 X) hst hgr)
  clear hst hgr HB3
  generalize w3.heap.size = gx at *
  go_wp2_with (refine wpList_load_row rfl 25 (.tmp 7) rfl w.heap.size rfl _ (capA A B l) (0, 0) _ (HB4.out.blk w.heap.size 25 (capA A B l) (List.Mem.tail _ (List.Mem.head _))) cap_und rfl (cap_sz _ _ _ HLL.out) ?_)
  with_reducible refine (KT2.out _ HB4.out.tab).mono ?_
  rintro e w5 ⟨rfl, hb⟩
  have HB5 := Lib.hid (HB4.out.call hb)
  clear hb HB4
  go_wp2_with (refine wpList_storeA rfl 25 (.tmp 15) (.tmp 41) rfl w5.heap.size (capA A2 B2 X) rfl rfl 25 _ (CB.new w5 _ (capA 0 0 kZ)) (cap_sz _ _ _ HLX.out) (cap_old _ _ _ _ _ _ kZ_len HLX.out) (capA_one _ _ _) ?_)
  intro w6 hst hgr
  have HB6 := Lib.hid (HB5.out.stored 25 _ (capA A2 B2 X) hst hgr)
  clear hst hgr HB5
  generalize w5.heap.size = gy at *
  go_wp2_with (first
    | (refine wpList_load_rowG (by rfl) 25 (.tmp 13) rfl gx rfl _ (capA A2 B2 X) (0, 0) _ (HB6.out.blk gx 25 (capA A2 B2 X) (List.Mem.tail _ (List.Mem.head _))) cap_und rfl (cap_sz _ _ _ HLX.out) ?_)
    | (refine wpList_load_rowG (by rfl) 25 (.tmp 15) rfl gy rfl _ (capA A2 B2 X) (0, 0) _ (HB6.out.blk gy 25 (capA A2 B2 X) (List.Mem.head _)) cap_und rfl (cap_sz _ _ _ HLX.out) ?_)
    | (refine wpList_run (by rfl) (.bool true) (run_eqC (.tmp 52) (.tmp 53) (capA A2 B2 X) (capA A2 B2 X) true rfl rfl rfl (EC.out _)) ?_))
  go_ret
  exact ⟨rfl, HB6.out.below⟩

set_option maxRecDepth 100000 in
set_option maxHeartbeats 1600000 in
theorem lockSpec11_walk (p : Int) (K S : List UInt8) (hK : K.length = 32) (hS : S.length = 32) (x A B : Int) (l : List UInt8) (hl : l.length = 32) (w : World) (hT : Tab w) :
    Calls Tryz.prog 3 #[.int .i64 p, .agg (bvA K), .agg (bvA S), .int .i64 x, .agg (capA A B l)] w fun e w' => e = .returned (.bool true) ∧ Below w.heap.size w w' := by
  have KS := Lib.hid (fun W hT => sane11_any W hT)
  obtain ⟨A2, B2, X, c1, hX, kl1, kl2⟩ := lock_both p K S hK hS
  obtain ⟨Y, c2, hY, ko1, ko2⟩ := open_both x A B l hl
  have KL1 := Lib.hid kl1
  have KL2 := Lib.hid kl2
  have KO1 := Lib.hid ko1
  have KO2 := Lib.hid ko2
  have KC1 := Lib.hid (fun W => pCheck11_any A B l hl W)
  have KC2 := Lib.hid (fun W => rCheck11_any A B l W)
  obtain ⟨ck, hck⟩ := exEq (ckR A B)
  rw [hck] at KC1 KC2
  have HLL := Lib.hid hl
  have HLX := Lib.hid hX
  have HLY := Lib.hid hY
  have HLK := Lib.hid hK
  have HLS := Lib.hid hS
  have EC := Lib.hid (fun W => equal_capS A2 B2 X hX W)
  have EY := Lib.hid (fun W => equal_keyS Y hY W)
  clear kl1 kl2 ko1 ko2 hl hX hY hK hS hck
  have hzc := fun W => zero_cap W
  have hzk := fun W => zero_ky W
  have HLZ := Lib.hid kZ_len
  have HS0 := Lib.hid (PX.start hT)
  have HS1 := Lib.hid (HS0.out.add 23 (bvA K) (w.heap.size) (by simp))
  have HS2 := Lib.hid (HS1.out.add 23 (bvA S) (w.heap.size + 1) (by simp))
  have HS3 := Lib.hid (HS2.out.add 25 (capA A B l) (w.heap.size + 1 + 1) (by simp))
  obtain ⟨wb, hwb⟩ : ∃ wb, wb = (((w.alloc (.cells (bvA K) 23)).alloc (.cells (bvA S) 23)).alloc (.cells (capA A B l) 25)) := ⟨_, rfl⟩
  rw [← hwb] at HS3
  have HB0 := HS3
  clear hT HS0 HS1 HS2 HS3
  go_enter Tryz.func3, Tryz.ntmps3
  go_wp2_with fail
  rw [← hwb]
  clear hwb
  with_reducible refine (KS.out _ HB0.out.tab).mono ?_
  rintro e w1 ⟨rfl, hb⟩
  have HB1 := Lib.hid (HB0.out.call hb)
  clear hb HB0
  go_wp2_with (first
    | (refine wpList_load_row rfl 23 (.tmp 6) rfl w.heap.size rfl _ (bvA K) (0, 0) _ (HB1.out.blk w.heap.size 23 (bvA K) (List.Mem.tail _ (List.Mem.tail _ (List.Mem.head _)))) key_und rfl (key_sz _ HLK.out) ?_)
    | (refine wpList_load_row rfl 23 (.tmp 7) rfl (w.heap.size + 1) rfl _ (bvA S) (0, 0) _ (HB1.out.blk (w.heap.size + 1) 23 (bvA S) (List.Mem.tail _ (List.Mem.head _))) key_und rfl (key_sz _ HLS.out) ?_))
  with_reducible refine (KL1.out _ HB1.out.tab).mono ?_
  rintro e w2 ⟨rfl, hb⟩
  have HB2 := Lib.hid (HB1.out.call hb)
  clear hb HB1
  go_wp2_with (refine wpList_storeA rfl 25 (.tmp 11) (.tmp 26) rfl w2.heap.size (capA A2 B2 X) rfl rfl 25 _ (CB.new w2 _ (capA 0 0 kZ)) (cap_sz _ _ _ HLX.out) (cap_old _ _ _ _ _ _ kZ_len HLX.out) (capA_one _ _ _) ?_)
  intro w3 hst hgr
  have HB3 := Lib.hid (HB2.out.stored 25 _ (capA A2 B2 X) hst hgr)
  clear hst hgr HB2
  generalize w2.heap.size = ga1 at *
  go_wp2_with (first
    | (refine wpList_load_row rfl 23 (.tmp 6) rfl w.heap.size rfl _ (bvA K) (0, 0) _ (HB3.out.blk w.heap.size 23 (bvA K) (List.Mem.tail _ (List.Mem.tail _ (List.Mem.tail _ (List.Mem.head _))))) key_und rfl (key_sz _ HLK.out) ?_)
    | (refine wpList_load_row rfl 23 (.tmp 7) rfl (w.heap.size + 1) rfl _ (bvA S) (0, 0) _ (HB3.out.blk (w.heap.size + 1) 23 (bvA S) (List.Mem.tail _ (List.Mem.tail _ (List.Mem.head _)))) key_und rfl (key_sz _ HLS.out) ?_))
  with_reducible refine (KL2.out _ HB3.out.tab).mono ?_
  rintro e w4 ⟨rfl, hb⟩
  have HB4 := Lib.hid (HB3.out.call hb)
  clear hb HB3
  go_wp2_with (refine wpList_storeA rfl 25 (.tmp 13) (.tmp 33) rfl w4.heap.size (capA A2 B2 X) rfl rfl 25 _ (CB.new w4 _ (capA 0 0 kZ)) (cap_sz _ _ _ HLX.out) (cap_old _ _ _ _ _ _ kZ_len HLX.out) (capA_one _ _ _) ?_)
  intro w5 hst hgr
  have HB5 := Lib.hid (HB4.out.stored 25 _ (capA A2 B2 X) hst hgr)
  clear hst hgr HB4
  generalize w4.heap.size = gb1 at *
  go_wp2_with (refine wpList_load_row rfl 25 (.tmp 9) rfl (w.heap.size + 1 + 1) rfl _ (capA A B l) (0, 0) _ (HB5.out.blk (w.heap.size + 1 + 1) 25 (capA A B l) (List.Mem.tail _ (List.Mem.tail _ (List.Mem.head _)))) cap_und rfl (cap_sz _ _ _ HLL.out) ?_)
  with_reducible refine (KO1.out _ HB5.out.tab).mono ?_
  rintro e w6 ⟨rfl, hb⟩
  have HB6 := Lib.hid (HB5.out.call hb)
  clear hb HB5
  go_wp2_with (refine wpList_storeA rfl 23 (.tmp 15) (.tmp 39) rfl w6.heap.size (bvA Y) rfl rfl 23 _ (CB.new w6 _ (bvA kZ)) (key_sz _ HLY.out) (key_old _ HLY.out) (bvA_one _) ?_)
  intro w7 hst hgr
  have HB7 := Lib.hid (HB6.out.stored 23 _ (bvA Y) hst hgr)
  clear hst hgr HB6
  generalize w6.heap.size = gx1 at *
  go_wp2_with (refine wpList_load_row rfl 25 (.tmp 9) rfl (w.heap.size + 1 + 1) rfl _ (capA A B l) (0, 0) _ (HB7.out.blk (w.heap.size + 1 + 1) 25 (capA A B l) (List.Mem.tail _ (List.Mem.tail _ (List.Mem.tail _ (List.Mem.head _))))) cap_und rfl (cap_sz _ _ _ HLL.out) ?_)
  with_reducible refine (KO2.out _ HB7.out.tab).mono ?_
  rintro e w8 ⟨rfl, hb⟩
  have HB8 := Lib.hid (HB7.out.call hb)
  clear hb HB7
  go_wp2_with (refine wpList_storeA rfl 23 (.tmp 17) (.tmp 45) rfl w8.heap.size (bvA Y) rfl rfl 23 _ (CB.new w8 _ (bvA kZ)) (key_sz _ HLY.out) (key_old _ HLY.out) (bvA_one _) ?_)
  intro w9 hst hgr
  have HB9 := Lib.hid (HB8.out.stored 23 _ (bvA Y) hst hgr)
  clear hst hgr HB8
  generalize w8.heap.size = gy1 at *
  go_wp2_with fail
  rename_i K0 hK0
  refine region_writes [47, 48, 49, 50, 51, 52, 53, 54, 55, 56, 57, 58, 59, 60, 61, 62, 63, 64, 65, 66, 67, 68, 69, 70, 71, 10] (fun f W => f 10 = .bool true ∧ Below w9.heap.size w9 W) ?_ ?_
  rotate_left
  · clear hK0 K0
    have HE : Hid (Below w9.heap.size w9 w9.drew) := Lib.hid ((Below.refl _ _).drew)
    have HSB : Hid (∀ W, Below w9.heap.size w9 W → (W.rangeAt ga1 0 ((capA A2 B2 X).toList) ∧ W.rangeAt gb1 0 ((capA A2 B2 X).toList) ∧ W.rangeAt gx1 0 (Y.map bv) ∧ W.rangeAt gy1 0 (Y.map bv) ∧ W.rangeAt (w.heap.size + 1 + 1) 0 ((capA A B l).toList))) := Lib.hid (fun W hW => ⟨(CB.rangeC (((HB9.out.blk ga1 25 (capA A2 B2 X) (List.Mem.tail _ (List.Mem.tail _ (List.Mem.tail _ (List.Mem.head _)))))).call hW)), (CB.rangeC (((HB9.out.blk gb1 25 (capA A2 B2 X) (List.Mem.tail _ (List.Mem.tail _ (List.Mem.head _))))).call hW)), (BB.range (((HB9.out.blk gx1 23 (bvA Y) (List.Mem.tail _ (List.Mem.head _)))).call hW)), (BB.range (((HB9.out.blk gy1 23 (bvA Y) (List.Mem.head _))).call hW)), (CB.rangeC (((HB9.out.blk (w.heap.size + 1 + 1) 25 (capA A B l) (List.Mem.tail _ (List.Mem.tail _ (List.Mem.tail _ (List.Mem.tail _ (List.Mem.head _))))))).call hW))⟩)
    refine wp_region_held_drew (S := fun W => W.rangeAt ga1 0 ((capA A2 B2 X).toList) ∧ W.rangeAt gb1 0 ((capA A2 B2 X).toList) ∧ W.rangeAt gx1 0 (Y.map bv) ∧ W.rangeAt gy1 0 (Y.map bv) ∧ W.rangeAt (w.heap.size + 1 + 1) 0 ((capA A B l).toList)) (by kernel_rfl) (HSB.out _ HE.out) (fun hHeld => ?_)
    refine wpAnyH_take (i := 0) (v := .agg (capA A2 B2 X)) rfl (by kernel_rfl) (by kernel_rfl) (by kernel_rfl) (fun _ _ _ h => nomatch h.1) (yieldsIf_load_mid (by rfl) 25 (.tmp 11) rfl ga1 0 rfl (capA A2 B2 X).toList _ (fun _ h => h.1) cap_und rfl (cap_szL _ _ _ HLX.out)) hHeld ?_
    simp only [Act.put, List.getElem_toArray, List.getElem_cons_zero, List.getElem_cons_succ, List.setIfInBounds_toArray, List.set_cons_zero, List.set_cons_succ]
    refine wpAnyH_take (i := 1) (v := .agg (capA A2 B2 X)) rfl (by kernel_rfl) (by kernel_rfl) (by kernel_rfl) (fun _ _ _ h => nomatch h.1) (yieldsIf_load_mid (by rfl) 25 (.tmp 13) rfl gb1 0 rfl (capA A2 B2 X).toList _ (fun _ h => h.2.1) cap_und rfl (cap_szL _ _ _ HLX.out)) hHeld ?_
    simp only [Act.put, List.getElem_toArray, List.getElem_cons_zero, List.getElem_cons_succ, List.setIfInBounds_toArray, List.set_cons_zero, List.set_cons_succ]
    refine wpAnyH_take (i := 2) (v := .bool true) rfl (by kernel_rfl) (by kernel_rfl) (by kernel_rfl) (fun _ _ _ h => nomatch h.1) (Or.inl ⟨by rfl, fun w _ => run_eqC (.tmp 47) (.tmp 48) (capA A2 B2 X) (capA A2 B2 X) true rfl rfl rfl (EC.out w)⟩) hHeld ?_
    simp only [Act.put, List.getElem_toArray, List.getElem_cons_zero, List.getElem_cons_succ, List.setIfInBounds_toArray, List.set_cons_zero, List.set_cons_succ]
    refine wpAnyH_take (i := 3) (v := .bool true) rfl (by kernel_rfl) (by kernel_rfl) (by kernel_rfl) (fun _ _ _ h => nomatch h.1) (Or.inl ⟨by rfl, fun w _ => by go_simp⟩) hHeld ?_
    simp only [Act.put, List.getElem_toArray, List.getElem_cons_zero, List.getElem_cons_succ, List.setIfInBounds_toArray, List.set_cons_zero, List.set_cons_succ]
    refine wpAnyH_take (i := 4) (v := .int .i64 c1) rfl (by kernel_rfl) (by kernel_rfl) (by kernel_rfl) (fun _ _ _ h => nomatch h.1) (Or.inl ⟨by rfl, fun w _ => by go_simp⟩) hHeld ?_
    simp only [Act.put, List.getElem_toArray, List.getElem_cons_zero, List.getElem_cons_succ, List.setIfInBounds_toArray, List.set_cons_zero, List.set_cons_succ]
    refine wpAnyH_take (i := 5) (v := .int .i64 c1) rfl (by kernel_rfl) (by kernel_rfl) (by kernel_rfl) (fun _ _ _ h => nomatch h.1) (Or.inl ⟨by rfl, fun w _ => by go_simp⟩) hHeld ?_
    simp only [Act.put, List.getElem_toArray, List.getElem_cons_zero, List.getElem_cons_succ, List.setIfInBounds_toArray, List.set_cons_zero, List.set_cons_succ]
    refine wpAnyH_take (i := 6) (v := .bool true) rfl (by kernel_rfl) (by kernel_rfl) (by kernel_rfl) (fun _ _ _ h => nomatch h.1) (Or.inl ⟨by rfl, fun w _ => by go_simp⟩) hHeld ?_
    simp only [Act.put, List.getElem_toArray, List.getElem_cons_zero, List.getElem_cons_succ, List.setIfInBounds_toArray, List.set_cons_zero, List.set_cons_succ]
    refine wpAnyH_take (i := 7) (v := .bool true) rfl (by kernel_rfl) (by kernel_rfl) (by kernel_rfl) (fun _ _ _ h => nomatch h.1) (Or.inl ⟨by rfl, fun w _ => by go_simp⟩) hHeld ?_
    simp only [Act.put, List.getElem_toArray, List.getElem_cons_zero, List.getElem_cons_succ, List.setIfInBounds_toArray, List.set_cons_zero, List.set_cons_succ]
    refine wpAnyH_take (i := 8) (v := .bool true) rfl (by kernel_rfl) (by kernel_rfl) (by kernel_rfl) (fun _ _ _ h => nomatch h.1) (Or.inl ⟨by rfl, fun w _ => by go_simp⟩) hHeld ?_
    simp only [Act.put, List.getElem_toArray, List.getElem_cons_zero, List.getElem_cons_succ, List.setIfInBounds_toArray, List.set_cons_zero, List.set_cons_succ]
    refine wpAnyH_take (i := 9) (v := .agg (bvA Y)) rfl (by kernel_rfl) (by kernel_rfl) (by kernel_rfl) (fun _ _ _ h => nomatch h.1) (yieldsIf_load_mid (by rfl) 23 (.tmp 15) rfl gx1 0 rfl (Y.map bv) _ (fun _ h => h.2.2.1) key_und rfl (key_szl _ HLY.out)) hHeld ?_
    simp only [Act.put, List.getElem_toArray, List.getElem_cons_zero, List.getElem_cons_succ, List.setIfInBounds_toArray, List.set_cons_zero, List.set_cons_succ]
    refine wpAnyH_take (i := 10) (v := .agg (bvA Y)) rfl (by kernel_rfl) (by kernel_rfl) (by kernel_rfl) (fun _ _ _ h => nomatch h.1) (yieldsIf_load_mid (by rfl) 23 (.tmp 17) rfl gy1 0 rfl (Y.map bv) _ (fun _ h => h.2.2.2.1) key_und rfl (key_szl _ HLY.out)) hHeld ?_
    simp only [Act.put, List.getElem_toArray, List.getElem_cons_zero, List.getElem_cons_succ, List.setIfInBounds_toArray, List.set_cons_zero, List.set_cons_succ]
    refine wpAnyH_take (i := 11) (v := .bool true) rfl (by kernel_rfl) (by kernel_rfl) (by kernel_rfl) (fun _ _ _ h => nomatch h.1) (Or.inl ⟨by rfl, fun w _ => run_eqK (.tmp 56) (.tmp 57) (bvA Y) (bvA Y) true rfl rfl rfl (EY.out w)⟩) hHeld ?_
    simp only [Act.put, List.getElem_toArray, List.getElem_cons_zero, List.getElem_cons_succ, List.setIfInBounds_toArray, List.set_cons_zero, List.set_cons_succ]
    refine wpAnyH_take (i := 12) (v := .bool true) rfl (by kernel_rfl) (by kernel_rfl) (by kernel_rfl) (fun _ _ _ h => nomatch h.1) (Or.inl ⟨by rfl, fun w _ => by go_simp⟩) hHeld ?_
    simp only [Act.put, List.getElem_toArray, List.getElem_cons_zero, List.getElem_cons_succ, List.setIfInBounds_toArray, List.set_cons_zero, List.set_cons_succ]
    refine wpAnyH_take (i := 13) (v := .bool true) rfl (by kernel_rfl) (by kernel_rfl) (by kernel_rfl) (fun _ _ _ h => nomatch h.1) (Or.inl ⟨by rfl, fun w _ => by go_simp⟩) hHeld ?_
    simp only [Act.put, List.getElem_toArray, List.getElem_cons_zero, List.getElem_cons_succ, List.setIfInBounds_toArray, List.set_cons_zero, List.set_cons_succ]
    refine wpAnyH_take (i := 14) (v := .int .i64 c2) rfl (by kernel_rfl) (by kernel_rfl) (by kernel_rfl) (fun _ _ _ h => nomatch h.1) (Or.inl ⟨by rfl, fun w _ => by go_simp⟩) hHeld ?_
    simp only [Act.put, List.getElem_toArray, List.getElem_cons_zero, List.getElem_cons_succ, List.setIfInBounds_toArray, List.set_cons_zero, List.set_cons_succ]
    refine wpAnyH_take (i := 15) (v := .int .i64 c2) rfl (by kernel_rfl) (by kernel_rfl) (by kernel_rfl) (fun _ _ _ h => nomatch h.1) (Or.inl ⟨by rfl, fun w _ => by go_simp⟩) hHeld ?_
    simp only [Act.put, List.getElem_toArray, List.getElem_cons_zero, List.getElem_cons_succ, List.setIfInBounds_toArray, List.set_cons_zero, List.set_cons_succ]
    refine wpAnyH_take (i := 16) (v := .bool true) rfl (by kernel_rfl) (by kernel_rfl) (by kernel_rfl) (fun _ _ _ h => nomatch h.1) (Or.inl ⟨by rfl, fun w _ => by go_simp⟩) hHeld ?_
    simp only [Act.put, List.getElem_toArray, List.getElem_cons_zero, List.getElem_cons_succ, List.setIfInBounds_toArray, List.set_cons_zero, List.set_cons_succ]
    refine wpAnyH_take (i := 17) (v := .bool true) rfl (by kernel_rfl) (by kernel_rfl) (by kernel_rfl) (fun _ _ _ h => nomatch h.1) (Or.inl ⟨by rfl, fun w _ => by go_simp⟩) hHeld ?_
    simp only [Act.put, List.getElem_toArray, List.getElem_cons_zero, List.getElem_cons_succ, List.setIfInBounds_toArray, List.set_cons_zero, List.set_cons_succ]
    refine wpAnyH_take (i := 18) (v := .bool true) rfl (by kernel_rfl) (by kernel_rfl) (by kernel_rfl) (fun _ _ _ h => nomatch h.1) (Or.inl ⟨by rfl, fun w _ => by go_simp⟩) hHeld ?_
    simp only [Act.put, List.getElem_toArray, List.getElem_cons_zero, List.getElem_cons_succ, List.setIfInBounds_toArray, List.set_cons_zero, List.set_cons_succ]
    refine wpAnyH_take (i := 19) (v := .agg (capA A B l)) rfl (by kernel_rfl) (by kernel_rfl) (by kernel_rfl) (fun _ _ _ h => nomatch h.1) (yieldsIf_load_mid (by rfl) 25 (.tmp 9) rfl (w.heap.size + 1 + 1) 0 rfl (capA A B l).toList _ (fun _ h => h.2.2.2.2) cap_und rfl (cap_szL _ _ _ HLL.out)) hHeld ?_
    simp only [Act.put, List.getElem_toArray, List.getElem_cons_zero, List.getElem_cons_succ, List.setIfInBounds_toArray, List.set_cons_zero, List.set_cons_succ]
    refine wpAnyH_take (i := 21) (v := .agg (capA A B l)) rfl (by kernel_rfl) (by kernel_rfl) (by kernel_rfl) (fun _ _ _ h => nomatch h.1) (yieldsIf_load_mid (by rfl) 25 (.tmp 9) rfl (w.heap.size + 1 + 1) 0 rfl (capA A B l).toList _ (fun _ h => h.2.2.2.2) cap_und rfl (cap_szL _ _ _ HLL.out)) hHeld ?_
    simp only [Act.put, List.getElem_toArray, List.getElem_cons_zero, List.getElem_cons_succ, List.setIfInBounds_toArray, List.set_cons_zero, List.set_cons_succ]
    refine wpAnyH_ready (rs := [20]) (by kernel_rfl) (by simp) (AllReadyH.cons rfl (fun K hK => ?_) AllReadyH.nil)
    rw [if_pos (by rfl)]
    go_simp
    with_reducible refine (KC1.out w9.drew).mono ?_
    rintro e v1 ⟨rfl, hb⟩
    replace HE := Lib.hid (HE.out.trans (hb.mono HE.out.size))
    clear hb
    refine hK.out _ _ (HSB.out _ HE.out) (fun hHeld => ?_)
    clear hK K
    try simp only [Act.put, List.getElem_toArray, List.getElem_cons_zero, List.getElem_cons_succ, List.setIfInBounds_toArray, List.set_cons_zero, List.set_cons_succ]
    refine wpAnyH_ready (rs := [22]) (by kernel_rfl) (by simp) (AllReadyH.cons rfl (fun K hK => ?_) AllReadyH.nil)
    rw [if_pos (by rfl)]
    go_simp
    with_reducible refine (KC2.out v1).mono ?_
    rintro e v2 ⟨rfl, hb⟩
    replace HE := Lib.hid (HE.out.trans (hb.mono HE.out.size))
    clear hb
    refine hK.out _ _ (HSB.out _ HE.out) (fun hHeld => ?_)
    clear hK K
    try simp only [Act.put, List.getElem_toArray, List.getElem_cons_zero, List.getElem_cons_succ, List.setIfInBounds_toArray, List.set_cons_zero, List.set_cons_succ]
    refine wpAnyH_take (i := 23) (v := .bool true) rfl (by kernel_rfl) (by kernel_rfl) (by kernel_rfl) (fun _ _ _ h => nomatch h.1) (Or.inl ⟨by rfl, fun w _ => by go_simp⟩) hHeld ?_
    simp only [Act.put, List.getElem_toArray, List.getElem_cons_zero, List.getElem_cons_succ, List.setIfInBounds_toArray, List.set_cons_zero, List.set_cons_succ]
    refine wpAnyH_take (i := 24) (v := .bool true) rfl (by kernel_rfl) (by kernel_rfl) (by kernel_rfl) (fun _ _ _ h => nomatch h.1) (Or.inl ⟨by rfl, fun w _ => by go_simp⟩) hHeld ?_
    simp only [Act.put, List.getElem_toArray, List.getElem_cons_zero, List.getElem_cons_succ, List.setIfInBounds_toArray, List.set_cons_zero, List.set_cons_succ]
    refine wpAnyH_take (i := 25) (v := .bool true) rfl (by kernel_rfl) (by kernel_rfl) (by kernel_rfl) (fun _ _ _ h => nomatch h.1) (Or.inl ⟨by rfl, fun w _ => by go_simp⟩) hHeld ?_
    simp only [Act.put, List.getElem_toArray, List.getElem_cons_zero, List.getElem_cons_succ, List.setIfInBounds_toArray, List.set_cons_zero, List.set_cons_succ]
    refine wpAnyH_done (by kernel_rfl) ?_ _
    exact ⟨rfl, writes_ex (by kernel_rfl) (⟨rfl, HE.out⟩)⟩
  rintro f wr ⟨eo, hb⟩
  have hB9 := HB9.out.below.trans (hb.mono HB9.out.below.size)
  refine hK0 _ _ ?_
  clear hK0 K0
  simp only [writes, List.foldl_cons, List.foldl_nil, Act.put, List.setIfInBounds_toArray, List.set_cons_zero, List.set_cons_succ]
  rw [eo]
  clear eo
  go_wp2_with fail
  go_ret
  exact ⟨rfl, hB9⟩

theorem deq_other {K M1 M2 : List UInt8} (hK : K.length = 32) (h1 : M1.length = 32) (h2 : M2.length = 32) : deq (kxor (kxor K M1) M2) K = deq M1 M2 := by
  unfold deq
  rw [Bool.eq_iff_iff, beq_iff_eq, beq_iff_eq]
  exact kxor_cancel (by omega) (by omega)

set_option maxRecDepth 100000 in
set_option maxHeartbeats 1600000 in
theorem other11_same (a b : Int) (h_a : -9223372036854775808 ≤ a) (k_a : a < 9223372036854775808) (h_b : -9223372036854775808 ≤ b) (k_b : b < 9223372036854775808) (hab : kyQ a = kyQ b) (K S : List UInt8) (hK : K.length = 32) (hS : S.length = 32) (w : World) (hT : Tab w) :
    Calls Tryz.prog 5 #[.int .i64 a, .int .i64 b, .agg (bvA K), .agg (bvA S)] w fun e w' => e = .returned (.bool true) ∧ Below w.heap.size w w' := by
  have KS := Lib.hid (fun W hT => sane11_any W hT)
  have KYa := Lib.hid (fun W => rKey11_any a h_a k_a W)
  have KYb := Lib.hid (fun W => rKey11_any b h_b k_b W)
  rw [← hab] at KYb
  obtain ⟨x, hx0⟩ := exEq (kyQ a)
  rw [hx0] at KYa KYb
  have HLK := Lib.hid hK
  have HLS := Lib.hid hS
  clear hab hx0 h_a k_a h_b k_b hK hS
  have HS0 := Lib.hid (PX.start hT)
  have HS1 := Lib.hid (HS0.out.add 23 (bvA K) (w.heap.size) (by simp))
  have HS2 := Lib.hid (HS1.out.add 23 (bvA S) (w.heap.size + 1) (by simp))
  obtain ⟨wb, hwb⟩ : ∃ wb, wb = ((w.alloc (.cells (bvA K) 23)).alloc (.cells (bvA S) 23)) := ⟨_, rfl⟩
  rw [← hwb] at HS2
  have HB0 := HS2
  clear hT HS0 HS1 HS2
  go_enter Tryz.func5, Tryz.ntmps5
  go_wp2_with fail
  rw [← hwb]
  clear hwb
  with_reducible refine (KS.out _ HB0.out.tab).mono ?_
  rintro e w1 ⟨rfl, hb⟩
  have HB1 := Lib.hid (HB0.out.call hb)
  clear hb HB0
  go_wp2_with fail
  with_reducible refine (KYa.out _).mono ?_
  rintro e wo ⟨rfl, hwo⟩
  rw [hwo]
  clear hwo wo
  go_wp2_with fail
  with_reducible refine (KYb.out _).mono ?_
  rintro e wo ⟨rfl, hwo⟩
  rw [hwo]
  clear hwo wo
  go_wp2_with fail
  go_ret
  exact ⟨rfl, HB1.out.below⟩

set_option maxRecDepth 100000 in
set_option maxHeartbeats 1600000 in
theorem other11_ne (a b : Int) (h_a : -9223372036854775808 ≤ a) (k_a : a < 9223372036854775808) (h_b : -9223372036854775808 ≤ b) (k_b : b < 9223372036854775808) (hab : kyQ a ≠ kyQ b) (K S : List UInt8) (hK : K.length = 32) (hS : S.length = 32) (w : World) (hT : Tab w) :
    Calls Tryz.prog 5 #[.int .i64 a, .int .i64 b, .agg (bvA K), .agg (bvA S)] w fun e w' => e = .returned (.bool true) ∧ Below w.heap.size w w' := by
  have KS := Lib.hid (fun W hT => sane11_any W hT)
  have KYa := Lib.hid (fun W => rKey11_any a h_a k_a W)
  have KYb := Lib.hid (fun W => rKey11_any b h_b k_b W)
  have hx := kyQ_pk a
  have hy := kyQ_pk b
  obtain ⟨x, hx0⟩ := exEq (kyQ a)
  obtain ⟨y, hy0⟩ := exEq (kyQ b)
  rw [hx0] at KYa hx hab
  rw [hy0] at KYb hy hab
  clear hx0 hy0 h_a k_a h_b k_b
  have q1 := lk_isA (x := x) S
  have q2 := lk_isB S
  have HLX : Hid ((lkX S K).length = 32) := Lib.hid (lkX_len S hK)
  have KB := Lib.hid (fun W => gBase_okP x hx.2 W)
  have KL := Lib.hid (fun W hT => Lock_ok (4 ^ x % 4611686018427377339) K S (pow_isP El4 x) hK hS W hT)
  have KO := Lib.hid (fun W hT => Open_ok y _ _ (lkX S K) hy q1 q2 HLX.out W hT)
  have KH1 := Lib.hid (fun W hT => hidden_ok x _ _ (lkX S K) hx q1 q2 HLX.out W hT)
  have KH2 := Lib.hid (fun W hT => hidden_ok y _ _ (lkX S K) hy q1 q2 HLX.out W hT)
  have HNE := opM_other hx hy hab (lkR_key S) (lkM S)
  have HDQ := deq_other (K := K) (M1 := pmS ((4 ^ lkM S % 4611686018427377339 : Nat) : Int)) (M2 := pmS ((opM y (lkA (4 ^ x % 4611686018427377339) (lkR S)) (lkB (lkR S) (lkM S)) : Nat) : Int)) hK (pmS_len _) (pmS_len _)
  rw [show kxor K (pmS ((4 ^ lkM S % 4611686018427377339 : Nat) : Int)) = lkX S K from rfl] at HDQ
  rw [opM_lock hx] at KH1 HNE
  have KM1 := Lib.hid (fun W hT => rMask_any ((4 ^ lkM S % 4611686018427377339 : Nat) : Int) W hT)
  have KM2 := Lib.hid (fun W hT => rMask_any ((opM y (lkA (4 ^ x % 4611686018427377339) (lkR S)) (lkB (lkR S) (lkM S)) : Nat) : Int) W hT)
  have HLZ2 : Hid ((kxor (lkX S K) (pmS ((opM y (lkA (4 ^ x % 4611686018427377339) (lkR S)) (lkB (lkR S) (lkM S)) : Nat) : Int))).length = 32) := Lib.hid (kxor_len HLX.out (pmS_len _))
  have HM1 := Lib.hid (pmS_len ((4 ^ lkM S % 4611686018427377339 : Nat) : Int))
  have HM2 := Lib.hid (pmS_len ((opM y (lkA (4 ^ x % 4611686018427377339) (lkR S)) (lkB (lkR S) (lkM S)) : Nat) : Int))
  obtain ⟨Y, hY⟩ := exEq (kxor (lkX S K) (pmS ((opM y (lkA (4 ^ x % 4611686018427377339) (lkR S)) (lkB (lkR S) (lkM S)) : Nat) : Int)))
  rw [hY] at KO HDQ HLZ2
  obtain ⟨M1, hM1⟩ := exEq (pmS ((4 ^ lkM S % 4611686018427377339 : Nat) : Int))
  rw [hM1] at KM1 HM1 HDQ
  obtain ⟨M2, hM2⟩ := exEq (pmS ((opM y (lkA (4 ^ x % 4611686018427377339) (lkR S)) (lkB (lkR S) (lkM S)) : Nat) : Int))
  rw [hM2] at KM2 HM2 HDQ
  have HLK := Lib.hid hK
  have HLS := Lib.hid hS
  obtain ⟨v, hv⟩ := exEq (opM y (lkA (4 ^ x % 4611686018427377339) (lkR S)) (lkB (lkR S) (lkM S)))
  rw [hv] at KH2 HNE KM2
  obtain ⟨X, hX⟩ := exEq (lkX S K)
  rw [hX] at KL KO KH1 KH2 HLX
  obtain ⟨A, hA⟩ := exEq (lkA (4 ^ x % 4611686018427377339) (lkR S))
  rw [hA] at KL KO KH1 KH2
  obtain ⟨B, hB⟩ := exEq (lkB (lkR S) (lkM S))
  rw [hB] at KL KO KH1 KH2
  obtain ⟨z, hz⟩ := exEq (4 ^ x % 4611686018427377339)
  rw [hz] at KB KL
  obtain ⟨u, hu⟩ := exEq (4 ^ lkM S % 4611686018427377339)
  rw [hu] at KH1 HNE KM1
  obtain ⟨q, hq⟩ := exEq (deq M1 M2)
  have E1 := Lib.hid (fun W => equal_keyN 9998 Y K HLZ2.out hK W)
  have E2 := Lib.hid (fun W => equal_keyN 9998 M1 M2 HM1.out HM2.out W)
  rw [HDQ, hq] at E1
  rw [hq] at E2
  have f1 : ((x : Int) == (y : Int)) = false := beq_eq_false_iff_ne.2 (fun h => hab (Int.ofNat.inj h))
  have f2 : ((u : Int) == (v : Int)) = false := beq_eq_false_iff_ne.2 (fun h => HNE (Int.ofNat.inj h))
  clear hY hM1 hM2 hv hX hA hB hz hu hq HDQ HNE hab q1 q2 hK hS hx hy
  have hzc := fun W => zero_cap W
  have hzk := fun W => zero_ky W
  have HLZ := Lib.hid kZ_len
  have HS0 := Lib.hid (PX.start hT)
  have HS1 := Lib.hid (HS0.out.add 23 (bvA K) (w.heap.size) (by simp))
  have HS2 := Lib.hid (HS1.out.add 23 (bvA S) (w.heap.size + 1) (by simp))
  obtain ⟨wb, hwb⟩ : ∃ wb, wb = ((w.alloc (.cells (bvA K) 23)).alloc (.cells (bvA S) 23)) := ⟨_, rfl⟩
  rw [← hwb] at HS2
  have HB0 := HS2
  clear hT HS0 HS1 HS2
  go_enter Tryz.func5, Tryz.ntmps5
  go_wp2_with fail
  rw [← hwb]
  clear hwb
  with_reducible refine (KS.out _ HB0.out.tab).mono ?_
  rintro e w1 ⟨rfl, hb⟩
  have HB1 := Lib.hid (HB0.out.call hb)
  clear hb HB0
  go_wp2_with fail
  with_reducible refine (KYa.out _).mono ?_
  rintro e wo ⟨rfl, hwo⟩
  rw [hwo]
  clear hwo wo
  go_wp2_with fail
  with_reducible refine (KYb.out _).mono ?_
  rintro e wo ⟨rfl, hwo⟩
  rw [hwo]
  clear hwo wo
  go_wp2_with fail
  with_reducible refine (KB.out _).mono ?_
  rintro e w2 ⟨rfl, hb⟩
  have HB2 := Lib.hid (HB1.out.call hb)
  clear hb HB1
  go_wp2_with (first
    | (refine wpList_load_row rfl 23 (.tmp 6) rfl w.heap.size rfl _ (bvA K) (0, 0) _ (HB2.out.blk w.heap.size 23 (bvA K) (List.Mem.tail _ (List.Mem.head _))) key_und rfl (key_sz _ HLK.out) ?_)
    | (refine wpList_load_row rfl 23 (.tmp 7) rfl (w.heap.size + 1) rfl _ (bvA S) (0, 0) _ (HB2.out.blk (w.heap.size + 1) 23 (bvA S) (List.Mem.head _)) key_und rfl (key_sz _ HLS.out) ?_))
  with_reducible refine (KL.out _ HB2.out.tab).mono ?_
  rintro e w3 ⟨rfl, hb⟩
  have HB3 := Lib.hid (HB2.out.call hb)
  clear hb HB2
  go_wp2_with (refine wpList_storeA rfl 25 (.tmp 13) (.tmp 40) rfl w3.heap.size (capA (A : Int) (B : Int) X) rfl rfl 25 _ (CB.new w3 _ (capA 0 0 kZ)) (cap_sz _ _ _ HLX.out) (cap_old _ _ _ _ _ _ kZ_len HLX.out) (capA_one _ _ _) ?_)
  intro w4 hst hgr
  have HB4 := Lib.hid (HB3.out.stored 25 _ (capA (A : Int) (B : Int) X) hst hgr)
  clear hst hgr HB3
  generalize w3.heap.size = gc at *
  go_wp2_with (refine wpList_load_row rfl 25 (.tmp 13) rfl gc rfl _ (capA (A : Int) (B : Int) X) (0, 0) _ (HB4.out.blk gc 25 (capA (A : Int) (B : Int) X) (List.Mem.head _)) cap_und rfl (cap_sz _ _ _ HLX.out) ?_)
  with_reducible refine (KO.out _ HB4.out.tab).mono ?_
  rintro e w5 ⟨rfl, hb⟩
  have HB5 := Lib.hid (HB4.out.call hb)
  clear hb HB4
  go_wp2_with (refine wpList_storeA rfl 23 (.tmp 15) (.tmp 46) rfl w5.heap.size (bvA Y) rfl rfl 23 _ (CB.new w5 _ (bvA kZ)) (key_sz _ HLZ2.out) (key_old _ HLZ2.out) (bvA_one _) ?_)
  intro w6 hst hgr
  have HB6 := Lib.hid (HB5.out.stored 23 _ (bvA Y) hst hgr)
  clear hst hgr HB5
  generalize w5.heap.size = gy1 at *
  go_wp2_with (refine wpList_load_row rfl 25 (.tmp 13) rfl gc rfl _ (capA (A : Int) (B : Int) X) (0, 0) _ (HB6.out.blk gc 25 (capA (A : Int) (B : Int) X) (List.Mem.tail _ (List.Mem.head _))) cap_und rfl (cap_sz _ _ _ HLX.out) ?_)
  with_reducible refine (KH1.out _ HB6.out.tab).mono ?_
  rintro e w7 ⟨rfl, hb⟩
  have HB7 := Lib.hid (HB6.out.call hb)
  clear hb HB6
  go_wp2_with (refine wpList_load_row rfl 25 (.tmp 13) rfl gc rfl _ (capA (A : Int) (B : Int) X) (0, 0) _ (HB7.out.blk gc 25 (capA (A : Int) (B : Int) X) (List.Mem.tail _ (List.Mem.head _))) cap_und rfl (cap_sz _ _ _ HLX.out) ?_)
  with_reducible refine (KH2.out _ HB7.out.tab).mono ?_
  rintro e w8 ⟨rfl, hb⟩
  have HB8 := Lib.hid (HB7.out.call hb)
  clear hb HB7
  go_wp2_with fail
  rename_i K0 hK0
  refine region_writes [83, 84, 85, 86, 87, 88, 89, 90, 91, 8] (fun f W => f 8 = .bool true ∧ Below w8.heap.size w8 W) ?_ ?_
  rotate_left
  · clear hK0 K0
    have HE : Hid (Below w8.heap.size w8 w8.drew) := Lib.hid ((Below.refl _ _).drew)
    have HSB : Hid (∀ W, Below w8.heap.size w8 W → (W.rangeAt gy1 0 (Y.map bv) ∧ W.rangeAt w.heap.size 0 (K.map bv))) := Lib.hid (fun W hW => ⟨(BB.range (((HB8.out.blk gy1 23 (bvA Y) (List.Mem.head _))).call hW)), (BB.range (((HB8.out.blk w.heap.size 23 (bvA K) (List.Mem.tail _ (List.Mem.tail _ (List.Mem.tail _ (List.Mem.head _)))))).call hW))⟩)
    refine wp_region_held_drew (S := fun W => W.rangeAt gy1 0 (Y.map bv) ∧ W.rangeAt w.heap.size 0 (K.map bv)) (by kernel_rfl) (HSB.out _ HE.out) (fun hHeld => ?_)
    refine wpAnyH_take (i := 0) (v := .agg (bvA Y)) rfl (by kernel_rfl) (by kernel_rfl) (by kernel_rfl) (fun _ _ _ h => nomatch h.1) (yieldsIf_load_mid (by rfl) 23 (.tmp 15) rfl gy1 0 rfl (Y.map bv) _ (fun _ h => h.1) key_und rfl (key_szl _ HLZ2.out)) hHeld ?_
    simp only [Act.put, List.getElem_toArray, List.getElem_cons_zero, List.getElem_cons_succ, List.setIfInBounds_toArray, List.set_cons_zero, List.set_cons_succ]
    refine wpAnyH_take (i := 1) (v := .agg (bvA K)) rfl (by kernel_rfl) (by kernel_rfl) (by kernel_rfl) (fun _ _ _ h => nomatch h.1) (yieldsIf_load_mid (by rfl) 23 (.tmp 6) rfl w.heap.size 0 rfl (K.map bv) _ (fun _ h => h.2) key_und rfl (key_szl _ HLK.out)) hHeld ?_
    simp only [Act.put, List.getElem_toArray, List.getElem_cons_zero, List.getElem_cons_succ, List.setIfInBounds_toArray, List.set_cons_zero, List.set_cons_succ]
    refine wpAnyH_take (i := 2) (v := .bool q) rfl (by kernel_rfl) (by kernel_rfl) (by kernel_rfl) (fun _ _ _ h => nomatch h.1) (Or.inl ⟨by rfl, fun w _ => run_eqK (.tmp 83) (.tmp 84) (bvA Y) (bvA K) q rfl rfl rfl (E1.out w)⟩) hHeld ?_
    simp only [Act.put, List.getElem_toArray, List.getElem_cons_zero, List.getElem_cons_succ, List.setIfInBounds_toArray, List.set_cons_zero, List.set_cons_succ]
    refine wpAnyH_take (i := 3) (v := .int .i64 (u : Int)) rfl (by kernel_rfl) (by kernel_rfl) (by kernel_rfl) (fun _ _ _ h => nomatch h.1) (Or.inl ⟨by rfl, fun w _ => by go_simp⟩) hHeld ?_
    simp only [Act.put, List.getElem_toArray, List.getElem_cons_zero, List.getElem_cons_succ, List.setIfInBounds_toArray, List.set_cons_zero, List.set_cons_succ]
    refine wpAnyH_take (i := 5) (v := .int .i64 (v : Int)) rfl (by kernel_rfl) (by kernel_rfl) (by kernel_rfl) (fun _ _ _ h => nomatch h.1) (Or.inl ⟨by rfl, fun w _ => by go_simp⟩) hHeld ?_
    simp only [Act.put, List.getElem_toArray, List.getElem_cons_zero, List.getElem_cons_succ, List.setIfInBounds_toArray, List.set_cons_zero, List.set_cons_succ]
    refine wpAnyH_ready (rs := [4]) (by kernel_rfl) (by simp) (AllReadyH.cons rfl (fun K hK => ?_) AllReadyH.nil)
    rw [if_pos (by rfl)]
    go_simp
    with_reducible refine (KM1.out w8.drew (HB8.out.call HE.out).tab).mono ?_
    rintro e v1 ⟨rfl, hb⟩
    replace HE := Lib.hid (HE.out.trans (hb.mono HE.out.size))
    clear hb
    refine hK.out _ _ (HSB.out _ HE.out) (fun hHeld => ?_)
    clear hK K
    try simp only [Act.put, List.getElem_toArray, List.getElem_cons_zero, List.getElem_cons_succ, List.setIfInBounds_toArray, List.set_cons_zero, List.set_cons_succ]
    refine wpAnyH_ready (rs := [6]) (by kernel_rfl) (by simp) (AllReadyH.cons rfl (fun K hK => ?_) AllReadyH.nil)
    rw [if_pos (by rfl)]
    go_simp
    with_reducible refine (KM2.out v1 (HB8.out.call HE.out).tab).mono ?_
    rintro e v2 ⟨rfl, hb⟩
    replace HE := Lib.hid (HE.out.trans (hb.mono HE.out.size))
    clear hb
    refine hK.out _ _ (HSB.out _ HE.out) (fun hHeld => ?_)
    clear hK K
    try simp only [Act.put, List.getElem_toArray, List.getElem_cons_zero, List.getElem_cons_succ, List.setIfInBounds_toArray, List.set_cons_zero, List.set_cons_succ]
    refine wpAnyH_take (i := 7) (v := .bool q) rfl (by kernel_rfl) (by kernel_rfl) (by kernel_rfl) (fun _ _ _ h => nomatch h.1) (Or.inl ⟨by rfl, fun w _ => run_eqK (.tmp 87) (.tmp 89) (bvA M1) (bvA M2) q rfl rfl rfl (E2.out w)⟩) hHeld ?_
    simp only [Act.put, List.getElem_toArray, List.getElem_cons_zero, List.getElem_cons_succ, List.setIfInBounds_toArray, List.set_cons_zero, List.set_cons_succ]
    refine wpAnyH_take (i := 8) (v := .bool true) rfl (by kernel_rfl) (by kernel_rfl) (by kernel_rfl) (fun _ _ _ h => nomatch h.1) (Or.inl ⟨by rfl, fun w _ => by go_simp⟩) hHeld ?_
    simp only [Act.put, List.getElem_toArray, List.getElem_cons_zero, List.getElem_cons_succ, List.setIfInBounds_toArray, List.set_cons_zero, List.set_cons_succ]
    refine wpAnyH_take (i := 9) (v := .bool true) rfl (by kernel_rfl) (by kernel_rfl) (by kernel_rfl) (fun _ _ _ h => nomatch h.1) (Or.inl ⟨by rfl, fun w _ => by go_simp⟩) hHeld ?_
    simp only [Act.put, List.getElem_toArray, List.getElem_cons_zero, List.getElem_cons_succ, List.setIfInBounds_toArray, List.set_cons_zero, List.set_cons_succ]
    refine wpAnyH_done (by kernel_rfl) ?_ _
    exact ⟨rfl, writes_ex (by kernel_rfl) (⟨rfl, HE.out⟩)⟩
  rintro f wr ⟨eo, hb⟩
  have hB9 := HB8.out.below.trans (hb.mono HB8.out.below.size)
  refine hK0 _ _ ?_
  clear hK0 K0
  simp only [writes, List.foldl_cons, List.foldl_nil, Act.put, List.setIfInBounds_toArray, List.set_cons_zero, List.set_cons_succ]
  rw [eo]
  clear eo
  go_wp2_with fail
  go_ret
  exact ⟨rfl, hB9⟩
theorem other11_walk (a b : Int) (h_a : -9223372036854775808 ≤ a) (k_a : a < 9223372036854775808) (h_b : -9223372036854775808 ≤ b) (k_b : b < 9223372036854775808) (K S : List UInt8) (hK : K.length = 32) (hS : S.length = 32) (w : World) (hT : Tab w) :
    Calls Tryz.prog 5 #[.int .i64 a, .int .i64 b, .agg (bvA K), .agg (bvA S)] w fun e w' => e = .returned (.bool true) ∧ Below w.heap.size w w' := by
  by_cases h : kyQ a = kyQ b
  · exact other11_same a b h_a k_a h_b k_b h K S hK hS w hT
  · exact other11_ne a b h_a k_a h_b k_b h K S hK hS w hT
end Go.Proofs.YteigldfdaciopaaGreatDoor
