/-
  The reference of proxy: Lock, Open, Factor, Turn, Mask; what a private key finds.
-/
import Derived.Test.YteigldfdaciopaaGreatDoorLp
namespace Go.Proofs.YteigldfdaciopaaGreatDoor
open Go.RowKit
set_option linter.unusedVariables false
set_option linter.unusedSimpArgs false

set_option maxRecDepth 100000 in
theorem built_key0 : Tryz.prog.built 23 [] = some (bvA kZ) := by kernel_rfl
theorem hExp_okP (a k : Nat) (ha : IsEl (a : Int)) (hk : k < 2305843009213688669) (w : World) : Calls Tryz.prog 33 #[.int .i64 a, .int .i64 k] w fun e w' => e = .returned (.tuple #[.int .i64 ((a ^ k % 4611686018427377339 : Nat) : Int), .int .i64 0]) ∧ w' = w := by
  have h := hExp_any a k w
  rw [expR_ok ha hk] at h
  exact h
theorem hBase_okP (k : Nat) (hk : k < 2305843009213688669) (w : World) : Calls Tryz.prog 32 #[.int .i64 k] w fun e w' => e = .returned (.tuple #[.int .i64 ((4 ^ k % 4611686018427377339 : Nat) : Int), .int .i64 0]) ∧ w' = w := by
  have h := hBase_any k w
  rw [show (4 : Int) = ((4 : Nat) : Int) from rfl, expR_ok four4P hk] at h
  exact h
theorem hMul_okP (a b : Nat) (ha : IsEl (a : Int)) (hb : IsEl (b : Int)) (w : World) : Calls Tryz.prog 34 #[.int .i64 a, .int .i64 b] w fun e w' => e = .returned (.tuple #[.int .i64 ((a * b % 4611686018427377339 : Nat) : Int), .int .i64 0]) ∧ w' = w := by
  have h := hMul_any a b w
  rw [mulR_ok ha hb] at h
  exact h
theorem hInv_okP (a : Nat) (ha : IsEl (a : Int)) (w : World) : Calls Tryz.prog 42 #[.int .i64 a] w fun e w' => e = .returned (.tuple #[.int .i64 ((a ^ (oQ - 1) % 4611686018427377339 : Nat) : Int), .int .i64 0]) ∧ w' = w := by
  have h := hInv_any a w
  rw [invR_ok ha] at h
  exact h
set_option maxRecDepth 100000 in
theorem rCheck11_any (a b : Int) (l : List UInt8) (w : World) :
    Calls Tryz.prog 12 #[.agg (capA a b l)] w fun e w' => e = .returned (.int .i64 (ckR a b)) ∧ Below w.heap.size w w' := by
  have HB1 : Hid (Below w.heap.size w (w.alloc (.cells (capA a b l) 25))) := Lib.hid ((Below.refl _ _).alloc (Nat.le_refl _) _)
  have c0 := (CB.new w 25 (capA a b l)).A
  have c1 := (CB.new w 25 (capA a b l)).B
  by_cases ha : IsEl a
  · by_cases hb : IsEl b
    · have k1 := fun W => hCheck_ok a ha W
      have k2 := fun W => hCheck_ok b hb W
      rw [ckR_ok ha hb]
      go_enter Tryz.func12, Tryz.ntmps12
      go_wp2_with (first
        | (go_at_call 30; with_reducible refine (k1 _).mono ?_; rintro e wo ⟨rfl, hwo⟩; rw [hwo]; clear hwo wo)
        | (go_at_call 30; with_reducible refine (k2 _).mono ?_; rintro e wo ⟨rfl, hwo⟩; rw [hwo]; clear hwo wo))
      go_ret
      exact ⟨rfl, HB1.out⟩
    · have k1 := fun W => hCheck_ok a ha W
      have k2 := fun W => hCheck_bad b hb W
      rw [ckR_bad2 a hb]
      go_enter Tryz.func12, Tryz.ntmps12
      go_wp2_with (first
        | (go_at_call 30; with_reducible refine (k1 _).mono ?_; rintro e wo ⟨rfl, hwo⟩; rw [hwo]; clear hwo wo)
        | (go_at_call 30; with_reducible refine (k2 _).mono ?_; rintro e wo ⟨rfl, hwo⟩; rw [hwo]; clear hwo wo))
      go_ret
      exact ⟨rfl, HB1.out⟩
  · have k1 := fun W => hCheck_bad a ha W
    rw [ckR_bad1 b ha]
    go_enter Tryz.func12, Tryz.ntmps12
    go_wp2_with (go_at_call 30; with_reducible refine (k1 _).mono ?_; rintro e wo ⟨rfl, hwo⟩; rw [hwo]; clear hwo wo)
    go_ret
    exact ⟨rfl, HB1.out⟩

set_option maxRecDepth 100000 in
set_option maxHeartbeats 1600000 in
theorem rLock_ok (p : Nat) (K S : List UInt8) (hp : IsEl (p : Int)) (hK : K.length = 32) (hS : S.length = 32) (w : World) (hT : Tab w) :
    Calls Tryz.prog 8 #[.int .i64 p, .agg (bvA K), .agg (bvA S)] w fun e w' => e = .returned (.tuple #[.agg (capA ((lkA p (lkR S) : Nat) : Int) ((lkB (lkR S) (lkM S) : Nat) : Int) (lkX S K)), .int .i64 0]) ∧ Below w.heap.size w w' := by
  have K1 := Lib.hid (fun W => hCheck_ok p hp W)
  have K2 := Lib.hid (fun W => rDScalar_any S hS ⟨#[108, 111, 99, 107]⟩ W (by decide))
  have K3 := Lib.hid (fun W => rDScalar_any S hS ⟨#[109, 97, 115, 107]⟩ W (by decide))
  rw [show scS S ⟨#[108, 111, 99, 107]⟩ = lkR S from rfl] at K2
  rw [show scS S ⟨#[109, 97, 115, 107]⟩ = lkM S from rfl] at K3
  have K4 := Lib.hid (fun W => hBase_okP (lkM S) (lkM_lt S) W)
  have K5 := Lib.hid (fun W => hExp_okP p (lkR S) hp (lkR_lt S) W)
  rw [show p ^ lkR S % 4611686018427377339 = lkA p (lkR S) from rfl] at K5
  have K6 := Lib.hid (fun W => hBase_okP (lkR S) (lkR_lt S) W)
  have K7 := Lib.hid (fun W => hMul_okP (4 ^ lkM S % 4611686018427377339) (4 ^ lkR S % 4611686018427377339) (pow_isP El4 _) (pow_isP El4 _) W)
  rw [lkB_eq] at K7
  have K8 := Lib.hid (fun W => rMasked_any K hK ((4 ^ lkM S % 4611686018427377339 : Nat) : Int) W)
  rw [show kxor K (pmS ((4 ^ lkM S % 4611686018427377339 : Nat) : Int)) = lkX S K from rfl] at K8
  have HLX : Hid ((lkX S K).length = 32) := Lib.hid (lkX_len S hK)
  have HLK := Lib.hid hK
  have HLS := Lib.hid hS
  obtain ⟨X, hX⟩ := exEq (lkX S K)
  rw [hX] at K8 HLX ⊢
  obtain ⟨A, hA⟩ := exEq (lkA p (lkR S))
  rw [hA] at K5 ⊢
  obtain ⟨B, hB⟩ := exEq (lkB (lkR S) (lkM S))
  rw [hB] at K7 ⊢
  obtain ⟨m, hm⟩ := exEq (4 ^ lkM S % 4611686018427377339)
  rw [hm] at K4 K7 K8
  obtain ⟨z, hz⟩ := exEq (4 ^ lkR S % 4611686018427377339)
  rw [hz] at K6 K7
  obtain ⟨r, hr⟩ := exEq (lkR S)
  rw [hr] at K2 K5 K6
  obtain ⟨s, hs⟩ := exEq (lkM S)
  rw [hs] at K3 K4
  clear hX hA hB hm hz hr hs hp hK hS
  have hzc := fun W => zero_cap W
  have hzk := fun W => zero_ky W
  have HLZ := Lib.hid kZ_len
  have HS0 := Lib.hid (PX.start hT)
  have HS1 := Lib.hid (HS0.out.add 23 (bvA K) (w.heap.size) (by simp))
  have HS2 := Lib.hid (HS1.out.add 23 (bvA S) (w.heap.size + 1) (by simp))
  have HS3 := Lib.hid (HS2.out.add 25 (capA 0 0 kZ) (w.heap.size + 1 + 1) (by simp))
  obtain ⟨wb, hwb⟩ : ∃ wb, wb = (((w.alloc (.cells (bvA K) 23)).alloc (.cells (bvA S) 23)).alloc (.cells (capA 0 0 kZ) 25)) := ⟨_, rfl⟩
  rw [← hwb] at HS3
  have HB0 := HS3
  clear hT HS0 HS1 HS2 HS3
  have HWB : Hid ((((w.alloc (.cells (bvA K) 23)).alloc (.cells (bvA S) 23)).alloc (.cells (capA 0 0 kZ) 25)) = wb) := Lib.hid hwb.symm
  clear hwb
  go_enter Tryz.func8, Tryz.ntmps8
  go_wp2_with fail
  rw [HWB.out]
  clear HWB
  with_reducible refine (K1.out _).mono ?_
  rintro e wo ⟨rfl, hwo⟩
  rw [hwo]
  clear hwo wo
  go_wp2_with (first
    | (refine wpList_load_row rfl 23 (.tmp 5) rfl (w.heap.size + 1) rfl _ (bvA S) (0, 0) _ (HB0.out.blk (w.heap.size + 1) 23 (bvA S) (List.Mem.tail _ (List.Mem.head _))) key_und rfl (key_sz _ HLS.out) ?_)
    | (refine wpList_run (by rfl) (.agg (capA (A : Int) (B : Int) X)) (exec_built 25 #[(0, .tmp 49), (1, .tmp 50), (2, .tmp 53)] rfl [(0, .int .i64 (A : Int)), (1, .int .i64 (B : Int)), (2, .agg (bvA X))] (by kernel_rfl) _ (built_cap _ _ _ HLX.out)) ?_))
  with_reducible refine (K2.out _).mono ?_
  rintro e w1 ⟨rfl, hb⟩
  have HB1 := Lib.hid (HB0.out.call hb)
  clear hb HB0
  go_wp2_with (first
    | (refine wpList_load_row rfl 23 (.tmp 5) rfl (w.heap.size + 1) rfl _ (bvA S) (0, 0) _ (HB1.out.blk (w.heap.size + 1) 23 (bvA S) (List.Mem.tail _ (List.Mem.head _))) key_und rfl (key_sz _ HLS.out) ?_)
    | (refine wpList_run (by rfl) (.agg (capA (A : Int) (B : Int) X)) (exec_built 25 #[(0, .tmp 49), (1, .tmp 50), (2, .tmp 53)] rfl [(0, .int .i64 (A : Int)), (1, .int .i64 (B : Int)), (2, .agg (bvA X))] (by kernel_rfl) _ (built_cap _ _ _ HLX.out)) ?_))
  with_reducible refine (K3.out _).mono ?_
  rintro e w2 ⟨rfl, hb⟩
  have HB2 := Lib.hid (HB1.out.call hb)
  clear hb HB1
  go_wp2_with (refine wpList_run (by rfl) (.agg (capA (A : Int) (B : Int) X)) (exec_built 25 #[(0, .tmp 49), (1, .tmp 50), (2, .tmp 53)] rfl [(0, .int .i64 (A : Int)), (1, .int .i64 (B : Int)), (2, .agg (bvA X))] (by kernel_rfl) _ (built_cap _ _ _ HLX.out)) ?_)
  with_reducible refine (K4.out _).mono ?_
  rintro e wo ⟨rfl, hwo⟩
  rw [hwo]
  clear hwo wo
  go_wp2_with (refine wpList_run (by rfl) (.agg (capA (A : Int) (B : Int) X)) (exec_built 25 #[(0, .tmp 49), (1, .tmp 50), (2, .tmp 53)] rfl [(0, .int .i64 (A : Int)), (1, .int .i64 (B : Int)), (2, .agg (bvA X))] (by kernel_rfl) _ (built_cap _ _ _ HLX.out)) ?_)
  with_reducible refine (K5.out _).mono ?_
  rintro e wo ⟨rfl, hwo⟩
  rw [hwo]
  clear hwo wo
  go_wp2_with (refine wpList_run (by rfl) (.agg (capA (A : Int) (B : Int) X)) (exec_built 25 #[(0, .tmp 49), (1, .tmp 50), (2, .tmp 53)] rfl [(0, .int .i64 (A : Int)), (1, .int .i64 (B : Int)), (2, .agg (bvA X))] (by kernel_rfl) _ (built_cap _ _ _ HLX.out)) ?_)
  with_reducible refine (K6.out _).mono ?_
  rintro e wo ⟨rfl, hwo⟩
  rw [hwo]
  clear hwo wo
  go_wp2_with (refine wpList_run (by rfl) (.agg (capA (A : Int) (B : Int) X)) (exec_built 25 #[(0, .tmp 49), (1, .tmp 50), (2, .tmp 53)] rfl [(0, .int .i64 (A : Int)), (1, .int .i64 (B : Int)), (2, .agg (bvA X))] (by kernel_rfl) _ (built_cap _ _ _ HLX.out)) ?_)
  with_reducible refine (K7.out _).mono ?_
  rintro e wo ⟨rfl, hwo⟩
  rw [hwo]
  clear hwo wo
  go_wp2_with (first
    | (refine wpList_load_row rfl 23 (.tmp 4) rfl w.heap.size rfl _ (bvA K) (0, 0) _ (HB2.out.blk w.heap.size 23 (bvA K) (List.Mem.tail _ (List.Mem.tail _ (List.Mem.head _)))) key_und rfl (key_sz _ HLK.out) ?_)
    | (refine wpList_run (by rfl) (.agg (capA (A : Int) (B : Int) X)) (exec_built 25 #[(0, .tmp 49), (1, .tmp 50), (2, .tmp 53)] rfl [(0, .int .i64 (A : Int)), (1, .int .i64 (B : Int)), (2, .agg (bvA X))] (by kernel_rfl) _ (built_cap _ _ _ HLX.out)) ?_))
  with_reducible refine (K8.out _).mono ?_
  rintro e w3 ⟨rfl, hb⟩
  have HB3 := Lib.hid (HB2.out.call hb)
  clear hb HB2
  go_wp2_with (first
    | (refine wpList_run (by rfl) (.agg (capA (A : Int) (B : Int) X)) (exec_built 25 #[(0, .tmp 49), (1, .tmp 50), (2, .tmp 53)] rfl [(0, .int .i64 (A : Int)), (1, .int .i64 (B : Int)), (2, .agg (bvA X))] (by kernel_rfl) _ (built_cap _ _ _ HLX.out)) ?_)
    | (refine wpList_storeA rfl 25 (.tmp 6) (.tmp 54) rfl (w.heap.size + 1 + 1) (capA (A : Int) (B : Int) X) rfl rfl 25 _ (HB3.out.blk (w.heap.size + 1 + 1) 25 (capA 0 0 kZ) (List.Mem.head _)) (cap_sz _ _ _ HLX.out) (cap_old _ _ _ _ _ _ kZ_len HLX.out) (capA_one _ _ _) ?_))
  intro w99 hn hg
  have hB9 := grown_below HB3.out.below hg (show w.heap.size ≤ (w.heap.size + 1 + 1) by omega) HB3.out.below.size
  go_wp2_with fail
  refine bodyPost_ret (v := .tuple #[.agg (capA (A : Int) (B : Int) X), .int .i64 (0)]) ?_ rfl ⟨rfl, hB9⟩
  exact results_cell_row_tmp rfl _ _ ((w.heap.size + 1 + 1)) 25 _ (0, 0) _ rfl hn cap_und rfl (cap_sz _ _ _ HLX.out) _ rfl

set_option maxRecDepth 100000 in
set_option maxHeartbeats 1600000 in
theorem rLock_bad (p : Int) (K S : List UInt8) (hp : ¬ IsEl p) (w : World) (hT : Tab w) :
    Calls Tryz.prog 8 #[.int .i64 p, .agg (bvA K), .agg (bvA S)] w fun e w' => e = .returned (.tuple #[.agg (capA 0 0 kZ), .int .i64 40]) ∧ Below w.heap.size w w' := by
  have K1 := Lib.hid (fun W => hCheck_bad p hp W)
  have HLK := Lib.hid kZ_len
  have HLS := Lib.hid kZ_len
  clear hp
  have hzc := fun W => zero_cap W
  have hzk := fun W => zero_ky W
  have HLZ := Lib.hid kZ_len
  have HS0 := Lib.hid (PX.start hT)
  have HS1 := Lib.hid (HS0.out.add 23 (bvA K) (w.heap.size) (by simp))
  have HS2 := Lib.hid (HS1.out.add 23 (bvA S) (w.heap.size + 1) (by simp))
  have HS3 := Lib.hid (HS2.out.add 25 (capA 0 0 kZ) (w.heap.size + 1 + 1) (by simp))
  obtain ⟨wb, hwb⟩ : ∃ wb, wb = (((w.alloc (.cells (bvA K) 23)).alloc (.cells (bvA S) 23)).alloc (.cells (capA 0 0 kZ) 25)) := ⟨_, rfl⟩
  rw [← hwb] at HS3
  have HB0 := HS3
  clear hT HS0 HS1 HS2 HS3
  have HWB : Hid ((((w.alloc (.cells (bvA K) 23)).alloc (.cells (bvA S) 23)).alloc (.cells (capA 0 0 kZ) 25)) = wb) := Lib.hid hwb.symm
  clear hwb
  go_enter Tryz.func8, Tryz.ntmps8
  go_wp2_with fail
  rw [HWB.out]
  clear HWB
  with_reducible refine (K1.out _).mono ?_
  rintro e wo ⟨rfl, hwo⟩
  rw [hwo]
  clear hwo wo
  go_wp2_with (first
    | (refine wpList_run (by rfl) (.agg (capA 0 0 kZ)) (exec_built 25 #[] rfl [] (by kernel_rfl) _ built_cap0) ?_)
    | (refine wpList_storeA rfl 25 (.tmp 6) (.tmp 22) rfl (w.heap.size + 1 + 1) (capA 0 0 kZ) rfl rfl 25 _ (HB0.out.blk (w.heap.size + 1 + 1) 25 (capA 0 0 kZ) (List.Mem.head _)) (cap_sz _ _ _ HLZ.out) (cap_old _ _ _ _ _ _ kZ_len HLZ.out) (capA_one _ _ _) ?_))
  intro w99 hn hg
  have hB9 := grown_below HB0.out.below hg (show w.heap.size ≤ (w.heap.size + 1 + 1) by omega) HB0.out.below.size
  go_wp2_with fail
  refine bodyPost_ret (v := .tuple #[.agg (capA 0 0 kZ), .int .i64 (40)]) ?_ rfl ⟨rfl, hB9⟩
  exact results_cell_row_tmp rfl _ _ ((w.heap.size + 1 + 1)) 25 _ (0, 0) _ rfl hn cap_und rfl (cap_sz _ _ _ HLZ.out) _ rfl

set_option maxRecDepth 100000 in
set_option maxHeartbeats 1600000 in
theorem rOpen_ok (x a b : Nat) (l : List UInt8) (hx : PkQ x) (ha : IsEl (a : Int)) (hb : IsEl (b : Int)) (hl : l.length = 32) (w : World) (hT : Tab w) :
    Calls Tryz.prog 10 #[.int .i64 (x : Int), .agg (capA (a : Int) (b : Int) l)] w fun e w' => e = .returned (.tuple #[.agg (bvA (kxor l (pmS ((opM x a b : Nat) : Int)))), .int .i64 0]) ∧ Below w.heap.size w w' := by
  have K1 := Lib.hid (fun W => rPriv_ok hx W)
  have K2 := Lib.hid (fun W => rCheck11_any (a : Int) (b : Int) l W)
  rw [ckR_ok ha hb] at K2
  have K3 := Lib.hid (fun W => rInv x (by have := hx.1; omega) hx.2 W)
  rw [show x ^ (kQ - 1) % 2305843009213688669 = fvR x from rfl] at K3
  have K4 := Lib.hid (fun W => hExp_okP a (fvR x) ha (fvR_lt x) W)
  have K5 := Lib.hid (fun W => hInv_okP (a ^ fvR x % 4611686018427377339) (pow_isP ha.el _) W)
  have K6 := Lib.hid (fun W => hMul_okP b ((a ^ fvR x % 4611686018427377339) ^ (oQ - 1) % 4611686018427377339) hb (inv_isP (ha.el.pow _)) W)
  rw [show b * ((a ^ fvR x % 4611686018427377339) ^ (oQ - 1) % 4611686018427377339) % 4611686018427377339 = opM x a b from rfl] at K6
  have K7 := Lib.hid (fun W => (show Calls Tryz.prog 35 #[.agg (l.map bv).toArray, .int .i64 ((opM x a b : Nat) : Int)] W fun e w' => e = .returned (.agg (bvA (kxor l (pmS ((opM x a b : Nat) : Int))))) ∧ Below W.heap.size W w' from rMasked_any l hl ((opM x a b : Nat) : Int) W))
  have HLX : Hid ((kxor l (pmS ((opM x a b : Nat) : Int))).length = 32) := Lib.hid (kxor_len hl (pmS_len _))
  have HLL := Lib.hid hl
  obtain ⟨X, hX⟩ := exEq (kxor l (pmS ((opM x a b : Nat) : Int)))
  rw [hX] at K7 HLX ⊢
  obtain ⟨M, hM⟩ := exEq (opM x a b)
  rw [hM] at K6 K7
  obtain ⟨zi, hzi⟩ := exEq ((a ^ fvR x % 4611686018427377339) ^ (oQ - 1) % 4611686018427377339)
  rw [hzi] at K5 K6
  obtain ⟨z, hz⟩ := exEq (a ^ fvR x % 4611686018427377339)
  rw [hz] at K4 K5
  obtain ⟨i, hi⟩ := exEq (fvR x)
  rw [hi] at K3 K4
  clear hX hM hzi hz hi hx ha hb hl
  have hzc := fun W => zero_cap W
  have hzk := fun W => zero_ky W
  have HLZ := Lib.hid kZ_len
  have HS0 := Lib.hid (PX.start hT)
  have HS1 := Lib.hid (HS0.out.add 25 (capA (a : Int) (b : Int) l) (w.heap.size) (by simp))
  have HS2 := Lib.hid (HS1.out.add 23 (bvA kZ) (w.heap.size + 1) (by simp))
  obtain ⟨wb, hwb⟩ : ∃ wb, wb = ((w.alloc (.cells (capA (a : Int) (b : Int) l) 25)).alloc (.cells (bvA kZ) 23)) := ⟨_, rfl⟩
  rw [← hwb] at HS2
  have HB0 := HS2
  clear hT HS0 HS1 HS2
  have HWB : Hid (((w.alloc (.cells (capA (a : Int) (b : Int) l) 25)).alloc (.cells (bvA kZ) 23)) = wb) := Lib.hid hwb.symm
  clear hwb
  go_enter Tryz.func10, Tryz.ntmps10
  go_wp2_with fail
  rw [HWB.out]
  clear HWB
  with_reducible refine (K1.out _).mono ?_
  rintro e wo ⟨rfl, hwo⟩
  rw [hwo]
  clear hwo wo
  go_wp2_with (refine wpList_load_row rfl 25 (.tmp 3) rfl w.heap.size rfl _ (capA (a : Int) (b : Int) l) (0, 0) _ (HB0.out.blk w.heap.size 25 (capA (a : Int) (b : Int) l) (List.Mem.tail _ (List.Mem.head _))) cap_und rfl (cap_sz _ _ _ HLL.out) ?_)
  with_reducible refine (K2.out _).mono ?_
  rintro e w1 ⟨rfl, hb⟩
  have HB1 := Lib.hid (HB0.out.call hb)
  clear hb HB0
  go_wp2_with fail
  with_reducible refine (K3.out _).mono ?_
  rintro e wo ⟨rfl, hwo⟩
  rw [hwo]
  clear hwo wo
  have d_c0 := ((HB1.out.blk w.heap.size 25 (capA (a : Int) (b : Int) l) (List.Mem.tail _ (List.Mem.head _)))).A
  go_wp2_with fail
  with_reducible refine (K4.out _).mono ?_
  rintro e wo ⟨rfl, hwo⟩
  rw [hwo]
  clear hwo wo
  clear d_c0
  go_wp2_with fail
  with_reducible refine (K5.out _).mono ?_
  rintro e wo ⟨rfl, hwo⟩
  rw [hwo]
  clear hwo wo
  have d_c1 := ((HB1.out.blk w.heap.size 25 (capA (a : Int) (b : Int) l) (List.Mem.tail _ (List.Mem.head _)))).B
  go_wp2_with fail
  with_reducible refine (K6.out _).mono ?_
  rintro e wo ⟨rfl, hwo⟩
  rw [hwo]
  clear hwo wo
  clear d_c1
  go_wp2_with (refine wpList_load_mid rfl 23 (.tmp 47) rfl w.heap.size 2 rfl (l.map bv) _ ((HB1.out.blk w.heap.size 25 (capA (a : Int) (b : Int) l) (List.Mem.tail _ (List.Mem.head _))).pad) key_und rfl (key_szl _ HLL.out) ?_)
  with_reducible refine (K7.out _).mono ?_
  rintro e w2 ⟨rfl, hb⟩
  have HB2 := Lib.hid (HB1.out.call hb)
  clear hb HB1
  go_wp2_with (refine wpList_storeA rfl 23 (.tmp 4) (.tmp 50) rfl (w.heap.size + 1) (bvA X) rfl rfl 23 _ (HB2.out.blk (w.heap.size + 1) 23 (bvA kZ) (List.Mem.head _)) (key_sz _ HLX.out) (key_old _ HLX.out) (bvA_one _) ?_)
  intro w99 hn hg
  have hB9 := grown_below HB2.out.below hg (show w.heap.size ≤ (w.heap.size + 1) by omega) HB2.out.below.size
  go_wp2_with fail
  refine bodyPost_ret (v := .tuple #[.agg (bvA X), .int .i64 (0)]) ?_ rfl ⟨rfl, hB9⟩
  exact results_cell_row_tmp rfl _ _ ((w.heap.size + 1)) 23 _ (0, 0) _ rfl hn key_und rfl (key_sz _ HLX.out) _ rfl

set_option maxRecDepth 100000 in
set_option maxHeartbeats 1600000 in
theorem rOpen_key (x a b : Int) (l : List UInt8) (hl : l.length = 32) (hx : ¬ (1 ≤ x ∧ x < 2305843009213688669)) (w : World) (hT : Tab w) :
    Calls Tryz.prog 10 #[.int .i64 x, .agg (capA a b l)] w fun e w' => e = .returned (.tuple #[.agg (bvA (kZ)), .int .i64 50]) ∧ Below w.heap.size w w' := by
  have K1 := Lib.hid (fun W => rPriv_bad hx W)
  have HLL := Lib.hid hl
  clear hx hl
  have hzc := fun W => zero_cap W
  have hzk := fun W => zero_ky W
  have HLZ := Lib.hid kZ_len
  have HS0 := Lib.hid (PX.start hT)
  have HS1 := Lib.hid (HS0.out.add 25 (capA a b l) (w.heap.size) (by simp))
  have HS2 := Lib.hid (HS1.out.add 23 (bvA kZ) (w.heap.size + 1) (by simp))
  obtain ⟨wb, hwb⟩ : ∃ wb, wb = ((w.alloc (.cells (capA a b l) 25)).alloc (.cells (bvA kZ) 23)) := ⟨_, rfl⟩
  rw [← hwb] at HS2
  have HB0 := HS2
  clear hT HS0 HS1 HS2
  have HWB : Hid (((w.alloc (.cells (capA a b l) 25)).alloc (.cells (bvA kZ) 23)) = wb) := Lib.hid hwb.symm
  clear hwb
  go_enter Tryz.func10, Tryz.ntmps10
  go_wp2_with fail
  rw [HWB.out]
  clear HWB
  with_reducible refine (K1.out _).mono ?_
  rintro e wo ⟨rfl, hwo⟩
  rw [hwo]
  clear hwo wo
  go_wp2_with (first
    | (refine wpList_run (by rfl) (.agg (bvA kZ)) (exec_built 23 #[] rfl [] (by kernel_rfl) _ built_key0) ?_)
    | (refine wpList_storeA rfl 23 (.tmp 4) (.tmp 16) rfl (w.heap.size + 1) (bvA kZ) rfl rfl 23 _ (HB0.out.blk (w.heap.size + 1) 23 (bvA kZ) (List.Mem.head _)) (key_sz _ HLZ.out) (key_old _ HLZ.out) (bvA_one _) ?_))
  intro w99 hn hg
  have hB9 := grown_below HB0.out.below hg (show w.heap.size ≤ (w.heap.size + 1) by omega) HB0.out.below.size
  go_wp2_with fail
  refine bodyPost_ret (v := .tuple #[.agg (bvA kZ), .int .i64 (50)]) ?_ rfl ⟨rfl, hB9⟩
  exact results_cell_row_tmp rfl _ _ ((w.heap.size + 1)) 23 _ (0, 0) _ rfl hn key_und rfl (key_sz _ HLZ.out) _ rfl

set_option maxRecDepth 100000 in
set_option maxHeartbeats 1600000 in
theorem rOpen_cap (x : Nat) (a b : Int) (l : List UInt8) (hl : l.length = 32) (hx : PkQ x) (hab : ¬ (IsEl a ∧ IsEl b)) (w : World) (hT : Tab w) :
    Calls Tryz.prog 10 #[.int .i64 (x : Int), .agg (capA a b l)] w fun e w' => e = .returned (.tuple #[.agg (bvA (kZ)), .int .i64 110]) ∧ Below w.heap.size w w' := by
  have K1 := Lib.hid (fun W => rPriv_ok hx W)
  have K2 := Lib.hid (fun W => rCheck11_any a b l W)
  rw [ckR_bad hab] at K2
  have HLL := Lib.hid hl
  clear hx hl hab
  have hzc := fun W => zero_cap W
  have hzk := fun W => zero_ky W
  have HLZ := Lib.hid kZ_len
  have HS0 := Lib.hid (PX.start hT)
  have HS1 := Lib.hid (HS0.out.add 25 (capA a b l) (w.heap.size) (by simp))
  have HS2 := Lib.hid (HS1.out.add 23 (bvA kZ) (w.heap.size + 1) (by simp))
  obtain ⟨wb, hwb⟩ : ∃ wb, wb = ((w.alloc (.cells (capA a b l) 25)).alloc (.cells (bvA kZ) 23)) := ⟨_, rfl⟩
  rw [← hwb] at HS2
  have HB0 := HS2
  clear hT HS0 HS1 HS2
  have HWB : Hid (((w.alloc (.cells (capA a b l) 25)).alloc (.cells (bvA kZ) 23)) = wb) := Lib.hid hwb.symm
  clear hwb
  go_enter Tryz.func10, Tryz.ntmps10
  go_wp2_with fail
  rw [HWB.out]
  clear HWB
  with_reducible refine (K1.out _).mono ?_
  rintro e wo ⟨rfl, hwo⟩
  rw [hwo]
  clear hwo wo
  go_wp2_with (first
    | (refine wpList_load_row rfl 25 (.tmp 3) rfl w.heap.size rfl _ (capA a b l) (0, 0) _ (HB0.out.blk w.heap.size 25 (capA a b l) (List.Mem.tail _ (List.Mem.head _))) cap_und rfl (cap_sz _ _ _ HLL.out) ?_)
    | (refine wpList_run (by rfl) (.agg (bvA kZ)) (exec_built 23 #[] rfl [] (by kernel_rfl) _ built_key0) ?_))
  with_reducible refine (K2.out _).mono ?_
  rintro e w1 ⟨rfl, hb⟩
  have HB1 := Lib.hid (HB0.out.call hb)
  clear hb HB0
  go_wp2_with (first
    | (refine wpList_run (by rfl) (.agg (bvA kZ)) (exec_built 23 #[] rfl [] (by kernel_rfl) _ built_key0) ?_)
    | (refine wpList_storeA rfl 23 (.tmp 4) (.tmp 21) rfl (w.heap.size + 1) (bvA kZ) rfl rfl 23 _ (HB1.out.blk (w.heap.size + 1) 23 (bvA kZ) (List.Mem.head _)) (key_sz _ HLZ.out) (key_old _ HLZ.out) (bvA_one _) ?_))
  intro w99 hn hg
  have hB9 := grown_below HB1.out.below hg (show w.heap.size ≤ (w.heap.size + 1) by omega) HB1.out.below.size
  go_wp2_with fail
  refine bodyPost_ret (v := .tuple #[.agg (bvA kZ), .int .i64 (110)]) ?_ rfl ⟨rfl, hB9⟩
  exact results_cell_row_tmp rfl _ _ ((w.heap.size + 1)) 23 _ (0, 0) _ rfl hn key_und rfl (key_sz _ HLZ.out) _ rfl
theorem capA_set (a b v : Int) (l : List UInt8) : (capA a b l).setIfInBounds 0 (.int .i64 v) = capA v b l := by simp [capA]

set_option maxRecDepth 100000 in
set_option maxHeartbeats 1600000 in
theorem rTurn_ok (x a b : Nat) (l : List UInt8) (hx : PkQ x) (ha : IsEl (a : Int)) (hb : IsEl (b : Int)) (hl : l.length = 32) (w : World) (hT : Tab w) :
    Calls Tryz.prog 16 #[.int .i64 (x : Int), .agg (capA (a : Int) (b : Int) l)] w fun e w' => e = .returned (.tuple #[.agg (capA ((a ^ x % 4611686018427377339 : Nat) : Int) (b : Int) l), .int .i64 0]) ∧ Below w.heap.size w w' := by
  have K1 := Lib.hid (fun W => rPriv_ok hx W)
  have K2 := Lib.hid (fun W => rCheck11_any (a : Int) (b : Int) l W)
  rw [ckR_ok ha hb] at K2
  have K3 := Lib.hid (fun W => hExp_okP a x ha hx.2 W)
  have HLL := Lib.hid hl
  obtain ⟨A, hA⟩ := exEq (a ^ x % 4611686018427377339)
  rw [hA] at K3 ⊢
  clear hA hx ha hb hl
  have hzc := fun W => zero_cap W
  have hzk := fun W => zero_ky W
  have HLZ := Lib.hid kZ_len
  have HS0 := Lib.hid (PX.start hT)
  have HS1 := Lib.hid (HS0.out.add 25 (capA (a : Int) (b : Int) l) (w.heap.size) (by simp))
  have HS2 := Lib.hid (HS1.out.add 25 (capA 0 0 kZ) (w.heap.size + 1) (by simp))
  obtain ⟨wb, hwb⟩ : ∃ wb, wb = ((w.alloc (.cells (capA (a : Int) (b : Int) l) 25)).alloc (.cells (capA 0 0 kZ) 25)) := ⟨_, rfl⟩
  rw [← hwb] at HS2
  have HB0 := HS2
  have HTW := Lib.hid hT
  clear hT HS0 HS1 HS2
  have HWB : Hid (((w.alloc (.cells (capA (a : Int) (b : Int) l) 25)).alloc (.cells (capA 0 0 kZ) 25)) = wb) := Lib.hid hwb.symm
  clear hwb
  go_enter Tryz.func16, Tryz.ntmps16
  go_wp2_with fail
  rw [HWB.out]
  clear HWB
  with_reducible refine (K1.out _).mono ?_
  rintro e wo ⟨rfl, hwo⟩
  rw [hwo]
  clear hwo wo
  go_wp2_with (refine wpList_load_row rfl 25 (.tmp 3) rfl w.heap.size rfl _ (capA (a : Int) (b : Int) l) (0, 0) _ (HB0.out.blk w.heap.size 25 (capA (a : Int) (b : Int) l) (List.Mem.tail _ (List.Mem.head _))) cap_und rfl (cap_sz _ _ _ HLL.out) ?_)
  with_reducible refine (K2.out _).mono ?_
  rintro e w1 ⟨rfl, hb⟩
  have HB1 := Lib.hid (HB0.out.call hb)
  clear hb HB0
  have d_c0 := (HB1.out.blk w.heap.size 25 (capA (a : Int) (b : Int) l) (List.Mem.tail _ (List.Mem.head _))).A
  have f_c0 := (HB1.out.blk w.heap.size 25 (capA (a : Int) (b : Int) l) (List.Mem.tail _ (List.Mem.head _))).frozen 0
  have HE9 : Hid (PX w [(w.heap.size, 25, capA (A : Int) (b : Int) l), (w.heap.size + 1, 25, capA 0 0 kZ)] (w1.setCell ⟨w.heap.size, 0, none⟩ (.int .i64 (A : Int)))) := Lib.hid (by
    have h1 := (HB1.out.blk w.heap.size 25 (capA (a : Int) (b : Int) l) (List.Mem.tail _ (List.Mem.head _))).set 0 (.int .i64 (A : Int))
    rw [capA_set] at h1
    have hB := HB1.out.below.setCell (p := ⟨w.heap.size, 0, none⟩) (Nat.le_refl _) (.int .i64 (A : Int))
    refine ⟨hB, HTW.out.below hB HTW.out.lt, fun p hp => ?_⟩
    rcases List.mem_cons.1 hp with rfl | hp
    · exact h1
    · rcases List.mem_cons.1 hp with rfl | hp
      · exact (HB1.out.blk (w.heap.size + 1) 25 (capA 0 0 kZ) (List.Mem.head _)).setO (show w.heap.size + 1 ≠ w.heap.size by omega) 0 (.int .i64 (A : Int))
      · cases hp)
  go_wp2_with fail
  with_reducible refine (K3.out _).mono ?_
  rintro e wo ⟨rfl, hwo⟩
  rw [hwo]
  clear hwo wo
  go_wp2_with (first
    | (refine wpList_load_row rfl 25 (.tmp 3) rfl w.heap.size rfl _ (capA (A : Int) (b : Int) l) (0, 0) _ (HE9.out.blk w.heap.size 25 (capA (A : Int) (b : Int) l) (List.Mem.head _)) cap_und rfl (cap_sz _ _ _ HLL.out) ?_)
    | (refine wpList_storeA rfl 25 (.tmp 4) (.tmp 25) rfl (w.heap.size + 1) (capA (A : Int) (b : Int) l) rfl rfl 25 _ (HE9.out.blk (w.heap.size + 1) 25 (capA 0 0 kZ) (List.Mem.tail _ (List.Mem.head _))) (cap_sz _ _ _ HLL.out) (cap_old _ _ _ _ _ _ kZ_len HLL.out) (capA_one _ _ _) ?_))
  intro w99 hn hg
  have hB9 := grown_below HE9.out.below hg (show w.heap.size ≤ (w.heap.size + 1) by omega) HE9.out.below.size
  go_wp2_with fail
  refine bodyPost_ret (v := .tuple #[.agg (capA (A : Int) (b : Int) l), .int .i64 (0)]) ?_ rfl ⟨rfl, hB9⟩
  exact results_cell_row_tmp rfl _ _ ((w.heap.size + 1)) 25 _ (0, 0) _ rfl hn cap_und rfl (cap_sz _ _ _ HLL.out) _ rfl

set_option maxRecDepth 100000 in
set_option maxHeartbeats 1600000 in
theorem rTurn_key (x a b : Int) (l : List UInt8) (hl : l.length = 32) (hx : ¬ (1 ≤ x ∧ x < 2305843009213688669)) (w : World) (hT : Tab w) :
    Calls Tryz.prog 16 #[.int .i64 x, .agg (capA a b l)] w fun e w' => e = .returned (.tuple #[.agg (capA 0 0 kZ), .int .i64 50]) ∧ Below w.heap.size w w' := by
  have K1 := Lib.hid (fun W => rPriv_bad hx W)
  have HLL := Lib.hid hl
  clear hx hl
  have hzc := fun W => zero_cap W
  have hzk := fun W => zero_ky W
  have HLZ := Lib.hid kZ_len
  have HS0 := Lib.hid (PX.start hT)
  have HS1 := Lib.hid (HS0.out.add 25 (capA a b l) (w.heap.size) (by simp))
  have HS2 := Lib.hid (HS1.out.add 25 (capA 0 0 kZ) (w.heap.size + 1) (by simp))
  obtain ⟨wb, hwb⟩ : ∃ wb, wb = ((w.alloc (.cells (capA a b l) 25)).alloc (.cells (capA 0 0 kZ) 25)) := ⟨_, rfl⟩
  rw [← hwb] at HS2
  have HB0 := HS2
  clear hT HS0 HS1 HS2
  have HWB : Hid (((w.alloc (.cells (capA a b l) 25)).alloc (.cells (capA 0 0 kZ) 25)) = wb) := Lib.hid hwb.symm
  clear hwb
  go_enter Tryz.func16, Tryz.ntmps16
  go_wp2_with fail
  rw [HWB.out]
  clear HWB
  with_reducible refine (K1.out _).mono ?_
  rintro e wo ⟨rfl, hwo⟩
  rw [hwo]
  clear hwo wo
  go_wp2_with (first
    | (refine wpList_run (by rfl) (.agg (capA 0 0 kZ)) (exec_built 25 #[] rfl [] (by kernel_rfl) _ built_cap0) ?_)
    | (refine wpList_run (by rfl) (.agg (capA 0 0 kZ)) (exec_built 25 #[] rfl [] (by kernel_rfl) _ built_cap0) ?_)
    | (refine wpList_storeA rfl 25 (.tmp 4) (.tmp 10) rfl (w.heap.size + 1) (capA 0 0 kZ) rfl rfl 25 _ (HB0.out.blk (w.heap.size + 1) 25 (capA 0 0 kZ) (List.Mem.head _)) (cap_sz _ _ _ HLZ.out) (cap_old _ _ _ _ _ _ kZ_len HLZ.out) (capA_one _ _ _) ?_))
  intro w99 hn hg
  have hB9 := grown_below HB0.out.below hg (show w.heap.size ≤ (w.heap.size + 1) by omega) HB0.out.below.size
  go_wp2_with fail
  refine bodyPost_ret (v := .tuple #[.agg (capA 0 0 kZ), .int .i64 (50)]) ?_ rfl ⟨rfl, hB9⟩
  exact results_cell_row_tmp rfl _ _ ((w.heap.size + 1)) 25 _ (0, 0) _ rfl hn cap_und rfl (cap_sz _ _ _ HLZ.out) _ rfl

set_option maxRecDepth 100000 in
set_option maxHeartbeats 1600000 in
theorem rTurn_cap (x : Nat) (a b : Int) (l : List UInt8) (hl : l.length = 32) (hx : PkQ x) (hab : ¬ (IsEl a ∧ IsEl b)) (w : World) (hT : Tab w) :
    Calls Tryz.prog 16 #[.int .i64 (x : Int), .agg (capA a b l)] w fun e w' => e = .returned (.tuple #[.agg (capA 0 0 kZ), .int .i64 110]) ∧ Below w.heap.size w w' := by
  have K1 := Lib.hid (fun W => rPriv_ok hx W)
  have K2 := Lib.hid (fun W => rCheck11_any a b l W)
  rw [ckR_bad hab] at K2
  have HLL := Lib.hid hl
  clear hx hl hab
  have hzc := fun W => zero_cap W
  have hzk := fun W => zero_ky W
  have HLZ := Lib.hid kZ_len
  have HS0 := Lib.hid (PX.start hT)
  have HS1 := Lib.hid (HS0.out.add 25 (capA a b l) (w.heap.size) (by simp))
  have HS2 := Lib.hid (HS1.out.add 25 (capA 0 0 kZ) (w.heap.size + 1) (by simp))
  obtain ⟨wb, hwb⟩ : ∃ wb, wb = ((w.alloc (.cells (capA a b l) 25)).alloc (.cells (capA 0 0 kZ) 25)) := ⟨_, rfl⟩
  rw [← hwb] at HS2
  have HB0 := HS2
  clear hT HS0 HS1 HS2
  have HWB : Hid (((w.alloc (.cells (capA a b l) 25)).alloc (.cells (capA 0 0 kZ) 25)) = wb) := Lib.hid hwb.symm
  clear hwb
  go_enter Tryz.func16, Tryz.ntmps16
  go_wp2_with fail
  rw [HWB.out]
  clear HWB
  with_reducible refine (K1.out _).mono ?_
  rintro e wo ⟨rfl, hwo⟩
  rw [hwo]
  clear hwo wo
  go_wp2_with (first
    | (refine wpList_load_row rfl 25 (.tmp 3) rfl w.heap.size rfl _ (capA a b l) (0, 0) _ (HB0.out.blk w.heap.size 25 (capA a b l) (List.Mem.tail _ (List.Mem.head _))) cap_und rfl (cap_sz _ _ _ HLL.out) ?_)
    | (refine wpList_run (by rfl) (.agg (capA 0 0 kZ)) (exec_built 25 #[] rfl [] (by kernel_rfl) _ built_cap0) ?_))
  with_reducible refine (K2.out _).mono ?_
  rintro e w1 ⟨rfl, hb⟩
  have HB1 := Lib.hid (HB0.out.call hb)
  clear hb HB0
  go_wp2_with (first
    | (refine wpList_run (by rfl) (.agg (capA 0 0 kZ)) (exec_built 25 #[] rfl [] (by kernel_rfl) _ built_cap0) ?_)
    | (refine wpList_run (by rfl) (.agg (capA 0 0 kZ)) (exec_built 25 #[] rfl [] (by kernel_rfl) _ built_cap0) ?_)
    | (refine wpList_storeA rfl 25 (.tmp 4) (.tmp 15) rfl (w.heap.size + 1) (capA 0 0 kZ) rfl rfl 25 _ (HB1.out.blk (w.heap.size + 1) 25 (capA 0 0 kZ) (List.Mem.head _)) (cap_sz _ _ _ HLZ.out) (cap_old _ _ _ _ _ _ kZ_len HLZ.out) (capA_one _ _ _) ?_))
  intro w99 hn hg
  have hB9 := grown_below HB1.out.below hg (show w.heap.size ≤ (w.heap.size + 1) by omega) HB1.out.below.size
  go_wp2_with fail
  refine bodyPost_ret (v := .tuple #[.agg (capA 0 0 kZ), .int .i64 (110)]) ?_ rfl ⟨rfl, hB9⟩
  exact results_cell_row_tmp rfl _ _ ((w.heap.size + 1)) 25 _ (0, 0) _ rfl hn cap_und rfl (cap_sz _ _ _ HLZ.out) _ rfl

set_option maxRecDepth 100000 in
set_option maxHeartbeats 1600000 in
theorem rFactor_ok (x y : Nat) (hx : PkQ x) (hy : PkQ y) (w : World) :
    Calls Tryz.prog 14 #[.int .i64 (x : Int), .int .i64 (y : Int)] w fun e w' => e = .returned (.tuple #[.int .i64 ((fcS x y : Nat) : Int), .int .i64 0]) ∧ w' = w := by
  have K1 := fun W => rPriv_ok hx W
  have K2 := fun W => rPriv_ok hy W
  have K3 := fun W => rInv x (by have := hx.1; omega) hx.2 W
  rw [show x ^ (kQ - 1) % 2305843009213688669 = fvR x from rfl] at K3
  have K4 := fun W => rMul y (fvR x) hy.2 (fvR_lt x) W
  rw [show y * fvR x % 2305843009213688669 = fcS x y from rfl] at K4
  obtain ⟨F, hF⟩ := exEq (fcS x y)
  rw [hF] at K4 ⊢
  obtain ⟨i, hi⟩ := exEq (fvR x)
  rw [hi] at K3 K4
  clear hF hi hx hy
  go_enter Tryz.func14, Tryz.ntmps14
  go_wp2_with (first
    | (go_at_call 40; with_reducible refine (K1 _).mono ?_; rintro e wo ⟨rfl, hwo⟩; rw [hwo]; clear hwo wo)
    | (go_at_call 40; with_reducible refine (K2 _).mono ?_; rintro e wo ⟨rfl, hwo⟩; rw [hwo]; clear hwo wo)
    | (go_at_call 41; with_reducible refine (K3 _).mono ?_; rintro e wo ⟨rfl, hwo⟩; rw [hwo]; clear hwo wo)
    | (go_at_call 47; with_reducible refine (K4 _).mono ?_; rintro e wo ⟨rfl, hwo⟩; rw [hwo]; clear hwo wo))
  go_ret2
  exact ⟨rfl, rfl⟩

set_option maxRecDepth 100000 in
set_option maxHeartbeats 1600000 in
theorem rFactor_bad (x y : Int) (hx : ¬ ((1 ≤ x ∧ x < 2305843009213688669) ∧ (1 ≤ y ∧ y < 2305843009213688669))) (w : World) :
    Calls Tryz.prog 14 #[.int .i64 x, .int .i64 y] w fun e w' => e = .returned (.tuple #[.int .i64 0, .int .i64 50]) ∧ w' = w := by
  by_cases h1 : 1 ≤ x ∧ x < 2305843009213688669
  · obtain ⟨n, rfl⟩ : ∃ n : Nat, x = (n : Int) := ⟨x.toNat, by omega⟩
    have K1 := fun W => rPriv_ok (x := n) (by unfold PkQ; omega) W
    have K2 := fun W => rPriv_bad (x := y) (fun h => hx ⟨h1, h⟩) W
    go_enter Tryz.func14, Tryz.ntmps14
    go_wp2_with (first
      | (go_at_call 40; with_reducible refine (K1 _).mono ?_; rintro e wo ⟨rfl, hwo⟩; rw [hwo]; clear hwo wo)
      | (go_at_call 40; with_reducible refine (K2 _).mono ?_; rintro e wo ⟨rfl, hwo⟩; rw [hwo]; clear hwo wo))
    go_ret2
    exact ⟨rfl, rfl⟩
  · have K1 := fun W => rPriv_bad h1 W
    go_enter Tryz.func14, Tryz.ntmps14
    go_wp2_with (go_at_call 40; with_reducible refine (K1 _).mono ?_; rintro e wo ⟨rfl, hwo⟩; rw [hwo]; clear hwo wo)
    go_ret2
    exact ⟨rfl, rfl⟩

theorem kxor_zeros {l : List UInt8} (h : l.length = 32) : kxor kZ l = l := by
  unfold kxor kZ
  apply List.ext_getElem
  · simp [h]
  · intro i h1 h2
    rw [List.getElem_zipWith, List.getElem_replicate]
    simp

set_option maxRecDepth 100000 in
set_option maxHeartbeats 1600000 in
theorem rMask_any (m : Int) (w : World) (hT : Tab w) :
    Calls Tryz.prog 20 #[.int .i64 m] w fun e w' => e = .returned (.agg (bvA (pmS m))) ∧ Below w.heap.size w w' := by
  have K1 := Lib.hid (fun W => rMasked_any kZ kZ_len m W)
  rw [kxor_zeros (pmS_len m)] at K1
  have HLX := Lib.hid (pmS_len m)
  obtain ⟨X, hX⟩ := exEq (pmS m)
  rw [hX] at K1 HLX ⊢
  clear hX
  have hzc := fun W => zero_cap W
  have hzk := fun W => zero_ky W
  have HLZ := Lib.hid kZ_len
  have HS0 := Lib.hid (PX.start hT)
  have HS1 := Lib.hid (HS0.out.add 23 (bvA kZ) (w.heap.size) (by simp))
  obtain ⟨wb, hwb⟩ : ∃ wb, wb = (w.alloc (.cells (bvA kZ) 23)) := ⟨_, rfl⟩
  rw [← hwb] at HS1
  have HB0 := HS1
  clear hT HS0 HS1
  have HWB : Hid ((w.alloc (.cells (bvA kZ) 23)) = wb) := Lib.hid hwb.symm
  clear hwb
  go_enter Tryz.func20, Tryz.ntmps20
  go_wp2_with (refine wpList_run (by rfl) (.agg (bvA kZ)) (exec_built 23 #[] rfl [] (by kernel_rfl) _ built_key0) ?_)
  rw [HWB.out]
  clear HWB
  with_reducible refine (K1.out _).mono ?_
  rintro e w1 ⟨rfl, hb⟩
  have HB1 := Lib.hid (HB0.out.call hb)
  clear hb HB0
  go_wp2_with (refine wpList_storeA rfl 23 (.tmp 2) (.tmp 5) rfl w.heap.size (bvA X) rfl rfl 23 _ (HB1.out.blk w.heap.size 23 (bvA kZ) (List.Mem.head _)) (key_sz _ HLX.out) (key_old _ HLX.out) (bvA_one _) ?_)
  intro w99 hn hg
  have hB9 := grown_below HB1.out.below hg (show w.heap.size ≤ w.heap.size by omega) HB1.out.below.size
  go_wp2_with fail
  refine bodyPost_ret (v := .agg (bvA X)) ?_ rfl ⟨rfl, hB9⟩
  exact results_cell_row rfl _ _ (w.heap.size) 23 _ (0, 0) _ rfl hn key_und rfl (key_sz _ HLX.out)

set_option maxRecDepth 100000 in
set_option maxHeartbeats 1600000 in
theorem hidden_ok (x a b : Nat) (l : List UInt8) (hx : PkQ x) (ha : IsEl (a : Int)) (hb : IsEl (b : Int)) (hl : l.length = 32) (w : World) (hT : Tab w) :
    Calls Tryz.prog 19 #[.int .i64 (x : Int), .agg (capA (a : Int) (b : Int) l)] w fun e w' => e = .returned (.tuple #[.int .i64 ((opM x a b : Nat) : Int), .int .i64 0]) ∧ Below w.heap.size w w' := by
  have K1 := Lib.hid (fun W => fInv x (by have := hx.1; omega) hx.2 W)
  rw [show x ^ (kQ - 1) % 2305843009213688669 = fvR x from rfl] at K1
  have K2 := Lib.hid (fun W => gExp_ok a (fvR x) ha (fvR_lt x) W)
  have K3 := Lib.hid (fun W => gInv_ok (a ^ fvR x % 4611686018427377339) (pow_isP ha.el _) W)
  have K4 := Lib.hid (fun W => gMul_ok b ((a ^ fvR x % 4611686018427377339) ^ (oQ - 1) % 4611686018427377339) hb (inv_isP (ha.el.pow _)) W)
  rw [show b * ((a ^ fvR x % 4611686018427377339) ^ (oQ - 1) % 4611686018427377339) % 4611686018427377339 = opM x a b from rfl] at K4
  have HLL := Lib.hid hl
  obtain ⟨M, hM⟩ := exEq (opM x a b)
  rw [hM] at K4 ⊢
  obtain ⟨zi, hzi⟩ := exEq ((a ^ fvR x % 4611686018427377339) ^ (oQ - 1) % 4611686018427377339)
  rw [hzi] at K3 K4
  obtain ⟨z, hz⟩ := exEq (a ^ fvR x % 4611686018427377339)
  rw [hz] at K2 K3
  obtain ⟨i, hi⟩ := exEq (fvR x)
  rw [hi] at K1 K2
  clear hM hzi hz hi hx ha hb hl
  have HS0 := Lib.hid (PX.start hT)
  have HS1 := Lib.hid (HS0.out.add 25 (capA (a : Int) (b : Int) l) (w.heap.size) (by simp))
  obtain ⟨wb, hwb⟩ : ∃ wb, wb = (w.alloc (.cells (capA (a : Int) (b : Int) l) 25)) := ⟨_, rfl⟩
  rw [← hwb] at HS1
  have HB0 := HS1
  clear hT HS0 HS1
  have HWB : Hid ((w.alloc (.cells (capA (a : Int) (b : Int) l) 25)) = wb) := Lib.hid hwb.symm
  clear hwb
  go_enter Tryz.func19, Tryz.ntmps19
  go_wp2_with fail
  rw [HWB.out]
  clear HWB
  with_reducible refine (K1.out _).mono ?_
  rintro e w1 ⟨rfl, hb⟩
  have HB1 := Lib.hid (HB0.out.call hb)
  clear hb HB0
  have d_c0 := ((HB1.out.blk w.heap.size 25 (capA (a : Int) (b : Int) l) (List.Mem.head _))).A
  go_wp2_with fail
  with_reducible refine (K2.out _).mono ?_
  rintro e w2 ⟨rfl, hb⟩
  have HB2 := Lib.hid (HB1.out.call hb)
  clear hb HB1
  clear d_c0
  go_wp2_with fail
  with_reducible refine (K3.out _).mono ?_
  rintro e w3 ⟨rfl, hb⟩
  have HB3 := Lib.hid (HB2.out.call hb)
  clear hb HB2
  have d_c1 := ((HB3.out.blk w.heap.size 25 (capA (a : Int) (b : Int) l) (List.Mem.head _))).B
  go_wp2_with fail
  with_reducible refine (K4.out _).mono ?_
  rintro e w4 ⟨rfl, hb⟩
  have HB4 := Lib.hid (HB3.out.call hb)
  clear hb HB3
  clear d_c1
  go_wp2_with fail
  go_ret2
  exact ⟨rfl, HB4.out.below⟩
end Go.Proofs.YteigldfdaciopaaGreatDoor
