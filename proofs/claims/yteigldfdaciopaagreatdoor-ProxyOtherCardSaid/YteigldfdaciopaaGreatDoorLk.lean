/-
  Package proxy: Lock, Open, Factor, Turn.
-/
import Derived.Test.YteigldfdaciopaaGreatDoorLj
namespace Go.Proofs.YteigldfdaciopaaGreatDoor
open Go.RowKit
set_option linter.unusedVariables false
set_option linter.unusedSimpArgs false

set_option maxRecDepth 100000 in
set_option maxHeartbeats 800000 in
theorem Lock_ok (p : Nat) (K S : List UInt8) (hp : IsEl (p : Int)) (hK : K.length = 32) (hS : S.length = 32) (w : World) (hT : Tab w) :
    Calls Tryz.prog 7 #[.int .i64 p, .agg (bvA K), .agg (bvA S)] w fun e w' => e = .returned (.tuple #[.agg (capA ((lkA p (lkR S) : Nat) : Int) ((lkB (lkR S) (lkM S) : Nat) : Int) (lkX S K)), .int .i64 (0)]) ∧ Below w.heap.size w w' := by
  have HLR := Lib.hid (lkX_len S hK)
  have hmf : ∀ (fn : Fn) (first cap : Array Value) (w : World), (Instr.makeFunc fn first cap).run Tryz.prog w = .ok (.func fn first cap) w := fun _ _ _ _ => rfl
  have HS0 : Hid (PX w [] w) := Lib.hid (PX.start hT)
  have HS1 := Lib.hid (HS0.out.add 3 (#[.int .i64 (p : Int)]) (w.heap.size) (by simp))
  have HS2 := Lib.hid (HS1.out.add 23 (bvA K) (w.heap.size + 1) (by simp))
  have HS3 := Lib.hid (HS2.out.add 23 (bvA S) (w.heap.size + 1 + 1) (by simp))
  have HS4 := Lib.hid (HS3.out.add 25 (capA 0 0 kZ) (w.heap.size + 1 + 1 + 1) (by simp))
  obtain ⟨wb, hwb⟩ : ∃ wb, wb = ((((w.alloc (.cells (#[.int .i64 (p : Int)]) 3)).alloc (.cells (bvA K) 23)).alloc (.cells (bvA S) 23)).alloc (.cells (capA 0 0 kZ) 25)) := ⟨_, rfl⟩
  rw [← hwb] at HS4
  have HC := Lib.hid (attL_ok (w.heap.size) (w.heap.size + 1 + 1) (w.heap.size + 1) _ _ _ (lkX_len S hK) wb (fun W h => lockC_ok (w.heap.size) (w.heap.size + 1 + 1) (w.heap.size + 1) p K S hp hK hS W (HS4.out.call h).tab ((HS4.out.call h).blk (w.heap.size) 3 (#[.int .i64 (p : Int)]) (List.Mem.tail _ (List.Mem.tail _ (List.Mem.tail _ (List.Mem.head _))))) ((HS4.out.call h).blk (w.heap.size + 1 + 1) 23 (bvA S) (List.Mem.tail _ (List.Mem.head _))) ((HS4.out.call h).blk (w.heap.size + 1) 23 (bvA K) (List.Mem.tail _ (List.Mem.tail _ (List.Mem.head _))))))
  generalize hX : lkX S K = X at *
  generalize hA : lkA p (lkR S) = A at *
  generalize hB : lkB (lkR S) (lkM S) = B at *
  clear hX hA hB hp hK hS HS0 HS1 HS2 HS3 hT
  have hzz := fun W => zero_cap W
  go_enter Tryz.func7, Tryz.ntmps7
  go_wp2_with fail
  rw [← hwb]
  clear hwb hmf hzz
  with_reducible refine HC.out.mono ?_
  rintro e w1 ⟨rfl, hb⟩
  have HS9 := Lib.hid (HS4.out.call hb)
  clear hb HC HS4
  go_wp2_with (refine wpList_storeA rfl 25 (.tmp 6) (.tmp 10) rfl (w.heap.size + 1 + 1 + 1) (capA (A : Int) (B : Int) X) rfl rfl 25 _ (HS9.out.blk (w.heap.size + 1 + 1 + 1) 25 (capA 0 0 kZ) (List.Mem.head _)) (cap_sz _ _ _ HLR.out) (cap_old _ _ _ _ _ _ kZ_len HLR.out) (capA_one _ _ _) ?_)
  intro w9 hn hg
  have hB9 := grown_below HS9.out.below hg (show w.heap.size ≤ w.heap.size + 1 + 1 + 1 by omega) HS9.out.below.size
  go_wp2_with fail
  refine bodyPost_ret (v := .tuple #[.agg (capA (A : Int) (B : Int) X), .int .i64 (0)]) ?_ rfl ⟨rfl, hB9⟩
  exact results_cell_row_tmp rfl _ _ (w.heap.size + 1 + 1 + 1) 25 _ (0, 0) _ rfl hn cap_und rfl (cap_sz _ _ _ HLR.out) _ rfl

set_option maxRecDepth 100000 in
set_option maxHeartbeats 800000 in
theorem Lock_bad (p : Int) (K S : List UInt8) (hp : ¬ IsEl p) (w : World) (hT : Tab w) :
    Calls Tryz.prog 7 #[.int .i64 p, .agg (bvA K), .agg (bvA S)] w fun e w' => e = .returned (.tuple #[.agg (capA 0 0 kZ), .int .i64 (40)]) ∧ Below w.heap.size w w' := by
  have HLR := Lib.hid kZ_len
  have hmf : ∀ (fn : Fn) (first cap : Array Value) (w : World), (Instr.makeFunc fn first cap).run Tryz.prog w = .ok (.func fn first cap) w := fun _ _ _ _ => rfl
  have HS0 : Hid (PX w [] w) := Lib.hid (PX.start hT)
  have HS1 := Lib.hid (HS0.out.add 3 (#[.int .i64 p]) (w.heap.size) (by simp))
  have HS2 := Lib.hid (HS1.out.add 23 (bvA K) (w.heap.size + 1) (by simp))
  have HS3 := Lib.hid (HS2.out.add 23 (bvA S) (w.heap.size + 1 + 1) (by simp))
  have HS4 := Lib.hid (HS3.out.add 25 (capA 0 0 kZ) (w.heap.size + 1 + 1 + 1) (by simp))
  obtain ⟨wb, hwb⟩ : ∃ wb, wb = ((((w.alloc (.cells (#[.int .i64 p]) 3)).alloc (.cells (bvA K) 23)).alloc (.cells (bvA S) 23)).alloc (.cells (capA 0 0 kZ) 25)) := ⟨_, rfl⟩
  rw [← hwb] at HS4
  have HC := Lib.hid (attL_bad (w.heap.size) (w.heap.size + 1 + 1) (w.heap.size + 1) 40 wb (fun W h => lockC_bad (w.heap.size) (w.heap.size + 1 + 1) (w.heap.size + 1) p hp W (HS4.out.call h).tab ((HS4.out.call h).blk (w.heap.size) 3 (#[.int .i64 p]) (List.Mem.tail _ (List.Mem.tail _ (List.Mem.tail _ (List.Mem.head _)))))))
  clear HS0 HS1 HS2 HS3 hT
  have hzz := fun W => zero_cap W
  go_enter Tryz.func7, Tryz.ntmps7
  go_wp2_with fail
  rw [← hwb]
  clear hwb hmf hzz
  with_reducible refine HC.out.mono ?_
  rintro e w1 ⟨rfl, hb⟩
  have HS9 := Lib.hid (HS4.out.call hb)
  clear hb HC HS4
  go_wp2_with (refine wpList_storeA rfl 25 (.tmp 6) (.tmp 10) rfl (w.heap.size + 1 + 1 + 1) (capA 0 0 kZ) rfl rfl 25 _ (HS9.out.blk (w.heap.size + 1 + 1 + 1) 25 (capA 0 0 kZ) (List.Mem.head _)) (cap_sz _ _ _ HLR.out) (cap_old _ _ _ _ _ _ kZ_len HLR.out) (capA_one _ _ _) ?_)
  intro w9 hn hg
  have hB9 := grown_below HS9.out.below hg (show w.heap.size ≤ w.heap.size + 1 + 1 + 1 by omega) HS9.out.below.size
  go_wp2_with fail
  refine bodyPost_ret (v := .tuple #[.agg (capA 0 0 kZ), .int .i64 (40)]) ?_ rfl ⟨rfl, hB9⟩
  exact results_cell_row_tmp rfl _ _ (w.heap.size + 1 + 1 + 1) 25 _ (0, 0) _ rfl hn cap_und rfl (cap_sz _ _ _ HLR.out) _ rfl

set_option maxRecDepth 100000 in
set_option maxHeartbeats 800000 in
theorem Open_ok (x a b : Nat) (l : List UInt8) (hx : PkQ x) (ha : IsEl (a : Int)) (hb : IsEl (b : Int)) (hl : l.length = 32) (w : World) (hT : Tab w) :
    Calls Tryz.prog 9 #[.int .i64 (x : Int), .agg (capA (a : Int) (b : Int) l)] w fun e w' => e = .returned (.tuple #[.agg (bvA (kxor l (pmS ((opM x a b : Nat) : Int)))), .int .i64 (0)]) ∧ Below w.heap.size w w' := by
  have HLR : Hid ((kxor l (pmS ((opM x a b : Nat) : Int))).length = 32) := Lib.hid (kxor_len hl (pmS_len _))
  have hmf : ∀ (fn : Fn) (first cap : Array Value) (w : World), (Instr.makeFunc fn first cap).run Tryz.prog w = .ok (.func fn first cap) w := fun _ _ _ _ => rfl
  have HS0 : Hid (PX w [] w) := Lib.hid (PX.start hT)
  have HS1 := Lib.hid (HS0.out.add 3 (#[.int .i64 (x : Int)]) (w.heap.size) (by simp))
  have HS2 := Lib.hid (HS1.out.add 25 (capA (a : Int) (b : Int) l) (w.heap.size + 1) (by simp))
  have HS3 := Lib.hid (HS2.out.add 23 (bvA kZ) (w.heap.size + 1 + 1) (by simp))
  obtain ⟨wb, hwb⟩ : ∃ wb, wb = (((w.alloc (.cells (#[.int .i64 (x : Int)]) 3)).alloc (.cells (capA (a : Int) (b : Int) l) 25)).alloc (.cells (bvA kZ) 23)) := ⟨_, rfl⟩
  rw [← hwb] at HS3
  have HC := Lib.hid (attO_ok (w.heap.size) (w.heap.size + 1) _ (kxor_len hl (pmS_len _)) wb (fun W h => openC_ok (w.heap.size) (w.heap.size + 1) x a b l hx ha hb hl W (HS3.out.call h).tab ((HS3.out.call h).blk (w.heap.size) 3 (#[.int .i64 (x : Int)]) (List.Mem.tail _ (List.Mem.tail _ (List.Mem.head _)))) ((HS3.out.call h).blk (w.heap.size + 1) 25 (capA (a : Int) (b : Int) l) (List.Mem.tail _ (List.Mem.head _)))))
  generalize hX : kxor l (pmS ((opM x a b : Nat) : Int)) = X at *
  clear hX
  clear HS0 HS1 HS2 hT
  have hzz := fun W => zero_ky W
  go_enter Tryz.func9, Tryz.ntmps9
  go_wp2_with fail
  rw [← hwb]
  clear hwb hmf hzz
  with_reducible refine HC.out.mono ?_
  rintro e w1 ⟨rfl, hb⟩
  have HS9 := Lib.hid (HS3.out.call hb)
  clear hb HC HS3
  go_wp2_with (refine wpList_storeA rfl 23 (.tmp 4) (.tmp 8) rfl (w.heap.size + 1 + 1) (bvA (X)) rfl rfl 23 _ (HS9.out.blk (w.heap.size + 1 + 1) 23 (bvA kZ) (List.Mem.head _)) (key_sz _ HLR.out) (key_old _ HLR.out) (bvA_one _) ?_)
  intro w9 hn hg
  have hB9 := grown_below HS9.out.below hg (show w.heap.size ≤ w.heap.size + 1 + 1 by omega) HS9.out.below.size
  go_wp2_with fail
  refine bodyPost_ret (v := .tuple #[.agg (bvA (X)), .int .i64 (0)]) ?_ rfl ⟨rfl, hB9⟩
  exact results_cell_row_tmp rfl _ _ (w.heap.size + 1 + 1) 23 _ (0, 0) _ rfl hn key_und rfl (key_sz _ HLR.out) _ rfl

set_option maxRecDepth 100000 in
set_option maxHeartbeats 800000 in
theorem Open_key (x a b : Int) (l : List UInt8) (hl : l.length = 32) (hx : ¬ (1 ≤ x ∧ x < 2305843009213688669)) (w : World) (hT : Tab w) :
    Calls Tryz.prog 9 #[.int .i64 x, .agg (capA a b l)] w fun e w' => e = .returned (.tuple #[.agg (bvA (kZ)), .int .i64 (50)]) ∧ Below w.heap.size w w' := by
  have HLR := Lib.hid kZ_len
  have hmf : ∀ (fn : Fn) (first cap : Array Value) (w : World), (Instr.makeFunc fn first cap).run Tryz.prog w = .ok (.func fn first cap) w := fun _ _ _ _ => rfl
  have HS0 : Hid (PX w [] w) := Lib.hid (PX.start hT)
  have HS1 := Lib.hid (HS0.out.add 3 (#[.int .i64 x]) (w.heap.size) (by simp))
  have HS2 := Lib.hid (HS1.out.add 25 (capA a b l) (w.heap.size + 1) (by simp))
  have HS3 := Lib.hid (HS2.out.add 23 (bvA kZ) (w.heap.size + 1 + 1) (by simp))
  obtain ⟨wb, hwb⟩ : ∃ wb, wb = (((w.alloc (.cells (#[.int .i64 x]) 3)).alloc (.cells (capA a b l) 25)).alloc (.cells (bvA kZ) 23)) := ⟨_, rfl⟩
  rw [← hwb] at HS3
  have HC := Lib.hid (attO_bad (w.heap.size) (w.heap.size + 1) 50 wb (fun W h => openC_key (w.heap.size) (w.heap.size + 1) x a b l hl hx W (HS3.out.call h).tab ((HS3.out.call h).blk (w.heap.size) 3 (#[.int .i64 x]) (List.Mem.tail _ (List.Mem.tail _ (List.Mem.head _)))) ((HS3.out.call h).blk (w.heap.size + 1) 25 (capA a b l) (List.Mem.tail _ (List.Mem.head _)))))
  clear HS0 HS1 HS2 hT
  have hzz := fun W => zero_ky W
  go_enter Tryz.func9, Tryz.ntmps9
  go_wp2_with fail
  rw [← hwb]
  clear hwb hmf hzz
  with_reducible refine HC.out.mono ?_
  rintro e w1 ⟨rfl, hb⟩
  have HS9 := Lib.hid (HS3.out.call hb)
  clear hb HC HS3
  go_wp2_with (refine wpList_storeA rfl 23 (.tmp 4) (.tmp 8) rfl (w.heap.size + 1 + 1) (bvA (kZ)) rfl rfl 23 _ (HS9.out.blk (w.heap.size + 1 + 1) 23 (bvA kZ) (List.Mem.head _)) (key_sz _ HLR.out) (key_old _ HLR.out) (bvA_one _) ?_)
  intro w9 hn hg
  have hB9 := grown_below HS9.out.below hg (show w.heap.size ≤ w.heap.size + 1 + 1 by omega) HS9.out.below.size
  go_wp2_with fail
  refine bodyPost_ret (v := .tuple #[.agg (bvA (kZ)), .int .i64 (50)]) ?_ rfl ⟨rfl, hB9⟩
  exact results_cell_row_tmp rfl _ _ (w.heap.size + 1 + 1) 23 _ (0, 0) _ rfl hn key_und rfl (key_sz _ HLR.out) _ rfl

set_option maxRecDepth 100000 in
set_option maxHeartbeats 800000 in
theorem Open_cap (x : Nat) (a b : Int) (l : List UInt8) (hl : l.length = 32) (hx : PkQ x) (hab : ¬ (IsEl a ∧ IsEl b)) (w : World) (hT : Tab w) :
    Calls Tryz.prog 9 #[.int .i64 (x : Int), .agg (capA a b l)] w fun e w' => e = .returned (.tuple #[.agg (bvA (kZ)), .int .i64 (110)]) ∧ Below w.heap.size w w' := by
  have HLR := Lib.hid kZ_len
  have hmf : ∀ (fn : Fn) (first cap : Array Value) (w : World), (Instr.makeFunc fn first cap).run Tryz.prog w = .ok (.func fn first cap) w := fun _ _ _ _ => rfl
  have HS0 : Hid (PX w [] w) := Lib.hid (PX.start hT)
  have HS1 := Lib.hid (HS0.out.add 3 (#[.int .i64 (x : Int)]) (w.heap.size) (by simp))
  have HS2 := Lib.hid (HS1.out.add 25 (capA a b l) (w.heap.size + 1) (by simp))
  have HS3 := Lib.hid (HS2.out.add 23 (bvA kZ) (w.heap.size + 1 + 1) (by simp))
  obtain ⟨wb, hwb⟩ : ∃ wb, wb = (((w.alloc (.cells (#[.int .i64 (x : Int)]) 3)).alloc (.cells (capA a b l) 25)).alloc (.cells (bvA kZ) 23)) := ⟨_, rfl⟩
  rw [← hwb] at HS3
  have HC := Lib.hid (attO_bad (w.heap.size) (w.heap.size + 1) 110 wb (fun W h => openC_cap (w.heap.size) (w.heap.size + 1) x a b l hl hx hab W (HS3.out.call h).tab ((HS3.out.call h).blk (w.heap.size) 3 (#[.int .i64 (x : Int)]) (List.Mem.tail _ (List.Mem.tail _ (List.Mem.head _)))) ((HS3.out.call h).blk (w.heap.size + 1) 25 (capA a b l) (List.Mem.tail _ (List.Mem.head _)))))
  clear HS0 HS1 HS2 hT
  have hzz := fun W => zero_ky W
  go_enter Tryz.func9, Tryz.ntmps9
  go_wp2_with fail
  rw [← hwb]
  clear hwb hmf hzz
  with_reducible refine HC.out.mono ?_
  rintro e w1 ⟨rfl, hb⟩
  have HS9 := Lib.hid (HS3.out.call hb)
  clear hb HC HS3
  go_wp2_with (refine wpList_storeA rfl 23 (.tmp 4) (.tmp 8) rfl (w.heap.size + 1 + 1) (bvA (kZ)) rfl rfl 23 _ (HS9.out.blk (w.heap.size + 1 + 1) 23 (bvA kZ) (List.Mem.head _)) (key_sz _ HLR.out) (key_old _ HLR.out) (bvA_one _) ?_)
  intro w9 hn hg
  have hB9 := grown_below HS9.out.below hg (show w.heap.size ≤ w.heap.size + 1 + 1 by omega) HS9.out.below.size
  go_wp2_with fail
  refine bodyPost_ret (v := .tuple #[.agg (bvA (kZ)), .int .i64 (110)]) ?_ rfl ⟨rfl, hB9⟩
  exact results_cell_row_tmp rfl _ _ (w.heap.size + 1 + 1) 23 _ (0, 0) _ rfl hn key_und rfl (key_sz _ HLR.out) _ rfl

set_option maxRecDepth 100000 in
set_option maxHeartbeats 800000 in
theorem Turn_ok (x a b : Nat) (l : List UInt8) (hx : PkQ x) (ha : IsEl (a : Int)) (hb : IsEl (b : Int)) (hl : l.length = 32) (w : World) (hT : Tab w) :
    Calls Tryz.prog 15 #[.int .i64 (x : Int), .agg (capA (a : Int) (b : Int) l)] w fun e w' => e = .returned (.tuple #[.agg (capA ((a ^ x % 4611686018427377339 : Nat) : Int) (b : Int) l), .int .i64 (0)]) ∧ Below w.heap.size w w' := by
  have HLR : Hid ((l).length = 32) := Lib.hid hl
  have hmf : ∀ (fn : Fn) (first cap : Array Value) (w : World), (Instr.makeFunc fn first cap).run Tryz.prog w = .ok (.func fn first cap) w := fun _ _ _ _ => rfl
  have HS0 : Hid (PX w [] w) := Lib.hid (PX.start hT)
  have HS1 := Lib.hid (HS0.out.add 3 (#[.int .i64 (x : Int)]) (w.heap.size) (by simp))
  have HS2 := Lib.hid (HS1.out.add 25 (capA (a : Int) (b : Int) l) (w.heap.size + 1) (by simp))
  have HS3 := Lib.hid (HS2.out.add 25 (capA 0 0 kZ) (w.heap.size + 1 + 1) (by simp))
  obtain ⟨wb, hwb⟩ : ∃ wb, wb = (((w.alloc (.cells (#[.int .i64 (x : Int)]) 3)).alloc (.cells (capA (a : Int) (b : Int) l) 25)).alloc (.cells (capA 0 0 kZ) 25)) := ⟨_, rfl⟩
  rw [← hwb] at HS3
  have HC := Lib.hid (attT_ok (w.heap.size) (w.heap.size + 1) _ _ _ hl wb (fun W h => turnC_ok (w.heap.size) (w.heap.size + 1) x a b l hx ha hb hl W (HS3.out.call h).tab ((HS3.out.call h).blk (w.heap.size) 3 (#[.int .i64 (x : Int)]) (List.Mem.tail _ (List.Mem.tail _ (List.Mem.head _)))) ((HS3.out.call h).blk (w.heap.size + 1) 25 (capA (a : Int) (b : Int) l) (List.Mem.tail _ (List.Mem.head _)))))
  generalize hX : a ^ x % 4611686018427377339 = X at *
  clear hX
  clear HS0 HS1 HS2 hT
  have hzz := fun W => zero_cap W
  go_enter Tryz.func15, Tryz.ntmps15
  go_wp2_with fail
  rw [← hwb]
  clear hwb hmf hzz
  with_reducible refine HC.out.mono ?_
  rintro e w1 ⟨rfl, hb⟩
  have HS9 := Lib.hid (HS3.out.call hb)
  clear hb HC HS3
  go_wp2_with (refine wpList_storeA rfl 25 (.tmp 4) (.tmp 8) rfl (w.heap.size + 1 + 1) (capA (X : Int) (b : Int) l) rfl rfl 25 _ (HS9.out.blk (w.heap.size + 1 + 1) 25 (capA 0 0 kZ) (List.Mem.head _)) (cap_sz _ _ _ HLR.out) (cap_old _ _ _ _ _ _ kZ_len HLR.out) (capA_one _ _ _) ?_)
  intro w9 hn hg
  have hB9 := grown_below HS9.out.below hg (show w.heap.size ≤ w.heap.size + 1 + 1 by omega) HS9.out.below.size
  go_wp2_with fail
  refine bodyPost_ret (v := .tuple #[.agg (capA (X : Int) (b : Int) l), .int .i64 (0)]) ?_ rfl ⟨rfl, hB9⟩
  exact results_cell_row_tmp rfl _ _ (w.heap.size + 1 + 1) 25 _ (0, 0) _ rfl hn cap_und rfl (cap_sz _ _ _ HLR.out) _ rfl

set_option maxRecDepth 100000 in
set_option maxHeartbeats 800000 in
theorem Turn_key (x a b : Int) (l : List UInt8) (hl : l.length = 32) (hx : ¬ (1 ≤ x ∧ x < 2305843009213688669)) (w : World) (hT : Tab w) :
    Calls Tryz.prog 15 #[.int .i64 x, .agg (capA a b l)] w fun e w' => e = .returned (.tuple #[.agg (capA 0 0 kZ), .int .i64 (50)]) ∧ Below w.heap.size w w' := by
  have HLR := Lib.hid kZ_len
  have hmf : ∀ (fn : Fn) (first cap : Array Value) (w : World), (Instr.makeFunc fn first cap).run Tryz.prog w = .ok (.func fn first cap) w := fun _ _ _ _ => rfl
  have HS0 : Hid (PX w [] w) := Lib.hid (PX.start hT)
  have HS1 := Lib.hid (HS0.out.add 3 (#[.int .i64 x]) (w.heap.size) (by simp))
  have HS2 := Lib.hid (HS1.out.add 25 (capA a b l) (w.heap.size + 1) (by simp))
  have HS3 := Lib.hid (HS2.out.add 25 (capA 0 0 kZ) (w.heap.size + 1 + 1) (by simp))
  obtain ⟨wb, hwb⟩ : ∃ wb, wb = (((w.alloc (.cells (#[.int .i64 x]) 3)).alloc (.cells (capA a b l) 25)).alloc (.cells (capA 0 0 kZ) 25)) := ⟨_, rfl⟩
  rw [← hwb] at HS3
  have HC := Lib.hid (attT_bad (w.heap.size) (w.heap.size + 1) 50 wb (fun W h => turnC_key (w.heap.size) (w.heap.size + 1) x a b l hl hx W (HS3.out.call h).tab ((HS3.out.call h).blk (w.heap.size) 3 (#[.int .i64 x]) (List.Mem.tail _ (List.Mem.tail _ (List.Mem.head _)))) ((HS3.out.call h).blk (w.heap.size + 1) 25 (capA a b l) (List.Mem.tail _ (List.Mem.head _)))))
  clear HS0 HS1 HS2 hT
  have hzz := fun W => zero_cap W
  go_enter Tryz.func15, Tryz.ntmps15
  go_wp2_with fail
  rw [← hwb]
  clear hwb hmf hzz
  with_reducible refine HC.out.mono ?_
  rintro e w1 ⟨rfl, hb⟩
  have HS9 := Lib.hid (HS3.out.call hb)
  clear hb HC HS3
  go_wp2_with (refine wpList_storeA rfl 25 (.tmp 4) (.tmp 8) rfl (w.heap.size + 1 + 1) (capA 0 0 kZ) rfl rfl 25 _ (HS9.out.blk (w.heap.size + 1 + 1) 25 (capA 0 0 kZ) (List.Mem.head _)) (cap_sz _ _ _ HLR.out) (cap_old _ _ _ _ _ _ kZ_len HLR.out) (capA_one _ _ _) ?_)
  intro w9 hn hg
  have hB9 := grown_below HS9.out.below hg (show w.heap.size ≤ w.heap.size + 1 + 1 by omega) HS9.out.below.size
  go_wp2_with fail
  refine bodyPost_ret (v := .tuple #[.agg (capA 0 0 kZ), .int .i64 (50)]) ?_ rfl ⟨rfl, hB9⟩
  exact results_cell_row_tmp rfl _ _ (w.heap.size + 1 + 1) 25 _ (0, 0) _ rfl hn cap_und rfl (cap_sz _ _ _ HLR.out) _ rfl

set_option maxRecDepth 100000 in
set_option maxHeartbeats 800000 in
theorem Turn_cap (x : Nat) (a b : Int) (l : List UInt8) (hl : l.length = 32) (hx : PkQ x) (hab : ¬ (IsEl a ∧ IsEl b)) (w : World) (hT : Tab w) :
    Calls Tryz.prog 15 #[.int .i64 (x : Int), .agg (capA a b l)] w fun e w' => e = .returned (.tuple #[.agg (capA 0 0 kZ), .int .i64 (110)]) ∧ Below w.heap.size w w' := by
  have HLR := Lib.hid kZ_len
  have hmf : ∀ (fn : Fn) (first cap : Array Value) (w : World), (Instr.makeFunc fn first cap).run Tryz.prog w = .ok (.func fn first cap) w := fun _ _ _ _ => rfl
  have HS0 : Hid (PX w [] w) := Lib.hid (PX.start hT)
  have HS1 := Lib.hid (HS0.out.add 3 (#[.int .i64 (x : Int)]) (w.heap.size) (by simp))
  have HS2 := Lib.hid (HS1.out.add 25 (capA a b l) (w.heap.size + 1) (by simp))
  have HS3 := Lib.hid (HS2.out.add 25 (capA 0 0 kZ) (w.heap.size + 1 + 1) (by simp))
  obtain ⟨wb, hwb⟩ : ∃ wb, wb = (((w.alloc (.cells (#[.int .i64 (x : Int)]) 3)).alloc (.cells (capA a b l) 25)).alloc (.cells (capA 0 0 kZ) 25)) := ⟨_, rfl⟩
  rw [← hwb] at HS3
  have HC := Lib.hid (attT_bad (w.heap.size) (w.heap.size + 1) 110 wb (fun W h => turnC_cap (w.heap.size) (w.heap.size + 1) x a b l hl hx hab W (HS3.out.call h).tab ((HS3.out.call h).blk (w.heap.size) 3 (#[.int .i64 (x : Int)]) (List.Mem.tail _ (List.Mem.tail _ (List.Mem.head _)))) ((HS3.out.call h).blk (w.heap.size + 1) 25 (capA a b l) (List.Mem.tail _ (List.Mem.head _)))))
  clear HS0 HS1 HS2 hT
  have hzz := fun W => zero_cap W
  go_enter Tryz.func15, Tryz.ntmps15
  go_wp2_with fail
  rw [← hwb]
  clear hwb hmf hzz
  with_reducible refine HC.out.mono ?_
  rintro e w1 ⟨rfl, hb⟩
  have HS9 := Lib.hid (HS3.out.call hb)
  clear hb HC HS3
  go_wp2_with (refine wpList_storeA rfl 25 (.tmp 4) (.tmp 8) rfl (w.heap.size + 1 + 1) (capA 0 0 kZ) rfl rfl 25 _ (HS9.out.blk (w.heap.size + 1 + 1) 25 (capA 0 0 kZ) (List.Mem.head _)) (cap_sz _ _ _ HLR.out) (cap_old _ _ _ _ _ _ kZ_len HLR.out) (capA_one _ _ _) ?_)
  intro w9 hn hg
  have hB9 := grown_below HS9.out.below hg (show w.heap.size ≤ w.heap.size + 1 + 1 by omega) HS9.out.below.size
  go_wp2_with fail
  refine bodyPost_ret (v := .tuple #[.agg (capA 0 0 kZ), .int .i64 (110)]) ?_ rfl ⟨rfl, hB9⟩
  exact results_cell_row_tmp rfl _ _ (w.heap.size + 1 + 1) 25 _ (0, 0) _ rfl hn cap_und rfl (cap_sz _ _ _ HLR.out) _ rfl

set_option maxRecDepth 100000 in
set_option maxHeartbeats 800000 in
theorem Factor_ok (x y : Nat) (hx : PkQ x) (hy : PkQ y) (w : World) (hT : Tab w) :
    Calls Tryz.prog 13 #[.int .i64 (x : Int), .int .i64 (y : Int)] w fun e w' => e = .returned (.tuple #[.int .i64 (((fcS x y : Nat) : Int)), .int .i64 (0)]) ∧ Below w.heap.size w w' := by
  have hmf : ∀ (fn : Fn) (first cap : Array Value) (w : World), (Instr.makeFunc fn first cap).run Tryz.prog w = .ok (.func fn first cap) w := fun _ _ _ _ => rfl
  have HS0 : Hid (PX w [] w) := Lib.hid (PX.start hT)
  have HS1 := Lib.hid (HS0.out.add 3 (#[.int .i64 (x : Int)]) (w.heap.size) (by simp))
  have HS2 := Lib.hid (HS1.out.add 3 (#[.int .i64 (y : Int)]) (w.heap.size + 1) (by simp))
  obtain ⟨wb, hwb⟩ : ∃ wb, wb = ((w.alloc (.cells (#[.int .i64 (x : Int)]) 3)).alloc (.cells (#[.int .i64 (y : Int)]) 3)) := ⟨_, rfl⟩
  rw [← hwb] at HS2
  have HC := Lib.hid (attF_ok (w.heap.size) (w.heap.size + 1) _ wb (fun W h => factorC_ok (w.heap.size) (w.heap.size + 1) x y hx hy W (HS2.out.call h).tab ((HS2.out.call h).blk (w.heap.size) 3 (#[.int .i64 (x : Int)]) (List.Mem.tail _ (List.Mem.head _))) ((HS2.out.call h).blk (w.heap.size + 1) 3 (#[.int .i64 (y : Int)]) (List.Mem.head _))))
  generalize hX : fcS x y = X at *
  clear hX hx hy HS0 HS1 hT
  go_enter Tryz.func13, Tryz.ntmps13
  go_wp2_with fail
  rw [← hwb]
  clear hwb hmf
  with_reducible refine HC.out.mono ?_
  rintro e w1 ⟨rfl, hb⟩
  have HS9 := Lib.hid (HS2.out.call hb)
  clear hb HC HS2
  go_wp2_with fail
  go_ret2
  exact ⟨rfl, HS9.out.below⟩

set_option maxRecDepth 100000 in
set_option maxHeartbeats 800000 in
theorem Factor_bad (x y : Int) (hx : ¬ ((1 ≤ x ∧ x < 2305843009213688669) ∧ (1 ≤ y ∧ y < 2305843009213688669))) (w : World) (hT : Tab w) :
    Calls Tryz.prog 13 #[.int .i64 x, .int .i64 y] w fun e w' => e = .returned (.tuple #[.int .i64 (0), .int .i64 (50)]) ∧ Below w.heap.size w w' := by
  have hmf : ∀ (fn : Fn) (first cap : Array Value) (w : World), (Instr.makeFunc fn first cap).run Tryz.prog w = .ok (.func fn first cap) w := fun _ _ _ _ => rfl
  have HS0 : Hid (PX w [] w) := Lib.hid (PX.start hT)
  have HS1 := Lib.hid (HS0.out.add 3 (#[.int .i64 x]) (w.heap.size) (by simp))
  have HS2 := Lib.hid (HS1.out.add 3 (#[.int .i64 y]) (w.heap.size + 1) (by simp))
  obtain ⟨wb, hwb⟩ : ∃ wb, wb = ((w.alloc (.cells (#[.int .i64 x]) 3)).alloc (.cells (#[.int .i64 y]) 3)) := ⟨_, rfl⟩
  rw [← hwb] at HS2
  have HC := Lib.hid (attF_bad (w.heap.size) (w.heap.size + 1) 50 wb (fun W h => factorC_bad (w.heap.size) (w.heap.size + 1) x y hx W (HS2.out.call h).tab ((HS2.out.call h).blk (w.heap.size) 3 (#[.int .i64 x]) (List.Mem.tail _ (List.Mem.head _))) ((HS2.out.call h).blk (w.heap.size + 1) 3 (#[.int .i64 y]) (List.Mem.head _))))
  clear HS0 HS1 hT
  go_enter Tryz.func13, Tryz.ntmps13
  go_wp2_with fail
  rw [← hwb]
  clear hwb hmf
  with_reducible refine HC.out.mono ?_
  rintro e w1 ⟨rfl, hb⟩
  have HS9 := Lib.hid (HS2.out.call hb)
  clear hb HC HS2
  go_wp2_with fail
  go_ret2
  exact ⟨rfl, HS9.out.below⟩
end Go.Proofs.YteigldfdaciopaaGreatDoor
