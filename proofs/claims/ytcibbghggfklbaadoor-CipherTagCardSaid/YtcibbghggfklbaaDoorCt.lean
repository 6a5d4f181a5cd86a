/-
  Package cipher: start.
-/
import Derived.Test.YtcibbghggfklbaaDoorCw
namespace Go.Proofs.YtcibbghggfklbaaDoor
open Go.RowKit
set_option linter.unusedVariables false
set_option linter.unusedSimpArgs false

theorem nums_size (l : List Nat) (h : l.length = 16) : (Tryd.prog.info? 48).map (·.size) = some (wv l).size := by rw [wv_size, h]; kernel_rfl

theorem first4 (k : List UInt8) (w : World) (T : TypeId) : w.alloc (.cells #[.int .u32 1634760805, .int .u32 857760878, .int .u32 2036477234, .int .u32 1797285236, .int .u32 0, .int .u32 0, .int .u32 0, .int .u32 0, .int .u32 0, .int .u32 0, .int .u32 0, .int .u32 0, .int .u32 0, .int .u32 0, .int .u32 0, .int .u32 0] T) = w.alloc (.cells (wv (cstK k 0)) T) := rfl

theorem slice_key (g j : Nat) (h : j < 8) (W : World) : (Instr.sliceAt 23 (.pointer (some ⟨g, 0, none⟩)) (some (.int .i64 (4 * (j : Int)))) none none).run Tryd.prog W = .ok (.slice (some ⟨g, 4 * j, none⟩) (32 - 4 * j) (32 - 4 * j)) W := by
  have h1 : (Instr.sliceAt 23 (.pointer (some ⟨g, 0, none⟩)) (some (.int .i64 (4 * (j : Int)))) none none).run Tryd.prog W = _ := run_sliceAt_array_l (P := Tryd.prog) W 23 ⟨g, 0, none⟩ (by kernel_rfl) .i64 (4 * (j : Int)) (by omega) (by show 4 * (j : Int) ≤ ((32 : Nat) : Int); omega)
  rw [h1]
  have hz : (sizeOf (Tryd.prog.elem 23)).run Tryd.prog W = .ok 1 W := by kernel_rfl
  have hz2 : Tryd.prog.arrayLen 23 = 32 := by kernel_rfl
  rw [hz, hz2]
  have e : (4 * (j : Int)).toNat = 4 * j := by omega
  simp [Result.andThen, slicedAt, e, Addr.add]
  rw [if_neg (by omega)]
  split
  · rename_i h0; rw [h0]
  · rfl
theorem slice_nonce (g j : Nat) (h : j < 3) (W : World) : (Instr.sliceAt 25 (.pointer (some ⟨g, 0, none⟩)) (some (.int .i64 (4 * (j : Int)))) none none).run Tryd.prog W = .ok (.slice (some ⟨g, 4 * j, none⟩) (12 - 4 * j) (12 - 4 * j)) W := by
  have h1 : (Instr.sliceAt 25 (.pointer (some ⟨g, 0, none⟩)) (some (.int .i64 (4 * (j : Int)))) none none).run Tryd.prog W = _ := run_sliceAt_array_l (P := Tryd.prog) W 25 ⟨g, 0, none⟩ (by kernel_rfl) .i64 (4 * (j : Int)) (by omega) (by show 4 * (j : Int) ≤ ((12 : Nat) : Int); omega)
  rw [h1]
  have hz : (sizeOf (Tryd.prog.elem 25)).run Tryd.prog W = .ok 1 W := by kernel_rfl
  have hz2 : Tryd.prog.arrayLen 25 = 12 := by kernel_rfl
  rw [hz, hz2]
  have e : (4 * (j : Int)).toNat = 4 * j := by omega
  simp [Result.andThen, slicedAt, e, Addr.add]
  rw [if_neg (by omega)]
  split
  · rename_i h0; rw [h0]
  · rfl

/-- What the loops of start keep. -/
structure StI (w : World) (k n : List UInt8) (wr : World) : Prop where
  below : Below w.heap.size w wr
  key : BB wr w.heap.size 23 k
  nonce : BB wr (w.heap.size + 1) 25 n
  res : WB wr (w.heap.size + 1 + 1) 48 (List.replicate 16 0)
theorem StI.drewN {w : World} {k n : List UInt8} {wr : World} (h : StI w k n wr) (q : Nat) : StI w k n (wr.drewN q) := ⟨below_dN h.below q, h.key, h.nonce, h.res⟩
theorem StI.set_ {w : World} {k n : List UInt8} {wr : World} (h : StI w k n wr) (i : Nat) (v : Value) : StI w k n (wr.setCell ⟨w.heap.size + 1 + 1 + 1, i, none⟩ v) :=
  ⟨h.below.setCell (by show w.heap.size ≤ w.heap.size + 1 + 1 + 1; omega) v, h.key.setO (by omega) i v, h.nonce.setO (by omega) i v, h.res.setO (by omega) i v⟩
theorem StI.start (w : World) (k n : List UInt8) : StI w k n ((((w.alloc (.cells (bvA k) 23)).alloc (.cells (bvA n) 25)).alloc (.cells (wv (List.replicate 16 0)) 48)).alloc (.cells (wv (cstK k 0)) 48)) ∧
    WB ((((w.alloc (.cells (bvA k) 23)).alloc (.cells (bvA n) 25)).alloc (.cells (wv (List.replicate 16 0)) 48)).alloc (.cells (wv (cstK k 0)) 48)) (w.heap.size + 1 + 1 + 1) 48 (cstK k 0) := by
  refine ⟨⟨((((Below.refl _ _).alloc (Nat.le_refl _) _).alloc (by simp) _).alloc (by simp; omega) _).alloc (by simp; omega) _, (((BB.new w _ k).alloc _).alloc _).alloc _, ?_, ?_⟩, ?_⟩
  · have h := ((BB.new (w.alloc (.cells (bvA k) 23)) 25 n).alloc (.cells (wv (List.replicate 16 0)) 48)).alloc (.cells (wv (cstK k 0)) 48)
    simpa using h
  · have h := (WB.new ((w.alloc (.cells (bvA k) 23)).alloc (.cells (bvA n) 25)) 48 (List.replicate 16 0)).alloc (.cells (wv (cstK k 0)) 48)
    simpa using h
  · have h := WB.new (((w.alloc (.cells (bvA k) 23)).alloc (.cells (bvA n) 25)).alloc (.cells (wv (List.replicate 16 0)) 48)) 48 (cstK k 0)
    simpa using h

set_option maxRecDepth 100000 in
set_option maxHeartbeats 2000000 in
theorem start_any (k n : List UInt8) (c : Nat) (hk : k.length = 32) (hn : n.length = 12) (hc : c < 4294967296) (w : World) :
    Calls Tryd.prog 21 #[.agg (bvA k), .agg (bvA n), .int .u32 (c : Int)] w fun e w' => e = .returned (.agg (wv (cstart k n c))) ∧ Below w.heap.size w w' := by
  have HLK := Lib.hid hk
  have HLN := Lib.hid hn
  have HF := Lib.hid (cstN_full k n c hc)
  have HD : Hid (∀ i, (cstK k (i + 1)) = (cstK k i).set (4 + i) (lword k i)) := Lib.hid (cstK_succ k)
  have HDL : Hid (∀ i, (cstK k i).length = 16) := Lib.hid (cstK_len k)
  have HE0 : Hid (cstN k n c 0 = (cstK k 8).set 12 c) := Lib.hid rfl
  have HE : Hid (∀ i, (cstN k n c (i + 1)) = (cstN k n c i).set (13 + i) (lword n i)) := Lib.hid (cstN_succ k n c)
  have HEL : Hid (∀ i, (cstN k n c i).length = 16) := Lib.hid (cstN_len k n c)
  clear hk hn hc
  go_enter Tryd.func21, Tryd.ntmps21
  go_wp2_with fail
  rw [zeros16, first4 k]
  obtain ⟨w1, hw1⟩ : ∃ w1, w1 = (((w.alloc (.cells (bvA k) 23)).alloc (.cells (bvA n) 25)).alloc (.cells (wv (List.replicate 16 0)) 48)).alloc (.cells (wv (cstK k 0)) 48) := ⟨_, rfl⟩
  have HI : Hid (StI w k n w1 ∧ WB w1 (w.heap.size + 1 + 1 + 1) 48 (cstK k 0)) := Lib.hid (hw1 ▸ StI.start w k n)
  rw [← hw1]
  clear hw1
  go_loopw [11] (fun i wr => ∃ j : Nat, j ≤ 8 ∧ i = .int .i64 j ∧ StI w k n wr ∧ WB wr (w.heap.size + 1 + 1 + 1) 48 (cstK k j)) (fun i _ => 8 - (intOf i).toNat)
  case atStart => exact ⟨0, by omega, rfl, HI.out⟩
  case round =>
    clear HI
    obtain ⟨j, hj, rfl, hi, hw⟩ := hrel
    have HIj := Lib.hid hi
    have HWj := Lib.hid hw
    clear hi hw
    by_cases hlt : j < 8
    · have ij : (j : Int) < 8 := by omega
      have ij4 : (4 : Int) + j < 16 := by omega
      have hsl := slice_key w.heap.size j hlt
      have hcw := fun cap W h => cword_at w.heap.size 23 k j (32 - 4 * j) cap W h (by rw [HLK.out]; omega) (by omega) (by unfold maxLen; omega)
      have HCW := Lib.hid hcw
      clear hcw
      go_wp2_with (go_at_call 29; refine (HCW.out _ _ HIj.out.key).mono ?_; rintro e w2 ⟨rfl, q, rfl⟩; have c4 := HWj.out.cellD (4 + j) (by rw [HDL.out]; omega); have f4 := HWj.out.frozen (4 + j))
      go_roundw
      case rel =>
        refine ⟨j + 1, by omega, by go_num, (HIj.out.drewN q).set_ _ _, ?_⟩
        rw [HD.out]
        exact (HWj.out.drewN q).set_ _ _
      case measure => simp [intOf]; omega
    · obtain rfl : j = 8 := by omega
      clear hlt
      have c12 := HWj.out.cellD 12 (by rw [HDL.out]; omega)
      have f12 := HWj.out.frozen 12
      have HIn : Hid (StI w k n (wr.setCell ⟨w.heap.size + 1 + 1 + 1, 12, none⟩ (.int .u32 (c : Int))) ∧ WB (wr.setCell ⟨w.heap.size + 1 + 1 + 1, 12, none⟩ (.int .u32 (c : Int))) (w.heap.size + 1 + 1 + 1) 48 (cstN k n c 0)) := Lib.hid ⟨HIj.out.set_ _ _, by rw [HE0.out]; exact HWj.out.set_ _ _⟩
      go_wp2_with fail
      generalize wr.setCell ⟨w.heap.size + 1 + 1 + 1, 12, none⟩ (.int .u32 (c : Int)) = w5 at *
      clear HIj HWj c12 f12
      go_loopw [24] (fun i wr => ∃ j : Nat, j ≤ 3 ∧ i = .int .i64 j ∧ StI w k n wr ∧ WB wr (w.heap.size + 1 + 1 + 1) 48 (cstN k n c j)) (fun i _ => 3 - (intOf i).toNat)
      case atStart => exact ⟨0, by omega, rfl, HIn.out⟩
      case round =>
        clear HIn
        obtain ⟨j, hj, rfl, hi, hw⟩ := hrel
        have HIj := Lib.hid hi
        have HWj := Lib.hid hw
        clear hi hw
        by_cases hlt : j < 3
        · have ij : (j : Int) < 3 := by omega
          have ij4 : (13 : Int) + j < 16 := by omega
          have hsl := slice_nonce (w.heap.size + 1) j hlt
          have hcw := fun cap W h => cword_at (w.heap.size + 1) 25 n j (12 - 4 * j) cap W h (by rw [HLN.out]; omega) (by omega) (by unfold maxLen; omega)
          have HCW := Lib.hid hcw
          clear hcw
          go_wp2_with (go_at_call 29; refine (HCW.out _ _ HIj.out.nonce).mono ?_; rintro e w2 ⟨rfl, q, rfl⟩; have c4 := HWj.out.cellD (13 + j) (by rw [HEL.out]; omega); have f4 := HWj.out.frozen (13 + j))
          go_roundw
          case rel =>
            repeat apply Exists.intro
            refine ⟨⟨j + 1, by omega, ?_, ?_, ?_⟩, rfl⟩
            · go_num
            · exact (HIj.out.drewN q).set_ _ _
            · rw [HE.out]; exact (HWj.out.drewN q).set_ _ _
          case measure => simp [intOf]; omega
        · obtain rfl : j = 3 := by omega
          clear hlt
          rw [HF.out] at HWj
          have hsz := nums_size (cstart k n c) (cstart_len k n c)
          have HOL : Hid ((wv (List.replicate 16 0)).size = (wv (cstart k n c)).size) := Lib.hid (by rw [wv_size, wv_size, cstart_len]; rfl)
          go_wp2_with (first | (refine wpList_load_row rfl 48 (.tmp 7) rfl (w.heap.size + 1 + 1 + 1) rfl _ (wv (cstart k n c)) (0, 0) _ HWj.out Tryd.underlying48 rfl hsz ?_) | (refine wpList_storeA rfl 48 (.tmp 6) (.tmp 35) rfl (w.heap.size + 1 + 1) (wv (cstart k n c)) rfl rfl _ _ HIj.out.res hsz HOL.out (wv_one _) ?_))
          intro w9 h9 hg9
          go_wp2_with fail
          refine bodyPost_ret (v := .agg (wv (cstart k n c))) ?_ rfl ⟨rfl, grown_below HIj.out.below hg9 (by omega) HIj.out.below.size⟩
          exact results_cell_row rfl _ _ (w.heap.size + 1 + 1) 48 _ (0, 0) _ rfl h9 Tryd.underlying48 rfl hsz
end Go.Proofs.YtcibbghggfklbaaDoor
