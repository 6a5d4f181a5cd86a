/-
  Package proxy: the mask of an element; keys combined.
-/
import Derived.Test.YteigldfdaciopaaGreatDoorLb
import Derived.Test.YteigldfdaciopaaGreatDoorPkB
import Derived.StillTailTactics
namespace Go.Proofs.YteigldfdaciopaaGreatDoor
open Go.RowKit
set_option linter.unusedVariables false
set_option linter.unusedSimpArgs false

theorem ar8_size : (Tryz.prog.info? 85).map (·.size) = some 8 := by kernel_rfl
theorem slice_ar8 (g : Nat) (W : World) : (Instr.sliceAt 85 (.pointer (some ⟨g, 0, none⟩)) none none none).run Tryz.prog W = .ok (.slice (some ⟨g, 0, none⟩) 8 8) W := by kernel_rfl

set_option maxRecDepth 100000 in
set_option maxHeartbeats 2000000 in
theorem mask_any (m : Int) (w : World) (hT : Tab w) :
    Calls Tryz.prog 58 #[.int .i64 m] w fun e w' => e = .returned (.agg (bvA (pmS m))) ∧ Below w.heap.size w w' := by
  have HL := Lib.hid (pmS_len m)
  have HPM : Hid (tagS (ByteArray.mk #[112, 97, 100]).data.toList (be8 m) = pmS m) := Lib.hid rfl
  obtain ⟨X, hX⟩ : ∃ X, pmS m = X := ⟨_, rfl⟩
  rw [hX] at HL HPM
  rw [hX]
  clear hX
  obtain ⟨Z, hZ⟩ : ∃ Z, Z = bvA (List.replicate 8 0) := ⟨_, rfl⟩
  obtain ⟨ZK, hZK⟩ : ∃ ZK, ZK = bvA kZ := ⟨_, rfl⟩
  have hz := fun W : World => (by rw [hZ]; kernel_rfl : (zeroValue 85).run Tryz.prog W = .ok (.agg Z) W)
  have hzk := fun W : World => (by rw [hZK]; kernel_rfl : (zeroValue 23).run Tryz.prog W = .ok (.agg ZK) W)
  obtain ⟨w1, hw1⟩ : ∃ w1, w1 = w.alloc (.cells ZK 23) := ⟨_, rfl⟩
  have hs1 : w1.heap.size = w.heap.size + 1 := by rw [hw1]; simp
  have HK1 : Hid (BB w1 w.heap.size 23 kZ) := Lib.hid (by rw [hw1, hZK]; exact BB.new w _ _)
  have HB1 : Hid (Below w.heap.size w w1) := Lib.hid (by rw [hw1]; exact (Below.refl _ _).alloc (Nat.le_refl _) _)
  have hB0 : Below (w.heap.size + 1) w1 (w1.alloc (.cells Z 85)) := (Below.refl _ _).alloc (by omega) _
  have hO0 : BB (w1.alloc (.cells Z 85)) (w.heap.size + 1) 85 (be8To m 0) := by rw [hZ, be8To_zero, ← hs1]; exact BB.new w1 _ _
  have HB0 := Lib.hid hB0
  have HO0 := Lib.hid hO0
  have HT := Lib.hid hT
  have HS1 := Lib.hid hs1
  clear hZ hZK hB0 hO0 hT hs1
  go_enter Tryz.func58, Tryz.ntmps58
  go_wp2_with fail
  rw [← hw1]
  clear hw1
  go_loopw [5] (fun i wr => ∃ k : Nat, k ≤ 8 ∧ i = .int .i64 k ∧ BB wr (w.heap.size + 1) 85 (be8To m k) ∧ Below (w.heap.size + 1) w1 wr) (fun i _ => 8 - (intOf i).toNat)
  case atStart => exact ⟨0, by omega, rfl, HO0.out, HB0.out⟩
  case round =>
    clear HB0 HO0
    obtain ⟨k, hk, rfl, ho, hb⟩ := hrel
    have HO := Lib.hid ho
    have HB := Lib.hid hb
    clear ho hb
    by_cases hlt : k < 8
    · have cf := HO.out.frozen k
      have ck := HO.out.cell k (by rw [be8To_len]; omega)
      have HX := Lib.hid (be8To_set m k)
      have HV := Lib.hid (bv_byN m k)
      generalize hx : (be8To m k)[k]'(by rw [be8To_len]; omega) = xk at ck
      clear hx
      have c1 := wrapI (7 - (k : Int)) (by omega) (by omega)
      have c2 := wrapI (8 * (7 - (k : Int))) (by omega) (by omega)
      have hi0 : (0 : Int) ≤ 8 * (7 - (k : Int)) := by omega
      go_wp2_with fail
      go_roundw
      case rel =>
        refine ⟨k + 1, by omega, by go_num, ?_, HB.out.setCell (Nat.le_refl _) _⟩
        rw [← HX.out]
        have h := HO.out.set_ k (byN m k)
        rw [← HV.out] at h
        have e : 56 - 8 * k = 8 * (7 - k) := by omega
        rw [e] at h
        exact h
      case measure => simp [intOf]; omega
    · obtain rfl : k = 8 := by omega
      rw [be8To_all] at HO
      have hsl := slice_ar8 (w.heap.size + 1)
      have HKr : Hid (BB wr w.heap.size 23 kZ) := Lib.hid (HK1.out.below HB.out (Nat.lt_succ_self _))
      have HBr : Hid (Below w.heap.size w wr) := Lib.hid (HB1.out.trans (HB.out.mono (Nat.le_succ _)))
      have hR := HO.out.rdB (by rw [be8_len]; unfold maxLen; omega)
      have hC := Tagged_any ⟨#[112, 97, 100]⟩ (some ⟨w.heap.size + 1, 0, none⟩) 8 (be8 m) wr (HT.out.below HBr.out HT.out.lt) hR (by rw [be8_len]; exact Nat.le_refl _) (by unfold maxLen; omega) (by decide) (by rw [be8_len]; omega)
      rw [be8_len] at hC
      rw [HPM.out] at hC
      have HC := Lib.hid hC
      clear hR hC HK1 HB1
      go_wp2_with fail
      refine HC.out.mono ?_
      rintro e w3 ⟨rfl, hb3⟩
      have HD3 := Lib.hid (HKr.out.below hb3 HKr.out.lt)
      have HB3 := Lib.hid (HBr.out.trans (hb3.mono HBr.out.size))
      clear hb3 HKr HBr HC HB HO
      go_wp2_with (refine wpList_storeA rfl 23 (.tmp 2) (.tmp 18) rfl w.heap.size (bvA X) rfl rfl 23 _ HD3.out (key_sz _ HL.out) (key_old _ HL.out) (bvA_one _) ?_)
      intro w9 h9 hg9
      have hB9 := grown_below HB3.out hg9 (Nat.le_refl _) HB3.out.size
      go_wp2_with fail
      refine bodyPost_ret (v := .agg (bvA X)) ?_ rfl ⟨rfl, hB9⟩
      exact results_cell_row rfl _ _ w.heap.size 23 _ (0, 0) _ rfl h9 key_und rfl (key_sz _ HL.out)

/-- Keys that are combined up to a place. -/
def kxTo (a b : List UInt8) (k : Nat) : List UInt8 := (List.range 32).map fun j => if j < k then a.getD j 0 ^^^ b.getD j 0 else 0
theorem kxTo_len (a b : List UInt8) (k : Nat) : (kxTo a b k).length = 32 := by simp [kxTo]
theorem kxTo_zero (a b : List UInt8) : kxTo a b 0 = kZ := by
  unfold kxTo kZ
  apply List.ext_getElem (by simp)
  intro i h1 h2
  have h3 : i < 32 := by simpa using h1
  rw [List.getElem_replicate]; simp
theorem kxTo_all {a b : List UInt8} (ha : a.length = 32) (hb : b.length = 32) : kxTo a b 32 = kxor a b := by
  unfold kxTo kxor
  apply List.ext_getElem (by simp [ha, hb])
  intro i h1 h2
  have hi : i < 32 := by simpa using h1
  have h3 : i < a.length := by omega
  have h4 : i < b.length := by omega
  simp [hi, List.getD, h3, h4]
theorem kxTo_set (a b : List UInt8) (k : Nat) : (kxTo a b k).set k (a.getD k 0 ^^^ b.getD k 0) = kxTo a b (k + 1) := by
  unfold kxTo
  apply List.ext_getElem (by simp)
  intro i h1 h2
  have hi : i < 32 := by simpa using h2
  rw [List.getElem_set]
  by_cases e : k = i
  · subst e; simp
  · simp only [e, if_false, List.getElem_map, List.getElem_range]
    have : (i < k) = (i < k + 1) := by
      apply propext
      omega
    simp [this]

set_option maxRecDepth 100000 in
set_option maxHeartbeats 2000000 in
theorem combined_any (a b : List UInt8) (ha : a.length = 32) (hb : b.length = 32) (w : World) :
    Calls Tryz.prog 57 #[.agg (bvA a), .agg (bvA b)] w fun e w' => e = .returned (.agg (bvA (kxor a b))) ∧ Below w.heap.size w w' := by
  obtain ⟨ZK, hZK⟩ : ∃ ZK, ZK = bvA kZ := ⟨_, rfl⟩
  have hzk := fun W : World => (by rw [hZK]; kernel_rfl : (zeroValue 23).run Tryz.prog W = .ok (.agg ZK) W)
  obtain ⟨w1, hw1⟩ : ∃ w1, w1 = ((w.alloc (.cells (bvA a) 23)).alloc (.cells (bvA b) 23)).alloc (.cells ZK 23) := ⟨_, rfl⟩
  have HB0 : Hid (Below (w.heap.size + 1 + 1) ((w.alloc (.cells (bvA a) 23)).alloc (.cells (bvA b) 23)) w1) := Lib.hid (by rw [hw1]; exact (Below.refl _ _).alloc (by simp) _)
  have HBw : Hid (Below w.heap.size w w1) := Lib.hid (by rw [hw1]; exact (((Below.refl _ _).alloc (Nat.le_refl _) _).alloc (by simp) _).alloc (by simp; omega) _)
  have HA1 : Hid (BB w1 w.heap.size 23 a) := Lib.hid (by rw [hw1]; exact ((BB.new w _ _).alloc _).alloc _)
  have HC1 : Hid (BB w1 (w.heap.size + 1) 23 b) := Lib.hid (by
    have h := (BB.new (w.alloc (.cells (bvA a) 23)) 23 b).alloc (.cells ZK 23)
    rw [hw1]
    simpa using h)
  have HO1 : Hid (BB w1 (w.heap.size + 1 + 1) 23 (kxTo a b 0)) := Lib.hid (by
    have h := BB.new ((w.alloc (.cells (bvA a) 23)).alloc (.cells (bvA b) 23)) 23 kZ
    rw [hw1, hZK, kxTo_zero]
    simpa using h)
  have HLA := Lib.hid ha
  have HLB := Lib.hid hb
  obtain ⟨X, hX⟩ : ∃ X, kxor a b = X := ⟨_, rfl⟩
  have HLX : Hid ((kxor a b).length = 32) := Lib.hid (kxor_len ha hb)
  have HXX : Hid (kxor a b = X) := Lib.hid hX
  rw [hX] at HLX
  rw [hX]
  clear hZK ha hb hX
  go_enter Tryz.func57, Tryz.ntmps57
  go_wp2_with fail
  rw [← hw1]
  clear hw1 hzk
  go_loopw [6] (fun i wr => ∃ k : Nat, k ≤ 32 ∧ i = .int .i64 k ∧ BB wr (w.heap.size + 1 + 1) 23 (kxTo a b k) ∧ Below (w.heap.size + 1 + 1) w1 wr) (fun i _ => 32 - (intOf i).toNat)
  case atStart => exact ⟨0, by omega, rfl, HO1.out, Below.refl _ _⟩
  case round =>
    clear HO1
    obtain ⟨k, hk, rfl, ho, hb⟩ := hrel
    have HO := Lib.hid ho
    have HB := Lib.hid hb
    clear ho hb
    by_cases hlt : k < 32
    · have cf := HO.out.frozen k
      have ck := HO.out.cell k (by rw [kxTo_len]; omega)
      have HX := Lib.hid (kxTo_set a b k)
      have ca : wr.cell? ⟨w.heap.size, k, none⟩ = some (.int .u8 ((a.getD k 0).toNat : Int)) := by
        rw [(HA1.out.below HB.out (by omega)).cell k (by rw [HLA.out]; exact hlt), List.getD, List.getElem?_eq_getElem (by rw [HLA.out]; exact hlt)]; rfl
      have cb : wr.cell? ⟨w.heap.size + 1, k, none⟩ = some (.int .u8 ((b.getD k 0).toNat : Int)) := by
        rw [(HC1.out.below HB.out (by omega)).cell k (by rw [HLB.out]; exact hlt), List.getD, List.getElem?_eq_getElem (by rw [HLB.out]; exact hlt)]; rfl
      generalize (kxTo a b k)[k]'(by rw [kxTo_len]; omega) = xk at ck
      generalize a.getD k 0 = x at *
      generalize b.getD k 0 = y at *
      have hx := bv_xor x y
      go_wp2_with fail
      go_still_tail 9, (by kernel_rfl)
      change wpList _ _ _ _ _ wr.drew
      go_wp2_with fail
      go_roundw
      case rel =>
        refine ⟨k + 1, by omega, by go_num, ?_, ((HB.out.setCell (Nat.le_refl _) _).drew)⟩
        rw [← HX.out]
        exact (HO.out.set_ k (x ^^^ y)).drew
      case measure => simp [intOf]; omega
    · obtain rfl : k = 32 := by omega
      rw [kxTo_all HLA.out HLB.out] at HO
      rw [HXX.out] at HO
      have HBr : Hid (Below w.heap.size w wr) := Lib.hid (HBw.out.trans (HB.out.mono (by omega)))
      clear HB HBw HB0 HA1 HC1
      go_wp2_with (first
        | (refine wpList_load_row rfl 23 (.tmp 4) rfl (w.heap.size + 1 + 1) rfl _ (bvA X) (0, 0) _ HO.out key_und rfl (key_sz _ HLX.out) ?_)
        | (refine wpList_storeA rfl 23 (.tmp 4) (.tmp 19) rfl (w.heap.size + 1 + 1) (bvA X) rfl rfl 23 _ HO.out (key_sz _ HLX.out) rfl (bvA_one _) ?_))
      intro w9 h9 hg9
      have hB9 := grown_below HBr.out hg9 (show w.heap.size ≤ w.heap.size + 1 + 1 by omega) HBr.out.size
      go_wp2_with fail
      refine bodyPost_ret (v := .agg (bvA X)) ?_ rfl ⟨rfl, hB9⟩
      exact results_cell_row rfl _ _ (w.heap.size + 1 + 1) 23 _ (0, 0) _ rfl h9 key_und rfl (key_sz _ HLX.out)
end Go.Proofs.YteigldfdaciopaaGreatDoor
