/-
  The reference of proxy: keys combined with the mask of an element; Check and Private.
-/
import Derived.Test.YteigldfdaciopaaGreatDoorLm
import Derived.Test.YteigldfdaciopaaGreatDoorPkR
import Derived.Test.YteigldfdaciopaaGreatDoorPkH
import Derived.Test.YteigldfdaciopaaGreatDoorDk
namespace Go.Proofs.YteigldfdaciopaaGreatDoor
open Go.RowKit
set_option linter.unusedVariables false
set_option linter.unusedSimpArgs false

def kxP (a b : List UInt8) (k : Nat) : List UInt8 := (List.range 32).map fun j => if j < k then a.getD j 0 ^^^ b.getD j 0 else a.getD j 0
theorem kxP_len (a b : List UInt8) (k : Nat) : (kxP a b k).length = 32 := by simp [kxP]
theorem kxP_zero {a : List UInt8} (b : List UInt8) (ha : a.length = 32) : kxP a b 0 = a := by
  unfold kxP
  apply List.ext_getElem (by simp [ha])
  intro i h1 h2
  simp [List.getD, h2]
theorem kxP_all {a b : List UInt8} (ha : a.length = 32) (hb : b.length = 32) : kxP a b 32 = kxor a b := by
  unfold kxP kxor
  apply List.ext_getElem (by simp [ha, hb])
  intro i h1 h2
  have hi : i < 32 := by simpa using h1
  have h3 : i < a.length := by omega
  have h4 : i < b.length := by omega
  simp [hi, List.getD, h3, h4]
theorem kxP_get (a b : List UInt8) (k : Nat) (h : k < 32) : (kxP a b k)[k]'(by rw [kxP_len]; exact h) = a.getD k 0 := by
  unfold kxP
  simp
theorem kxP_set (a b : List UInt8) (k : Nat) : (kxP a b k).set k (a.getD k 0 ^^^ b.getD k 0) = kxP a b (k + 1) := by
  unfold kxP
  apply List.ext_getElem (by simp)
  intro i h1 h2
  have hi : i < 32 := by simpa using h2
  rw [List.getElem_set]
  by_cases e : k = i
  · subst e; simp
  · simp only [e, if_false, List.getElem_map, List.getElem_range]
    have : (i < k) = (i < k + 1) := by
      apply propext
      omega
    simp [this]
theorem dig_und : Tryz.prog.underlying 69 = some (.array 32 5) := Tryz.underlying69
theorem dg_sz (m : List UInt8) (h : m.length = 32) : (Tryz.prog.info? 69).map (·.size) = some (bvA m).size := by rw [bvA_size, h]; kernel_rfl
theorem zero_dg (W : World) : (zeroValue 69).run Tryz.prog W = .ok (.agg (bvA kZ)) W := by kernel_rfl

set_option maxRecDepth 100000 in
set_option maxHeartbeats 1600000 in
theorem rMasked_any (K : List UInt8) (hK : K.length = 32) (m : Int) (w : World) :
    Calls Tryz.prog 35 #[.agg (bvA K), .int .i64 m] w fun e w' => e = .returned (.agg (bvA (kxor K (pmS m)))) ∧ Below w.heap.size w w' := by
  have HLM := Lib.hid (pmS_len m)
  have HPM : Hid (tagS (ByteArray.mk #[112, 97, 100]).data.toList (be8 m) = pmS m) := Lib.hid rfl
  have HLX : Hid ((kxor K (pmS m)).length = 32) := Lib.hid (kxor_len hK (pmS_len m))
  have HXA : Hid (kxP K (pmS m) 32 = kxor K (pmS m)) := Lib.hid (kxP_all hK (pmS_len m))
  obtain ⟨X, hX⟩ := exEq (kxor K (pmS m))
  rw [hX] at HLX HXA ⊢
  obtain ⟨D, hD⟩ := exEq (pmS m)
  rw [hD] at HLM HPM HXA
  obtain ⟨w1, hw1⟩ : ∃ w1, w1 = (w.alloc (.cells (bvA K) 23)).alloc (.cells (bvA kZ) 23) := ⟨_, rfl⟩
  have hs1 : w1.heap.size = w.heap.size + 1 + 1 := by rw [hw1]; simp
  have HB1 : Hid (Below w.heap.size w w1) := Lib.hid (by rw [hw1]; exact ((Below.refl _ _).alloc (Nat.le_refl _) _).alloc (by simp) _)
  have HK1 : Hid (BB w1 w.heap.size 23 K) := Lib.hid (by rw [hw1]; exact (BB.new w _ _).alloc _)
  have HZ1 : Hid (BB w1 (w.heap.size + 1) 23 kZ) := Lib.hid (by
    have h := BB.new (w.alloc (.cells (bvA K) 23)) 23 kZ
    rw [hw1]
    simpa using h)
  have HO0 : Hid (OwnB (w.heap.size + 1 + 1) (w1.alloc (.cells #[] 5)) (.slice (some ⟨w.heap.size + 1 + 1, 0, none⟩) 0 0) ((be8 m).take 0)) := Lib.hid (by
    have h := OwnB.empty (w := w1) (Nat.le_refl w1.heap.size)
    rw [hs1] at h
    exact h)
  have HA0 : Hid (Below (w.heap.size + 1 + 1) w1 (w1.alloc (.cells #[] 5))) := Lib.hid ((Below.refl _ _).alloc (by omega) _)
  have hzk := fun W => zero_ky W
  have hzd := fun W => zero_dg W
  have HKZ := Lib.hid (kxP_zero D hK)
  have HSZ := Lib.hid hs1
  clear hX hD hK hs1
  go_enter Tryz.func35, Tryz.ntmps35
  go_wp2_with fail
  rw [← hw1]
  clear hw1 hzk
  go_loopw [5, 6] (fun v i wr => ∃ k : Nat, k ≤ 8 ∧ i = .int .i64 (7 - (k : Int)) ∧ OwnB (w.heap.size + 1 + 1) wr v ((be8 m).take k) ∧ Below (w.heap.size + 1 + 1) w1 wr) (fun _ i _ => (intOf i + 1).toNat)
  case atStart => exact ⟨0, by omega, rfl, HO0.out, HA0.out⟩
  case round =>
    clear HO0 HA0
    obtain ⟨k, hk, rfl, ho, hb⟩ := hrel
    have HO := Lib.hid ho
    have HB := Lib.hid hb
    obtain ⟨av, cv, rfl, _, _⟩ := ho.form
    clear ho hb
    by_cases hlt : k < 8
    · have HX := Lib.hid (be8_take m k hlt)
      have HV := Lib.hid (bv_byN m k)
      have hl : ((be8 m).take k).length + 1 ≤ 140737488355328 := by rw [List.length_take, be8_len]; omega
      have hi0 : (0 : Int) ≤ 7 - (k : Int) := by omega
      have HL := Lib.hid hl
      clear hl
      obtain ⟨tk, htk⟩ : ∃ tk, tk = (be8 m).take k := ⟨_, rfl⟩
      rw [← htk] at HX HL HO ⊢
      clear htk
      go_wp2_with ((with_reducible show wpList _ _ _ (({ dst := some 21, op := _, type := _, pos := _, after := _, guard := _ } : Oper) :: _) _ _); go_must (refine wpList_app1 rfl (.tmp 14) (.tmp 20) rfl (w.heap.size + 1 + 1) _ tk (byN m k) wr.heap.size rfl (HO.out.alloc _) rfl ?hc HL.out ?hs ?_))
      case hc => rw [cell_of_row _ _ _ _ _ _ (heap_alloc_new wr _), show 8 * (7 - k) = 56 - 8 * k by omega, HV.out]; rfl
      case hs => have := HB.out.size; have := HSZ.out; simp; omega
      intro v3 w3 ho3 hg3
      have hsz : w.heap.size + 1 + 1 ≤ wr.heap.size := by have := HB.out.size; have := HSZ.out; omega
      have HB3 := Lib.hid ((HB.out.alloc hsz _).trans (hg3.below (fun k hk => HO.out.base k hk) (by simp; omega)))
      rw [← HX.out] at ho3
      have HO3 := Lib.hid ho3
      obtain ⟨a3, c3, rfl, _, _⟩ := ho3.form
      clear ho3 hg3
      go_wp2_with fail
      go_roundw
      case rel => exact ⟨k + 1, by omega, by go_num, HO3.out, HB3.out⟩
      case measure => simp [intOf]; omega
    · obtain rfl : k = 8 := by omega
      rw [show (be8 m).take 8 = be8 m from by rw [List.take_of_length_le (by rw [be8_len]; omega)]] at HO ⊢
      have hsz : w.heap.size + 1 + 1 ≤ wr.heap.size := by have := HB.out.size; have := HSZ.out; omega
      have hC := refTagged ⟨#[112, 97, 100]⟩ av cv (be8 m) wr HO.out.rdOf HO.out.caps.1 HO.out.caps.2 HO.out.nilCap (by decide) (by rw [be8_len]; omega)
      rw [HPM.out] at hC
      have HC := Lib.hid hC
      have HKr : Hid (BB wr w.heap.size 23 K) := Lib.hid (HK1.out.below HB.out (by omega))
      have HZr : Hid (BB wr (w.heap.size + 1) 23 kZ) := Lib.hid (HZ1.out.below HB.out (by omega))
      have HBr : Hid (Below w.heap.size w wr) := Lib.hid (HB1.out.trans (HB.out.mono (by omega)))
      clear hC HB HK1 HZ1 HB1 HPM HO
      generalize (be8 m).length = q at *
      go_wp2_with fail
      with_reducible refine HC.out.mono ?_
      rintro e w3 ⟨rfl, hb3⟩
      have HK3 := Lib.hid (HKr.out.below hb3 HKr.out.lt)
      have HZ3 := Lib.hid (HZr.out.below hb3 HZr.out.lt)
      have HB3 := Lib.hid (HBr.out.trans (hb3.mono HBr.out.size))
      clear hb3 HKr HZr HBr HC
      go_wp2_with (refine wpList_storeA rfl 69 (.tmp 7) (.tmp 23) rfl w3.heap.size (bvA D) rfl rfl 69 _ (CB.new w3 _ (bvA kZ)) (dg_sz _ HLM.out) (key_old _ HLM.out) (bvA_one _) ?_)
      intro w4 hst hgr
      have hb4 : Below w3.heap.size w3 w4 := grown_below ((Below.refl _ _).alloc (Nat.le_refl _) _) hgr (Nat.le_refl _) (by simp)
      have HD4 : Hid (BB w4 w3.heap.size 69 D) := Lib.hid hst
      have HK4 := Lib.hid (HK3.out.below hb4 HK3.out.lt)
      have HZ4 := Lib.hid (HZ3.out.below hb4 HZ3.out.lt)
      have HB4 := Lib.hid (HB3.out.trans (hb4.mono HB3.out.size))
      have HN : Hid (w.heap.size ≠ w3.heap.size ∧ w.heap.size + 1 ≠ w3.heap.size) := Lib.hid ⟨Nat.ne_of_lt HK3.out.lt, Nat.ne_of_lt HZ3.out.lt⟩
      clear hst hgr hb4 HK3 HZ3 HB3
      generalize w3.heap.size = gd at *
      go_wp2_with fail
      go_loopw [8] (fun i wr => ∃ k : Nat, k ≤ 32 ∧ i = .int .i64 k ∧ BB wr w.heap.size 23 (kxP K D k) ∧ BB wr gd 69 D ∧ BB wr (w.heap.size + 1) 23 kZ ∧ Below w.heap.size w wr) (fun i _ => 32 - (intOf i).toNat)
      case atStart => exact ⟨0, by omega, rfl, by rw [HKZ.out]; exact HK4.out, HD4.out, HZ4.out, HB4.out⟩
      case round =>
        clear HK4 HD4 HZ4 HB4
        obtain ⟨k, hk, rfl, ho, hd, hz, hb⟩ := hrel
        have HO := Lib.hid ho
        have HD := Lib.hid hd
        have HZ := Lib.hid hz
        have HB := Lib.hid hb
        clear ho hd hz hb
        by_cases hlt : k < 32
        · have cf := HO.out.frozen k
          have ck := HO.out.cell k (by rw [kxP_len]; omega)
          rw [kxP_get K D k hlt] at ck
          have HX := Lib.hid (kxP_set K D k)
          have cb := HD.out.cell k (by rw [HLM.out]; exact hlt)
          rw [show D[k]'(by rw [HLM.out]; exact hlt) = D.getD k 0 from by rw [List.getD_eq_getElem?_getD, List.getElem?_eq_getElem (by rw [HLM.out]; exact hlt)]; rfl] at cb
          generalize K.getD k 0 = x at *
          generalize D.getD k 0 = y at *
          have hx := bv_xor x y
          unfold bv at ck cb
          go_wp2_with fail
          go_still_tail 9, (by kernel_rfl)
          change wpList _ _ _ _ _ (World.drew _)
          go_wp2_with fail
          go_roundw
          case rel =>
            refine ⟨k + 1, by omega, by go_num, ?_, (HD.out.setO (Ne.symm HN.out.1) k _).drew, (HZ.out.setO (by omega) k _).drew, ((HB.out.setCell (Nat.le_refl _) _).drew)⟩
            rw [← HX.out]
            exact (HO.out.set_ k (x ^^^ y)).drew
          case measure => simp [intOf]; omega
        · obtain rfl : k = 32 := by omega
          rw [HXA.out] at HO
          clear HD
          go_wp2_with (first
            | (refine wpList_load_row rfl 23 (.tmp 2) rfl w.heap.size rfl _ (bvA X) (0, 0) _ HO.out key_und rfl (key_sz _ HLX.out) ?_)
            | (refine wpList_storeA rfl 23 (.tmp 4) (.tmp 37) rfl (w.heap.size + 1) (bvA X) rfl rfl 23 _ HZ.out (key_sz _ HLX.out) (key_old _ HLX.out) (bvA_one _) ?_))
          intro w9 h9 hg9
          have hB9 := grown_below HB.out hg9 (show w.heap.size ≤ w.heap.size + 1 by omega) HB.out.size
          go_wp2_with fail
          refine bodyPost_ret (v := .agg (bvA X)) ?_ rfl ⟨rfl, hB9⟩
          exact results_cell_row rfl _ _ (w.heap.size + 1) 23 _ (0, 0) _ rfl h9 key_und rfl (key_sz _ HLX.out)
theorem rPriv_ok {x : Nat} (h : PkQ x) (w : World) : Calls Tryz.prog 40 #[.int .i64 x] w fun e w' => e = .returned (.bool true) ∧ w' = w := by
  have f1 : decide (1 ≤ (x : Int)) = true := decide_eq_true (by have := h.1; omega)
  have f2 : decide ((x : Int) < 2305843009213688669) = true := decide_eq_true (by have := h.2; omega)
  go_enter Tryz.func40, Tryz.ntmps40
  go_wp2_with fail
  go_ret
  exact ⟨rfl, rfl⟩
theorem rPriv_bad {x : Int} (h : ¬ (1 ≤ x ∧ x < 2305843009213688669)) (w : World) : Calls Tryz.prog 40 #[.int .i64 x] w fun e w' => e = .returned (.bool false) ∧ w' = w := by
  by_cases h1 : 1 ≤ x
  · have f1 : decide (1 ≤ x) = true := decide_eq_true h1
    have f2 : decide (x < 2305843009213688669) = false := decide_eq_false (by omega)
    go_enter Tryz.func40, Tryz.ntmps40
    go_wp2_with fail
    go_ret
    exact ⟨rfl, rfl⟩
  · have f1 : decide (1 ≤ x) = false := decide_eq_false h1
    go_enter Tryz.func40, Tryz.ntmps40
    go_wp2_with fail
    go_ret
    exact ⟨rfl, rfl⟩
end Go.Proofs.YteigldfdaciopaaGreatDoor
