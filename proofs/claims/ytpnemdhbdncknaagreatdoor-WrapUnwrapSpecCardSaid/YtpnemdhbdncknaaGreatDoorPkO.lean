/-
  The reference of cipher: block.
  The reference of cipher: Block and Stream.
  The reference of cipher: Tag.
  The reference of cipher: Seal and Open.
-/
import Derived.Test.YtpnemdhbdncknaaGreatDoorPkI
import Derived.Test.YtpnemdhbdncknaaGreatDoorPkM
import Derived.Test.YtpnemdhbdncknaaGreatDoorPkR
set_option linter.unusedVariables false
set_option linter.unusedSimpArgs false
namespace Go.Proofs.YtpnemdhbdncknaaGreatDoor
open Go.RowKit
set_option linter.unusedVariables false
set_option linter.unusedSimpArgs false

theorem KN.set_ {w : World} {k n : List UInt8} {wr : World} (h : KN w k n wr) {g : Nat} (hg : w.heap.size + 1 < g) (i : Nat) (v : Value) : KN w k n (wr.setCell ⟨g, i, none⟩ v) :=
  ⟨h.below.setCell (by show w.heap.size ≤ g; omega) v, h.key.setO (by omega) i v, h.nonce.setO (by omega) i v⟩
theorem KN.drewN {w : World} {k n : List UInt8} {wr : World} (h : KN w k n wr) (q : Nat) : KN w k n (wr.drewN q) := ⟨below_dN h.below q, h.key, h.nonce⟩
theorem KN.other {w : World} {k n : List UInt8} {wr w' : World} (h : KN w k n wr) {g : Nat} (hg : w.heap.size + 1 < g) (hgr : wr.grownBy w' (some g)) : KN w k n w' :=
  ⟨grown_below h.below hgr (by omega) h.below.size, h.key.grown hgr (by omega), h.nonce.grown hgr (by omega)⟩
theorem arr16_size (l : List Nat) (h : l.length = 16) : (Tryz.prog.info? 104).map (·.size) = some (wv l).size := by rw [wv_size, h]; kernel_rfl
set_option maxRecDepth 100000 in
theorem slice_key4 (g j : Nat) (h : j < 8) (W : World) : (Instr.sliceAt 23 (.pointer (some ⟨g, 0, none⟩)) (some (.int .i64 (4 * (j : Int)))) (some (.int .i64 (4 * (j : Int) + 4))) none).run Tryz.prog W = .ok (.slice (some ⟨g, 4 * j, none⟩) 4 (32 - 4 * j)) W := by
  have h1 : (Instr.sliceAt 23 (.pointer (some ⟨g, 0, none⟩)) (some (.int .i64 (4 * (j : Int)))) (some (.int .i64 (4 * (j : Int) + 4))) none).run Tryz.prog W = _ := run_sliceAt_array_lh (P := Tryz.prog) W 23 ⟨g, 0, none⟩ (by kernel_rfl) .i64 .i64 (4 * (j : Int)) (4 * (j : Int) + 4) (by omega) (by omega) (by show 4 * (j : Int) + 4 ≤ ((32 : Nat) : Int); omega)
  rw [h1]
  have hz : (sizeOf (Tryz.prog.elem 23)).run Tryz.prog W = .ok 1 W := by kernel_rfl
  have hz2 : Tryz.prog.arrayLen 23 = 32 := by kernel_rfl
  rw [hz, hz2]
  have e : (4 * (j : Int)).toNat = 4 * j := by omega
  have e2 : (4 * (j : Int) + 4).toNat = 4 * j + 4 := by omega
  simp [Result.andThen, slicedAt, e, e2, Addr.add]
  rw [if_neg (by omega)]
  split
  · rename_i h0; rw [h0]
  · rfl
set_option maxRecDepth 100000 in
theorem slice_nonce4 (g j : Nat) (h : j < 3) (W : World) : (Instr.sliceAt 50 (.pointer (some ⟨g, 0, none⟩)) (some (.int .i64 (4 * (j : Int)))) (some (.int .i64 (4 * (j : Int) + 4))) none).run Tryz.prog W = .ok (.slice (some ⟨g, 4 * j, none⟩) 4 (12 - 4 * j)) W := by
  have h1 : (Instr.sliceAt 50 (.pointer (some ⟨g, 0, none⟩)) (some (.int .i64 (4 * (j : Int)))) (some (.int .i64 (4 * (j : Int) + 4))) none).run Tryz.prog W = _ := run_sliceAt_array_lh (P := Tryz.prog) W 50 ⟨g, 0, none⟩ (by kernel_rfl) .i64 .i64 (4 * (j : Int)) (4 * (j : Int) + 4) (by omega) (by omega) (by show 4 * (j : Int) + 4 ≤ ((12 : Nat) : Int); omega)
  rw [h1]
  have hz : (sizeOf (Tryz.prog.elem 50)).run Tryz.prog W = .ok 1 W := by kernel_rfl
  have hz2 : Tryz.prog.arrayLen 50 = 12 := by kernel_rfl
  rw [hz, hz2]
  have e : (4 * (j : Int)).toNat = 4 * j := by omega
  have e2 : (4 * (j : Int) + 4).toNat = 4 * j + 4 := by omega
  simp [Result.andThen, slicedAt, e, e2, Addr.add]
  rw [if_neg (by omega)]
  split
  · rename_i h0; rw [h0]
  · rfl
theorem bytes4 (x : Nat) : (#[.int .u8 ((x : Int) % 256), .int .u8 ((x : Int) / 256 % 256), .int .u8 ((x : Int) / 65536 % 256), .int .u8 ((x : Int) / 16777216 % 256)] : Array Value) = bvA (lbytes x) := by
  have h : ∀ y : Nat, Value.int .u8 ((y : Int) % 256) = bv (UInt8.ofNat y) := fun y => by
    unfold bv; rw [UInt8.toNat_ofNat']; simp
  unfold lbytes bvA
  rw [h x, show (x : Int) / 256 = ((x / 256 : Nat) : Int) by omega, h, show (x : Int) / 65536 = ((x / 65536 : Nat) : Int) by omega, h, show (x : Int) / 16777216 = ((x / 16777216 : Nat) : Int) by omega, h]
  rfl

/-- What the reference's rounds keep. -/
structure RkI (w : World) (s v : List Nat) (g : Nat) (wr : World) : Prop where
  below : Below w.heap.size w wr
  num : WB wr (w.heap.size + 1 + 1) 104 s
  mix : WB wr g 104 v
theorem RkI.call {w : World} {s v : List Nat} {g : Nat} {wr w' : World} (h : RkI w s v g wr) (hb : Below wr.heap.size wr w') : RkI w s v g w' :=
  ⟨h.below.trans (hb.mono h.below.size), h.num.below hb h.num.lt, h.mix.below hb h.mix.lt⟩
theorem RkI.mixed {w : World} {s v v' : List Nat} {g : Nat} {wr w' : World} (h : RkI w s v g wr) (hg : w.heap.size + 1 + 1 < g) (hgr : wr.grownBy w' (some g)) (hm : WB w' g 104 v') : RkI w s v' g w' :=
  ⟨grown_below h.below hgr (by omega) h.below.size, h.num.grownO hgr (by omega), hm⟩

set_option maxRecDepth 100000 in
set_option maxHeartbeats 4000000 in
theorem refBlock6 (k n : List UInt8) (c : Nat) (hk : k.length = 32) (hn : n.length = 12) (hc : c < 4294967296) (w : World) :
    Calls Tryz.prog 61 #[.agg (bvA k), .agg (bvA n), .int .i64 (c : Int)] w fun e w' => ∃ v, e = .returned v ∧ OwnB w.heap.size w' v (cblock k n c) ∧ Below w.heap.size w w' := by
  have HLK := Lib.hid hk
  have HLN := Lib.hid hn
  have HF := Lib.hid (cstN_full k n c hc)
  have HD : Hid (∀ i, (cstK k (i + 1)) = (cstK k i).set (4 + i) (lword k i)) := Lib.hid (cstK_succ k)
  have HDL : Hid (∀ i, (cstK k i).length = 16) := Lib.hid (cstK_len k)
  have HE0 : Hid (cstN k n c 0 = (cstK k 8).set 12 c) := Lib.hid rfl
  have HE : Hid (∀ i, (cstN k n c (i + 1)) = (cstN k n c i).set (13 + i) (lword n i)) := Lib.hid (cstN_succ k n c)
  have HEL : Hid (∀ i, (cstN k n c i).length = 16) := Lib.hid (cstN_len k n c)
  have hcw : IntKind.u32.wrap (c : Int) = (c : Int) := by rw [wrap_u32n]; omega
  clear hk hn
  go_enter Tryz.func61, Tryz.ntmps61
  go_wp2_with fail
  rw [first4 k]
  obtain ⟨w1, hw1⟩ : ∃ w1, w1 = ((w.alloc (.cells (bvA k) 23)).alloc (.cells (bvA n) 50)).alloc (.cells (wv (cstK k 0)) 104) := ⟨_, rfl⟩
  have HI : Hid (KN w k n w1 ∧ WB w1 (w.heap.size + 1 + 1) 104 (cstK k 0)) := Lib.hid (by
    rw [hw1]
    refine ⟨(KN.start w k n).call ((Below.refl _ _).alloc (Nat.le_refl _) _), ?_⟩
    have h := WB.new ((w.alloc (.cells (bvA k) 23)).alloc (.cells (bvA n) 50)) 104 (cstK k 0)
    rw [alloc_size, alloc_size] at h
    exact h)
  rw [← hw1]
  clear hw1
  go_loopw [8] (fun i wr => ∃ j : Nat, j ≤ 8 ∧ i = .int .i64 j ∧ KN w k n wr ∧ WB wr (w.heap.size + 1 + 1) 104 (cstK k j)) (fun i _ => 8 - (intOf i).toNat)
  case atStart => exact ⟨0, by omega, rfl, HI.out⟩
  case round =>
    clear HI
    obtain ⟨j, hj, rfl, hi, hw⟩ := hrel
    have HIj := Lib.hid hi
    have HWj := Lib.hid hw
    clear hi hw
    by_cases hlt : j < 8
    · have ij : (j : Int) < 8 := by omega
      have ij4 : (4 : Int) + j < 16 := by omega
      have hsl := slice_key4 w.heap.size j hlt
      have HCW := Lib.hid (fun cap W h => refCword_at w.heap.size 23 k j 4 cap W h (by rw [HLK.out]; omega) (by omega) (by unfold maxLen; omega))
      go_wp2_with (go_at_call 79; refine (HCW.out _ _ HIj.out.key).mono ?_; rintro e w2 ⟨rfl, q, rfl⟩; have c4 := HWj.out.cellD (4 + j) (by rw [HDL.out]; omega); have f4 := HWj.out.frozen (4 + j))
      go_roundw
      case rel =>
        refine ⟨j + 1, by omega, by go_num, (HIj.out.drewN q).set_ (by omega) _ _, ?_⟩
        rw [HD.out]
        exact (HWj.out.drewN q).set_ _ _
      case measure => simp [intOf]; omega
    · obtain rfl : j = 8 := by omega
      clear hlt
      have c12 := HWj.out.cellD 12 (by rw [HDL.out]; omega)
      have f12 := HWj.out.frozen 12
      have HIn : Hid (KN w k n (wr.setCell ⟨w.heap.size + 1 + 1, 12, none⟩ (.int .u32 (c : Int))) ∧ WB (wr.setCell ⟨w.heap.size + 1 + 1, 12, none⟩ (.int .u32 (c : Int))) (w.heap.size + 1 + 1) 104 (cstN k n c 0)) := Lib.hid ⟨HIj.out.set_ (by omega) _ _, by rw [HE0.out]; exact HWj.out.set_ _ _⟩
      go_wp2_with fail
      generalize wr.setCell ⟨w.heap.size + 1 + 1, 12, none⟩ (.int .u32 (c : Int)) = w5 at *
      clear HIj HWj c12 f12
      go_loopw [9] (fun i wr => ∃ j : Nat, j ≤ 3 ∧ i = .int .i64 j ∧ KN w k n wr ∧ WB wr (w.heap.size + 1 + 1) 104 (cstN k n c j)) (fun i _ => 3 - (intOf i).toNat)
      case atStart => exact ⟨0, by omega, rfl, HIn.out⟩
      case round =>
        clear HIn
        obtain ⟨j, hj, rfl, hi, hw⟩ := hrel
        have HIj := Lib.hid hi
        have HWj := Lib.hid hw
        clear hi hw
        by_cases hlt : j < 3
        · have ij : (j : Int) < 3 := by omega
          have ij4 : (13 : Int) + j < 16 := by omega
          have hsl := slice_nonce4 (w.heap.size + 1) j hlt
          have HCW := Lib.hid (fun cap W h => refCword_at (w.heap.size + 1) 50 n j 4 cap W h (by rw [HLN.out]; omega) (by omega) (by unfold maxLen; omega))
          go_wp2_with (go_at_call 79; refine (HCW.out _ _ HIj.out.nonce).mono ?_; rintro e w2 ⟨rfl, q, rfl⟩; have c4 := HWj.out.cellD (13 + j) (by rw [HEL.out]; omega); have f4 := HWj.out.frozen (13 + j))
          go_roundw
          case rel =>
            repeat apply Exists.intro
            refine ⟨⟨j + 1, by omega, ?_, ?_, ?_⟩, rfl⟩
            · go_num
            · exact (HIj.out.drewN q).set_ (by omega) _ _
            · rw [HE.out]; exact (HWj.out.drewN q).set_ _ _
          case measure => simp [intOf]; omega
        · obtain rfl : j = 3 := by omega
          clear hlt
          rw [HF.out] at HWj
          have HSL : Hid ((cstart k n c).length = 16) := Lib.hid (cstart_len k n c)
          have HCB : Hid (cblock k n c = coutTo (crounds (cstart k n c) 10) (cstart k n c) 16) := Lib.hid rfl
          generalize cstart k n c = s at *
          have HSZ : Hid (∀ v : List Nat, v.length = 16 → (Tryz.prog.info? 104).map (·.size) = some (wv v).size) := Lib.hid arr16_size
          have HSZS := Lib.hid (arr16_size s HSL.out)
          have HOL : Hid ((wv (List.replicate 16 0)).size = (wv s).size) := Lib.hid (by rw [wv_size, wv_size, HSL.out]; rfl)
          go_wp2_with (first
            | (refine wpList_load_row rfl 104 (.tmp 7) rfl (w.heap.size + 1 + 1) rfl _ (wv s) (0, 0) _ HWj.out Tryz.underlying104 rfl HSZS.out ?_)
            | (refine wpList_storeA rfl 104 (.tmp 10) (.tmp 49) rfl wr.heap.size (wv s) rfl rfl 104 _ (heap_alloc_new wr _) HSZS.out HOL.out (wv_one _) ?_))
          intro w6 h6 hg6
          obtain ⟨g, hg⟩ : ∃ g, wr.heap.size = g := ⟨_, rfl⟩
          have HI0 : Hid (RkI w s (crounds s 0) g w6) := Lib.hid (by
            rw [hg] at h6 hg6
            refine ⟨grown_below (HIj.out.below.alloc HIj.out.below.size _) hg6 (by have := HIj.out.below.size; omega) (by rw [alloc_size]; have := HIj.out.below.size; omega), ?_, h6⟩
            exact (HWj.out.alloc _).grownO hg6 (by have := HWj.out.lt; omega))
          have HGL : Hid (w.heap.size + 1 + 1 < g) := Lib.hid (by rw [← hg]; exact HWj.out.lt)
          rw [hg]
          clear h6 hg6 HIj HWj hg
          go_wp2_with fail
          go_loopw [11] (fun i wr => ∃ j : Nat, j ≤ 10 ∧ i = .int .i64 j ∧ RkI w s (crounds s j) g wr) (fun i _ => 10 - (intOf i).toNat)
          case atStart => exact ⟨0, by omega, rfl, HI0.out⟩
          case round =>
            clear HI0
            obtain ⟨j, hj, rfl, hi⟩ := hrel
            have HIj := Lib.hid hi
            clear hi
            by_cases hlt : j < 10
            · have ij : (j : Int) < 10 := by omega
              have HVL : Hid (∀ i, (ccols (crounds s j) i).length = 16) := Lib.hid (fun i => by rw [ccols_len, crounds_len, HSL.out])
              have HV : Hid (∀ i, ccols (crounds s j) (i + 1) = cmix (ccols (crounds s j) i) i (4 + i) (8 + i) (12 + i)) := Lib.hid (fun i => ccols_succ _ i)
              have HR : Hid (crounds s (j + 1) = cdiags (ccols (crounds s j) 4) 4) := Lib.hid rfl
              have HI1 : Hid (RkI w s (ccols (crounds s j) 0) g wr) := by rw [ccols_zero]; exact HIj
              generalize crounds s j = v at *
              go_wp2_with fail
              go_loopw [12] (fun i wr => ∃ m : Nat, m ≤ 4 ∧ i = .int .i64 m ∧ RkI w s (ccols v m) g wr) (fun i _ => 4 - (intOf i).toNat)
              case atStart => exact ⟨0, by omega, rfl, HI1.out⟩
              case round =>
                clear HI1 HIj
                obtain ⟨m, hm, rfl, hi⟩ := hrel
                have HIm := Lib.hid hi
                clear hi
                by_cases hlt2 : m < 4
                · have im : (m : Int) < 4 := by omega
                  have HM : Hid (∀ W, Calls Tryz.prog 80 #[.agg (wv (ccols v m)), .int .i64 (m : Int), .int .i64 (4 + (m : Int)), .int .i64 (8 + (m : Int)), .int .i64 (12 + (m : Int))] W fun e w' => e = .returned (.agg (wv (ccols v (m + 1)))) ∧ Below W.heap.size W w') := by
                    show ∀ W, _
                    intro W
                    have h := refMix (ccols v m) m (4 + m) (8 + m) (12 + m) W (HVL.out m) (by omega) (by omega) (by omega) (by omega)
                    rw [← HV.out m, Int.natCast_add, Int.natCast_add, Int.natCast_add] at h
                    exact h
                  have HS1 := Lib.hid (HSZ.out _ (HVL.out m))
                  have HS2 := Lib.hid (HSZ.out _ (HVL.out (m + 1)))
                  have HO2 : Hid ((wv (ccols v m)).size = (wv (ccols v (m + 1))).size) := Lib.hid (by rw [wv_size, wv_size, HVL.out, HVL.out])
                  go_wp2_with (first
                    | (refine wpList_load_row rfl 104 (.tmp 10) rfl g rfl _ (wv (ccols v m)) (0, 0) _ HIm.out.mix Tryz.underlying104 rfl HS1.out ?_)
                    | (go_at_call 80; with_reducible refine (HM.out _).mono ?_; rintro e w2 ⟨rfl, hb2⟩; have HI2 := Lib.hid (HIm.out.call hb2); clear hb2)
                    | (refine wpList_storeA rfl 104 (.tmp 10) (.tmp 66) rfl g (wv (ccols v (m + 1))) rfl rfl _ _ HI2.out.mix HS2.out HO2.out (wv_one _) ?_))
                  intro w3 h3 hg3
                  have HI3 := Lib.hid (HI2.out.mixed HGL.out hg3 h3)
                  clear h3 hg3 HI2 HIm
                  go_wp2_with fail
                  go_roundw
                  case rel =>
                    first
                      | exact ⟨m + 1, by omega, by go_num, HI3.out⟩
                      | (repeat apply Exists.intro
                         refine ⟨⟨m + 1, by omega, ?_, ?_⟩, rfl⟩
                         · go_num
                         · exact HI3.out)
                  case measure => simp [intOf]; omega
                · obtain rfl : m = 4 := by omega
                  clear hlt2
                  have HI2 : Hid (RkI w s (cdiags (ccols v 4) 0) g wr) := by rw [cdiags_zero]; exact HIm
                  have HVL2 : Hid (∀ i, (cdiags (ccols v 4) i).length = 16) := Lib.hid (fun i => by rw [cdiags_len, HVL.out])
                  have HV2 : Hid (∀ i, cdiags (ccols v 4) (i + 1) = cmix (cdiags (ccols v 4) i) i (4 + (i + 1) % 4) (8 + (i + 2) % 4) (12 + (i + 3) % 4)) := Lib.hid (fun i => cdiags_succ _ i)
                  generalize ccols v 4 = v4 at *
                  clear HIm
                  go_wp2_with fail
                  go_loopw [13] (fun i wr => ∃ m : Nat, m ≤ 4 ∧ i = .int .i64 m ∧ RkI w s (cdiags v4 m) g wr) (fun i _ => 4 - (intOf i).toNat)
                  case atStart => exact ⟨0, by omega, rfl, HI2.out⟩
                  case round =>
                    clear HI2
                    obtain ⟨m, hm, rfl, hi⟩ := hrel
                    have HIm := Lib.hid hi
                    clear hi
                    by_cases hlt2 : m < 4
                    · have im : (m : Int) < 4 := by omega
                      have HM : Hid (∀ W, Calls Tryz.prog 80 #[.agg (wv (cdiags v4 m)), .int .i64 (m : Int), .int .i64 (4 + ((m : Int) + 1) % 4), .int .i64 (8 + ((m : Int) + 2) % 4), .int .i64 (12 + ((m : Int) + 3) % 4)] W fun e w' => e = .returned (.agg (wv (cdiags v4 (m + 1)))) ∧ Below W.heap.size W w') := by
                        show ∀ W, _
                        intro W
                        have h := refMix (cdiags v4 m) m (4 + (m + 1) % 4) (8 + (m + 2) % 4) (12 + (m + 3) % 4) W (HVL2.out m) (by omega) (by omega) (by omega) (by omega)
                        rw [← HV2.out m, show ((4 + (m + 1) % 4 : Nat) : Int) = 4 + ((m : Int) + 1) % 4 by omega, show ((8 + (m + 2) % 4 : Nat) : Int) = 8 + ((m : Int) + 2) % 4 by omega, show ((12 + (m + 3) % 4 : Nat) : Int) = 12 + ((m : Int) + 3) % 4 by omega] at h
                        exact h
                      have HS1 := Lib.hid (HSZ.out _ (HVL2.out m))
                      have HS2 := Lib.hid (HSZ.out _ (HVL2.out (m + 1)))
                      have HO2 : Hid ((wv (cdiags v4 m)).size = (wv (cdiags v4 (m + 1))).size) := Lib.hid (by rw [wv_size, wv_size, HVL2.out, HVL2.out])
                      go_wp2_with (first
                        | (refine wpList_load_row rfl 104 (.tmp 10) rfl g rfl _ (wv (cdiags v4 m)) (0, 0) _ HIm.out.mix Tryz.underlying104 rfl HS1.out ?_)
                        | (go_at_call 80; with_reducible refine (HM.out _).mono ?_; rintro e w2 ⟨rfl, hb2⟩; have HI2 := Lib.hid (HIm.out.call hb2); clear hb2)
                        | (refine wpList_storeA rfl 104 (.tmp 10) (.tmp 85) rfl g (wv (cdiags v4 (m + 1))) rfl rfl _ _ HI2.out.mix HS2.out HO2.out (wv_one _) ?_))
                      intro w3 h3 hg3
                      have HI3 := Lib.hid (HI2.out.mixed HGL.out hg3 h3)
                      clear h3 hg3 HI2 HIm
                      go_wp2_with fail
                      go_roundw
                      case rel =>
                        first
                          | exact ⟨m + 1, by omega, by go_num, HI3.out⟩
                          | (repeat apply Exists.intro
                             refine ⟨⟨m + 1, by omega, ?_, ?_⟩, rfl⟩
                             · go_num
                             · exact HI3.out)
                      case measure => simp [intOf]; omega
                    · obtain rfl : m = 4 := by omega
                      clear hlt2
                      rw [← HR.out] at HIm
                      go_wp2_with fail
                      go_roundw
                      case rel =>
                        first
                          | exact ⟨j + 1, by omega, by go_num, HIm.out⟩
                          | (repeat apply Exists.intro
                             refine ⟨⟨j + 1, by omega, ?_, ?_⟩, rfl⟩
                             · go_num
                             · exact HIm.out)
                      case measure => simp [intOf]; omega
            · obtain rfl : j = 10 := by omega
              clear hlt
              have HVL : Hid ((crounds s 10).length = 16) := Lib.hid (by rw [crounds_len, HSL.out])
              obtain ⟨v, hv⟩ : ∃ v, crounds s 10 = v := ⟨_, rfl⟩
              rw [hv] at HVL HIj HCB
              clear hv
              generalize wr = wB at *
              have HO0 : Hid (OwnB wB.heap.size (wB.alloc (.cells #[] 5)) (.slice (some ⟨wB.heap.size, 0, none⟩) 0 0) (coutTo v s 0)) := Lib.hid (World.ownsRow_made wB #[] 0 (Nat.le_refl _) (by unfold maxLen; omega) (by rfl))
              have HB0 : Hid (Below wB.heap.size wB (wB.alloc (.cells #[] 5))) := Lib.hid ((Below.refl _ _).alloc (Nat.le_refl _) _)
              have HCS : Hid (∀ t, coutTo v s (t + 1) = coutTo v s t ++ lbytes (uadd (v.getD t 0) (s.getD t 0))) := Lib.hid (coutTo_succ v s)
              have HCL := Lib.hid (coutTo_len v s)
              go_wp2_with fail
              go_loopw [15, 14] (fun i x wr => ∃ m : Nat, m ≤ 16 ∧ i = .int .i64 m ∧ OwnB wB.heap.size wr x (coutTo v s m) ∧ Below wB.heap.size wB wr) (fun i _ _ => 16 - (intOf i).toNat)
              case atStart => exact ⟨0, by omega, rfl, HO0.out, HB0.out⟩
              case round =>
                clear HO0 HB0
                obtain ⟨m, hm, rfl, ho, hb⟩ := hrel
                have HO := Lib.hid ho
                have HB := Lib.hid hb
                by_cases hlt : m < 16
                · have im : (m : Int) < 16 := by omega
                  have c1 := (HIj.out.mix.below hb HIj.out.mix.lt).cellD m (by rw [HVL.out]; exact hlt)
                  have c2 := (HIj.out.num.below hb HIj.out.num.lt).cellD m (by rw [HSL.out]; exact hlt)
                  have HX := Lib.hid (HCS.out m)
                  have HLN2 : Hid ((coutTo v s m).length + (lbytes (uadd (v.getD m 0) (s.getD m 0))).length ≤ 140737488355328) := Lib.hid (by rw [HCL.out, lbytes_len]; omega)
                  generalize v.getD m 0 = x1 at *
                  generalize s.getD m 0 = x2 at *
                  have sw := u_add x1 x2
                  obtain ⟨v0, c0, hv0, -, -⟩ := ho.form
                  subst hv0
                  clear ho hb
                  have hbx : Below wr.heap.size wr ((wr.alloc (.cells #[.int .u8 ((uadd x1 x2 : Nat) % 256 : Int), .int .u8 ((uadd x1 x2 : Nat) / 256 % 256 : Int), .int .u8 ((uadd x1 x2 : Nat) / 65536 % 256 : Int), .int .u8 ((uadd x1 x2 : Nat) / 16777216 % 256 : Int)] 5)).drew) := ((Below.refl _ _).alloc (Nat.le_refl _) _).drew
                  have HRX : Hid (RdV ((wr.alloc (.cells #[.int .u8 ((uadd x1 x2 : Nat) % 256 : Int), .int .u8 ((uadd x1 x2 : Nat) / 256 % 256 : Int), .int .u8 ((uadd x1 x2 : Nat) / 65536 % 256 : Int), .int .u8 ((uadd x1 x2 : Nat) / 16777216 % 256 : Int)] 5)).drew) (.slice (some ⟨wr.heap.size, 0, none⟩) 4 4) (lbytes (uadd x1 x2))) := Lib.hid (by
                    rw [bytes4]
                    exact ⟨_, _, rfl, ⟨by rw [lbytes_len]; unfold maxLen; omega, .inr ⟨wr.heap.size, 0, rfl, lt_alloc_drew wr _, fun j hj => by rw [Nat.zero_add]; exact (BB.new wr 5 (lbytes (uadd x1 x2))).cell j hj⟩⟩, by rw [lbytes_len]; exact Nat.le_refl _, by unfold maxLen; omega, fun e => by cases e⟩)
                  have HOX := Lib.hid (HO.out.below hbx)
                  have HBX := Lib.hid (HB.out.trans (hbx.mono HB.out.size))
                  clear hbx
                  go_wp2_with fail
                  go_still (by kernel_rfl)
                  go_wp2_with (refine wpList_appB rfl (.tmp 98) (.tmp 110) rfl wB.heap.size _ (coutTo v s m) (lbytes (uadd x1 x2)) (some ⟨wr.heap.size, 0, none⟩) 4 rfl HOX.out rfl (by obtain ⟨a', c', he, hr, _⟩ := HRX.out; injection he with e1 e2 e3; subst e1; exact hr) (fun h => by cases h) HLN2.out HBX.out.size ?_; intro v2 w2 ho2 hg2)
                  go_roundw
                  case rel =>
                    first
                      | exact ⟨m + 1, by omega, by go_num, by rw [HX.out]; exact ho2, HBX.out.trans (hg2.below (fun r hr => HOX.out.base r hr) HBX.out.size)⟩
                      | (repeat apply Exists.intro
                         refine ⟨⟨m + 1, by omega, ?_, ?_, ?_⟩, rfl⟩
                         · go_num
                         · rw [HX.out]; exact ho2
                         · exact HBX.out.trans (hg2.below (fun r hr => HOX.out.base r hr) HBX.out.size))
                  case measure => simp [intOf]; omega
                · obtain rfl : m = 16 := by omega
                  rw [← HCB.out] at HO
                  go_wp2_with fail
                  go_ret
                  exact ⟨_, rfl, HO.out.mono HIj.out.below.size, HIj.out.below.trans (HB.out.mono HIj.out.below.size)⟩
end Go.Proofs.YtpnemdhbdncknaaGreatDoor

namespace Go.Proofs.YtpnemdhbdncknaaGreatDoor
open Go.RowKit
set_option linter.unusedVariables false
set_option linter.unusedSimpArgs false

/-- What the reference's Stream keeps: the block's bytes. -/
def RxI (wr : World) (v : Value) (Y : List UInt8) (ax : Option Addr) (nx : Nat) : Prop := ∃ bx ox, ax = some ⟨bx, ox, none⟩ ∧ nx = 64 ∧ bx < wr.heap.size ∧ (∀ j, j < 64 → wr.cell? ⟨bx, ox + j, none⟩ = some (.int .u8 ((Y.getD j 0).toNat : Int))) ∧ v.ownBlock ≠ some bx
theorem OwnB.lt_of_own {B : Nat} {w : World} {v : Value} {l : List UInt8} (h : OwnB B w v l) {g : Nat} (e : v.ownBlock = some g) : g < w.heap.size := (World.ownsRow.lt h g e).2
theorem take_snoc (X : List UInt8) (m : Nat) (h : m < X.length) : X.take (m + 1) = X.take m ++ [X.getD m 0] := by
  rw [List.take_succ_eq_append_getElem h, List.getD, List.getElem?_eq_getElem h]; rfl

set_option maxRecDepth 100000 in
set_option maxHeartbeats 4000000 in
theorem refStreamAny (k n : List UInt8) (hk : k.length = 32) (hn : n.length = 12) (l : List UInt8) (a : Option Addr) (q cap : Nat) (w : World) (hl : RdV w (.slice a q cap) l) :
    Calls Tryz.prog 44 #[.agg (bvA k), .agg (bvA n), .slice a q cap] w (AnsO (streamX k n l) (streamE l) w) := by
  have HKN := Lib.hid (KN.start w k n)
  have hq := hl.len
  unfold streamX streamE
  by_cases h : 65536 < q
  · have f1 : decide ((65536 : Int) < (q : Int)) = true := decide_eq_true (by omega)
    rw [if_neg (by omega), if_neg (by omega)]
    clear hq
    go_enter Tryz.func44, Tryz.ntmps44
    go_wp2_with fail
    go_ret2
    exact ⟨_, rfl, OwnB.nil _ _, HKN.out.below⟩
  have f1 : decide ((65536 : Int) < (q : Int)) = false := decide_eq_false (by omega)
  rw [if_pos (by omega), if_pos (by omega)]
  have HSK := Lib.hid (key_size k hk)
  have HSN := Lib.hid (nonce_size n hn)
  have HLK := Lib.hid hk
  have HLN := Lib.hid hn
  have HL := Lib.hid hl
  have HQ := Lib.hid hq
  have HXL : Hid ((cstream k n l).length = q) := Lib.hid (by rw [cstream_len, hq])
  have HXG : Hid (∀ m, m < q → (cstream k n l).getD m 0 = l.getD m 0 ^^^ cbyte k n m) := Lib.hid (fun m hm => cstream_getD k n l m (by omega))
  have iq : (q : Int) ≤ 65536 := by omega
  have HQ16 : Hid (q ≤ 65536) := Lib.hid (by omega)
  clear hk hn hl hq h
  obtain ⟨w1, hw1⟩ : ∃ w1, w1 = (w.alloc (.cells (bvA k) 23)).alloc (.cells (bvA n) 50) := ⟨_, rfl⟩
  rw [← hw1] at HKN
  have HO0 : Hid (OwnB w1.heap.size ((w1.alloc (.cells #[] 5)).alloc (.cells #[] 5)) (.slice (some ⟨w1.heap.size, 0, none⟩) 0 0) []) := Lib.hid ((OwnB.emptyB (Nat.le_refl _)).alloc _)
  have HB0 : Hid (Below w1.heap.size w1 ((w1.alloc (.cells #[] 5)).alloc (.cells #[] 5))) := Lib.hid (((Below.refl _ _).alloc (Nat.le_refl _) _).alloc (by rw [alloc_size]; omega) _)
  have hws : w1.heap.size = w.heap.size + 1 + 1 := by rw [hw1, alloc_size, alloc_size]
  rw [hws] at HO0
  have HWS := Lib.hid hws
  rw [hw1] at HO0 HB0
  have HW1 := Lib.hid hw1
  clear hws hw1
  go_enter Tryz.func44, Tryz.ntmps44
  go_wp2_with fail
  rw [← HW1.out] at HO0 HB0 ⊢
  rw [← HWS.out] at HO0
  obtain ⟨X, hX⟩ : ∃ X, cstream k n l = X := ⟨_, rfl⟩
  rw [hX] at HXL HXG
  have HXX := Lib.hid hX
  clear HW1 hX
  go_loopw [10, 8, 9] (fun i v xv wr => ∃ m : Nat, m ≤ q ∧ i = .int .i64 m ∧ ∃ (a0 : Option Addr) (c0 : Nat), v = .slice a0 m c0 ∧ OwnB w1.heap.size wr (.slice a0 m c0) (X.take m) ∧ ∃ (ax : Option Addr) (nx cx : Nat), xv = .slice ax nx cx ∧ (m % 64 ≠ 0 → RxI wr (.slice a0 m c0) (cblock k n (1 + m / 64)) ax nx) ∧ Below w1.heap.size w1 wr) (fun i _ _ _ => q - (intOf i).toNat)
  case atStart => exact ⟨0, by omega, rfl, some ⟨w.heap.size + 1 + 1, 0, none⟩, 0, rfl, by rw [← HWS.out]; exact HO0.out, _, _, _, rfl, fun e => absurd rfl e, HB0.out⟩
  case round =>
    clear HO0 HB0
    obtain ⟨m, hm, rfl, a0, c0, rfl, ho, ax, nx, cx, rfl, hx, hb⟩ := hrel
    have HO := Lib.hid ho
    have HB := Lib.hid hb
    have HKr := Lib.hid (HKN.out.call hb)
    clear ho hb
    by_cases hlt : m < q
    · have im : (m : Int) < (q : Int) := by omega
      obtain ⟨b, o, rfl, hbB, CL⟩ := HL.out.cell (by omega)
      have HCL : Hid (∀ W, Below w.heap.size w W → W.cell? ⟨b, o + m, none⟩ = some (.int .u8 ((l.getD m 0).toNat : Int))) := Lib.hid (fun W hW => (hW.cell (p := ⟨b, o + m, none⟩) hbB).trans (CL m hlt))
      have HXM := Lib.hid (HXG.out m hlt)
      have HTK := Lib.hid (take_snoc X m (by rw [HXL.out]; exact hlt))
      have HTL : Hid ((X.take m).length = m) := Lib.hid (by rw [List.length_take, HXL.out]; omega)
      clear CL
      obtain ⟨r, hr⟩ : ∃ r, r = m % 64 := ⟨_, rfl⟩
      have tr : (m : Int).tmod 64 = (r : Int) := by rw [Int.tmod_eq_emod_of_nonneg (by omega)]; omega
      have HCBY := Lib.hid (cbyte_eq k n m r (1 + m / 64) hr rfl)
      have HR := Lib.hid hr
      by_cases hmod : r = 0
      · have ft : ((r : Int) == 0) = true := by rw [hmod]; rfl
        have HMOD := Lib.hid hmod
        clear hr hmod
        go_wp2_with (first
          | (refine wpList_load_row rfl 23 (.tmp 3) rfl w.heap.size rfl _ (bvA k) (0, 0) _ HKr.out.key Tryz.underlying23 rfl HSK.out ?_)
          | (refine wpList_load_row rfl 50 (.tmp 4) rfl (w.heap.size + 1) rfl _ (bvA n) (0, 0) _ HKr.out.nonce Tryz.underlying50 rfl HSN.out ?_))
        rw [show (1 + (m : Int) / 64) = ((1 + m / 64 : Nat) : Int) by omega]
        refine (refBlock6 k n (1 + m / 64) HLK.out HLN.out (by have := HQ16.out; omega) wr).mono ?_
        rintro e w2 ⟨v2, rfl, ho2, hb2⟩
        obtain ⟨a2, c2, hv2, hf2, -⟩ := ho2.form
        have hrd := ho2.rdv
        subst hv2
        rw [cblock_len] at hrd ⊢
        obtain ⟨bx, ox, hax, hbx, CX⟩ := hrd.cell (by decide)
        subst hax
        have hge : wr.heap.size ≤ bx := by
          rcases hf2 with ⟨h1, _⟩ | ⟨g, h1, h2, _⟩
          · cases h1
          · injection h1 with h1; injection h1 with h1; omega
        have HRX : Hid (RxI w2 (.slice a0 m c0) (cblock k n (1 + m / 64)) (some ⟨bx, ox, none⟩) 64) := Lib.hid ⟨bx, ox, rfl, rfl, hbx, CX, fun e => by have := HO.out.lt_of_own e; omega⟩
        have HO2 := Lib.hid (HO.out.below hb2)
        have HB2 := Lib.hid (HB.out.trans (hb2.mono HB.out.size))
        have HR' := HR
        clear hb2 ho2 hf2 hrd hbx CX hge HO HB HKr hx HMOD HR
        obtain ⟨Y, hY⟩ : ∃ Y, cblock k n (1 + m / 64) = Y := ⟨_, rfl⟩
        rw [hY] at HRX HCBY
        have HYY := Lib.hid hY
        clear hY
        obtain ⟨bx', ox', hax, -, hbx, CX, hne⟩ := HRX.out
        injection hax with hax
        injection hax with e1 e2
        subst e1; subst e2
        have r64 : r < 64 := by have := HR'.out; omega
        have ir : (r : Int) < 64 := by omega
        have HNE := Lib.hid hne
        have HCX := Lib.hid CX
        have HBX := Lib.hid hbx
        have cx1 := CX r r64
        have cl1 := HCL.out w2 (HKN.out.below.trans (HB2.out.mono HKN.out.below.size))
        have hxy := bv_xor (l.getD m 0) (Y.getD r 0)
        rw [← HCBY.out, ← HXM.out] at hxy
        rw [← HCBY.out] at cx1
        generalize l.getD m 0 = x at *
        generalize X.getD m 0 = z at *
        generalize cbyte k n m = y at *
        have HLN2 : Hid ((X.take m).length + [z].length ≤ 140737488355328) := Lib.hid (by rw [HTL.out, List.length_singleton]; omega)
        clear hne CX hbx HRX HCL HXM
        go_wp2_with fail
        refine wp_region_held_drew (S := fun W => W.cell? ⟨b, o + m, none⟩ = some (.int .u8 (x.toNat : Int)) ∧ W.cell? ⟨bx, ox + r, none⟩ = some (.int .u8 (y.toNat : Int))) (by kernel_rfl) ⟨cl1, cx1⟩ (fun hHeld => ?_)
        refine wpAnyH_take (i := 0) (v := .slice a0 m c0) rfl (by kernel_rfl) (by kernel_rfl) (by kernel_rfl) (fun _ _ _ h => h) (Or.inl ⟨by rfl, fun w _ => by go_simp⟩) hHeld ?_
        simp only [Act.put, List.getElem_toArray, List.getElem_cons_zero, List.getElem_cons_succ, List.setIfInBounds_toArray, List.set_cons_zero, List.set_cons_succ]
        refine wpAnyH_take (i := 1) (v := .slice (some ⟨b, o, none⟩) q cap) rfl (by kernel_rfl) (by kernel_rfl) (by kernel_rfl) (fun _ _ _ h => h) (Or.inl ⟨by rfl, fun w _ => by go_simp⟩) hHeld ?_
        simp only [Act.put, List.getElem_toArray, List.getElem_cons_zero, List.getElem_cons_succ, List.setIfInBounds_toArray, List.set_cons_zero, List.set_cons_succ]
        refine wpAnyH_take (i := 2) (v := .int .i64 m) rfl (by kernel_rfl) (by kernel_rfl) (by kernel_rfl) (fun _ _ _ h => h) (Or.inl ⟨by rfl, fun w _ => by go_simp⟩) hHeld ?_
        simp only [Act.put, List.getElem_toArray, List.getElem_cons_zero, List.getElem_cons_succ, List.setIfInBounds_toArray, List.set_cons_zero, List.set_cons_succ]
        refine wpAnyH_take (i := 3) (v := .pointer (some ⟨b, o + m, none⟩)) rfl (by kernel_rfl) (by kernel_rfl) (by kernel_rfl) (fun _ _ _ h => h) (Or.inl ⟨by rfl, fun w _ => by go_simp⟩) hHeld ?_
        simp only [Act.put, List.getElem_toArray, List.getElem_cons_zero, List.getElem_cons_succ, List.setIfInBounds_toArray, List.set_cons_zero, List.set_cons_succ]
        refine wpAnyH_take (i := 4) (v := .int .u8 (x.toNat : Int)) rfl (by kernel_rfl) (by kernel_rfl) (by kernel_rfl) (fun _ _ _ h => h) (Or.inl ⟨by rfl, fun w hS => by obtain ⟨hS1, hS2⟩ := hS; go_simp⟩) hHeld ?_
        simp only [Act.put, List.getElem_toArray, List.getElem_cons_zero, List.getElem_cons_succ, List.setIfInBounds_toArray, List.set_cons_zero, List.set_cons_succ]
        refine wpAnyH_take (i := 5) (v := .slice (some ⟨bx, ox, none⟩) 64 c2) rfl (by kernel_rfl) (by kernel_rfl) (by kernel_rfl) (fun _ _ _ h => h) (Or.inl ⟨by rfl, fun w _ => by go_simp⟩) hHeld ?_
        simp only [Act.put, List.getElem_toArray, List.getElem_cons_zero, List.getElem_cons_succ, List.setIfInBounds_toArray, List.set_cons_zero, List.set_cons_succ]
        refine wpAnyH_take (i := 6) (v := .int .i64 m) rfl (by kernel_rfl) (by kernel_rfl) (by kernel_rfl) (fun _ _ _ h => h) (Or.inl ⟨by rfl, fun w _ => by go_simp⟩) hHeld ?_
        simp only [Act.put, List.getElem_toArray, List.getElem_cons_zero, List.getElem_cons_succ, List.setIfInBounds_toArray, List.set_cons_zero, List.set_cons_succ]
        refine wpAnyH_take (i := 7) (v := .int .i64 r) rfl (by kernel_rfl) (by kernel_rfl) (by kernel_rfl) (fun _ _ _ h => h) (Or.inl ⟨by rfl, fun w _ => by go_simp⟩) hHeld ?_
        simp only [Act.put, List.getElem_toArray, List.getElem_cons_zero, List.getElem_cons_succ, List.setIfInBounds_toArray, List.set_cons_zero, List.set_cons_succ]
        refine wpAnyH_take (i := 8) (v := .pointer (some ⟨bx, ox + r, none⟩)) rfl (by kernel_rfl) (by kernel_rfl) (by kernel_rfl) (fun _ _ _ h => h) (Or.inl ⟨by rfl, fun w _ => by go_simp⟩) hHeld ?_
        simp only [Act.put, List.getElem_toArray, List.getElem_cons_zero, List.getElem_cons_succ, List.setIfInBounds_toArray, List.set_cons_zero, List.set_cons_succ]
        refine wpAnyH_take (i := 9) (v := .int .u8 (y.toNat : Int)) rfl (by kernel_rfl) (by kernel_rfl) (by kernel_rfl) (fun _ _ _ h => h) (Or.inl ⟨by rfl, fun w hS => by obtain ⟨hS1, hS2⟩ := hS; go_simp⟩) hHeld ?_
        simp only [Act.put, List.getElem_toArray, List.getElem_cons_zero, List.getElem_cons_succ, List.setIfInBounds_toArray, List.set_cons_zero, List.set_cons_succ]
        refine wpAnyH_take (i := 10) (v := .int .u8 (z.toNat : Int)) rfl (by kernel_rfl) (by kernel_rfl) (by kernel_rfl) (fun _ _ _ h => h) (Or.inl ⟨by rfl, fun w _ => by go_simp⟩) hHeld ?_
        simp only [Act.put, List.getElem_toArray, List.getElem_cons_zero, List.getElem_cons_succ, List.setIfInBounds_toArray, List.set_cons_zero, List.set_cons_succ]
        refine wpAnyH_ready (rs := [11]) (by kernel_rfl) (by simp) (AllReadyH.cons rfl (fun K hK => ?_) AllReadyH.nil)
        go_simp
        have hb3 : Below w2.heap.size w2 ((w2.alloc (.cells #[.int .u8 (z.toNat : Int)] 5)).drew) := ((Below.refl _ _).alloc (Nat.le_refl _) _).drew
        have HO3 := Lib.hid (HO2.out.below hb3)
        have HB3 := Lib.hid (HB2.out.trans (hb3.mono HB2.out.size))
        have HR3 : Hid (RdV ((w2.alloc (.cells #[.int .u8 (z.toNat : Int)] 5)).drew) (.slice (some ⟨w2.heap.size, 0, none⟩) 1 1) [z]) := Lib.hid (RdV.one w2 z)
        have cl3 := (hb3.cell (p := ⟨b, o + m, none⟩) (World.block_lt_of_cell? w2 _ cl1)).trans cl1
        have cx3 := (hb3.cell (p := ⟨bx, ox + r, none⟩) HBX.out).trans cx1
        have HCX3 : Hid (bx < ((w2.alloc (.cells #[.int .u8 (z.toNat : Int)] 5)).drew).heap.size ∧ ∀ j, j < 64 → ((w2.alloc (.cells #[.int .u8 (z.toNat : Int)] 5)).drew).cell? ⟨bx, ox + j, none⟩ = some (.int .u8 ((Y.getD j 0).toNat : Int))) := Lib.hid ⟨Nat.lt_of_lt_of_le HBX.out hb3.size, fun j hj => (hb3.cell (p := ⟨bx, ox + j, none⟩) HBX.out).trans (HCX.out j hj)⟩
        have hlt3 := World.block_lt_of_cell? w2 _ cl1
        refine hK.out _ _ ⟨cl3, cx3⟩ (fun hHeld => ?_)
        clear hK K hb3 HCX HBX HO2 HB2
        try simp only [Act.put, List.getElem_toArray, List.getElem_cons_zero, List.getElem_cons_succ, List.setIfInBounds_toArray, List.set_cons_zero, List.set_cons_succ]
        generalize (w2.alloc (.cells #[.int .u8 (z.toNat : Int)] 5)).drew = w4 at *
        refine wpAnyH_ready (rs := [12]) (by kernel_rfl) (by simp) (AllReadyH.cons rfl (fun K hK => ?_) AllReadyH.nil)
        rw [if_pos (by rfl)]
        obtain ⟨a', c', he, g1, g2', g3, g4⟩ := HR3.out.form
        injection he with e1 e2 e3
        subst e1; subst e3; clear e2
        refine wp_appB (.tmp 31) (.tmp 42) rfl w1.heap.size _ (X.take m) [z] _ _ rfl HO3.out rfl g1 g4 HLN2.out HB3.out.size ?_
        intro v5 w5 ho5 hg5
        have HB5 := Lib.hid (HB3.out.trans (hg5.below (fun r hr => HO3.out.base r hr) HB3.out.size))
        have cl5 : w5.cell? ⟨b, o + m, none⟩ = some (.int .u8 (x.toNat : Int)) := (HB5.out.cell (p := ⟨b, o + m, none⟩) (Nat.lt_of_lt_of_le hbB HKN.out.below.size)).trans ((HB3.out.cell (p := ⟨b, o + m, none⟩) (Nat.lt_of_lt_of_le hbB HKN.out.below.size)).symm.trans cl3)
        have cx5 := (hg5.cell (p := ⟨bx, ox + r, none⟩) HCX3.out.1 HNE.out).trans cx3
        have hne5 := hg5.ne HNE.out HCX3.out.1
        have HCX5 : Hid (bx < w5.heap.size ∧ ∀ j, j < 64 → w5.cell? ⟨bx, ox + j, none⟩ = some (.int .u8 ((Y.getD j 0).toNat : Int))) := Lib.hid ⟨Nat.lt_of_lt_of_le HCX3.out.1 hg5.size, fun j hj => (hg5.cell (p := ⟨bx, ox + j, none⟩) HCX3.out.1 HNE.out).trans (HCX3.out.2 j hj)⟩
        rw [← HTK.out] at ho5
        obtain ⟨a5, c5, hv5, -, -⟩ := ho5.form
        subst hv5
        have HT5 : Hid ((X.take (m + 1)).length = m + 1) := Lib.hid (by rw [List.length_take, HXL.out]; omega)
        rw [HT5.out] at ho5 hne5 ⊢
        have HO5 := Lib.hid ho5
        have HN5 := Lib.hid hne5
        refine hK.out _ _ ⟨cl5, cx5⟩ (fun hHeld => ?_)
        clear hK K hg5 ho5 hne5 HR3 HO3 HB3 HCX3 cl5 cx5 cl3 cx3 cl1 cx1
        try simp only [Act.put, List.getElem_toArray, List.getElem_cons_zero, List.getElem_cons_succ, List.setIfInBounds_toArray, List.set_cons_zero, List.set_cons_succ]
        refine wpAnyH_take (i := 13) (v := .slice a5 (m + 1) c5) rfl (by kernel_rfl) (by kernel_rfl) (by kernel_rfl) (fun _ _ _ h => h) (Or.inl ⟨by rfl, fun w _ => by go_simp⟩) hHeld ?_
        simp only [Act.put, List.getElem_toArray, List.getElem_cons_zero, List.getElem_cons_succ, List.setIfInBounds_toArray, List.set_cons_zero, List.set_cons_succ]
        refine wpAnyH_done (by kernel_rfl) ?_ _
        go_wp2_with fail
        go_roundw
        case rel =>
          exact ⟨m + 1, by omega, by go_num, a5, c5, rfl, HO5.out, _, _, _, rfl, (fun h => by
            rw [show (m + 1) / 64 = m / 64 by omega, HYY.out]
            exact ⟨bx, ox, rfl, rfl, HCX5.out.1, HCX5.out.2, HN5.out⟩), HB5.out⟩
        case measure => simp [intOf]; omega
      · have ft : ((r : Int) == 0) = false := by rw [beq_eq_false_iff_ne]; omega
        have HRX := Lib.hid (hx (by rw [← hr]; exact hmod))
        obtain ⟨bx, ox, hax, hnx, -⟩ := hx (by rw [← hr]; exact hmod)
        subst hax; subst hnx
        have HO2 := HO
        have HB2 := HB
        have HR' := HR
        clear hr hmod hx HO HB HKr HR
        obtain ⟨Y, hY⟩ : ∃ Y, cblock k n (1 + m / 64) = Y := ⟨_, rfl⟩
        rw [hY] at HRX HCBY
        have HYY := Lib.hid hY
        clear hY
        obtain ⟨bx', ox', hax, -, hbx, CX, hne⟩ := HRX.out
        injection hax with hax
        injection hax with e1 e2
        subst e1; subst e2
        have r64 : r < 64 := by have := HR'.out; omega
        have ir : (r : Int) < 64 := by omega
        have HNE := Lib.hid hne
        have HCX := Lib.hid CX
        have HBX := Lib.hid hbx
        have cx1 := CX r r64
        have cl1 := HCL.out wr (HKN.out.below.trans (HB2.out.mono HKN.out.below.size))
        have hxy := bv_xor (l.getD m 0) (Y.getD r 0)
        rw [← HCBY.out, ← HXM.out] at hxy
        rw [← HCBY.out] at cx1
        generalize l.getD m 0 = x at *
        generalize X.getD m 0 = z at *
        generalize cbyte k n m = y at *
        have HLN2 : Hid ((X.take m).length + [z].length ≤ 140737488355328) := Lib.hid (by rw [HTL.out, List.length_singleton]; omega)
        clear hne CX hbx HRX HCL HXM
        go_wp2_with fail
        refine wp_region_held_drew (S := fun W => W.cell? ⟨b, o + m, none⟩ = some (.int .u8 (x.toNat : Int)) ∧ W.cell? ⟨bx, ox + r, none⟩ = some (.int .u8 (y.toNat : Int))) (by kernel_rfl) ⟨cl1, cx1⟩ (fun hHeld => ?_)
        refine wpAnyH_take (i := 0) (v := .slice a0 m c0) rfl (by kernel_rfl) (by kernel_rfl) (by kernel_rfl) (fun _ _ _ h => h) (Or.inl ⟨by rfl, fun w _ => by go_simp⟩) hHeld ?_
        simp only [Act.put, List.getElem_toArray, List.getElem_cons_zero, List.getElem_cons_succ, List.setIfInBounds_toArray, List.set_cons_zero, List.set_cons_succ]
        refine wpAnyH_take (i := 1) (v := .slice (some ⟨b, o, none⟩) q cap) rfl (by kernel_rfl) (by kernel_rfl) (by kernel_rfl) (fun _ _ _ h => h) (Or.inl ⟨by rfl, fun w _ => by go_simp⟩) hHeld ?_
        simp only [Act.put, List.getElem_toArray, List.getElem_cons_zero, List.getElem_cons_succ, List.setIfInBounds_toArray, List.set_cons_zero, List.set_cons_succ]
        refine wpAnyH_take (i := 2) (v := .int .i64 m) rfl (by kernel_rfl) (by kernel_rfl) (by kernel_rfl) (fun _ _ _ h => h) (Or.inl ⟨by rfl, fun w _ => by go_simp⟩) hHeld ?_
        simp only [Act.put, List.getElem_toArray, List.getElem_cons_zero, List.getElem_cons_succ, List.setIfInBounds_toArray, List.set_cons_zero, List.set_cons_succ]
        refine wpAnyH_take (i := 3) (v := .pointer (some ⟨b, o + m, none⟩)) rfl (by kernel_rfl) (by kernel_rfl) (by kernel_rfl) (fun _ _ _ h => h) (Or.inl ⟨by rfl, fun w _ => by go_simp⟩) hHeld ?_
        simp only [Act.put, List.getElem_toArray, List.getElem_cons_zero, List.getElem_cons_succ, List.setIfInBounds_toArray, List.set_cons_zero, List.set_cons_succ]
        refine wpAnyH_take (i := 4) (v := .int .u8 (x.toNat : Int)) rfl (by kernel_rfl) (by kernel_rfl) (by kernel_rfl) (fun _ _ _ h => h) (Or.inl ⟨by rfl, fun w hS => by obtain ⟨hS1, hS2⟩ := hS; go_simp⟩) hHeld ?_
        simp only [Act.put, List.getElem_toArray, List.getElem_cons_zero, List.getElem_cons_succ, List.setIfInBounds_toArray, List.set_cons_zero, List.set_cons_succ]
        refine wpAnyH_take (i := 5) (v := .slice (some ⟨bx, ox, none⟩) 64 cx) rfl (by kernel_rfl) (by kernel_rfl) (by kernel_rfl) (fun _ _ _ h => h) (Or.inl ⟨by rfl, fun w _ => by go_simp⟩) hHeld ?_
        simp only [Act.put, List.getElem_toArray, List.getElem_cons_zero, List.getElem_cons_succ, List.setIfInBounds_toArray, List.set_cons_zero, List.set_cons_succ]
        refine wpAnyH_take (i := 6) (v := .int .i64 m) rfl (by kernel_rfl) (by kernel_rfl) (by kernel_rfl) (fun _ _ _ h => h) (Or.inl ⟨by rfl, fun w _ => by go_simp⟩) hHeld ?_
        simp only [Act.put, List.getElem_toArray, List.getElem_cons_zero, List.getElem_cons_succ, List.setIfInBounds_toArray, List.set_cons_zero, List.set_cons_succ]
        refine wpAnyH_take (i := 7) (v := .int .i64 r) rfl (by kernel_rfl) (by kernel_rfl) (by kernel_rfl) (fun _ _ _ h => h) (Or.inl ⟨by rfl, fun w _ => by go_simp⟩) hHeld ?_
        simp only [Act.put, List.getElem_toArray, List.getElem_cons_zero, List.getElem_cons_succ, List.setIfInBounds_toArray, List.set_cons_zero, List.set_cons_succ]
        refine wpAnyH_take (i := 8) (v := .pointer (some ⟨bx, ox + r, none⟩)) rfl (by kernel_rfl) (by kernel_rfl) (by kernel_rfl) (fun _ _ _ h => h) (Or.inl ⟨by rfl, fun w _ => by go_simp⟩) hHeld ?_
        simp only [Act.put, List.getElem_toArray, List.getElem_cons_zero, List.getElem_cons_succ, List.setIfInBounds_toArray, List.set_cons_zero, List.set_cons_succ]
        refine wpAnyH_take (i := 9) (v := .int .u8 (y.toNat : Int)) rfl (by kernel_rfl) (by kernel_rfl) (by kernel_rfl) (fun _ _ _ h => h) (Or.inl ⟨by rfl, fun w hS => by obtain ⟨hS1, hS2⟩ := hS; go_simp⟩) hHeld ?_
        simp only [Act.put, List.getElem_toArray, List.getElem_cons_zero, List.getElem_cons_succ, List.setIfInBounds_toArray, List.set_cons_zero, List.set_cons_succ]
        refine wpAnyH_take (i := 10) (v := .int .u8 (z.toNat : Int)) rfl (by kernel_rfl) (by kernel_rfl) (by kernel_rfl) (fun _ _ _ h => h) (Or.inl ⟨by rfl, fun w _ => by go_simp⟩) hHeld ?_
        simp only [Act.put, List.getElem_toArray, List.getElem_cons_zero, List.getElem_cons_succ, List.setIfInBounds_toArray, List.set_cons_zero, List.set_cons_succ]
        refine wpAnyH_ready (rs := [11]) (by kernel_rfl) (by simp) (AllReadyH.cons rfl (fun K hK => ?_) AllReadyH.nil)
        go_simp
        have hb3 : Below wr.heap.size wr ((wr.alloc (.cells #[.int .u8 (z.toNat : Int)] 5)).drew) := ((Below.refl _ _).alloc (Nat.le_refl _) _).drew
        have HO3 := Lib.hid (HO2.out.below hb3)
        have HB3 := Lib.hid (HB2.out.trans (hb3.mono HB2.out.size))
        have HR3 : Hid (RdV ((wr.alloc (.cells #[.int .u8 (z.toNat : Int)] 5)).drew) (.slice (some ⟨wr.heap.size, 0, none⟩) 1 1) [z]) := Lib.hid (RdV.one wr z)
        have cl3 := (hb3.cell (p := ⟨b, o + m, none⟩) (World.block_lt_of_cell? wr _ cl1)).trans cl1
        have cx3 := (hb3.cell (p := ⟨bx, ox + r, none⟩) HBX.out).trans cx1
        have HCX3 : Hid (bx < ((wr.alloc (.cells #[.int .u8 (z.toNat : Int)] 5)).drew).heap.size ∧ ∀ j, j < 64 → ((wr.alloc (.cells #[.int .u8 (z.toNat : Int)] 5)).drew).cell? ⟨bx, ox + j, none⟩ = some (.int .u8 ((Y.getD j 0).toNat : Int))) := Lib.hid ⟨Nat.lt_of_lt_of_le HBX.out hb3.size, fun j hj => (hb3.cell (p := ⟨bx, ox + j, none⟩) HBX.out).trans (HCX.out j hj)⟩
        have hlt3 := World.block_lt_of_cell? wr _ cl1
        refine hK.out _ _ ⟨cl3, cx3⟩ (fun hHeld => ?_)
        clear hK K hb3 HCX HBX HO2 HB2
        try simp only [Act.put, List.getElem_toArray, List.getElem_cons_zero, List.getElem_cons_succ, List.setIfInBounds_toArray, List.set_cons_zero, List.set_cons_succ]
        generalize (wr.alloc (.cells #[.int .u8 (z.toNat : Int)] 5)).drew = w4 at *
        refine wpAnyH_ready (rs := [12]) (by kernel_rfl) (by simp) (AllReadyH.cons rfl (fun K hK => ?_) AllReadyH.nil)
        rw [if_pos (by rfl)]
        obtain ⟨a', c', he, g1, g2', g3, g4⟩ := HR3.out.form
        injection he with e1 e2 e3
        subst e1; subst e3; clear e2
        refine wp_appB (.tmp 31) (.tmp 42) rfl w1.heap.size _ (X.take m) [z] _ _ rfl HO3.out rfl g1 g4 HLN2.out HB3.out.size ?_
        intro v5 w5 ho5 hg5
        have HB5 := Lib.hid (HB3.out.trans (hg5.below (fun r hr => HO3.out.base r hr) HB3.out.size))
        have cl5 : w5.cell? ⟨b, o + m, none⟩ = some (.int .u8 (x.toNat : Int)) := (HB5.out.cell (p := ⟨b, o + m, none⟩) (Nat.lt_of_lt_of_le hbB HKN.out.below.size)).trans ((HB3.out.cell (p := ⟨b, o + m, none⟩) (Nat.lt_of_lt_of_le hbB HKN.out.below.size)).symm.trans cl3)
        have cx5 := (hg5.cell (p := ⟨bx, ox + r, none⟩) HCX3.out.1 HNE.out).trans cx3
        have hne5 := hg5.ne HNE.out HCX3.out.1
        have HCX5 : Hid (bx < w5.heap.size ∧ ∀ j, j < 64 → w5.cell? ⟨bx, ox + j, none⟩ = some (.int .u8 ((Y.getD j 0).toNat : Int))) := Lib.hid ⟨Nat.lt_of_lt_of_le HCX3.out.1 hg5.size, fun j hj => (hg5.cell (p := ⟨bx, ox + j, none⟩) HCX3.out.1 HNE.out).trans (HCX3.out.2 j hj)⟩
        rw [← HTK.out] at ho5
        obtain ⟨a5, c5, hv5, -, -⟩ := ho5.form
        subst hv5
        have HT5 : Hid ((X.take (m + 1)).length = m + 1) := Lib.hid (by rw [List.length_take, HXL.out]; omega)
        rw [HT5.out] at ho5 hne5 ⊢
        have HO5 := Lib.hid ho5
        have HN5 := Lib.hid hne5
        refine hK.out _ _ ⟨cl5, cx5⟩ (fun hHeld => ?_)
        clear hK K hg5 ho5 hne5 HR3 HO3 HB3 HCX3 cl5 cx5 cl3 cx3 cl1 cx1
        try simp only [Act.put, List.getElem_toArray, List.getElem_cons_zero, List.getElem_cons_succ, List.setIfInBounds_toArray, List.set_cons_zero, List.set_cons_succ]
        refine wpAnyH_take (i := 13) (v := .slice a5 (m + 1) c5) rfl (by kernel_rfl) (by kernel_rfl) (by kernel_rfl) (fun _ _ _ h => h) (Or.inl ⟨by rfl, fun w _ => by go_simp⟩) hHeld ?_
        simp only [Act.put, List.getElem_toArray, List.getElem_cons_zero, List.getElem_cons_succ, List.setIfInBounds_toArray, List.set_cons_zero, List.set_cons_succ]
        refine wpAnyH_done (by kernel_rfl) ?_ _
        go_wp2_with fail
        go_roundw
        case rel =>
          exact ⟨m + 1, by omega, by go_num, a5, c5, rfl, HO5.out, _, _, _, rfl, (fun h => by
            rw [show (m + 1) / 64 = m / 64 by omega, HYY.out]
            exact ⟨bx, ox, rfl, rfl, HCX5.out.1, HCX5.out.2, HN5.out⟩), HB5.out⟩
        case measure => simp [intOf]; omega
    · obtain rfl : m = q := by omega
      have HO2 := HO
      have HFX : Hid (X.take m = cstream k n l) := Lib.hid (by rw [HXX.out, List.take_of_length_le (by rw [HXL.out]; exact Nat.le_refl _)])
      rw [HFX.out] at HO2
      clear hx
      go_wp2_with fail
      go_ret2
      exact ⟨_, rfl, HO2.out.mono HKN.out.below.size, HKr.out.below⟩
end Go.Proofs.YtpnemdhbdncknaaGreatDoor

namespace Go.Proofs.YtpnemdhbdncknaaGreatDoor
open Go.RowKit
set_option linter.unusedVariables false
set_option linter.unusedSimpArgs false

set_option maxRecDepth 100000 in
set_option maxHeartbeats 4000000 in
theorem refTagAny (k n hd x : List UInt8) (hk : k.length = 32) (hn : n.length = 12) (a : Option Addr) (q cap : Nat) (ax : Option Addr) (z cx : Nat) (w : World) (hh : RdV w (.slice a q cap) hd) (hx : RdV w (.slice ax z cx) x) (hl : hd.length ≤ 70368744100000) (hlx : x.length ≤ 66000) :
    Calls Tryz.prog 45 #[.agg (bvA k), .agg (bvA n), .slice a q cap, .slice ax z cx] w fun e w' => ∃ v', e = .returned v' ∧ OwnB w.heap.size w' v' (tagC k n hd x) ∧ Below w.heap.size w w' := by
  have hq := hh.len
  have hz := hx.len
  have HX := Lib.hid hx
  have HH := Lib.hid hh
  have HLK := Lib.hid hk
  have HLN := Lib.hid hn
  have HKN := Lib.hid (KN.start w k n)
  have HLL : Hid (hd.length ≤ 70368744100000 ∧ x.length ≤ 66000) := Lib.hid ⟨hl, hlx⟩
  have HTC : Hid (tagC k n hd x = (tagS [116, 97, 103] (k ++ n ++ be8 (q : Nat) ++ hd ++ x)).take 16) := Lib.hid (by rw [hq]; rfl)
  have HQL := Lib.hid hq
  have HZL := Lib.hid hz
  have iq : (q : Int) ≤ 70368744100000 := by omega
  clear hk hn hh hx hq hz
  obtain ⟨w1, hw1⟩ : ∃ w1, w1 = (w.alloc (.cells (bvA k) 23)).alloc (.cells (bvA n) 50) := ⟨_, rfl⟩
  rw [← hw1] at HKN
  have HW1 := Lib.hid hw1
  clear hw1
  go_enter Tryz.func45, Tryz.ntmps45
  go_wp2_with fail
  rw [← HW1.out]
  clear HW1
  have HB0 : Hid (Below w1.heap.size w1 w1.drew) := (Below.refl _ _).drew
  have HRK : Hid (∀ W, Below w1.heap.size w1 W → RdV W (.slice (some ⟨w.heap.size, 0, none⟩) 32 32) k) := Lib.hid (fun W hW => (HKN.out.key.rdv 32 HLK.out (by unfold maxLen; omega)).call hW)
  have HRN : Hid (∀ W, Below w1.heap.size w1 W → RdV W (.slice (some ⟨w.heap.size + 1, 0, none⟩) 12 12) n) := Lib.hid (fun W hW => (HKN.out.nonce.rdv 12 HLN.out (by unfold maxLen; omega)).call hW)
  refine wp_region_held_drew (S := fun _ => True) (by kernel_rfl) trivial (fun hHeld => ?_)
  refine wpAnyH_take (i := 1) (v := .slice (some ⟨w.heap.size, 0, none⟩) 32 32) rfl (by kernel_rfl) (by kernel_rfl) (by kernel_rfl) (fun _ _ _ h => h) (Or.inl ⟨by rfl, fun w _ => by go_simp⟩) hHeld ?_
  simp only [Act.put, List.getElem_toArray, List.getElem_cons_zero, List.getElem_cons_succ, List.setIfInBounds_toArray, List.set_cons_zero, List.set_cons_succ]
  refine wpAnyH_take (i := 3) (v := .slice (some ⟨w.heap.size + 1, 0, none⟩) 12 12) rfl (by kernel_rfl) (by kernel_rfl) (by kernel_rfl) (fun _ _ _ h => h) (Or.inl ⟨by rfl, fun w _ => by go_simp⟩) hHeld ?_
  simp only [Act.put, List.getElem_toArray, List.getElem_cons_zero, List.getElem_cons_succ, List.setIfInBounds_toArray, List.set_cons_zero, List.set_cons_succ]
  refine wpAnyH_ready (rs := [0]) (by kernel_rfl) (by simp) (AllReadyH.cons rfl (fun K hK => ?_) AllReadyH.nil)
  rw [if_pos (by rfl)]
  refine wp_nilB0 rfl ?_
  intro w2 g2 ho hg2 hz hb
  have HO2 : Hid (OwnB w1.heap.size w2 (.slice (some ⟨g2, 0, none⟩) 0 0) []) := Lib.hid (ho.mono HB0.out.size)
  have HE2 := Lib.hid (HB0.out.trans (hb.mono HB0.out.size))
  clear ho hg2 hz hb
  refine hK.out _ _ trivial (fun hHeld => ?_)
  clear hK K
  try simp only [Act.put, List.getElem_toArray, List.getElem_cons_zero, List.getElem_cons_succ, List.setIfInBounds_toArray, List.set_cons_zero, List.set_cons_succ]
  refine wpAnyH_ready (rs := [2]) (by kernel_rfl) (by simp) (AllReadyH.cons rfl (fun K hK => ?_) AllReadyH.nil)
  rw [if_pos (by rfl)]
  obtain ⟨a', c', he, g1, g2', g3, g4⟩ := (HRK.out _ HE2.out).form
  injection he with e1 e2 e3
  subst e1; subst e3; clear e2
  refine wp_appB (.tmp 12) (.tmp 13) rfl w1.heap.size _ ([]) (k) _ _ rfl HO2.out (by rw [HLK.out]; rfl) g1 g4 (by simp only [List.length_nil, List.nil_append, HLK.out, HLN.out]; decide) HE2.out.size ?_
  intro v3 w3 ho hg
  have HO3 : Hid (OwnB w1.heap.size w3 v3 ([] ++ k)) := Lib.hid ho
  have HE3 := Lib.hid (HE2.out.trans (hg.below (fun r hr => HO2.out.base r hr) HE2.out.size))
  clear ho hg
  refine hK.out _ _ trivial (fun hHeld => ?_)
  clear hK K
  try simp only [Act.put, List.getElem_toArray, List.getElem_cons_zero, List.getElem_cons_succ, List.setIfInBounds_toArray, List.set_cons_zero, List.set_cons_succ]
  refine wpAnyH_ready (rs := [4]) (by kernel_rfl) (by simp) (AllReadyH.cons rfl (fun K hK => ?_) AllReadyH.nil)
  rw [if_pos (by rfl)]
  obtain ⟨a', c', he, g1, g2', g3, g4⟩ := (HRN.out _ HE3.out).form
  injection he with e1 e2 e3
  subst e1; subst e3; clear e2
  refine wp_appB (.tmp 14) (.tmp 15) rfl w1.heap.size _ ([] ++ k) (n) _ _ rfl HO3.out (by rw [HLN.out]; rfl) g1 g4 (by simp only [List.length_nil, List.nil_append, HLK.out, HLN.out]; decide) HE3.out.size ?_
  intro v4 w4 ho hg
  have HO4 : Hid (OwnB w1.heap.size w4 v4 ([] ++ k ++ n)) := Lib.hid ho
  have HE4 := Lib.hid (HE3.out.trans (hg.below (fun r hr => HO3.out.base r hr) HE3.out.size))
  clear ho hg
  refine hK.out _ _ trivial (fun hHeld => ?_)
  clear hK K
  try simp only [Act.put, List.getElem_toArray, List.getElem_cons_zero, List.getElem_cons_succ, List.setIfInBounds_toArray, List.set_cons_zero, List.set_cons_succ]
  rw [List.nil_append] at HO4
  obtain ⟨a4, c4, hv4, -, -⟩ := HO4.out.form
  rw [hv4] at HO4
  subst hv4
  refine wpAnyH_take (i := 5) (v := .slice a4 (k ++ n).length c4) rfl (by kernel_rfl) (by kernel_rfl) (by kernel_rfl) (fun _ _ _ h => h) (Or.inl ⟨by rfl, fun w _ => by go_simp⟩) hHeld ?_
  simp only [Act.put, List.getElem_toArray, List.getElem_cons_zero, List.getElem_cons_succ, List.setIfInBounds_toArray, List.set_cons_zero, List.set_cons_succ]
  refine wpAnyH_done (by kernel_rfl) ?_ _
  have HO5 : Hid (OwnB w1.heap.size w4 (.slice a4 (k ++ n).length c4) (k ++ n ++ (be8 (q : Nat)).take 0)) := Lib.hid (by rw [List.take_zero, List.append_nil]; exact HO4.out)
  have HPL : Hid ((k ++ n).length = 44) := Lib.hid (by rw [List.length_append, HLK.out, HLN.out])
  clear HO4 HO3 HO2 HE2 HE3 HB0 hHeld
  generalize (k ++ n).length = pl at *
  go_wp2_with fail
  go_loopw [10, 9] (fun i v wr => ∃ m : Nat, m ≤ 8 ∧ i = .int .i64 (7 - (m : Int)) ∧ OwnB w1.heap.size wr v (k ++ n ++ (be8 (q : Nat)).take m) ∧ Below w1.heap.size w1 wr) (fun i _ _ => (intOf i + 1).toNat)
  case atStart => exact ⟨0, by omega, rfl, HO5.out, HE4.out⟩
  case round =>
    clear HO5 HE4
    obtain ⟨m, hm, rfl, ho, hb⟩ := hrel
    have HO := Lib.hid ho
    have HB := Lib.hid hb
    obtain ⟨av, cv, hv, -, -⟩ := ho.form
    subst hv
    clear ho hb
    by_cases hlt : m < 8
    · have HXM := Lib.hid (be8_take (q : Nat) m hlt)
      have HV := Lib.hid (cbv_byN (q : Nat) m)
      have HU := Lib.hid (byN_u (q : Nat) m hlt)
      have HL : Hid ((k ++ n ++ (be8 (q : Nat)).take m).length + 1 ≤ 140737488355328) := Lib.hid (by rw [List.length_append, List.length_append, HLK.out, HLN.out, List.length_take, be8_len]; omega)
      have hi0 : (0 : Int) ≤ 7 - (m : Int) := by omega
      obtain ⟨tk, htk⟩ : ∃ tk, tk = k ++ n ++ (be8 (q : Nat)).take m := ⟨_, rfl⟩
      have HTK : Hid (k ++ n ++ (be8 (q : Nat)).take (m + 1) = tk ++ [byN (q : Nat) m]) := Lib.hid (by rw [HXM.out, htk, ← List.append_assoc])
      rw [← htk] at HL HO ⊢
      clear htk
      go_wp2_with ((with_reducible show wpList _ _ _ (({ dst := some 30, op := _, type := _, pos := _, after := _, guard := _ } : Oper) :: _) _ _); go_must (refine wpList_app1 rfl (.tmp 21) (.tmp 29) rfl w1.heap.size _ tk (byN (q : Nat) m) wr.heap.size rfl (HO.out.alloc _) rfl ?hc HL.out ?hs ?_))
      case hc => rw [cell_of_row _ _ _ _ _ _ (heap_alloc_new wr _), show 8 * (7 - m) = 56 - 8 * m by omega, HV.out]; rfl
      case hs => have := HB.out.size; simp; omega
      intro v3 w3 ho3 hg3
      have HB3 := Lib.hid ((HB.out.alloc HB.out.size _).trans (hg3.below (fun k hk => HO.out.base k hk) (HB.out.alloc HB.out.size _).size))
      rw [← HTK.out] at ho3
      have HO3 := Lib.hid ho3
      obtain ⟨a3, c3, hv3, -, -⟩ := ho3.form
      subst hv3
      clear ho3 hg3
      go_wp2_with fail
      go_roundw
      case rel => exact ⟨m + 1, by omega, by go_num, HO3.out, HB3.out⟩
      case measure => simp [intOf]; omega
    · obtain rfl : m = 8 := by omega
      rw [show (be8 (q : Nat)).take 8 = be8 (q : Nat) from by rw [List.take_of_length_le (by rw [be8_len]; omega)]] at HO ⊢
      have HRH := Lib.hid (HH.out.call (HKN.out.below.trans (HB.out.mono HKN.out.below.size)))
      have HBX : Hid (∀ W, Below w1.heap.size w1 W → RdV W (.slice ax z cx) x) := Lib.hid (fun W hW => HX.out.call (HKN.out.below.trans (hW.mono HKN.out.below.size)))
      have HPL2 : Hid ((k ++ n ++ be8 (q : Nat)).length = 52) := Lib.hid (by rw [List.length_append, List.length_append, HLK.out, HLN.out, be8_len])
      obtain ⟨P, hP⟩ : ∃ P, k ++ n ++ be8 (q : Nat) = P := ⟨_, rfl⟩
      rw [hP] at HO HPL2 HTC ⊢
      have HML : Hid ((P ++ hd ++ x).length ≤ 70368744177000) := Lib.hid (by rw [List.length_append, List.length_append, HPL2.out]; have := HLL.out; omega)
      obtain ⟨M, hM⟩ : ∃ M, P ++ hd ++ x = M := ⟨_, rfl⟩
      rw [hM] at HTC HML
      have HMM := Lib.hid hM
      clear hM
      obtain ⟨D, hD⟩ : ∃ D, tagS [116, 97, 103] M = D := ⟨_, rfl⟩
      have HDL : Hid (D.length = 32) := Lib.hid (by rw [← hD, tagS_len])
      have HTG : Hid (∀ W a c, RdV W (.slice a M.length c) M → Calls Tryz.prog 47 #[.string ⟨#[116, 97, 103]⟩, .slice a M.length c] W fun e w' => e = .returned (.agg (bvA D)) ∧ Below W.heap.size W w') := by
        show ∀ W a c, _ → _
        intro W a c hv
        obtain ⟨a1, c1, he, r1, r2, r3, r4⟩ := hv
        injection he with e1 e2 e3
        subst e1; subst e3
        rw [← hD]
        exact refTagged ⟨#[116, 97, 103]⟩ a c M W r1 r2 r3 r4 (by decide) HML.out
      rw [hD] at HTC
      have HSD : Hid ((Tryz.prog.info? 68).map (·.size) = some (bvA D).size) := Lib.hid (by rw [bvA_size, HDL.out]; kernel_rfl)
      have HOD : Hid ((bvA (List.replicate 32 0)).size = (bvA D).size) := Lib.hid (by rw [bvA_size, bvA_size, HDL.out, List.length_replicate])
      have HL1 : Hid (P.length + hd.length ≤ 140737488355328) := Lib.hid (by rw [HPL2.out]; have := HLL.out; omega)
      have HL2 : Hid ((P ++ hd).length + x.length ≤ 140737488355328) := Lib.hid (by rw [List.length_append, HPL2.out]; have := HLL.out; omega)
      clear hP hD
      go_wp2_with (first
        | (obtain ⟨ra, rc, he, r1, r2, r3, r4⟩ := HRH.out.form; injection he with e1 e2 e3; subst e1; subst e3; refine wpList_appB rfl (.tmp 31) (.tmp 32) rfl w1.heap.size _ P hd a cap rfl HO.out (by rw [← HQL.out]; rfl) r1 r4 HL1.out HB.out.size ?_; intro v5 w5 ho5 hg5; have HO5 := Lib.hid ho5; have HE5 := Lib.hid (HB.out.trans (hg5.below (fun r hr => HO.out.base r hr) HB.out.size)); clear ho5 hg5 r1 r2 r3 r4 e2)
        | (obtain ⟨ra, rc, he, r1, r2, r3, r4⟩ := (HBX.out _ HE5.out).form; injection he with e1 e2 e3; subst e1; subst e3; refine wpList_appB rfl (.tmp 33) (.tmp 34) rfl w1.heap.size _ (P ++ hd) x ax cx rfl HO5.out (by rw [← HZL.out]; rfl) r1 r4 HL2.out HE5.out.size ?_; intro v6 w6 ho6 hg6; rw [HMM.out] at ho6; have HO6 := Lib.hid ho6; have HE6 := Lib.hid (HE5.out.trans (hg6.below (fun r hr => HO5.out.base r hr) HE5.out.size)); clear ho6 hg6 r1 r2 r3 r4 e2; obtain ⟨a6, c6, hv6, -, -⟩ := HO6.out.form; subst hv6)
        | (go_at_call 47; with_reducible refine (HTG.out w6 a6 c6 HO6.out.rdv).mono ?_; rintro e w7 ⟨rfl, hb7⟩; have HE7 := Lib.hid (HE6.out.trans (hb7.mono HE6.out.size)); clear hb7)
        | (refine wpList_storeA rfl 68 (.tmp 11) (.tmp 36) rfl w7.heap.size (bvA D) rfl rfl 68 (bvA (List.replicate 32 0)) (heap_alloc_new w7 _) HSD.out HOD.out (bvA_one _) ?_))
      intro w8 h8 hg8
      have HD8 : Hid (BB w8 w7.heap.size 68 D) := Lib.hid h8
      have HE8 : Hid (Below w1.heap.size w1 w8) := Lib.hid (grown_below (HE7.out.alloc HE7.out.size _) hg8 HE7.out.size (by rw [alloc_size]; have := HE7.out.size; omega))
      have HO9 : Hid (OwnB w1.heap.size (w8.alloc (.cells #[] 5)) (.slice (some ⟨w8.heap.size, 0, none⟩) 0 0) []) := Lib.hid (OwnB.emptyB HE8.out.size)
      have HE9 : Hid (Below w1.heap.size w1 (w8.alloc (.cells #[] 5))) := Lib.hid (HE8.out.alloc HE8.out.size _)
      have HR9 : Hid (RdB (w8.alloc (.cells #[] 5)).heap.size (w8.alloc (.cells #[] 5)) (some ⟨w7.heap.size, 0, none⟩) (D.take 16)) := Lib.hid ((((HD8.out.alloc _).rdb (by rw [HDL.out]; unfold maxLen; omega))).take 16)
      have HT16 : Hid ((D.take 16).length = 16) := Lib.hid (by rw [List.length_take, HDL.out]; rfl)
      clear h8 hg8
      go_wp2_with (refine wpList_appB rfl (.tmp 37) (.tmp 38) rfl w1.heap.size _ [] (D.take 16) (some ⟨w7.heap.size, 0, none⟩) 32 rfl HO9.out (by rw [HT16.out]; rfl) HR9.out (fun h => by cases h) (by rw [HT16.out]; decide) HE9.out.size ?_; intro v10 w10 ho10 hg10)
      go_ret
      rw [HTC.out]
      exact ⟨_, rfl, ho10.mono HKN.out.below.size, HKN.out.below.trans ((HE9.out.trans (hg10.below (fun r hr => HO9.out.base r hr) HE9.out.size)).mono HKN.out.below.size)⟩
end Go.Proofs.YtpnemdhbdncknaaGreatDoor

namespace Go.Proofs.YtpnemdhbdncknaaGreatDoor
open Go.RowKit
set_option linter.unusedVariables false
set_option linter.unusedSimpArgs false

theorem refStreamLe (k n : List UInt8) (hk : k.length = 32) (hn : n.length = 12) (l : List UInt8) (a : Option Addr) (q cap : Nat) (w : World) (hl : RdV w (.slice a q cap) l) (h : l.length ≤ 65536) :
    Calls Tryz.prog 44 #[.agg (bvA k), .agg (bvA n), .slice a q cap] w (AnsO (cstream k n l) 0 w) := by
  have := refStreamAny k n hk hn l a q cap w hl
  unfold streamX streamE at this
  rwa [if_pos h, if_pos h] at this
theorem refStreamGt (k n : List UInt8) (hk : k.length = 32) (hn : n.length = 12) (l : List UInt8) (a : Option Addr) (q cap : Nat) (w : World) (hl : RdV w (.slice a q cap) l) (h : ¬ l.length ≤ 65536) :
    Calls Tryz.prog 44 #[.agg (bvA k), .agg (bvA n), .slice a q cap] w (AnsO [] 60 w) := by
  have := refStreamAny k n hk hn l a q cap w hl
  unfold streamX streamE at this
  rwa [if_neg h, if_neg h] at this

set_option maxRecDepth 100000 in
set_option maxHeartbeats 2000000 in
theorem refSealAny (k n : List UInt8) (hk : k.length = 32) (hn : n.length = 12) (hd l : List UInt8) (ah : Option Addr) (p ch : Nat) (a : Option Addr) (q cap : Nat) (w : World) (hh : RdV w (.slice ah p ch) hd) (hl : RdV w (.slice a q cap) l) (hhl : hd.length ≤ 70368744100000) :
    Calls Tryz.prog 25 #[.agg (bvA k), .agg (bvA n), .slice ah p ch, .slice a q cap] w (AnsO (sealX k n hd l) (streamE l) w) := by
  have HSK := Lib.hid (key_size k hk)
  have HSN := Lib.hid (nonce_size n hn)
  have HKN := Lib.hid (KN.start w k n)
  unfold sealX streamE
  by_cases h : l.length ≤ 65536
  · rw [if_pos h, if_pos h]
    have HS := Lib.hid (fun W (hW : Below w.heap.size w W) => refStreamLe k n hk hn l a q cap W (hl.call hW) h)
    have HG : Hid (∀ W a c, Below w.heap.size w W → RdV W (.slice a (cstream k n l).length c) (cstream k n l) → Calls Tryz.prog 45 #[.agg (bvA k), .agg (bvA n), .slice ah p ch, .slice a (cstream k n l).length c] W fun e w' => ∃ v', e = .returned v' ∧ OwnB W.heap.size w' v' (tagC k n hd (cstream k n l)) ∧ Below W.heap.size W w') :=
      Lib.hid (fun W a c hW hL => refTagAny k n hd _ hk hn ah p ch a _ c W (hh.call hW) hL hhl (by rw [cstream_len]; omega))
    have HSE : Hid (sealC k n hd l = cstream k n l ++ tagC k n hd (cstream k n l)) := Lib.hid rfl
    have HLS : Hid ((cstream k n l).length + (tagC k n hd (cstream k n l)).length ≤ 140737488355328) := Lib.hid (by rw [cstream_len, tagC_len]; omega)
    generalize cstream k n l = X at *
    generalize tagC k n hd X = T at *
    clear hk hn hl hh h
    go_enter Tryz.func25, Tryz.ntmps25
    go_wp2_with (first
      | (refine wpList_load_row rfl 23 (.tmp 4) rfl w.heap.size rfl _ (bvA k) (0, 0) _ HKN.out.key Tryz.underlying23 rfl HSK.out ?_)
      | (refine wpList_load_row rfl 50 (.tmp 5) rfl (w.heap.size + 1) rfl _ (bvA n) (0, 0) _ HKN.out.nonce Tryz.underlying50 rfl HSN.out ?_)
      | (go_at_call 44; with_reducible refine (HS.out _ HKN.out.below).mono ?_; rintro e w2 hA; obtain ⟨a2, c2, rfl, ho2, hb2⟩ := hA.open; have HO2 := Lib.hid (ho2.mono HKN.out.below.size); have HK2 := Lib.hid (HKN.out.call hb2); clear hA ho2 hb2)
      | (refine wpList_load_row rfl 23 (.tmp 4) rfl w.heap.size rfl _ (bvA k) (0, 0) _ HK2.out.key Tryz.underlying23 rfl HSK.out ?_)
      | (refine wpList_load_row rfl 50 (.tmp 5) rfl (w.heap.size + 1) rfl _ (bvA n) (0, 0) _ HK2.out.nonce Tryz.underlying50 rfl HSN.out ?_)
      | (go_at_call 45; with_reducible refine (HG.out w2 a2 c2 HK2.out.below HO2.out.rdv).mono ?_; rintro e w3 ⟨v3, rfl, ho3, hb3⟩; obtain ⟨a3, c3, hv3, -, -⟩ := ho3.form; subst hv3; obtain ⟨ra, rc, he, r1, r2, r3, r4⟩ := ho3.rdv.form; injection he with e1 e2 e3; subst e1; subst e3; have HO3 := Lib.hid (HO2.out.below hb3); have HK3 := Lib.hid (HK2.out.call hb3); clear hb3 e2)
      | (refine wpList_appB rfl (.tmp 22) (.tmp 27) rfl w.heap.size _ X T _ _ rfl HO3.out rfl r1 r4 HLS.out HK3.out.below.size ?_; intro v4 w4 ho4 hg4))
    go_ret2
    rw [HSE.out]
    exact ⟨_, rfl, ho4, HK3.out.below.trans (hg4.below (fun r hr => HO3.out.base r hr) HK3.out.below.size)⟩
  · rw [if_neg h, if_neg h]
    have HS := Lib.hid (fun W (hW : Below w.heap.size w W) => refStreamGt k n hk hn l a q cap W (hl.call hW) h)
    clear hk hn hl hh h
    go_enter Tryz.func25, Tryz.ntmps25
    go_wp2_with (first
      | (refine wpList_load_row rfl 23 (.tmp 4) rfl w.heap.size rfl _ (bvA k) (0, 0) _ HKN.out.key Tryz.underlying23 rfl HSK.out ?_)
      | (refine wpList_load_row rfl 50 (.tmp 5) rfl (w.heap.size + 1) rfl _ (bvA n) (0, 0) _ HKN.out.nonce Tryz.underlying50 rfl HSN.out ?_)
      | (go_at_call 44; with_reducible refine (HS.out _ HKN.out.below).mono ?_; rintro e w2 hA; obtain ⟨a2, c2, rfl, ho2, hb2⟩ := hA.open; have HK2 := Lib.hid (HKN.out.call hb2); clear hA ho2 hb2))
    go_ret2
    exact AnsO.none HK2.out.below

theorem refOpen_short (k n : List UInt8) (hv : Value) (a : Option Addr) (q cap : Nat) (w : World) (hq : q < 16 ∨ 65552 < q) :
    Calls Tryz.prog 32 #[.agg (bvA k), .agg (bvA n), hv, .slice a q cap] w fun e w' => e = .returned (.tuple #[.slice none 0 0, .int .i64 60]) ∧ Below w.heap.size w w' := by
  have HKN := Lib.hid (KN.start w k n)
  rcases hq with hq | hq
  · have f1 : decide ((q : Int) < 16) = true := decide_eq_true (by omega)
    go_enter Tryz.func32, Tryz.ntmps32
    go_wp2_with fail
    go_ret2
    exact ⟨rfl, HKN.out.below⟩
  · have f1 : decide ((q : Int) < 16) = false := decide_eq_false (by omega)
    have f2 : decide ((65552 : Int) < (q : Int)) = true := decide_eq_true (by omega)
    go_enter Tryz.func32, Tryz.ntmps32
    go_wp2_with fail
    go_ret2
    exact ⟨rfl, HKN.out.below⟩

set_option maxRecDepth 100000 in
set_option maxHeartbeats 2000000 in
theorem refOpen_in (k n hd l : List UInt8) (s : Nat) (hk : k.length = 32) (hn : n.length = 12) (ah : Option Addr) (p ch : Nat) (b o : Nat) (cap : Nat) (w : World) (hh : RdV w (.slice ah p ch) hd) (hl : RdB w.heap.size w (some ⟨b, o, none⟩) l) (hcap : l.length ≤ cap) (hc2 : cap ≤ maxLen) (hhl : hd.length ≤ 70368744100000) (hs : l.length = s + 16) (h16 : s ≤ 65536) :
    Calls Tryz.prog 32 #[.agg (bvA k), .agg (bvA n), .slice ah p ch, .slice (some ⟨b, o, none⟩) (s + 16) cap] w (OpenP (tagged16 k n hd l) (cstream k n (l.take s)) w) := by
  have HSK := Lib.hid (key_sizeL k hk)
  have HSN := Lib.hid (nonce_sizeL n hn)
  have HSK' := Lib.hid (key_size k hk)
  have HSN' := Lib.hid (nonce_size n hn)
  have HKN := Lib.hid (KN.start w k n)
  have hcs : s ≤ cap := by omega
  have HL1 : Hid (RdV w (.slice (some ⟨b, o, none⟩) s cap) (l.take s)) := Lib.hid ⟨_, _, by rw [List.length_take, hs, Nat.min_eq_left (by omega)], hl.take s, by rw [List.length_take]; omega, hc2, fun e => by cases e⟩
  have HL2 : Hid (RdV w (.slice (some ⟨b, o + s, none⟩) 16 (cap - s)) (l.drop s)) := Lib.hid ⟨_, _, by rw [List.length_drop, hs, Nat.add_sub_cancel_left], hl.drop s, by rw [List.length_drop]; omega, by omega, fun e => by cases e⟩
  have HTL1 : Hid ((l.take s).length = s) := Lib.hid (by rw [List.length_take, hs, Nat.min_eq_left (by omega)])
  have HTG : Hid (tagged16 k n hd l = (l.drop s == tagC k n hd (l.take s))) := Lib.hid (by
    unfold tagged16; rw [hs, Nat.add_sub_cancel])
  have HG : Hid (∀ W, Below w.heap.size w W → Calls Tryz.prog 45 #[.agg (bvA k), .agg (bvA n), .slice ah p ch, .slice (some ⟨b, o, none⟩) s cap] W fun e w' => ∃ v', e = .returned v' ∧ OwnB W.heap.size w' v' (tagC k n hd (l.take s)) ∧ Below W.heap.size W w') :=
    Lib.hid (fun W hW => refTagAny k n hd _ hk hn ah p ch _ s cap W (hh.call hW) (HL1.out.call hW) hhl (by rw [HTL1.out]; omega))
  have HS : Hid (∀ W, Below w.heap.size w W → Calls Tryz.prog 44 #[.agg (bvA k), .agg (bvA n), .slice (some ⟨b, o, none⟩) s cap] W (AnsO (cstream k n (l.take s)) 0 W)) :=
    Lib.hid (fun W hW => refStreamLe k n hk hn (l.take s) _ s cap W (HL1.out.call hW) (by rw [HTL1.out]; exact h16))
  have f1 : decide (((s + 16 : Nat) : Int) < 16) = false := decide_eq_false (by omega)
  have f1' : decide ((s : Int) + 16 < 16) = false := decide_eq_false (by omega)
  have f2 : decide ((65552 : Int) < ((s + 16 : Nat) : Int)) = false := decide_eq_false (by omega)
  have f2' : decide ((65552 : Int) < (s : Int) + 16) = false := decide_eq_false (by omega)
  have f0 : IntKind.i64.wrap (((s + 16 : Nat) : Int) - 16) = (s : Int) := by rw [IntWalk.i64_in _ (by omega)]; omega
  have f0' : IntKind.i64.wrap (s : Int) = (s : Int) := IntWalk.i64_in _ (by omega)
  have i0 : (0 : Int) ≤ (s : Int) := by omega
  have i1 : (s : Int) ≤ (cap : Int) := by omega
  have i2 : s + 16 ≤ cap := by omega
  have i3 : (s : Int) ≤ (s : Int) + 16 := by omega
  have i4 : s + 16 - s = 16 := by omega
  have i5 : ¬ cap = s := by omega
  obtain ⟨X, hX⟩ : ∃ X, l.take s = X := ⟨_, rfl⟩
  obtain ⟨Y, hY⟩ : ∃ Y, l.drop s = Y := ⟨_, rfl⟩
  rw [hX] at HL1 HTL1 HTG HG HS
  rw [hY] at HL2 HTG
  rw [hX, HTG.out]
  obtain ⟨t, ht⟩ : ∃ t, tagC k n hd X = t := ⟨_, rfl⟩
  rw [ht] at HG ⊢
  have hst := str_beq Y t
  obtain ⟨sY, qY⟩ : ∃ s, (⟨Y.toArray⟩ : ByteArray) = s := ⟨_, rfl⟩
  obtain ⟨sT, qT⟩ : ∃ s, (⟨t.toArray⟩ : ByteArray) = s := ⟨_, rfl⟩
  rw [qY, qT] at hst
  have HQY := Lib.hid qY
  have HQT := Lib.hid qT
  obtain ⟨bb, hbb⟩ : ∃ bb, (Y == t) = bb := ⟨_, rfl⟩
  rw [hbb] at hst ⊢
  clear hk hn hl hh hX hY hs HTG HTL1 ht hbb qY qT
  obtain ⟨w1, hw1⟩ : ∃ w1, w1 = (w.alloc (.cells (bvA k) 23)).alloc (.cells (bvA n) 50) := ⟨_, rfl⟩
  rw [← hw1] at HKN
  have HW1 := Lib.hid hw1
  clear hw1
  go_enter Tryz.func32, Tryz.ntmps32
  go_wp2_with fail
  rw [← HW1.out]
  clear HW1
  have HSB : Hid (∀ W, Below w1.heap.size w1 W → KN w k n W ∧ RdV W (.slice (some ⟨b, o + s, none⟩) 16 (cap - s)) Y) := Lib.hid (fun W hW => ⟨HKN.out.call hW, HL2.out.call (HKN.out.below.trans (hW.mono HKN.out.below.size))⟩)
  have HB0 : Hid (Below w1.heap.size w1 w1.drew) := (Below.refl _ _).drew
  refine wp_region_held_drew (S := fun W => KN w k n W ∧ RdV W (.slice (some ⟨b, o + s, none⟩) 16 (cap - s)) Y) (by kernel_rfl) (HSB.out _ HB0.out) (fun hHeld => ?_)
  refine wpAnyH_take (i := 0) (v := .slice (some ⟨b, o, none⟩) (s + 16) cap) rfl (by kernel_rfl) (by kernel_rfl) (by kernel_rfl) (fun _ _ _ h => h) (Or.inl ⟨by rfl, fun w _ => by go_simp⟩) hHeld ?_
  simp only [Act.put, List.getElem_toArray, List.getElem_cons_zero, List.getElem_cons_succ, List.setIfInBounds_toArray, List.set_cons_zero, List.set_cons_succ]
  refine wpAnyH_take (i := 1) (v := .slice (some ⟨b, o, none⟩) (s + 16) cap) rfl (by kernel_rfl) (by kernel_rfl) (by kernel_rfl) (fun _ _ _ h => h) (Or.inl ⟨by rfl, fun w _ => by go_simp⟩) hHeld ?_
  simp only [Act.put, List.getElem_toArray, List.getElem_cons_zero, List.getElem_cons_succ, List.setIfInBounds_toArray, List.set_cons_zero, List.set_cons_succ]
  refine wpAnyH_take (i := 2) (v := .int .i64 ((s : Int) + 16)) rfl (by kernel_rfl) (by kernel_rfl) (by kernel_rfl) (fun _ _ _ h => h) (Or.inl ⟨by rfl, fun w _ => by go_simp⟩) hHeld ?_
  simp only [Act.put, List.getElem_toArray, List.getElem_cons_zero, List.getElem_cons_succ, List.setIfInBounds_toArray, List.set_cons_zero, List.set_cons_succ]
  refine wpAnyH_take (i := 3) (v := .int .i64 s) rfl (by kernel_rfl) (by kernel_rfl) (by kernel_rfl) (fun _ _ _ h => h) (Or.inl ⟨by rfl, fun w _ => by go_simp⟩) hHeld ?_
  simp only [Act.put, List.getElem_toArray, List.getElem_cons_zero, List.getElem_cons_succ, List.setIfInBounds_toArray, List.set_cons_zero, List.set_cons_succ]
  refine wpAnyH_take (i := 4) (v := .slice (some ⟨b, o + s, none⟩) 16 (cap - s)) rfl (by kernel_rfl) (by kernel_rfl) (by kernel_rfl) (fun _ _ _ h => h) (Or.inl ⟨by rfl, fun w _ => by go_simp⟩) hHeld ?_
  simp only [Act.put, List.getElem_toArray, List.getElem_cons_zero, List.getElem_cons_succ, List.setIfInBounds_toArray, List.set_cons_zero, List.set_cons_succ]
  refine wpAnyH_take (i := 5) (v := .string sY) rfl (by kernel_rfl) (by kernel_rfl) (by kernel_rfl) (fun _ _ _ h => h) (Or.inl ⟨by rfl, fun w hS => by have hv := hS.2.str; rw [HQY.out] at hv; go_simp⟩) hHeld ?_
  simp only [Act.put, List.getElem_toArray, List.getElem_cons_zero, List.getElem_cons_succ, List.setIfInBounds_toArray, List.set_cons_zero, List.set_cons_succ]
  refine wpAnyH_take (i := 6) (v := .agg (bvA k)) rfl (by kernel_rfl) (by kernel_rfl) (by kernel_rfl) (fun _ _ _ h => h) (yieldsIf_load_mid (by rfl) 23 (.tmp 4) rfl w.heap.size 0 rfl (k.map bv) _ (fun _ h => h.1.key.range) Tryz.underlying23 rfl HSK.out) hHeld ?_
  simp only [Act.put, List.getElem_toArray, List.getElem_cons_zero, List.getElem_cons_succ, List.setIfInBounds_toArray, List.set_cons_zero, List.set_cons_succ]
  refine wpAnyH_take (i := 7) (v := .agg (bvA n)) rfl (by kernel_rfl) (by kernel_rfl) (by kernel_rfl) (fun _ _ _ h => h) (yieldsIf_load_mid (by rfl) 50 (.tmp 5) rfl (w.heap.size + 1) 0 rfl (n.map bv) _ (fun _ h => h.1.nonce.range) Tryz.underlying50 rfl HSN.out) hHeld ?_
  simp only [Act.put, List.getElem_toArray, List.getElem_cons_zero, List.getElem_cons_succ, List.setIfInBounds_toArray, List.set_cons_zero, List.set_cons_succ]
  refine wpAnyH_take (i := 8) (v := .slice ah p ch) rfl (by kernel_rfl) (by kernel_rfl) (by kernel_rfl) (fun _ _ _ h => h) (Or.inl ⟨by rfl, fun w _ => by go_simp⟩) hHeld ?_
  simp only [Act.put, List.getElem_toArray, List.getElem_cons_zero, List.getElem_cons_succ, List.setIfInBounds_toArray, List.set_cons_zero, List.set_cons_succ]
  refine wpAnyH_take (i := 9) (v := .slice (some ⟨b, o, none⟩) s cap) rfl (by kernel_rfl) (by kernel_rfl) (by kernel_rfl) (fun _ _ _ h => h) (Or.inl ⟨by rfl, fun w _ => by go_simp⟩) hHeld ?_
  simp only [Act.put, List.getElem_toArray, List.getElem_cons_zero, List.getElem_cons_succ, List.setIfInBounds_toArray, List.set_cons_zero, List.set_cons_succ]
  refine wpAnyH_ready (rs := [10]) (by kernel_rfl) (by simp) (AllReadyH.cons rfl (fun K hK => ?_) AllReadyH.nil)
  go_simp
  refine (HG.out _ (HKN.out.below.trans (HB0.out.mono HKN.out.below.size))).mono ?_
  rintro e w2 ⟨v2, rfl, ho2, hb2⟩
  obtain ⟨a2, c2, hv2, -, -⟩ := ho2.form
  subst hv2
  have hcv := ho2.rdv.str
  rw [HQT.out] at hcv
  have HE2 := Lib.hid (HB0.out.trans (hb2.mono HB0.out.size))
  clear ho2 hb2
  try go_wp2_with fail
  refine hK.out _ _ (HSB.out _ HE2.out) (fun hHeld => ?_)
  clear hK K
  try simp only [Act.put, List.getElem_toArray, List.getElem_cons_zero, List.getElem_cons_succ, List.setIfInBounds_toArray, List.set_cons_zero, List.set_cons_succ]
  refine wpAnyH_ready (rs := [11]) (by kernel_rfl) (by simp) (AllReadyH.cons rfl (fun K hK => ?_) AllReadyH.nil)
  go_simp
  refine hK.out _ _ (HSB.out _ HE2.out) (fun hHeld => ?_)
  clear hK K
  try simp only [Act.put, List.getElem_toArray, List.getElem_cons_zero, List.getElem_cons_succ, List.setIfInBounds_toArray, List.set_cons_zero, List.set_cons_succ]
  refine wpAnyH_take (i := 12) (v := .bool (!bb)) rfl (by kernel_rfl) (by kernel_rfl) (by kernel_rfl) (fun _ _ _ h => h) (Or.inl ⟨by rfl, fun w _ => by go_simp⟩) hHeld ?_
  simp only [Act.put, List.getElem_toArray, List.getElem_cons_zero, List.getElem_cons_succ, List.setIfInBounds_toArray, List.set_cons_zero, List.set_cons_succ]
  refine wpAnyH_done (by kernel_rfl) ?_ _
  have HKW := Lib.hid (HSB.out _ HE2.out).1
  clear hHeld HE2 HB0 HSB HKN HL2 HG hcv hst
  cases bb
  · simp only [Bool.not_false]
    go_wp2_with fail
    go_ret2
    exact OpenP.bad HKW.out.below
  · simp only [Bool.not_true]
    go_wp2_with (first
      | (refine wpList_load_row rfl 23 (.tmp 4) rfl w.heap.size rfl _ (bvA k) (0, 0) _ HKW.out.key Tryz.underlying23 rfl HSK'.out ?_)
      | (refine wpList_load_row rfl 50 (.tmp 5) rfl (w.heap.size + 1) rfl _ (bvA n) (0, 0) _ HKW.out.nonce Tryz.underlying50 rfl HSN'.out ?_)
      | (go_at_call 44; with_reducible refine (HS.out _ HKW.out.below).mono ?_; rintro e w4 hA; obtain ⟨a4, c4, rfl, ho4, hb4⟩ := hA.open; have HO4 := Lib.hid (ho4.mono HKW.out.below.size); have HK4 := Lib.hid (HKW.out.call hb4); clear hA ho4 hb4))
    go_ret2
    exact OpenP.ok HO4.out HK4.out.below
  
theorem refOpenAny (k n : List UInt8) (hk : k.length = 32) (hn : n.length = 12) (hd l : List UInt8) (ah : Option Addr) (p ch : Nat) (a : Option Addr) (q cap : Nat) (w : World) (hh : RdV w (.slice ah p ch) hd) (hl : RdV w (.slice a q cap) l) (hhl : hd.length ≤ 70368744100000) :
    Calls Tryz.prog 32 #[.agg (bvA k), .agg (bvA n), .slice ah p ch, .slice a q cap] w (AnsO (openX k n hd l) (openE k n hd l) w) := by
  obtain ⟨a', cap', e, h1, h2, h3, h4⟩ := hl.form
  injection e with e1 e2 e3
  subst e1; subst e2; subst e3
  unfold openX openE opensC
  by_cases h : 16 ≤ l.length ∧ l.length ≤ 65552
  · rw [decide_eq_true h.1, decide_eq_true h.2, Bool.true_and, Bool.true_and]
    obtain ⟨s, hs⟩ : ∃ s, l.length = s + 16 := ⟨l.length - 16, by omega⟩
    obtain ⟨b, o, rfl, _, _⟩ := h1.at_ (by omega)
    have ho := refOpen_in k n hd l s hk hn ah p ch b o cap w hh h1 h2 h3 hhl hs (by omega)
    unfold openC
    rw [hs, Nat.add_sub_cancel]
    refine ho.mono fun e w' hp => ?_
    cases ht : tagged16 k n hd l
    · rw [ht] at hp
      obtain ⟨rfl, hb⟩ := hp
      exact AnsO.none hb
    · rw [ht] at hp
      obtain ⟨⟨v, rfl, ho⟩, hb⟩ := hp
      exact ⟨v, rfl, ho, hb⟩
  · have hx : (decide (16 ≤ l.length) && (decide (l.length ≤ 65552) && tagged16 k n hd l)) = false := by
      by_cases h16 : 16 ≤ l.length
      · rw [decide_eq_false (by omega : ¬ l.length ≤ 65552), Bool.false_and, Bool.and_false]
      · rw [decide_eq_false h16, Bool.false_and]
    rw [hx]
    exact (refOpen_short k n _ a l.length cap w (by omega)).mono fun e w' ⟨he, hb⟩ => he ▸ AnsO.none hb
end Go.Proofs.YtpnemdhbdncknaaGreatDoor
