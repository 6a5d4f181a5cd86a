/-
  The reference of cipher: block.
-/
import Derived.Test.YtcibbghggfklbaaDoorCk
namespace Go.Proofs.YtcibbghggfklbaaDoor
open Go.RowKit
set_option linter.unusedVariables false
set_option linter.unusedSimpArgs false

theorem KN.set_ {w : World} {k n : List UInt8} {wr : World} (h : KN w k n wr) {g : Nat} (hg : w.heap.size + 1 < g) (i : Nat) (v : Value) : KN w k n (wr.setCell ⟨g, i, none⟩ v) :=
  ⟨h.below.setCell (by show w.heap.size ≤ g; omega) v, h.key.setO (by omega) i v, h.nonce.setO (by omega) i v⟩
theorem KN.drewN {w : World} {k n : List UInt8} {wr : World} (h : KN w k n wr) (q : Nat) : KN w k n (wr.drewN q) := ⟨below_dN h.below q, h.key, h.nonce⟩
theorem KN.other {w : World} {k n : List UInt8} {wr w' : World} (h : KN w k n wr) {g : Nat} (hg : w.heap.size + 1 < g) (hgr : wr.grownBy w' (some g)) : KN w k n w' :=
  ⟨grown_below h.below hgr (by omega) h.below.size, h.key.grown hgr (by omega), h.nonce.grown hgr (by omega)⟩
theorem arr16_size (l : List Nat) (h : l.length = 16) : (Tryd.prog.info? 47).map (·.size) = some (wv l).size := by rw [wv_size, h]; kernel_rfl
theorem slice_key4 (g j : Nat) (h : j < 8) (W : World) : (Instr.sliceAt 23 (.pointer (some ⟨g, 0, none⟩)) (some (.int .i64 (4 * (j : Int)))) (some (.int .i64 (4 * (j : Int) + 4))) none).run Tryd.prog W = .ok (.slice (some ⟨g, 4 * j, none⟩) 4 (32 - 4 * j)) W := by
  have h1 : (Instr.sliceAt 23 (.pointer (some ⟨g, 0, none⟩)) (some (.int .i64 (4 * (j : Int)))) (some (.int .i64 (4 * (j : Int) + 4))) none).run Tryd.prog W = _ := run_sliceAt_array_lh (P := Tryd.prog) W 23 ⟨g, 0, none⟩ (by kernel_rfl) .i64 .i64 (4 * (j : Int)) (4 * (j : Int) + 4) (by omega) (by omega) (by show 4 * (j : Int) + 4 ≤ ((32 : Nat) : Int); omega)
  rw [h1]
  have hz : (sizeOf (Tryd.prog.elem 23)).run Tryd.prog W = .ok 1 W := by kernel_rfl
  have hz2 : Tryd.prog.arrayLen 23 = 32 := by kernel_rfl
  rw [hz, hz2]
  have e : (4 * (j : Int)).toNat = 4 * j := by omega
  have e2 : (4 * (j : Int) + 4).toNat = 4 * j + 4 := by omega
  simp [Result.andThen, slicedAt, e, e2, Addr.add]
  rw [if_neg (by omega)]
  split
  · rename_i h0; rw [h0]
  · rfl
theorem slice_nonce4 (g j : Nat) (h : j < 3) (W : World) : (Instr.sliceAt 25 (.pointer (some ⟨g, 0, none⟩)) (some (.int .i64 (4 * (j : Int)))) (some (.int .i64 (4 * (j : Int) + 4))) none).run Tryd.prog W = .ok (.slice (some ⟨g, 4 * j, none⟩) 4 (12 - 4 * j)) W := by
  have h1 : (Instr.sliceAt 25 (.pointer (some ⟨g, 0, none⟩)) (some (.int .i64 (4 * (j : Int)))) (some (.int .i64 (4 * (j : Int) + 4))) none).run Tryd.prog W = _ := run_sliceAt_array_lh (P := Tryd.prog) W 25 ⟨g, 0, none⟩ (by kernel_rfl) .i64 .i64 (4 * (j : Int)) (4 * (j : Int) + 4) (by omega) (by omega) (by show 4 * (j : Int) + 4 ≤ ((12 : Nat) : Int); omega)
  rw [h1]
  have hz : (sizeOf (Tryd.prog.elem 25)).run Tryd.prog W = .ok 1 W := by kernel_rfl
  have hz2 : Tryd.prog.arrayLen 25 = 12 := by kernel_rfl
  rw [hz, hz2]
  have e : (4 * (j : Int)).toNat = 4 * j := by omega
  have e2 : (4 * (j : Int) + 4).toNat = 4 * j + 4 := by omega
  simp [Result.andThen, slicedAt, e, e2, Addr.add]
  rw [if_neg (by omega)]
  split
  · rename_i h0; rw [h0]
  · rfl
theorem bytes4 (x : Nat) : (#[.int .u8 ((x : Int) % 256), .int .u8 ((x : Int) / 256 % 256), .int .u8 ((x : Int) / 65536 % 256), .int .u8 ((x : Int) / 16777216 % 256)] : Array Value) = bvA (lbytes x) := by
  have h : ∀ y : Nat, Value.int .u8 ((y : Int) % 256) = bv (UInt8.ofNat y) := fun y => by
    unfold bv; rw [UInt8.toNat_ofNat']; simp
  unfold lbytes bvA
  rw [h x, show (x : Int) / 256 = ((x / 256 : Nat) : Int) by omega, h, show (x : Int) / 65536 = ((x / 65536 : Nat) : Int) by omega, h, show (x : Int) / 16777216 = ((x / 16777216 : Nat) : Int) by omega, h]
  rfl

/-- What the reference's rounds keep. -/
structure RkI (w : World) (s v : List Nat) (g : Nat) (wr : World) : Prop where
  below : Below w.heap.size w wr
  num : WB wr (w.heap.size + 1 + 1) 47 s
  mix : WB wr g 47 v
theorem RkI.call {w : World} {s v : List Nat} {g : Nat} {wr w' : World} (h : RkI w s v g wr) (hb : Below wr.heap.size wr w') : RkI w s v g w' :=
  ⟨h.below.trans (hb.mono h.below.size), h.num.below hb h.num.lt, h.mix.below hb h.mix.lt⟩
theorem RkI.mixed {w : World} {s v v' : List Nat} {g : Nat} {wr w' : World} (h : RkI w s v g wr) (hg : w.heap.size + 1 + 1 < g) (hgr : wr.grownBy w' (some g)) (hm : WB w' g 47 v') : RkI w s v' g w' :=
  ⟨grown_below h.below hgr (by omega) h.below.size, h.num.grownO hgr (by omega), hm⟩

set_option maxRecDepth 100000 in
set_option maxHeartbeats 4000000 in
theorem refBlock6 (k n : List UInt8) (c : Nat) (hk : k.length = 32) (hn : n.length = 12) (hc : c < 4294967296) (w : World) :
    Calls Tryd.prog 23 #[.agg (bvA k), .agg (bvA n), .int .i64 (c : Int)] w fun e w' => ∃ v, e = .returned v ∧ OwnB w.heap.size w' v (cblock k n c) ∧ Below w.heap.size w w' := by
  have HLK := Lib.hid hk
  have HLN := Lib.hid hn
  have HF := Lib.hid (cstN_full k n c hc)
  have HD : Hid (∀ i, (cstK k (i + 1)) = (cstK k i).set (4 + i) (lword k i)) := Lib.hid (cstK_succ k)
  have HDL : Hid (∀ i, (cstK k i).length = 16) := Lib.hid (cstK_len k)
  have HE0 : Hid (cstN k n c 0 = (cstK k 8).set 12 c) := Lib.hid rfl
  have HE : Hid (∀ i, (cstN k n c (i + 1)) = (cstN k n c i).set (13 + i) (lword n i)) := Lib.hid (cstN_succ k n c)
  have HEL : Hid (∀ i, (cstN k n c i).length = 16) := Lib.hid (cstN_len k n c)
  have hcw : IntKind.u32.wrap (c : Int) = (c : Int) := by rw [wrap_u32n]; omega
  clear hk hn
  go_enter Tryd.func23, Tryd.ntmps23
  go_wp2_with fail
  rw [first4 k]
  obtain ⟨w1, hw1⟩ : ∃ w1, w1 = ((w.alloc (.cells (bvA k) 23)).alloc (.cells (bvA n) 25)).alloc (.cells (wv (cstK k 0)) 47) := ⟨_, rfl⟩
  have HI : Hid (KN w k n w1 ∧ WB w1 (w.heap.size + 1 + 1) 47 (cstK k 0)) := Lib.hid (by
    rw [hw1]
    refine ⟨(KN.start w k n).call ((Below.refl _ _).alloc (Nat.le_refl _) _), ?_⟩
    have h := WB.new ((w.alloc (.cells (bvA k) 23)).alloc (.cells (bvA n) 25)) 47 (cstK k 0)
    rw [alloc_size, alloc_size] at h
    exact h)
  rw [← hw1]
  clear hw1
  go_loopw [8] (fun i wr => ∃ j : Nat, j ≤ 8 ∧ i = .int .i64 j ∧ KN w k n wr ∧ WB wr (w.heap.size + 1 + 1) 47 (cstK k j)) (fun i _ => 8 - (intOf i).toNat)
  case atStart => exact ⟨0, by omega, rfl, HI.out⟩
  case round =>
    clear HI
    obtain ⟨j, hj, rfl, hi, hw⟩ := hrel
    have HIj := Lib.hid hi
    have HWj := Lib.hid hw
    clear hi hw
    by_cases hlt : j < 8
    · have ij : (j : Int) < 8 := by omega
      have ij4 : (4 : Int) + j < 16 := by omega
      have hsl := slice_key4 w.heap.size j hlt
      have HCW := Lib.hid (fun cap W h => refCword_at w.heap.size 23 k j 4 cap W h (by rw [HLK.out]; omega) (by omega) (by unfold maxLen; omega))
      go_wp2_with (go_at_call 31; refine (HCW.out _ _ HIj.out.key).mono ?_; rintro e w2 ⟨rfl, q, rfl⟩; have c4 := HWj.out.cellD (4 + j) (by rw [HDL.out]; omega); have f4 := HWj.out.frozen (4 + j))
      go_roundw
      case rel =>
        refine ⟨j + 1, by omega, by go_num, (HIj.out.drewN q).set_ (by omega) _ _, ?_⟩
        rw [HD.out]
        exact (HWj.out.drewN q).set_ _ _
      case measure => simp [intOf]; omega
    · obtain rfl : j = 8 := by omega
      clear hlt
      have c12 := HWj.out.cellD 12 (by rw [HDL.out]; omega)
      have f12 := HWj.out.frozen 12
      have HIn : Hid (KN w k n (wr.setCell ⟨w.heap.size + 1 + 1, 12, none⟩ (.int .u32 (c : Int))) ∧ WB (wr.setCell ⟨w.heap.size + 1 + 1, 12, none⟩ (.int .u32 (c : Int))) (w.heap.size + 1 + 1) 47 (cstN k n c 0)) := Lib.hid ⟨HIj.out.set_ (by omega) _ _, by rw [HE0.out]; exact HWj.out.set_ _ _⟩
      go_wp2_with fail
      generalize wr.setCell ⟨w.heap.size + 1 + 1, 12, none⟩ (.int .u32 (c : Int)) = w5 at *
      clear HIj HWj c12 f12
      go_loopw [9] (fun i wr => ∃ j : Nat, j ≤ 3 ∧ i = .int .i64 j ∧ KN w k n wr ∧ WB wr (w.heap.size + 1 + 1) 47 (cstN k n c j)) (fun i _ => 3 - (intOf i).toNat)
      case atStart => exact ⟨0, by omega, rfl, HIn.out⟩
      case round =>
        clear HIn
        obtain ⟨j, hj, rfl, hi, hw⟩ := hrel
        have HIj := Lib.hid hi
        have HWj := Lib.hid hw
        clear hi hw
        by_cases hlt : j < 3
        · have ij : (j : Int) < 3 := by omega
          have ij4 : (13 : Int) + j < 16 := by omega
          have hsl := slice_nonce4 (w.heap.size + 1) j hlt
          have HCW := Lib.hid (fun cap W h => refCword_at (w.heap.size + 1) 25 n j 4 cap W h (by rw [HLN.out]; omega) (by omega) (by unfold maxLen; omega))
          go_wp2_with (go_at_call 31; refine (HCW.out _ _ HIj.out.nonce).mono ?_; rintro e w2 ⟨rfl, q, rfl⟩; have c4 := HWj.out.cellD (13 + j) (by rw [HEL.out]; omega); have f4 := HWj.out.frozen (13 + j))
          go_roundw
          case rel =>
            repeat apply Exists.intro
            refine ⟨⟨j + 1, by omega, ?_, ?_, ?_⟩, rfl⟩
            · go_num
            · exact (HIj.out.drewN q).set_ (by omega) _ _
            · rw [HE.out]; exact (HWj.out.drewN q).set_ _ _
          case measure => simp [intOf]; omega
        · obtain rfl : j = 3 := by omega
          clear hlt
          rw [HF.out] at HWj
          have HSL : Hid ((cstart k n c).length = 16) := Lib.hid (cstart_len k n c)
          have HCB : Hid (cblock k n c = coutTo (crounds (cstart k n c) 10) (cstart k n c) 16) := Lib.hid rfl
          generalize cstart k n c = s at *
          have HSZ : Hid (∀ v : List Nat, v.length = 16 → (Tryd.prog.info? 47).map (·.size) = some (wv v).size) := Lib.hid arr16_size
          have HSZS := Lib.hid (arr16_size s HSL.out)
          have HOL : Hid ((wv (List.replicate 16 0)).size = (wv s).size) := Lib.hid (by rw [wv_size, wv_size, HSL.out]; rfl)
          go_wp2_with (first
            | (refine wpList_load_row rfl 47 (.tmp 7) rfl (w.heap.size + 1 + 1) rfl _ (wv s) (0, 0) _ HWj.out Tryd.underlying47 rfl HSZS.out ?_)
            | (refine wpList_storeA rfl 47 (.tmp 10) (.tmp 49) rfl wr.heap.size (wv s) rfl rfl 47 _ (heap_alloc_new wr _) HSZS.out HOL.out (wv_one _) ?_))
          intro w6 h6 hg6
          obtain ⟨g, hg⟩ : ∃ g, wr.heap.size = g := ⟨_, rfl⟩
          have HI0 : Hid (RkI w s (crounds s 0) g w6) := Lib.hid (by
            rw [hg] at h6 hg6
            refine ⟨grown_below (HIj.out.below.alloc HIj.out.below.size _) hg6 (by have := HIj.out.below.size; omega) (by rw [alloc_size]; have := HIj.out.below.size; omega), ?_, h6⟩
            exact (HWj.out.alloc _).grownO hg6 (by have := HWj.out.lt; omega))
          have HGL : Hid (w.heap.size + 1 + 1 < g) := Lib.hid (by rw [← hg]; exact HWj.out.lt)
          rw [hg]
          clear h6 hg6 HIj HWj hg
          go_wp2_with fail
          go_loopw [11] (fun i wr => ∃ j : Nat, j ≤ 10 ∧ i = .int .i64 j ∧ RkI w s (crounds s j) g wr) (fun i _ => 10 - (intOf i).toNat)
          case atStart => exact ⟨0, by omega, rfl, HI0.out⟩
          case round =>
            clear HI0
            obtain ⟨j, hj, rfl, hi⟩ := hrel
            have HIj := Lib.hid hi
            clear hi
            by_cases hlt : j < 10
            · have ij : (j : Int) < 10 := by omega
              have HVL : Hid (∀ i, (ccols (crounds s j) i).length = 16) := Lib.hid (fun i => by rw [ccols_len, crounds_len, HSL.out])
              have HV : Hid (∀ i, ccols (crounds s j) (i + 1) = cmix (ccols (crounds s j) i) i (4 + i) (8 + i) (12 + i)) := Lib.hid (fun i => ccols_succ _ i)
              have HR : Hid (crounds s (j + 1) = cdiags (ccols (crounds s j) 4) 4) := Lib.hid rfl
              have HI1 : Hid (RkI w s (ccols (crounds s j) 0) g wr) := by rw [ccols_zero]; exact HIj
              generalize crounds s j = v at *
              go_wp2_with fail
              go_loopw [12] (fun i wr => ∃ m : Nat, m ≤ 4 ∧ i = .int .i64 m ∧ RkI w s (ccols v m) g wr) (fun i _ => 4 - (intOf i).toNat)
              case atStart => exact ⟨0, by omega, rfl, HI1.out⟩
              case round =>
                clear HI1 HIj
                obtain ⟨m, hm, rfl, hi⟩ := hrel
                have HIm := Lib.hid hi
                clear hi
                by_cases hlt2 : m < 4
                · have im : (m : Int) < 4 := by omega
                  have HM : Hid (∀ W, Calls Tryd.prog 32 #[.agg (wv (ccols v m)), .int .i64 (m : Int), .int .i64 (4 + (m : Int)), .int .i64 (8 + (m : Int)), .int .i64 (12 + (m : Int))] W fun e w' => e = .returned (.agg (wv (ccols v (m + 1)))) ∧ Below W.heap.size W w') := by
                    show ∀ W, _
                    intro W
                    have h := refMix (ccols v m) m (4 + m) (8 + m) (12 + m) W (HVL.out m) (by omega) (by omega) (by omega) (by omega)
                    rw [← HV.out m, Int.natCast_add, Int.natCast_add, Int.natCast_add] at h
                    exact h
                  have HS1 := Lib.hid (HSZ.out _ (HVL.out m))
                  have HS2 := Lib.hid (HSZ.out _ (HVL.out (m + 1)))
                  have HO2 : Hid ((wv (ccols v m)).size = (wv (ccols v (m + 1))).size) := Lib.hid (by rw [wv_size, wv_size, HVL.out, HVL.out])
                  go_wp2_with (first
                    | (refine wpList_load_row rfl 47 (.tmp 10) rfl g rfl _ (wv (ccols v m)) (0, 0) _ HIm.out.mix Tryd.underlying47 rfl HS1.out ?_)
                    | (go_at_call 32; with_reducible refine (HM.out _).mono ?_; rintro e w2 ⟨rfl, hb2⟩; have HI2 := Lib.hid (HIm.out.call hb2); clear hb2)
                    | (refine wpList_storeA rfl 47 (.tmp 10) (.tmp 66) rfl g (wv (ccols v (m + 1))) rfl rfl _ _ HI2.out.mix HS2.out HO2.out (wv_one _) ?_))
                  intro w3 h3 hg3
                  have HI3 := Lib.hid (HI2.out.mixed HGL.out hg3 h3)
                  clear h3 hg3 HI2 HIm
                  go_wp2_with fail
                  go_roundw
                  case rel =>
                    first
                      | exact ⟨m + 1, by omega, by go_num, HI3.out⟩
                      | (repeat apply Exists.intro
                         refine ⟨⟨m + 1, by omega, ?_, ?_⟩, rfl⟩
                         · go_num
                         · exact HI3.out)
                  case measure => simp [intOf]; omega
                · obtain rfl : m = 4 := by omega
                  clear hlt2
                  have HI2 : Hid (RkI w s (cdiags (ccols v 4) 0) g wr) := by rw [cdiags_zero]; exact HIm
                  have HVL2 : Hid (∀ i, (cdiags (ccols v 4) i).length = 16) := Lib.hid (fun i => by rw [cdiags_len, HVL.out])
                  have HV2 : Hid (∀ i, cdiags (ccols v 4) (i + 1) = cmix (cdiags (ccols v 4) i) i (4 + (i + 1) % 4) (8 + (i + 2) % 4) (12 + (i + 3) % 4)) := Lib.hid (fun i => cdiags_succ _ i)
                  generalize ccols v 4 = v4 at *
                  clear HIm
                  go_wp2_with fail
                  go_loopw [13] (fun i wr => ∃ m : Nat, m ≤ 4 ∧ i = .int .i64 m ∧ RkI w s (cdiags v4 m) g wr) (fun i _ => 4 - (intOf i).toNat)
                  case atStart => exact ⟨0, by omega, rfl, HI2.out⟩
                  case round =>
                    clear HI2
                    obtain ⟨m, hm, rfl, hi⟩ := hrel
                    have HIm := Lib.hid hi
                    clear hi
                    by_cases hlt2 : m < 4
                    · have im : (m : Int) < 4 := by omega
                      have HM : Hid (∀ W, Calls Tryd.prog 32 #[.agg (wv (cdiags v4 m)), .int .i64 (m : Int), .int .i64 (4 + ((m : Int) + 1) % 4), .int .i64 (8 + ((m : Int) + 2) % 4), .int .i64 (12 + ((m : Int) + 3) % 4)] W fun e w' => e = .returned (.agg (wv (cdiags v4 (m + 1)))) ∧ Below W.heap.size W w') := by
                        show ∀ W, _
                        intro W
                        have h := refMix (cdiags v4 m) m (4 + (m + 1) % 4) (8 + (m + 2) % 4) (12 + (m + 3) % 4) W (HVL2.out m) (by omega) (by omega) (by omega) (by omega)
                        rw [← HV2.out m, show ((4 + (m + 1) % 4 : Nat) : Int) = 4 + ((m : Int) + 1) % 4 by omega, show ((8 + (m + 2) % 4 : Nat) : Int) = 8 + ((m : Int) + 2) % 4 by omega, show ((12 + (m + 3) % 4 : Nat) : Int) = 12 + ((m : Int) + 3) % 4 by omega] at h
                        exact h
                      have HS1 := Lib.hid (HSZ.out _ (HVL2.out m))
                      have HS2 := Lib.hid (HSZ.out _ (HVL2.out (m + 1)))
                      have HO2 : Hid ((wv (cdiags v4 m)).size = (wv (cdiags v4 (m + 1))).size) := Lib.hid (by rw [wv_size, wv_size, HVL2.out, HVL2.out])
                      go_wp2_with (first
                        | (refine wpList_load_row rfl 47 (.tmp 10) rfl g rfl _ (wv (cdiags v4 m)) (0, 0) _ HIm.out.mix Tryd.underlying47 rfl HS1.out ?_)
                        | (go_at_call 32; with_reducible refine (HM.out _).mono ?_; rintro e w2 ⟨rfl, hb2⟩; have HI2 := Lib.hid (HIm.out.call hb2); clear hb2)
                        | (refine wpList_storeA rfl 47 (.tmp 10) (.tmp 85) rfl g (wv (cdiags v4 (m + 1))) rfl rfl _ _ HI2.out.mix HS2.out HO2.out (wv_one _) ?_))
                      intro w3 h3 hg3
                      have HI3 := Lib.hid (HI2.out.mixed HGL.out hg3 h3)
                      clear h3 hg3 HI2 HIm
                      go_wp2_with fail
                      go_roundw
                      case rel =>
                        first
                          | exact ⟨m + 1, by omega, by go_num, HI3.out⟩
                          | (repeat apply Exists.intro
                             refine ⟨⟨m + 1, by omega, ?_, ?_⟩, rfl⟩
                             · go_num
                             · exact HI3.out)
                      case measure => simp [intOf]; omega
                    · obtain rfl : m = 4 := by omega
                      clear hlt2
                      rw [← HR.out] at HIm
                      go_wp2_with fail
                      go_roundw
                      case rel =>
                        first
                          | exact ⟨j + 1, by omega, by go_num, HIm.out⟩
                          | (repeat apply Exists.intro
                             refine ⟨⟨j + 1, by omega, ?_, ?_⟩, rfl⟩
                             · go_num
                             · exact HIm.out)
                      case measure => simp [intOf]; omega
            · obtain rfl : j = 10 := by omega
              clear hlt
              have HVL : Hid ((crounds s 10).length = 16) := Lib.hid (by rw [crounds_len, HSL.out])
              obtain ⟨v, hv⟩ : ∃ v, crounds s 10 = v := ⟨_, rfl⟩
              rw [hv] at HVL HIj HCB
              clear hv
              generalize wr = wB at *
              have HO0 : Hid (OwnB wB.heap.size (wB.alloc (.cells #[] 5)) (.slice (some ⟨wB.heap.size, 0, none⟩) 0 0) (coutTo v s 0)) := Lib.hid (World.ownsRow_made wB #[] 0 (Nat.le_refl _) (by unfold maxLen; omega) (by rfl))
              have HB0 : Hid (Below wB.heap.size wB (wB.alloc (.cells #[] 5))) := Lib.hid ((Below.refl _ _).alloc (Nat.le_refl _) _)
              have HCS : Hid (∀ t, coutTo v s (t + 1) = coutTo v s t ++ lbytes (uadd (v.getD t 0) (s.getD t 0))) := Lib.hid (coutTo_succ v s)
              have HCL := Lib.hid (coutTo_len v s)
              go_wp2_with fail
              go_loopw [15, 14] (fun i x wr => ∃ m : Nat, m ≤ 16 ∧ i = .int .i64 m ∧ OwnB wB.heap.size wr x (coutTo v s m) ∧ Below wB.heap.size wB wr) (fun i _ _ => 16 - (intOf i).toNat)
              case atStart => exact ⟨0, by omega, rfl, HO0.out, HB0.out⟩
              case round =>
                clear HO0 HB0
                obtain ⟨m, hm, rfl, ho, hb⟩ := hrel
                have HO := Lib.hid ho
                have HB := Lib.hid hb
                by_cases hlt : m < 16
                · have im : (m : Int) < 16 := by omega
                  have c1 := (HIj.out.mix.below hb HIj.out.mix.lt).cellD m (by rw [HVL.out]; exact hlt)
                  have c2 := (HIj.out.num.below hb HIj.out.num.lt).cellD m (by rw [HSL.out]; exact hlt)
                  have HX := Lib.hid (HCS.out m)
                  have HLN2 : Hid ((coutTo v s m).length + (lbytes (uadd (v.getD m 0) (s.getD m 0))).length ≤ 140737488355328) := Lib.hid (by rw [HCL.out, lbytes_len]; omega)
                  generalize v.getD m 0 = x1 at *
                  generalize s.getD m 0 = x2 at *
                  have sw := u_add x1 x2
                  obtain ⟨v0, c0, hv0, -, -⟩ := ho.form
                  subst hv0
                  clear ho hb
                  have hbx : Below wr.heap.size wr ((wr.alloc (.cells #[.int .u8 ((uadd x1 x2 : Nat) % 256 : Int), .int .u8 ((uadd x1 x2 : Nat) / 256 % 256 : Int), .int .u8 ((uadd x1 x2 : Nat) / 65536 % 256 : Int), .int .u8 ((uadd x1 x2 : Nat) / 16777216 % 256 : Int)] 5)).drew) := ((Below.refl _ _).alloc (Nat.le_refl _) _).drew
                  have HRX : Hid (RdV ((wr.alloc (.cells #[.int .u8 ((uadd x1 x2 : Nat) % 256 : Int), .int .u8 ((uadd x1 x2 : Nat) / 256 % 256 : Int), .int .u8 ((uadd x1 x2 : Nat) / 65536 % 256 : Int), .int .u8 ((uadd x1 x2 : Nat) / 16777216 % 256 : Int)] 5)).drew) (.slice (some ⟨wr.heap.size, 0, none⟩) 4 4) (lbytes (uadd x1 x2))) := Lib.hid (by
                    rw [bytes4]
                    exact ⟨_, _, rfl, ⟨by rw [lbytes_len]; unfold maxLen; omega, .inr ⟨wr.heap.size, 0, rfl, lt_alloc_drew wr _, fun j hj => by rw [Nat.zero_add]; exact (BB.new wr 5 (lbytes (uadd x1 x2))).cell j hj⟩⟩, by rw [lbytes_len]; exact Nat.le_refl _, by unfold maxLen; omega, fun e => by cases e⟩)
                  have HOX := Lib.hid (HO.out.below hbx)
                  have HBX := Lib.hid (HB.out.trans (hbx.mono HB.out.size))
                  clear hbx
                  go_wp2_with fail
                  go_still (by kernel_rfl)
                  go_wp2_with (refine wpList_appB rfl (.tmp 98) (.tmp 110) rfl wB.heap.size _ (coutTo v s m) (lbytes (uadd x1 x2)) (some ⟨wr.heap.size, 0, none⟩) 4 rfl HOX.out rfl (by obtain ⟨a', c', he, hr, _⟩ := HRX.out; injection he with e1 e2 e3; subst e1; exact hr) (fun h => by cases h) HLN2.out HBX.out.size ?_; intro v2 w2 ho2 hg2)
                  go_roundw
                  case rel =>
                    first
                      | exact ⟨m + 1, by omega, by go_num, by rw [HX.out]; exact ho2, HBX.out.trans (hg2.below (fun r hr => HOX.out.base r hr) HBX.out.size)⟩
                      | (repeat apply Exists.intro
                         refine ⟨⟨m + 1, by omega, ?_, ?_, ?_⟩, rfl⟩
                         · go_num
                         · rw [HX.out]; exact ho2
                         · exact HBX.out.trans (hg2.below (fun r hr => HOX.out.base r hr) HBX.out.size))
                  case measure => simp [intOf]; omega
                · obtain rfl : m = 16 := by omega
                  rw [← HCB.out] at HO
                  go_wp2_with fail
                  go_ret
                  exact ⟨_, rfl, HO.out.mono HIj.out.below.size, HIj.out.below.trans (HB.out.mono HIj.out.below.size)⟩
end Go.Proofs.YtcibbghggfklbaaDoor
