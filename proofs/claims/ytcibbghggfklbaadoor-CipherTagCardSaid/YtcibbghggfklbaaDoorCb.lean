/-
  Package cipher: the block of numbers.
-/
import Derived.Test.YtcibbghggfklbaaDoorCt
import Derived.Test.YtcibbghggfklbaaDoorPkC
namespace Go.Proofs.YtcibbghggfklbaaDoor
open Go.RowKit
set_option linter.unusedVariables false
set_option linter.unusedSimpArgs false

/-- Byte j of a block. -/
def outW (v s : List Nat) (j : Nat) : UInt8 := UInt8.ofNat (uadd (v.getD (j / 4) 0) (s.getD (j / 4) 0) / 2 ^ (8 * (j % 4)))
def outC (v s : List Nat) (k : Nat) : List UInt8 := (List.range 64).map fun j => if j < k then outW v s j else 0
theorem outC_len (v s : List Nat) (k : Nat) : (outC v s k).length = 64 := by simp [outC]
theorem outC_zero (v s : List Nat) : outC v s 0 = List.replicate 64 0 := by
  apply List.ext_getElem
  · simp [outC]
  · intro i h1 h2
    rw [List.getElem_replicate]
    simp [outC]
theorem outC_set (v s : List Nat) (k : Nat) : (outC v s k).set k (outW v s k) = outC v s (k + 1) := by
  apply List.ext_getElem
  · simp [outC]
  · intro i h1 h2
    rw [List.getElem_set]
    simp only [outC, List.getElem_map, List.getElem_range]
    by_cases e : k = i
    · subst e; rw [if_pos rfl, if_pos (by omega)]
    · rw [if_neg e]
      by_cases h : i < k
      · rw [if_pos h, if_pos (by omega)]
      · rw [if_neg h, if_neg (by omega)]
theorem lbytes_pow (x : Nat) : lbytes x = [UInt8.ofNat (x / 2 ^ 0), UInt8.ofNat (x / 2 ^ 8), UInt8.ofNat (x / 2 ^ 16), UInt8.ofNat (x / 2 ^ 24)] := by simp [lbytes]
set_option maxRecDepth 100000 in
theorem outC_full (v s : List Nat) : outC v s 64 = coutTo v s 16 := by
  unfold coutTo
  simp only [lbytes_pow]
  rfl
theorem bv_outW (v s : List Nat) (j : Nat) : Value.int .u8 (((uadd (v.getD (j / 4) 0) (s.getD (j / 4) 0) : Nat) : Int) / 2 ^ (8 * (j % 4)) % 256) = bv (outW v s j) := by
  unfold bv outW
  rw [UInt8.toNat_ofNat']
  simp

theorem ccols_zero (v : List Nat) : ccols v 0 = v := rfl
theorem cdiags_zero (v : List Nat) : cdiags v 0 = v := rfl
theorem alloc_size (w : World) (o : Obj) : (w.alloc o).heap.size = w.heap.size + 1 := by simp
/-- What the loops of block keep: the result, the numbers' two blocks. -/
structure BkI (w : World) (s v : List Nat) (wr : World) : Prop where
  below : Below w.heap.size w wr
  num : WB wr w.heap.size 48 s
  out : BB wr (w.heap.size + 1) 45 (List.replicate 64 0)
  mix : WB wr (w.heap.size + 1 + 1) 48 v
theorem BkI.start (w : World) (s : List Nat) : BkI w s (List.replicate 16 0) (((w.alloc (.cells (wv s) 48)).alloc (.cells (bvA (List.replicate 64 0)) 45)).alloc (.cells (wv (List.replicate 16 0)) 48)) := by
  refine ⟨(((Below.refl _ _).alloc (Nat.le_refl _) _).alloc (by simp) _).alloc (by simp; omega) _, ((WB.new w _ s).alloc _).alloc _, ?_, ?_⟩
  · have h := (BB.new (w.alloc (.cells (wv s) 48)) 45 (List.replicate 64 0)).alloc (.cells (wv (List.replicate 16 0)) 48)
    rw [alloc_size] at h
    exact h
  · have h := WB.new ((w.alloc (.cells (wv s) 48)).alloc (.cells (bvA (List.replicate 64 0)) 45)) 48 (List.replicate 16 0)
    rw [alloc_size, alloc_size] at h
    exact h
theorem WB.grownO {w w' : World} {g R : Nat} {T : TypeId} {l : List Nat} (h : WB w g T l) (hg : w.grownBy w' (some R)) (hne : g ≠ R) : WB w' g T l := (hg.block g h.lt (fun e => hne (by injection e))).trans h
/-- A mix. -/
theorem BkI.mixed {w : World} {s v v' : List Nat} {wr w' : World} (h : BkI w s v wr) (hg : wr.grownBy w' (some (w.heap.size + 1 + 1))) (hm : WB w' (w.heap.size + 1 + 1) 48 v') : BkI w s v' w' :=
  ⟨grown_below h.below hg (by omega) h.below.size, h.num.grownO hg (by omega), h.out.grown hg (by omega), hm⟩

set_option maxRecDepth 100000 in
set_option maxHeartbeats 2000000 in
theorem block_any (s : List Nat) (hs : s.length = 16) (w : World) :
    Calls Tryd.prog 22 #[.agg (wv s)] w fun e w' => e = .returned (.agg (bvA (coutTo (crounds s 10) s 16))) ∧ Below w.heap.size w w' := by
  obtain ⟨Z, hZ⟩ : ∃ Z, Z = bvA (List.replicate 64 0) := ⟨_, rfl⟩
  have hz := fun W : World => (by rw [hZ]; kernel_rfl : (zeroValue 45).run Tryd.prog W = .ok (.agg Z) W)
  have HLS := Lib.hid hs
  have HI0 : Hid (BkI w s (List.replicate 16 0) (((w.alloc (.cells (wv s) 48)).alloc (.cells Z 45)).alloc (.cells (wv (List.replicate 16 0)) 48))) := Lib.hid (hZ ▸ BkI.start w s)
  have HS1 : Hid ((Tryd.prog.info? 48).map (·.size) = some (wv s).size) := Lib.hid (nums_size s hs)
  have HOL : Hid ((wv (List.replicate 16 0)).size = (wv s).size) := Lib.hid (by rw [wv_size, wv_size, hs]; rfl)
  clear hs hZ
  go_enter Tryd.func22, Tryd.ntmps22
  go_wp2_with (first
    | (refine wpList_load_row rfl 48 (.tmp 1) rfl w.heap.size rfl _ (wv s) (0, 0) _ ((WB.new w _ s).alloc _) Tryd.underlying48 rfl HS1.out ?_)
    | (refine wpList_storeA rfl 48 (.tmp 3) (.tmp 9) rfl (w.heap.size + 1 + 1) (wv s) rfl rfl _ _ HI0.out.mix HS1.out HOL.out (wv_one _) ?_))
  intro w1 h1 hg1
  have HI : Hid (BkI w s (crounds s 0) w1) := Lib.hid (HI0.out.mixed hg1 h1)
  clear h1 hg1 HI0
  go_wp2_with fail
  go_loopw [11] (fun i wr => ∃ j : Nat, j ≤ 10 ∧ i = .int .i64 j ∧ BkI w s (crounds s j) wr) (fun i _ => 10 - (intOf i).toNat)
  case atStart => exact ⟨0, by omega, rfl, HI.out⟩
  case round =>
    clear HI
    obtain ⟨j, hj, rfl, hi⟩ := hrel
    have HIj := Lib.hid hi
    clear hi
    by_cases hlt : j < 10
    · have ij : (j : Int) < 10 := by omega
      have HVL : Hid (∀ i, (ccols (crounds s j) i).length = 16) := Lib.hid (fun i => by rw [ccols_len, crounds_len, HLS.out])
      have HV : Hid (∀ i, ccols (crounds s j) (i + 1) = cmix (ccols (crounds s j) i) i (4 + i) (8 + i) (12 + i)) := Lib.hid (fun i => ccols_succ _ i)
      have HR : Hid (crounds s (j + 1) = cdiags (ccols (crounds s j) 4) 4) := Lib.hid rfl
      have HI1 : Hid (BkI w s (ccols (crounds s j) 0) wr) := by rw [ccols_zero]; exact HIj
      generalize crounds s j = v at *
      go_wp2_with fail
      go_loopw [13] (fun i wr => ∃ m : Nat, m ≤ 4 ∧ i = .int .i64 m ∧ BkI w s (ccols v m) wr) (fun i _ => 4 - (intOf i).toNat)
      case atStart => exact ⟨0, by omega, rfl, HI1.out⟩
      case round =>
        clear HI1 HIj
        obtain ⟨m, hm, rfl, hi⟩ := hrel
        have HIm := Lib.hid hi
        clear hi
        by_cases hlt2 : m < 4
        · have im : (m : Int) < 4 := by omega
          have HM : Hid (∀ W, WB W (w.heap.size + 1 + 1) 48 (ccols v m) → Calls Tryd.prog 30 #[.pointer (some ⟨w.heap.size + 1 + 1, 0, none⟩), .int .i64 (m : Int), .int .i64 (4 + (m : Int)), .int .i64 (8 + (m : Int)), .int .i64 (12 + (m : Int))] W fun e w' => e = .returned (.tuple #[]) ∧ WB w' (w.heap.size + 1 + 1) 48 (ccols v (m + 1)) ∧ W.grownBy w' (some (w.heap.size + 1 + 1))) := by
            show ∀ W, _ → _
            intro W hW
            have h := mix_any (w.heap.size + 1 + 1) (ccols v m) m (4 + m) (8 + m) (12 + m) W (HVL.out m) (by omega) (by omega) (by omega) (by omega) hW
            rw [← HV.out m, Int.natCast_add, Int.natCast_add, Int.natCast_add] at h
            exact h
          go_wp2_with (go_at_call 30; refine (HM.out _ HIm.out.mix).mono ?_; rintro e w2 ⟨rfl, hw2, hg2⟩)
          go_roundw
          case rel =>
            exact ⟨m + 1, by omega, by go_num, HIm.out.mixed hg2 hw2⟩
          case measure => simp [intOf]; omega
        · obtain rfl : m = 4 := by omega
          clear hlt2
          have HI2 : Hid (BkI w s (cdiags (ccols v 4) 0) wr) := by rw [cdiags_zero]; exact HIm
          have HVL2 : Hid (∀ i, (cdiags (ccols v 4) i).length = 16) := Lib.hid (fun i => by rw [cdiags_len, HVL.out])
          have HV2 : Hid (∀ i, cdiags (ccols v 4) (i + 1) = cmix (cdiags (ccols v 4) i) i (4 + (i + 1) % 4) (8 + (i + 2) % 4) (12 + (i + 3) % 4)) := Lib.hid (fun i => cdiags_succ _ i)
          generalize ccols v 4 = v4 at *
          clear HIm
          go_wp2_with fail
          go_loopw [26] (fun i wr => ∃ m : Nat, m ≤ 4 ∧ i = .int .i64 m ∧ BkI w s (cdiags v4 m) wr) (fun i _ => 4 - (intOf i).toNat)
          case atStart => exact ⟨0, by omega, rfl, HI2.out⟩
          case round =>
            clear HI2
            obtain ⟨m, hm, rfl, hi⟩ := hrel
            have HIm := Lib.hid hi
            clear hi
            by_cases hlt2 : m < 4
            · have im : (m : Int) < 4 := by omega
              have HM : Hid (∀ W, WB W (w.heap.size + 1 + 1) 48 (cdiags v4 m) → Calls Tryd.prog 30 #[.pointer (some ⟨w.heap.size + 1 + 1, 0, none⟩), .int .i64 (m : Int), .int .i64 (4 + ((m : Int) + 1) % 4), .int .i64 (8 + ((m : Int) + 2) % 4), .int .i64 (12 + ((m : Int) + 3) % 4)] W fun e w' => e = .returned (.tuple #[]) ∧ WB w' (w.heap.size + 1 + 1) 48 (cdiags v4 (m + 1)) ∧ W.grownBy w' (some (w.heap.size + 1 + 1))) := by
                show ∀ W, _ → _
                intro W hW
                have h := mix_any (w.heap.size + 1 + 1) (cdiags v4 m) m (4 + (m + 1) % 4) (8 + (m + 2) % 4) (12 + (m + 3) % 4) W (HVL2.out m) (by omega) (by omega) (by omega) (by omega) hW
                rw [← HV2.out m, show ((4 + (m + 1) % 4 : Nat) : Int) = 4 + ((m : Int) + 1) % 4 by omega, show ((8 + (m + 2) % 4 : Nat) : Int) = 8 + ((m : Int) + 2) % 4 by omega, show ((12 + (m + 3) % 4 : Nat) : Int) = 12 + ((m : Int) + 3) % 4 by omega] at h
                exact h
              go_wp2_with (go_at_call 30; refine (HM.out _ HIm.out.mix).mono ?_; rintro e w2 ⟨rfl, hw2, hg2⟩)
              go_roundw
              case rel =>
                repeat apply Exists.intro
                refine ⟨⟨m + 1, by omega, ?_, ?_⟩, rfl⟩
                · go_num
                · exact HIm.out.mixed hg2 hw2
              case measure => simp [intOf]; omega
            · obtain rfl : m = 4 := by omega
              clear hlt2
              rw [← HR.out] at HIm
              go_wp2_with fail
              go_roundw
              case rel =>
                exact ⟨j + 1, by omega, by go_num, HIm.out⟩
              case measure => simp [intOf]; omega
    · obtain rfl : j = 10 := by omega
      have HVL : Hid ((crounds s 10).length = 16) := Lib.hid (by rw [crounds_len, HLS.out])
      have HO0 : Hid (BkI w s (crounds s 10) wr) := HIj
      obtain ⟨v, hv⟩ : ∃ v, crounds s 10 = v := ⟨_, rfl⟩
      rw [hv] at HVL HO0
      have HQ := Lib.hid hv
      clear hlt HIj hv
      have HI2 : Hid (Below w.heap.size w wr ∧ WB wr w.heap.size 48 s ∧ WB wr (w.heap.size + 1 + 1) 48 v ∧ BB wr (w.heap.size + 1) 45 (outC v s 0)) := Lib.hid ⟨HO0.out.below, HO0.out.num, HO0.out.mix, by rw [outC_zero]; exact HO0.out.out⟩
      clear HO0
      have HF := Lib.hid (outC_full v s)
      have HSET := Lib.hid (outC_set v s)
      have HVAL := Lib.hid (bv_outW v s)
      go_wp2_with fail
      go_loopw [46] (fun i wr => ∃ m : Nat, m ≤ 64 ∧ i = .int .i64 m ∧ Below w.heap.size w wr ∧ WB wr w.heap.size 48 s ∧ WB wr (w.heap.size + 1 + 1) 48 v ∧ BB wr (w.heap.size + 1) 45 (outC v s m)) (fun i _ => 64 - (intOf i).toNat)
      case atStart => exact ⟨0, by omega, rfl, HI2.out⟩
      case round =>
        clear HI2
        obtain ⟨m, hm, rfl, hb, h1, h2, h3⟩ := hrel
        have HB := Lib.hid hb
        have H1 := Lib.hid h1
        have H2 := Lib.hid h2
        have H3 := Lib.hid h3
        clear hb h1 h2 h3
        by_cases hlt : m < 64
        · have hd : m / 4 < 16 := by omega
          have c1 := H1.out.cellD (m / 4) (by rw [HLS.out]; exact hd)
          have c2 := H2.out.cellD (m / 4) (by rw [HVL.out]; exact hd)
          have c3 := H3.out.cell m (by rw [outC_len]; exact hlt)
          have f3 := H3.out.frozen m
          have im : (m : Int) < 64 := by omega
          have HV := Lib.hid (HVAL.out m)
          have HX := Lib.hid (HSET.out m)
          generalize s.getD (m / 4) 0 = y at *
          generalize v.getD (m / 4) 0 = x at *
          have id : (m : Int) / 4 < 16 := by omega
          have i0 : (0 : Int) ≤ (m : Int) / 4 := by omega
          have it : ((m : Int) / 4).toNat = m / 4 := by omega
          obtain ⟨q, hq⟩ : ∃ q, q = 8 * (m % 4) := ⟨_, rfl⟩
          have sh : IntKind.i64.wrap (8 * (m : Int).tmod 4) = (q : Int) := by
            rw [Int.tmod_eq_emod_of_nonneg (by omega), IntWalk.i64_in _ (by omega)]; omega
          have sq : q ≤ 24 := by omega
          rw [← hq] at HV
          clear hq
          have sw := u_add x y
          go_wp2_with fail
          go_still_tail 13, (by kernel_rfl)
          change wpList _ _ _ _ _ wr.drew
          go_wp2_with fail
          go_roundw
          case rel =>
            repeat apply Exists.intro
            refine ⟨⟨m + 1, by omega, ?_, ?_, ?_, ?_, ?_⟩, rfl⟩
            · go_num
            · exact (HB.out.setCell (by show w.heap.size ≤ w.heap.size + 1; omega) _).drew
            · exact (WB.setO H1.out (by omega) _ _).drew
            · exact (WB.setO H2.out (by omega) _ _).drew
            · rw [← HX.out]
              have h := (H3.out.set_ m (outW v s m)).drew
              rw [← HV.out] at h
              exact h
          case measure => simp [intOf]; omega
        · obtain rfl : m = 64 := by omega
          clear hlt
          rw [HF.out] at H3
          have hsz : (Tryd.prog.info? 45).map (·.size) = some (bvA (coutTo v s 16)).size := by rw [bvA_size, coutTo_len]; kernel_rfl
          go_wp2_with (first | (refine wpList_load_row rfl 45 (.tmp 2) rfl (w.heap.size + 1) rfl _ (bvA (coutTo v s 16)) (0, 0) _ H3.out Tryd.underlying45 rfl hsz ?_) | (refine wpList_storeA rfl 45 (.tmp 2) (.tmp 66) rfl (w.heap.size + 1) (bvA (coutTo v s 16)) rfl rfl _ _ H3.out hsz rfl (bvA_one _) ?_))
          intro w9 h9 hg9
          go_wp2_with fail
          rw [HQ.out]
          refine bodyPost_ret (v := .agg (bvA (coutTo v s 16))) ?_ rfl ⟨rfl, grown_below HB.out hg9 (by omega) HB.out.size⟩
          exact results_cell_row rfl _ _ (w.heap.size + 1) 45 _ (0, 0) _ rfl h9 Tryd.underlying45 rfl hsz

/-- A block of a key, a nonce and a counter. -/
theorem blockOf_len (k n : List UInt8) (c : Nat) : (cblock k n c).length = 64 := cblock_len k n c
end Go.Proofs.YtcibbghggfklbaaDoor
