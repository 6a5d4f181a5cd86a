/-
  The reference's block: one step of the hash.
-/
import Derived.Test.YtmeoicfeiamkmaaDoorKnu
import Derived.Test.YtmeoicfeiamkmaaDoorPad
import Derived.LoopTactic
import Derived.Test.YtmeoicfeiamkmaaDoorLqu
namespace Go.Proofs.YtmeoicfeiamkmaaDoor
open Go.RowKit
set_option linter.unusedVariables false
set_option linter.unusedSimpArgs false

theorem wordsTo_zero (l : List UInt8) : wordsTo 64 l 0 = List.replicate 64 0 := by
  apply List.ext_getElem
  · simp [wordsTo]
  · intro i h1 h2; rw [wordsTo_get, if_neg (by omega), List.getElem_replicate]
theorem wordsTo_sch (l : List UInt8) : wordsTo 64 l 16 = schN (wordsOf l) 0 := by
  apply List.ext_getElem
  · simp [schN, wordsTo, wordsOf]
  · intro i h1 h2
    rw [wordsTo_get]
    simp only [schN]
    rw [List.getElem_append]
    by_cases h : i < 16
    · rw [if_pos h, dif_pos (by rw [wordsOf_len]; exact h)]; simp [wordsOf]
    · rw [if_neg h, dif_neg (by rw [wordsOf_len]; exact h), List.getElem_replicate]

set_option maxRecDepth 100000 in
set_option maxHeartbeats 40000000 in
theorem refBlock (st : List Nat) (hst : st.length = 8) (b o cap : Nat) (l : List UInt8) (w : World) (hl : l.length = 64) (hr : RdB w.heap.size w (some ⟨b, o, none⟩) l) (hcap : 64 ≤ cap) (hc2 : cap ≤ maxLen) :
    Calls Tryd.prog 39 #[.agg (wv st), .slice (some ⟨b, o, none⟩) 64 cap] w fun e w' => e = .returned (.agg (wv (comp st (wordsOf l)))) ∧ Below w.heap.size w w' := by
  have HST := Lib.hid hst
  obtain ⟨hbB, hcell⟩ : b < w.heap.size ∧ ∀ j (h : j < l.length), w.cell? ⟨b, o + j, none⟩ = some (bv l[j]) := by
    rcases hr.2 with h2 | ⟨b', o', e, h3, h4⟩
    · rw [h2] at hl; cases hl
    · injection e with e; injection e with e1 e2; subst e1; subst e2; exact ⟨h3, h4⟩
  have HC := Lib.hid hcell
  have HL := Lib.hid hl
  clear hst hr hcell hl
  unfold maxLen at hc2
  obtain ⟨Z, hZ⟩ : ∃ Z, Z = wv (List.replicate 64 0) := ⟨_, rfl⟩
  have HZ := Lib.hid hZ
  have HBT : Hid (Tryd.prog.built 75 [] = some Z) := by show _ = _; rw [hZ]; kernel_rfl
  have HSZ : Hid ((Tryd.prog.info? 75).map (·.size) = some Z.size) := by show _ = _; rw [hZ]; kernel_rfl
  have HONE : Hid (Z.all (·.oneCell') = true) := by show _ = _; rw [hZ]; exact wv_one _
  have HOLD : Hid ((wv (List.replicate 64 0)).size = Z.size) := by show _ = _; rw [hZ]
  clear hZ
  have hw3 : ∃ w3, w3 = ((w.alloc (.cells (wv st) 52)).alloc (.cells (wv (List.replicate 8 0)) 52)).alloc (.cells (wv (List.replicate 64 0)) 75) := ⟨_, rfl⟩
  obtain ⟨w3, hw3⟩ := hw3
  have hB3 : Below w.heap.size w w3 := hw3 ▸ (((Below.refl _ _).alloc (Nat.le_refl _) _).alloc (by simp) _).alloc (by simp; omega) _
  have hS3 : WB w3 w.heap.size 52 st := hw3 ▸ ((WB.new w _ _).alloc _).alloc _
  have hR3 : WB w3 (w.heap.size + 1) 52 (List.replicate 8 0) := hw3 ▸ WB.alloc (heap_alloc2_new w _ _) _
  have hW3 : WB w3 (w.heap.size + 2) 75 (List.replicate 64 0) := by
    have h := WB.new ((w.alloc (.cells (wv st) 52)).alloc (.cells (wv (List.replicate 8 0)) 52)) 75 (List.replicate 64 0)
    rw [hw3]
    simpa using h
  have HB3 := Lib.hid hB3
  have HS3 := Lib.hid hS3
  have HR3 := Lib.hid hR3
  have HW3 := Lib.hid hW3
  have HE3 := Lib.hid hw3
  clear hB3 hS3 hR3 hW3 hw3
  go_enter Tryd.func39, Tryd.ntmps39
  go_wp2_with (first | ((with_reducible show wpList _ _ _ (({ dst := some 22, op := _, type := _, pos := _, after := _, guard := _ } : Oper) :: _) _ _); go_must (refine wpList_built rfl 75 #[] rfl [] (by simp) Z HBT.out ?_)) | (change wpList _ _ _ _ _ (((w.alloc (.cells (wv st) 52)).alloc (.cells (wv (List.replicate 8 0)) 52)).alloc (.cells (wv (List.replicate 64 0)) 75)); rw [← HE3.out]; refine wpList_storeA rfl 75 (.tmp 5) (.tmp 22) rfl (w.heap.size + 2) Z rfl rfl 75 _ HW3.out HSZ.out HOLD.out HONE.out ?_))
  intro w4 h4 hg4
  have HB4 := Lib.hid (grown_below HB3.out hg4 (by omega) HB3.out.size)
  have HS4 : Hid (WB w4 w.heap.size 52 st) := (hg4.block w.heap.size HS3.out.lt (fun e => by injection e with e; omega)).trans HS3.out
  have HR4 : Hid (WB w4 (w.heap.size + 1) 52 (List.replicate 8 0)) := (hg4.block (w.heap.size + 1) HR3.out.lt (fun e => by injection e with e; omega)).trans HR3.out
  have HW4 : Hid (WB w4 (w.heap.size + 2) 75 (wordsTo 64 l 0)) := by
    show _ = _
    rw [h4, HZ.out, ← wordsTo_zero l]
  clear h4 hg4 HB3 HS3 HR3 HW3 HE3 HBT HSZ HONE HOLD HZ
  go_wp2_with fail
  go_loopw [6] (fun i wr => ∃ k : Nat, k ≤ 16 ∧ i = .int .i64 k ∧ WB wr (w.heap.size + 2) 75 (wordsTo 64 l k) ∧ Below (w.heap.size + 2) w4 wr) (fun i _ => 16 - (intOf i).toNat)
  case atStart => exact ⟨0, by omega, rfl, HW4.out, Below.refl _ _⟩
  case round =>
    clear HW4
    obtain ⟨k, hk, rfl, hw, hb⟩ := hrel
    have HW := Lib.hid hw
    have HB := Lib.hid hb
    have hBr : Below w.heap.size w wr := HB4.out.trans (hb.mono (by omega))
    have HBr := Lib.hid hBr
    by_cases hlt : k < 16
    · have a0 := byte_at HC hbB hBr (4 * k) (by have := HL.out; omega)
      have a1 := byte_at HC hbB hBr (4 * k + 1) (by have := HL.out; omega)
      have a2 := byte_at HC hbB hBr (4 * k + 2) (by have := HL.out; omega)
      have a3 := byte_at HC hbB hBr (4 * k + 3) (by have := HL.out; omega)
      rw [← Nat.add_assoc] at a1 a2 a3
      have b0 := byte_le l (4 * k)
      have b1 := byte_le l (4 * k + 1)
      have b2 := byte_le l (4 * k + 2)
      have b3 := byte_le l (4 * k + 3)
      have HX : Hid (wordAt l k = uword (l.getD (4 * k) 0).toNat (l.getD (4 * k + 1) 0).toNat (l.getD (4 * k + 2) 0).toNat (l.getD (4 * k + 3) 0).toNat) := Lib.hid rfl
      generalize (l.getD (4 * k) 0).toNat = x0 at *
      generalize (l.getD (4 * k + 1) 0).toNat = x1 at *
      generalize (l.getD (4 * k + 2) 0).toNat = x2 at *
      generalize (l.getD (4 * k + 3) 0).toNat = x3 at *
      have HWD := Lib.hid (refWord b (o + 4 * k) 4 (cap - 4 * k) x0 x1 x2 x3 wr (by omega) (by unfold maxLen; omega) a0 a1 a2 a3 b0 b1 b2 b3)
      have hs := hw.cell k (by rw [wordsTo_len]; omega)
      rw [wordsTo_get, if_neg (by omega)] at hs
      have hf := hw.frozen k
      have he : 4 * k + 4 - 4 * k = 4 := by omega
      have hne : ¬ cap = 4 * k := by omega
      have hHS := Lib.hid hs
      have hHF := Lib.hid hf
      clear hw hb a0 a1 a2 a3 b0 b1 b2 b3 hBr hs hf
      go_wp2_with fail
      refine HWD.out.mono ?_
      rintro e w5 ⟨rfl, q, hw5⟩
      have hs5 : w5.cell? ⟨w.heap.size + 2, k, none⟩ = some (.int .u32 ((0 : Nat) : Int)) := by rw [hw5]; exact hHS.out
      have hf5 : w5.frozen? ⟨w.heap.size + 2, k, none⟩ = false := by rw [hw5]; exact hHF.out
      have HW5 : Hid (WB w5 (w.heap.size + 2) 75 (wordsTo 64 l k)) := by show _ = _; rw [hw5]; exact HW.out.drewN q
      have HB5 : Hid (Below (w.heap.size + 2) w4 w5) := by have h := below_dN HB.out q; rw [← hw5] at h; exact Lib.hid h
      have hk64 : (k : Int) < 64 := by omega
      have hk0 : (0 : Int) ≤ (k : Int) := by omega
      clear hw5 hHS hHF HWD HW HB HBr
      go_wp2_with fail
      go_roundw
      case rel =>
        refine ⟨k + 1, by omega, by go_num, ?_, HB5.out.setCell (Nat.le_refl _) _⟩
        rw [← HX.out, ← wordsTo_set]
        exact HW5.out.set_ k _
      case measure => simp [intOf]; omega
    · obtain rfl : k = 16 := by omega
      rw [wordsTo_sch] at HW
      have hwl : (wordsOf l).length = 16 := wordsOf_len l
      have HWL := Lib.hid hwl
      generalize hws : wordsOf l = ws at *
      have HWS := Lib.hid hws
      clear hws
      clear hw hb hBr hlt hk
      go_wp2_with fail
      rw [show ((16 : Nat) : Int) = 16 from rfl]
      go_loopw [7] (fun i wr => ∃ k : Nat, k ≤ 48 ∧ i = .int .i64 ((k + 16 : Nat) : Int) ∧ WB wr (w.heap.size + 2) 75 (schN ws k) ∧ Below (w.heap.size + 2) w4 wr) (fun i _ => 64 - (intOf i).toNat)
      case atStart => exact ⟨0, by omega, rfl, HW.out, HB.out⟩
      case round =>
        clear HW HB HBr
        obtain ⟨k, hk, rfl, hw, hb⟩ := hrel
        have hlen := schN_len ws HWL.out k
        have HX := Lib.hid (schN_at ws k (k + 16) rfl)
        have HW := Lib.hid hw
        have HB := Lib.hid hb
        by_cases hlt : k < 48
        · obtain ⟨t, ht⟩ : ∃ t, t = k + 16 := ⟨_, rfl⟩
          have c16 := hw.cellD (t - 16) (by omega)
          have c15 := hw.cellD (t - 15) (by omega)
          have c7 := hw.cellD (t - 7) (by omega)
          have c2 := hw.cellD (t - 2) (by omega)
          have ct := hw.cellD t (by omega)
          have cf := hw.frozen t
          rw [← ht] at HX ⊢
          generalize (schN ws k).getD (t - 16) 0 = x16 at *
          generalize (schN ws k).getD (t - 15) 0 = x15 at *
          generalize (schN ws k).getD (t - 7) 0 = x7 at *
          generalize (schN ws k).getD (t - 2) 0 = x2 at *
          generalize (schN ws k).getD t 0 = xt at *
          have h16 : 16 ≤ t := by omega
          have h64 : t < 64 := by omega
          have HK := Lib.hid ht
          clear hw hb hk hlt ht hlen
          have s16 : IntKind.i64.wrap ((t : Int) - 16) = (t : Int) - 16 := IntWalk.i64_in _ (by omega)
          have s15 : IntKind.i64.wrap ((t : Int) - 15) = (t : Int) - 15 := IntWalk.i64_in _ (by omega)
          have s7 : IntKind.i64.wrap ((t : Int) - 7) = (t : Int) - 7 := IntWalk.i64_in _ (by omega)
          have s2 : IntKind.i64.wrap ((t : Int) - 2) = (t : Int) - 2 := IntWalk.i64_in _ (by omega)
          have z16 : (0 : Int) ≤ (t : Int) - 16 := by omega
          have z15 : (0 : Int) ≤ (t : Int) - 15 := by omega
          have z7 : (0 : Int) ≤ (t : Int) - 7 := by omega
          have z2 : (0 : Int) ≤ (t : Int) - 2 := by omega
          have i16 : (16 : Int) ≤ (t : Int) := by omega
          have i15 : (15 : Int) ≤ (t : Int) := by omega
          have i7 : (7 : Int) ≤ (t : Int) := by omega
          have i2 : (2 : Int) ≤ (t : Int) := by omega
          have y16 : (t : Int) - 16 < 64 := by omega
          have y15 : (t : Int) - 15 < 64 := by omega
          have y7 : (t : Int) - 7 < 64 := by omega
          have y2 : (t : Int) - 2 < 64 := by omega
          have n16 : ((t : Int) - 16).toNat = t - 16 := by omega
          have n15 : ((t : Int) - 15).toNat = t - 15 := by omega
          have n7 : ((t : Int) - 7).toNat = t - 7 := by omega
          have n2 : ((t : Int) - 2).toNat = t - 2 := by omega
          have u1 := u_add
          have u2 := w_xor
          have u3 := w_shr3 x15
          have u4 := w_shr10 x2
          have hS : wr.cell? ⟨w.heap.size + 2, t - 16, none⟩ = some (.int .u32 (x16 : Int)) ∧ wr.cell? ⟨w.heap.size + 2, t - 7, none⟩ = some (.int .u32 (x7 : Int)) := ⟨c16, c7⟩
          have hT1 : ∀ n, (wr.drewN n).cell? ⟨w.heap.size + 1 + 1, t, none⟩ = some (.int .u32 (xt : Int)) := fun _ => ct
          have hT2 : ∀ n, (wr.drewN n).frozen? ⟨w.heap.size + 1 + 1, t, none⟩ = false := fun _ => cf
          clear c16 c7 ct cf
          go_wp2_with fail
          go_region_held3 (fun w' => w'.cell? ⟨w.heap.size + 2, t - 16, none⟩ = some (.int .u32 (x16 : Int)) ∧ w'.cell? ⟨w.heap.size + 2, t - 7, none⟩ = some (.int .u32 (x7 : Int)))
            (first
              | exact hS
              | exact ⟨(World.cell?_setCell_other _ _ _ _ (by intro h; injection h with h1 h2; omega)).trans hS.1, (World.cell?_setCell_other _ _ _ _ (by intro h; injection h with h1 h2; omega)).trans hS.2⟩)
            (first
              | (go_at_call 45; (with_reducible show Calls _ _ #[Value.int IntKind.u32 (x15 : Int), Value.int IntKind.i64 7] _ _); refine (refRor x15 7 _ rfl (by decide) (by decide) _).mono ?_; rintro e w' ⟨rfl, q, rfl⟩)
              | (go_at_call 45; (with_reducible show Calls _ _ #[Value.int IntKind.u32 (x15 : Int), Value.int IntKind.i64 18] _ _); refine (refRor x15 18 _ rfl (by decide) (by decide) _).mono ?_; rintro e w' ⟨rfl, q, rfl⟩)
              | (go_at_call 45; (with_reducible show Calls _ _ #[Value.int IntKind.u32 (x2 : Int), Value.int IntKind.i64 17] _ _); refine (refRor x2 17 _ rfl (by decide) (by decide) _).mono ?_; rintro e w' ⟨rfl, q, rfl⟩)
              | (go_at_call 45; (with_reducible show Calls _ _ #[Value.int IntKind.u32 (x2 : Int), Value.int IntKind.i64 19] _ _); refine (refRor x2 19 _ rfl (by decide) (by decide) _).mono ?_; rintro e w' ⟨rfl, q, rfl⟩))
          go_wp2_with fail
          go_roundw
          case rel =>
            refine ⟨k + 1, by have := HK.out; omega, by rw [HK.out]; go_num, ?_, (below_dN HB.out _).setCell (Nat.le_refl _) _⟩
            rw [HX.out]
            exact (HW.out.drewN _).set_ t _
          case measure => simp [intOf]; omega
        · obtain rfl : k = 48 := by omega
          clear hw hb hk hlt
          have HSC : Hid (schN ws 48 = sched ws) := Lib.hid rfl
          have hBr : Below w.heap.size w wr := HB4.out.trans (HB.out.mono (by omega))
          have HBr := Lib.hid hBr
          have HSr := Lib.hid (HS4.out.below HB.out (by omega))
          have HRr := Lib.hid (HR4.out.below HB.out (by omega))
          have HKSZ : Hid ((Tryd.prog.info? 75).map (·.size) = some (wv kNums).size) := by show _ = _; kernel_rfl
          obtain ⟨KN, hKN⟩ : ∃ KN, KN = wv kNums := ⟨_, rfl⟩
          have HKN := Lib.hid hKN
          have HKO : Hid ((wv (List.replicate 64 0)).size = KN.size) := by show _ = _; rw [hKN]; rfl
          have HK1 : Hid (KN.all (·.oneCell') = true) := by show _ = _; rw [hKN]; exact wv_one _
          have HNM := Lib.hid (fun W => refNumbers W)
          rw [← hKN] at HNM HKSZ
          clear hBr hKN
          go_wp2_with fail
          refine (HNM.out _).mono ?_
          rintro e w5 ⟨rfl, hb5⟩
          have HB5 := Lib.hid (HBr.out.trans (hb5.mono HBr.out.size))
          have HS5 := Lib.hid (HSr.out.below hb5 HSr.out.lt)
          have HR5 := Lib.hid (HRr.out.below hb5 HRr.out.lt)
          have HW5 := Lib.hid (HW.out.below hb5 HW.out.lt)
          clear hb5 HB HBr HSr HRr HW
          go_wp2_with (change wpList _ _ _ _ _ (w5.alloc (.cells (wv (List.replicate 64 0)) 75)); refine wpList_storeA rfl 75 (.tmp 10) (.tmp 78) rfl w5.heap.size KN rfl rfl 75 _ (heap_alloc_new w5 _) HKSZ.out HKO.out HK1.out ?_)
          intro w6 h6 hg6
          have hB6 : Below w5.heap.size w5 w6 := grown_below ((Below.refl _ _).alloc (Nat.le_refl _) _) hg6 (Nat.le_refl _) (by simp)
          have HB6 := Lib.hid (HB5.out.trans (hB6.mono HB5.out.size))
          have HS6 := Lib.hid (HS5.out.below hB6 HS5.out.lt)
          have HR6 := Lib.hid (HR5.out.below hB6 HR5.out.lt)
          have HW6 := Lib.hid (HW5.out.below hB6 HW5.out.lt)
          have HK6 : Hid (WB w6 w5.heap.size 75 kNums) := by show _ = _; rw [h6, HKN.out]
          rw [HSC.out] at HW6
          clear h6 hg6 hB6 HB5 HS5 HR5 HW5 HKSZ HKO HK1 HNM HSC
          obtain ⟨W, hW⟩ : ∃ W, W = sched ws := ⟨_, rfl⟩
          have hWl : W.length = 64 := by rw [hW]; exact schN_len ws HWL.out 48
          have HWl := Lib.hid hWl
          rw [← hW] at HW6
          have HWW := Lib.hid hW
          clear hW hWl
          have c0 := HS6.out.cellD 0 (by rw [HST.out]; decide)
          have c1 := HS6.out.cellD 1 (by rw [HST.out]; decide)
          have c2 := HS6.out.cellD 2 (by rw [HST.out]; decide)
          have c3 := HS6.out.cellD 3 (by rw [HST.out]; decide)
          have c4 := HS6.out.cellD 4 (by rw [HST.out]; decide)
          have c5 := HS6.out.cellD 5 (by rw [HST.out]; decide)
          have c6 := HS6.out.cellD 6 (by rw [HST.out]; decide)
          have c7 := HS6.out.cellD 7 (by rw [HST.out]; decide)
          have HS : Hid (rnds W (ofL st) 0 = ⟨st.getD 0 0, st.getD 1 0, st.getD 2 0, st.getD 3 0, st.getD 4 0, st.getD 5 0, st.getD 6 0, st.getD 7 0⟩) := Lib.hid rfl
          have HX8 : Hid (st = [st.getD 0 0, st.getD 1 0, st.getD 2 0, st.getD 3 0, st.getD 4 0, st.getD 5 0, st.getD 6 0, st.getD 7 0]) := by
            show _ = _
            apply List.ext_getElem
            · rw [HST.out]; rfl
            · intro i h1 h2
              have h3 : i < 8 := by rw [HST.out] at h1; exact h1
              have : i = 0 ∨ i = 1 ∨ i = 2 ∨ i = 3 ∨ i = 4 ∨ i = 5 ∨ i = 6 ∨ i = 7 := by omega
              rcases this with rfl | rfl | rfl | rfl | rfl | rfl | rfl | rfl <;> simp [List.getD, h1]
          generalize st.getD 0 0 = x0 at *
          generalize st.getD 1 0 = x1 at *
          generalize st.getD 2 0 = x2 at *
          generalize st.getD 3 0 = x3 at *
          generalize st.getD 4 0 = x4 at *
          generalize st.getD 5 0 = x5 at *
          generalize st.getD 6 0 = x6 at *
          generalize st.getD 7 0 = x7 at *
          go_wp2_with fail
          go_quiet (fail)
          clear c0 c1 c2 c3 c4 c5 c6 c7
          go_wp2_with fail
          go_loopw [11, 12, 13, 14, 15, 16, 17, 18, 19] (fun a b c d e f g h i wr => ∃ k : Nat, k ≤ 64 ∧ i = .int .i64 k ∧ ∃ s : S8, Hid (rnds W (ofL st) k = s) ∧ a = .int .u32 s.a ∧ b = .int .u32 s.b ∧ c = .int .u32 s.c ∧ d = .int .u32 s.d ∧ e = .int .u32 s.e ∧ f = .int .u32 s.f ∧ g = .int .u32 s.g ∧ h = .int .u32 s.h ∧ ∃ n, wr = w6.drewN n) (fun _ _ _ _ _ _ _ _ i _ => 64 - (intOf i).toNat)
          case atStart => exact ⟨0, by omega, rfl, _, HS, rfl, rfl, rfl, rfl, rfl, rfl, rfl, rfl, _, rfl⟩
          case round =>
            obtain ⟨k, hk, rfl, ⟨xa, xb, xc, xd, xe, xf, xg, xh⟩, HSK, rfl, rfl, rfl, rfl, rfl, rfl, rfl, rfl, hwr⟩ := hrel
            have HWR := Lib.hid hwr
            clear hwr
            by_cases hlt : k < 64
            · have g0 : decide ((k : Int) < 64) = true := decide_eq_true (by omega)
              have ck : wr.cell? ⟨w5.heap.size, k, none⟩ = some (.int .u32 (kNums.getD k 0 : Nat)) := by obtain ⟨n, rfl⟩ := HWR.out; exact HK6.out.cellD k hlt
              have cw : wr.cell? ⟨w.heap.size + 1 + 1, k, none⟩ = some (.int .u32 (W.getD k 0 : Nat)) := by obtain ⟨n, rfl⟩ := HWR.out; exact HW6.out.cellD k (by rw [HWl.out]; exact hlt)
              have HX : Hid (rnds W (ofL st) (k + 1) = rnd ⟨xa, xb, xc, xd, xe, xf, xg, xh⟩ (kNums.getD k 0) (W.getD k 0)) := by show _ = _; rw [← HSK.out]; rfl
              generalize kNums.getD k 0 = xk at *
              generalize W.getD k 0 = xw at *
              go_wp2_with fail
              refine wp_region_quiet_lit (by kernel_rfl) (by kernel_rfl) ?_
              iterate 2 (go_big_quiet_step (fail))
              go_big_quiet_step ((go_at_call 45; exact Calls.quiet_of (refRor xe 6 _ rfl (by decide) (by decide) _)))
              go_big_quiet_step (fail)
              go_big_quiet_step ((go_at_call 45; exact Calls.quiet_of (refRor xe 11 _ rfl (by decide) (by decide) _)))
              iterate 2 (go_big_quiet_step (fail))
              go_big_quiet_step ((go_at_call 45; exact Calls.quiet_of (refRor xe 25 _ rfl (by decide) (by decide) _)))
              iterate 20 (go_big_quiet_step (fail))
              refine wpQuiet_nil ?_
              intro wq1 hq1
              have HQ1 := Lib.hid hq1
              clear hq1
              rename_i K0 hK0
              refine hK0 _ _ ?_
              clear hK0 ck cw
              refine wp_seq_k (fun K1 hK1 => ?_)
              refine wp_region_plain_quiet 21 ?_
              dsimp only [List.take, List.drop]
              go_big_quiet_step (fail)
              go_big_quiet_step ((go_at_call 45; exact Calls.quiet_of (refRor xa 2 _ rfl (by decide) (by decide) _)))
              go_big_quiet_step (fail)
              go_big_quiet_step ((go_at_call 45; exact Calls.quiet_of (refRor xa 13 _ rfl (by decide) (by decide) _)))
              iterate 2 (go_big_quiet_step (fail))
              go_big_quiet_step ((go_at_call 45; exact Calls.quiet_of (refRor xa 22 _ rfl (by decide) (by decide) _)))
              iterate 14 (go_big_quiet_step (fail))
              refine wpQuiet_nil ?_
              intro wq2 hq2
              have HQ2 := Lib.hid hq2
              clear hq2
              refine wpList_nil ?_
              refine hK1 _ _ ?_
              clear hK1
              refine wp_region_plain_quiet 20 ?_
              dsimp only [List.take, List.drop]
              iterate 20 (go_big_quiet_step (fail))
              refine wpQuiet_nil ?_
              intro wq3 hq3
              have HQ3 := Lib.hid hq3
              clear hq3
              refine wpList_nil ?_
              go_wp2_with fail
              go_roundw
              case rel =>
                obtain ⟨n, rfl⟩ := HWR.out
                obtain ⟨nq, rfl⟩ := HQ1.out
                obtain ⟨nq2, rfl⟩ := HQ2.out
                obtain ⟨nq3, rfl⟩ := HQ3.out
                have hif : (if IntKind.u32.signed = true then (-1 : Int) else IntKind.u32.max) = IntKind.u32.max := rfl
                refine ⟨k + 1, by omega, by go_num, _, HX, ?_, rfl, rfl, rfl, ?_, rfl, rfl, rfl, n + nq + nq2 + nq3, by simp only [World.drewN_drewN, Nat.add_assoc]⟩
                · simp only [hif, w_not, w_xor, w_and, w_add5, w_add]; rfl
                · simp only [hif, w_not, w_xor, w_and, w_add5, w_add]; rfl
              case measure => simp [intOf]; omega
            · obtain rfl : k = 64 := by omega
              have g0 : decide (((64 : Nat) : Int) < 64) = false := by decide
              have HSt := (by obtain ⟨n, rfl⟩ := HWR.out; exact Lib.hid HS6.out : Hid (WB wr w.heap.size 52 st))
              have HRt := (by obtain ⟨n, rfl⟩ := HWR.out; exact Lib.hid HR6.out : Hid (WB wr (w.heap.size + 1) 52 (List.replicate 8 0)))
              have HBt := (by obtain ⟨n, rfl⟩ := HWR.out; exact Lib.hid (below_drewN HB6.out n) : Hid (Below w.heap.size w wr))
              have HC8 : Hid (comp st ws = addTo st (toL ⟨xa, xb, xc, xd, xe, xf, xg, xh⟩) 8) := by show _ = _; rw [← HSK.out, HWW.out]; rfl
              have d0 := HSt.out.cellD 0 (by rw [HST.out]; decide)
              have d1 := HSt.out.cellD 1 (by rw [HST.out]; decide)
              have d2 := HSt.out.cellD 2 (by rw [HST.out]; decide)
              have d3 := HSt.out.cellD 3 (by rw [HST.out]; decide)
              have d4 := HSt.out.cellD 4 (by rw [HST.out]; decide)
              have d5 := HSt.out.cellD 5 (by rw [HST.out]; decide)
              have d6 := HSt.out.cellD 6 (by rw [HST.out]; decide)
              have d7 := HSt.out.cellD 7 (by rw [HST.out]; decide)
              rw [HX8.out] at d0 d1 d2 d3 d4 d5 d6 d7
              simp only [List.getD_cons_zero, List.getD_cons_succ] at d0 d1 d2 d3 d4 d5 d6 d7
              clear HB4 HS4 HR4 HB6 HS6 HR6 HK6 HW6 HS HSK HWR hlt
              rename_i K1 hK1
              have HK1 := Lib.hid hK1
              clear hK1
              go_wp2_with fail
              refine HK1.out _ _ ?_
              clear HK1
              refine wp_seq_k (fun K2 hK2 => ?_)
              refine wp_region_plain_quiet 32 ?_
              dsimp only [List.take, List.drop]
              iterate 32 (go_big_quiet_step (fail))
              refine wpQuiet_nil ?_
              intro w20 hw20
              have HQ := Lib.hid hw20
              clear hw20
              clear d0 d1 d2 d3 d4 d5 d6 d7
              have HS20 := (by obtain ⟨n, rfl⟩ := HQ.out; exact Lib.hid HRt.out : Hid (WB w20 (w.heap.size + 1) 52 (List.replicate 8 0)))
              have HB20 := (by obtain ⟨n, rfl⟩ := HQ.out; exact Lib.hid (below_drewN HBt.out n) : Hid (Below w.heap.size w w20))
              have HY : Hid (comp st ws = [uadd x0 xa, uadd x1 xb, uadd x2 xc, uadd x3 xd, uadd x4 xe, uadd x5 xf, uadd x6 xg, uadd x7 xh]) := by show _ = _; rw [HC8.out, HX8.out]; rfl
              simp only [w_add]
              generalize uadd x0 xa = y0 at *
              generalize uadd x1 xb = y1 at *
              generalize uadd x2 xc = y2 at *
              generalize uadd x3 xd = y3 at *
              generalize uadd x4 xe = y4 at *
              generalize uadd x5 xf = y5 at *
              generalize uadd x6 xg = y6 at *
              generalize uadd x7 xh = y7 at *
              obtain ⟨ZZ, hZZ⟩ : ∃ ZZ, ZZ = wv [y0, y1, y2, y3, y4, y5, y6, y7] := ⟨_, rfl⟩
              have HZZ := Lib.hid hZZ
              have HBB8 : Hid (Tryd.prog.built 52 [(0, .int .u32 (y0 : Int)), (1, .int .u32 (y1 : Int)), (2, .int .u32 (y2 : Int)), (3, .int .u32 (y3 : Int)), (4, .int .u32 (y4 : Int)), (5, .int .u32 (y5 : Int)), (6, .int .u32 (y6 : Int)), (7, .int .u32 (y7 : Int))] = some ZZ) := by show _ = _; rw [hZZ]; kernel_rfl
              have HSZ8 : Hid ((Tryd.prog.info? 52).map (·.size) = some ZZ.size) := by show _ = _; rw [hZZ]; kernel_rfl
              have HON8 : Hid (ZZ.all (·.oneCell') = true) := by show _ = _; rw [hZZ]; exact wv_one _
              have HOL8 : Hid ((wv (List.replicate 8 0)).size = ZZ.size) := by show _ = _; rw [hZZ]; rfl
              clear hZZ
              refine wpList_built rfl 52 _ rfl [(0, .int .u32 (y0 : Int)), (1, .int .u32 (y1 : Int)), (2, .int .u32 (y2 : Int)), (3, .int .u32 (y3 : Int)), (4, .int .u32 (y4 : Int)), (5, .int .u32 (y5 : Int)), (6, .int .u32 (y6 : Int)), (7, .int .u32 (y7 : Int))] ?_ ZZ HBB8.out ?_
              · kernel_rfl
              refine wpList_storeA rfl 52 (.tmp 4) (.tmp 190) rfl (w.heap.size + 1) ZZ rfl rfl 52 _ HS20.out HSZ8.out HOL8.out HON8.out ?_
              intro w21 h21 hg21
              refine wpList_nil ?_
              refine hK2 _ _ ?_
              clear hK2
              go_wp2_with fail
              refine bodyPost_ret (v := .agg ZZ) ?_ rfl ⟨by rw [HWS.out, HY.out, HZZ.out], grown_below HB20.out hg21 (Nat.le_succ _) HB20.out.size⟩
              exact results_cell_row rfl _ _ (w.heap.size + 1) 52 _ (0, 0) _ rfl h21 Tryd.underlying52 rfl HSZ8.out
end Go.Proofs.YtmeoicfeiamkmaaDoor
