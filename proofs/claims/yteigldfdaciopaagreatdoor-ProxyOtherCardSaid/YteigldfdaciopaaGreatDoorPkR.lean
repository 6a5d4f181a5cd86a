/-
  The reference's padded: the bytes with their end.
  The reference's numbers.
  A region that does not draw its order, walked by the cheap steps of the quiet walk: its first n operations leave the world alone but for draws, the rest is walked as always.
  The reference's block: one step of the hash.
  The reference's Sum.
  The reference's Tagged.
-/
import Derived.Test.YteigldfdaciopaaGreatDoorPkC
import Derived.LoopTactic
import Derived.Great.BuildSlice
set_option linter.unusedVariables false
set_option linter.unusedSimpArgs false
namespace Go.Proofs.YteigldfdaciopaaGreatDoor
open Go.RowKit
set_option linter.unusedVariables false
set_option linter.unusedSimpArgs false

theorem padB_eq (len : Nat) : padB len = (128 : UInt8) :: List.replicate (padN len - 1) 0 ++ (List.range 8).map (szB len) := by
  have h1 := padN_bd len
  apply List.ext_getElem
  · rw [padB_len]; simp; omega
  · intro i h1' h2'
    have h1'' := h1'
    rw [padB_len] at h1''
    have hp : (padB len)[i] = (padA (padN len) 8 len)[i]'(by rw [padA_len]; omega) := by simp only [padB, List.getElem_take]
    rw [hp]
    by_cases h0 : i = 0
    · subst h0; simp [padA]
    · by_cases h3 : i < padN len
      · rw [List.getElem_append_left (by simp; omega), List.getElem_cons, dif_neg h0]
        simp [padA, h0]
        intro h; omega
      · rw [List.getElem_append_right (by simp; omega)]
        simp only [padA, List.getElem_map, List.getElem_range, List.length_cons, List.length_replicate]
        rw [if_neg h0, if_pos ⟨by omega, by omega⟩]
        congr 1; omega
theorem pad_more (n k : Nat) (h : k + 1 ≤ padN n) (hq : ¬ (n + 1 + k) % 64 = 56) : k + 1 + 1 ≤ padN n := by unfold padN at *; omega
theorem pad_end (n k : Nat) (h : k + 1 ≤ padN n) (hq : (n + 1 + k) % 64 = 56) : k = padN n - 1 := by unfold padN at *; omega
/-- The bytes that padded has when k zeros follow the first. -/
def padZ (l : List UInt8) (k : Nat) : List UInt8 := l ++ (128 : UInt8) :: List.replicate k 0
theorem padZ_len (l : List UInt8) (k : Nat) : (padZ l k).length = l.length + 1 + k := by simp [padZ]; omega
theorem padZ_snoc (l : List UInt8) (k : Nat) : padZ l k ++ [0] = padZ l (k + 1) := by
  simp [padZ, List.replicate_succ']
def padS (l : List UInt8) (k : Nat) : List UInt8 := padZ l (padN l.length - 1) ++ (List.range k).map (szB l.length)
theorem padS_snoc (l : List UInt8) (k : Nat) : padS l k ++ [szB l.length k] = padS l (k + 1) := by
  simp [padS, List.range_succ]
theorem padS_len (l : List UInt8) (k : Nat) : (padS l k).length = l.length + padN l.length + k := by
  have := padN_bd l.length
  unfold padS; rw [List.length_append, padZ_len]; simp; omega
theorem padS_8 (l : List UInt8) : padS l 8 = l ++ padB l.length := by
  rw [padB_eq]; simp [padS, padZ]

set_option maxRecDepth 100000 in
set_option maxHeartbeats 1600000 in
theorem refPadded (a : Option Addr) (cap : Nat) (l : List UInt8) (w : World) (hl : RdB w.heap.size w a l) (hcap : l.length ≤ cap) (hc2 : cap ≤ maxLen) (hnil : a = none → cap = 0) (hn : l.length ≤ 70368744177664) :
    Calls Tryz.prog 102 #[.slice a l.length cap] w fun e w' => ∃ v, e = .returned v ∧ OwnB w.heap.size w' v (l ++ padB l.length) ∧ Below w.heap.size w w' := by
  have HL := Lib.hid hl
  have HN := Lib.hid hnil
  have HP8 := Lib.hid (padS_8 l)
  have hpn := padN_bd l.length
  clear hl hnil
  unfold maxLen at hc2
  go_enter Tryz.func102, Tryz.ntmps102
  have hA0 : Below w.heap.size w (w.alloc (.cells #[] 5)) := (Below.refl _ _).alloc (Nat.le_refl _) _
  have HR0 : Hid (RdB (w.alloc (.cells #[] 5)).heap.size (w.alloc (.cells #[] 5)) a l) := (HL.out.below hA0).mono hA0.size
  have HO0 : Hid (OwnB w.heap.size (w.alloc (.cells #[] 5)) (.slice (some ⟨w.heap.size, 0, none⟩) 0 0) []) := OwnB.empty (Nat.le_refl _)
  have HS0 : Hid (w.heap.size ≤ (w.alloc (.cells #[] 5)).heap.size) := hA0.size
  have HLN : Hid (([] : List UInt8).length + l.length ≤ 140737488355328) := by show _ ≤ _; simp; omega
  have HA0 := Lib.hid hA0
  clear hA0
  go_wp2_with ((with_reducible show wpList _ _ _ (({ dst := some 8, op := _, type := _, pos := _, after := _, guard := _ } : Oper) :: _) _ _); go_must (refine wpList_appB rfl (.tmp 6) (.tmp 7) rfl w.heap.size _ [] l a cap rfl HO0.out rfl HR0.out HN.out HLN.out HS0.out ?_))
  intro v1 w1 ho1 hg1
  have HO1 := Lib.hid ho1
  have HB1 := Lib.hid (HA0.out.trans (hg1.below (empty_base (Nat.le_refl _)) HA0.out.size))
  clear ho1 hg1 HR0 HO0 HS0 HLN HA0
  have HC128 : Hid (((w1.alloc (.cells #[.int .u8 128] 5)).cell? ⟨w1.heap.size, 0, none⟩) = some (bv 128)) := by show _ = _; rw [cell_of_row _ _ _ _ _ _ (heap_alloc_new w1 _)]; rfl
  have HLN1 : Hid (l.length + 1 ≤ 140737488355328) := by show _ ≤ _; omega
  have HS1 : Hid (w.heap.size ≤ (w1.alloc (.cells #[.int .u8 128] 5)).heap.size) := by show _ ≤ _; have := HB1.out.size; simp; omega
  go_wp2_with ((with_reducible show wpList _ _ _ (({ dst := some 10, op := _, type := _, pos := _, after := _, guard := _ } : Oper) :: _) _ _); go_must (refine wpList_app1 rfl (.tmp 8) (.tmp 9) rfl w.heap.size _ l 128 w1.heap.size rfl (HO1.out.alloc _) rfl HC128.out HLN1.out HS1.out ?_))
  intro v2 w2 ho2 hg2
  have HB2 := Lib.hid ((HB1.out.alloc HB1.out.size _).trans (hg2.below (fun k hk => HO1.out.base k hk) (HB1.out.alloc HB1.out.size _).size))
  have HO2 : Hid (OwnB w.heap.size w2 v2 (padZ l 0)) := ho2
  clear ho2 hg2 HC128 HLN1 HS1 HO1 HB1
  go_wp2_with fail
  go_loopw [3] (fun v wr => ∃ k : Nat, k + 1 ≤ padN l.length ∧ OwnB w.heap.size wr v (padZ l k) ∧ Below w.heap.size w wr) (fun v _ => l.length + 65 - sliceLen v)
  case atStart => exact ⟨0, by omega, HO2.out, HB2.out⟩
  case round =>
    clear HO2 HB2
    obtain ⟨k, hk, ho, hb⟩ := hrel
    have HB := Lib.hid hb
    have HO := Lib.hid ho
    obtain ⟨av, cv, rfl, _, _⟩ := ho.form
    have hlz := padZ_len l k
    generalize hm : (padZ l k).length = m at *
    have HM := Lib.hid hm
    have HLZ := Lib.hid hlz
    have hmb : m ≤ 70368744177664 + 64 := by omega
    clear ho hb hm
    by_cases hq : m % 64 = 56
    · have hkk := pad_end l.length k hk (by rw [← HLZ.out]; exact hq)
      clear hlz
      have f1 : ((m : Int) % 64 == 56) = true := by rw [beq_iff_eq]; omega
      have HK : Hid (padZ l k = padS l 0) := by show _ = _; rw [hkk]; simp [padS]
      rw [HK.out] at HO HM
      clear hq hkk HK hk
      have HCV := Lib.hid HM.out
      go_wp2_with fail
      clear f1
      generalize ((m : Int) % 64 != 56) = cb
      go_loopw [3, 5] (fun v i wr => ∃ j : Nat, j ≤ 8 ∧ i = .int .i64 (7 - (j : Int)) ∧ OwnB w.heap.size wr v (padS l j) ∧ Below w.heap.size w wr) (fun _ i _ => (intOf i + 1).toNat)
      case atStart => exact ⟨0, by omega, rfl, HO.out, HB.out⟩
      case round =>
        clear HO HB
        obtain ⟨j, hj, rfl, ho, hb⟩ := hrel
        have HB := Lib.hid hb
        have HO := Lib.hid ho
        clear ho hb
        by_cases hj8 : j < 8
        · have hi0 : (0 : Int) ≤ 7 - (j : Int) := by omega
          obtain ⟨av2, cv2, rfl, _, _⟩ := HO.out.form
          have HCJ : Hid (((wr.alloc (.cells #[.int .u8 ((l.length : Int) * 8 / 2 ^ (8 * (7 - j)) % 256)] 5)).cell? ⟨wr.heap.size, 0, none⟩) = some (bv (szB l.length j))) := by
            show _ = _
            rw [cell_of_row _ _ _ _ _ _ (heap_alloc_new wr _), ← bv_szB, Int.mul_comm]; rfl
          have HLN1 : Hid ((padS l j).length + 1 ≤ 140737488355328) := by show _ ≤ _; rw [padS_len]; omega
          have HS1 : Hid (w.heap.size ≤ (wr.alloc (.cells #[.int .u8 ((l.length : Int) * 8 / 2 ^ (8 * (7 - j)) % 256)] 5)).heap.size) := by show _ ≤ _; have := HB.out.size; simp; omega
          go_wp2_with ((with_reducible show wpList _ _ _ (({ dst := some 33, op := _, type := _, pos := _, after := _, guard := _ } : Oper) :: _) _ _); go_must (refine wpList_app1 rfl (.tmp 26) (.tmp 32) rfl w.heap.size _ (padS l j) (szB l.length j) wr.heap.size rfl (HO.out.alloc _) rfl HCJ.out HLN1.out HS1.out ?_))
          intro v3 w3 ho3 hg3
          have HB3 := Lib.hid ((HB.out.alloc HB.out.size _).trans (hg3.below (fun k hk => HO.out.base k hk) (HB.out.alloc HB.out.size _).size))
          rw [padS_snoc] at ho3
          have HO3 := Lib.hid ho3
          obtain ⟨a3, c3, rfl, _, _⟩ := ho3.form
          clear ho3 hg3 HCJ HLN1 HS1
          go_wp2_with fail
          go_roundw
          case rel =>

            exact ⟨j + 1, by omega, by go_num, HO3.out, HB3.out⟩
          case measure => simp [intOf]; omega
        · obtain rfl : j = 8 := by omega
          rw [HP8.out] at HO
          go_wp2_with fail
          go_ret
          exact ⟨_, rfl, HO.out, HB.out⟩
    · have f1 : ((m : Int) % 64 == 56) = false := by rw [beq_eq_false_iff_ne]; omega
      have hkn := pad_more l.length k hk (by rw [← HLZ.out]; exact hq)
      have HKN := Lib.hid hkn
      clear hlz hkn
      have HC0 : Hid (((wr.alloc (.cells #[.int .u8 0] 5)).cell? ⟨wr.heap.size, 0, none⟩) = some (bv 0)) := by show _ = _; rw [cell_of_row _ _ _ _ _ _ (heap_alloc_new wr _)]; rfl
      have HLN1 : Hid ((padZ l k).length + 1 ≤ 140737488355328) := by show _ ≤ _; rw [HM.out]; omega
      have HS1 : Hid (w.heap.size ≤ (wr.alloc (.cells #[.int .u8 0] 5)).heap.size) := by show _ ≤ _; have := HB.out.size; simp; omega
      go_wp2_with ((with_reducible show wpList _ _ _ (({ dst := some 17, op := _, type := _, pos := _, after := _, guard := _ } : Oper) :: _) _ _); go_must (refine wpList_app1 rfl (.tmp 15) (.tmp 16) rfl w.heap.size _ (padZ l k) 0 wr.heap.size rfl (HO.out.alloc _) rfl HC0.out HLN1.out HS1.out ?_))
      intro v2 w2 ho2 hg2
      have HB2 := Lib.hid ((HB.out.alloc HB.out.size _).trans (hg2.below (fun k hk => HO.out.base k hk) (HB.out.alloc HB.out.size _).size))
      rw [padZ_snoc] at ho2
      have HO2 := Lib.hid ho2
      obtain ⟨a2, c2, rfl, _, _⟩ := ho2.form
      clear ho2 hg2 HC0 HLN1 HS1
      go_wp2_with fail
      go_roundw
      case rel => exact ⟨k + 1, HKN.out, HO2.out, HB2.out⟩
      case measure => have := padZ_len l (k + 1); have := HLZ.out; simp only [sliceLen]; omega
end Go.Proofs.YteigldfdaciopaaGreatDoor

namespace Go.Proofs.YteigldfdaciopaaGreatDoor
open Go.RowKit
set_option linter.unusedVariables false
set_option linter.unusedSimpArgs false

set_option maxRecDepth 100000 in
set_option maxHeartbeats 1600000 in
theorem refNumbers (w : World) : Calls Tryz.prog 120 #[] w fun e w' => e = .returned (.agg (wv kNums)) ∧ Below w.heap.size w w' := by
  obtain ⟨Z, hZ⟩ : ∃ Z, Z = wv kNums := ⟨_, rfl⟩
  have hsz : (Tryz.prog.info? 127).map (·.size) = some Z.size := by rw [hZ]; kernel_rfl
  have HSZ := Lib.hid hsz
  have HONE : Hid (Z.all (·.oneCell') = true) := by show _ = _; rw [hZ]; exact wv_one _
  have HZ := Lib.hid hZ
  rw [← hZ]
  clear hZ hsz
  go_enter Tryz.func120, Tryz.ntmps120
  go_wp2_with (first | ((with_reducible show wpList _ _ _ (({ dst := some 1, op := _, type := _, pos := _, after := _, guard := _ } : Oper) :: _) _ _); go_must (refine wpList_built rfl 127 _ rfl _ rfl Z (by rw [HZ.out]; kernel_rfl) ?_)) | (refine wpList_storeA rfl 127 (.tmp 0) (.tmp 1) rfl w.heap.size Z rfl rfl 127 _ (heap_alloc_new w _) HSZ.out (by rw [HZ.out]; rfl) HONE.out ?_))
  intro w4 h4 hg4
  go_wp2_with fail
  have hB := grown_below ((Below.refl w.heap.size w).alloc (Nat.le_refl _) _) hg4 (Nat.le_refl _) (by simp)
  refine bodyPost_ret (v := .agg Z) ?_ rfl ⟨rfl, hB⟩
  exact results_cell_row rfl _ _ w.heap.size 127 _ (0, 0) _ rfl h4 Tryz.underlying127 rfl HSZ.out
end Go.Proofs.YteigldfdaciopaaGreatDoor

namespace Go.Proofs.YteigldfdaciopaaGreatDoor
open Go.RowKit

theorem wpList_of_quiet {P : Program} {ops : Array Oper} {C : World → Prop} {F : Act → Prop} {Q : Exit → Act → World → Prop} {rest : List Oper}
    (hF : ∀ a w, C w → F a → wpList P ops Q rest a w) : ∀ (l : List Oper) (a : Act) (w : World), C w → wpQuiet P ops C F l a → wpList P ops Q (l ++ rest) a w := by
  intro l
  induction l with
  | nil => intro a w hC hq; exact hF a w hC hq
  | cons o l ih =>
    intro a w hC hq
    refine wpList_step fun K hK => ?_
    unfold wpQuiet at hq
    by_cases hw : Region.wanted o (yielded ops a.tmps) = true
    · rw [if_pos hw] at hq ⊢
      exact Oper.wp_of_quiet hC (fun a' w' hw' h => hK _ _ (ih a' w' hw' h)) hq
    · rw [if_neg hw] at hq ⊢
      exact hK _ _ (ih _ _ hC hq)

theorem wp_region_plain_quiet {P : Program} {id : Nat} {Q : Exit → Act → World → Prop} {a : Act} {w : World} {l : List Oper} (n : Nat)
    (h : wpQuiet P l.toArray (fun w' => ∃ n, w' = w.drewN n) (fun a' => ∀ w', (∃ n, w' = w.drewN n) → wpList P l.toArray Q (l.drop n) a' w') (l.take n) a) : (Code.region id l.toArray false).wp P Q a w := by
  refine wp_region_lit ?_
  have := wpList_of_quiet (rest := l.drop n) (C := fun w' => ∃ n, w' = w.drewN n) (fun a' w' hC hF => hF w' hC) (l.take n) a w ⟨0, rfl⟩ h
  rw [List.take_append_drop] at this
  exact this
end Go.Proofs.YteigldfdaciopaaGreatDoor

namespace Go.Proofs.YteigldfdaciopaaGreatDoor
open Go.RowKit
set_option linter.unusedVariables false
set_option linter.unusedSimpArgs false

theorem wordsTo_zero (l : List UInt8) : wordsTo 64 l 0 = List.replicate 64 0 := by
  apply List.ext_getElem
  · simp [wordsTo]
  · intro i h1 h2; rw [wordsTo_get, if_neg (by omega), List.getElem_replicate]
theorem wordsTo_sch (l : List UInt8) : wordsTo 64 l 16 = schN (wordsOf l) 0 := by
  apply List.ext_getElem
  · simp [schN, wordsTo, wordsOf]
  · intro i h1 h2
    rw [wordsTo_get]
    simp only [schN]
    rw [List.getElem_append]
    by_cases h : i < 16
    · rw [if_pos h, dif_pos (by rw [wordsOf_len]; exact h)]; simp [wordsOf]
    · rw [if_neg h, dif_neg (by rw [wordsOf_len]; exact h), List.getElem_replicate]

set_option maxRecDepth 100000 in
set_option maxHeartbeats 40000000 in
theorem refBlock (st : List Nat) (hst : st.length = 8) (b o cap : Nat) (l : List UInt8) (w : World) (hl : l.length = 64) (hr : RdB w.heap.size w (some ⟨b, o, none⟩) l) (hcap : 64 ≤ cap) (hc2 : cap ≤ maxLen) :
    Calls Tryz.prog 103 #[.agg (wv st), .slice (some ⟨b, o, none⟩) 64 cap] w fun e w' => e = .returned (.agg (wv (comp st (wordsOf l)))) ∧ Below w.heap.size w w' := by
  have HST := Lib.hid hst
  obtain ⟨hbB, hcell⟩ : b < w.heap.size ∧ ∀ j (h : j < l.length), w.cell? ⟨b, o + j, none⟩ = some (bv l[j]) := by
    rcases hr.2 with h2 | ⟨b', o', e, h3, h4⟩
    · rw [h2] at hl; cases hl
    · injection e with e; injection e with e1 e2; subst e1; subst e2; exact ⟨h3, h4⟩
  have HC := Lib.hid hcell
  have HL := Lib.hid hl
  clear hst hr hcell hl
  unfold maxLen at hc2
  obtain ⟨Z, hZ⟩ : ∃ Z, Z = wv (List.replicate 64 0) := ⟨_, rfl⟩
  have HZ := Lib.hid hZ
  have HBT : Hid (Tryz.prog.built 127 [] = some Z) := by show _ = _; rw [hZ]; kernel_rfl
  have HSZ : Hid ((Tryz.prog.info? 127).map (·.size) = some Z.size) := by show _ = _; rw [hZ]; kernel_rfl
  have HONE : Hid (Z.all (·.oneCell') = true) := by show _ = _; rw [hZ]; exact wv_one _
  have HOLD : Hid ((wv (List.replicate 64 0)).size = Z.size) := by show _ = _; rw [hZ]
  clear hZ
  have hw3 : ∃ w3, w3 = ((w.alloc (.cells (wv st) 110)).alloc (.cells (wv (List.replicate 8 0)) 110)).alloc (.cells (wv (List.replicate 64 0)) 127) := ⟨_, rfl⟩
  obtain ⟨w3, hw3⟩ := hw3
  have hB3 : Below w.heap.size w w3 := hw3 ▸ (((Below.refl _ _).alloc (Nat.le_refl _) _).alloc (by simp) _).alloc (by simp; omega) _
  have hS3 : WB w3 w.heap.size 110 st := hw3 ▸ ((WB.new w _ _).alloc _).alloc _
  have hR3 : WB w3 (w.heap.size + 1) 110 (List.replicate 8 0) := hw3 ▸ WB.alloc (heap_alloc2_new w _ _) _
  have hW3 : WB w3 (w.heap.size + 2) 127 (List.replicate 64 0) := by
    have h := WB.new ((w.alloc (.cells (wv st) 110)).alloc (.cells (wv (List.replicate 8 0)) 110)) 127 (List.replicate 64 0)
    rw [hw3]
    simpa using h
  have HB3 := Lib.hid hB3
  have HS3 := Lib.hid hS3
  have HR3 := Lib.hid hR3
  have HW3 := Lib.hid hW3
  have HE3 := Lib.hid hw3
  clear hB3 hS3 hR3 hW3 hw3
  go_enter Tryz.func103, Tryz.ntmps103
  go_wp2_with (first | ((with_reducible show wpList _ _ _ (({ dst := some 22, op := _, type := _, pos := _, after := _, guard := _ } : Oper) :: _) _ _); go_must (refine wpList_built rfl 127 #[] rfl [] (by simp) Z HBT.out ?_)) | (change wpList _ _ _ _ _ (((w.alloc (.cells (wv st) 110)).alloc (.cells (wv (List.replicate 8 0)) 110)).alloc (.cells (wv (List.replicate 64 0)) 127)); rw [← HE3.out]; refine wpList_storeA rfl 127 (.tmp 5) (.tmp 22) rfl (w.heap.size + 2) Z rfl rfl 127 _ HW3.out HSZ.out HOLD.out HONE.out ?_))
  intro w4 h4 hg4
  have HB4 := Lib.hid (grown_below HB3.out hg4 (by omega) HB3.out.size)
  have HS4 : Hid (WB w4 w.heap.size 110 st) := (hg4.block w.heap.size HS3.out.lt (fun e => by injection e with e; omega)).trans HS3.out
  have HR4 : Hid (WB w4 (w.heap.size + 1) 110 (List.replicate 8 0)) := (hg4.block (w.heap.size + 1) HR3.out.lt (fun e => by injection e with e; omega)).trans HR3.out
  have HW4 : Hid (WB w4 (w.heap.size + 2) 127 (wordsTo 64 l 0)) := by
    show _ = _
    rw [h4, HZ.out, ← wordsTo_zero l]
  clear h4 hg4 HB3 HS3 HR3 HW3 HE3 HBT HSZ HONE HOLD HZ
  go_wp2_with fail
  go_loopw [6] (fun i wr => ∃ k : Nat, k ≤ 16 ∧ i = .int .i64 k ∧ WB wr (w.heap.size + 2) 127 (wordsTo 64 l k) ∧ Below (w.heap.size + 2) w4 wr) (fun i _ => 16 - (intOf i).toNat)
  case atStart => exact ⟨0, by omega, rfl, HW4.out, Below.refl _ _⟩
  case round =>
    clear HW4
    obtain ⟨k, hk, rfl, hw, hb⟩ := hrel
    have HW := Lib.hid hw
    have HB := Lib.hid hb
    have hBr : Below w.heap.size w wr := HB4.out.trans (hb.mono (by omega))
    have HBr := Lib.hid hBr
    by_cases hlt : k < 16
    · have a0 := byte_at HC hbB hBr (4 * k) (by have := HL.out; omega)
      have a1 := byte_at HC hbB hBr (4 * k + 1) (by have := HL.out; omega)
      have a2 := byte_at HC hbB hBr (4 * k + 2) (by have := HL.out; omega)
      have a3 := byte_at HC hbB hBr (4 * k + 3) (by have := HL.out; omega)
      rw [← Nat.add_assoc] at a1 a2 a3
      have b0 := byte_le l (4 * k)
      have b1 := byte_le l (4 * k + 1)
      have b2 := byte_le l (4 * k + 2)
      have b3 := byte_le l (4 * k + 3)
      have HX : Hid (wordAt l k = uword (l.getD (4 * k) 0).toNat (l.getD (4 * k + 1) 0).toNat (l.getD (4 * k + 2) 0).toNat (l.getD (4 * k + 3) 0).toNat) := Lib.hid rfl
      generalize (l.getD (4 * k) 0).toNat = x0 at *
      generalize (l.getD (4 * k + 1) 0).toNat = x1 at *
      generalize (l.getD (4 * k + 2) 0).toNat = x2 at *
      generalize (l.getD (4 * k + 3) 0).toNat = x3 at *
      have HWD := Lib.hid (refWord b (o + 4 * k) 4 (cap - 4 * k) x0 x1 x2 x3 wr (by omega) (by unfold maxLen; omega) a0 a1 a2 a3 b0 b1 b2 b3)
      have hs := hw.cell k (by rw [wordsTo_len]; omega)
      rw [wordsTo_get, if_neg (by omega)] at hs
      have hf := hw.frozen k
      have he : 4 * k + 4 - 4 * k = 4 := by omega
      have hne : ¬ cap = 4 * k := by omega
      have hHS := Lib.hid hs
      have hHF := Lib.hid hf
      clear hw hb a0 a1 a2 a3 b0 b1 b2 b3 hBr hs hf
      go_wp2_with fail
      refine HWD.out.mono ?_
      rintro e w5 ⟨rfl, q, hw5⟩
      have hs5 : w5.cell? ⟨w.heap.size + 2, k, none⟩ = some (.int .u32 ((0 : Nat) : Int)) := by rw [hw5]; exact hHS.out
      have hf5 : w5.frozen? ⟨w.heap.size + 2, k, none⟩ = false := by rw [hw5]; exact hHF.out
      have HW5 : Hid (WB w5 (w.heap.size + 2) 127 (wordsTo 64 l k)) := by show _ = _; rw [hw5]; exact HW.out.drewN q
      have HB5 : Hid (Below (w.heap.size + 2) w4 w5) := by have h := below_dN HB.out q; rw [← hw5] at h; exact Lib.hid h
      have hk64 : (k : Int) < 64 := by omega
      have hk0 : (0 : Int) ≤ (k : Int) := by omega
      clear hw5 hHS hHF HWD HW HB HBr
      go_wp2_with fail
      go_roundw
      case rel =>
        refine ⟨k + 1, by omega, by go_num, ?_, HB5.out.setCell (Nat.le_refl _) _⟩
        rw [← HX.out, ← wordsTo_set]
        exact HW5.out.set_ k _
      case measure => simp [intOf]; omega
    · obtain rfl : k = 16 := by omega
      rw [wordsTo_sch] at HW
      have hwl : (wordsOf l).length = 16 := wordsOf_len l
      have HWL := Lib.hid hwl
      generalize hws : wordsOf l = ws at *
      have HWS := Lib.hid hws
      clear hws
      clear hw hb hBr hlt hk
      go_wp2_with fail
      rw [show ((16 : Nat) : Int) = 16 from rfl]
      go_loopw [7] (fun i wr => ∃ k : Nat, k ≤ 48 ∧ i = .int .i64 ((k + 16 : Nat) : Int) ∧ WB wr (w.heap.size + 2) 127 (schN ws k) ∧ Below (w.heap.size + 2) w4 wr) (fun i _ => 64 - (intOf i).toNat)
      case atStart => exact ⟨0, by omega, rfl, HW.out, HB.out⟩
      case round =>
        clear HW HB HBr
        obtain ⟨k, hk, rfl, hw, hb⟩ := hrel
        have hlen := schN_len ws HWL.out k
        have HX := Lib.hid (schN_at ws k (k + 16) rfl)
        have HW := Lib.hid hw
        have HB := Lib.hid hb
        by_cases hlt : k < 48
        · obtain ⟨t, ht⟩ : ∃ t, t = k + 16 := ⟨_, rfl⟩
          have c16 := hw.cellD (t - 16) (by omega)
          have c15 := hw.cellD (t - 15) (by omega)
          have c7 := hw.cellD (t - 7) (by omega)
          have c2 := hw.cellD (t - 2) (by omega)
          have ct := hw.cellD t (by omega)
          have cf := hw.frozen t
          rw [← ht] at HX ⊢
          generalize (schN ws k).getD (t - 16) 0 = x16 at *
          generalize (schN ws k).getD (t - 15) 0 = x15 at *
          generalize (schN ws k).getD (t - 7) 0 = x7 at *
          generalize (schN ws k).getD (t - 2) 0 = x2 at *
          generalize (schN ws k).getD t 0 = xt at *
          have h16 : 16 ≤ t := by omega
          have h64 : t < 64 := by omega
          have HK := Lib.hid ht
          clear hw hb hk hlt ht hlen
          have s16 : IntKind.i64.wrap ((t : Int) - 16) = (t : Int) - 16 := IntWalk.i64_in _ (by omega)
          have s15 : IntKind.i64.wrap ((t : Int) - 15) = (t : Int) - 15 := IntWalk.i64_in _ (by omega)
          have s7 : IntKind.i64.wrap ((t : Int) - 7) = (t : Int) - 7 := IntWalk.i64_in _ (by omega)
          have s2 : IntKind.i64.wrap ((t : Int) - 2) = (t : Int) - 2 := IntWalk.i64_in _ (by omega)
          have z16 : (0 : Int) ≤ (t : Int) - 16 := by omega
          have z15 : (0 : Int) ≤ (t : Int) - 15 := by omega
          have z7 : (0 : Int) ≤ (t : Int) - 7 := by omega
          have z2 : (0 : Int) ≤ (t : Int) - 2 := by omega
          have i16 : (16 : Int) ≤ (t : Int) := by omega
          have i15 : (15 : Int) ≤ (t : Int) := by omega
          have i7 : (7 : Int) ≤ (t : Int) := by omega
          have i2 : (2 : Int) ≤ (t : Int) := by omega
          have y16 : (t : Int) - 16 < 64 := by omega
          have y15 : (t : Int) - 15 < 64 := by omega
          have y7 : (t : Int) - 7 < 64 := by omega
          have y2 : (t : Int) - 2 < 64 := by omega
          have n16 : ((t : Int) - 16).toNat = t - 16 := by omega
          have n15 : ((t : Int) - 15).toNat = t - 15 := by omega
          have n7 : ((t : Int) - 7).toNat = t - 7 := by omega
          have n2 : ((t : Int) - 2).toNat = t - 2 := by omega
          have u1 := u_add
          have u2 := w_xor
          have u3 := w_shr3 x15
          have u4 := w_shr10 x2
          have hS : wr.cell? ⟨w.heap.size + 2, t - 16, none⟩ = some (.int .u32 (x16 : Int)) ∧ wr.cell? ⟨w.heap.size + 2, t - 7, none⟩ = some (.int .u32 (x7 : Int)) := ⟨c16, c7⟩
          have hT1 : ∀ n, (wr.drewN n).cell? ⟨w.heap.size + 1 + 1, t, none⟩ = some (.int .u32 (xt : Int)) := fun _ => ct
          have hT2 : ∀ n, (wr.drewN n).frozen? ⟨w.heap.size + 1 + 1, t, none⟩ = false := fun _ => cf
          clear c16 c7 ct cf
          go_wp2_with fail
          go_region_held3 (fun w' => w'.cell? ⟨w.heap.size + 2, t - 16, none⟩ = some (.int .u32 (x16 : Int)) ∧ w'.cell? ⟨w.heap.size + 2, t - 7, none⟩ = some (.int .u32 (x7 : Int)))
            (first
              | exact hS
              | exact ⟨(World.cell?_setCell_other _ _ _ _ (by intro h; injection h with h1 h2; omega)).trans hS.1, (World.cell?_setCell_other _ _ _ _ (by intro h; injection h with h1 h2; omega)).trans hS.2⟩)
            (first
              | (go_at_call 119; (with_reducible show Calls _ _ #[Value.int IntKind.u32 (x15 : Int), Value.int IntKind.i64 7] _ _); refine (refRor x15 7 _ rfl (by decide) (by decide) _).mono ?_; rintro e w' ⟨rfl, q, rfl⟩)
              | (go_at_call 119; (with_reducible show Calls _ _ #[Value.int IntKind.u32 (x15 : Int), Value.int IntKind.i64 18] _ _); refine (refRor x15 18 _ rfl (by decide) (by decide) _).mono ?_; rintro e w' ⟨rfl, q, rfl⟩)
              | (go_at_call 119; (with_reducible show Calls _ _ #[Value.int IntKind.u32 (x2 : Int), Value.int IntKind.i64 17] _ _); refine (refRor x2 17 _ rfl (by decide) (by decide) _).mono ?_; rintro e w' ⟨rfl, q, rfl⟩)
              | (go_at_call 119; (with_reducible show Calls _ _ #[Value.int IntKind.u32 (x2 : Int), Value.int IntKind.i64 19] _ _); refine (refRor x2 19 _ rfl (by decide) (by decide) _).mono ?_; rintro e w' ⟨rfl, q, rfl⟩))
          go_wp2_with fail
          go_roundw
          case rel =>
            refine ⟨k + 1, by have := HK.out; omega, by rw [HK.out]; go_num, ?_, (below_dN HB.out _).setCell (Nat.le_refl _) _⟩
            rw [HX.out]
            exact (HW.out.drewN _).set_ t _
          case measure => simp [intOf]; omega
        · obtain rfl : k = 48 := by omega
          clear hw hb hk hlt
          have HSC : Hid (schN ws 48 = sched ws) := Lib.hid rfl
          have hBr : Below w.heap.size w wr := HB4.out.trans (HB.out.mono (by omega))
          have HBr := Lib.hid hBr
          have HSr := Lib.hid (HS4.out.below HB.out (by omega))
          have HRr := Lib.hid (HR4.out.below HB.out (by omega))
          have HKSZ : Hid ((Tryz.prog.info? 127).map (·.size) = some (wv kNums).size) := by show _ = _; kernel_rfl
          obtain ⟨KN, hKN⟩ : ∃ KN, KN = wv kNums := ⟨_, rfl⟩
          have HKN := Lib.hid hKN
          have HKO : Hid ((wv (List.replicate 64 0)).size = KN.size) := by show _ = _; rw [hKN]; rfl
          have HK1 : Hid (KN.all (·.oneCell') = true) := by show _ = _; rw [hKN]; exact wv_one _
          have HNM := Lib.hid (fun W => refNumbers W)
          rw [← hKN] at HNM HKSZ
          clear hBr hKN
          go_wp2_with fail
          refine (HNM.out _).mono ?_
          rintro e w5 ⟨rfl, hb5⟩
          have HB5 := Lib.hid (HBr.out.trans (hb5.mono HBr.out.size))
          have HS5 := Lib.hid (HSr.out.below hb5 HSr.out.lt)
          have HR5 := Lib.hid (HRr.out.below hb5 HRr.out.lt)
          have HW5 := Lib.hid (HW.out.below hb5 HW.out.lt)
          clear hb5 HB HBr HSr HRr HW
          go_wp2_with (change wpList _ _ _ _ _ (w5.alloc (.cells (wv (List.replicate 64 0)) 127)); refine wpList_storeA rfl 127 (.tmp 10) (.tmp 78) rfl w5.heap.size KN rfl rfl 127 _ (heap_alloc_new w5 _) HKSZ.out HKO.out HK1.out ?_)
          intro w6 h6 hg6
          have hB6 : Below w5.heap.size w5 w6 := grown_below ((Below.refl _ _).alloc (Nat.le_refl _) _) hg6 (Nat.le_refl _) (by simp)
          have HB6 := Lib.hid (HB5.out.trans (hB6.mono HB5.out.size))
          have HS6 := Lib.hid (HS5.out.below hB6 HS5.out.lt)
          have HR6 := Lib.hid (HR5.out.below hB6 HR5.out.lt)
          have HW6 := Lib.hid (HW5.out.below hB6 HW5.out.lt)
          have HK6 : Hid (WB w6 w5.heap.size 127 kNums) := by show _ = _; rw [h6, HKN.out]
          rw [HSC.out] at HW6
          clear h6 hg6 hB6 HB5 HS5 HR5 HW5 HKSZ HKO HK1 HNM HSC
          obtain ⟨W, hW⟩ : ∃ W, W = sched ws := ⟨_, rfl⟩
          have hWl : W.length = 64 := by rw [hW]; exact schN_len ws HWL.out 48
          have HWl := Lib.hid hWl
          rw [← hW] at HW6
          have HWW := Lib.hid hW
          clear hW hWl
          have c0 := HS6.out.cellD 0 (by rw [HST.out]; decide)
          have c1 := HS6.out.cellD 1 (by rw [HST.out]; decide)
          have c2 := HS6.out.cellD 2 (by rw [HST.out]; decide)
          have c3 := HS6.out.cellD 3 (by rw [HST.out]; decide)
          have c4 := HS6.out.cellD 4 (by rw [HST.out]; decide)
          have c5 := HS6.out.cellD 5 (by rw [HST.out]; decide)
          have c6 := HS6.out.cellD 6 (by rw [HST.out]; decide)
          have c7 := HS6.out.cellD 7 (by rw [HST.out]; decide)
          have HS : Hid (rnds W (ofL st) 0 = ⟨st.getD 0 0, st.getD 1 0, st.getD 2 0, st.getD 3 0, st.getD 4 0, st.getD 5 0, st.getD 6 0, st.getD 7 0⟩) := Lib.hid rfl
          have HX8 : Hid (st = [st.getD 0 0, st.getD 1 0, st.getD 2 0, st.getD 3 0, st.getD 4 0, st.getD 5 0, st.getD 6 0, st.getD 7 0]) := by
            show _ = _
            apply List.ext_getElem
            · rw [HST.out]; rfl
            · intro i h1 h2
              have h3 : i < 8 := by rw [HST.out] at h1; exact h1
              have : i = 0 ∨ i = 1 ∨ i = 2 ∨ i = 3 ∨ i = 4 ∨ i = 5 ∨ i = 6 ∨ i = 7 := by omega
              rcases this with rfl | rfl | rfl | rfl | rfl | rfl | rfl | rfl <;> simp [List.getD, h1]
          generalize st.getD 0 0 = x0 at *
          generalize st.getD 1 0 = x1 at *
          generalize st.getD 2 0 = x2 at *
          generalize st.getD 3 0 = x3 at *
          generalize st.getD 4 0 = x4 at *
          generalize st.getD 5 0 = x5 at *
          generalize st.getD 6 0 = x6 at *
          generalize st.getD 7 0 = x7 at *
          go_wp2_with fail
          go_quiet (fail)
          clear c0 c1 c2 c3 c4 c5 c6 c7
          go_wp2_with fail
          go_loopw [11, 12, 13, 14, 15, 16, 17, 18, 19] (fun a b c d e f g h i wr => ∃ k : Nat, k ≤ 64 ∧ i = .int .i64 k ∧ ∃ s : S8, Hid (rnds W (ofL st) k = s) ∧ a = .int .u32 s.a ∧ b = .int .u32 s.b ∧ c = .int .u32 s.c ∧ d = .int .u32 s.d ∧ e = .int .u32 s.e ∧ f = .int .u32 s.f ∧ g = .int .u32 s.g ∧ h = .int .u32 s.h ∧ ∃ n, wr = w6.drewN n) (fun _ _ _ _ _ _ _ _ i _ => 64 - (intOf i).toNat)
          case atStart => exact ⟨0, by omega, rfl, _, HS, rfl, rfl, rfl, rfl, rfl, rfl, rfl, rfl, _, rfl⟩
          case round =>
            obtain ⟨k, hk, rfl, ⟨xa, xb, xc, xd, xe, xf, xg, xh⟩, HSK, rfl, rfl, rfl, rfl, rfl, rfl, rfl, rfl, hwr⟩ := hrel
            have HWR := Lib.hid hwr
            clear hwr
            by_cases hlt : k < 64
            · have g0 : decide ((k : Int) < 64) = true := decide_eq_true (by omega)
              have ck : wr.cell? ⟨w5.heap.size, k, none⟩ = some (.int .u32 (kNums.getD k 0 : Nat)) := by obtain ⟨n, rfl⟩ := HWR.out; exact HK6.out.cellD k hlt
              have cw : wr.cell? ⟨w.heap.size + 1 + 1, k, none⟩ = some (.int .u32 (W.getD k 0 : Nat)) := by obtain ⟨n, rfl⟩ := HWR.out; exact HW6.out.cellD k (by rw [HWl.out]; exact hlt)
              have HX : Hid (rnds W (ofL st) (k + 1) = rnd ⟨xa, xb, xc, xd, xe, xf, xg, xh⟩ (kNums.getD k 0) (W.getD k 0)) := by show _ = _; rw [← HSK.out]; rfl
              generalize kNums.getD k 0 = xk at *
              generalize W.getD k 0 = xw at *
              go_wp2_with fail
              refine wp_region_quiet_lit (by kernel_rfl) (by kernel_rfl) ?_
              iterate 2 (go_big_quiet_step (fail))
              go_big_quiet_step ((go_at_call 119; exact Calls.quiet_of (refRor xe 6 _ rfl (by decide) (by decide) _)))
              go_big_quiet_step (fail)
              go_big_quiet_step ((go_at_call 119; exact Calls.quiet_of (refRor xe 11 _ rfl (by decide) (by decide) _)))
              iterate 2 (go_big_quiet_step (fail))
              go_big_quiet_step ((go_at_call 119; exact Calls.quiet_of (refRor xe 25 _ rfl (by decide) (by decide) _)))
              iterate 20 (go_big_quiet_step (fail))
              refine wpQuiet_nil ?_
              intro wq1 hq1
              have HQ1 := Lib.hid hq1
              clear hq1
              rename_i K0 hK0
              refine hK0 _ _ ?_
              clear hK0 ck cw
              refine wp_seq_k (fun K1 hK1 => ?_)
              refine wp_region_plain_quiet 21 ?_
              dsimp only [List.take, List.drop]
              go_big_quiet_step (fail)
              go_big_quiet_step ((go_at_call 119; exact Calls.quiet_of (refRor xa 2 _ rfl (by decide) (by decide) _)))
              go_big_quiet_step (fail)
              go_big_quiet_step ((go_at_call 119; exact Calls.quiet_of (refRor xa 13 _ rfl (by decide) (by decide) _)))
              iterate 2 (go_big_quiet_step (fail))
              go_big_quiet_step ((go_at_call 119; exact Calls.quiet_of (refRor xa 22 _ rfl (by decide) (by decide) _)))
              iterate 14 (go_big_quiet_step (fail))
              refine wpQuiet_nil ?_
              intro wq2 hq2
              have HQ2 := Lib.hid hq2
              clear hq2
              refine wpList_nil ?_
              refine hK1 _ _ ?_
              clear hK1
              refine wp_region_plain_quiet 20 ?_
              dsimp only [List.take, List.drop]
              iterate 20 (go_big_quiet_step (fail))
              refine wpQuiet_nil ?_
              intro wq3 hq3
              have HQ3 := Lib.hid hq3
              clear hq3
              refine wpList_nil ?_
              go_wp2_with fail
              go_roundw
              case rel =>
                obtain ⟨n, rfl⟩ := HWR.out
                obtain ⟨nq, rfl⟩ := HQ1.out
                obtain ⟨nq2, rfl⟩ := HQ2.out
                obtain ⟨nq3, rfl⟩ := HQ3.out
                have hif : (if IntKind.u32.signed = true then (-1 : Int) else IntKind.u32.max) = IntKind.u32.max := rfl
                refine ⟨k + 1, by omega, by go_num, _, HX, ?_, rfl, rfl, rfl, ?_, rfl, rfl, rfl, n + nq + nq2 + nq3, by simp only [World.drewN_drewN, Nat.add_assoc]⟩
                · simp only [hif, w_not, w_xor, w_and, w_add5, w_add]; rfl
                · simp only [hif, w_not, w_xor, w_and, w_add5, w_add]; rfl
              case measure => simp [intOf]; omega
            · obtain rfl : k = 64 := by omega
              have g0 : decide (((64 : Nat) : Int) < 64) = false := by decide
              have HSt := (by obtain ⟨n, rfl⟩ := HWR.out; exact Lib.hid HS6.out : Hid (WB wr w.heap.size 110 st))
              have HRt := (by obtain ⟨n, rfl⟩ := HWR.out; exact Lib.hid HR6.out : Hid (WB wr (w.heap.size + 1) 110 (List.replicate 8 0)))
              have HBt := (by obtain ⟨n, rfl⟩ := HWR.out; exact Lib.hid (below_drewN HB6.out n) : Hid (Below w.heap.size w wr))
              have HC8 : Hid (comp st ws = addTo st (toL ⟨xa, xb, xc, xd, xe, xf, xg, xh⟩) 8) := by show _ = _; rw [← HSK.out, HWW.out]; rfl
              have d0 := HSt.out.cellD 0 (by rw [HST.out]; decide)
              have d1 := HSt.out.cellD 1 (by rw [HST.out]; decide)
              have d2 := HSt.out.cellD 2 (by rw [HST.out]; decide)
              have d3 := HSt.out.cellD 3 (by rw [HST.out]; decide)
              have d4 := HSt.out.cellD 4 (by rw [HST.out]; decide)
              have d5 := HSt.out.cellD 5 (by rw [HST.out]; decide)
              have d6 := HSt.out.cellD 6 (by rw [HST.out]; decide)
              have d7 := HSt.out.cellD 7 (by rw [HST.out]; decide)
              rw [HX8.out] at d0 d1 d2 d3 d4 d5 d6 d7
              simp only [List.getD_cons_zero, List.getD_cons_succ] at d0 d1 d2 d3 d4 d5 d6 d7
              clear HB4 HS4 HR4 HB6 HS6 HR6 HK6 HW6 HS HSK HWR hlt
              rename_i K1 hK1
              have HK1 := Lib.hid hK1
              clear hK1
              go_wp2_with fail
              refine HK1.out _ _ ?_
              clear HK1
              refine wp_seq_k (fun K2 hK2 => ?_)
              refine wp_region_plain_quiet 32 ?_
              dsimp only [List.take, List.drop]
              iterate 32 (go_big_quiet_step (fail))
              refine wpQuiet_nil ?_
              intro w20 hw20
              have HQ := Lib.hid hw20
              clear hw20
              clear d0 d1 d2 d3 d4 d5 d6 d7
              have HS20 := (by obtain ⟨n, rfl⟩ := HQ.out; exact Lib.hid HRt.out : Hid (WB w20 (w.heap.size + 1) 110 (List.replicate 8 0)))
              have HB20 := (by obtain ⟨n, rfl⟩ := HQ.out; exact Lib.hid (below_drewN HBt.out n) : Hid (Below w.heap.size w w20))
              have HY : Hid (comp st ws = [uadd x0 xa, uadd x1 xb, uadd x2 xc, uadd x3 xd, uadd x4 xe, uadd x5 xf, uadd x6 xg, uadd x7 xh]) := by show _ = _; rw [HC8.out, HX8.out]; rfl
              simp only [w_add]
              generalize uadd x0 xa = y0 at *
              generalize uadd x1 xb = y1 at *
              generalize uadd x2 xc = y2 at *
              generalize uadd x3 xd = y3 at *
              generalize uadd x4 xe = y4 at *
              generalize uadd x5 xf = y5 at *
              generalize uadd x6 xg = y6 at *
              generalize uadd x7 xh = y7 at *
              obtain ⟨ZZ, hZZ⟩ : ∃ ZZ, ZZ = wv [y0, y1, y2, y3, y4, y5, y6, y7] := ⟨_, rfl⟩
              have HZZ := Lib.hid hZZ
              have HBB8 : Hid (Tryz.prog.built 110 [(0, .int .u32 (y0 : Int)), (1, .int .u32 (y1 : Int)), (2, .int .u32 (y2 : Int)), (3, .int .u32 (y3 : Int)), (4, .int .u32 (y4 : Int)), (5, .int .u32 (y5 : Int)), (6, .int .u32 (y6 : Int)), (7, .int .u32 (y7 : Int))] = some ZZ) := by show _ = _; rw [hZZ]; kernel_rfl
              have HSZ8 : Hid ((Tryz.prog.info? 110).map (·.size) = some ZZ.size) := by show _ = _; rw [hZZ]; kernel_rfl
              have HON8 : Hid (ZZ.all (·.oneCell') = true) := by show _ = _; rw [hZZ]; exact wv_one _
              have HOL8 : Hid ((wv (List.replicate 8 0)).size = ZZ.size) := by show _ = _; rw [hZZ]; rfl
              clear hZZ
              refine wpList_built rfl 110 _ rfl [(0, .int .u32 (y0 : Int)), (1, .int .u32 (y1 : Int)), (2, .int .u32 (y2 : Int)), (3, .int .u32 (y3 : Int)), (4, .int .u32 (y4 : Int)), (5, .int .u32 (y5 : Int)), (6, .int .u32 (y6 : Int)), (7, .int .u32 (y7 : Int))] ?_ ZZ HBB8.out ?_
              · kernel_rfl
              refine wpList_storeA rfl 110 (.tmp 4) (.tmp 190) rfl (w.heap.size + 1) ZZ rfl rfl 110 _ HS20.out HSZ8.out HOL8.out HON8.out ?_
              intro w21 h21 hg21
              refine wpList_nil ?_
              refine hK2 _ _ ?_
              clear hK2
              go_wp2_with fail
              refine bodyPost_ret (v := .agg ZZ) ?_ rfl ⟨by rw [HWS.out, HY.out, HZZ.out], grown_below HB20.out hg21 (Nat.le_succ _) HB20.out.size⟩
              exact results_cell_row rfl _ _ (w.heap.size + 1) 110 _ (0, 0) _ rfl h21 Tryz.underlying110 rfl HSZ8.out
end Go.Proofs.YteigldfdaciopaaGreatDoor

namespace Go.Proofs.YteigldfdaciopaaGreatDoor
open Go.RowKit
set_option linter.unusedVariables false
set_option linter.unusedSimpArgs false

theorem stN_next (m : List UInt8) (k : Nat) : stN m (k + 1) = comp (stN m k) (wordsOf ((m.drop (64 * k)).take 64)) := rfl

theorem slice_mid (g o L cp n : Nat) (h : n + 64 ≤ L) (hL : L ≤ cp) (W : World) : (Instr.slice 66 (.slice (some ⟨g, o, none⟩) L cp) (some (.int .i64 (n : Int))) (some (.int .i64 ((n : Int) + 64))) none).run Tryz.prog W = .ok (.slice (some ⟨g, o + n, none⟩) 64 (cp - n)) W := by
  rw [run_slice_lh (P := Tryz.prog) W 66 (some ⟨g, o, none⟩) L cp (by kernel_rfl) .i64 .i64 (n : Int) ((n : Int) + 64) (by omega) (by omega) (by omega)]
  have hz : (sizeOf (Tryz.prog.elem 66)).run Tryz.prog W = .ok 1 W := by kernel_rfl
  rw [hz]
  have h4 : ¬ (cp = n) := by omega
  have h5 : ((n : Int) + 64).toNat - n = 64 := by omega
  simp [Result.andThen, sliced, h4, h5, Addr.add]

set_option maxRecDepth 100000 in
set_option maxHeartbeats 6400000 in
theorem refSum (a : Option Addr) (cap : Nat) (l : List UInt8) (w : World) (hl : RdB w.heap.size w a l) (hcap : l.length ≤ cap) (hc2 : cap ≤ maxLen) (hnil : a = none → cap = 0) (hn : l.length ≤ 70368744177664) :
    Calls Tryz.prog 88 #[.slice a l.length cap] w fun e w' => e = .returned (.agg (bvA (sha l))) ∧ Below w.heap.size w w' := by
  have HL := Lib.hid hl
  have HN := Lib.hid hnil
  clear hl hnil
  obtain ⟨Z, hZ⟩ : ∃ Z, Z = wv hNums := ⟨_, rfl⟩
  have HZ := Lib.hid hZ
  have HSZ : Hid ((Tryz.prog.info? 110).map (·.size) = some Z.size) := by show _ = _; rw [hZ]; kernel_rfl
  have HONE : Hid (Z.all (·.oneCell') = true) := by show _ = _; rw [hZ]; exact wv_one _
  have HOLD : Hid ((wv (List.replicate 8 0)).size = Z.size) := by show _ = _; rw [hZ]; rfl
  clear hZ
  go_enter Tryz.func88, Tryz.ntmps88
  go_wp2_with (first
    | ((with_reducible show wpList _ _ _ (({ dst := some 8, op := _, type := _, pos := _, after := _, guard := _ } : Oper) :: _) _ _); go_must (refine wpList_built rfl 110 _ rfl _ rfl Z (by rw [HZ.out]; kernel_rfl) ?_))
    | (refine wpList_storeA rfl 110 (.tmp 3) (.tmp 8) rfl (w.heap.size + 1) Z rfl rfl 110 _ (heap_alloc2_new w _ (.cells (wv (List.replicate 8 0)) 110)) HSZ.out HOLD.out HONE.out ?_))
  intro w1 h1 hg1
  have hB1 : Below w.heap.size w w1 := grown_below (((Below.refl _ _).alloc (Nat.le_refl _) _).alloc (by simp) _) hg1 (Nat.le_succ _) (by simp; omega)
  have hO1 : BB w1 w.heap.size 69 (List.replicate 32 0) := (hg1.block w.heap.size (by simp; omega) (fun e => by injection e with e; omega)).trans (heap_alloc2_old w _ _)
  have hS1 : WB w1 (w.heap.size + 1) 110 hNums := by show _ = _; rw [h1, HZ.out]
  have HB1 := Lib.hid hB1
  have HO1 := Lib.hid hO1
  have HS1 := Lib.hid hS1
  clear h1 hg1 hB1 hO1 hS1 HSZ HONE HOLD HZ
  go_wp2_with fail
  refine (refPadded a cap l w1 ((HL.out.below HB1.out).mono HB1.out.size) hcap hc2 HN.out hn).mono ?_
  rintro e w2 ⟨v, rfl, ho, hb2⟩
  obtain ⟨ap, cp, rfl, hfm, hcp, hrd⟩ := ho.form
  have hcaps := ho.caps
  obtain ⟨M, hM⟩ : ∃ M, M = l ++ padB l.length := ⟨_, rfl⟩
  have hMl : M.length = 64 * (M.length / 64) := by
    have h := pad_mod l.length
    rw [hM, List.length_append, padB_len]; omega
  have hSH : sha l = outTo (stN M (M.length / 64)) 32 := by rw [hM]; rfl
  have hM0 : M ≠ [] := by rw [hM]; intro h; have := congrArg List.length h; rw [List.length_append, padB_len] at this; simp at this
  rw [← hM] at hrd hcaps hcp ⊢
  obtain ⟨q, hq⟩ : ∃ q, M.length / 64 = q := ⟨_, rfl⟩
  rw [hq] at hMl hSH
  have HSH := Lib.hid hSH
  have HMl := Lib.hid hMl
  obtain ⟨g, o, rfl, hgB, hcell⟩ : ∃ g o, ap = some ⟨g, o, none⟩ ∧ g < w2.heap.size ∧ ∀ j (h : j < M.length), w2.cell? ⟨g, o + j, none⟩ = some (bv M[j]) := by
    rcases hrd with h | h
    · exact absurd h hM0
    · exact h
  have HC := Lib.hid hcell
  have HGN : Hid (g ≠ w.heap.size + 1) := by
    rcases hfm with ⟨h1, _⟩ | ⟨g', h1, h2, _⟩
    · cases h1
    · injection h1 with h1; injection h1 with h1 _; show _ ≠ _; have := HS1.out.lt; omega
  have HB2 := Lib.hid (HB1.out.trans (hb2.mono HB1.out.size))
  have HO2 := Lib.hid (HO1.out.below hb2 HO1.out.lt)
  have HS2 := Lib.hid (HS1.out.below hb2 HS1.out.lt)
  clear hb2 ho hfm hrd hcell hM hSH hMl hq hM0 HO1 HS1 HB1
  rw [HMl.out] at hcp hcaps ⊢
  obtain ⟨hcq, hcm⟩ := hcaps
  unfold maxLen at hcp hcm hc2
  go_wp2_with fail
  go_loopw [5] (fun i wr => ∃ k : Nat, k ≤ q ∧ i = .int .i64 ((64 * k : Nat) : Int) ∧ BB wr w.heap.size 69 (List.replicate 32 0) ∧ WB wr (w.heap.size + 1) 110 (stN M k) ∧ Below w.heap.size w wr ∧ ∀ j (h : j < M.length), wr.cell? ⟨g, o + j, none⟩ = some (bv M[j])) (fun i _ => 64 * q - (intOf i).toNat)
  case atStart => exact ⟨0, Nat.zero_le _, rfl, HO2.out, HS2.out, HB2.out, HC.out⟩
  case round =>
    clear HO2 HS2 HB2 HC
    obtain ⟨k, hk, rfl, hO, hS, hB, hC⟩ := hrel
    have HO := Lib.hid hO
    have HS := Lib.hid hS
    have HB := Lib.hid hB
    have HC := Lib.hid hC
    clear hO hS hB hC
    by_cases hlt : k < q
    · obtain ⟨n, hn64⟩ : ∃ n, 64 * k = n := ⟨_, rfl⟩
      have HN64 := Lib.hid hn64
      have hnq : n + 64 ≤ 64 * q := by omega
      rw [hn64]
      clear hn64
      have f1 : decide ((n : Int) < ((64 * q : Nat) : Int)) = true := decide_eq_true (by omega)
      have hwn : IntKind.i64.wrap ((n : Int) + 64) = (n : Int) + 64 := by rw [IntKind.wrap_i64]; omega
      have hsl := slice_mid g o (64 * q) cp n hnq hcq
      have hst8 : (stN M k).length = 8 := stN_len M k
      obtain ⟨st, hst⟩ : ∃ st, stN M k = st := ⟨_, rfl⟩
      have HST := Lib.hid hst
      rw [hst] at HS hst8
      obtain ⟨B, hBk⟩ : ∃ B, (M.drop n).take 64 = B := ⟨_, rfl⟩
      have hBl : B.length = 64 := by rw [← hBk, List.length_take, List.length_drop, HMl.out]; omega
      have hnx : stN M (k + 1) = comp st (wordsOf B) := by rw [stN_next, hst, HN64.out, hBk]
      have HNX := Lib.hid hnx
      have hrB : ∀ W, Below wr.heap.size wr W → RdB W.heap.size W (some ⟨g, o + n, none⟩) B := fun W hW => by
        refine ⟨by rw [hBl]; unfold maxLen; omega, .inr ⟨g, o + n, rfl, ?_, fun j hj => ?_⟩⟩
        · have h1 := HC.out 0 (by rw [HMl.out]; omega)
          exact Nat.lt_of_lt_of_le (World.block_lt_of_cell? wr _ h1) hW.size
        · have hj2 : n + j < M.length := by rw [HMl.out]; omega
          have h1 := HC.out (n + j) hj2
          have h2 := World.block_lt_of_cell? wr _ h1
          have e : B[j] = M[n + j] := by simp [← hBk]
          rw [Nat.add_assoc, hW.cell (p := ⟨g, o + (n + j), none⟩) h2, h1, e]
      have cb := fun W (hW : Below wr.heap.size wr W) => refBlock st hst8 g (o + n) (cp - n) B W hBl (hrB W hW) (by omega) (by unfold maxLen; omega)
      rw [← hnx] at cb
      have hnl : (stN M (k + 1)).length = 8 := stN_len M _
      clear hst hBk hrB hnx
      obtain ⟨st', hst'⟩ : ∃ st', stN M (k + 1) = st' := ⟨_, rfl⟩
      rw [hst'] at cb hnl
      have HST' := Lib.hid hst'
      have HCB := Lib.hid cb
      have hsz8 : (Tryz.prog.info? 110).map (·.size) = some (wv st').size := by rw [wv_size, hnl]; kernel_rfl
      have hold8 : (wv st).size = (wv st').size := by rw [wv_size, wv_size, hst8, hnl]
      have hszL : (Tryz.prog.info? 110).map (·.size) = some (wv st).size := by rw [wv_size, hst8]; kernel_rfl
      have H8 := Lib.hid hsz8; have H8O := Lib.hid hold8; have H8L := Lib.hid hszL
      clear cb hst' hnl hst8 hsz8 hold8 hszL hcp hcm hc2
      go_wp2_with fail
      refine wp_region_held_drew (S := fun _ => True) (by kernel_rfl) trivial (fun hHeld => ?_)
      refine wpAnyH_take (i := 1) (v := .slice (some ⟨g, o, none⟩) (64 * q) cp) rfl (by kernel_rfl) (by kernel_rfl) (by kernel_rfl) (fun _ _ _ h => h) (Or.inl ⟨by rfl, fun w _ => by go_simp⟩) hHeld ?_
      simp only [Act.put, List.getElem_toArray, List.getElem_cons_zero, List.getElem_cons_succ, List.setIfInBounds_toArray, List.set_cons_zero, List.set_cons_succ]
      refine wpAnyH_take (i := 2) (v := .int .i64 (n : Int)) rfl (by kernel_rfl) (by kernel_rfl) (by kernel_rfl) (fun _ _ _ h => h) (Or.inl ⟨by rfl, fun w _ => by go_simp⟩) hHeld ?_
      simp only [Act.put, List.getElem_toArray, List.getElem_cons_zero, List.getElem_cons_succ, List.setIfInBounds_toArray, List.set_cons_zero, List.set_cons_succ]
      refine wpAnyH_take (i := 3) (v := .int .i64 (n : Int)) rfl (by kernel_rfl) (by kernel_rfl) (by kernel_rfl) (fun _ _ _ h => h) (Or.inl ⟨by rfl, fun w _ => by go_simp⟩) hHeld ?_
      simp only [Act.put, List.getElem_toArray, List.getElem_cons_zero, List.getElem_cons_succ, List.setIfInBounds_toArray, List.set_cons_zero, List.set_cons_succ]
      refine wpAnyH_take (i := 4) (v := .int .i64 ((n : Int) + 64)) rfl (by kernel_rfl) (by kernel_rfl) (by kernel_rfl) (fun _ _ _ h => h) (Or.inl ⟨by rfl, fun w _ => by go_simp⟩) hHeld ?_
      simp only [Act.put, List.getElem_toArray, List.getElem_cons_zero, List.getElem_cons_succ, List.setIfInBounds_toArray, List.set_cons_zero, List.set_cons_succ]
      refine wpAnyH_take (i := 5) (v := .slice (some ⟨g, o + n, none⟩) 64 (cp - n)) rfl (by kernel_rfl) (by kernel_rfl) (by kernel_rfl) (fun _ _ _ h => h) (Or.inl ⟨by rfl, fun w _ => by go_simp⟩) hHeld ?_
      simp only [Act.put, List.getElem_toArray, List.getElem_cons_zero, List.getElem_cons_succ, List.setIfInBounds_toArray, List.set_cons_zero, List.set_cons_succ]
      refine wpAnyH_ready (rs := [0]) (by kernel_rfl) (by simp) (AllReadyH.cons rfl (fun K hK => ?_) AllReadyH.nil)
      rw [if_pos (by rfl)]
      refine wp_load_row 110 (.tmp 3) rfl (w.heap.size + 1) rfl _ (wv st) (0, 0) _ HS.out Tryz.underlying110 rfl H8L.out ?_
      refine hK.out _ _ trivial (fun hHeld => ?_)
      clear hK K
      simp only [Act.put, List.getElem_toArray, List.getElem_cons_zero, List.getElem_cons_succ, List.setIfInBounds_toArray, List.set_cons_zero, List.set_cons_succ]
      refine wpAnyH_ready (rs := [6]) (by kernel_rfl) (by simp) (AllReadyH.cons rfl (fun K hK => ?_) AllReadyH.nil)
      go_simp
      refine (HCB.out _ ((Below.refl _ _).drew)).mono ?_
      rintro e w4 ⟨rfl, hb4⟩
      try go_wp2_with fail
      refine hK.out _ _ trivial (fun hHeld => ?_)
      clear hK K
      try simp only [Act.put, List.getElem_toArray, List.getElem_cons_zero, List.getElem_cons_succ, List.setIfInBounds_toArray, List.set_cons_zero, List.set_cons_succ]
      have hb4' : Below wr.heap.size wr w4 := ((Below.refl wr.heap.size wr).drew).trans hb4
      have HS4 := Lib.hid (HS.out.below hb4' HS.out.lt)
      refine wpAnyH_ready (rs := [7]) (by kernel_rfl) (by simp) (AllReadyH.cons rfl (fun K hK => ?_) AllReadyH.nil)
      rw [if_pos (by rfl)]
      refine wp_store_row 110 (.tmp 3) (.tmp 23) rfl (w.heap.size + 1) (wv st') rfl rfl 110 _ HS4.out H8.out H8O.out (wv_one _) ?_
      refine hK.out _ _ trivial (fun hHeld => ?_)
      clear hK K
      try simp only [Act.put, List.getElem_toArray, List.getElem_cons_zero, List.getElem_cons_succ, List.setIfInBounds_toArray, List.set_cons_zero, List.set_cons_succ]
      refine wpAnyH_done (by kernel_rfl) ?_ _
      have hSn : WB (w4.setRow (w.heap.size + 1) (wv st')) (w.heap.size + 1) 110 st' := WB.setRow HS4.out _
      have hOn : BB (w4.setRow (w.heap.size + 1) (wv st')) w.heap.size 69 (List.replicate 32 0) := (setRow_other w4 (w.heap.size + 1) w.heap.size _ (by omega)).trans (HO.out.below hb4' HO.out.lt)
      have hBn : Below w.heap.size w (w4.setRow (w.heap.size + 1) (wv st')) := below_setRow (HB.out.trans (hb4'.mono HB.out.size)) (Nat.le_succ _) _
      have hCn : ∀ j (h : j < M.length), (w4.setRow (w.heap.size + 1) (wv st')).cell? ⟨g, o + j, none⟩ = some (bv M[j]) := fun j hj => by
        have h1 := HC.out j hj
        have h2 := World.block_lt_of_cell? wr _ h1
        have h3 : w4.cell? ⟨g, o + j, none⟩ = some (bv M[j]) := (hb4'.cell (p := ⟨g, o + j, none⟩) h2).trans h1
        have hne : g ≠ w.heap.size + 1 := HGN.out
        exact (World.cell?_of_block (setRow_other w4 (w.heap.size + 1) g _ hne)).trans h3
      have HSn := Lib.hid hSn; have HOn := Lib.hid hOn; have HBn := Lib.hid hBn; have HCn := Lib.hid hCn
      clear hSn hOn hBn hCn HS4 hb4 hb4' HS HO HB HC HCB H8 H8O H8L
      generalize w4.setRow (w.heap.size + 1) (wv st') = w5 at *
      go_wp2_with fail
      go_roundw
      case rel => exact ⟨k + 1, by omega, by rw [show ((64 * (k + 1) : Nat) : Int) = (n : Int) + 64 from by have := HN64.out; omega], HOn.out, by rw [HST'.out]; exact HSn.out, HBn.out, HCn.out⟩
      case measure => simp [intOf]; omega
    · obtain rfl : k = q := by omega
      have hk8 : (stN M k).length = 8 := stN_len M k
      obtain ⟨st, hst⟩ : ∃ st, stN M k = st := ⟨_, rfl⟩
      rw [hst] at HS hk8 HSH
      have HST8 := Lib.hid hk8
      clear HC hst hk8
      have f1 : decide (((64 * k : Nat) : Int) < ((64 * k : Nat) : Int)) = false := decide_eq_false (by omega)
      obtain ⟨Z2, hZ2⟩ : ∃ Z2, Z2 = bvA (outTo st 0) := ⟨_, rfl⟩
      have hZ2' : Z2 = bvA (List.replicate 32 0) := by rw [hZ2]; rfl
      have HZ2 := Lib.hid hZ2
      have HBT : Hid (Tryz.prog.built 69 [] = some Z2) := by show _ = _; rw [hZ2']; kernel_rfl
      have HSZ2 : Hid ((Tryz.prog.info? 69).map (·.size) = some Z2.size) := by show _ = _; rw [hZ2']; kernel_rfl
      have HONE2 : Hid (Z2.all (·.oneCell') = true) := by show _ = _; rw [hZ2']; exact bvA_one _
      have HOLD2 : Hid ((bvA (List.replicate 32 0)).size = Z2.size) := by show _ = _; rw [hZ2']
      clear hZ2 hZ2'
      go_wp2_with (first
        | (refine wpList_built rfl 69 #[] rfl [] ?_ Z2 HBT.out ?_)
        | (refine wpList_storeA rfl 69 (.tmp 6) (.tmp 24) rfl wr.heap.size Z2 rfl rfl 69 (bvA (List.replicate 32 0)) (heap_alloc_new wr _) HSZ2.out HOLD2.out HONE2.out ?_))
      intro w6 h6 hg6
      have hB6 : Below wr.heap.size wr w6 := grown_below ((Below.refl _ _).alloc (Nat.le_refl _) _) hg6 (Nat.le_refl _) (by simp)
      have hD6 : BB w6 wr.heap.size 69 (outTo st 0) := by show _ = _; rw [h6, HZ2.out]
      have HB6 := Lib.hid (HB.out.trans (hB6.mono HB.out.size))
      have HO6 := Lib.hid (HO.out.below hB6 HO.out.lt)
      have HS6 := Lib.hid (HS.out.below hB6 HS.out.lt)
      have HD6 := Lib.hid hD6
      have HLE : Hid (w.heap.size + 1 < wr.heap.size) := HS.out.lt
      clear h6 hg6 hB6 hD6 HB HO HS HZ2 HBT HSZ2 HONE2 HOLD2
      generalize wr.heap.size = gD at *
      go_wp2_with fail
      go_loopw [7] (fun i w' => ∃ j : Nat, j ≤ 32 ∧ i = .int .i64 j ∧ BB w' gD 69 (outTo st j) ∧ WB w' (w.heap.size + 1) 110 st ∧ BB w' w.heap.size 69 (List.replicate 32 0) ∧ Below w.heap.size w w') (fun i _ => 32 - (intOf i).toNat)
      case atStart => exact ⟨0, by omega, rfl, HD6.out, HS6.out, HO6.out, HB6.out⟩
      case round =>
        clear HD6 HS6 HO6 HB6
        obtain ⟨j, hj, rfl, hd, hs, ho, hb⟩ := hrel
        have HD := Lib.hid hd
        have HSS := Lib.hid hs
        have HOO := Lib.hid ho
        have HBB := Lib.hid hb
        clear hd hs ho hb
        by_cases hlt32 : j < 32
        · have cf := HD.out.frozen j
          have ck := HD.out.cell j (by rw [outTo_len]; omega)
          have cr := HSS.out.cellD (j / 4) (by rw [HST8.out]; omega)
          have HX := Lib.hid (outTo_set st j)
          have HV := Lib.hid (bv_outB st j)
          generalize st.getD (j / 4) 0 = yk at cr HV
          generalize hx : (outTo st j)[j]'(by rw [outTo_len]; omega) = xk at ck
          clear hx
          go_wp2_with fail
          have he : 24 - 8 * (j % 4) = 8 * (3 - j % 4) := by omega
          go_roundw
          case rel =>
            rw [he, HV.out]
            have hn1 : w.heap.size + 1 ≠ gD := by have := HLE.out; omega
            have hn2 : w.heap.size ≠ gD := by have := HLE.out; omega
            refine ⟨j + 1, by omega, by go_num, ?_, (heap_setCell_other wr ⟨gD, j, none⟩ _ _ hn1).trans HSS.out, HOO.out.setO hn2 _ _, HBB.out.setCell (p := ⟨gD, j, none⟩) (by have := HLE.out; show w.heap.size ≤ gD; omega) _⟩
            rw [← HX.out]
            exact HD.out.set_ _ _
          case measure => simp [intOf]; omega
        · obtain rfl : j = 32 := by omega
          have hsz : (Tryz.prog.info? 69).map (·.size) = some (bvA (outTo st 32)).size := by rw [bvA_size, outTo_len]; kernel_rfl
          have hold : (bvA (List.replicate 32 0)).size = (bvA (outTo st 32)).size := by rw [bvA_size, bvA_size, outTo_len]; rfl
          go_wp2_with (first | (refine wpList_load_row rfl 69 (.tmp 6) rfl gD rfl _ (bvA (outTo st 32)) (0, 0) _ HD.out Tryz.underlying69 rfl hsz ?_) | (refine wpList_storeA rfl 69 (.tmp 2) (.tmp 41) rfl w.heap.size (bvA (outTo st 32)) rfl rfl _ _ HOO.out hsz hold (bvA_one _) ?_))
          intro w7 h7 hg7
          go_wp2_with fail
          refine bodyPost_ret (v := .agg (bvA (sha l))) ?_ rfl ⟨rfl, grown_below HBB.out hg7 (Nat.le_refl _) HBB.out.size⟩
          rw [HSH.out]
          exact results_cell_row rfl _ _ w.heap.size 69 _ (0, 0) _ rfl h7 Tryz.underlying69 rfl hsz
end Go.Proofs.YteigldfdaciopaaGreatDoor

namespace Go.Proofs.YteigldfdaciopaaGreatDoor
open Go.RowKit
set_option linter.unusedVariables false
set_option linter.unusedSimpArgs false

theorem OwnB.nilCap {B : Nat} {w : World} {a : Option Addr} {n cap : Nat} {l : List UInt8} (h : OwnB B w (.slice a n cap) l) : a = none → cap = 0 := by
  obtain ⟨a', cap', e, hf, _⟩ := h.form
  injection e with e1 e2 e3
  subst e1; subst e3
  intro h0
  rcases hf with ⟨_, h1, _⟩ | ⟨g, h1, _⟩
  · exact h1
  · rw [h1] at h0; cases h0

set_option maxRecDepth 100000 in
set_option maxHeartbeats 3200000 in
theorem refTagged (s : ByteArray) (a : Option Addr) (cap : Nat) (l : List UInt8) (w : World) (hl : RdB w.heap.size w a l) (hcap : l.length ≤ cap) (hc2 : cap ≤ maxLen) (hnil : a = none → cap = 0) (hs : s.size ≤ 600) (hn : l.length ≤ 70368744177000) :
    Calls Tryz.prog 66 #[.string s, .slice a l.length cap] w fun e w' => e = .returned (.agg (bvA (tagS s.data.toList l))) ∧ Below w.heap.size w w' := by
  have HL := Lib.hid hl
  have HN := Lib.hid hnil
  have HC2 := Lib.hid hc2
  clear hl hnil
  unfold maxLen at hc2
  have hcv := fun W : World => Lib.run_convert_string_bytes (P := Tryz.prog) W 9 66 5 s Tryz.underlying9 Tryz.underlying66 Tryz.underlying5
  go_enter Tryz.func66, Tryz.ntmps66
  go_wp2_with fail
  obtain ⟨w0, hw0⟩ : ∃ w0, w0 = w.alloc (.cells (bvA (List.replicate 32 0)) 69) := ⟨_, rfl⟩
  have hB0 : Below w.heap.size w w0 := hw0 ▸ (Below.refl _ _).alloc (Nat.le_refl _) _
  have hO0 : BB w0 w.heap.size 69 (List.replicate 32 0) := hw0 ▸ BB.new w _ _
  have hz0 : w0.heap.size = w.heap.size + 1 := by rw [hw0]; simp
  have HB0 := Lib.hid hB0
  have HO0 := Lib.hid hO0
  change Calls _ _ #[.slice (some ⟨w.heap.size + 1, 0, none⟩) s.data.toList.length (grownCap (w.alloc (.cells (bvA (List.replicate 32 0)) 69)) s.size 0 5)] (Lib.bytesWorld (w.alloc (.cells (bvA (List.replicate 32 0)) 69)) 5 s) _
  rw [← hw0, ← hz0]
  clear hw0 hB0 hO0
  have hB1 := HB0.out.trans ((below_bytesWorld w0 5 s).mono HB0.out.size)
  have HO1 := Lib.hid (HO0.out.below (below_bytesWorld w0 5 s) HO0.out.lt)
  have hSl : s.data.toList.length ≤ 70368744177664 := by show s.size ≤ _; omega
  refine (refSum (some ⟨w0.heap.size, 0, none⟩) (grownCap w0 s.size 0 5) s.data.toList (Lib.bytesWorld w0 5 s) (rd_bytesWorld w0 5 s (by unfold maxLen; omega)) (grownCap_ge w0 s.size 0 _) (grownCap_le_maxLen w0 s.size 0 _ (by unfold maxLen; omega)) (fun h => by cases h) hSl).mono ?_
  rintro e w2 ⟨rfl, hb2⟩
  have HB2 := Lib.hid (hB1.trans (hb2.mono hB1.size))
  have HO2 := Lib.hid (HO1.out.below hb2 HO1.out.lt)
  clear hB1 hb2 hcv hSl HO1 HO0 HB0
  go_wp2_with (refine wpList_storeA rfl 69 (.tmp 5) (.tmp 8) rfl w2.heap.size (bvA (sha s.data.toList)) rfl rfl 69 (bvA (List.replicate 32 0)) (heap_alloc_new w2 _) (sha_sz _) (sha_old _) (bvA_one _) ?_)
  intro w3 h3 hg3
  have hB3 : Below w2.heap.size w2 w3 := grown_below ((Below.refl _ _).alloc (Nat.le_refl _) _) hg3 (Nat.le_refl _) (by simp)
  have HD3 := Lib.hid (show BB w3 w2.heap.size 69 (sha s.data.toList) from h3)
  have HB3 := Lib.hid (HB2.out.trans (hB3.mono HB2.out.size))
  have HO3 := Lib.hid (HO2.out.below hB3 HO2.out.lt)
  have hgt : w.heap.size < w2.heap.size := HO2.out.lt
  clear h3 hg3 hB3 HB2 HO2
  obtain ⟨ST, hST⟩ : ∃ ST, ST = sha s.data.toList := ⟨_, rfl⟩
  have hTG : tagS s.data.toList l = sha (ST ++ l) := by rw [hST]; rfl
  have hST32 : ST.length = 32 := by rw [hST]; exact sha_len _
  rw [← hST] at HD3
  have HTG := Lib.hid hTG
  have HST := Lib.hid hST32
  clear hST hTG hST32
  -- the bytes in a row: a new slice, twice appended to
  have hA4 : Below w3.heap.size w3 (w3.alloc (.cells #[] 5)) := (Below.refl _ _).alloc (Nat.le_refl _) _
  have HE4 : Hid (OwnB w3.heap.size (w3.alloc (.cells #[] 5)) (.slice (some ⟨w3.heap.size, 0, none⟩) 0 0) []) := OwnB.empty (Nat.le_refl _)
  have HD4 := Lib.hid (HD3.out.below hA4 HD3.out.lt)
  have HO4 := Lib.hid (HO3.out.below hA4 HO3.out.lt)
  have HR4 : Hid (RdB (w3.alloc (.cells #[] 5)).heap.size (w3.alloc (.cells #[] 5)) (some ⟨w2.heap.size, 0, none⟩) ST) := HD4.out.rdB (by rw [HST.out]; unfold maxLen; omega)
  have HLN : Hid (([] : List UInt8).length + ST.length ≤ 140737488355328) := by show _ ≤ _; rw [HST.out]; simp
  have HSZ4 : Hid (w3.heap.size ≤ (w3.alloc (.cells #[] 5)).heap.size) := hA4.size
  have HLT3 := Lib.hid HO3.out.lt
  have HA4 := Lib.hid hA4
  clear hA4
  go_wp2_with ((with_reducible show wpList _ _ _ (({ dst := some 11, op := _, type := _, pos := _, after := _, guard := _ } : Oper) :: _) _ _); go_must (refine wpList_appB rfl (.tmp 9) (.tmp 10) rfl w3.heap.size _ [] ST (some ⟨w2.heap.size, 0, none⟩) 32 rfl HE4.out (by rw [HST.out]; rfl) HR4.out (fun h => by cases h) HLN.out HSZ4.out ?_))
  intro v5 w5 ho5 hg5
  have HB5 := Lib.hid (((HB3.out.alloc HB3.out.size _)).trans (hg5.below (empty_base HB3.out.size) (HB3.out.alloc HB3.out.size _).size))
  have HO5 := Lib.hid (BB.grownBy HO4.out hg5.grown (fun e => by have := HLT3.out; simp [Value.ownBlock] at e; omega))
  have HW5 : Hid (OwnB w3.heap.size w5 v5 ST) := ho5
  have HS5 : Hid (w3.heap.size ≤ w5.heap.size) := Nat.le_trans HSZ4.out hg5.size
  clear ho5 hg5 HE4 HD4 HO4 HR4 HLN HSZ4 HA4 HD3 HO3
  have HR5 : Hid (RdB w5.heap.size w5 a l) := (HL.out.below HB5.out).mono HB5.out.size
  have HLN5 : Hid (ST.length + l.length ≤ 140737488355328) := by show _ ≤ _; rw [HST.out]; omega
  go_wp2_with ((with_reducible show wpList _ _ _ (({ dst := some 13, op := _, type := _, pos := _, after := _, guard := _ } : Oper) :: _) _ _); go_must (refine wpList_appB rfl (.tmp 11) (.tmp 12) rfl w3.heap.size _ ST l a cap rfl HW5.out rfl HR5.out HN.out HLN5.out HS5.out ?_))
  intro v6 w6 ho6 hg6
  have HB6 := Lib.hid (HB5.out.trans (hg6.below (fun k hk => Nat.le_trans (Nat.le_trans (HB3.out.size) (Nat.le_refl _)) (HW5.out.base k hk)) HB5.out.size))
  have HO6 := Lib.hid (BB.grownBy HO5.out hg6.grown (fun e => by have h1 := HLT3.out; have h2 := HW5.out.base _ e; omega))
  obtain ⟨a6, cap6, rfl, _, _⟩ := ho6.form
  have HW6 := Lib.hid ho6
  clear ho6 hg6 HW5 HO5 HB5 HR5 HLN5 HS5
  have hSl : (ST ++ l).length ≤ 70368744177664 := by rw [List.length_append, HST.out]; omega
  have cS := refSum a6 cap6 (ST ++ l) w6 (HW6.out.rdOf) HW6.out.caps.1 HW6.out.caps.2 HW6.out.nilCap hSl
  rw [← HTG.out] at cS
  obtain ⟨TG, hTG⟩ : ∃ TG, TG = tagS s.data.toList l := ⟨_, rfl⟩
  have hT32 : TG.length = 32 := by rw [hTG]; exact tagS_len _ _
  rw [← hTG] at cS
  have HTL := Lib.hid hTG
  have HCS := Lib.hid cS
  have hsz : (Tryz.prog.info? 69).map (·.size) = some (bvA TG).size := by rw [bvA_size, hT32]; exact sha_size
  have hold : (bvA (List.replicate 32 0)).size = (bvA TG).size := by rw [bvA_size, bvA_size, hT32]; rfl
  have HSZT := Lib.hid hsz
  have HOLDT := Lib.hid hold
  clear hTG hT32 cS hSl hsz hold
  generalize (ST ++ l).length = ml at *
  go_wp2_with fail
  refine HCS.out.mono ?_
  rintro e w7 ⟨rfl, hb7⟩
  have HB7 := Lib.hid (HB6.out.trans (hb7.mono HB6.out.size))
  have HO7 := Lib.hid (HO6.out.below hb7 HO6.out.lt)
  clear hb7 HB6 HO6 HCS HW6
  go_wp2_with (refine wpList_storeA rfl 69 (.tmp 4) (.tmp 14) rfl w.heap.size (bvA TG) rfl rfl 69 (bvA (List.replicate 32 0)) HO7.out HSZT.out HOLDT.out (bvA_one _) ?_)
  intro w8 h8 hg8
  go_wp2_with fail
  rw [← HTL.out]
  refine bodyPost_ret (v := .agg (bvA TG)) ?_ rfl ⟨rfl, grown_below HB7.out hg8 (Nat.le_refl _) HB7.out.size⟩
  exact results_cell_row rfl _ _ w.heap.size 69 _ (0, 0) _ rfl h8 Tryz.underlying69 rfl HSZT.out
end Go.Proofs.YteigldfdaciopaaGreatDoor
