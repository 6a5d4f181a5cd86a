/-
  The walk of chartroomlaw06.CipherBlocks.
-/
import Derived.Test.YtcibbghggfklbaaDoorCy
namespace Go.Proofs.YtcibbghggfklbaaDoor
open Go.RowKit
set_option linter.unusedVariables false
set_option linter.unusedSimpArgs false

/-- The first m blocks. -/
def blocksTo (k n : List UInt8) : Nat → List UInt8
  | 0 => []
  | m + 1 => blocksTo k n m ++ cblock k n (m + 1)
theorem blocksTo_len (k n : List UInt8) : ∀ m, (blocksTo k n m).length = 64 * m
  | 0 => rfl
  | m + 1 => by rw [blocksTo, List.length_append, blocksTo_len k n m, cblock_len]; omega
theorem blocksTo_get (k n : List UInt8) : ∀ m i, i < 64 * m → (blocksTo k n m)[i]? = (cblock k n (1 + i / 64))[i % 64]?
  | 0, i, h => by omega
  | m + 1, i, h => by
    rw [blocksTo]
    by_cases h1 : i < 64 * m
    · rw [List.getElem?_append_left (by rw [blocksTo_len]; exact h1), blocksTo_get k n m i h1]
    · rw [List.getElem?_append_right (by rw [blocksTo_len]; omega), blocksTo_len, show 1 + i / 64 = m + 1 by omega, show i - 64 * m = i % 64 by omega]
theorem stream_blocks (k n : List UInt8) (m q : Nat) (h : q ≤ 64 * m) : cstream k n (List.replicate q 0) = (blocksTo k n m).take q := by
  apply List.ext_getElem?
  intro i
  by_cases hi : i < q
  · rw [cstream_get _ _ _ i (by rw [List.length_replicate]; exact hi), List.getElem_replicate, UInt8.zero_xor, List.getElem?_take, if_pos hi, blocksTo_get k n m i (by omega)]
    unfold cbyte
    rw [List.getD, List.getElem?_eq_getElem (by rw [cblock_len]; omega)]; rfl
  · rw [List.getElem?_eq_none (by rw [cstream_len, List.length_replicate]; omega), List.getElem?_eq_none (by rw [List.length_take, blocksTo_len]; omega)]
theorem OwnB.emptyB {B : Nat} {w : World} (hB : B ≤ w.heap.size) : OwnB B (w.alloc (.cells #[] 5)) (.slice (some ⟨w.heap.size, 0, none⟩) 0 0) [] :=
  World.ownsRow_made w #[] 0 hB (by unfold maxLen; omega) (by rfl)
theorem RdB.rdv {B : Nat} {w : World} {a : Option Addr} {c : Nat} {l : List UInt8} (h : RdB B w a l) (hB : B ≤ w.heap.size) (h1 : l.length ≤ c) (h2 : c ≤ maxLen) (h3 : a = none → c = 0) : RdV w (.slice a l.length c) l := ⟨a, c, rfl, h.mono hB, h1, h2, h3⟩

set_option maxRecDepth 100000 in
set_option maxHeartbeats 4000000 in
theorem blocks_walk6 (k n : List UInt8) (hk : k.length = 32) (hn : n.length = 12) (mn : Int) (w : World) (hT : Tab w)  :
    Calls Tryd.prog 8 #[.agg (bvA k), .agg (bvA n), .int .i64 mn] w fun e w' => e = .returned (.bool true) ∧ Below w.heap.size w w' := by
  have HSK := Lib.hid (key_size k hk)
  have HSN := Lib.hid (nonce_size n hn)
  have HLK := Lib.hid hk
  have HLN := Lib.hid hn
  have HT := Lib.hid hT
  obtain ⟨w1, hw1⟩ : ∃ w1, w1 = (w.alloc (.cells (bvA k) 23)).alloc (.cells (bvA n) 25) := ⟨_, rfl⟩
  have HK1 : Hid (KN w k n w1) := Lib.hid (hw1 ▸ KN.start w k n)
  clear hk hn hT
  go_enter Tryd.func8, Tryd.ntmps8
  go_wp2_with fail
  rw [← hw1]
  clear hw1
  refine (csane6_any w1 (HT.out.below HK1.out.below HT.out.lt)).mono ?_
  rintro e w2 ⟨rfl, hb2⟩
  have HK2 := Lib.hid (HK1.out.call hb2)
  clear hb2 HK1
  obtain ⟨m, hx, hx2⟩ := and_mask mn 255 (by decide)
  replace hx : bits .and .i64 mn 255 = (m : Int) := hx
  have HM := Lib.hid hx2
  have HZL : Hid ((cstream k n (List.replicate m 0)).length = m) := Lib.hid (by rw [cstream_len, List.length_replicate])
  clear hx2
  go_wp2_with fail
  have HSB : Hid (∀ W, Below w2.heap.size w2 W → KN w k n W) := Lib.hid (fun W hW => HK2.out.call hW)
  have HB0 : Hid (Below w2.heap.size w2 w2.drew) := (Below.refl _ _).drew
  have HSLK := Lib.hid (key_sizeL k HLK.out)
  have HSLN := Lib.hid (nonce_sizeL n HLN.out)
  refine wp_region_held_drew (S := fun W => KN w k n W) (by kernel_rfl) (HSB.out _ HB0.out) (fun hHeld => ?_)
  refine wpAnyH_take (i := 0) (v := .agg (bvA k)) rfl (by kernel_rfl) (by kernel_rfl) (by kernel_rfl) (fun _ _ _ h => h) (yieldsIf_load_mid (by rfl) 23 (.tmp 3) rfl w.heap.size 0 rfl (k.map bv) _ (fun _ h => h.key.range) Tryd.underlying23 rfl HSLK.out) hHeld ?_
  simp only [Act.put, List.getElem_toArray, List.getElem_cons_zero, List.getElem_cons_succ, List.setIfInBounds_toArray, List.set_cons_zero, List.set_cons_succ]
  refine wpAnyH_take (i := 1) (v := .agg (bvA n)) rfl (by kernel_rfl) (by kernel_rfl) (by kernel_rfl) (fun _ _ _ h => h) (yieldsIf_load_mid (by rfl) 25 (.tmp 4) rfl (w.heap.size + 1) 0 rfl (n.map bv) _ (fun _ h => h.nonce.range) Tryd.underlying25 rfl HSLN.out) hHeld ?_
  simp only [Act.put, List.getElem_toArray, List.getElem_cons_zero, List.getElem_cons_succ, List.setIfInBounds_toArray, List.set_cons_zero, List.set_cons_succ]
  refine wpAnyH_take (i := 2) (v := .int .i64 mn) rfl (by kernel_rfl) (by kernel_rfl) (by kernel_rfl) (fun _ _ _ h => h) (Or.inl ⟨by rfl, fun w _ => by go_simp⟩) hHeld ?_
  simp only [Act.put, List.getElem_toArray, List.getElem_cons_zero, List.getElem_cons_succ, List.setIfInBounds_toArray, List.set_cons_zero, List.set_cons_succ]
  refine wpAnyH_take (i := 3) (v := .int .i64 (m : Int)) rfl (by kernel_rfl) (by kernel_rfl) (by kernel_rfl) (fun _ _ _ h => h) (Or.inl ⟨by rfl, fun w _ => by go_simp⟩) hHeld ?_
  simp only [Act.put, List.getElem_toArray, List.getElem_cons_zero, List.getElem_cons_succ, List.setIfInBounds_toArray, List.set_cons_zero, List.set_cons_succ]
  refine wpAnyH_ready (rs := [4]) (by kernel_rfl) (by simp) (AllReadyH.cons rfl (fun K hK => ?_) AllReadyH.nil)
  rw [if_pos (by rfl)]
  refine wp_makeB rfl m (by have := HM.out; omega) (by rfl) (by rfl) ?_
  intro w3 g hmz hg hb3
  have HE3 := Lib.hid (HB0.out.trans (hb3.mono HB0.out.size))
  have HMZ := Lib.hid hmz
  clear hmz hg hb3
  refine hK.out _ _ (HSB.out _ HE3.out) (fun hHeld => ?_)
  clear hK K
  try simp only [Act.put, List.getElem_toArray, List.getElem_cons_zero, List.getElem_cons_succ, List.setIfInBounds_toArray, List.set_cons_zero, List.set_cons_succ]
  refine wpAnyH_ready (rs := [5]) (by kernel_rfl) (by simp) (AllReadyH.cons rfl (fun K hK => ?_) AllReadyH.nil)
  go_simp
  refine (Stream_le k n HLK.out HLN.out (List.replicate m 0) _ m m w3 HMZ.out (by rw [List.length_replicate]; have := HM.out; omega)).mono ?_
  rintro e w4 hA
  obtain ⟨a1, c1, rfl, ho1, hb4⟩ := hA.open
  rw [HZL.out] at ho1 ⊢
  have HR1 := Lib.hid ho1.rdv
  have HE4 := Lib.hid (HE3.out.trans (hb4.mono HE3.out.size))
  clear hA ho1 hb4
  try go_wp2_with fail
  refine hK.out _ _ (HSB.out _ HE4.out) (fun hHeld => ?_)
  clear hK K
  try simp only [Act.put, List.getElem_toArray, List.getElem_cons_zero, List.getElem_cons_succ, List.setIfInBounds_toArray, List.set_cons_zero, List.set_cons_succ]
  refine wpAnyH_take (i := 6) (v := .tuple #[.slice a1 m c1, .int .i64 0]) rfl (by kernel_rfl) (by kernel_rfl) (by kernel_rfl) (fun _ _ _ h => h) (Or.inl ⟨by rfl, fun w _ => by go_simp⟩) hHeld ?_
  simp only [Act.put, List.getElem_toArray, List.getElem_cons_zero, List.getElem_cons_succ, List.setIfInBounds_toArray, List.set_cons_zero, List.set_cons_succ]
  refine wpAnyH_take (i := 7) (v := .slice a1 m c1) rfl (by kernel_rfl) (by kernel_rfl) (by kernel_rfl) (fun _ _ _ h => h) (Or.inl ⟨by rfl, fun w _ => by go_simp⟩) hHeld ?_
  simp only [Act.put, List.getElem_toArray, List.getElem_cons_zero, List.getElem_cons_succ, List.setIfInBounds_toArray, List.set_cons_zero, List.set_cons_succ]
  refine wpAnyH_take (i := 8) (v := .int .i64 0) rfl (by kernel_rfl) (by kernel_rfl) (by kernel_rfl) (fun _ _ _ h => h) (Or.inl ⟨by rfl, fun w _ => by go_simp⟩) hHeld ?_
  simp only [Act.put, List.getElem_toArray, List.getElem_cons_zero, List.getElem_cons_succ, List.setIfInBounds_toArray, List.set_cons_zero, List.set_cons_succ]
  refine wpAnyH_take (i := 9) (v := .slice a1 m c1) rfl (by kernel_rfl) (by kernel_rfl) (by kernel_rfl) (fun _ _ _ h => h) (Or.inl ⟨by rfl, fun w _ => by go_simp⟩) hHeld ?_
  simp only [Act.put, List.getElem_toArray, List.getElem_cons_zero, List.getElem_cons_succ, List.setIfInBounds_toArray, List.set_cons_zero, List.set_cons_succ]
  refine wpAnyH_take (i := 10) (v := .int .i64 0) rfl (by kernel_rfl) (by kernel_rfl) (by kernel_rfl) (fun _ _ _ h => h) (Or.inl ⟨by rfl, fun w _ => by go_simp⟩) hHeld ?_
  simp only [Act.put, List.getElem_toArray, List.getElem_cons_zero, List.getElem_cons_succ, List.setIfInBounds_toArray, List.set_cons_zero, List.set_cons_succ]
  refine wpAnyH_done (by kernel_rfl) ?_ _
  have HK4 := Lib.hid (HSB.out _ HE4.out)
  have HO4 : Hid (OwnB w4.heap.size (w4.alloc (.cells #[] 5)) (.slice (some ⟨w4.heap.size, 0, none⟩) 0 0) (blocksTo k n 0)) := Lib.hid (OwnB.emptyB (Nat.le_refl _))
  have HB4 : Hid (Below w4.heap.size w4 (w4.alloc (.cells #[] 5))) := Lib.hid ((Below.refl _ _).alloc (Nat.le_refl _) _)
  have HBS : Hid (∀ j, blocksTo k n (j + 1) = blocksTo k n j ++ cblock k n (j + 1)) := Lib.hid (fun j => rfl)
  have HBL := Lib.hid (blocksTo_len k n)
  clear HE3 HE4 HMZ hHeld HSB HB0 HK2
  go_wp2_with fail
  go_loopw [10, 9] (fun i v wr => ∃ j : Nat, j ≤ 4 ∧ i = .int .i64 ((j : Int) + 1) ∧ OwnB w4.heap.size wr v (blocksTo k n j) ∧ Below w4.heap.size w4 wr) (fun i _ _ => 5 - (intOf i).toNat)
  case atStart => exact ⟨0, by omega, rfl, HO4.out, HB4.out⟩
  case round =>
    clear HO4 HB4
    obtain ⟨j, hj, rfl, ho, hb⟩ := hrel
    have HO := Lib.hid ho
    have HB := Lib.hid hb
    have HK := Lib.hid (HK4.out.call hb)
    by_cases hlt : j < 4
    · have ij : (j : Int) + 1 ≤ 4 := by omega
      have f1 : decide ((j : Int) + 1 ≤ 4) = true := decide_eq_true ij
      have HSK' := HSK
      obtain ⟨v0, c0, hv0, -, -⟩ := ho.form
      subst hv0
      clear ho hb
      go_wp2_with (first
        | (refine wpList_load_row rfl 23 (.tmp 3) rfl w.heap.size rfl _ (bvA k) (0, 0) _ HK.out.key Tryd.underlying23 rfl HSK.out ?_)
        | (refine wpList_load_row rfl 25 (.tmp 4) rfl (w.heap.size + 1) rfl _ (bvA n) (0, 0) _ HK.out.nonce Tryd.underlying25 rfl HSN.out ?_))
      rw [show ((j : Int) + 1) = ((j + 1 : Nat) : Int) by omega]
      refine (Block_ok k n HLK.out HLN.out (j + 1) (by omega) wr).mono ?_
      rintro e w5 ⟨v5, rfl, hr5, hb5⟩
      obtain ⟨a5, c5, rfl, r1, r2, r3, r4⟩ := hr5.form
      rw [cblock_len]
      have HR := Lib.hid r1
      have HR4 := Lib.hid r4
      have HO5 := Lib.hid (HO.out.below hb5)
      have HB5 := Lib.hid (HB.out.trans (hb5.mono HB.out.size))
      have HL5 : Hid ((blocksTo k n j).length + (cblock k n (j + 1)).length ≤ 140737488355328) := Lib.hid (by rw [HBL.out, cblock_len]; omega)
      have HC5 := Lib.hid (cblock_len k n (j + 1))
      clear hr5 r1 r2 r3 r4 hb5 HO HB HK
      go_wp2_with (refine wpList_appB rfl (.tmp 43) (.tmp 44) rfl w4.heap.size _ (blocksTo k n j) (cblock k n (j + 1)) a5 c5 rfl HO5.out (by rw [HC5.out]; rfl) HR.out HR4.out HL5.out HB5.out.size ?_; intro v6 w6 ho6 hg6)
      go_roundw
      case rel => exact ⟨j + 1, by omega, by go_num, by rw [HBS.out]; exact ho6, HB5.out.trans (hg6.below (fun r hr => HO5.out.base r hr) HB5.out.size)⟩
      case measure => simp [intOf]; omega
    · obtain rfl : j = 4 := by omega
      have h1 := HR1.out.call hb
      obtain ⟨v0, c0, hv0, -, -⟩ := ho.form
      subst hv0
      rw [HBL.out] at ho
      have h2 := ho.rdv.cut m (by have := HM.out; omega)
      have i1 : m ≤ c0 := h2.caps
      have i2 : (m : Int) ≤ (c0 : Int) := by omega
      rw [stream_blocks k n 4 m (by have := HM.out; omega)] at h1
      have v1 := RdV.str (w := wr.drew) h1
      have v2 := RdV.str (w := wr.drew) h2
      obtain ⟨t1, q1⟩ : ∃ s, (⟨((blocksTo k n 4).take m).toArray⟩ : ByteArray) = s := ⟨_, rfl⟩
      obtain ⟨t2, q2⟩ : ∃ s, (⟨((blocksTo k n 4).take m).toArray⟩ : ByteArray) = s := ⟨_, rfl⟩
      have r12 : (t1.toList == t2.toList) = true := by rw [← q1, ← q2, str_beq]; exact beq_self_eq_true _
      rw [q1] at v1
      rw [q2] at v2
      rw [HBL.out]
      clear q1 q2 h1 h2 ho hb HO hlt hj
      go_wp2_with fail
      go_still (by kernel_rfl)
      go_wp2_with fail
      go_ret
      exact ⟨rfl, HK.out.below.drew⟩
end Go.Proofs.YtcibbghggfklbaaDoor
