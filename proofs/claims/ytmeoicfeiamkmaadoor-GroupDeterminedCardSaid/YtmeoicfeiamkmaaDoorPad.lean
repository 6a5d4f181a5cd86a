/-
  The reference's padded: the bytes with their end.
-/
import Derived.Test.YtmeoicfeiamkmaaDoorTagsW
import Derived.LoopTactic
namespace Go.Proofs.YtmeoicfeiamkmaaDoor
open Go.RowKit
set_option linter.unusedVariables false
set_option linter.unusedSimpArgs false

theorem padB_eq (len : Nat) : padB len = (128 : UInt8) :: List.replicate (padN len - 1) 0 ++ (List.range 8).map (szB len) := by
  have h1 := padN_bd len
  apply List.ext_getElem
  · rw [padB_len]; simp; omega
  · intro i h1' h2'
    have h1'' := h1'
    rw [padB_len] at h1''
    have hp : (padB len)[i] = (padA (padN len) 8 len)[i]'(by rw [padA_len]; omega) := by simp only [padB, List.getElem_take]
    rw [hp]
    by_cases h0 : i = 0
    · subst h0; simp [padA]
    · by_cases h3 : i < padN len
      · rw [List.getElem_append_left (by simp; omega), List.getElem_cons, dif_neg h0]
        simp [padA, h0]
        intro h; omega
      · rw [List.getElem_append_right (by simp; omega)]
        simp only [padA, List.getElem_map, List.getElem_range, List.length_cons, List.length_replicate]
        rw [if_neg h0, if_pos ⟨by omega, by omega⟩]
        congr 1; omega
theorem pad_more (n k : Nat) (h : k + 1 ≤ padN n) (hq : ¬ (n + 1 + k) % 64 = 56) : k + 1 + 1 ≤ padN n := by unfold padN at *; omega
theorem pad_end (n k : Nat) (h : k + 1 ≤ padN n) (hq : (n + 1 + k) % 64 = 56) : k = padN n - 1 := by unfold padN at *; omega
/-- The bytes that padded has when k zeros follow the first. -/
def padZ (l : List UInt8) (k : Nat) : List UInt8 := l ++ (128 : UInt8) :: List.replicate k 0
theorem padZ_len (l : List UInt8) (k : Nat) : (padZ l k).length = l.length + 1 + k := by simp [padZ]; omega
theorem padZ_snoc (l : List UInt8) (k : Nat) : padZ l k ++ [0] = padZ l (k + 1) := by
  simp [padZ, List.replicate_succ']
def padS (l : List UInt8) (k : Nat) : List UInt8 := padZ l (padN l.length - 1) ++ (List.range k).map (szB l.length)
theorem padS_snoc (l : List UInt8) (k : Nat) : padS l k ++ [szB l.length k] = padS l (k + 1) := by
  simp [padS, List.range_succ]
theorem padS_len (l : List UInt8) (k : Nat) : (padS l k).length = l.length + padN l.length + k := by
  have := padN_bd l.length
  unfold padS; rw [List.length_append, padZ_len]; simp; omega
theorem padS_8 (l : List UInt8) : padS l 8 = l ++ padB l.length := by
  rw [padB_eq]; simp [padS, padZ]

set_option maxRecDepth 100000 in
set_option maxHeartbeats 1600000 in
theorem refPadded (a : Option Addr) (cap : Nat) (l : List UInt8) (w : World) (hl : RdB w.heap.size w a l) (hcap : l.length ≤ cap) (hc2 : cap ≤ maxLen) (hnil : a = none → cap = 0) (hn : l.length ≤ 70368744177664) :
    Calls Tryd.prog 38 #[.slice a l.length cap] w fun e w' => ∃ v, e = .returned v ∧ OwnB w.heap.size w' v (l ++ padB l.length) ∧ Below w.heap.size w w' := by
  have HL := Lib.hid hl
  have HN := Lib.hid hnil
  have HP8 := Lib.hid (padS_8 l)
  have hpn := padN_bd l.length
  clear hl hnil
  unfold maxLen at hc2
  go_enter Tryd.func38, Tryd.ntmps38
  have hA0 : Below w.heap.size w (w.alloc (.cells #[] 5)) := (Below.refl _ _).alloc (Nat.le_refl _) _
  have HR0 : Hid (RdB (w.alloc (.cells #[] 5)).heap.size (w.alloc (.cells #[] 5)) a l) := (HL.out.below hA0).mono hA0.size
  have HO0 : Hid (OwnB w.heap.size (w.alloc (.cells #[] 5)) (.slice (some ⟨w.heap.size, 0, none⟩) 0 0) []) := OwnB.empty (Nat.le_refl _)
  have HS0 : Hid (w.heap.size ≤ (w.alloc (.cells #[] 5)).heap.size) := hA0.size
  have HLN : Hid (([] : List UInt8).length + l.length ≤ 140737488355328) := by show _ ≤ _; simp; omega
  have HA0 := Lib.hid hA0
  clear hA0
  go_wp2_with ((with_reducible show wpList _ _ _ (({ dst := some 8, op := _, type := _, pos := _, after := _, guard := _ } : Oper) :: _) _ _); go_must (refine wpList_appB rfl (.tmp 6) (.tmp 7) rfl w.heap.size _ [] l a cap rfl HO0.out rfl HR0.out HN.out HLN.out HS0.out ?_))
  intro v1 w1 ho1 hg1
  have HO1 := Lib.hid ho1
  have HB1 := Lib.hid (HA0.out.trans (hg1.below (empty_base (Nat.le_refl _)) HA0.out.size))
  clear ho1 hg1 HR0 HO0 HS0 HLN HA0
  have HC128 : Hid (((w1.alloc (.cells #[.int .u8 128] 5)).cell? ⟨w1.heap.size, 0, none⟩) = some (bv 128)) := by show _ = _; rw [cell_of_row _ _ _ _ _ _ (heap_alloc_new w1 _)]; rfl
  have HLN1 : Hid (l.length + 1 ≤ 140737488355328) := by show _ ≤ _; omega
  have HS1 : Hid (w.heap.size ≤ (w1.alloc (.cells #[.int .u8 128] 5)).heap.size) := by show _ ≤ _; have := HB1.out.size; simp; omega
  go_wp2_with ((with_reducible show wpList _ _ _ (({ dst := some 10, op := _, type := _, pos := _, after := _, guard := _ } : Oper) :: _) _ _); go_must (refine wpList_app1 rfl (.tmp 8) (.tmp 9) rfl w.heap.size _ l 128 w1.heap.size rfl (HO1.out.alloc _) rfl HC128.out HLN1.out HS1.out ?_))
  intro v2 w2 ho2 hg2
  have HB2 := Lib.hid ((HB1.out.alloc HB1.out.size _).trans (hg2.below (fun k hk => HO1.out.base k hk) (HB1.out.alloc HB1.out.size _).size))
  have HO2 : Hid (OwnB w.heap.size w2 v2 (padZ l 0)) := ho2
  clear ho2 hg2 HC128 HLN1 HS1 HO1 HB1
  go_wp2_with fail
  go_loopw [3] (fun v wr => ∃ k : Nat, k + 1 ≤ padN l.length ∧ OwnB w.heap.size wr v (padZ l k) ∧ Below w.heap.size w wr) (fun v _ => l.length + 65 - sliceLen v)
  case atStart => exact ⟨0, by omega, HO2.out, HB2.out⟩
  case round =>
    clear HO2 HB2
    obtain ⟨k, hk, ho, hb⟩ := hrel
    have HB := Lib.hid hb
    have HO := Lib.hid ho
    obtain ⟨av, cv, rfl, _, _⟩ := ho.form
    have hlz := padZ_len l k
    generalize hm : (padZ l k).length = m at *
    have HM := Lib.hid hm
    have HLZ := Lib.hid hlz
    have hmb : m ≤ 70368744177664 + 64 := by omega
    clear ho hb hm
    by_cases hq : m % 64 = 56
    · have hkk := pad_end l.length k hk (by rw [← HLZ.out]; exact hq)
      clear hlz
      have f1 : ((m : Int) % 64 == 56) = true := by rw [beq_iff_eq]; omega
      have HK : Hid (padZ l k = padS l 0) := by show _ = _; rw [hkk]; simp [padS]
      rw [HK.out] at HO HM
      clear hq hkk HK hk
      have HCV := Lib.hid HM.out
      go_wp2_with fail
      clear f1
      generalize ((m : Int) % 64 != 56) = cb
      go_loopw [3, 5] (fun v i wr => ∃ j : Nat, j ≤ 8 ∧ i = .int .i64 (7 - (j : Int)) ∧ OwnB w.heap.size wr v (padS l j) ∧ Below w.heap.size w wr) (fun _ i _ => (intOf i + 1).toNat)
      case atStart => exact ⟨0, by omega, rfl, HO.out, HB.out⟩
      case round =>
        clear HO HB
        obtain ⟨j, hj, rfl, ho, hb⟩ := hrel
        have HB := Lib.hid hb
        have HO := Lib.hid ho
        clear ho hb
        by_cases hj8 : j < 8
        · have hi0 : (0 : Int) ≤ 7 - (j : Int) := by omega
          obtain ⟨av2, cv2, rfl, _, _⟩ := HO.out.form
          have HCJ : Hid (((wr.alloc (.cells #[.int .u8 ((l.length : Int) * 8 / 2 ^ (8 * (7 - j)) % 256)] 5)).cell? ⟨wr.heap.size, 0, none⟩) = some (bv (szB l.length j))) := by
            show _ = _
            rw [cell_of_row _ _ _ _ _ _ (heap_alloc_new wr _), ← bv_szB, Int.mul_comm]; rfl
          have HLN1 : Hid ((padS l j).length + 1 ≤ 140737488355328) := by show _ ≤ _; rw [padS_len]; omega
          have HS1 : Hid (w.heap.size ≤ (wr.alloc (.cells #[.int .u8 ((l.length : Int) * 8 / 2 ^ (8 * (7 - j)) % 256)] 5)).heap.size) := by show _ ≤ _; have := HB.out.size; simp; omega
          go_wp2_with ((with_reducible show wpList _ _ _ (({ dst := some 33, op := _, type := _, pos := _, after := _, guard := _ } : Oper) :: _) _ _); go_must (refine wpList_app1 rfl (.tmp 26) (.tmp 32) rfl w.heap.size _ (padS l j) (szB l.length j) wr.heap.size rfl (HO.out.alloc _) rfl HCJ.out HLN1.out HS1.out ?_))
          intro v3 w3 ho3 hg3
          have HB3 := Lib.hid ((HB.out.alloc HB.out.size _).trans (hg3.below (fun k hk => HO.out.base k hk) (HB.out.alloc HB.out.size _).size))
          rw [padS_snoc] at ho3
          have HO3 := Lib.hid ho3
          obtain ⟨a3, c3, rfl, _, _⟩ := ho3.form
          clear ho3 hg3 HCJ HLN1 HS1
          go_wp2_with fail
          go_roundw
          case rel =>

            exact ⟨j + 1, by omega, by go_num, HO3.out, HB3.out⟩
          case measure => simp [intOf]; omega
        · obtain rfl : j = 8 := by omega
          rw [HP8.out] at HO
          go_wp2_with fail
          go_ret
          exact ⟨_, rfl, HO.out, HB.out⟩
    · have f1 : ((m : Int) % 64 == 56) = false := by rw [beq_eq_false_iff_ne]; omega
      have hkn := pad_more l.length k hk (by rw [← HLZ.out]; exact hq)
      have HKN := Lib.hid hkn
      clear hlz hkn
      have HC0 : Hid (((wr.alloc (.cells #[.int .u8 0] 5)).cell? ⟨wr.heap.size, 0, none⟩) = some (bv 0)) := by show _ = _; rw [cell_of_row _ _ _ _ _ _ (heap_alloc_new wr _)]; rfl
      have HLN1 : Hid ((padZ l k).length + 1 ≤ 140737488355328) := by show _ ≤ _; rw [HM.out]; omega
      have HS1 : Hid (w.heap.size ≤ (wr.alloc (.cells #[.int .u8 0] 5)).heap.size) := by show _ ≤ _; have := HB.out.size; simp; omega
      go_wp2_with ((with_reducible show wpList _ _ _ (({ dst := some 17, op := _, type := _, pos := _, after := _, guard := _ } : Oper) :: _) _ _); go_must (refine wpList_app1 rfl (.tmp 15) (.tmp 16) rfl w.heap.size _ (padZ l k) 0 wr.heap.size rfl (HO.out.alloc _) rfl HC0.out HLN1.out HS1.out ?_))
      intro v2 w2 ho2 hg2
      have HB2 := Lib.hid ((HB.out.alloc HB.out.size _).trans (hg2.below (fun k hk => HO.out.base k hk) (HB.out.alloc HB.out.size _).size))
      rw [padZ_snoc] at ho2
      have HO2 := Lib.hid ho2
      obtain ⟨a2, c2, rfl, _, _⟩ := ho2.form
      clear ho2 hg2 HC0 HLN1 HS1
      go_wp2_with fail
      go_roundw
      case rel => exact ⟨k + 1, HKN.out, HO2.out, HB2.out⟩
      case measure => have := padZ_len l (k + 1); have := HLZ.out; simp only [sliceLen]; omega
end Go.Proofs.YtmeoicfeiamkmaaDoor
