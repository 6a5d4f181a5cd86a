/-
  The walk of chartroomlaw06.CipherSealSpec.
-/
import Derived.Test.YtcibbghggfklbaaDoorRo
namespace Go.Proofs.YtcibbghggfklbaaDoor
open Go.RowKit
set_option linter.unusedVariables false
set_option linter.unusedSimpArgs false

set_option maxRecDepth 100000 in
set_option maxHeartbeats 4000000 in
theorem sealSpec_walk6 (k n : List UInt8) (hk : k.length = 32) (hn : n.length = 12) (H B : List UInt8) (ah : Option Addr) (p ch : Nat) (ab : Option Addr) (q cb : Nat) (w : World) (hT : Tab w) (hH : RdV w (.slice ah p ch) H) (hB : RdV w (.slice ab q cb) B) :
    Calls Tryd.prog 5 #[.agg (bvA k), .agg (bvA n), .slice ah p ch, .slice ab q cb] w fun e w' => e = .returned (.bool true) ∧ Below w.heap.size w w' := by
  have HSK := Lib.hid (key_size k hk)
  have HSN := Lib.hid (nonce_size n hn)
  have HLK := Lib.hid hk
  have HLN := Lib.hid hn
  have HT := Lib.hid hT
  obtain ⟨w1, hw1⟩ : ∃ w1, w1 = (w.alloc (.cells (bvA k) 23)).alloc (.cells (bvA n) 25) := ⟨_, rfl⟩
  have HK1 : Hid (KN w k n w1) := Lib.hid (hw1 ▸ KN.start w k n)
  clear hk hn hT
  have HH := Lib.hid hH
  have HB := Lib.hid hB
  have HPL := Lib.hid hH.len
  clear hH hB
  go_enter Tryd.func5, Tryd.ntmps5
  go_wp2_with fail
  rw [← hw1]
  clear hw1
  refine (csane6_any w1 (HT.out.below HK1.out.below HT.out.lt)).mono ?_
  rintro e w2 ⟨rfl, hb2⟩
  have HK2 := Lib.hid (HK1.out.call hb2)
  clear hb2 HK1
  by_cases g1 : 400 < q ∧ q ≤ 65536
  · have f1 : decide ((400 : Int) < (q : Int)) = true := decide_eq_true (by omega)
    have f2 : decide ((q : Int) ≤ 65536) = true := decide_eq_true (by omega)
    go_wp2_with fail
    go_ret
    exact ⟨rfl, HK2.out.below⟩
  by_cases g2 : 70000 < q
  · have f1 : decide ((400 : Int) < (q : Int)) = true := decide_eq_true (by omega)
    have f2 : decide ((q : Int) ≤ 65536) = false := decide_eq_false (by omega)
    have f3 : decide ((70000 : Int) < (q : Int)) = true := decide_eq_true (by omega)
    go_wp2_with fail
    go_ret
    exact ⟨rfl, HK2.out.below⟩
  have f3 : decide ((70000 : Int) < (q : Int)) = false := decide_eq_false (by omega)
  have f12 : decide ((400 : Int) < (q : Int)) = false ∨ (decide ((400 : Int) < (q : Int)) = true ∧ decide ((q : Int) ≤ 65536) = false) := by
    by_cases h : 400 < q
    · exact .inr ⟨decide_eq_true (by omega), decide_eq_false (by omega)⟩
    · exact .inl (decide_eq_false (by omega))
  clear g1 g2
  by_cases g4 : 400 < p
  · have f4 : decide ((400 : Int) < (p : Int)) = true := decide_eq_true (by omega)
    rcases f12 with f1 | ⟨f1, f2⟩
    · go_wp2_with fail
      go_ret
      exact ⟨rfl, HK2.out.below⟩
    · go_wp2_with fail
      go_ret
      exact ⟨rfl, HK2.out.below⟩
  have f4 : decide ((400 : Int) < (p : Int)) = false := decide_eq_false (by omega)
  have HHL : Hid (H.length ≤ 70368744100000) := Lib.hid (by rw [← HPL.out]; omega)
  clear g4
  rcases f12 with f1 | ⟨f1, f2⟩
  · go_wp2_with (first
      | (refine wpList_load_row rfl 23 (.tmp 4) rfl w.heap.size rfl _ (bvA k) (0, 0) _ HK2.out.key Tryd.underlying23 rfl HSK.out ?_)
      | (refine wpList_load_row rfl 25 (.tmp 5) rfl (w.heap.size + 1) rfl _ (bvA n) (0, 0) _ HK2.out.nonce Tryd.underlying25 rfl HSN.out ?_))
    refine (Seal_any k n HLK.out HLN.out H B ah p ch ab q cb w2 (HT.out.below HK2.out.below HT.out.lt) (HH.out.call HK2.out.below) (HB.out.call HK2.out.below) HHL.out).mono ?_
    rintro e w3 hA
    obtain ⟨a3, c3, rfl, ho3, hb3⟩ := hA.open
    have HR3 := Lib.hid ho3.rdv
    have HK3 := Lib.hid (HK2.out.call hb3)
    clear hA ho3 hb3 HK2
    go_wp2_with (first
      | (refine wpList_load_row rfl 23 (.tmp 4) rfl w.heap.size rfl _ (bvA k) (0, 0) _ HK3.out.key Tryd.underlying23 rfl HSK.out ?_)
      | (refine wpList_load_row rfl 25 (.tmp 5) rfl (w.heap.size + 1) rfl _ (bvA n) (0, 0) _ HK3.out.nonce Tryd.underlying25 rfl HSN.out ?_))
    refine (refSealAny k n HLK.out HLN.out H B ah p ch ab q cb w3 (HH.out.call HK3.out.below) (HB.out.call HK3.out.below) HHL.out).mono ?_
    rintro e w4 hA
    obtain ⟨a4, c4, rfl, ho4, hb4⟩ := hA.open
    have v3 := (HR3.out.call hb4).str
    have v4 := ho4.rdv.str
    have HR4 := Lib.hid ho4.rdv
    have HK4 := Lib.hid (HK3.out.call hb4)
    obtain ⟨t3, q3⟩ : ∃ s, (⟨(sealX k n H B).toArray⟩ : ByteArray) = s := ⟨_, rfl⟩
    obtain ⟨t4, q4⟩ : ∃ s, (⟨(sealX k n H B).toArray⟩ : ByteArray) = s := ⟨_, rfl⟩
    have r34 : (t3.toList == t4.toList) = true := by rw [← q3, ← q4, str_beq]; exact beq_self_eq_true _
    rw [q3] at v3
    rw [q4] at v4
    clear hA ho4 hb4 HK3 HR3 q3 q4
    generalize streamE B = er at *
    generalize (sealX k n H B).length = xl at *
    have hb0 : Below w4.heap.size w4 (w4.alloc (.cells #[.slice ab q cb, .slice a4 xl c4] 28)) := (Below.refl _ _).alloc (Nat.le_refl _) _
    have HC0 : Hid (∀ j, j < 2 → ∃ a' q' c' L, (w4.alloc (.cells #[.slice ab q cb, .slice a4 xl c4] 28)).cell? ⟨w4.heap.size, j, none⟩ = some (.slice a' q' c') ∧ RdV (w4.alloc (.cells #[.slice ab q cb, .slice a4 xl c4] 28)) (.slice a' q' c') L) := Lib.hid (by
      intro j hj
      have hc := fun i => cell_of_row _ _ i _ _ _ (heap_alloc_new w4 (.cells #[.slice ab q cb, .slice a4 xl c4] 28))
      match j, hj with
      | 0, _ => exact ⟨_, _, _, B, hc 0, (HB.out.call HK4.out.below).call hb0⟩
      | 1, _ => exact ⟨_, _, _, _, hc 1, HR4.out.call hb0⟩)
    have HK5 := Lib.hid (HK4.out.call hb0)
    have HG : Hid (w4.heap.size < (w4.alloc (.cells #[.slice ab q cb, .slice a4 xl c4] 28)).heap.size) := Lib.hid (by rw [alloc_size]; omega)
    clear hb0
    go_wp2_with fail
    generalize w4.alloc (.cells #[.slice ab q cb, .slice a4 xl c4] 28) = w5 at *
    obtain ⟨g, hg⟩ : ∃ g, w4.heap.size = g := ⟨_, rfl⟩
    rw [hg] at HC0 HG ⊢
    clear hg HK4 v3 v4 r34 HR4
    go_loopw [69] (fun i wr => ∃ j : Nat, j ≤ 2 ∧ i = .int .i64 j ∧ Below w5.heap.size w5 wr) (fun i _ => 2 - (intOf i).toNat)
    case atStart => exact ⟨0, by omega, rfl, Below.refl _ _⟩
    case round =>
      obtain ⟨j, hj, rfl, hb⟩ := hrel
      have HKr := Lib.hid (HK5.out.call hb)
      by_cases hlt : j < 2
      · have ij : (j : Int) < 2 := by omega
        obtain ⟨aL, qL, cL, L, hz, hL⟩ := HC0.out j hlt
        have cz := (hb.cell (p := ⟨g, j, none⟩) HG.out).trans hz
        have HRL := Lib.hid (hL.call hb)
        have HBr := Lib.hid hb
        clear hz hb hL
        go_wp2_with (first
          | (refine wpList_load_row rfl 23 (.tmp 4) rfl w.heap.size rfl _ (bvA k) (0, 0) _ HKr.out.key Tryd.underlying23 rfl HSK.out ?_)
          | (refine wpList_load_row rfl 25 (.tmp 5) rfl (w.heap.size + 1) rfl _ (bvA n) (0, 0) _ HKr.out.nonce Tryd.underlying25 rfl HSN.out ?_))
        refine (Open_any k n HLK.out HLN.out H L ah p ch aL qL cL wr (HT.out.below HKr.out.below HT.out.lt) (HH.out.call HKr.out.below) HRL.out HHL.out).mono ?_
        rintro e w6 hA
        obtain ⟨a6, c6, rfl, ho6, hb6⟩ := hA.open
        have HR6 := Lib.hid ho6.rdv
        have HRL6 := Lib.hid (HRL.out.call hb6)
        have HK6 := Lib.hid (HKr.out.call hb6)
        have HB6 := Lib.hid (HBr.out.trans (hb6.mono HBr.out.size))
        clear hA ho6 hb6 HKr HRL HBr cz
        go_wp2_with (first
          | (refine wpList_load_row rfl 23 (.tmp 4) rfl w.heap.size rfl _ (bvA k) (0, 0) _ HK6.out.key Tryd.underlying23 rfl HSK.out ?_)
          | (refine wpList_load_row rfl 25 (.tmp 5) rfl (w.heap.size + 1) rfl _ (bvA n) (0, 0) _ HK6.out.nonce Tryd.underlying25 rfl HSN.out ?_))
        refine (refOpenAny k n HLK.out HLN.out H L ah p ch aL qL cL w6 (HH.out.call HK6.out.below) HRL6.out HHL.out).mono ?_
        rintro e w7 hA
        obtain ⟨a7, c7, rfl, ho7, hb7⟩ := hA.open
        have v6 := (HR6.out.call hb7).str
        have v7 := ho7.rdv.str
        have HB7 := Lib.hid (HB6.out.trans (hb7.mono HB6.out.size))
        obtain ⟨t6, q6⟩ : ∃ s, (⟨(openX k n H L).toArray⟩ : ByteArray) = s := ⟨_, rfl⟩
        obtain ⟨t7, q7⟩ : ∃ s, (⟨(openX k n H L).toArray⟩ : ByteArray) = s := ⟨_, rfl⟩
        have r67 : (t6.toList == t7.toList) = true := by rw [← q6, ← q7, str_beq]; exact beq_self_eq_true _
        rw [q6] at v6
        rw [q7] at v7
        clear hA ho7 hb7 HK6 HR6 HRL6 HB6 q6 q7
        generalize openE k n H L = er2 at *
        generalize (openX k n H L).length = ol at *
        go_wp2_with fail
        go_roundw
        case rel => exact ⟨j + 1, by omega, by go_num, HB7.out⟩
        case measure => simp [intOf]; omega
      · obtain rfl : j = 2 := by omega
        go_wp2_with fail
        go_ret
        exact ⟨rfl, HKr.out.below⟩
  · go_wp2_with (first
      | (refine wpList_load_row rfl 23 (.tmp 4) rfl w.heap.size rfl _ (bvA k) (0, 0) _ HK2.out.key Tryd.underlying23 rfl HSK.out ?_)
      | (refine wpList_load_row rfl 25 (.tmp 5) rfl (w.heap.size + 1) rfl _ (bvA n) (0, 0) _ HK2.out.nonce Tryd.underlying25 rfl HSN.out ?_))
    refine (Seal_any k n HLK.out HLN.out H B ah p ch ab q cb w2 (HT.out.below HK2.out.below HT.out.lt) (HH.out.call HK2.out.below) (HB.out.call HK2.out.below) HHL.out).mono ?_
    rintro e w3 hA
    obtain ⟨a3, c3, rfl, ho3, hb3⟩ := hA.open
    have HR3 := Lib.hid ho3.rdv
    have HK3 := Lib.hid (HK2.out.call hb3)
    clear hA ho3 hb3 HK2
    go_wp2_with (first
      | (refine wpList_load_row rfl 23 (.tmp 4) rfl w.heap.size rfl _ (bvA k) (0, 0) _ HK3.out.key Tryd.underlying23 rfl HSK.out ?_)
      | (refine wpList_load_row rfl 25 (.tmp 5) rfl (w.heap.size + 1) rfl _ (bvA n) (0, 0) _ HK3.out.nonce Tryd.underlying25 rfl HSN.out ?_))
    refine (refSealAny k n HLK.out HLN.out H B ah p ch ab q cb w3 (HH.out.call HK3.out.below) (HB.out.call HK3.out.below) HHL.out).mono ?_
    rintro e w4 hA
    obtain ⟨a4, c4, rfl, ho4, hb4⟩ := hA.open
    have v3 := (HR3.out.call hb4).str
    have v4 := ho4.rdv.str
    have HR4 := Lib.hid ho4.rdv
    have HK4 := Lib.hid (HK3.out.call hb4)
    obtain ⟨t3, q3⟩ : ∃ s, (⟨(sealX k n H B).toArray⟩ : ByteArray) = s := ⟨_, rfl⟩
    obtain ⟨t4, q4⟩ : ∃ s, (⟨(sealX k n H B).toArray⟩ : ByteArray) = s := ⟨_, rfl⟩
    have r34 : (t3.toList == t4.toList) = true := by rw [← q3, ← q4, str_beq]; exact beq_self_eq_true _
    rw [q3] at v3
    rw [q4] at v4
    clear hA ho4 hb4 HK3 HR3 q3 q4
    generalize streamE B = er at *
    generalize (sealX k n H B).length = xl at *
    have hb0 : Below w4.heap.size w4 (w4.alloc (.cells #[.slice ab q cb, .slice a4 xl c4] 28)) := (Below.refl _ _).alloc (Nat.le_refl _) _
    have HC0 : Hid (∀ j, j < 2 → ∃ a' q' c' L, (w4.alloc (.cells #[.slice ab q cb, .slice a4 xl c4] 28)).cell? ⟨w4.heap.size, j, none⟩ = some (.slice a' q' c') ∧ RdV (w4.alloc (.cells #[.slice ab q cb, .slice a4 xl c4] 28)) (.slice a' q' c') L) := Lib.hid (by
      intro j hj
      have hc := fun i => cell_of_row _ _ i _ _ _ (heap_alloc_new w4 (.cells #[.slice ab q cb, .slice a4 xl c4] 28))
      match j, hj with
      | 0, _ => exact ⟨_, _, _, B, hc 0, (HB.out.call HK4.out.below).call hb0⟩
      | 1, _ => exact ⟨_, _, _, _, hc 1, HR4.out.call hb0⟩)
    have HK5 := Lib.hid (HK4.out.call hb0)
    have HG : Hid (w4.heap.size < (w4.alloc (.cells #[.slice ab q cb, .slice a4 xl c4] 28)).heap.size) := Lib.hid (by rw [alloc_size]; omega)
    clear hb0
    go_wp2_with fail
    generalize w4.alloc (.cells #[.slice ab q cb, .slice a4 xl c4] 28) = w5 at *
    obtain ⟨g, hg⟩ : ∃ g, w4.heap.size = g := ⟨_, rfl⟩
    rw [hg] at HC0 HG ⊢
    clear hg HK4 v3 v4 r34 HR4
    go_loopw [69] (fun i wr => ∃ j : Nat, j ≤ 2 ∧ i = .int .i64 j ∧ Below w5.heap.size w5 wr) (fun i _ => 2 - (intOf i).toNat)
    case atStart => exact ⟨0, by omega, rfl, Below.refl _ _⟩
    case round =>
      obtain ⟨j, hj, rfl, hb⟩ := hrel
      have HKr := Lib.hid (HK5.out.call hb)
      by_cases hlt : j < 2
      · have ij : (j : Int) < 2 := by omega
        obtain ⟨aL, qL, cL, L, hz, hL⟩ := HC0.out j hlt
        have cz := (hb.cell (p := ⟨g, j, none⟩) HG.out).trans hz
        have HRL := Lib.hid (hL.call hb)
        have HBr := Lib.hid hb
        clear hz hb hL
        go_wp2_with (first
          | (refine wpList_load_row rfl 23 (.tmp 4) rfl w.heap.size rfl _ (bvA k) (0, 0) _ HKr.out.key Tryd.underlying23 rfl HSK.out ?_)
          | (refine wpList_load_row rfl 25 (.tmp 5) rfl (w.heap.size + 1) rfl _ (bvA n) (0, 0) _ HKr.out.nonce Tryd.underlying25 rfl HSN.out ?_))
        refine (Open_any k n HLK.out HLN.out H L ah p ch aL qL cL wr (HT.out.below HKr.out.below HT.out.lt) (HH.out.call HKr.out.below) HRL.out HHL.out).mono ?_
        rintro e w6 hA
        obtain ⟨a6, c6, rfl, ho6, hb6⟩ := hA.open
        have HR6 := Lib.hid ho6.rdv
        have HRL6 := Lib.hid (HRL.out.call hb6)
        have HK6 := Lib.hid (HKr.out.call hb6)
        have HB6 := Lib.hid (HBr.out.trans (hb6.mono HBr.out.size))
        clear hA ho6 hb6 HKr HRL HBr cz
        go_wp2_with (first
          | (refine wpList_load_row rfl 23 (.tmp 4) rfl w.heap.size rfl _ (bvA k) (0, 0) _ HK6.out.key Tryd.underlying23 rfl HSK.out ?_)
          | (refine wpList_load_row rfl 25 (.tmp 5) rfl (w.heap.size + 1) rfl _ (bvA n) (0, 0) _ HK6.out.nonce Tryd.underlying25 rfl HSN.out ?_))
        refine (refOpenAny k n HLK.out HLN.out H L ah p ch aL qL cL w6 (HH.out.call HK6.out.below) HRL6.out HHL.out).mono ?_
        rintro e w7 hA
        obtain ⟨a7, c7, rfl, ho7, hb7⟩ := hA.open
        have v6 := (HR6.out.call hb7).str
        have v7 := ho7.rdv.str
        have HB7 := Lib.hid (HB6.out.trans (hb7.mono HB6.out.size))
        obtain ⟨t6, q6⟩ : ∃ s, (⟨(openX k n H L).toArray⟩ : ByteArray) = s := ⟨_, rfl⟩
        obtain ⟨t7, q7⟩ : ∃ s, (⟨(openX k n H L).toArray⟩ : ByteArray) = s := ⟨_, rfl⟩
        have r67 : (t6.toList == t7.toList) = true := by rw [← q6, ← q7, str_beq]; exact beq_self_eq_true _
        rw [q6] at v6
        rw [q7] at v7
        clear hA ho7 hb7 HK6 HR6 HRL6 HB6 q6 q7
        generalize openE k n H L = er2 at *
        generalize (openX k n H L).length = ol at *
        go_wp2_with fail
        go_roundw
        case rel => exact ⟨j + 1, by omega, by go_num, HB7.out⟩
        case measure => simp [intOf]; omega
      · obtain rfl : j = 2 := by omega
        go_wp2_with fail
        go_ret
        exact ⟨rfl, HKr.out.below⟩
end Go.Proofs.YtcibbghggfklbaaDoor
