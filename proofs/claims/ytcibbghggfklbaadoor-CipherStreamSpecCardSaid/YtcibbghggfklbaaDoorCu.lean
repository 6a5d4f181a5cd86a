/-
  The walks of chartroomlaw06.CipherBlockSpec and CipherStreamSpec.
-/
import Derived.Test.YtcibbghggfklbaaDoorRs
namespace Go.Proofs.YtcibbghggfklbaaDoor
open Go.RowKit
set_option linter.unusedVariables false
set_option linter.unusedSimpArgs false

set_option maxRecDepth 100000 in
set_option maxHeartbeats 4000000 in
theorem blockSpec_walk6 (k n : List UInt8) (hk : k.length = 32) (hn : n.length = 12) (c : Int) (w : World) (hT : Tab w)  :
    Calls Tryd.prog 3 #[.agg (bvA k), .agg (bvA n), .int .i64 c] w fun e w' => e = .returned (.bool true) ∧ Below w.heap.size w w' := by
  have HSK := Lib.hid (key_size k hk)
  have HSN := Lib.hid (nonce_size n hn)
  have HLK := Lib.hid hk
  have HLN := Lib.hid hn
  have HT := Lib.hid hT
  obtain ⟨w1, hw1⟩ : ∃ w1, w1 = (w.alloc (.cells (bvA k) 23)).alloc (.cells (bvA n) 25) := ⟨_, rfl⟩
  have HK1 : Hid (KN w k n w1) := Lib.hid (hw1 ▸ KN.start w k n)
  clear hk hn hT
  go_enter Tryd.func3, Tryd.ntmps3
  go_wp2_with fail
  rw [← hw1]
  clear hw1
  refine (csane6_any w1 (HT.out.below HK1.out.below HT.out.lt)).mono ?_
  rintro e w2 ⟨rfl, hb2⟩
  have HK2 := Lib.hid (HK1.out.call hb2)
  clear hb2 HK1
  obtain ⟨x, hx, hx2⟩ := and_mask c 65535 (by decide)
  replace hx : bits .and .i64 c 65535 = (x : Int) := hx
  have hb0 : Below w2.heap.size w2 (w2.alloc (.cells #[.int .i64 c, .int .i64 (x : Int), .int .i64 0, .int .i64 4294967295, .int .i64 4294967296] 3)) := (Below.refl _ _).alloc (Nat.le_refl _) _
  have hc0 : ∀ j, j < 5 → ∃ z : Int, (w2.alloc (.cells #[.int .i64 c, .int .i64 (x : Int), .int .i64 0, .int .i64 4294967295, .int .i64 4294967296] 3)).cell? ⟨w2.heap.size, j, none⟩ = some (.int .i64 z) := by
    intro j hj
    have hc := fun i => cell_of_row _ _ i _ _ _ (heap_alloc_new w2 (.cells #[.int .i64 c, .int .i64 (x : Int), .int .i64 0, .int .i64 4294967295, .int .i64 4294967296] 3))
    match j, hj with
    | 0, _ => exact ⟨_, hc 0⟩
    | 1, _ => exact ⟨_, hc 1⟩
    | 2, _ => exact ⟨_, hc 2⟩
    | 3, _ => exact ⟨_, hc 3⟩
    | 4, _ => exact ⟨_, hc 4⟩
  have HC0 := Lib.hid hc0
  have HK3 := Lib.hid (HK2.out.call hb0)
  have HG : Hid (w2.heap.size < (w2.alloc (.cells #[.int .i64 c, .int .i64 (x : Int), .int .i64 0, .int .i64 4294967295, .int .i64 4294967296] 3)).heap.size) := Lib.hid (by rw [alloc_size]; omega)
  clear hb0 hc0 hx2
  go_wp2_with fail
  generalize w2.alloc (.cells #[.int .i64 c, .int .i64 (x : Int), .int .i64 0, .int .i64 4294967295, .int .i64 4294967296] 3) = w3 at *
  obtain ⟨g, hg⟩ : ∃ g, w2.heap.size = g := ⟨_, rfl⟩
  rw [hg] at HC0 HG ⊢
  clear hg HK2
  go_loopw [20] (fun i wr => ∃ j : Nat, j ≤ 5 ∧ i = .int .i64 j ∧ Below w3.heap.size w3 wr) (fun i _ => 5 - (intOf i).toNat)
  case atStart => exact ⟨0, by omega, rfl, Below.refl _ _⟩
  case round =>
    obtain ⟨j, hj, rfl, hb⟩ := hrel
    have HKr := Lib.hid (HK3.out.call hb)
    by_cases hlt : j < 5
    · have ij : (j : Int) < 5 := by omega
      obtain ⟨z, hz⟩ := HC0.out j hlt
      have cz := (hb.cell (p := ⟨g, j, none⟩) HG.out).trans hz
      have HB := Lib.hid hb
      clear hz hb
      go_wp2_with (first
              | (refine wpList_load_row rfl 23 (.tmp 3) rfl w.heap.size rfl _ (bvA k) (0, 0) _ HKr.out.key Tryd.underlying23 rfl HSK.out ?_)
              | (refine wpList_load_row rfl 25 (.tmp 4) rfl (w.heap.size + 1) rfl _ (bvA n) (0, 0) _ HKr.out.nonce Tryd.underlying25 rfl HSN.out ?_))
      refine (Block_any k n HLK.out HLN.out z wr).mono ?_
      rintro e w4 hA
      obtain ⟨a4, c4, rfl, hr4, hb4⟩ := hA.open
      have HR4 := Lib.hid hr4
      have HK4 := Lib.hid (HKr.out.call hb4)
      have HB4 := Lib.hid (HB.out.trans (hb4.mono HB.out.size))
      clear hA hr4 hb4 HB HKr cz
      go_wp2_with (first
              | (refine wpList_load_row rfl 23 (.tmp 3) rfl w.heap.size rfl _ (bvA k) (0, 0) _ HK4.out.key Tryd.underlying23 rfl HSK.out ?_)
              | (refine wpList_load_row rfl 25 (.tmp 4) rfl (w.heap.size + 1) rfl _ (bvA n) (0, 0) _ HK4.out.nonce Tryd.underlying25 rfl HSN.out ?_))
      refine (refBlockAny k n HLK.out HLN.out z w4).mono ?_
      rintro e w5 hA
      obtain ⟨a5, c5, rfl, hr5, hb5⟩ := hA.open
      have v4 := (HR4.out.call hb5).str
      have v5 := hr5.str
      have HB5 := Lib.hid (HB4.out.trans (hb5.mono HB4.out.size))
      obtain ⟨t4, q4⟩ : ∃ s, (⟨(blockX k n z).toArray⟩ : ByteArray) = s := ⟨_, rfl⟩
      obtain ⟨t5, q5⟩ : ∃ s, (⟨(blockX k n z).toArray⟩ : ByteArray) = s := ⟨_, rfl⟩
      have r45 : (t4.toList == t5.toList) = true := by rw [← q4, ← q5, str_beq]; exact beq_self_eq_true _
      rw [q4] at v4
      rw [q5] at v5
      clear hA hr5 hb5 HB4 HR4 q4 q5
      generalize blockE z = er at *
      generalize (blockX k n z).length = xl at *
      go_wp2_with fail
      go_roundw
      case rel => exact ⟨j + 1, by omega, by go_num, HB5.out⟩
      case measure => simp [intOf]; omega
    · obtain rfl : j = 5 := by omega
      go_wp2_with fail
      go_ret
      exact ⟨rfl, HKr.out.below⟩

set_option maxRecDepth 100000 in
set_option maxHeartbeats 4000000 in
theorem streamSpec_walk6 (k n : List UInt8) (hk : k.length = 32) (hn : n.length = 12) (B : List UInt8) (ab : Option Addr) (q cb : Nat) (w : World) (hT : Tab w) (hB : RdV w (.slice ab q cb) B) :
    Calls Tryd.prog 4 #[.agg (bvA k), .agg (bvA n), .slice ab q cb] w fun e w' => e = .returned (.bool true) ∧ Below w.heap.size w w' := by
  have HSK := Lib.hid (key_size k hk)
  have HSN := Lib.hid (nonce_size n hn)
  have HLK := Lib.hid hk
  have HLN := Lib.hid hn
  have HT := Lib.hid hT
  obtain ⟨w1, hw1⟩ : ∃ w1, w1 = (w.alloc (.cells (bvA k) 23)).alloc (.cells (bvA n) 25) := ⟨_, rfl⟩
  have HK1 : Hid (KN w k n w1) := Lib.hid (hw1 ▸ KN.start w k n)
  clear hk hn hT
  have HB := Lib.hid hB
  have hm : q ≤ 9223372036854775807 := by
    obtain ⟨a', c', e, h1, _⟩ := hB.form
    injection e with e1 e2 e3
    have := h1.1
    unfold maxLen at this
    omega
  clear hB
  go_enter Tryd.func4, Tryd.ntmps4
  go_wp2_with fail
  rw [← hw1]
  clear hw1
  refine (csane6_any w1 (HT.out.below HK1.out.below HT.out.lt)).mono ?_
  rintro e w2 ⟨rfl, hb2⟩
  have HK2 := Lib.hid (HK1.out.call hb2)
  clear hb2 HK1
  by_cases g1 : 400 < q ∧ q ≤ 65536
  · have f1 : decide ((400 : Int) < (q : Int)) = true := decide_eq_true (by omega)
    have f2 : decide ((q : Int) ≤ 65536) = true := decide_eq_true (by omega)
    go_wp2_with fail
    go_ret
    exact ⟨rfl, HK2.out.below⟩
  by_cases g2 : 70000 < q
  · have f1 : decide ((400 : Int) < (q : Int)) = true := decide_eq_true (by omega)
    have f2 : decide ((q : Int) ≤ 65536) = false := decide_eq_false (by omega)
    have f3 : decide ((70000 : Int) < (q : Int)) = true := decide_eq_true (by omega)
    go_wp2_with fail
    go_ret
    exact ⟨rfl, HK2.out.below⟩
  have f3 : decide ((70000 : Int) < (q : Int)) = false := decide_eq_false (by omega)
  have f12 : decide ((400 : Int) < (q : Int)) = false ∨ (decide ((400 : Int) < (q : Int)) = true ∧ decide ((q : Int) ≤ 65536) = false) := by
    by_cases h : 400 < q
    · exact .inr ⟨decide_eq_true (by omega), decide_eq_false (by omega)⟩
    · exact .inl (decide_eq_false (by omega))
  clear g1 g2
  rcases f12 with f1 | ⟨f1, f2⟩
  · go_wp2_with (first
      | (refine wpList_load_row rfl 23 (.tmp 3) rfl w.heap.size rfl _ (bvA k) (0, 0) _ HK2.out.key Tryd.underlying23 rfl HSK.out ?_)
      | (refine wpList_load_row rfl 25 (.tmp 4) rfl (w.heap.size + 1) rfl _ (bvA n) (0, 0) _ HK2.out.nonce Tryd.underlying25 rfl HSN.out ?_))
    refine (Stream_any k n HLK.out HLN.out B ab q cb w2 (HB.out.call HK2.out.below)).mono ?_
    rintro e w3 hA
    obtain ⟨a3, c3, rfl, ho3, hb3⟩ := hA.open
    have HR3 := Lib.hid ho3.rdv
    have HK3 := Lib.hid (HK2.out.call hb3)
    clear hA ho3 hb3 HK2
    go_wp2_with (first
      | (refine wpList_load_row rfl 23 (.tmp 3) rfl w.heap.size rfl _ (bvA k) (0, 0) _ HK3.out.key Tryd.underlying23 rfl HSK.out ?_)
      | (refine wpList_load_row rfl 25 (.tmp 4) rfl (w.heap.size + 1) rfl _ (bvA n) (0, 0) _ HK3.out.nonce Tryd.underlying25 rfl HSN.out ?_))
    refine (refStreamAny k n HLK.out HLN.out B ab q cb w3 (HB.out.call HK3.out.below)).mono ?_
    rintro e w4 hA
    obtain ⟨a4, c4, rfl, ho4, hb4⟩ := hA.open
    have v3 := (HR3.out.call hb4).str
    have v4 := ho4.rdv.str
    have HK4 := Lib.hid (HK3.out.call hb4)
    obtain ⟨t3, q3⟩ : ∃ s, (⟨(streamX k n B).toArray⟩ : ByteArray) = s := ⟨_, rfl⟩
    obtain ⟨t4, q4⟩ : ∃ s, (⟨(streamX k n B).toArray⟩ : ByteArray) = s := ⟨_, rfl⟩
    have r34 : (t3.toList == t4.toList) = true := by rw [← q3, ← q4, str_beq]; exact beq_self_eq_true _
    rw [q3] at v3
    rw [q4] at v4
    clear hA ho4 hb4 HK3 HR3 q3 q4
    generalize streamE B = er at *
    generalize (streamX k n B).length = xl at *
    go_wp2_with fail
    go_ret
    exact ⟨rfl, HK4.out.below⟩
  · go_wp2_with (first
      | (refine wpList_load_row rfl 23 (.tmp 3) rfl w.heap.size rfl _ (bvA k) (0, 0) _ HK2.out.key Tryd.underlying23 rfl HSK.out ?_)
      | (refine wpList_load_row rfl 25 (.tmp 4) rfl (w.heap.size + 1) rfl _ (bvA n) (0, 0) _ HK2.out.nonce Tryd.underlying25 rfl HSN.out ?_))
    refine (Stream_any k n HLK.out HLN.out B ab q cb w2 (HB.out.call HK2.out.below)).mono ?_
    rintro e w3 hA
    obtain ⟨a3, c3, rfl, ho3, hb3⟩ := hA.open
    have HR3 := Lib.hid ho3.rdv
    have HK3 := Lib.hid (HK2.out.call hb3)
    clear hA ho3 hb3 HK2
    go_wp2_with (first
      | (refine wpList_load_row rfl 23 (.tmp 3) rfl w.heap.size rfl _ (bvA k) (0, 0) _ HK3.out.key Tryd.underlying23 rfl HSK.out ?_)
      | (refine wpList_load_row rfl 25 (.tmp 4) rfl (w.heap.size + 1) rfl _ (bvA n) (0, 0) _ HK3.out.nonce Tryd.underlying25 rfl HSN.out ?_))
    refine (refStreamAny k n HLK.out HLN.out B ab q cb w3 (HB.out.call HK3.out.below)).mono ?_
    rintro e w4 hA
    obtain ⟨a4, c4, rfl, ho4, hb4⟩ := hA.open
    have v3 := (HR3.out.call hb4).str
    have v4 := ho4.rdv.str
    have HK4 := Lib.hid (HK3.out.call hb4)
    obtain ⟨t3, q3⟩ : ∃ s, (⟨(streamX k n B).toArray⟩ : ByteArray) = s := ⟨_, rfl⟩
    obtain ⟨t4, q4⟩ : ∃ s, (⟨(streamX k n B).toArray⟩ : ByteArray) = s := ⟨_, rfl⟩
    have r34 : (t3.toList == t4.toList) = true := by rw [← q3, ← q4, str_beq]; exact beq_self_eq_true _
    rw [q3] at v3
    rw [q4] at v4
    clear hA ho4 hb4 HK3 HR3 q3 q4
    generalize streamE B = er at *
    generalize (streamX k n B).length = xl at *
    go_wp2_with fail
    go_ret
    exact ⟨rfl, HK4.out.below⟩
end Go.Proofs.YtcibbghggfklbaaDoor
