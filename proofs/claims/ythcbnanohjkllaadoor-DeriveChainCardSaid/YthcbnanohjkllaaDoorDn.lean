/-
  The walks of DeriveStepSpec, DeriveScalarSpec, DeriveChain and DerivePrivate (chartroomlaw07).
-/
import Derived.Test.YthcbnanohjkllaaDoorDm
import Derived.Test.YthcbnanohjkllaaDoorPkG
namespace Go.Proofs.YthcbnanohjkllaaDoor
open Go.RowKit
set_option linter.unusedVariables false
set_option linter.unusedSimpArgs false

set_option maxRecDepth 100000 in
set_option maxHeartbeats 2000000 in
theorem stepSpec_core (K : List UInt8) (hK : K.length = 32) (n : Int) (Z : List UInt8) (hZ : Z.length = 32) (x : Int) (w : World) (hT : Tab w)
    (hc : decide (60 < n) = false ∨ (decide (60 < n) = true ∧ decide (n ≤ 65536) = false))
    (h1 : ∀ W, Tab W → Calls Tryd.prog 17 #[.agg (bvA K), .int .i64 n] W fun e w' => e = .returned (.tuple #[.agg (bvA Z), .int .i64 x]) ∧ Below W.heap.size W w')
    (h2 : ∀ W, Calls Tryd.prog 18 #[.agg (bvA K), .int .i64 n] W fun e w' => e = .returned (.tuple #[.agg (bvA Z), .int .i64 x]) ∧ Below W.heap.size W w') :
    Calls Tryd.prog 4 #[.agg (bvA K), .int .i64 n] w fun e w' => e = .returned (.bool true) ∧ Below w.heap.size w w' := by
  have HT := Lib.hid hT
  have HLK := Lib.hid hK
  have HLZ := Lib.hid hZ
  have H1 := Lib.hid h1
  have H2 := Lib.hid h2
  have eZ := fun W => equal_keyS Z HLZ.out W
  have HKB1 := Lib.hid ((KB.start w).box K hK)
  clear hT hK hZ h1 h2
  go_enter Tryd.func4, Tryd.ntmps4
  go_wp2_with (go_at_call 10; refine (dsane_any _ (HT.out.below HKB1.out.below HT.out.lt)).mono ?_; rintro e w2 ⟨rfl, hb⟩; refine Hid.out ?_)
  refine Lib.hid ?_
  have HKB2 := Lib.hid (HKB1.out.call hb)
  clear hb HKB1
  generalize w.heap.size = g1 at HKB2 ⊢
  rcases hc with f1 | ⟨f1, f2⟩
  · skip
    go_wp2_with (first
      | (refine wpList_load_row rfl 24 (.tmp 2) rfl g1 rfl _ (bvA K) (0, 0) _ (HKB2.out.key g1 K (by simp)) Tryd.underlying24 rfl (key_sz _ HLK.out) ?_)
      | (go_at_call 17; refine (H1.out _ (HT.out.below HKB2.out.below HT.out.lt)).mono ?_; rintro e v3 ⟨rfl, hb⟩; refine Hid.out ?_))
    refine Lib.hid ?_
    have HKB3 := Lib.hid (HKB2.out.call hb)
    clear hb HKB2
    go_wp2_with (refine wpList_storeA rfl 24 (.tmp 5) (.tmp 21) rfl v3.heap.size (bvA Z) rfl rfl 24 _ (BB.new v3 _ (List.replicate 32 0)) (key_sz _ HLZ.out) (key_old _ HLZ.out) (bvA_one _) ?_)
    intro w4 hst hgr
    have HKB4 := Lib.hid (HKB3.out.add Z HLZ.out hst hgr)
    clear hst hgr HKB3
    generalize v3.heap.size = g2 at *
    clear v3
    go_wp2_with (first
      | (refine wpList_load_row rfl 24 (.tmp 2) rfl g1 rfl _ (bvA K) (0, 0) _ (HKB4.out.key g1 K (by simp)) Tryd.underlying24 rfl (key_sz _ HLK.out) ?_)
      | (go_at_call 18; refine (H2.out _).mono ?_; rintro e v5 ⟨rfl, hb⟩; refine Hid.out ?_))
    refine Lib.hid ?_
    have HKB5 := Lib.hid (HKB4.out.call hb)
    clear hb HKB4
    go_wp2_with (refine wpList_storeA rfl 24 (.tmp 7) (.tmp 27) rfl v5.heap.size (bvA Z) rfl rfl 24 _ (BB.new v5 _ (List.replicate 32 0)) (key_sz _ HLZ.out) (key_old _ HLZ.out) (bvA_one _) ?_)
    intro w6 hst hgr
    have HKB6 := Lib.hid (HKB5.out.add Z HLZ.out hst hgr)
    clear hst hgr HKB5
    generalize v5.heap.size = g3 at *
    clear v5
    go_wp2_with (first
      | (refine wpList_load_row rfl 24 (.tmp 5) rfl g2 rfl _ (bvA Z) (0, 0) _ (HKB6.out.key g2 Z (by simp)) Tryd.underlying24 rfl (key_sz _ HLZ.out) ?_)
      | (refine wpList_load_row rfl 24 (.tmp 7) rfl g3 rfl _ (bvA Z) (0, 0) _ (HKB6.out.key g3 Z (by simp)) Tryd.underlying24 rfl (key_sz _ HLZ.out) ?_))
    go_ret
    exact ⟨rfl, HKB6.out.below⟩
  · skip
    go_wp2_with (first
      | (refine wpList_load_row rfl 24 (.tmp 2) rfl g1 rfl _ (bvA K) (0, 0) _ (HKB2.out.key g1 K (by simp)) Tryd.underlying24 rfl (key_sz _ HLK.out) ?_)
      | (go_at_call 17; refine (H1.out _ (HT.out.below HKB2.out.below HT.out.lt)).mono ?_; rintro e v3 ⟨rfl, hb⟩; refine Hid.out ?_))
    refine Lib.hid ?_
    have HKB3 := Lib.hid (HKB2.out.call hb)
    clear hb HKB2
    go_wp2_with (refine wpList_storeA rfl 24 (.tmp 5) (.tmp 21) rfl v3.heap.size (bvA Z) rfl rfl 24 _ (BB.new v3 _ (List.replicate 32 0)) (key_sz _ HLZ.out) (key_old _ HLZ.out) (bvA_one _) ?_)
    intro w4 hst hgr
    have HKB4 := Lib.hid (HKB3.out.add Z HLZ.out hst hgr)
    clear hst hgr HKB3
    generalize v3.heap.size = g2 at *
    clear v3
    go_wp2_with (first
      | (refine wpList_load_row rfl 24 (.tmp 2) rfl g1 rfl _ (bvA K) (0, 0) _ (HKB4.out.key g1 K (by simp)) Tryd.underlying24 rfl (key_sz _ HLK.out) ?_)
      | (go_at_call 18; refine (H2.out _).mono ?_; rintro e v5 ⟨rfl, hb⟩; refine Hid.out ?_))
    refine Lib.hid ?_
    have HKB5 := Lib.hid (HKB4.out.call hb)
    clear hb HKB4
    go_wp2_with (refine wpList_storeA rfl 24 (.tmp 7) (.tmp 27) rfl v5.heap.size (bvA Z) rfl rfl 24 _ (BB.new v5 _ (List.replicate 32 0)) (key_sz _ HLZ.out) (key_old _ HLZ.out) (bvA_one _) ?_)
    intro w6 hst hgr
    have HKB6 := Lib.hid (HKB5.out.add Z HLZ.out hst hgr)
    clear hst hgr HKB5
    generalize v5.heap.size = g3 at *
    clear v5
    go_wp2_with (first
      | (refine wpList_load_row rfl 24 (.tmp 5) rfl g2 rfl _ (bvA Z) (0, 0) _ (HKB6.out.key g2 Z (by simp)) Tryd.underlying24 rfl (key_sz _ HLZ.out) ?_)
      | (refine wpList_load_row rfl 24 (.tmp 7) rfl g3 rfl _ (bvA Z) (0, 0) _ (HKB6.out.key g3 Z (by simp)) Tryd.underlying24 rfl (key_sz _ HLZ.out) ?_))
    go_ret
    exact ⟨rfl, HKB6.out.below⟩

set_option maxRecDepth 100000 in
set_option maxHeartbeats 2000000 in
theorem stepSpec_mid (K : List UInt8) (hK : K.length = 32) (n : Int) (w : World) (hT : Tab w) (f1 : decide (60 < n) = true) (f2 : decide (n ≤ 65536) = true) :
    Calls Tryd.prog 4 #[.agg (bvA K), .int .i64 n] w fun e w' => e = .returned (.bool true) ∧ Below w.heap.size w w' := by
  have HT := Lib.hid hT
  have HKB1 := Lib.hid ((KB.start w).box K hK)
  clear hT
  go_enter Tryd.func4, Tryd.ntmps4
  go_wp2_with (go_at_call 10; refine (dsane_any _ (HT.out.below HKB1.out.below HT.out.lt)).mono ?_; rintro e w2 ⟨rfl, hb⟩; refine Hid.out ?_)
  refine Lib.hid ?_
  have HKB2 := Lib.hid (HKB1.out.call hb)
  clear hb HKB1
  go_wp2_with fail
  go_ret
  exact ⟨rfl, HKB2.out.below⟩
theorem stepSpec_walk7 (K : List UInt8) (hK : K.length = 32) (n : Int) (w : World) (hT : Tab w) :
    Calls Tryd.prog 4 #[.agg (bvA K), .int .i64 n] w fun e w' => e = .returned (.bool true) ∧ Below w.heap.size w w' := by
  have hz : zeroKey.length = 32 := by decide
  by_cases h0 : n < 0
  · exact stepSpec_core K hK n zeroKey hz 1 w hT (.inl (decide_eq_false (by omega))) (fun W _ => Step_neg K hK n h0 W) (fun W => rStep_neg K hK n h0 W)
  by_cases h1 : n ≤ 60
  · obtain ⟨m, rfl⟩ : ∃ m : Nat, n = m := ⟨n.toNat, by omega⟩
    exact stepSpec_core K hK m (stepS K m) (stepS_len hK m) 0 w hT (.inl (decide_eq_false (by omega))) (fun W h => Step_ok K hK m (by omega) W h) (fun W => rStep_ok K hK m (by omega) W)
  by_cases h2 : n ≤ 65536
  · exact stepSpec_mid K hK n w hT (decide_eq_true (by omega)) (decide_eq_true h2)
  · exact stepSpec_core K hK n zeroKey hz 2 w hT (.inr ⟨decide_eq_true (by omega), decide_eq_false h2⟩) (fun W _ => Step_big K hK n (by omega) W) (fun W => rStep_big K hK n (by omega) W)

set_option maxRecDepth 100000 in
set_option maxHeartbeats 2000000 in
theorem scalarSpec_walk7 (K : List UInt8) (hK : K.length = 32) (s : ByteArray) (w : World) (hs : s.size ≤ maxLen) (hT : Tab w) :
    Calls Tryd.prog 5 #[.agg (bvA K), .string s] w fun e w' => e = .returned (.bool true) ∧ Below w.heap.size w w' := by
  have HT := Lib.hid hT
  have HLK := Lib.hid hK
  have HKB1 := Lib.hid ((KB.start w).box K hK)
  clear hT hK
  go_enter Tryd.func5, Tryd.ntmps5
  go_wp2_with (go_at_call 10; refine (dsane_any _ (HT.out.below HKB1.out.below HT.out.lt)).mono ?_; rintro e w2 ⟨rfl, hb⟩; refine Hid.out ?_)
  refine Lib.hid ?_
  have HKB2 := Lib.hid (HKB1.out.call hb)
  clear hb HKB1
  generalize w.heap.size = g1 at HKB2 ⊢
  by_cases hl : 500 < s.size
  · have f1 : decide ((500 : Int) < (s.size : Int)) = true := decide_eq_true (by omega)
    go_wp2_with fail
    go_ret
    exact ⟨rfl, HKB2.out.below⟩
  have f1 : decide ((500 : Int) < (s.size : Int)) = false := decide_eq_false (by omega)
  have H1 := Lib.hid (fun W h => DScalar_any K HLK.out s W h (by omega))
  have H2 := Lib.hid (fun W => rDScalar_any K HLK.out s W (by omega))
  have hsb := scS_bd K s
  generalize scS K s = x at *
  have f2 : decide ((0 : Int) < (x : Int)) = true := decide_eq_true (by omega)
  have f3 : decide ((x : Int) < 2305843009213688669) = true := decide_eq_true (by omega)
  have hx0 : 0 < x := by omega
  have HSB := Lib.hid hsb
  clear hsb
  go_wp2_with (first
      | (refine wpList_load_row rfl 24 (.tmp 2) rfl g1 rfl _ (bvA K) (0, 0) _ (HKB2.out.key g1 K (by simp)) Tryd.underlying24 rfl (key_sz _ HLK.out) ?_)
      | (go_at_call 19; refine (H1.out _ (HT.out.below HKB2.out.below HT.out.lt)).mono ?_; rintro e w3 ⟨rfl, hb⟩; refine Hid.out ?_))
  refine Lib.hid ?_
  have HKB3 := Lib.hid (HKB2.out.call hb)
  clear hb HKB2
  go_wp2_with (first
      | (refine wpList_load_row rfl 24 (.tmp 2) rfl g1 rfl _ (bvA K) (0, 0) _ (HKB3.out.key g1 K (by simp)) Tryd.underlying24 rfl (key_sz _ HLK.out) ?_)
      | (go_at_call 20; refine (H2.out _).mono ?_; rintro e w4 ⟨rfl, hb⟩; refine Hid.out ?_))
  refine Lib.hid ?_
  have HKB4 := Lib.hid (HKB3.out.call hb)
  clear hb HKB3
  go_wp2_with fail
  go_ret
  exact ⟨rfl, HKB4.out.below⟩

set_option maxRecDepth 100000 in
set_option maxHeartbeats 2000000 in
theorem chain_walk7 (K : List UInt8) (hK : K.length = 32) (m n : Int) (hm : (Lit.int .u8 m).wf = true) (hn : (Lit.int .u8 n).wf = true) (w : World) (hT : Tab w) :
    Calls Tryd.prog 6 #[.agg (bvA K), .int .u8 m, .int .u8 n] w fun e w' => e = .returned (.bool true) ∧ Below w.heap.size w w' := by
  have hm2 := bounds_u8 hm
  have hn2 := bounds_u8 hn
  obtain ⟨p, rfl⟩ : ∃ p : Nat, m = p := ⟨m.toNat, by omega⟩
  obtain ⟨q, rfl⟩ : ∃ q : Nat, n = q := ⟨n.toNat, by omega⟩
  obtain ⟨a, ha⟩ : ∃ a, p % 24 = a := ⟨_, rfl⟩
  obtain ⟨b, hb0⟩ : ∃ b, q % 24 = b := ⟨_, rfl⟩
  have t1 : (p : Int).tmod 24 = (a : Int) := by rw [Int.tmod_eq_emod_of_nonneg (by omega)]; omega
  have t2 : (q : Int).tmod 24 = (b : Int) := by rw [Int.tmod_eq_emod_of_nonneg (by omega)]; omega
  have hab : a < 24 ∧ b < 24 := by omega
  clear ha hb0 hm hn
  have HT := Lib.hid hT
  have HLK := Lib.hid hK
  have HKB1 := Lib.hid ((KB.start w).box K hK)
  have H1 := Lib.hid (fun W h => Step_ok K hK a (by omega) W h)
  have H2 := Lib.hid (fun W h => Step_ok (stepS K a) (stepS_len hK a) b (by omega) W h)
  have H3 := Lib.hid (fun W h => Step_ok K hK (a + b) (by omega) W h)
  rw [stepS_add] at H2
  have HL1 := Lib.hid (stepS_len hK a)
  have HL2 := Lib.hid (stepS_len hK (a + b))
  generalize stepS K (a + b) = Z at *
  generalize stepS K a = X at *
  rw [show ((a + b : Nat) : Int) = (a : Int) + (b : Int) by omega] at H3
  have eZ := fun W => equal_keyS Z HL2.out W
  have HAB := Lib.hid hab
  have i1 : (a : Int) + (b : Int) < 48 := by omega
  clear hT hK hab hm2 hn2
  go_enter Tryd.func6, Tryd.ntmps6
  go_wp2_with (go_at_call 10; refine (dsane_any _ (HT.out.below HKB1.out.below HT.out.lt)).mono ?_; rintro e w2 ⟨rfl, hb⟩; refine Hid.out ?_)
  refine Lib.hid ?_
  have HKB2 := Lib.hid (HKB1.out.call hb)
  clear hb HKB1
  generalize w.heap.size = g1 at HKB2 ⊢
  go_wp2_with (first
      | (refine wpList_load_row rfl 24 (.tmp 3) rfl g1 rfl _ (bvA K) (0, 0) _ (HKB2.out.key g1 K (by simp)) Tryd.underlying24 rfl (key_sz _ HLK.out) ?_)
      | (go_at_call 17; refine (H1.out _ (HT.out.below HKB2.out.below HT.out.lt)).mono ?_; rintro e v3 ⟨rfl, hb⟩; refine Hid.out ?_))
  refine Lib.hid ?_
  have HKB3 := Lib.hid (HKB2.out.call hb)
  clear hb HKB2
  go_wp2_with (refine wpList_storeA rfl 24 (.tmp 9) (.tmp 27) rfl v3.heap.size (bvA X) rfl rfl 24 _ (BB.new v3 _ (List.replicate 32 0)) (key_sz _ HL1.out) (key_old _ HL1.out) (bvA_one _) ?_)
  intro w4 hst hgr
  have HKB4 := Lib.hid (HKB3.out.add X HL1.out hst hgr)
  clear hst hgr HKB3
  generalize v3.heap.size = g2 at *
  clear v3
  go_wp2_with (first
      | (refine wpList_load_row rfl 24 (.tmp 9) rfl g2 rfl _ (bvA X) (0, 0) _ (HKB4.out.key g2 X (by simp)) Tryd.underlying24 rfl (key_sz _ HL1.out) ?_)
      | (go_at_call 17; refine (H2.out _ (HT.out.below HKB4.out.below HT.out.lt)).mono ?_; rintro e v5 ⟨rfl, hb⟩; refine Hid.out ?_))
  refine Lib.hid ?_
  have HKB5 := Lib.hid (HKB4.out.call hb)
  clear hb HKB4
  go_wp2_with (refine wpList_storeA rfl 24 (.tmp 11) (.tmp 33) rfl v5.heap.size (bvA Z) rfl rfl 24 _ (BB.new v5 _ (List.replicate 32 0)) (key_sz _ HL2.out) (key_old _ HL2.out) (bvA_one _) ?_)
  intro w6 hst hgr
  have HKB6 := Lib.hid (HKB5.out.add Z HL2.out hst hgr)
  clear hst hgr HKB5
  generalize v5.heap.size = g3 at *
  clear v5
  go_wp2_with (first
      | (refine wpList_load_row rfl 24 (.tmp 3) rfl g1 rfl _ (bvA K) (0, 0) _ (HKB6.out.key g1 K (by simp)) Tryd.underlying24 rfl (key_sz _ HLK.out) ?_)
      | (go_at_call 17; refine (H3.out _ (HT.out.below HKB6.out.below HT.out.lt)).mono ?_; rintro e v7 ⟨rfl, hb⟩; refine Hid.out ?_))
  refine Lib.hid ?_
  have HKB7 := Lib.hid (HKB6.out.call hb)
  clear hb HKB6
  go_wp2_with (refine wpList_storeA rfl 24 (.tmp 13) (.tmp 41) rfl v7.heap.size (bvA Z) rfl rfl 24 _ (BB.new v7 _ (List.replicate 32 0)) (key_sz _ HL2.out) (key_old _ HL2.out) (bvA_one _) ?_)
  intro w8 hst hgr
  have HKB8 := Lib.hid (HKB7.out.add Z HL2.out hst hgr)
  clear hst hgr HKB7
  generalize v7.heap.size = g4 at *
  clear v7
  go_wp2_with (first
      | (refine wpList_load_rowG (by rfl) 24 (.tmp 11) rfl g3 rfl _ (bvA Z) (0, 0) _ (HKB8.out.key g3 Z (by simp)) Tryd.underlying24 rfl (key_sz _ HL2.out) ?_)
      | (refine wpList_load_rowG (by rfl) 24 (.tmp 13) rfl g4 rfl _ (bvA Z) (0, 0) _ (HKB8.out.key g4 Z (by simp)) Tryd.underlying24 rfl (key_sz _ HL2.out) ?_))
  go_ret
  exact ⟨rfl, HKB8.out.below⟩
end Go.Proofs.YthcbnanohjkllaaDoor
