/-
  Package cipher: mix; mix of the reference.
-/
import Derived.Test.YtcibbghggfklbaaDoorCr
import Derived.Test.YtcibbghggfklbaaDoorPkA
import Derived.Test.YtcibbghggfklbaaDoorQt
namespace Go.Proofs.YtcibbghggfklbaaDoor
open Go.RowKit
set_option linter.unusedVariables false
set_option linter.unusedSimpArgs false

set_option maxRecDepth 100000 in
set_option maxHeartbeats 4000000 in
theorem mix_any (R : Nat) (v : List Nat) (a b c d : Nat) (w : World) (hv : v.length = 16) (ha : a < 16) (hb : b < 16) (hc : c < 16) (hd : d < 16) (h : WB w R 48 v) :
    Calls Tryd.prog 30 #[.pointer (some ⟨R, 0, none⟩), .int .i64 (a : Int), .int .i64 (b : Int), .int .i64 (c : Int), .int .i64 (d : Int)] w fun e w' => e = .returned (.tuple #[]) ∧ WB w' R 48 (cmix v a b c d) ∧ w.grownBy w' (some R) := by
  have HC : Hid (cmix v a b c d = cxr (cadd (cxr (cadd (cxr (cadd (cxr (cadd v a b) d a 16) c d) b c 12) a b) d a 8) c d) b c 7) := Lib.hid rfl
  have HL0 := Lib.hid hv
  have HW0 := Lib.hid h
  have HG0 : Hid (w.grownBy w (some R)) := Lib.hid ⟨rfl, rfl, rfl, Nat.le_refl _, fun _ _ _ => rfl⟩
  have ia : (a : Int) < 16 := by omega
  have ib : (b : Int) < 16 := by omega
  have ic : (c : Int) < 16 := by omega
  have id : (d : Int) < 16 := by omega
  clear hv h
  go_enter Tryd.func30, Tryd.ntmps30
  -- 0: cadd v a b
  obtain ⟨v1, hv0⟩ : ∃ V, V = cadd v a b := ⟨_, rfl⟩
  have HX0 : Hid (v1 = v.set a (uadd (v.getD a 0) (v.getD b 0))) := by rw [hv0]; exact Lib.hid rfl
  rw [← hv0] at HC
  have hl1 : v1.length = 16 := by rw [hv0, cadd_len, HL0.out]
  have HL1 := Lib.hid hl1
  clear hv0 hl1
  have cx := HW0.out.cellD a (by rw [HL0.out]; exact ha)
  have cy := HW0.out.cellD b (by rw [HL0.out]; exact hb)
  have cf := HW0.out.frozen a
  generalize v.getD a 0 = p0 at *
  generalize v.getD b 0 = q0 at *
  go_wp2_with fail
  go_still_tail 13, (by kernel_rfl)
  change wpList _ _ _ _ _ w.drew
  go_wp2_with fail
  have HW1 : Hid (WB ((w.setCell ⟨R, a, none⟩ (.int .u32 ((uadd p0 q0 : Nat) : Int))).drew) R 48 v1) := by rw [HX0.out]; exact Lib.hid ((HW0.out.set_ a _).drew)
  have HG1 : Hid (w.grownBy ((w.setCell ⟨R, a, none⟩ (.int .u32 ((uadd p0 q0 : Nat) : Int))).drew) (some R)) := Lib.hid (grown_drew (grown_set HG0.out _ _))
  try rw [w_add]
  generalize (w.setCell ⟨R, a, none⟩ (.int .u32 ((uadd p0 q0 : Nat) : Int))).drew = w1 at *
  clear cx cy cf HW0 HG0 HX0
  -- 1: cxr v1 d a 16
  obtain ⟨v2, hv1⟩ : ∃ V, V = cxr v1 d a 16 := ⟨_, rfl⟩
  have HX1 : Hid (v2 = v1.set d (crol (uxor (v1.getD d 0) (v1.getD a 0)) 16)) := by rw [hv1]; exact Lib.hid rfl
  rw [← hv1] at HC
  have hl2 : v2.length = 16 := by rw [hv1, cxr_len, HL1.out]
  have HL2 := Lib.hid hl2
  clear hv1 hl2
  have cx := HW1.out.cellD d (by rw [HL1.out]; exact hd)
  have cy := HW1.out.cellD a (by rw [HL1.out]; exact ha)
  have cf := HW1.out.frozen d
  generalize v1.getD d 0 = p1 at *
  generalize v1.getD a 0 = q1 at *
  go_wp2_with fail
  refine wp_region_still_tail 16 (by kernel_rfl) (by kernel_rfl) ?_
  simp only [List.take_succ_cons, List.take_zero, List.drop_succ_cons, List.drop_zero]
  iterate 13 still_step
  rw [w_xor]
  still_call (rotL (uxor p1 q1) 16 _ rfl (by decide) _)
  iterate 2 still_step
  refine wpStill_nil ?_
  change wpList _ _ _ _ _ w1.drew
  go_wp2_with fail
  have HW2 : Hid (WB ((w1.setCell ⟨R, d, none⟩ (.int .u32 ((crol (uxor p1 q1) 16 : Nat) : Int))).drew) R 48 v2) := by rw [HX1.out]; exact Lib.hid ((HW1.out.set_ d _).drew)
  have HG2 : Hid (w.grownBy ((w1.setCell ⟨R, d, none⟩ (.int .u32 ((crol (uxor p1 q1) 16 : Nat) : Int))).drew) (some R)) := Lib.hid (grown_drew (grown_set HG1.out _ _))
  generalize (w1.setCell ⟨R, d, none⟩ (.int .u32 ((crol (uxor p1 q1) 16 : Nat) : Int))).drew = w2 at *
  clear cx cy cf HW1 HG1 HX1
  -- 2: cadd v2 c d
  obtain ⟨v3, hv2⟩ : ∃ V, V = cadd v2 c d := ⟨_, rfl⟩
  have HX2 : Hid (v3 = v2.set c (uadd (v2.getD c 0) (v2.getD d 0))) := by rw [hv2]; exact Lib.hid rfl
  rw [← hv2] at HC
  have hl3 : v3.length = 16 := by rw [hv2, cadd_len, HL2.out]
  have HL3 := Lib.hid hl3
  clear hv2 hl3
  have cx := HW2.out.cellD c (by rw [HL2.out]; exact hc)
  have cy := HW2.out.cellD d (by rw [HL2.out]; exact hd)
  have cf := HW2.out.frozen c
  generalize v2.getD c 0 = p2 at *
  generalize v2.getD d 0 = q2 at *
  go_wp2_with fail
  go_still_tail 13, (by kernel_rfl)
  change wpList _ _ _ _ _ w2.drew
  go_wp2_with fail
  have HW3 : Hid (WB ((w2.setCell ⟨R, c, none⟩ (.int .u32 ((uadd p2 q2 : Nat) : Int))).drew) R 48 v3) := by rw [HX2.out]; exact Lib.hid ((HW2.out.set_ c _).drew)
  have HG3 : Hid (w.grownBy ((w2.setCell ⟨R, c, none⟩ (.int .u32 ((uadd p2 q2 : Nat) : Int))).drew) (some R)) := Lib.hid (grown_drew (grown_set HG2.out _ _))
  try rw [w_add]
  generalize (w2.setCell ⟨R, c, none⟩ (.int .u32 ((uadd p2 q2 : Nat) : Int))).drew = w3 at *
  clear cx cy cf HW2 HG2 HX2
  -- 3: cxr v3 b c 12
  obtain ⟨v4, hv3⟩ : ∃ V, V = cxr v3 b c 12 := ⟨_, rfl⟩
  have HX3 : Hid (v4 = v3.set b (crol (uxor (v3.getD b 0) (v3.getD c 0)) 12)) := by rw [hv3]; exact Lib.hid rfl
  rw [← hv3] at HC
  have hl4 : v4.length = 16 := by rw [hv3, cxr_len, HL3.out]
  have HL4 := Lib.hid hl4
  clear hv3 hl4
  have cx := HW3.out.cellD b (by rw [HL3.out]; exact hb)
  have cy := HW3.out.cellD c (by rw [HL3.out]; exact hc)
  have cf := HW3.out.frozen b
  generalize v3.getD b 0 = p3 at *
  generalize v3.getD c 0 = q3 at *
  go_wp2_with fail
  refine wp_region_still_tail 16 (by kernel_rfl) (by kernel_rfl) ?_
  simp only [List.take_succ_cons, List.take_zero, List.drop_succ_cons, List.drop_zero]
  iterate 13 still_step
  rw [w_xor]
  still_call (rotL (uxor p3 q3) 12 _ rfl (by decide) _)
  iterate 2 still_step
  refine wpStill_nil ?_
  change wpList _ _ _ _ _ w3.drew
  go_wp2_with fail
  have HW4 : Hid (WB ((w3.setCell ⟨R, b, none⟩ (.int .u32 ((crol (uxor p3 q3) 12 : Nat) : Int))).drew) R 48 v4) := by rw [HX3.out]; exact Lib.hid ((HW3.out.set_ b _).drew)
  have HG4 : Hid (w.grownBy ((w3.setCell ⟨R, b, none⟩ (.int .u32 ((crol (uxor p3 q3) 12 : Nat) : Int))).drew) (some R)) := Lib.hid (grown_drew (grown_set HG3.out _ _))
  generalize (w3.setCell ⟨R, b, none⟩ (.int .u32 ((crol (uxor p3 q3) 12 : Nat) : Int))).drew = w4 at *
  clear cx cy cf HW3 HG3 HX3
  -- 4: cadd v4 a b
  obtain ⟨v5, hv4⟩ : ∃ V, V = cadd v4 a b := ⟨_, rfl⟩
  have HX4 : Hid (v5 = v4.set a (uadd (v4.getD a 0) (v4.getD b 0))) := by rw [hv4]; exact Lib.hid rfl
  rw [← hv4] at HC
  have hl5 : v5.length = 16 := by rw [hv4, cadd_len, HL4.out]
  have HL5 := Lib.hid hl5
  clear hv4 hl5
  have cx := HW4.out.cellD a (by rw [HL4.out]; exact ha)
  have cy := HW4.out.cellD b (by rw [HL4.out]; exact hb)
  have cf := HW4.out.frozen a
  generalize v4.getD a 0 = p4 at *
  generalize v4.getD b 0 = q4 at *
  go_wp2_with fail
  go_still_tail 13, (by kernel_rfl)
  change wpList _ _ _ _ _ w4.drew
  go_wp2_with fail
  have HW5 : Hid (WB ((w4.setCell ⟨R, a, none⟩ (.int .u32 ((uadd p4 q4 : Nat) : Int))).drew) R 48 v5) := by rw [HX4.out]; exact Lib.hid ((HW4.out.set_ a _).drew)
  have HG5 : Hid (w.grownBy ((w4.setCell ⟨R, a, none⟩ (.int .u32 ((uadd p4 q4 : Nat) : Int))).drew) (some R)) := Lib.hid (grown_drew (grown_set HG4.out _ _))
  try rw [w_add]
  generalize (w4.setCell ⟨R, a, none⟩ (.int .u32 ((uadd p4 q4 : Nat) : Int))).drew = w5 at *
  clear cx cy cf HW4 HG4 HX4
  -- 5: cxr v5 d a 8
  obtain ⟨v6, hv5⟩ : ∃ V, V = cxr v5 d a 8 := ⟨_, rfl⟩
  have HX5 : Hid (v6 = v5.set d (crol (uxor (v5.getD d 0) (v5.getD a 0)) 8)) := by rw [hv5]; exact Lib.hid rfl
  rw [← hv5] at HC
  have hl6 : v6.length = 16 := by rw [hv5, cxr_len, HL5.out]
  have HL6 := Lib.hid hl6
  clear hv5 hl6
  have cx := HW5.out.cellD d (by rw [HL5.out]; exact hd)
  have cy := HW5.out.cellD a (by rw [HL5.out]; exact ha)
  have cf := HW5.out.frozen d
  generalize v5.getD d 0 = p5 at *
  generalize v5.getD a 0 = q5 at *
  go_wp2_with fail
  refine wp_region_still_tail 16 (by kernel_rfl) (by kernel_rfl) ?_
  simp only [List.take_succ_cons, List.take_zero, List.drop_succ_cons, List.drop_zero]
  iterate 13 still_step
  rw [w_xor]
  still_call (rotL (uxor p5 q5) 8 _ rfl (by decide) _)
  iterate 2 still_step
  refine wpStill_nil ?_
  change wpList _ _ _ _ _ w5.drew
  go_wp2_with fail
  have HW6 : Hid (WB ((w5.setCell ⟨R, d, none⟩ (.int .u32 ((crol (uxor p5 q5) 8 : Nat) : Int))).drew) R 48 v6) := by rw [HX5.out]; exact Lib.hid ((HW5.out.set_ d _).drew)
  have HG6 : Hid (w.grownBy ((w5.setCell ⟨R, d, none⟩ (.int .u32 ((crol (uxor p5 q5) 8 : Nat) : Int))).drew) (some R)) := Lib.hid (grown_drew (grown_set HG5.out _ _))
  generalize (w5.setCell ⟨R, d, none⟩ (.int .u32 ((crol (uxor p5 q5) 8 : Nat) : Int))).drew = w6 at *
  clear cx cy cf HW5 HG5 HX5
  -- 6: cadd v6 c d
  obtain ⟨v7, hv6⟩ : ∃ V, V = cadd v6 c d := ⟨_, rfl⟩
  have HX6 : Hid (v7 = v6.set c (uadd (v6.getD c 0) (v6.getD d 0))) := by rw [hv6]; exact Lib.hid rfl
  rw [← hv6] at HC
  have hl7 : v7.length = 16 := by rw [hv6, cadd_len, HL6.out]
  have HL7 := Lib.hid hl7
  clear hv6 hl7
  have cx := HW6.out.cellD c (by rw [HL6.out]; exact hc)
  have cy := HW6.out.cellD d (by rw [HL6.out]; exact hd)
  have cf := HW6.out.frozen c
  generalize v6.getD c 0 = p6 at *
  generalize v6.getD d 0 = q6 at *
  go_wp2_with fail
  go_still_tail 13, (by kernel_rfl)
  change wpList _ _ _ _ _ w6.drew
  go_wp2_with fail
  have HW7 : Hid (WB ((w6.setCell ⟨R, c, none⟩ (.int .u32 ((uadd p6 q6 : Nat) : Int))).drew) R 48 v7) := by rw [HX6.out]; exact Lib.hid ((HW6.out.set_ c _).drew)
  have HG7 : Hid (w.grownBy ((w6.setCell ⟨R, c, none⟩ (.int .u32 ((uadd p6 q6 : Nat) : Int))).drew) (some R)) := Lib.hid (grown_drew (grown_set HG6.out _ _))
  try rw [w_add]
  generalize (w6.setCell ⟨R, c, none⟩ (.int .u32 ((uadd p6 q6 : Nat) : Int))).drew = w7 at *
  clear cx cy cf HW6 HG6 HX6
  -- 7: cxr v7 b c 7
  obtain ⟨v8, hv7⟩ : ∃ V, V = cxr v7 b c 7 := ⟨_, rfl⟩
  have HX7 : Hid (v8 = v7.set b (crol (uxor (v7.getD b 0) (v7.getD c 0)) 7)) := by rw [hv7]; exact Lib.hid rfl
  rw [← hv7] at HC
  have hl8 : v8.length = 16 := by rw [hv7, cxr_len, HL7.out]
  have HL8 := Lib.hid hl8
  clear hv7 hl8
  have cx := HW7.out.cellD b (by rw [HL7.out]; exact hb)
  have cy := HW7.out.cellD c (by rw [HL7.out]; exact hc)
  have cf := HW7.out.frozen b
  generalize v7.getD b 0 = p7 at *
  generalize v7.getD c 0 = q7 at *
  go_wp2_with fail
  refine wp_region_still_tail 16 (by kernel_rfl) (by kernel_rfl) ?_
  simp only [List.take_succ_cons, List.take_zero, List.drop_succ_cons, List.drop_zero]
  iterate 13 still_step
  rw [w_xor]
  still_call (rotL (uxor p7 q7) 7 _ rfl (by decide) _)
  iterate 2 still_step
  refine wpStill_nil ?_
  change wpList _ _ _ _ _ w7.drew
  go_wp2_with fail
  have HW8 : Hid (WB ((w7.setCell ⟨R, b, none⟩ (.int .u32 ((crol (uxor p7 q7) 7 : Nat) : Int))).drew) R 48 v8) := by rw [HX7.out]; exact Lib.hid ((HW7.out.set_ b _).drew)
  have HG8 : Hid (w.grownBy ((w7.setCell ⟨R, b, none⟩ (.int .u32 ((crol (uxor p7 q7) 7 : Nat) : Int))).drew) (some R)) := Lib.hid (grown_drew (grown_set HG7.out _ _))
  generalize (w7.setCell ⟨R, b, none⟩ (.int .u32 ((crol (uxor p7 q7) 7 : Nat) : Int))).drew = w8 at *
  clear cx cy cf HW7 HG7 HX7
  go_end0
  exact ⟨rfl, by rw [HC.out]; exact HW8.out, HG8.out⟩

theorem WB.setO {w : World} {g : Nat} {T : TypeId} {l : List Nat} (h : WB w g T l) {g' : Nat} (hne : g ≠ g') (i : Nat) (v : Value) : WB (w.setCell ⟨g', i, none⟩ v) g T l := (heap_setCell_other w ⟨g', i, none⟩ g v hne).trans h
theorem refRol_still (x n : Nat) (i : Int) (hi : i = (n : Int)) (hn : n = 7 ∨ n = 8 ∨ n = 12 ∨ n = 16) (w : World) :
    Calls Tryd.prog 41 #[.int .u32 x, .int .i64 i] w fun e w' => e = .returned (.int .u32 (crol x n)) ∧ ∃ k, w' = w.drewN k := refRol x n i hi hn w
theorem zeros16 (w : World) (T : TypeId) : w.alloc (.cells #[.int .u32 0, .int .u32 0, .int .u32 0, .int .u32 0, .int .u32 0, .int .u32 0, .int .u32 0, .int .u32 0, .int .u32 0, .int .u32 0, .int .u32 0, .int .u32 0, .int .u32 0, .int .u32 0, .int .u32 0, .int .u32 0] T) = w.alloc (.cells (wv (List.replicate 16 0)) T) := rfl

set_option maxRecDepth 100000 in
set_option maxHeartbeats 4000000 in
theorem refMix (v : List Nat) (a b c d : Nat) (w : World) (hv : v.length = 16) (ha : a < 16) (hb : b < 16) (hc : c < 16) (hd : d < 16) :
    Calls Tryd.prog 32 #[.agg (wv v), .int .i64 (a : Int), .int .i64 (b : Int), .int .i64 (c : Int), .int .i64 (d : Int)] w fun e w' => e = .returned (.agg (wv (cmix v a b c d))) ∧ Below w.heap.size w w' := by
  have HC : Hid (cmix v a b c d = cxr (cadd (cxr (cadd (cxr (cadd (cxr (cadd v a b) d a 16) c d) b c 12) a b) d a 8) c d) b c 7) := Lib.hid rfl
  have HL0 := Lib.hid hv
  have ia : (a : Int) < 16 := by omega
  have ib : (b : Int) < 16 := by omega
  have ic : (c : Int) < 16 := by omega
  have id : (d : Int) < 16 := by omega
  clear hv
  go_enter Tryd.func32, Tryd.ntmps32
  go_wp2_with fail
  rw [zeros16]
  obtain ⟨w0, hw0⟩ : ∃ W, W = (w.alloc (.cells (wv v) 47)).alloc (.cells (wv (List.replicate 16 0)) 47) := ⟨_, rfl⟩
  have HW0 : Hid (WB w0 w.heap.size 47 v ∧ WB w0 (w.heap.size + 1) 47 (List.replicate 16 0)) := by
    have h1 := (WB.new w 47 v).alloc (.cells (wv (List.replicate 16 0)) 47)
    have h2 := WB.new (w.alloc (.cells (wv v) 47)) 47 (List.replicate 16 0)
    exact Lib.hid ⟨hw0 ▸ h1, by simpa [hw0] using h2⟩
  have HG0 : Hid (Below w.heap.size w w0) := Lib.hid (hw0 ▸ ((Below.refl _ _).alloc (Nat.le_refl _) _).alloc (by simp) _)
  rw [← hw0]
  clear hw0
  -- 0: cadd v a b
  obtain ⟨v1, hv0⟩ : ∃ V, V = cadd v a b := ⟨_, rfl⟩
  have HX0 : Hid (v1 = v.set a (uadd (v.getD a 0) (v.getD b 0))) := by rw [hv0]; exact Lib.hid rfl
  rw [← hv0] at HC
  have hl1 : v1.length = 16 := by rw [hv0, cadd_len, HL0.out]
  have HL1 := Lib.hid hl1
  clear hv0 hl1
  have cx := HW0.out.1.cellD a (by rw [HL0.out]; exact ha)
  have cy := HW0.out.1.cellD b (by rw [HL0.out]; exact hb)
  have cf := HW0.out.1.frozen a
  generalize v.getD a 0 = p0 at *
  generalize v.getD b 0 = q0 at *
  go_wp2_with fail
  go_still_tail 9, (by kernel_rfl)
  change wpList _ _ _ _ _ w0.drew
  go_wp2_with fail
  try rw [w_add]
  have HW1 : Hid (WB ((w0.setCell ⟨w.heap.size, a, none⟩ (.int .u32 ((uadd p0 q0 : Nat) : Int))).drew) w.heap.size 47 v1 ∧ WB ((w0.setCell ⟨w.heap.size, a, none⟩ (.int .u32 ((uadd p0 q0 : Nat) : Int))).drew) (w.heap.size + 1) 47 (List.replicate 16 0)) := by rw [HX0.out]; exact Lib.hid ⟨(HW0.out.1.set_ a _).drew, (WB.setO HW0.out.2 (by omega) _ _).drew⟩
  have HG1 : Hid (Below w.heap.size w ((w0.setCell ⟨w.heap.size, a, none⟩ (.int .u32 ((uadd p0 q0 : Nat) : Int))).drew)) := Lib.hid ((HG0.out.setCell (Nat.le_refl _) _).drew)
  generalize (w0.setCell ⟨w.heap.size, a, none⟩ (.int .u32 ((uadd p0 q0 : Nat) : Int))).drew = w1 at *
  clear cx cy cf HW0 HG0 HX0
  -- 1: cxr v1 d a 16
  obtain ⟨v2, hv1⟩ : ∃ V, V = cxr v1 d a 16 := ⟨_, rfl⟩
  have HX1 : Hid (v2 = v1.set d (crol (uxor (v1.getD d 0) (v1.getD a 0)) 16)) := by rw [hv1]; exact Lib.hid rfl
  rw [← hv1] at HC
  have hl2 : v2.length = 16 := by rw [hv1, cxr_len, HL1.out]
  have HL2 := Lib.hid hl2
  clear hv1 hl2
  have cx := HW1.out.1.cellD d (by rw [HL1.out]; exact hd)
  have cy := HW1.out.1.cellD a (by rw [HL1.out]; exact ha)
  have cf := HW1.out.1.frozen d
  generalize v1.getD d 0 = p1 at *
  generalize v1.getD a 0 = q1 at *
  go_wp2_with fail
  refine wp_region_quiet_tail 10 (by kernel_rfl) (by kernel_rfl) ?_
  simp only [List.take_succ_cons, List.take_zero, List.drop_succ_cons, List.drop_zero]
  iterate 8 (go_big_quiet_step (fail))
  rw [w_xor]
  go_big_quiet_step ((go_at_call 41; exact Calls.quiet_of (refRol (uxor p1 q1) 16 _ rfl (by decide) _)))
  go_big_quiet_step (fail)
  refine wpQuiet_nil ?_
  intro _ hw'
  obtain ⟨nq, hw''⟩ := hw'
  subst hw''
  go_wp2_with fail
  have HW2 : Hid (WB ((w1.drewN nq).setCell ⟨w.heap.size, d, none⟩ (.int .u32 ((crol (uxor p1 q1) 16 : Nat) : Int))) w.heap.size 47 v2 ∧ WB ((w1.drewN nq).setCell ⟨w.heap.size, d, none⟩ (.int .u32 ((crol (uxor p1 q1) 16 : Nat) : Int))) (w.heap.size + 1) 47 (List.replicate 16 0)) := by rw [HX1.out]; exact Lib.hid ⟨(HW1.out.1.drewN nq).set_ d _, WB.setO (HW1.out.2.drewN nq) (by omega) _ _⟩
  have HG2 : Hid (Below w.heap.size w ((w1.drewN nq).setCell ⟨w.heap.size, d, none⟩ (.int .u32 ((crol (uxor p1 q1) 16 : Nat) : Int)))) := Lib.hid ((below_dN HG1.out nq).setCell (Nat.le_refl _) _)
  generalize (w1.drewN nq).setCell ⟨w.heap.size, d, none⟩ (.int .u32 ((crol (uxor p1 q1) 16 : Nat) : Int)) = w2 at *
  clear cx cy cf HW1 HG1 HX1
  -- 2: cadd v2 c d
  obtain ⟨v3, hv2⟩ : ∃ V, V = cadd v2 c d := ⟨_, rfl⟩
  have HX2 : Hid (v3 = v2.set c (uadd (v2.getD c 0) (v2.getD d 0))) := by rw [hv2]; exact Lib.hid rfl
  rw [← hv2] at HC
  have hl3 : v3.length = 16 := by rw [hv2, cadd_len, HL2.out]
  have HL3 := Lib.hid hl3
  clear hv2 hl3
  have cx := HW2.out.1.cellD c (by rw [HL2.out]; exact hc)
  have cy := HW2.out.1.cellD d (by rw [HL2.out]; exact hd)
  have cf := HW2.out.1.frozen c
  generalize v2.getD c 0 = p2 at *
  generalize v2.getD d 0 = q2 at *
  go_wp2_with fail
  go_still_tail 9, (by kernel_rfl)
  change wpList _ _ _ _ _ w2.drew
  go_wp2_with fail
  try rw [w_add]
  have HW3 : Hid (WB ((w2.setCell ⟨w.heap.size, c, none⟩ (.int .u32 ((uadd p2 q2 : Nat) : Int))).drew) w.heap.size 47 v3 ∧ WB ((w2.setCell ⟨w.heap.size, c, none⟩ (.int .u32 ((uadd p2 q2 : Nat) : Int))).drew) (w.heap.size + 1) 47 (List.replicate 16 0)) := by rw [HX2.out]; exact Lib.hid ⟨(HW2.out.1.set_ c _).drew, (WB.setO HW2.out.2 (by omega) _ _).drew⟩
  have HG3 : Hid (Below w.heap.size w ((w2.setCell ⟨w.heap.size, c, none⟩ (.int .u32 ((uadd p2 q2 : Nat) : Int))).drew)) := Lib.hid ((HG2.out.setCell (Nat.le_refl _) _).drew)
  generalize (w2.setCell ⟨w.heap.size, c, none⟩ (.int .u32 ((uadd p2 q2 : Nat) : Int))).drew = w3 at *
  clear cx cy cf HW2 HG2 HX2
  -- 3: cxr v3 b c 12
  obtain ⟨v4, hv3⟩ : ∃ V, V = cxr v3 b c 12 := ⟨_, rfl⟩
  have HX3 : Hid (v4 = v3.set b (crol (uxor (v3.getD b 0) (v3.getD c 0)) 12)) := by rw [hv3]; exact Lib.hid rfl
  rw [← hv3] at HC
  have hl4 : v4.length = 16 := by rw [hv3, cxr_len, HL3.out]
  have HL4 := Lib.hid hl4
  clear hv3 hl4
  have cx := HW3.out.1.cellD b (by rw [HL3.out]; exact hb)
  have cy := HW3.out.1.cellD c (by rw [HL3.out]; exact hc)
  have cf := HW3.out.1.frozen b
  generalize v3.getD b 0 = p3 at *
  generalize v3.getD c 0 = q3 at *
  go_wp2_with fail
  refine wp_region_quiet_tail 10 (by kernel_rfl) (by kernel_rfl) ?_
  simp only [List.take_succ_cons, List.take_zero, List.drop_succ_cons, List.drop_zero]
  iterate 8 (go_big_quiet_step (fail))
  rw [w_xor]
  go_big_quiet_step ((go_at_call 41; exact Calls.quiet_of (refRol (uxor p3 q3) 12 _ rfl (by decide) _)))
  go_big_quiet_step (fail)
  refine wpQuiet_nil ?_
  intro _ hw'
  obtain ⟨nq, hw''⟩ := hw'
  subst hw''
  go_wp2_with fail
  have HW4 : Hid (WB ((w3.drewN nq).setCell ⟨w.heap.size, b, none⟩ (.int .u32 ((crol (uxor p3 q3) 12 : Nat) : Int))) w.heap.size 47 v4 ∧ WB ((w3.drewN nq).setCell ⟨w.heap.size, b, none⟩ (.int .u32 ((crol (uxor p3 q3) 12 : Nat) : Int))) (w.heap.size + 1) 47 (List.replicate 16 0)) := by rw [HX3.out]; exact Lib.hid ⟨(HW3.out.1.drewN nq).set_ b _, WB.setO (HW3.out.2.drewN nq) (by omega) _ _⟩
  have HG4 : Hid (Below w.heap.size w ((w3.drewN nq).setCell ⟨w.heap.size, b, none⟩ (.int .u32 ((crol (uxor p3 q3) 12 : Nat) : Int)))) := Lib.hid ((below_dN HG3.out nq).setCell (Nat.le_refl _) _)
  generalize (w3.drewN nq).setCell ⟨w.heap.size, b, none⟩ (.int .u32 ((crol (uxor p3 q3) 12 : Nat) : Int)) = w4 at *
  clear cx cy cf HW3 HG3 HX3
  -- 4: cadd v4 a b
  obtain ⟨v5, hv4⟩ : ∃ V, V = cadd v4 a b := ⟨_, rfl⟩
  have HX4 : Hid (v5 = v4.set a (uadd (v4.getD a 0) (v4.getD b 0))) := by rw [hv4]; exact Lib.hid rfl
  rw [← hv4] at HC
  have hl5 : v5.length = 16 := by rw [hv4, cadd_len, HL4.out]
  have HL5 := Lib.hid hl5
  clear hv4 hl5
  have cx := HW4.out.1.cellD a (by rw [HL4.out]; exact ha)
  have cy := HW4.out.1.cellD b (by rw [HL4.out]; exact hb)
  have cf := HW4.out.1.frozen a
  generalize v4.getD a 0 = p4 at *
  generalize v4.getD b 0 = q4 at *
  go_wp2_with fail
  go_still_tail 9, (by kernel_rfl)
  change wpList _ _ _ _ _ w4.drew
  go_wp2_with fail
  try rw [w_add]
  have HW5 : Hid (WB ((w4.setCell ⟨w.heap.size, a, none⟩ (.int .u32 ((uadd p4 q4 : Nat) : Int))).drew) w.heap.size 47 v5 ∧ WB ((w4.setCell ⟨w.heap.size, a, none⟩ (.int .u32 ((uadd p4 q4 : Nat) : Int))).drew) (w.heap.size + 1) 47 (List.replicate 16 0)) := by rw [HX4.out]; exact Lib.hid ⟨(HW4.out.1.set_ a _).drew, (WB.setO HW4.out.2 (by omega) _ _).drew⟩
  have HG5 : Hid (Below w.heap.size w ((w4.setCell ⟨w.heap.size, a, none⟩ (.int .u32 ((uadd p4 q4 : Nat) : Int))).drew)) := Lib.hid ((HG4.out.setCell (Nat.le_refl _) _).drew)
  generalize (w4.setCell ⟨w.heap.size, a, none⟩ (.int .u32 ((uadd p4 q4 : Nat) : Int))).drew = w5 at *
  clear cx cy cf HW4 HG4 HX4
  -- 5: cxr v5 d a 8
  obtain ⟨v6, hv5⟩ : ∃ V, V = cxr v5 d a 8 := ⟨_, rfl⟩
  have HX5 : Hid (v6 = v5.set d (crol (uxor (v5.getD d 0) (v5.getD a 0)) 8)) := by rw [hv5]; exact Lib.hid rfl
  rw [← hv5] at HC
  have hl6 : v6.length = 16 := by rw [hv5, cxr_len, HL5.out]
  have HL6 := Lib.hid hl6
  clear hv5 hl6
  have cx := HW5.out.1.cellD d (by rw [HL5.out]; exact hd)
  have cy := HW5.out.1.cellD a (by rw [HL5.out]; exact ha)
  have cf := HW5.out.1.frozen d
  generalize v5.getD d 0 = p5 at *
  generalize v5.getD a 0 = q5 at *
  go_wp2_with fail
  refine wp_region_quiet_tail 10 (by kernel_rfl) (by kernel_rfl) ?_
  simp only [List.take_succ_cons, List.take_zero, List.drop_succ_cons, List.drop_zero]
  iterate 8 (go_big_quiet_step (fail))
  rw [w_xor]
  go_big_quiet_step ((go_at_call 41; exact Calls.quiet_of (refRol (uxor p5 q5) 8 _ rfl (by decide) _)))
  go_big_quiet_step (fail)
  refine wpQuiet_nil ?_
  intro _ hw'
  obtain ⟨nq, hw''⟩ := hw'
  subst hw''
  go_wp2_with fail
  have HW6 : Hid (WB ((w5.drewN nq).setCell ⟨w.heap.size, d, none⟩ (.int .u32 ((crol (uxor p5 q5) 8 : Nat) : Int))) w.heap.size 47 v6 ∧ WB ((w5.drewN nq).setCell ⟨w.heap.size, d, none⟩ (.int .u32 ((crol (uxor p5 q5) 8 : Nat) : Int))) (w.heap.size + 1) 47 (List.replicate 16 0)) := by rw [HX5.out]; exact Lib.hid ⟨(HW5.out.1.drewN nq).set_ d _, WB.setO (HW5.out.2.drewN nq) (by omega) _ _⟩
  have HG6 : Hid (Below w.heap.size w ((w5.drewN nq).setCell ⟨w.heap.size, d, none⟩ (.int .u32 ((crol (uxor p5 q5) 8 : Nat) : Int)))) := Lib.hid ((below_dN HG5.out nq).setCell (Nat.le_refl _) _)
  generalize (w5.drewN nq).setCell ⟨w.heap.size, d, none⟩ (.int .u32 ((crol (uxor p5 q5) 8 : Nat) : Int)) = w6 at *
  clear cx cy cf HW5 HG5 HX5
  -- 6: cadd v6 c d
  obtain ⟨v7, hv6⟩ : ∃ V, V = cadd v6 c d := ⟨_, rfl⟩
  have HX6 : Hid (v7 = v6.set c (uadd (v6.getD c 0) (v6.getD d 0))) := by rw [hv6]; exact Lib.hid rfl
  rw [← hv6] at HC
  have hl7 : v7.length = 16 := by rw [hv6, cadd_len, HL6.out]
  have HL7 := Lib.hid hl7
  clear hv6 hl7
  have cx := HW6.out.1.cellD c (by rw [HL6.out]; exact hc)
  have cy := HW6.out.1.cellD d (by rw [HL6.out]; exact hd)
  have cf := HW6.out.1.frozen c
  generalize v6.getD c 0 = p6 at *
  generalize v6.getD d 0 = q6 at *
  go_wp2_with fail
  go_still_tail 9, (by kernel_rfl)
  change wpList _ _ _ _ _ w6.drew
  go_wp2_with fail
  try rw [w_add]
  have HW7 : Hid (WB ((w6.setCell ⟨w.heap.size, c, none⟩ (.int .u32 ((uadd p6 q6 : Nat) : Int))).drew) w.heap.size 47 v7 ∧ WB ((w6.setCell ⟨w.heap.size, c, none⟩ (.int .u32 ((uadd p6 q6 : Nat) : Int))).drew) (w.heap.size + 1) 47 (List.replicate 16 0)) := by rw [HX6.out]; exact Lib.hid ⟨(HW6.out.1.set_ c _).drew, (WB.setO HW6.out.2 (by omega) _ _).drew⟩
  have HG7 : Hid (Below w.heap.size w ((w6.setCell ⟨w.heap.size, c, none⟩ (.int .u32 ((uadd p6 q6 : Nat) : Int))).drew)) := Lib.hid ((HG6.out.setCell (Nat.le_refl _) _).drew)
  generalize (w6.setCell ⟨w.heap.size, c, none⟩ (.int .u32 ((uadd p6 q6 : Nat) : Int))).drew = w7 at *
  clear cx cy cf HW6 HG6 HX6
  -- 7: cxr v7 b c 7
  obtain ⟨v8, hv7⟩ : ∃ V, V = cxr v7 b c 7 := ⟨_, rfl⟩
  have HX7 : Hid (v8 = v7.set b (crol (uxor (v7.getD b 0) (v7.getD c 0)) 7)) := by rw [hv7]; exact Lib.hid rfl
  rw [← hv7] at HC
  have hl8 : v8.length = 16 := by rw [hv7, cxr_len, HL7.out]
  have HL8 := Lib.hid hl8
  clear hv7 hl8
  have cx := HW7.out.1.cellD b (by rw [HL7.out]; exact hb)
  have cy := HW7.out.1.cellD c (by rw [HL7.out]; exact hc)
  have cf := HW7.out.1.frozen b
  generalize v7.getD b 0 = p7 at *
  generalize v7.getD c 0 = q7 at *
  go_wp2_with fail
  refine wp_region_quiet_tail 10 (by kernel_rfl) (by kernel_rfl) ?_
  simp only [List.take_succ_cons, List.take_zero, List.drop_succ_cons, List.drop_zero]
  iterate 8 (go_big_quiet_step (fail))
  rw [w_xor]
  go_big_quiet_step ((go_at_call 41; exact Calls.quiet_of (refRol (uxor p7 q7) 7 _ rfl (by decide) _)))
  go_big_quiet_step (fail)
  refine wpQuiet_nil ?_
  intro _ hw'
  obtain ⟨nq, hw''⟩ := hw'
  subst hw''
  have HW8 : Hid (WB ((w7.drewN nq).setCell ⟨w.heap.size, b, none⟩ (.int .u32 ((crol (uxor p7 q7) 7 : Nat) : Int))) w.heap.size 47 v8 ∧ WB ((w7.drewN nq).setCell ⟨w.heap.size, b, none⟩ (.int .u32 ((crol (uxor p7 q7) 7 : Nat) : Int))) (w.heap.size + 1) 47 (List.replicate 16 0)) := by rw [HX7.out]; exact Lib.hid ⟨(HW7.out.1.drewN nq).set_ b _, WB.setO (HW7.out.2.drewN nq) (by omega) _ _⟩
  have HG8 : Hid (Below w.heap.size w ((w7.drewN nq).setCell ⟨w.heap.size, b, none⟩ (.int .u32 ((crol (uxor p7 q7) 7 : Nat) : Int)))) := Lib.hid ((below_dN HG7.out nq).setCell (Nat.le_refl _) _)
  have hsz : (Tryd.prog.info? 47).map (·.size) = some (wv v8).size := by rw [wv_size, HL8.out]; kernel_rfl
  have hold : Hid ((wv (List.replicate 16 0)).size = (wv v8).size) := Lib.hid (by rw [wv_size, wv_size, HL8.out]; rfl)
  go_wp2_with (first | (refine wpList_load_row rfl 47 (.tmp 5) rfl w.heap.size rfl _ (wv v8) (0, 0) _ HW8.out.1 Tryd.underlying47 rfl hsz ?_) | (refine wpList_storeA rfl 47 (.tmp 10) (.tmp 87) rfl (w.heap.size + 1) (wv v8) rfl rfl _ _ HW8.out.2 hsz hold.out (wv_one _) ?_))
  intro w9 h9 hg9
  go_wp2_with fail
  rw [HC.out]
  refine bodyPost_ret (v := .agg (wv v8)) ?_ rfl ⟨rfl, grown_below HG8.out hg9 (Nat.le_succ _) HG8.out.size⟩
  exact results_cell_row rfl _ _ (w.heap.size + 1) 47 _ (0, 0) _ rfl h9 Tryd.underlying47 rfl hsz
end Go.Proofs.YtcibbghggfklbaaDoor
