/-
  The statements about vector: the examples.
-/
import Derived.Test.YtfdfaajjlangjaaMt
namespace Go.Proofs.Ytfdfaajjlangjaa
open Go.RowKit
set_option linter.unusedVariables false
set_option linter.unusedSimpArgs false

theorem erR_ok {l m : List Dt} (h1 : okV l) (h2 : okV m) : erR l m = 0 := if_pos ⟨h1, h2⟩
theorem jnR_ok {l m : List Dt} (h1 : okV l) (h2 : okV m) : jnR l m = jnV l m := if_pos ⟨h1, h2⟩
theorem mtR_ok {l m : List Dt} (h1 : okV l) (h2 : okV m) : mtR l m = mtV l m := if_pos ⟨h1, h2⟩
theorem cmR_ok {l m : List Dt} (h1 : okV l) (h2 : okV m) : cmR l m = cmpV l m := if_pos ⟨h1, h2⟩
theorem wiR_ok {l : List Dt} {d : Dt} (h1 : okV l) (h2 : dotP d) : wiR l d = wiV l d := if_pos ⟨h1, h2⟩
theorem erW_ok {l : List Dt} {d : Dt} (h1 : okV l) (h2 : dotP d) : erW l d = 0 := if_pos ⟨h1, h2⟩
theorem sn12_eJ : erR ([(2, 5)] : List Dt) ([(2, 3), (7, 1)] : List Dt) = 0 := by decide
theorem sn12_jJ : jnR ([(2, 5)] : List Dt) ([(2, 3), (7, 1)] : List Dt) = [(2, 5), (7, 1)] := by rw [jnR_ok (by decide) (by decide)]; simp [jnV]; decide
theorem sn12_mM : mtR ([(2, 5)] : List Dt) ([(2, 3), (7, 1)] : List Dt) = [(2, 3)] := by decide
theorem sn12_cC : cmR ([(2, 5)] : List Dt) ([(2, 3), (7, 1)] : List Dt) = 2 := by decide
theorem sn12_eW : erW ([(2, 5)] : List Dt) ((2, 4) : Dt) = 0 := by decide
theorem sn12_wW : wiR ([(2, 5)] : List Dt) ((2, 4) : Dt) = [(2, 5)] := by rw [wiR_ok (by decide) (by decide)]; simp [wiV, jnV]; decide
theorem sn12_cL : cmR ([] : List Dt) ([(0, 1)] : List Dt) = -1 := by decide
theorem sn12_eL : erR ([] : List Dt) ([(0, 1)] : List Dt) = 0 := by decide
theorem sn12_eX : erW ([(2, 5)] : List Dt) ((0, 0) : Dt) = 120 := by decide
theorem sn12_h0 : chV ([] : List Dt) = 0 := by decide
theorem sn12_hE : chV ([(0, 0)] : List Dt) = 120 := by decide
theorem sn12_a0 : atV ([] : List Dt) 3 = 0 := by decide
theorem sn12_a7 : atV ([(2, 3), (7, 1)] : List Dt) 7 = 1 := by decide
theorem sn12_k1 : decide (covV ([(2, 5), (7, 1)] : List Dt) (2, 3)) = true := by decide
theorem sn12_k2 : decide (covV ([(2, 5), (7, 1)] : List Dt) (2, 6)) = false := by decide
theorem sn12_k3 : decide (covV ([(2, 5), (7, 1)] : List Dt) (3, 1)) = false := by decide
theorem sn12_k4 : decide (covV ([(2, 5)] : List Dt) (2, 0)) = false := by decide
theorem sn12_s1 : decide (([(2, 5), (7, 1)] : List Dt) = [(2, 5), (7, 1)]) = true := by decide
theorem sn12_s2 : decide (([(2, 3)] : List Dt) = [(2, 3)]) = true := by decide
theorem sn12_s3 : decide (([(2, 5)] : List Dt) = [(2, 5)]) = true := by decide

set_option maxRecDepth 100000 in
set_option maxHeartbeats 4000000 in
theorem sane12_any (w : World) : Calls Try.prog 10 #[] w fun e w' => e = .returned (.bool true) ∧ Below w.heap.size w w' := by
  go_enter Try.func10, Try.ntmps10
  have HB0 := Lib.hid (DX.start w)
  go_wp2_with fail
  have HB1 : Hid (DX w (w.alloc (.cells #[.int .i64 2, .int .i64 5] 24)) [(.slice (some ⟨w.heap.size, 0, none⟩) 1 1, [(2, 5)])] []) := Lib.hid (HB0.out.lit [(2, 5)] (by decide) (w.heap.size) 1 (by rfl) rfl)
  clear HB0
  have HB2 : Hid (DX w ((w.alloc (.cells #[.int .i64 2, .int .i64 5] 24)).alloc (.cells #[.int .i64 2, .int .i64 3, .int .i64 7, .int .i64 1] 24)) [(.slice (some ⟨w.heap.size + 1, 0, none⟩) 2 2, [(2, 3), (7, 1)]), (.slice (some ⟨w.heap.size, 0, none⟩) 1 1, [(2, 5)])] []) := Lib.hid (HB1.out.lit [(2, 3), (7, 1)] (by decide) (w.heap.size + 1) 2 (by simp) rfl)
  clear HB1
  have K2 := JoinV (HB2.out.rd _ _ (List.Mem.tail _ (List.Mem.head _))) (HB2.out.rd _ _ (List.Mem.head _)) (by decide) (by decide)
  rw [sn12_eJ, sn12_jJ] at K2
  with_reducible refine (K2).mono ?_
  rintro e w3 ⟨vj, rfl, hr, hb⟩
  clear K2
  have HB3 := Lib.hid (HB2.out.call hb)
  clear hb HB2
  have HB4 := Lib.hid (HB3.out.add hr)
  clear hr HB3
  go_wp2_with fail
  have K4 := MeetV (HB4.out.rd _ _ (List.Mem.tail _ (List.Mem.tail _ (List.Mem.head _)))) (HB4.out.rd _ _ (List.Mem.tail _ (List.Mem.head _))) (by decide) (by decide)
  rw [sn12_eJ, sn12_mM] at K4
  with_reducible refine (K4).mono ?_
  rintro e w5 ⟨vm, rfl, hr, hb⟩
  clear K4
  have HB5 := Lib.hid (HB4.out.call hb)
  clear hb HB4
  have HB6 := Lib.hid (HB5.out.add hr)
  clear hr HB5
  go_wp2_with fail
  have K6 := CompareV (HB6.out.rd _ _ (List.Mem.tail _ (List.Mem.tail _ (List.Mem.tail _ (List.Mem.head _))))) (HB6.out.rd _ _ (List.Mem.tail _ (List.Mem.tail _ (List.Mem.head _))))
  rw [sn12_eJ, sn12_cC] at K6
  with_reducible refine (K6).mono ?_
  rintro e w7 ⟨rfl, hb⟩
  clear K6
  have HB7 := Lib.hid (HB6.out.call hb)
  clear hb HB6
  go_wp2_with fail
  have K7 := WithV (HB7.out.rd _ _ (List.Mem.tail _ (List.Mem.tail _ (List.Mem.tail _ (List.Mem.head _))))) (by decide) ((2, 4) : Dt)
  rw [sn12_eW, sn12_wW] at K7
  with_reducible refine (K7).mono ?_
  rintro e w8 ⟨vx, rfl, hr, hb⟩
  clear K7
  have HB8 := Lib.hid (HB7.out.call hb)
  clear hb HB7
  have HB9 := Lib.hid (HB8.out.add hr)
  clear hr HB8
  go_wp2_with fail
  have HB10 : Hid (DX w (w8.alloc (.cells #[.int .i64 0, .int .i64 1] 24)) [(.slice (some ⟨w8.heap.size, 0, none⟩) 1 1, [(0, 1)]), (vx, [(2, 5)]), (vm, [(2, 3)]), (vj, [(2, 5), (7, 1)]), (.slice (some ⟨w.heap.size + 1, 0, none⟩) 2 2, [(2, 3), (7, 1)]), (.slice (some ⟨w.heap.size, 0, none⟩) 1 1, [(2, 5)])] []) := Lib.hid (HB9.out.lit [(0, 1)] (by decide) (w8.heap.size) 1 (by rfl) rfl)
  clear HB9
  have K10 := CompareV (RsV.nil (w8.alloc (.cells #[.int .i64 0, .int .i64 1] 24))) (HB10.out.rd _ _ (List.Mem.head _))
  rw [sn12_eL, sn12_cL] at K10
  with_reducible refine (K10).mono ?_
  rintro e w11 ⟨rfl, hb⟩
  clear K10
  have HB11 := Lib.hid (HB10.out.call hb)
  clear hb HB10
  go_wp2_with fail
  have K11 := WithV (HB11.out.rd _ _ (List.Mem.tail _ (List.Mem.tail _ (List.Mem.tail _ (List.Mem.tail _ (List.Mem.tail _ (List.Mem.head _))))))) (by decide) ((0, 0) : Dt)
  rw [sn12_eX] at K11
  with_reducible refine (K11).mono ?_
  rintro e w12 ⟨vy, rfl, hr, hb⟩
  clear K11
  have HB12 := Lib.hid (HB11.out.call hb)
  clear hb HB11
  have HB13 := Lib.hid (HB12.out.add hr)
  clear hr HB12
  go_wp2_with fail
  have K13 := CheckV (RsV.nil w12)
  rw [sn12_h0] at K13
  with_reducible refine (K13).mono ?_
  rintro e w14 ⟨rfl, hb⟩
  clear K13
  have HB14 := Lib.hid (HB13.out.call hb)
  clear hb HB13
  go_wp2_with fail
  have HB15 : Hid (DX w (w14.alloc (.cells #[.int .i64 0, .int .i64 0] 24)) [(.slice (some ⟨w14.heap.size, 0, none⟩) 1 1, [(0, 0)]), (vy, wiR [(2, 5)] ((0, 0) : Dt)), (.slice (some ⟨w8.heap.size, 0, none⟩) 1 1, [(0, 1)]), (vx, [(2, 5)]), (vm, [(2, 3)]), (vj, [(2, 5), (7, 1)]), (.slice (some ⟨w.heap.size + 1, 0, none⟩) 2 2, [(2, 3), (7, 1)]), (.slice (some ⟨w.heap.size, 0, none⟩) 1 1, [(2, 5)])] []) := Lib.hid (HB14.out.lit [(0, 0)] (by decide) (w14.heap.size) 1 (by rfl) rfl)
  clear HB14
  have K15 := CheckV (HB15.out.rd _ _ (List.Mem.head _))
  rw [sn12_hE] at K15
  with_reducible refine (K15).mono ?_
  rintro e w16 ⟨rfl, hb⟩
  clear K15
  have HB16 := Lib.hid (HB15.out.call hb)
  clear hb HB15
  go_wp2_with fail
  have K16 := AtV (RsV.nil w16) 3
  rw [sn12_a0] at K16
  with_reducible refine (K16).mono ?_
  rintro e w17 ⟨rfl, hb⟩
  clear K16
  have HB17 := Lib.hid (HB16.out.call hb)
  clear hb HB16
  go_wp2_with fail
  have K17 := AtV (HB17.out.rd _ _ (List.Mem.tail _ (List.Mem.tail _ (List.Mem.tail _ (List.Mem.tail _ (List.Mem.tail _ (List.Mem.tail _ (List.Mem.head _)))))))) 7
  rw [sn12_a7] at K17
  with_reducible refine (K17).mono ?_
  rintro e w18 ⟨rfl, hb⟩
  clear K17
  have HB18 := Lib.hid (HB17.out.call hb)
  clear hb HB17
  go_wp2_with fail
  have K18 := CoversV (HB18.out.rd _ _ (List.Mem.tail _ (List.Mem.tail _ (List.Mem.tail _ (List.Mem.tail _ (List.Mem.tail _ (List.Mem.head _))))))) ((2, 3) : Dt)
  rw [sn12_k1] at K18
  with_reducible refine (K18).mono ?_
  rintro e w19 ⟨rfl, hb⟩
  clear K18
  have HB19 := Lib.hid (HB18.out.call hb)
  clear hb HB18
  go_wp2_with fail
  have K19 := CoversV (HB19.out.rd _ _ (List.Mem.tail _ (List.Mem.tail _ (List.Mem.tail _ (List.Mem.tail _ (List.Mem.tail _ (List.Mem.head _))))))) ((2, 6) : Dt)
  rw [sn12_k2] at K19
  with_reducible refine (K19).mono ?_
  rintro e w20 ⟨rfl, hb⟩
  clear K19
  have HB20 := Lib.hid (HB19.out.call hb)
  clear hb HB19
  go_wp2_with fail
  have K20 := CoversV (HB20.out.rd _ _ (List.Mem.tail _ (List.Mem.tail _ (List.Mem.tail _ (List.Mem.tail _ (List.Mem.tail _ (List.Mem.head _))))))) ((3, 1) : Dt)
  rw [sn12_k3] at K20
  with_reducible refine (K20).mono ?_
  rintro e w21 ⟨rfl, hb⟩
  clear K20
  have HB21 := Lib.hid (HB20.out.call hb)
  clear hb HB20
  go_wp2_with fail
  have K21 := CoversV (HB21.out.rd _ _ (List.Mem.tail _ (List.Mem.tail _ (List.Mem.tail _ (List.Mem.tail _ (List.Mem.tail _ (List.Mem.tail _ (List.Mem.tail _ (List.Mem.head _))))))))) ((2, 0) : Dt)
  rw [sn12_k4] at K21
  with_reducible refine (K21).mono ?_
  rintro e w22 ⟨rfl, hb⟩
  clear K21
  have HB22 := Lib.hid (HB21.out.call hb)
  clear hb HB21
  go_wp2_with fail
  have HB23 : Hid (DX w (w22.alloc (.cells #[.int .i64 2, .int .i64 5, .int .i64 7, .int .i64 1] 24)) [(.slice (some ⟨w22.heap.size, 0, none⟩) 2 2, [(2, 5), (7, 1)]), (.slice (some ⟨w14.heap.size, 0, none⟩) 1 1, [(0, 0)]), (vy, wiR [(2, 5)] ((0, 0) : Dt)), (.slice (some ⟨w8.heap.size, 0, none⟩) 1 1, [(0, 1)]), (vx, [(2, 5)]), (vm, [(2, 3)]), (vj, [(2, 5), (7, 1)]), (.slice (some ⟨w.heap.size + 1, 0, none⟩) 2 2, [(2, 3), (7, 1)]), (.slice (some ⟨w.heap.size, 0, none⟩) 1 1, [(2, 5)])] []) := Lib.hid (HB22.out.lit [(2, 5), (7, 1)] (by decide) (w22.heap.size) 2 (by rfl) rfl)
  clear HB22
  have K23 := SameV (HB23.out.rd _ _ (List.Mem.tail _ (List.Mem.tail _ (List.Mem.tail _ (List.Mem.tail _ (List.Mem.tail _ (List.Mem.tail _ (List.Mem.head _)))))))) (HB23.out.rd _ _ (List.Mem.head _))
  rw [sn12_s1] at K23
  with_reducible refine (K23).mono ?_
  rintro e w24 ⟨rfl, hb⟩
  clear K23
  have HB24 := Lib.hid (HB23.out.call hb)
  clear hb HB23
  go_wp2_with fail
  have HB25 : Hid (DX w (w24.alloc (.cells #[.int .i64 2, .int .i64 3] 24)) [(.slice (some ⟨w24.heap.size, 0, none⟩) 1 1, [(2, 3)]), (.slice (some ⟨w22.heap.size, 0, none⟩) 2 2, [(2, 5), (7, 1)]), (.slice (some ⟨w14.heap.size, 0, none⟩) 1 1, [(0, 0)]), (vy, wiR [(2, 5)] ((0, 0) : Dt)), (.slice (some ⟨w8.heap.size, 0, none⟩) 1 1, [(0, 1)]), (vx, [(2, 5)]), (vm, [(2, 3)]), (vj, [(2, 5), (7, 1)]), (.slice (some ⟨w.heap.size + 1, 0, none⟩) 2 2, [(2, 3), (7, 1)]), (.slice (some ⟨w.heap.size, 0, none⟩) 1 1, [(2, 5)])] []) := Lib.hid (HB24.out.lit [(2, 3)] (by decide) (w24.heap.size) 1 (by rfl) rfl)
  clear HB24
  have K25 := SameV (HB25.out.rd _ _ (List.Mem.tail _ (List.Mem.tail _ (List.Mem.tail _ (List.Mem.tail _ (List.Mem.tail _ (List.Mem.tail _ (List.Mem.head _)))))))) (HB25.out.rd _ _ (List.Mem.head _))
  rw [sn12_s2] at K25
  with_reducible refine (K25).mono ?_
  rintro e w26 ⟨rfl, hb⟩
  clear K25
  have HB26 := Lib.hid (HB25.out.call hb)
  clear hb HB25
  go_wp2_with fail
  have K26 := SameV (HB26.out.rd _ _ (List.Mem.tail _ (List.Mem.tail _ (List.Mem.tail _ (List.Mem.tail _ (List.Mem.tail _ (List.Mem.head _))))))) (HB26.out.rd _ _ (List.Mem.tail _ (List.Mem.tail _ (List.Mem.tail _ (List.Mem.tail _ (List.Mem.tail _ (List.Mem.tail _ (List.Mem.tail _ (List.Mem.tail _ (List.Mem.tail _ (List.Mem.head _)))))))))))
  rw [sn12_s3] at K26
  with_reducible refine (K26).mono ?_
  rintro e w27 ⟨rfl, hb⟩
  clear K26
  have HB27 := Lib.hid (HB26.out.call hb)
  clear hb HB26
  go_wp2_with fail
  go_ret
  exact ⟨rfl, HB27.out.below⟩
end Go.Proofs.Ytfdfaajjlangjaa
