/-
  Package pake: the walk of PakeMasks.
-/
import Derived.Test.YtkpecfhcdechmaaDoorJq
namespace Go.Proofs.YtkpecfhcdechmaaDoor
open Go.RowKit
set_option linter.unusedVariables false
set_option linter.unusedSimpArgs false

set_option maxRecDepth 100000 in
set_option maxHeartbeats 4000000 in
theorem masks_walk10 (role code sa sb : Int) (w : World) (hT : Tab w) :
    Calls Tryd.prog 7 #[.int .i64 role, .int .i64 code, .int .i64 sa, .int .i64 sb] w fun e w' => e = .returned (.bool true) ∧ Below w.heap.size w w' := by
  have HB0 := Lib.hid (PB.start hT)
  have KS1 := Lib.hid (fun W => side_any role code sa W)
  have KS2 := Lib.hid (fun W => side_any role code sb W)
  have h1 := sd_ok role code sa
  have h2 := sd_ok role code sb
  obtain ⟨r, hr⟩ : ∃ r, sdR role = r := ⟨_, rfl⟩
  obtain ⟨c, hc⟩ : ∃ c, sdC code = c := ⟨_, rfl⟩
  obtain ⟨n, hn⟩ : ∃ n, sdS sa = n := ⟨_, rfl⟩
  obtain ⟨m, hm⟩ : ∃ m, sdS sb = m := ⟨_, rfl⟩
  rw [hr, hc, hn] at KS1 h1
  rw [hr, hc, hm] at KS2 h2
  clear hr hc hn hm
  have ln : n < 2305843009213688669 := by have := h1.2.2.2; omega
  have lm : m < 2305843009213688669 := by have := h2.2.2.2; omega
  have KP1 := Lib.hid (fun W h => Point_ok r c n h1 W h)
  have KP2 := Lib.hid (fun W h => Point_ok r c m h2 W h)
  have KM := Lib.hid (fun W => rMask_any r W)
  have KW := Lib.hid (fun W => rPassword_any c W)
  have KX := Lib.hid (fun W => gExp_ok (mkS r) (pwS c) (mkS_is r) (pwS_bd c).2 W)
  have KI := Lib.hid (fun W => gInv_ok (mdS r c) (mdS_is r c) W)
  have KU := Lib.hid (fun W => gMul_ok (ptP r c n) (mdS r c ^ (oQ - 1) % 4611686018427377339) (ptP_is r c n) (inv_el (mdS_el r c)) W)
  rw [ptP_mask] at KU
  have KB := Lib.hid (fun W => gBase_ok n ln W)
  have KS := Lib.hid (fun W => fSub m n lm ln W)
  have ld : dif m n < 2305843009213688669 := Nat.mod_lt _ (by decide)
  have KD := Lib.hid (fun W => gBase_ok (dif m n) ld W)
  have KV := Lib.hid (fun W => gMul_ok (ptP r c n) (4 ^ dif m n % 4611686018427377339) (ptP_is r c n) (four_is _) W)
  rw [ptP_secret r c n m ln lm] at KV
  rw [show mkS r ^ pwS c % 4611686018427377339 = mdS r c from rfl] at KX
  obtain ⟨z, hz⟩ : ∃ z, 4 ^ dif m n % 4611686018427377339 = z := ⟨_, rfl⟩
  rw [hz] at KD KV
  obtain ⟨d, hd⟩ : ∃ d, dif m n = d := ⟨_, rfl⟩
  rw [hd] at KS KD
  obtain ⟨y, hy⟩ : ∃ y, 4 ^ n % 4611686018427377339 = y := ⟨_, rfl⟩
  rw [hy] at KU KB
  obtain ⟨i, hi⟩ : ∃ i, mdS r c ^ (oQ - 1) % 4611686018427377339 = i := ⟨_, rfl⟩
  rw [hi] at KI KU
  obtain ⟨x, hx⟩ : ∃ x, mdS r c = x := ⟨_, rfl⟩
  rw [hx] at KX KI
  obtain ⟨k, hk⟩ : ∃ k, mkS r = k := ⟨_, rfl⟩
  rw [hk] at KM KX
  obtain ⟨v, hv⟩ : ∃ v, pwS c = v := ⟨_, rfl⟩
  rw [hv] at KW KX
  obtain ⟨a, ha⟩ : ∃ a, ptP r c n = a := ⟨_, rfl⟩
  obtain ⟨b, hb0⟩ : ∃ b, ptP r c m = b := ⟨_, rfl⟩
  rw [ha] at KP1 KU KV
  rw [hb0] at KP2 KV
  clear h1 h2 ln lm ld hz hd hy hi hx hk hv ha hb0 hT
  unfold sidV at *
  go_enter Tryd.func7, Tryd.ntmps7
  go_wp2_with fail
  refine (sane10_any _ HB0.out.tab).mono ?_
  rintro e w1 ⟨rfl, hb⟩
  have HB1 := Lib.hid (HB0.out.call hb)
  clear hb HB0
  go_wp2_with fail
  refine (KS1.out _).mono ?_
  rintro e w2 ⟨rfl, hb⟩
  have HB2 := Lib.hid (HB1.out.call hb)
  clear hb HB1
  go_wp2_with fail
  refine (KS2.out _).mono ?_
  rintro e w3 ⟨rfl, hb⟩
  have HB3 := Lib.hid (HB2.out.call hb)
  clear hb HB2
  have HB4 := Lib.hid ((HB3.out.addS r c n w3.heap.size rfl).addS r c m (w3.heap.size + 1) (by simp))
  obtain ⟨w4, hw⟩ : ∃ w4, w4 = (w3.alloc (.cells #[.int .i64 r, .int .i64 c, .int .i64 n] 23)).alloc (.cells #[.int .i64 r, .int .i64 c, .int .i64 m] 23) := ⟨_, rfl⟩
  rw [← hw] at HB4
  go_wp2_with fail
  rw [← hw]
  clear hw HB3
  generalize w3.heap.size + 1 = gy at *
  generalize w3.heap.size = gx at *
  refine (KP1.out _ HB4.out.tab).mono ?_
  rintro e w5 ⟨rfl, hb⟩
  have HB5 := Lib.hid (HB4.out.call hb)
  clear hb HB4
  obtain ⟨y0, y1, y2⟩ := (HB5.out.side gy r c m (by simp)).cells3
  go_wp2_with fail
  clear y0 y1 y2
  refine (KP2.out _ HB5.out.tab).mono ?_
  rintro e w6 ⟨rfl, hb⟩
  have HB6 := Lib.hid (HB5.out.call hb)
  clear hb HB5
  go_wp2_with fail
  have HBd := Lib.hid HB6.out.drew
  have hS0 : w6.drew.cell? ⟨gx, 0, none⟩ = some (.int .i64 r) ∧ w6.drew.cell? ⟨gx, 1, none⟩ = some (.int .i64 c) ∧ w6.drew.cell? ⟨gx, 2, none⟩ = some (.int .i64 n) := ⟨(HBd.out.side gx r c n (by simp)).cells3.1, (HBd.out.side gx r c n (by simp)).cells3.2.1, (HBd.out.side gx r c n (by simp)).cells3.2.2⟩
  go_region_held3 (fun w' => w'.cell? ⟨gx, 0, none⟩ = some (.int .i64 r) ∧ w'.cell? ⟨gx, 1, none⟩ = some (.int .i64 c) ∧ w'.cell? ⟨gx, 2, none⟩ = some (.int .i64 n))
    (first
      | exact hS3
      | exact hS2
      | exact hS1
      | exact hS0)
    (first
      | (go_at_call 26
         with_reducible refine (KM.out w6.drew).mono ?_
         rintro e w7 ⟨rfl, hb⟩
         have HB7 := Lib.hid (HBd.out.call hb)
         have hS1 : w7.cell? ⟨gx, 0, none⟩ = some (.int .i64 r) ∧ w7.cell? ⟨gx, 1, none⟩ = some (.int .i64 c) ∧ w7.cell? ⟨gx, 2, none⟩ = some (.int .i64 n) := ⟨(HB7.out.side gx r c n (by simp)).cells3.1, (HB7.out.side gx r c n (by simp)).cells3.2.1, (HB7.out.side gx r c n (by simp)).cells3.2.2⟩
         clear hb)
      | (go_at_call 24
         with_reducible refine (KW.out w7).mono ?_
         rintro e w8 ⟨rfl, hb⟩
         have HB8 := Lib.hid (HB7.out.call hb)
         have hS2 : w8.cell? ⟨gx, 0, none⟩ = some (.int .i64 r) ∧ w8.cell? ⟨gx, 1, none⟩ = some (.int .i64 c) ∧ w8.cell? ⟨gx, 2, none⟩ = some (.int .i64 n) := ⟨(HB8.out.side gx r c n (by simp)).cells3.1, (HB8.out.side gx r c n (by simp)).cells3.2.1, (HB8.out.side gx r c n (by simp)).cells3.2.2⟩
         clear hb)
      | (go_at_call 29
         with_reducible refine (KX.out w8).mono ?_
         rintro e w9 ⟨rfl, hb⟩
         have HB9 := Lib.hid (HB8.out.call hb)
         have hS3 : w9.cell? ⟨gx, 0, none⟩ = some (.int .i64 r) ∧ w9.cell? ⟨gx, 1, none⟩ = some (.int .i64 c) ∧ w9.cell? ⟨gx, 2, none⟩ = some (.int .i64 n) := ⟨(HB9.out.side gx r c n (by simp)).cells3.1, (HB9.out.side gx r c n (by simp)).cells3.2.1, (HB9.out.side gx r c n (by simp)).cells3.2.2⟩
         clear hb))
  go_wp2_with fail
  refine (KI.out _).mono ?_
  rintro e w10 ⟨rfl, hb⟩
  have HB10 := Lib.hid (HB9.out.call hb)
  clear hb HB9
  go_wp2_with fail
  refine (KU.out _).mono ?_
  rintro e w11 ⟨rfl, hb⟩
  have HB11 := Lib.hid (HB10.out.call hb)
  clear hb HB10
  obtain ⟨x0, x1, x2⟩ := (HB11.out.side gx r c n (by simp)).cells3
  go_wp2_with fail
  clear x0 x1 x2
  refine (KB.out _).mono ?_
  rintro e w12 ⟨rfl, hb⟩
  have HB12 := Lib.hid (HB11.out.call hb)
  clear hb HB11
  obtain ⟨x0, x1, x2⟩ := (HB12.out.side gx r c n (by simp)).cells3
  obtain ⟨y0, y1, y2⟩ := (HB12.out.side gy r c m (by simp)).cells3
  go_wp2_with fail
  clear x0 x1 x2 y0 y1 y2
  refine (KS.out _).mono ?_
  rintro e w13 ⟨rfl, hb⟩
  have HB13 := Lib.hid (HB12.out.call hb)
  clear hb HB12
  go_wp2_with fail
  refine (KD.out _).mono ?_
  rintro e w14 ⟨rfl, hb⟩
  have HB14 := Lib.hid (HB13.out.call hb)
  clear hb HB13
  go_wp2_with fail
  refine (KV.out _).mono ?_
  rintro e w15 ⟨rfl, hb⟩
  have HB15 := Lib.hid (HB14.out.call hb)
  clear hb HB14
  go_wp2_with fail
  go_ret
  exact ⟨rfl, HB15.out.below⟩
end Go.Proofs.YtkpecfhcdechmaaDoor
