/-
  Contract of sane.
-/
import Derived.Test.YtihllbblehjhlaaDec
import Derived.Test.YtihllbblehjhlaaSam
import Derived.Test.YtihllbblehjhlaaFew
namespace Go.Proofs.Ytihllbblehjhlaa
open Go.RowKit

/-! ### The chapter's examples -/
def exAb : ByteArray := ⟨#[97, 98]⟩
def exKids : VL := .cons 1 100 ByteArray.empty .nil (.cons 2 0 exAb .nil .nil)
theorem ex_enc1 : venc 1 (-3) ByteArray.empty .nil = [1, 5] := by decide +kernel
theorem ex_enc2 : venc 3 0 ByteArray.empty exKids = [3, 2, 1, 200, 1, 2, 2, 97, 98] := by decide +kernel
theorem ex_chk1 : vchk 1 (-3) ByteArray.empty .nil = 0 := by decide +kernel
theorem ex_chk2 : vchk 3 0 ByteArray.empty exKids = 0 := by decide +kernel
theorem ex_size1 : vsize 1 (-3) ByteArray.empty .nil = 2 := by decide +kernel
theorem ex_size2 : vsize 3 0 ByteArray.empty exKids = 9 := by decide +kernel
theorem ex_dec : dec [3, 2, 1, 200, 1, 2, 2, 97, 98] = some ⟨3, 0, ByteArray.empty, exKids⟩ := by kernel_rfl
theorem ex_same : vsame 3 0 ByteArray.empty exKids 3 0 ByteArray.empty exKids = true := (vsame_iff ..).2 ⟨rfl, rfl, rfl, rfl⟩
theorem ex_other : vsame 2 0 ByteArray.empty .nil 3 0 ByteArray.empty .nil = false := by decide +kernel
theorem ex_none : dec [] = none ∧ dec [1, 128, 0] = none ∧ dec [1, 5, 0] = none ∧ dec [2, 3, 97] = none := ⟨by kernel_rfl, by kernel_rfl, by kernel_rfl, by kernel_rfl⟩
theorem ex_zero : vchk 0 0 ByteArray.empty .nil = 1 := by decide +kernel

theorem RepS.nil (B : Nat) (w : World) : RepS B w none 0 .nil := ⟨Nat.zero_le _, .inl ⟨fun _ => rfl, rfl⟩⟩
theorem ex_rep (w : World) : RepS (w.heap.size + 1) (w.alloc (.cells #[.int .i64 1, .int .i64 100, .string ByteArray.empty, .slice none 0 0, .int .i64 2, .int .i64 0, .string exAb, .slice none 0 0] 24)) (some ⟨w.heap.size, 0, none⟩) 2 exKids := by
  refine ⟨by show (2 : Nat) ≤ maxLen; unfold maxLen; omega, .inr ⟨_, _, rfl, ⟨by omega, i64_1, by unfold I64; omega, Nat.zero_le _, by simp, by simp, by simp, ⟨none, 0, by simp [VL.len], Nat.zero_le _, .inl ⟨fun _ => rfl, rfl⟩⟩, by omega, i64_2, i64_0, by show (2 : Nat) ≤ maxLen; unfold maxLen; omega, by simp, by simp, by simp, ⟨none, 0, by simp [VL.len], Nat.zero_le _, .inl ⟨fun _ => rfl, rfl⟩⟩, trivial⟩⟩⟩
theorem empty_le : ByteArray.empty.size ≤ maxLen := Nat.zero_le _
theorem i64_m3 : I64 (-3) := by unfold I64; omega

set_option maxRecDepth 100000 in
set_option maxHeartbeats 1600000 in
theorem sane_any (w : World) : Calls Try.prog 6 #[] w fun e w' => e = .returned (.bool true) ∧ Below w.heap.size w w' := by
  go_enter Try.func6, Try.ntmps6
  go_wp2_with fail
  refine (int_any _ _).mono ?_
  rintro e w1 ⟨rfl, hb1⟩
  go_wp2_with fail
  refine (encode_ok w1.heap.size 1 (-3) ByteArray.empty none 0 .nil _ (by decide) (by rw [ex_size1]; decide) i64_1 i64_m3 empty_le (RepS.nil _ _) (Nat.le_refl _) ex_chk1).mono ?_
  rw [ex_enc1]
  rintro e w2 ⟨v2, rfl, ho2, hb2⟩
  obtain ⟨a2, cap2, rfl, _, hr2⟩ := ho2.form
  have HR2 := Lib.hid hr2
  clear ho2 hr2
  have HB2 := Lib.hid (below_call hb1 hb1.size hb2)
  clear hb1 hb2
  go_wp2_with fail
  refine (int_any _ _).mono ?_
  rintro e w3 ⟨rfl, hb3⟩
  go_wp2_with fail
  refine (text_any _ _).mono ?_
  rintro e w4 ⟨rfl, hb4⟩
  go_wp2_with fail
  refine (list_any _ _ _ _).mono ?_
  rintro e w5 ⟨rfl, hb5⟩
  go_wp2_with fail
  have hs4 : w4.heap.size + 1 ≤ w5.heap.size := by simpa using hb5.size
  have hrep := ((ex_rep w4).below (hb5.mono (by simp))).below ((Below.refl _ _).alloc hs4 (.cells #[.int .i64 3, .int .i64 0, .string ByteArray.empty, .slice (some ⟨w4.heap.size, 0, none⟩) 2 2] 24))
  refine (encode_ok (w4.heap.size + 1) 3 0 ByteArray.empty (some ⟨w4.heap.size, 0, none⟩) 2 exKids _ (by decide) (by rw [ex_size2]; decide) i64_3 i64_0 empty_le hrep (le_alloc hs4 _) ex_chk2).mono ?_
  rw [ex_enc2]
  rintro e w6 ⟨v6, rfl, ho6, hb6⟩
  obtain ⟨hc6, hm6⟩ : True ∧ True := ⟨trivial, trivial⟩
  obtain ⟨a6, cap6, rfl, _, hr6⟩ := ho6.form
  have HC6 := Lib.hid ho6.caps
  have HR6 := Lib.hid hr6
  have hN : w4.heap.size + 1 ≤ w5.heap.size := hs4
  have hz6 : w5.heap.size + 1 ≤ w6.heap.size := by simpa using hb6.size
  have HX6 : Below (w5.heap.size + 1) (w5.alloc (.cells #[.int .i64 3, .int .i64 0, .string ByteArray.empty, .slice (some ⟨w4.heap.size, 0, none⟩) 2 2] 24)) w6 := hb6.mono (by simp)
  have HRP6 := Lib.hid (hrep.below (hb6.mono (le_alloc hs4 _)))
  have H25 : Below w2.heap.size w2 w5 := below_call (below_call hb3 hb3.size hb4) (by have := hb3.size; have := hb4.size; omega) (below_start (hb5.mono (by simp)))
  have HB5 := Lib.hid (below_call HB2.out HB2.out.size H25)
  have hz25 := H25.size
  have H25' := Lib.hid H25
  clear H25
  clear ho6 hr6 hb3 hb4 hb5 hrep hc6 hm6
  go_wp2_with fail
  refine (decode_any w6.heap.size a6 cap6 [3, 2, 1, 200, 1, 2, 2, 97, 98] _ HR6.out (Nat.le_refl _) HC6.out.1 HC6.out.2 (by decide)).mono ?_
  rw [ex_dec]
  intro e w7 hp
  rcases hp with ⟨v, a7, cap7, hd, rfl, _, _, _, hq, hb7⟩ | ⟨hd, _⟩
  rotate_left
  · cases hd
  injection hd with hd
  subst hd
  have HQ7 := Lib.hid hq
  have hz7 := hb7.size
  have HB7 := Lib.hid hb7
  clear hq hb7
  obtain ⟨x0, x1, x2, x3⟩ := box4 (HX6.trans (HB7.out.mono hz6))
  have hlt57 : w5.heap.size < w7.heap.size := by omega
  go_wp2_with fail
  have HRP7 := Lib.hid ((HRP6.out.below (HB7.out.mono (by omega))).below ((Below.refl _ _).alloc (by omega) (.cells #[.int .i64 3, .int .i64 0, .string ByteArray.empty, .slice a7 exKids.len cap7] 24)))
  refine (size_ok (w4.heap.size + 1) 3 0 ByteArray.empty (some ⟨w4.heap.size, 0, none⟩) 2 exKids _ (by decide) (by rw [ex_size2]; decide) i64_3 i64_0 empty_le HRP7.out (le_alloc (by omega) _) ex_chk2).mono ?_
  rw [ex_size2]
  rintro e w8 ⟨rfl, hb8⟩
  have hz8 := hb8.size
  have HB8 := Lib.hid hb8
  clear hb8
  have hlt78 : w7.heap.size < w8.heap.size := Nat.lt_of_lt_of_le (lt_alloc _ _) hz8
  have hlt58 : w5.heap.size < w8.heap.size := by omega
  obtain ⟨y0, y1, y2, y3⟩ := box4 (HB8.out.mono (by simp))
  have HB78 : Below w7.heap.size w7 w8 := below_start (HB8.out.mono (by simp))
  obtain ⟨x0', x1', x2', x3'⟩ := box4 ((HX6.trans (HB7.out.mono hz6)).trans (HB78.mono (by omega)))
  have H28 : Below w2.heap.size w2 w8 := H25'.out.trans ((((below_start (HX6.mono (Nat.le_refl _))).trans (HB7.out.mono (by omega))).trans (HB78.mono (by omega))).mono hz25)
  have hs2 : (convert 27 9 (.slice a2 2 cap2)).run Try.prog w8 = .ok (.string ⟨#[1, 5]⟩) w8 := run_strB cap2 (HR2.out.below H28)
  have hs6 : (convert 27 9 (.slice a6 9 cap6)).run Try.prog w8 = .ok (.string ⟨#[3, 2, 1, 200, 1, 2, 2, 97, 98]⟩) w8 := run_strB cap6 (HR6.out.below (HB7.out.trans (HB78.mono hz7)))
  clear x0 x1 x2 x3
  go_wp2_with fail
  refine (same_any exKids.sz w8.heap.size 3 0 ByteArray.empty (some ⟨w4.heap.size, 0, none⟩) 2 exKids 3 0 ByteArray.empty a7 cap7 exKids _ (Nat.le_refl _) ((HRP6.out.below ((HB7.out.trans (HB78.mono hz7)).mono (by omega))).mono (by omega)) ((HQ7.out.toS (fun k hk => hk.2)).below (HB78) |>.mono (by omega)) (Nat.le_refl _)).mono ?_
  rw [ex_same]
  rintro e w9 ⟨rfl, hb9⟩
  have HB9 := Lib.hid hb9
  clear hb9
  go_wp2_with fail
  refine (text_any _ _).mono ?_
  rintro e w10 ⟨rfl, hb10⟩
  go_wp2_with fail
  refine (list_any none 0 0 _).mono ?_
  rintro e w11 ⟨rfl, hb11⟩
  go_wp2_with fail
  refine (same_any VL.nil.sz w11.heap.size 2 0 ByteArray.empty none 0 .nil 3 0 ByteArray.empty none 0 .nil _ (Nat.le_refl _) (RepS.nil _ _) (RepS.nil _ _) (Nat.le_refl _)).mono ?_
  rw [ex_other]
  rintro e w12 ⟨rfl, hb12⟩
  have HB12 : Below w.heap.size w w12 := by
    have h5 := HB5.out
    have h58 : Below w5.heap.size w5 w8 := (below_start (HX6.mono (Nat.le_refl _))).trans (((HB7.out.mono (by omega)).trans (HB78.mono (by omega))).mono (by omega))
    have h812 : Below w8.heap.size w8 w12 := (HB9.out.trans ((hb10.mono HB9.out.size).trans ((hb11.mono (by have := HB9.out.size; have := hb10.size; omega)).trans (hb12.mono (by have := HB9.out.size; have := hb10.size; have := hb11.size; omega)))))
    have := h5.size
    exact (h5.trans (h58.mono (by omega))).trans (h812.mono (by omega))
  have HZ := Lib.hid HB12
  clear HB12 hb10 hb11 hb12 hs2 hs6 x0' x1' x2' x3' y0 y1 y2 y3 H28 HB78 HX6 hz6 hz7 hz8 hlt57 hlt78 hlt58 hz25
  go_wp2_with fail
  go_loopw [79] (fun i wr => ∃ j : Nat, i = .int .i64 j ∧ j ≤ 4 ∧ Below (w12.heap.size + 1) (w12.alloc (.cells #[.string ⟨#[]⟩, .string ⟨#[1, 128, 0]⟩, .string ⟨#[1, 5, 0]⟩, .string ⟨#[2, 3, 97]⟩] 9)) wr) (fun i _ => 4 - (intOf i).toNat)
  case atStart => exact ⟨0, rfl, by omega, Below.refl _ _⟩
  case round =>
    obtain ⟨j, rfl, hj, hb⟩ := hrel
    by_cases hj4 : j = 4
    · subst hj4
      go_wp2_with fail
      refine (check_any wr.heap.size 0 0 ByteArray.empty none 0 .nil _ (by decide) i64_0 i64_0 empty_le (RepS.nil _ _) (Nat.le_refl _)).mono ?_
      rw [ex_zero]
      rintro e w13 ⟨rfl, hb13⟩
      go_wp2_with fail
      go_ret
      exact ⟨rfl, (HZ.out.trans ((below_start hb).mono HZ.out.size)).trans (hb13.mono (by have := HZ.out.size; have := hb.size; simp at this; omega))⟩
    · obtain ⟨s, hs, HD, hsz⟩ : ∃ s, wr.cell? ⟨w12.heap.size, j, none⟩ = some (.string s) ∧ Hid (dec s.data.toList = none) ∧ s.size ≤ 3 := by
        rw [hb.cell (by simp)]
        have : j = 0 ∨ j = 1 ∨ j = 2 ∨ j = 3 := by omega
        rcases this with rfl | rfl | rfl | rfl
        · exact ⟨⟨#[]⟩, by simp, ex_none.1, by decide⟩
        · exact ⟨⟨#[1, 128, 0]⟩, by simp, ex_none.2.1, by decide⟩
        · exact ⟨⟨#[1, 5, 0]⟩, by simp, ex_none.2.2.1, by decide⟩
        · exact ⟨⟨#[2, 3, 97]⟩, by simp, ex_none.2.2.2, by decide⟩
      have hlt : (j : Int) < 4 := by omega
      obtain ⟨cap, w13, hcv, hrd, hbw, hz13, hc1, hc2⟩ := run_bytesS s wr (by unfold maxLen; omega)
      have hle : s.data.toList.length = s.size := Array.length_toList
      have HLE := Lib.hid hle
      have HRD := Lib.hid hrd
      have HCC := Lib.hid (And.intro hc1 hc2)
      clear hle hrd hc1 hc2
      have hbz := hb.size
      simp at hbz
      go_wp2_with fail
      rw [← HLE.out]
      refine (decode_any (wr.heap.size + 1) _ cap s.data.toList _ HRD.out hz13 (by rw [HLE.out]; exact HCC.out.1) HCC.out.2 (by rw [HLE.out]; omega)).mono ?_
      rw [HD.out]
      intro e w14 hp
      rcases hp with ⟨v, _, _, hd, _⟩ | ⟨_, rfl, hb14⟩
      · cases hd
      have hbf : Below (w12.heap.size + 1) wr w14 := (hbw.mono hbz).trans (hb14.mono (by omega))
      go_wp2_with fail
      go_roundw
      case rel => exact ⟨j + 1, by go_num, by omega, (hb.trans hbf).alloc (by have := hbf.size; omega) _⟩
      case measure => simp [intOf]; omega
end Go.Proofs.Ytihllbblehjhlaa
