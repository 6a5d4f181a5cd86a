/-
  The walk of CodecNumbers.
-/
import Derived.Test.YtihllbblehjhlaaSan
namespace Go.Proofs.Ytihllbblehjhlaa
open Go.RowKit

theorem ndigF_pos (f u : Nat) : 1 ≤ ndigF f u := by cases f <;> simp only [ndigF]; omega; split <;> omega
theorem ndigF_mono : ∀ (f u v : Nat), u ≤ v → ndigF f u ≤ ndigF f v
  | 0, _, _, _ => by simp [ndigF]
  | f + 1, u, v, h => by
    simp only [ndigF]
    have := ndigF_mono f (u / 128) (v / 128) (Nat.div_le_div_right h)
    have := ndigF_pos f (v / 128)
    split <;> split <;> omega
theorem vsize_int (a : Int) : vsize 1 a ByteArray.empty .nil = 1 + ndig (zig a) := rfl
theorem vchk_int (a : Int) : vchk 1 a ByteArray.empty .nil = 0 := by
  have h : vwf 1 a ByteArray.empty .nil = true := by
    unfold vwf; rw [if_pos rfl]; decide +kernel
  exact vchk_ok h (by simp [vdepth])
theorem dec_int (a : Int) (ha : I64 a) : dec (venc 1 a ByteArray.empty .nil) = some ⟨1, a, ByteArray.empty, .nil⟩ := by
  have h1 : venc 1 a ByteArray.empty .nil = 1 :: numeral (zig a) := rfl
  have h2 := dnum_numeral (zig a) [] (zig_le ha)
  rw [List.append_nil] at h2
  unfold dec
  rw [h1]
  simp only [dval]
  rw [if_pos (show (1 : UInt8).toNat = 1 from rfl), h2]
  simp only [Option.map_some, zag_zig]
theorem size_mono {a b : Int} (h : (0 ≤ a ∧ a ≤ b) ∨ (a < 0 ∧ b ≤ a)) : ndig (zig a) ≤ ndig (zig b) := by
  refine ndigF_mono 9 _ _ ?_
  rcases h with ⟨h1, h2⟩ | ⟨h1, h2⟩
  · have := zig_nonneg h1; have := zig_nonneg (n := b) (by omega); omega
  · have := zig_neg (n := a) (by omega); have := zig_neg (n := b) (by omega); omega

set_option maxRecDepth 100000 in
set_option maxHeartbeats 1600000 in
theorem numbers_walk (a b : Int) (ha : I64 a) (hb : I64 b) (m n : Nat) (HM : Hid (vsize 1 a ByteArray.empty .nil = m)) (HN : Hid (vsize 1 b ByteArray.empty .nil = n)) (hm : 2 ≤ m ∧ m ≤ 11) (hn : 2 ≤ n ∧ n ≤ 11)
    (hc : (0 ≤ a ∧ a ≤ b ∧ m ≤ n) ∨ (0 ≤ a ∧ b < a) ∨ (a < 0 ∧ b ≤ a ∧ m ≤ n) ∨ (a < 0 ∧ a < b)) (w : World) :
    Calls Try.prog 5 #[.int .i64 a, .int .i64 b] w fun e w' => e = .returned (.bool true) ∧ Below w.heap.size w w' := by
  have HA := Lib.hid ha
  have HB := Lib.hid hb
  obtain ⟨ha0, ha1⟩ := ha
  obtain ⟨hb0, hb1⟩ := hb
  obtain ⟨hm0, hm1⟩ := hm
  obtain ⟨hn0, hn1⟩ := hn
  rcases hc with ⟨c1, c2, c3⟩ | ⟨c1, c2⟩ | ⟨c1, c2, c3⟩ | ⟨c1, c2⟩
  all_goals
    go_enter Try.func5, Try.ntmps5
    go_wp2_with fail
    refine (sane_any _).mono ?_
    rintro e w1 ⟨rfl, hb1⟩
    go_wp2_with fail
    refine (int_any _ _).mono ?_
    rintro e w2 ⟨rfl, hb2⟩
    go_wp2_with fail
    refine (size_ok w2.heap.size 1 a ByteArray.empty none 0 .nil _ (by decide) (by rw [HM.out]; omega) i64_1 HA.out empty_le (RepS.nil _ _) (Nat.le_refl _) (vchk_int a)).mono ?_
    rw [HM.out]
    rintro e w3 ⟨rfl, hb3⟩
    go_wp2_with fail
    refine (int_any _ _).mono ?_
    rintro e w4 ⟨rfl, hb4⟩
    go_wp2_with fail
    refine (size_ok w4.heap.size 1 b ByteArray.empty none 0 .nil _ (by decide) (by rw [HN.out]; omega) i64_1 HB.out empty_le (RepS.nil _ _) (Nat.le_refl _) (vchk_int b)).mono ?_
    rw [HN.out]
    rintro e w5 ⟨rfl, hb5⟩
    have h25 := Lib.hid ((((hb1.trans (hb2.mono hb1.size)).trans (hb3.mono (by have := hb1.size; have := hb2.size; omega))).trans (hb4.mono (by have := hb1.size; have := hb2.size; have := hb3.size; omega))).trans (hb5.mono (by have := hb1.size; have := hb2.size; have := hb3.size; have := hb4.size; omega)))
    clear hb1 hb2 hb3 hb4 hb5
    go_wp2_with fail
    refine (int_any _ _).mono ?_
    rintro e w6 ⟨rfl, hb6⟩
    go_wp2_with fail
    refine (encode_ok w6.heap.size 1 a ByteArray.empty none 0 .nil _ (by decide) (by rw [HM.out]; omega) i64_1 HA.out empty_le (RepS.nil _ _) (Nat.le_refl _) (vchk_int a)).mono ?_
    rintro e w7 ⟨v, rfl, ho, hb7⟩
    obtain ⟨av, capv, rfl, _, hrv⟩ := ho.form
    have HC := Lib.hid ho.caps
    have HR := Lib.hid hrv
    have HL := Lib.hid (venc_length 1 a ByteArray.empty .nil)
    have HD := Lib.hid (dec_int a HA.out)
    have h27 := Lib.hid ((h25.out.trans (hb6.mono h25.out.size)).trans (hb7.mono (by have := h25.out.size; have := hb6.size; omega)))
    clear ho hrv hb6 hb7
    generalize venc 1 a ByteArray.empty .nil = l at *
    go_wp2_with fail
    refine (decode_any w7.heap.size av capv l _ HR.out (Nat.le_refl _) HC.out.1 HC.out.2 (by rw [HL.out, HM.out]; omega)).mono ?_
    rw [HD.out]
    intro e w8 hp
    rcases hp with ⟨v, a8, cap8, hd, rfl, _, _, _, _, hb8⟩ | ⟨hd, _⟩
    rotate_left
    · cases hd
    injection hd with hd
    subst hd
    have h28 := Lib.hid (h27.out.trans (hb8.mono h27.out.size))
    clear hb8
    go_wp2_with fail
    go_ret
    exact ⟨rfl, h28.out.alloc h28.out.size _⟩
end Go.Proofs.Ytihllbblehjhlaa
