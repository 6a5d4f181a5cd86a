/-
  Contracts of the small functions on numbers of package codec and of its reference: unsigned, signed, numeralSize.
-/
import Derived.Test.YtihllbblehjhlaaV
import Derived.Test.YtihllbblehjhlaaShelf
import Derived.Lib.Zigzag
import Derived.Lib.ItoaNum
namespace Go.Proofs.Ytihllbblehjhlaa
open Go.RowKit

/-- The unsigned form. -/
def zig (n : Int) : Nat := if 0 ≤ n then (2 * n).toNat else (-2 * n - 1).toNat
theorem zig_nonneg {n : Int} (h : 0 ≤ n) : (zig n : Int) = 2 * n := by unfold zig; rw [if_pos h]; omega
theorem zig_neg {n : Int} (h : ¬ 0 ≤ n) : (zig n : Int) = -2 * n - 1 := by unfold zig; rw [if_neg h]; omega
/-- Back. -/
def zag (u : Nat) : Int := if u % 2 = 0 then (u / 2 : Nat) else -((u / 2 : Nat) : Int) - 1
theorem zag_zig (n : Int) : zag (zig n) = n := by
  by_cases h : 0 ≤ n
  · have := zig_nonneg h; unfold zag; split <;> omega
  · have := zig_neg h; unfold zag; split <;> omega
theorem zig_zag (u : Nat) : zig (zag u) = u := by
  by_cases h : u % 2 = 0
  · have e : zag u = (u / 2 : Nat) := by unfold zag; rw [if_pos h]
    have := zig_nonneg (n := zag u) (by omega); omega
  · have e : zag u = -((u / 2 : Nat) : Int) - 1 := by unfold zag; rw [if_neg h]
    have := zig_neg (n := zag u) (by omega); omega

theorem bv_ones (x : Nat) (h : x < 18446744073709551616) : x ^^^ 18446744073709551615 = 18446744073709551615 - x := by
  have h1 := BitVec.toNat_not (x := BitVec.ofNat 64 x)
  rw [BitVec.not_def, BitVec.toNat_xor, BitVec.toNat_ofNat, Nat.mod_eq_of_lt h] at h1
  have h2 : (BitVec.allOnes 64).toNat = 18446744073709551615 := by decide
  rw [h2, Nat.xor_comm] at h1
  omega

theorem i64_xor_comm (a b : Int) : bits .xor .i64 a b = bits .xor .i64 b a := by
  show IntKind.i64.wrap ((BitVec.ofInt 64 a ^^^ BitVec.ofInt 64 b).toNat : Int) = IntKind.i64.wrap ((BitVec.ofInt 64 b ^^^ BitVec.ofInt 64 a).toNat : Int)
  rw [BitVec.xor_comm]
theorem wrap_i64_nat (a : Nat) (h : a < 9223372036854775808) : IntKind.i64.wrap (a : Int) = (a : Int) := by
  rw [IntWalk.i64_left]; exact IntWalk.wrap64_in _ (by omega)
theorem i64_xor_zero (a : Nat) (h : a < 9223372036854775808) : bits .xor .i64 (a : Int) ((0 : Nat) : Int) = (a : Int) := by
  show IntKind.i64.wrap ((BitVec.ofInt 64 (a : Int) ^^^ BitVec.ofInt 64 ((0 : Nat) : Int)).toNat : Int) = _
  rw [BitVec.ofInt_natCast, BitVec.ofInt_natCast, BitVec.toNat_xor, BitVec.toNat_ofNat, BitVec.toNat_ofNat, Nat.mod_eq_of_lt (show a < 2 ^ 64 by omega)]
  simp only [Nat.zero_mod, Nat.xor_zero]
  exact wrap_i64_nat a h

set_option maxHeartbeats 400000 in
theorem refUnsigned (n : Int) (hn : I64 n) (w : World) :
    Calls Try.prog 36 #[.int .i64 n] w fun e w' => e = .returned (.int .u64 (zig n)) ∧ w = w' := by
  obtain ⟨h0, h1⟩ := hn
  by_cases hn : 0 ≤ n
  · have HZ : Hid ((zig n : Int) = 2 * n) := zig_nonneg hn
    go_enter Try.func36, Try.ntmps36
    go_wp2
    go_ret
    exact ⟨by rw [HZ.out]; rfl, rfl⟩
  · have HZ : Hid ((zig n : Int) = -2 * n - 1) := zig_neg hn
    go_enter Try.func36, Try.ntmps36
    go_wp2
    go_ret
    exact ⟨by rw [HZ.out]; simp; omega, rfl⟩

set_option maxHeartbeats 400000 in
theorem codecUnsigned (n : Int) (hn : I64 n) (w : World) :
    Calls Try.prog 38 #[.int .i64 n] w fun e w' => e = .returned (.int .u64 (zig n)) ∧ w = w' := by
  obtain ⟨h0, h1⟩ := hn
  by_cases hn : 0 ≤ n
  · have HZ : Hid ((zig n : Int) = 2 * n) := zig_nonneg hn
    go_enter Try.func38, Try.ntmps38
    go_wp2
    go_ret
    refine ⟨?_, rfl⟩
    rw [HZ.out]
    show Ending.returned (.int .u64 (bits .xor .u64 (n * 2) (n / 9223372036854775808))) = _
    rw [show n / 9223372036854775808 = ((0 : Nat) : Int) from by omega, show n * 2 = ((n.toNat * 2 : Nat) : Int) from by omega, bits_xor_u64_nat _ _ (by omega) (by omega), Nat.xor_zero]
    congr 2; omega
  · have HZ : Hid ((zig n : Int) = -2 * n - 1) := zig_neg hn
    go_enter Try.func38, Try.ntmps38
    go_wp2
    go_ret
    refine ⟨?_, rfl⟩
    rw [HZ.out]
    show Ending.returned (.int .u64 (bits .xor .u64 (IntKind.u64.wrap (IntKind.u64.wrap n * 2)) (IntKind.u64.wrap (n / 9223372036854775808)))) = _
    rw [IntKind.wrap_u64, IntKind.wrap_u64, IntKind.wrap_u64, show n / 9223372036854775808 % 18446744073709551616 = ((18446744073709551615 : Nat) : Int) from by omega, show n % 18446744073709551616 * 2 % 18446744073709551616 = (((2 * n + 18446744073709551616).toNat : Nat) : Int) from by omega, bits_xor_u64_nat _ _ (by omega) (by omega), bv_ones _ (by omega)]
    congr 2; omega

set_option maxHeartbeats 400000 in
theorem codecSigned (u : Nat) (hu : u ≤ 18446744073709551615) (w : World) :
    Calls Try.prog 40 #[.int .u64 u] w fun e w' => e = .returned (.int .i64 (zag u)) ∧ w = w' := by
  go_enter Try.func40, Try.ntmps40
  go_wp2
  go_ret
  refine ⟨?_, rfl⟩
  show Ending.returned (.int .i64 (bits .xor .i64 ((u : Int) / 2) (wrap64 (-wrap64 (bits .and .u64 (u : Int) ((1 : Nat) : Int)))))) = _
  rw [bits_and_u64_nat _ _ (by omega) (by omega), Nat.and_one_is_mod, IntWalk.wrap64_in ((u % 2 : Nat) : Int) ⟨by omega, by omega⟩, IntWalk.wrap64_in _ ⟨by omega, by omega⟩]
  rcases Nat.mod_two_eq_zero_or_one u with h | h
  · rw [h, show ((u : Int) / 2) = ((u / 2 : Nat) : Int) from by omega, show (-((0 : Nat) : Int)) = ((0 : Nat) : Int) from rfl, i64_xor_zero _ (by omega)]
    simp [zag, h]
  · rw [h, show ((u : Int) / 2) = ((u / 2 : Nat) : Int) from by omega, i64_xor_comm, show (-((1 : Nat) : Int)) = -1 from rfl, Lib.i64_not _ (by omega)]
    simp [zag, h]

/-- How many digits to the base 128 a number below 128^f has (1 for 0). -/
def ndigF : Nat → Nat → Nat
  | 0, _ => 1
  | f + 1, u => if u < 128 then 1 else 1 + ndigF f (u / 128)
def ndig (u : Nat) : Nat := ndigF 9 u

theorem ndigF_bd : ∀ (f u : Nat), u < 128 ^ (f + 1) → u < 128 ^ ndigF f u ∧ (128 ≤ u → 128 ^ (ndigF f u - 1) ≤ u) ∧ 1 ≤ ndigF f u ∧ (u < 128 → ndigF f u = 1)
  | 0, u, h => by simp only [ndigF]; exact ⟨h, fun _ => by simp; omega, Nat.le_refl _, by simp⟩
  | f + 1, u, h => by
    simp only [ndigF]
    split
    · rename_i h1; refine ⟨by omega, by omega, by omega, by omega⟩
    · rename_i h1
      obtain ⟨a, b, c, d⟩ := ndigF_bd f (u / 128) (by rw [Nat.pow_succ] at h; omega)
      refine ⟨?_, fun _ => ?_, by omega, by omega⟩
      · rw [Nat.add_comm, Nat.pow_succ]; omega
      · rw [Nat.add_sub_cancel_left]
        by_cases h2 : 128 ≤ u / 128
        · have := b h2
          have e : 128 ^ ndigF f (u / 128) = 128 ^ (ndigF f (u / 128) - 1) * 128 := by rw [← Nat.pow_succ]; congr 1; omega
          omega
        · rw [d (by omega)]; omega

theorem or_one (u : Nat) : u ||| 1 = u + (1 - u % 2) := by
  have h1 : (u ||| 1) / 2 = u / 2 := by rw [Nat.or_div_two]; simp
  have h2 : (u ||| 1) % 2 = 1 := Nat.or_mod_two_eq_one.2 (.inr rfl)
  omega

theorem numSize (u : Nat) (hu : u ≤ 18446744073709551615) : (Lib.bitLen (u ||| 1) + 6) / 7 = ndig u := by
  rw [or_one]
  obtain ⟨a1, a2, a3⟩ := Lib.bitLenAux_bounds 64 (u + (1 - u % 2)) (by omega) (by omega)
  obtain ⟨b1, b2, b3, b4⟩ := ndigF_bd 9 u (by omega)
  unfold Lib.bitLen ndig
  generalize Lib.bitLenAux 64 (u + (1 - u % 2)) = b at *
  generalize ndigF 9 u = d at *
  have e : ∀ k, 128 ^ k = 2 ^ (7 * k) := fun k => by rw [Nat.pow_mul]
  have c1 : b - 1 < 7 * d := by
    refine (Nat.pow_lt_pow_iff_right (a := 2) (by decide)).1 (Nat.lt_of_le_of_lt a2 ?_)
    rw [e] at b1
    have h2 : 2 ^ (7 * d) = 2 * 2 ^ (7 * d - 1) := by rw [← Nat.pow_succ']; congr 1; omega
    omega
  by_cases h : 128 ≤ u
  · have c2 : 7 * (d - 1) < b := by
      refine (Nat.pow_lt_pow_iff_right (a := 2) (by decide)).1 (Nat.lt_of_le_of_lt ?_ a3)
      have := b2 h
      rw [e] at this
      omega
    omega
  · have := b4 (by omega)
    omega

set_option maxHeartbeats 400000 in
theorem numeralSize_any (u : Nat) (hu : u ≤ 18446744073709551615) (w : World) :
    Calls Try.prog 37 #[.int .u64 u] w fun e w' => e = .returned (.int .i64 (ndig u)) ∧ w = w' := by
  have hS : Hid ((Lib.bitLen (u ||| 1) + 6) / 7 = ndig u) := numSize u hu
  have hO : Hid (bits .or .u64 (u : Int) 1 = ((u ||| 1 : Nat) : Int)) := bits_or_u64_nat u 1 (by omega) (by omega)
  have hx : u ||| 1 ≤ 18446744073709551615 := by rw [or_one]; omega
  have hb : Lib.bitLen (u ||| 1) ≤ 70 := by
    have h2 := (ndigF_bd 9 u (by omega))
    have h3 : ndigF 9 u ≤ 10 := by
      have h4 : ∀ f u, ndigF f u ≤ f + 1 := by
        intro f; induction f with
        | zero => intro u; simp [ndigF]
        | succ f ih => intro u; simp only [ndigF]; split; omega; have := ih (u / 128); omega
      exact h4 9 u
    have := numSize u hu
    unfold ndig at this
    omega
  go_enter Try.func37, Try.ntmps37
  go_wp2_with fail
  rw [hO.out]
  refine (Try.bits_Len64 _ _ (by omega) (by omega)).mono ?_
  rintro e w' ⟨rfl, rfl⟩
  rw [Int.toNat_natCast]
  generalize Lib.bitLen (u ||| 1) = b at *
  go_wp2
  go_ret
  exact ⟨by rw [← hS.out]; rfl, rfl⟩
end Go.Proofs.Ytihllbblehjhlaa
