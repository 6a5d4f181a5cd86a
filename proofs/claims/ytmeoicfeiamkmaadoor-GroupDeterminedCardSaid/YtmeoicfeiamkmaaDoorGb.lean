/-
  Package group: products modulo P; the reference's sums, products and powers modulo any number below 2^62.
-/
import Derived.Test.YtmeoicfeiamkmaaDoorGs
import Derived.Test.YtmeoicfeiamkmaaDoorDvP
import Derived.Test.YtmeoicfeiamkmaaDoorFb
namespace Go.Proofs.YtmeoicfeiamkmaaDoor
open Go.RowKit
set_option linter.unusedVariables false
set_option linter.unusedSimpArgs false

theorem div64P_any (hi lo : Nat) (hhi : hi < 4611686018427377339) (hlo : lo < 18446744073709551616) (w : World) :
    Calls Tryd.prog 37 #[.int .u64 hi, .int .u64 lo, .int .u64 4611686018427377339] w fun e w' => (∃ q : Int, e = .returned (.tuple #[.int .u64 q, .int .u64 (((hi * 18446744073709551616 + lo) % 4611686018427377339 : Nat) : Int)])) ∧ ∃ k, w' = w.drewN k := by
  by_cases h0 : hi = 0
  · subst h0
    rw [Nat.zero_mul, Nat.zero_add]
    exact P.div64_zero lo hlo w
  · refine (P.div64_pos hi lo (by omega) hhi hlo w).mono ?_
    rintro e w' ⟨h, rfl⟩
    exact ⟨h, 0, rfl⟩

theorem rem64P_any (hi lo : Nat) (hhi : hi < 4611686018427377339) (hlo : lo < 18446744073709551616) (w : World) :
    Calls Tryd.prog 27 #[.int .u64 hi, .int .u64 lo, .int .u64 4611686018427377339] w fun e w' => e = .returned (.int .u64 (((hi * 18446744073709551616 + lo) % 4611686018427377339 : Nat) : Int)) ∧ ∃ k, w' = w.drewN k := by
  have c1 : IntKind.u64.wrap ((hi : Int).tmod 4611686018427377339) = (hi : Int) := by rw [Int.tmod_eq_emod_of_nonneg (by omega), wrapU _ (by omega) (by omega)]; omega
  have c2 : (hi : Int).tmod 4611686018427377339 = (hi : Int) := by rw [Int.tmod_eq_emod_of_nonneg (by omega)]; omega
  have HD := Lib.hid (fun w => div64P_any hi lo hhi hlo w)
  generalize (hi * 18446744073709551616 + lo) % 4611686018427377339 = r at *
  go_enter Tryd.func27, Tryd.ntmps27
  go_wp2_with (go_at_call 37; refine (HD.out _).mono ?_; rintro e w' ⟨⟨q, rfl⟩, k, hw⟩; rw [hw]; clear hw w')
  go_ret
  exact ⟨rfl, _, rfl⟩

theorem prodHiP {a b : Nat} (ha : a < 4611686018427377339) (hb : b < 4611686018427377339) : a * b / 18446744073709551616 < 4611686018427377339 := by
  have h : a * b ≤ 4611686018427377338 * 4611686018427377338 := Nat.mul_le_mul (by omega) (by omega)
  generalize a * b = x at *
  omega

theorem gprod_any (a b : Nat) (ha : a < 4611686018427377339) (hb : b < 4611686018427377339) (w : World) :
    Calls Tryd.prog 19 #[.int .i64 a, .int .i64 b] w fun e w' => e = .returned (.int .i64 ((a * b % 4611686018427377339 : Nat) : Int)) ∧ ∃ k, w' = w.drewN k := by
  have c1 := wrapU (a : Int) (by omega) (by omega)
  have c2 := wrapU (b : Int) (by omega) (by omega)
  have hh := prodHiP ha hb
  have hl : a * b % 18446744073709551616 < 18446744073709551616 := Nat.mod_lt _ (by decide)
  have he : a * b / 18446744073709551616 * 18446744073709551616 + a * b % 18446744073709551616 = a * b := Nat.div_add_mod' _ _
  have hr : a * b % 4611686018427377339 < 4611686018427377339 := Nat.mod_lt _ (by decide)
  have hm := Tryd.bits_Mul64 a b (by omega) (by omega)
  have HD := Lib.hid (fun w => rem64P_any _ _ hh hl w)
  rw [he] at HD
  have c3 := (wrapI ((a * b % 4611686018427377339 : Nat) : Int) (by omega) (by omega))
  clear he
  generalize a * b / 18446744073709551616 = hi at *
  generalize a * b % 18446744073709551616 = lo at *
  generalize a * b % 4611686018427377339 = r at *
  have HM := Lib.hid hm
  clear hm
  go_enter Tryd.func19, Tryd.ntmps19
  go_wp2_with (first
    | (go_at_call 29; refine (HM.out _).mono ?_; rintro e w' ⟨rfl, hw⟩; rw [hw]; clear hw w')
    | (go_at_call 27; refine (HD.out _).mono ?_; rintro e w' ⟨rfl, k, hw⟩; rw [hw]; clear hw w'))
  go_ret
  exact ⟨rfl, _, rfl⟩

theorem gsum_any (m a b : Nat) (hm : m < 4611686018427387904) (ha : a < m) (hb : b < m) (w : World) :
    Calls Tryd.prog 30 #[.int .i64 a, .int .i64 b, .int .i64 m] w fun e w' => e = .returned (.int .i64 (((a + b) % m : Nat) : Int)) ∧ w' = w := by
  have c1 := wrapI ((a : Int) + b) (by omega) (by omega)
  by_cases h : m ≤ a + b
  · have f1 : decide ((m : Int) ≤ (a : Int) + b) = true := decide_eq_true (by omega)
    have c2 := wrapI ((a : Int) + b - m) (by omega) (by omega)
    have c3 : (a : Int) + b - m = (((a + b) % m : Nat) : Int) := by
      rw [Nat.mod_eq_sub_mod h, Nat.mod_eq_of_lt (by omega)]; omega
    generalize (a + b) % m = r at *
    go_enter Tryd.func30, Tryd.ntmps30
    go_wp2_with fail
    go_ret
    exact ⟨by rw [← c3]; rfl, rfl⟩
  · have f1 : decide ((m : Int) ≤ (a : Int) + b) = false := decide_eq_false (by omega)
    have c3 : (a : Int) + b = (((a + b) % m : Nat) : Int) := by
      rw [Nat.mod_eq_of_lt (by omega)]; omega
    generalize (a + b) % m = r at *
    go_enter Tryd.func30, Tryd.ntmps30
    go_wp2_with fail
    go_ret
    exact ⟨by rw [← c3]; rfl, rfl⟩

set_option maxHeartbeats 800000 in
theorem grprod_any (m a b : Nat) (hm : m < 4611686018427387904) (ha : a < m) (hb : b < 9223372036854775808) (w : World) :
    Calls Tryd.prog 20 #[.int .i64 a, .int .i64 b, .int .i64 m] w fun e w' => e = .returned (.int .i64 ((a * b % m : Nat) : Int)) ∧ w' = w := by
  go_enter Tryd.func20, Tryd.ntmps20
  go_wp2_with fail
  go_loopw [0, 1, 7] (fun x y z wr => ∃ p q c : Nat, x = .int .i64 p ∧ y = .int .i64 q ∧ z = .int .i64 c ∧ p < m ∧ q < 9223372036854775808 ∧ c < m ∧ (c + p * q) % m = a * b % m ∧ wr = w) (fun _ y _ _ => (intOf y).toNat)
  case atStart => exact ⟨a, b, 0, rfl, rfl, rfl, ha, hb, by omega, by rw [Nat.zero_add], rfl⟩
  case round =>
    obtain ⟨p, q, c, rfl, rfl, rfl, hp, hq, hc, hi, hw⟩ := hrel
    subst hw
    by_cases h0 : q = 0
    · subst h0
      have e : c = a * b % m := by rw [← hi, Nat.mul_zero, Nat.add_zero, Nat.mod_eq_of_lt hc]
      clear hi
      go_wp2_with fail
      go_ret
      exact ⟨by rw [e]; rfl, rfl⟩
    · have f1 : decide ((0 : Int) < (q : Int)) = true := decide_eq_true (by omega)
      have hi' := step_prod (a := p) (b := q) (c := c) (n := m)
      rw [hi] at hi'
      have d1 : IntKind.i64.wrap ((q : Int).tdiv 2) = ((q / 2 : Nat) : Int) := by rw [Int.tdiv_eq_ediv_of_nonneg (by omega), wrapI _ (by omega) (by omega)]; omega
      have hpp : (p + p) % m < m := Nat.mod_lt _ (by omega)
      have hcc : (c + p) % m < m := Nat.mod_lt _ (by omega)
      have HI := Lib.hid hi'
      have hq2 : q / 2 < 9223372036854775808 := by clear hi hi'; omega
      clear hi hi'
      by_cases h1 : q % 2 = 1
      · have f2 : ((q : Int).tmod 2 == 1) = true := by rw [Int.tmod_eq_emod_of_nonneg (by omega)]; simp; omega
        go_wp2_with (go_at_call 30; refine (gsum_any _ _ _ hm (by assumption) (by assumption) _).mono ?_; rintro e w' ⟨rfl, hw⟩; rw [hw]; clear hw w')
        go_roundw
        case rel =>
          have h := HI.out
          rw [if_pos h1] at h
          exact ⟨_, q / 2, _, rfl, rfl, rfl, hpp, hq2, hcc, h, trivial⟩
        case measure => simp [intOf]; omega
      · have f2 : ((q : Int).tmod 2 == 1) = false := by rw [Int.tmod_eq_emod_of_nonneg (by omega)]; simp; omega
        go_wp2_with (go_at_call 30; refine (gsum_any _ _ _ hm (by assumption) (by assumption) _).mono ?_; rintro e w' ⟨rfl, hw⟩; rw [hw]; clear hw w')
        go_roundw
        case rel =>
          have h := HI.out
          rw [if_neg h1] at h
          exact ⟨_, q / 2, _, rfl, rfl, rfl, hpp, hq2, hc, h, trivial⟩
        case measure => simp [intOf]; omega

end Go.Proofs.YtmeoicfeiamkmaaDoor
