/-
  The reference's functions; the law package's helpers; the chapter's examples.
-/
import Derived.Test.YtpoclogglenhnaaFe
namespace Go.Proofs.Ytpoclogglenhnaa
open Go.RowKit
set_option linter.unusedVariables false
set_option linter.unusedSimpArgs false

theorem belowNext {w a b : World} (h : Below w.heap.size w a) (k : Below a.heap.size a b) : Below w.heap.size w b := h.trans (k.mono h.size)

theorem rCheck_ok (a : Nat) (ha : a < 2305843009213688669) (w : World) :
    Calls Try.prog 18 #[.int .i64 a] w fun e w' => e = .returned (.int .i64 0) ∧ w' = w := by
  have s1 := scal_nat ha
  go_enter Try.func18, Try.ntmps18
  go_wp2_with (first
    | (go_at_call 31; refine (scalar_any _ _).mono ?_; rintro e w' ⟨rfl, hw⟩; rw [hw]; clear hw w'))
  go_ret
  exact ⟨rfl, rfl⟩
theorem rCheck_bad (a : Int) (ha : scal a = false) (w : World) :
    Calls Try.prog 18 #[.int .i64 a] w fun e w' => e = .returned (.int .i64 1) ∧ w' = w := by
  go_enter Try.func18, Try.ntmps18
  go_wp2_with (first
    | (go_at_call 31; refine (scalar_any _ _).mono ?_; rintro e w' ⟨rfl, hw⟩; rw [hw]; clear hw w'))
  go_ret
  exact ⟨rfl, rfl⟩
theorem rAdd (a b : Nat) (ha : a < 2305843009213688669) (hb : b < 2305843009213688669) (w : World) :
    Calls Try.prog 12 #[.int .i64 a, .int .i64 b] w fun e w' => e = .returned (.tuple #[.int .i64 (((a + b) % 2305843009213688669 : Nat) : Int), .int .i64 0]) ∧ w' = w := by
  have s1 := scal_nat ha
  have s2 := scal_nat hb
  go_enter Try.func12, Try.ntmps12
  go_wp2_with (first
    | (go_at_call 31; refine (scalar_any _ _).mono ?_; rintro e w' ⟨rfl, hw⟩; rw [hw]; clear hw w')
    | (go_at_call 32; refine (rsum_any _ _ ha (Nat.le_of_lt hb) _).mono ?_; rintro e w' ⟨rfl, hw⟩; rw [hw]; clear hw w'))
  go_ret2
  exact ⟨rfl, rfl⟩
theorem rMul (a b : Nat) (ha : a < 2305843009213688669) (hb : b < 2305843009213688669) (w : World) :
    Calls Try.prog 16 #[.int .i64 a, .int .i64 b] w fun e w' => e = .returned (.tuple #[.int .i64 ((a * b % 2305843009213688669 : Nat) : Int), .int .i64 0]) ∧ w' = w := by
  have s1 := scal_nat ha
  have s2 := scal_nat hb
  go_enter Try.func16, Try.ntmps16
  go_wp2_with (first
    | (go_at_call 31; refine (scalar_any _ _).mono ?_; rintro e w' ⟨rfl, hw⟩; rw [hw]; clear hw w')
    | (go_at_call 35; refine (rproduct_any _ _ ha hb _).mono ?_; rintro e w' ⟨rfl, hw⟩; rw [hw]; clear hw w'))
  go_ret2
  exact ⟨rfl, rfl⟩
theorem rSub (a b : Nat) (ha : a < 2305843009213688669) (hb : b < 2305843009213688669) (w : World) :
    Calls Try.prog 14 #[.int .i64 a, .int .i64 b] w fun e w' => e = .returned (.tuple #[.int .i64 (dif a b : Nat), .int .i64 0]) ∧ w' = w := by
  have s1 := scal_nat ha
  have s2 := scal_nat hb
  obtain ⟨m, hm⟩ : ∃ m, 2305843009213688669 - b = m := ⟨_, rfl⟩
  have c1 : IntKind.i64.wrap (2305843009213688669 - (b : Int)) = (m : Int) := by rw [wrapI _ (by omega) (by omega)]; omega
  have hd : dif a b = (a + m) % 2305843009213688669 := by unfold dif; rw [hm]
  rw [hd]
  have hml : m ≤ 2305843009213688669 := by omega
  clear hd hm
  go_enter Try.func14, Try.ntmps14
  go_wp2_with (first
    | (go_at_call 31; refine (scalar_any _ _).mono ?_; rintro e w' ⟨rfl, hw⟩; rw [hw]; clear hw w')
    | (go_at_call 32; refine (rsum_any _ _ ha hml _).mono ?_; rintro e w' ⟨rfl, hw⟩; rw [hw]; clear hw w'))
  go_ret2
  exact ⟨rfl, rfl⟩
theorem rAdd_bad (a b : Int) (hab : (scal a && scal b) = false) (w : World) :
    Calls Try.prog 12 #[.int .i64 a, .int .i64 b] w fun e w' => e = .returned (.tuple #[.int .i64 0, .int .i64 1]) ∧ w' = w := by
  by_cases h1 : scal a = true
  · have h2 : scal b = false := by rw [h1] at hab; simpa using hab
    go_enter Try.func12, Try.ntmps12
    go_wp2_with (go_at_call 31; refine (scalar_any _ _).mono ?_; rintro e w' ⟨rfl, hw⟩; rw [hw]; clear hw w')
    go_ret2
    exact ⟨rfl, rfl⟩
  · have h2 : scal a = false := by simpa using h1
    go_enter Try.func12, Try.ntmps12
    go_wp2_with (go_at_call 31; refine (scalar_any _ _).mono ?_; rintro e w' ⟨rfl, hw⟩; rw [hw]; clear hw w')
    go_ret2
    exact ⟨rfl, rfl⟩
theorem rSub_bad (a b : Int) (hab : (scal a && scal b) = false) (w : World) :
    Calls Try.prog 14 #[.int .i64 a, .int .i64 b] w fun e w' => e = .returned (.tuple #[.int .i64 0, .int .i64 1]) ∧ w' = w := by
  by_cases h1 : scal a = true
  · have h2 : scal b = false := by rw [h1] at hab; simpa using hab
    go_enter Try.func14, Try.ntmps14
    go_wp2_with (go_at_call 31; refine (scalar_any _ _).mono ?_; rintro e w' ⟨rfl, hw⟩; rw [hw]; clear hw w')
    go_ret2
    exact ⟨rfl, rfl⟩
  · have h2 : scal a = false := by simpa using h1
    go_enter Try.func14, Try.ntmps14
    go_wp2_with (go_at_call 31; refine (scalar_any _ _).mono ?_; rintro e w' ⟨rfl, hw⟩; rw [hw]; clear hw w')
    go_ret2
    exact ⟨rfl, rfl⟩
theorem rMul_bad (a b : Int) (hab : (scal a && scal b) = false) (w : World) :
    Calls Try.prog 16 #[.int .i64 a, .int .i64 b] w fun e w' => e = .returned (.tuple #[.int .i64 0, .int .i64 1]) ∧ w' = w := by
  by_cases h1 : scal a = true
  · have h2 : scal b = false := by rw [h1] at hab; simpa using hab
    go_enter Try.func16, Try.ntmps16
    go_wp2_with (go_at_call 31; refine (scalar_any _ _).mono ?_; rintro e w' ⟨rfl, hw⟩; rw [hw]; clear hw w')
    go_ret2
    exact ⟨rfl, rfl⟩
  · have h2 : scal a = false := by simpa using h1
    go_enter Try.func16, Try.ntmps16
    go_wp2_with (go_at_call 31; refine (scalar_any _ _).mono ?_; rintro e w' ⟨rfl, hw⟩; rw [hw]; clear hw w')
    go_ret2
    exact ⟨rfl, rfl⟩
theorem rInv (a : Nat) (h0 : a ≠ 0) (ha : a < 2305843009213688669) (w : World) :
    Calls Try.prog 20 #[.int .i64 a] w fun e w' => e = .returned (.tuple #[.int .i64 ((a ^ (kQ - 1) % 2305843009213688669 : Nat) : Int), .int .i64 0]) ∧ w' = w := by
  have h := fun w => rpower_any a (kQ - 1) ha (by unfold kQ; omega) w
  have e : ((kQ - 1 : Nat) : Int) = 2305843009213688667 := by unfold kQ; rfl
  rw [e] at h
  have s1 := scal_nat ha
  have f1 : ((a : Int) == 0) = false := by simp; omega
  generalize a ^ (kQ - 1) % 2305843009213688669 = r at *
  go_enter Try.func20, Try.ntmps20
  go_wp2_with (first
    | (go_at_call 31; refine (scalar_any _ _).mono ?_; rintro e w' ⟨rfl, hw⟩; rw [hw]; clear hw w')
    | (go_at_call 37; refine (h _).mono ?_; rintro e w' ⟨rfl, hw⟩; rw [hw]; clear hw w'))
  go_ret2
  exact ⟨rfl, rfl⟩
theorem rInv_zero  (w : World) :
    Calls Try.prog 20 #[.int .i64 0] w fun e w' => e = .returned (.tuple #[.int .i64 0, .int .i64 30]) ∧ w' = w := by
  have s1 : scal 0 = true := by decide
  go_enter Try.func20, Try.ntmps20
  go_wp2_with (first
    | (go_at_call 31; refine (scalar_any _ _).mono ?_; rintro e w' ⟨rfl, hw⟩; rw [hw]; clear hw w'))
  go_ret2
  exact ⟨rfl, rfl⟩
theorem rInv_bad (a : Int) (ha : scal a = false) (w : World) :
    Calls Try.prog 20 #[.int .i64 a] w fun e w' => e = .returned (.tuple #[.int .i64 0, .int .i64 1]) ∧ w' = w := by
  go_enter Try.func20, Try.ntmps20
  go_wp2_with (first
    | (go_at_call 31; refine (scalar_any _ _).mono ?_; rintro e w' ⟨rfl, hw⟩; rw [hw]; clear hw w'))
  go_ret2
  exact ⟨rfl, rfl⟩
theorem rPow (a n : Nat) (ha : a < 2305843009213688669) (hn : n < 9223372036854775808) (w : World) :
    Calls Try.prog 22 #[.int .i64 a, .int .i64 n] w fun e w' => e = .returned (.tuple #[.int .i64 ((a ^ n % 2305843009213688669 : Nat) : Int), .int .i64 0]) ∧ w' = w := by
  have h := rpower_any a n ha hn
  have s1 := scal_nat ha
  have f1 : decide ((n : Int) < 0) = false := decide_eq_false (by omega)
  generalize a ^ n % 2305843009213688669 = r at *
  go_enter Try.func22, Try.ntmps22
  go_wp2_with (first
    | (go_at_call 31; refine (scalar_any _ _).mono ?_; rintro e w' ⟨rfl, hw⟩; rw [hw]; clear hw w')
    | (go_at_call 37; refine (h _).mono ?_; rintro e w' ⟨rfl, hw⟩; rw [hw]; clear hw w'))
  go_ret2
  exact ⟨rfl, rfl⟩
theorem rPow_neg (a : Nat) (n : Int) (ha : a < 2305843009213688669) (hn : n < 0) (w : World) :
    Calls Try.prog 22 #[.int .i64 a, .int .i64 n] w fun e w' => e = .returned (.tuple #[.int .i64 0, .int .i64 1]) ∧ w' = w := by
  have s1 := scal_nat ha
  have f1 : decide (n < 0) = true := decide_eq_true hn
  go_enter Try.func22, Try.ntmps22
  go_wp2_with (first
    | (go_at_call 31; refine (scalar_any _ _).mono ?_; rintro e w' ⟨rfl, hw⟩; rw [hw]; clear hw w'))
  go_ret2
  exact ⟨rfl, rfl⟩
theorem rPow_bad (a n : Int) (ha : scal a = false) (w : World) :
    Calls Try.prog 22 #[.int .i64 a, .int .i64 n] w fun e w' => e = .returned (.tuple #[.int .i64 0, .int .i64 1]) ∧ w' = w := by
  go_enter Try.func22, Try.ntmps22
  go_wp2_with (first
    | (go_at_call 31; refine (scalar_any _ _).mono ?_; rintro e w' ⟨rfl, hw⟩; rw [hw]; clear hw w'))
  go_ret2
  exact ⟨rfl, rfl⟩

/-- A polynomial's value, the constant first. -/
theorem ev_step (x y p c v : Nat) : ((y + c * p % 2305843009213688669) % 2305843009213688669 + p * x % 2305843009213688669 * v) % 2305843009213688669 = (y + p * ((v * x % 2305843009213688669 + c) % 2305843009213688669)) % 2305843009213688669 := by
  have e1 : (p * x % 2305843009213688669 * v) % 2305843009213688669 = (p * (v * x)) % 2305843009213688669 := by
    rw [Nat.mod_mul_mod, Nat.mul_assoc, Nat.mul_comm x v]
  have e2 : p * ((v * x % 2305843009213688669 + c) % 2305843009213688669) % 2305843009213688669 = (p * (v * x) + c * p) % 2305843009213688669 := by
    rw [Nat.mul_mod_mod, Nat.mul_add, Nat.add_mod, Nat.mul_mod_mod, ← Nat.add_mod, Nat.mul_comm p c]
  have e3 : (y + c * p % 2305843009213688669) % 2305843009213688669 = (y + c * p) % 2305843009213688669 := by rw [Nat.add_mod_mod]
  rw [e3, Nat.add_mod, e1, Nat.mod_mod, ← Nat.add_mod, Nat.add_mod y (p * _), e2, ← Nat.add_mod]
  congr 1; omega

theorem is_any (c e z : Int) (w : World) :
    Calls Try.prog 28 #[.int .i64 c, .int .i64 e, .int .i64 z] w fun r w' => r = .returned (.bool (e == 0 && c == z)) ∧ w' = w := by
  by_cases h : e = 0
  · have f : (e == 0) = true := by simpa using h
    go_enter Try.func28, Try.ntmps28
    go_wp2_with fail
    go_ret
    exact ⟨by rw [f]; rfl, rfl⟩
  · have f : (e == 0) = false := by simpa using h
    go_enter Try.func28, Try.ntmps28
    go_wp2_with fail
    go_ret
    exact ⟨by rw [f]; rfl, rfl⟩
theorem is_eq (c : Int) (w : World) : Calls Try.prog 28 #[.int .i64 c, .int .i64 0, .int .i64 c] w fun r w' => r = .returned (.bool true) ∧ w' = w := by
  have h := is_any c 0 c w
  have e : ((0 : Int) == 0 && c == c) = true := by simp
  rw [e] at h; exact h
theorem ladd (a b : Nat) (ha : a < 2305843009213688669) (hb : b < 2305843009213688669) (w : World) :
    Calls Try.prog 26 #[.int .i64 a, .int .i64 b] w fun e w' => e = .returned (.int .i64 (((a + b) % 2305843009213688669 : Nat) : Int)) ∧ Below w.heap.size w w' := by
  have h := fAdd a b ha hb w
  generalize (a + b) % 2305843009213688669 = r at *
  go_enter Try.func26, Try.ntmps26
  go_wp2_with (go_at_call 11; refine h.mono ?_; rintro e w' ⟨rfl, hb⟩)
  go_ret
  exact ⟨rfl, hb⟩
theorem lmul (a b : Nat) (ha : a < 2305843009213688669) (hb : b < 2305843009213688669) (w : World) :
    Calls Try.prog 27 #[.int .i64 a, .int .i64 b] w fun e w' => e = .returned (.int .i64 ((a * b % 2305843009213688669 : Nat) : Int)) ∧ Below w.heap.size w w' := by
  have h := fMul a b ha hb w
  generalize a * b % 2305843009213688669 = r at *
  go_enter Try.func27, Try.ntmps27
  go_wp2_with (go_at_call 15; refine h.mono ?_; rintro e w' ⟨rfl, hb⟩)
  go_ret
  exact ⟨rfl, hb⟩

/-- The scalar of a number. -/
def ofI (n : Int) : Nat := ((n % 4611686018427387904) % 2305843009213688669).toNat
theorem ofI_lt (n : Int) : ofI n < 2305843009213688669 := by unfold ofI; omega
theorem and62 (n : Int) (h : -9223372036854775808 ≤ n) (h2 : n < 9223372036854775808) : bits .and .i64 n 4611686018427387903 = n % 4611686018427387904 := by
  obtain ⟨m, hm, hml⟩ : ∃ m : Nat, (BitVec.ofInt 64 n).toNat = m ∧ (m : Int) % 4611686018427387904 = n % 4611686018427387904 := by
    refine ⟨_, rfl, ?_⟩
    rw [BitVec.toNat_ofInt]
    omega
  have h3 : (BitVec.ofInt 64 (4611686018427387903 : Int)).toNat = 4611686018427387903 := by decide +kernel
  show IntKind.i64.wrap ((BitVec.ofInt 64 n &&& BitVec.ofInt 64 (4611686018427387903 : Int)).toNat : Int) = _
  have e : m &&& 4611686018427387903 = m % 4611686018427387904 := Nat.and_two_pow_sub_one_eq_mod m 62
  rw [BitVec.toNat_and, hm, h3, e, wrapI _ (by omega) (by omega)]
  omega
theorem lOf (n : Int) (h : -9223372036854775808 ≤ n) (h2 : n < 9223372036854775808) (w : World) :
    Calls Try.prog 25 #[.int .i64 n] w fun e w' => e = .returned (.int .i64 (ofI n : Nat)) ∧ w' = w := by
  have a1 := and62 n h h2
  have a2 : (n % 4611686018427387904).tmod 2305843009213688669 = ((ofI n : Nat) : Int) := by
    rw [Int.tmod_eq_emod_of_nonneg (by omega)]; unfold ofI; omega
  go_enter Try.func25, Try.ntmps25
  go_wp2_with fail
  go_ret
  exact ⟨by first | rfl | simp [a1, a2], rfl⟩
end Go.Proofs.Ytpoclogglenhnaa
