/-
  Numbers modulo P: Fermat, the elements (whose power by Q is 1), their products and powers.
-/
import Derived.Test.YtmeoicfeiamkmaaDoorFq
namespace Go.Proofs.YtmeoicfeiamkmaaDoor
set_option linter.unusedVariables false

/-- Q, as an exponent that nothing looks into. -/
def oQ : Nat := 2305843009213688669
theorem oQ_eq : oQ = 2305843009213688669 := rfl
theorem oQ_pos : 1 < oQ := by decide
theorem pq2 : 4611686018427377339 - 1 = 2 * oQ := by decide
theorem fermatP' : ∀ a, a % 4611686018427377339 ≠ 0 → a ^ (4611686018427377339 - 1) % 4611686018427377339 = 1 :=
  lucasB 2 [2, 2305843009213688669] ⟨e2, ⟨eucQ, by decide⟩, trivial⟩ (by decide +kernel)
theorem fermatP (a : Nat) (h : a % 4611686018427377339 ≠ 0) : a ^ (2 * oQ) % 4611686018427377339 = 1 := by rw [← pq2]; exact fermatP' a h
theorem eucP : Euc 4611686018427377339 := (euc_of (by decide) fermatP').1

/-- a is an element. -/
def El (a : Nat) : Prop := a ^ oQ % 4611686018427377339 = 1
theorem El.ne {a : Nat} (h : El a) : a % 4611686018427377339 ≠ 0 := fun h0 => by
  unfold El at h
  rw [Nat.pow_mod, h0, Nat.zero_pow (by have := oQ_pos; omega)] at h
  cases h
theorem El.mod {a : Nat} : El (a % 4611686018427377339) ↔ El a := by unfold El; rw [← Nat.pow_mod]
theorem El.mul {a b : Nat} (ha : El a) (hb : El b) : El (a * b % 4611686018427377339) := by
  rw [El.mod]
  unfold El at *
  rw [Nat.mul_pow, Nat.mul_mod, ha, hb]
theorem El.pow {a : Nat} (ha : El a) (k : Nat) : El (a ^ k % 4611686018427377339) := by
  rw [El.mod]
  unfold El at *
  rw [← Nat.pow_mul, Nat.mul_comm, Nat.pow_mul]
  exact one_pow_mod (by decide) ha k
theorem El.one : El 1 := by unfold El; rw [Nat.one_pow]
/-- Exponents count modulo Q. -/
theorem El.red {a : Nat} (ha : El a) (k : Nat) : a ^ (k % oQ) % 4611686018427377339 = a ^ k % 4611686018427377339 := by
  have h : a ^ k = (a ^ oQ) ^ (k / oQ) * a ^ (k % oQ) := by rw [← Nat.pow_mul, ← Nat.pow_add, Nat.div_add_mod]
  rw [h, Nat.mul_mod, one_pow_mod (by decide) ha, Nat.one_mul, Nat.mod_mod]
theorem mulP (a b : Nat) : (a % 4611686018427377339) * (b % 4611686018427377339) % 4611686018427377339 = a * b % 4611686018427377339 := (Nat.mul_mod a b _).symm
theorem El.add {a : Nat} (ha : El a) (j k : Nat) : (a ^ j % 4611686018427377339) * (a ^ k % 4611686018427377339) % 4611686018427377339 = a ^ ((j + k) % oQ) % 4611686018427377339 := by
  rw [mulP, ← Nat.pow_add, ha.red]
theorem El.times {a : Nat} (ha : El a) (j k : Nat) : (a ^ j % 4611686018427377339) ^ k % 4611686018427377339 = a ^ (j * k % oQ) % 4611686018427377339 := by
  rw [← Nat.pow_mod, ← Nat.pow_mul, ha.red]
theorem El.inv {a : Nat} (ha : El a) : a * (a ^ (oQ - 1) % 4611686018427377339) % 4611686018427377339 = 1 := by
  rw [Nat.mul_mod, Nat.mod_mod, ← Nat.mul_mod, Nat.mul_comm, ← Nat.pow_succ]
  exact ha
/-- An exponentiation is undone by the one with the inverse modulo Q. -/
theorem El.root {a k i : Nat} (ha : El a) (hlt : a < 4611686018427377339) (hk : k * i % oQ = 1) : (a ^ k % 4611686018427377339) ^ i % 4611686018427377339 = a := by
  rw [ha.times, hk, Nat.pow_one, Nat.mod_eq_of_lt hlt]
theorem El.sq {a : Nat} (h : a % 4611686018427377339 ≠ 0) : El (a * a % 4611686018427377339) := by
  rw [El.mod]
  unfold El
  rw [Nat.mul_pow, ← Nat.pow_add, show oQ + oQ = 2 * oQ by omega]
  exact fermatP a h
theorem sq_one {x : Nat} (h : x * x % 4611686018427377339 = 1) : x % 4611686018427377339 = 1 ∨ x % 4611686018427377339 = 4611686018427377338 := by
  by_cases h0 : x = 0
  · subst h0; simp at h
  have hd : 4611686018427377339 ∣ (x - 1) * (x + 1) := by
    have e : (x - 1) * (x + 1) = x * x - 1 := by
      obtain ⟨y, rfl⟩ : ∃ y, x = y + 1 := ⟨x - 1, by omega⟩
      simp only [Nat.add_sub_cancel]
      rw [Nat.add_mul, Nat.mul_add, Nat.mul_add]
      omega
    rw [e]
    have h1 : 1 ≤ x * x := Nat.mul_le_mul (by omega : 1 ≤ x) (by omega : 1 ≤ x)
    generalize x * x = s at *
    omega
  rcases eucP _ _ hd with h1 | h1
  · left; omega
  · right; omega
theorem minus_pow : 4611686018427377338 ^ oQ % 4611686018427377339 = 4611686018427377338 := by
  rw [← powB_eq 4611686018427377339 64 4611686018427377338 oQ (by decide)]
  decide +kernel
/-- The power by Q is 1 or -1. -/
theorem half_pow {a : Nat} (h : a % 4611686018427377339 ≠ 0) : a ^ oQ % 4611686018427377339 = 1 ∨ a ^ oQ % 4611686018427377339 = 4611686018427377338 := by
  refine sq_one ?_
  rw [← Nat.pow_add, show oQ + oQ = 2 * oQ by omega]
  exact fermatP a h
theorem minus_el {a : Nat} (h0 : 0 < a) (h : a < 4611686018427377339) : (4611686018427377339 - a) ^ oQ % 4611686018427377339 = 4611686018427377338 * (a ^ oQ % 4611686018427377339) % 4611686018427377339 := by
  have e : (4611686018427377339 - a) % 4611686018427377339 = 4611686018427377338 * a % 4611686018427377339 := by omega
  rw [pow_mod_of e, Nat.mul_pow, Nat.mul_mod, minus_pow]
/-- Of a and P - a exactly one is an element. -/
theorem El.half {a : Nat} (h0 : 0 < a) (h : a < 4611686018427377339) : El (4611686018427377339 - a) ↔ ¬ El a := by
  unfold El
  rw [minus_el h0 h]
  rcases half_pow (a := a) (by omega) with h1 | h1 <;> rw [h1] <;> decide
end Go.Proofs.YtmeoicfeiamkmaaDoor
