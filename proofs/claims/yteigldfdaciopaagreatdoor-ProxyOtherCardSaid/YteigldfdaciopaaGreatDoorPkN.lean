/-
  Numbers modulo a prime: a number with a primitive root (Lucas) is prime, each number that is not 0 modulo it has the power n - 1 equal to 1. Powers modulo a number by squaring. The prime Q.
  Numbers modulo P: Fermat, the elements (whose power by Q is 1), their products and powers.
  What group's functions return: elements, products, powers, scalars and points of digests.
-/
set_option linter.unusedVariables false
set_option linter.unusedSimpArgs false
namespace Go.Proofs.YteigldfdaciopaaGreatDoor
set_option linter.unusedVariables false
set_option linter.unusedSimpArgs false

/-- A function of [0, n) into itself that takes no value twice takes every value. -/
theorem surj_of_inj : ∀ (n : Nat) (f : Nat → Nat), (∀ i, i < n → f i < n) → (∀ i j, i < n → j < n → f i = f j → i = j) → ∀ y, y < n → ∃ i, i < n ∧ f i = y := by
  intro n
  induction n with
  | zero => intro f _ _ y hy; omega
  | succ n ih =>
    intro f hb hinj y hy
    have key : ∀ z, z < n → ∃ i, i < n ∧ (if f i = n then f n else f i) = z := by
      refine ih (fun i => if f i = n then f n else f i) ?_ ?_
      · intro i hi
        by_cases h : f i = n
        · simp only [h, if_true]
          have h1 := hb n (by omega)
          have : f n ≠ n := fun h2 => by have := hinj i n (by omega) (by omega) (h.trans h2.symm); omega
          omega
        · simp only [h, if_false]
          have h1 := hb i (by omega)
          omega
      · intro i j hi hj
        by_cases h : f i = n <;> by_cases h2 : f j = n <;> simp only [h, h2, if_true, if_false]
        · intro _; exact hinj i j (by omega) (by omega) (h.trans h2.symm)
        · intro e; have := hinj n j (by omega) (by omega) e; omega
        · intro e; have := hinj i n (by omega) (by omega) e; omega
        · intro e; exact hinj i j (by omega) (by omega) e
    by_cases hyn : y = n
    · subst hyn
      by_cases hfn : f y = y
      · exact ⟨y, by omega, hfn⟩
      · have h1 := hb y (by omega)
        obtain ⟨i, hi, he⟩ := key (f y) (by omega)
        by_cases h : f i = y
        · exact ⟨i, by omega, h⟩
        · rw [if_neg h] at he
          have := hinj i y (by omega) (by omega) he
          omega
    · obtain ⟨i, hi, he⟩ := key y (by omega)
      by_cases h : f i = n
      · rw [if_pos h] at he; exact ⟨n, by omega, he⟩
      · rw [if_neg h] at he; exact ⟨i, by omega, he⟩

/-- A least number. -/
theorem least_of (P : Nat → Prop) : ∀ n, P n → ∃ d, P d ∧ d ≤ n ∧ ∀ j, j < d → ¬ P j := by
  intro n
  induction n using Nat.strongRecOn with
  | _ n ih =>
    intro hn
    by_cases h : ∃ j, j < n ∧ P j
    · obtain ⟨j, hj, hp⟩ := h
      obtain ⟨d, h1, h2, h3⟩ := ih j hj hp
      exact ⟨d, h1, by omega, h3⟩
    · exact ⟨n, hn, Nat.le_refl _, fun j hj hp => h ⟨j, hj, hp⟩⟩

/-- Euclid's property. -/
def Euc (p : Nat) : Prop := ∀ x y, p ∣ x * y → p ∣ x ∨ p ∣ y
def AllE : List Nat → Prop
  | [] => True
  | p :: ps => (Euc p ∧ 0 < p) ∧ AllE ps
theorem AllE.out : ∀ {ps : List Nat}, AllE ps → ∀ p ∈ ps, Euc p ∧ 0 < p := by
  intro ps
  induction ps with
  | nil => intro _ p hp; cases hp
  | cons q ps ih =>
    intro h p hp
    rcases List.mem_cons.1 hp with rfl | hp
    · exact h.1
    · exact ih h.2 p hp
def prodL : List Nat → Nat
  | [] => 1
  | p :: ps => p * prodL ps
theorem prime_factor : ∀ (ps : List Nat) (d e : Nat), (∀ p ∈ ps, Euc p ∧ 0 < p) → d * e = prodL ps → e ≠ 1 → ∃ p ∈ ps, p ∣ e := by
  intro ps
  induction ps with
  | nil => intro d e _ h he; exact absurd (Nat.eq_one_of_mul_eq_one_left h) he
  | cons p ps ih =>
    intro d e hp h he
    obtain ⟨h1, h0⟩ := hp p (by simp)
    by_cases hd : p ∣ e
    · exact ⟨p, by simp, hd⟩
    · rcases h1 d e ⟨prodL ps, h⟩ with ⟨d', rfl⟩ | h2
      · have h3 : d' * e = prodL ps := by
          simp only [prodL] at h
          rw [Nat.mul_assoc] at h
          exact Nat.eq_of_mul_eq_mul_left h0 h
        obtain ⟨q, hq, hqe⟩ := ih d' e (fun q hq => hp q (by simp [hq])) h3 he
        exact ⟨q, by simp [hq], hqe⟩
      · exact absurd h2 hd

theorem pow_mod_of {n a b : Nat} (h : a % n = b % n) (k : Nat) : a ^ k % n = b ^ k % n := by rw [Nat.pow_mod, h, ← Nat.pow_mod]
theorem one_pow_mod {n a : Nat} (hn : 1 < n) (h : a % n = 1) (k : Nat) : a ^ k % n = 1 := by
  rw [Nat.pow_mod, h, Nat.one_pow, Nat.mod_eq_of_lt hn]

theorem lucas {n g : Nat} (hn : 1 < n) (ps : List Nat) (hps : ∀ p ∈ ps, Euc p ∧ 0 < p) (hprod : prodL ps = n - 1) (h1 : g ^ (n - 1) % n = 1) (h2 : ∀ p ∈ ps, g ^ ((n - 1) / p) % n ≠ 1) :
    ∀ a, a % n ≠ 0 → a ^ (n - 1) % n = 1 := by
  -- the order of g
  have hord : ∀ k, 0 < k → k < n - 1 → g ^ k % n ≠ 1 := by
    obtain ⟨d, ⟨hd0, hd1⟩, hdn, hmin⟩ := least_of (fun k => 0 < k ∧ g ^ k % n = 1) (n - 1) ⟨by omega, h1⟩
    have hdvd : d ∣ n - 1 := by
      apply Nat.dvd_of_mod_eq_zero
      by_cases hr : (n - 1) % d = 0
      · exact hr
      · exfalso
        refine hmin ((n - 1) % d) (Nat.mod_lt _ hd0) ⟨by omega, ?_⟩
        have e : g ^ (n - 1) = (g ^ d) ^ ((n - 1) / d) * g ^ ((n - 1) % d) := by rw [← Nat.pow_mul, ← Nat.pow_add, Nat.div_add_mod]
        rw [e, Nat.mul_mod, one_pow_mod hn hd1, Nat.one_mul, Nat.mod_mod] at h1
        exact h1
    have hdn' : d = n - 1 := by
      obtain ⟨e, he⟩ := hdvd
      by_cases he1 : e = 1
      · rw [he1] at he; omega
      · exfalso
        obtain ⟨p, hp, e', rfl⟩ := prime_factor ps d e hps (by rw [hprod]; exact he.symm) he1
        have hp0 := (hps p hp).2
        apply h2 p hp
        have : (n - 1) / p = d * e' := by
          rw [he, Nat.mul_left_comm, Nat.mul_div_cancel_left _ hp0]
        rw [this, Nat.pow_mul]
        exact one_pow_mod hn hd1 _
    intro k hk hk2 h
    exact hmin k (by omega) ⟨hk, h⟩
  have hinv : ∀ i, i ≤ n - 1 → g ^ i * g ^ (n - 1 - i) % n = 1 := by
    intro i hi; rw [← Nat.pow_add, Nat.add_sub_cancel' hi]; exact h1
  have hne : ∀ i, i ≤ n - 1 → g ^ i % n ≠ 0 := by
    intro i hi h0
    have := hinv i hi
    rw [Nat.mul_mod, h0, Nat.zero_mul, Nat.zero_mod] at this
    omega
  have hinj' : ∀ i j, i < j → j < n - 1 → g ^ i % n ≠ g ^ j % n := by
    intro i j hij hj h
    have h3 : g ^ i * g ^ (n - 1 - i) % n = g ^ j * g ^ (n - 1 - i) % n := by rw [Nat.mul_mod, h, ← Nat.mul_mod]
    rw [hinv i (by omega), ← Nat.pow_add, show j + (n - 1 - i) = (n - 1) + (j - i) by omega, Nat.pow_add, Nat.mul_mod, h1, Nat.one_mul, Nat.mod_mod] at h3
    exact hord (j - i) (by omega) (by omega) h3.symm
  have hs := surj_of_inj (n - 1) (fun i => g ^ i % n - 1) (fun i hi => by
      have := hne i (by omega); have := Nat.mod_lt (g ^ i) (show 0 < n by omega); show g ^ i % n - 1 < n - 1; omega) (fun i j hi hj h => by
      have a1 := hne i (by omega); have a2 := hne j (by omega)
      have h' : g ^ i % n = g ^ j % n := by change g ^ i % n - 1 = g ^ j % n - 1 at h; omega
      rcases Nat.lt_trichotomy i j with c | c | c
      · exact absurd h' (hinj' i j c hj)
      · exact c
      · exact absurd h'.symm (hinj' j i c hi))
  intro a ha
  obtain ⟨i, hi, he⟩ := hs (a % n - 1) (by have := Nat.mod_lt a (show 0 < n by omega); omega)
  have a1 := hne i (by omega)
  have e : a % n = g ^ i % n := by change g ^ i % n - 1 = a % n - 1 at he; omega
  rw [pow_mod_of e, ← Nat.pow_mul, Nat.mul_comm, Nat.pow_mul]
  exact one_pow_mod hn h1 i

theorem euc_of {n : Nat} (hn : 1 < n) (h : ∀ a, a % n ≠ 0 → a ^ (n - 1) % n = 1) : Euc n ∧ 0 < n := by
  refine ⟨fun x y hxy => ?_, by omega⟩
  by_cases hx : x % n = 0
  · exact .inl (Nat.dvd_of_mod_eq_zero hx)
  · right
    have h1 := h x hx
    have e : x ^ (n - 1) * y = x ^ (n - 2) * (x * y) := by
      rw [← Nat.mul_assoc, ← Nat.pow_succ, show (n - 2).succ = n - 1 by omega]
    apply Nat.dvd_of_mod_eq_zero
    have h2 : x ^ (n - 1) * y % n = 0 := by rw [e]; exact Nat.mod_eq_zero_of_dvd (Nat.dvd_trans hxy (Nat.dvd_mul_left _ _))
    rw [Nat.mul_mod, h1, Nat.one_mul, Nat.mod_mod] at h2
    exact h2

/-- Powers by squaring. -/
def powB (m : Nat) : Nat → Nat → Nat → Nat
  | 0, _, _ => 1 % m
  | f + 1, a, n => if n = 0 then 1 % m else if n % 2 = 1 then a * powB m f (a * a % m) (n / 2) % m else powB m f (a * a % m) (n / 2)
theorem powB_eq (m : Nat) : ∀ f a n, n < 2 ^ f → powB m f a n = a ^ n % m := by
  intro f
  induction f with
  | zero =>
    intro a n h
    obtain rfl : n = 0 := by simpa using h
    rw [Nat.pow_zero]; rfl
  | succ f ih =>
    intro a n h
    unfold powB
    by_cases h0 : n = 0
    · rw [if_pos h0, h0, Nat.pow_zero]
    · rw [if_neg h0, ih _ (n / 2) (by rw [Nat.pow_succ] at h; omega)]
      have e : (a * a % m) ^ (n / 2) % m = (a ^ 2) ^ (n / 2) % m := by rw [← Nat.pow_mod, Nat.pow_two]
      rw [e, ← Nat.pow_mul]
      by_cases h1 : n % 2 = 1
      · rw [if_pos h1, Nat.mul_mod_mod]
        have e2 : n = 2 * (n / 2) + 1 := by omega
        conv => rhs; rw [e2, Nat.pow_succ, Nat.mul_comm]
      · rw [if_neg h1]
        have e2 : n = 2 * (n / 2) := by omega
        conv => rhs; rw [e2]

theorem lucasB {n : Nat} (g : Nat) (ps : List Nat) (hps0 : AllE ps) (hc : (1 < n && n < 2 ^ 64 && prodL ps == n - 1 && powB n 64 g (n - 1) == 1 && ps.all (fun p => powB n 64 g ((n - 1) / p) != 1)) = true) :
    ∀ a, a % n ≠ 0 → a ^ (n - 1) % n = 1 := by
  have hps := hps0.out
  simp only [Bool.and_eq_true, decide_eq_true_eq, beq_iff_eq, List.all_eq_true, bne_iff_ne] at hc
  obtain ⟨⟨⟨⟨h1, h2⟩, h3⟩, h4⟩, h5⟩ := hc
  refine lucas (g := g) h1 ps hps h3 ?_ ?_
  · rw [← powB_eq n 64 g (n - 1) (Nat.lt_of_le_of_lt (Nat.sub_le _ _) h2)]; exact h4
  · intro p hp
    rw [← powB_eq n 64 g ((n - 1) / p) (Nat.lt_of_le_of_lt (Nat.div_le_self _ _) (Nat.lt_of_le_of_lt (Nat.sub_le _ _) h2))]
    exact h5 p hp

theorem e2 : Euc 2 ∧ 0 < 2 := euc_of (by decide) (lucasB 1 [] trivial (by decide +kernel))
theorem e3 : Euc 3 ∧ 0 < 3 := euc_of (by decide) (lucasB 2 [2] ⟨e2, trivial⟩ (by decide +kernel))
theorem e5 : Euc 5 ∧ 0 < 5 := euc_of (by decide) (lucasB 2 [2, 2] ⟨e2, e2, trivial⟩ (by decide +kernel))
theorem e7 : Euc 7 ∧ 0 < 7 := euc_of (by decide) (lucasB 3 [2, 3] ⟨e2, e3, trivial⟩ (by decide +kernel))
theorem e11 : Euc 11 ∧ 0 < 11 := euc_of (by decide) (lucasB 2 [2, 5] ⟨e2, e5, trivial⟩ (by decide +kernel))
theorem e17 : Euc 17 ∧ 0 < 17 := euc_of (by decide) (lucasB 3 [2, 2, 2, 2] ⟨e2, e2, e2, e2, trivial⟩ (by decide +kernel))
theorem e23 : Euc 23 ∧ 0 < 23 := euc_of (by decide) (lucasB 5 [2, 11] ⟨e2, e11, trivial⟩ (by decide +kernel))
theorem e41 : Euc 41 ∧ 0 < 41 := euc_of (by decide) (lucasB 6 [2, 2, 2, 5] ⟨e2, e2, e2, e5, trivial⟩ (by decide +kernel))
theorem e73 : Euc 73 ∧ 0 < 73 := euc_of (by decide) (lucasB 5 [2, 2, 2, 3, 3] ⟨e2, e2, e2, e3, e3, trivial⟩ (by decide +kernel))
theorem e821 : Euc 821 ∧ 0 < 821 := euc_of (by decide) (lucasB 2 [2, 2, 5, 41] ⟨e2, e2, e5, e41, trivial⟩ (by decide +kernel))
theorem e2311 : Euc 2311 ∧ 0 < 2311 := euc_of (by decide) (lucasB 3 [2, 3, 5, 7, 11] ⟨e2, e3, e5, e7, e11, trivial⟩ (by decide +kernel))
theorem e172411 : Euc 172411 ∧ 0 < 172411 := euc_of (by decide) (lucasB 3 [2, 3, 5, 7, 821] ⟨e2, e3, e5, e7, e821, trivial⟩ (by decide +kernel))
theorem e7930907 : Euc 7930907 ∧ 0 < 7930907 := euc_of (by decide) (lucasB 2 [2, 23, 172411] ⟨e2, e23, e172411, trivial⟩ (by decide +kernel))
theorem e11864636873 : Euc 11864636873 ∧ 0 < 11864636873 := euc_of (by decide) (lucasB 5 [2, 2, 2, 11, 17, 7930907] ⟨e2, e2, e2, e11, e17, e7930907, trivial⟩ (by decide +kernel))
theorem e1732236983459 : Euc 1732236983459 ∧ 0 < 1732236983459 := euc_of (by decide) (lucasB 2 [2, 73, 11864636873] ⟨e2, e73, e11864636873, trivial⟩ (by decide +kernel))
theorem e249442125618097 : Euc 249442125618097 ∧ 0 < 249442125618097 := euc_of (by decide) (lucasB 5 [2, 2, 2, 2, 3, 3, 1732236983459] ⟨e2, e2, e2, e2, e3, e3, e1732236983459, trivial⟩ (by decide +kernel))

/-- Q - 1, behind a name. -/
def kQ : Nat := 2305843009213688668
theorem kQ_succ : kQ = 2305843009213688669 - 1 := by decide +kernel
/-- Fermat's theorem at Q. -/
theorem fermatQ' : ∀ a, a % 2305843009213688669 ≠ 0 → a ^ (2305843009213688669 - 1) % 2305843009213688669 = 1 :=
  lucasB (n := 2305843009213688669) 2 [2, 2, 2311, 249442125618097] ⟨e2, e2, e2311, e249442125618097, trivial⟩ (by decide +kernel)
theorem fermatQ (a : Nat) (h : a % 2305843009213688669 ≠ 0) : a ^ kQ % 2305843009213688669 = 1 := by rw [kQ_succ]; exact fermatQ' a h
theorem eucQ : Euc 2305843009213688669 := (euc_of (by decide) fermatQ').1
end Go.Proofs.YteigldfdaciopaaGreatDoor

namespace Go.Proofs.YteigldfdaciopaaGreatDoor
set_option linter.unusedVariables false

/-- Q, as an exponent that nothing looks into. -/
def oQ : Nat := 2305843009213688669
theorem oQ_eq : oQ = 2305843009213688669 := rfl
theorem oQ_pos : 1 < oQ := by decide
theorem pq2 : 4611686018427377339 - 1 = 2 * oQ := by decide
theorem fermatP' : ∀ a, a % 4611686018427377339 ≠ 0 → a ^ (4611686018427377339 - 1) % 4611686018427377339 = 1 :=
  lucasB 2 [2, 2305843009213688669] ⟨e2, ⟨eucQ, by decide⟩, trivial⟩ (by decide +kernel)
theorem fermatP (a : Nat) (h : a % 4611686018427377339 ≠ 0) : a ^ (2 * oQ) % 4611686018427377339 = 1 := by rw [← pq2]; exact fermatP' a h
theorem eucP : Euc 4611686018427377339 := (euc_of (by decide) fermatP').1

/-- a is an element. -/
def El (a : Nat) : Prop := a ^ oQ % 4611686018427377339 = 1
theorem El.ne {a : Nat} (h : El a) : a % 4611686018427377339 ≠ 0 := fun h0 => by
  unfold El at h
  rw [Nat.pow_mod, h0, Nat.zero_pow (by have := oQ_pos; omega)] at h
  cases h
theorem El.mod {a : Nat} : El (a % 4611686018427377339) ↔ El a := by unfold El; rw [← Nat.pow_mod]
theorem El.mul {a b : Nat} (ha : El a) (hb : El b) : El (a * b % 4611686018427377339) := by
  rw [El.mod]
  unfold El at *
  rw [Nat.mul_pow, Nat.mul_mod, ha, hb]
theorem El.pow {a : Nat} (ha : El a) (k : Nat) : El (a ^ k % 4611686018427377339) := by
  rw [El.mod]
  unfold El at *
  rw [← Nat.pow_mul, Nat.mul_comm, Nat.pow_mul]
  exact one_pow_mod (by decide) ha k
theorem El.one : El 1 := by unfold El; rw [Nat.one_pow]
/-- Exponents count modulo Q. -/
theorem El.red {a : Nat} (ha : El a) (k : Nat) : a ^ (k % oQ) % 4611686018427377339 = a ^ k % 4611686018427377339 := by
  have h : a ^ k = (a ^ oQ) ^ (k / oQ) * a ^ (k % oQ) := by rw [← Nat.pow_mul, ← Nat.pow_add, Nat.div_add_mod]
  rw [h, Nat.mul_mod, one_pow_mod (by decide) ha, Nat.one_mul, Nat.mod_mod]
theorem mulP (a b : Nat) : (a % 4611686018427377339) * (b % 4611686018427377339) % 4611686018427377339 = a * b % 4611686018427377339 := (Nat.mul_mod a b _).symm
theorem El.add {a : Nat} (ha : El a) (j k : Nat) : (a ^ j % 4611686018427377339) * (a ^ k % 4611686018427377339) % 4611686018427377339 = a ^ ((j + k) % oQ) % 4611686018427377339 := by
  rw [mulP, ← Nat.pow_add, ha.red]
theorem El.times {a : Nat} (ha : El a) (j k : Nat) : (a ^ j % 4611686018427377339) ^ k % 4611686018427377339 = a ^ (j * k % oQ) % 4611686018427377339 := by
  rw [← Nat.pow_mod, ← Nat.pow_mul, ha.red]
theorem El.inv {a : Nat} (ha : El a) : a * (a ^ (oQ - 1) % 4611686018427377339) % 4611686018427377339 = 1 := by
  rw [Nat.mul_mod, Nat.mod_mod, ← Nat.mul_mod, Nat.mul_comm, ← Nat.pow_succ]
  exact ha
/-- An exponentiation is undone by the one with the inverse modulo Q. -/
theorem El.root {a k i : Nat} (ha : El a) (hlt : a < 4611686018427377339) (hk : k * i % oQ = 1) : (a ^ k % 4611686018427377339) ^ i % 4611686018427377339 = a := by
  rw [ha.times, hk, Nat.pow_one, Nat.mod_eq_of_lt hlt]
theorem El.sq {a : Nat} (h : a % 4611686018427377339 ≠ 0) : El (a * a % 4611686018427377339) := by
  rw [El.mod]
  unfold El
  rw [Nat.mul_pow, ← Nat.pow_add, show oQ + oQ = 2 * oQ by omega]
  exact fermatP a h
theorem sq_one {x : Nat} (h : x * x % 4611686018427377339 = 1) : x % 4611686018427377339 = 1 ∨ x % 4611686018427377339 = 4611686018427377338 := by
  by_cases h0 : x = 0
  · subst h0; simp at h
  have hd : 4611686018427377339 ∣ (x - 1) * (x + 1) := by
    have e : (x - 1) * (x + 1) = x * x - 1 := by
      obtain ⟨y, rfl⟩ : ∃ y, x = y + 1 := ⟨x - 1, by omega⟩
      simp only [Nat.add_sub_cancel]
      rw [Nat.add_mul, Nat.mul_add, Nat.mul_add]
      omega
    rw [e]
    have h1 : 1 ≤ x * x := Nat.mul_le_mul (by omega : 1 ≤ x) (by omega : 1 ≤ x)
    generalize x * x = s at *
    omega
  rcases eucP _ _ hd with h1 | h1
  · left; omega
  · right; omega
theorem minus_pow : 4611686018427377338 ^ oQ % 4611686018427377339 = 4611686018427377338 := by
  rw [← powB_eq 4611686018427377339 64 4611686018427377338 oQ (by decide)]
  decide +kernel
/-- The power by Q is 1 or -1. -/
theorem half_pow {a : Nat} (h : a % 4611686018427377339 ≠ 0) : a ^ oQ % 4611686018427377339 = 1 ∨ a ^ oQ % 4611686018427377339 = 4611686018427377338 := by
  refine sq_one ?_
  rw [← Nat.pow_add, show oQ + oQ = 2 * oQ by omega]
  exact fermatP a h
theorem minus_el {a : Nat} (h0 : 0 < a) (h : a < 4611686018427377339) : (4611686018427377339 - a) ^ oQ % 4611686018427377339 = 4611686018427377338 * (a ^ oQ % 4611686018427377339) % 4611686018427377339 := by
  have e : (4611686018427377339 - a) % 4611686018427377339 = 4611686018427377338 * a % 4611686018427377339 := by omega
  rw [pow_mod_of e, Nat.mul_pow, Nat.mul_mod, minus_pow]
/-- Of a and P - a exactly one is an element. -/
theorem El.half {a : Nat} (h0 : 0 < a) (h : a < 4611686018427377339) : El (4611686018427377339 - a) ↔ ¬ El a := by
  unfold El
  rw [minus_el h0 h]
  rcases half_pow (a := a) (by omega) with h1 | h1 <;> rw [h1] <;> decide
end Go.Proofs.YteigldfdaciopaaGreatDoor

namespace Go.Proofs.YteigldfdaciopaaGreatDoor
set_option linter.unusedVariables false

/-- a is an element. -/
def IsEl (a : Int) : Prop := 1 ≤ a ∧ a < 4611686018427377339 ∧ El a.toNat
theorem IsEl.nat {a : Int} (h : IsEl a) : ∃ n : Nat, a = (n : Int) ∧ 0 < n ∧ n < 4611686018427377339 ∧ El n :=
  ⟨a.toNat, by have := h.1; omega, by have := h.1; omega, by have := h.2.1; omega, h.2.2⟩
theorem isEl_of {n : Nat} (h0 : n < 4611686018427377339) (h : El n) : IsEl (n : Int) := by
  have h1 := h.ne
  refine ⟨?_, by omega, by rw [Int.toNat_natCast]; exact h⟩
  have : n ≠ 0 := fun e => h1 (by rw [e])
  omega
open Classical in
noncomputable def chkR (a : Int) : Int := if IsEl a then 0 else 40
open Classical in
noncomputable def mulR (a b : Int) : Int × Int := if IsEl a ∧ IsEl b then (((a.toNat * b.toNat % 4611686018427377339 : Nat) : Int), 0) else (0, 40)
open Classical in
noncomputable def invR (a : Int) : Int × Int := if IsEl a then (((a.toNat ^ (oQ - 1) % 4611686018427377339 : Nat) : Int), 0) else (0, 40)
open Classical in
noncomputable def expR (a k : Int) : Int × Int := if IsEl a then (if 0 ≤ k ∧ k < 2305843009213688669 then (((a.toNat ^ k.toNat % 4611686018427377339 : Nat) : Int), 0) else (0, 1)) else (0, 40)

theorem chkR_ok {a : Int} (h : IsEl a) : chkR a = 0 := if_pos h
theorem chkR_bad {a : Int} (h : ¬ IsEl a) : chkR a = 40 := if_neg h
theorem mulR_ok {a b : Nat} (ha : IsEl a) (hb : IsEl b) : mulR a b = (((a * b % 4611686018427377339 : Nat) : Int), 0) := by
  unfold mulR; rw [if_pos ⟨ha, hb⟩, Int.toNat_natCast, Int.toNat_natCast]
theorem mulR_bad1 {a b : Int} (h : ¬ IsEl a) : mulR a b = (0, 40) := if_neg fun hh => h hh.1
theorem mulR_bad2 {a b : Int} (h : ¬ IsEl b) : mulR a b = (0, 40) := if_neg fun hh => h hh.2
theorem invR_ok {a : Nat} (ha : IsEl a) : invR a = (((a ^ (oQ - 1) % 4611686018427377339 : Nat) : Int), 0) := by
  unfold invR; rw [if_pos ha, Int.toNat_natCast]
theorem invR_bad {a : Int} (h : ¬ IsEl a) : invR a = (0, 40) := if_neg h
theorem expR_ok {a k : Nat} (ha : IsEl a) (hk : k < 2305843009213688669) : expR a k = (((a ^ k % 4611686018427377339 : Nat) : Int), 0) := by
  unfold expR; rw [if_pos ha, if_pos ⟨by omega, by omega⟩, Int.toNat_natCast, Int.toNat_natCast]
theorem expR_bad {a k : Int} (h : ¬ IsEl a) : expR a k = (0, 40) := if_neg h
theorem expR_arg {a k : Int} (ha : IsEl a) (h : ¬ (0 ≤ k ∧ k < 2305843009213688669)) : expR a k = (0, 1) := by unfold expR; rw [if_pos ha, if_neg h]

/-- The number of a digest, the most significant byte first. -/
def numD (l : List UInt8) : Nat := l.foldl (fun n c => 256 * n + c.toNat) 0
/-- Its remainder, byte after byte. -/
def restD (m : Nat) (l : List UInt8) : Nat := l.foldl (fun n c => (256 * n + c.toNat) % m) 0
theorem rest_aux (m : Nat) : ∀ (l : List UInt8) (n k : Nat), n = k % m → l.foldl (fun n c => (256 * n + c.toNat) % m) n = l.foldl (fun n c => 256 * n + c.toNat) k % m
  | [], n, k, h => h
  | c :: l, n, k, h => by
    rw [List.foldl_cons, List.foldl_cons]
    refine rest_aux m l _ _ ?_
    rw [h, Nat.add_mod, Nat.mul_mod, Nat.mod_mod, ← Nat.mul_mod, ← Nat.add_mod]
theorem restD_eq (m : Nat) (l : List UInt8) : restD m l = numD l % m := rest_aux m l 0 0 (Nat.zero_mod m).symm
def scalS (l : List UInt8) : Nat := 1 + numD l % 2305843009213688668
def ptX (l : List UInt8) : Nat := 2 + numD l % 4611686018427377336
def ptS (l : List UInt8) : Nat := ptX l * ptX l % 4611686018427377339
theorem scalS_bd (l : List UInt8) : 1 ≤ scalS l ∧ scalS l < 2305843009213688669 := by unfold scalS; omega
theorem ptX_bd (l : List UInt8) : 2 ≤ ptX l ∧ ptX l ≤ 4611686018427377337 := by unfold ptX; omega
theorem ptS_lt (l : List UInt8) : ptS l < 4611686018427377339 := Nat.mod_lt _ (by decide)
theorem ptS_el (l : List UInt8) : El (ptS l) := El.sq (by have := ptX_bd l; omega)
theorem ptS_ne (l : List UInt8) : ptS l ≠ 1 := fun h => by
  have h1 := ptX_bd l
  rcases sq_one h with h2 | h2 <;> omega
end Go.Proofs.YteigldfdaciopaaGreatDoor
