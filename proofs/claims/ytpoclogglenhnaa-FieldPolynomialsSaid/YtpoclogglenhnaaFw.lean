/-
  The walks of the laws of field whose arguments are numbers.
-/
import Derived.Test.YtpoclogglenhnaaFs
import Derived.OpenShut
namespace Go.Proofs.Ytpoclogglenhnaa
open Go.RowKit
set_option linter.unusedVariables false
set_option linter.unusedSimpArgs false

theorem nat_of {a : Int} (h : scal a = true) : ∃ n : Nat, a = (n : Int) ∧ n < 2305843009213688669 := ⟨a.toNat, by have := scal_of h; omega, by have := scal_of h; omega⟩
theorem rCheck_any (a : Int) (w : World) :
    Calls Try.prog 18 #[.int .i64 a] w fun e w' => e = .returned (.int .i64 (if scal a then 0 else 1)) ∧ w' = w := by
  by_cases h : scal a = true
  · rw [if_pos h]; obtain ⟨n, rfl, hn⟩ := nat_of h; exact rCheck_ok n hn w
  · rw [if_neg h]; exact rCheck_bad a (by simpa using h) w

theorem mulInv {a : Nat} (h : a ≠ 0) (ha : a < 2305843009213688669) : a * (a ^ (kQ - 1) % 2305843009213688669) % 2305843009213688669 = 1 := by
  rw [Nat.mul_mod_mod, Nat.mul_comm, ← Nat.pow_succ, show (kQ - 1).succ = kQ from by unfold kQ; rfl]
  exact fermatQ a (by rw [Nat.mod_eq_of_lt ha]; exact h)
theorem invUnique {a b c : Nat} (hb : b < 2305843009213688669) (hc : c < 2305843009213688669) (h1 : a * b % 2305843009213688669 = 1) (h2 : a * c % 2305843009213688669 = 1) : b = c := by
  have e1 : b * (a * c % 2305843009213688669) % 2305843009213688669 = b := by rw [h2, Nat.mul_one, Nat.mod_eq_of_lt hb]
  have e2 : c * (a * b % 2305843009213688669) % 2305843009213688669 = c := by rw [h1, Nat.mul_one, Nat.mod_eq_of_lt hc]
  have e3 : b * (a * c) = c * (a * b) := by rw [Nat.mul_left_comm b, Nat.mul_left_comm c, Nat.mul_comm b c]
  rw [Nat.mul_mod_mod] at e1 e2
  rw [e3] at e1
  exact e1.symm.trans e2
theorem mulNe {a b : Nat} (ha0 : a ≠ 0) (hb0 : b ≠ 0) (ha : a < 2305843009213688669) (hb : b < 2305843009213688669) : a * b % 2305843009213688669 ≠ 0 := by
  intro h
  rcases eucQ a b (Nat.dvd_of_mod_eq_zero h) with h1 | h1
  · exact ha0 (Nat.eq_zero_of_dvd_of_lt h1 ha)
  · exact hb0 (Nat.eq_zero_of_dvd_of_lt h1 hb)
theorem dif_sum (a b : Nat) (ha : a < 2305843009213688669) (hb : b < 2305843009213688669) : dif ((a + b) % 2305843009213688669) b = a := by unfold dif; omega

set_option maxRecDepth 100000 in
set_option maxHeartbeats 4000000 in
theorem addSpec_walk (a b : Int) (w : World) :
    Calls Try.prog 3 #[.int .i64 a, .int .i64 b] w fun e w' => e = .returned (.bool true) ∧ Below w.heap.size w w' := by
  have kc := fun w => fCheck a w
  have kd := fun w => rCheck_any a w
  by_cases hab : (scal a && scal b) = true
  · obtain ⟨h1, h2⟩ : scal a = true ∧ scal b = true := by simpa using hab
    rw [h1] at kc kd
    obtain ⟨a, rfl, ha⟩ := nat_of h1
    obtain ⟨b, rfl, hb⟩ := nat_of h2
    have k1 := fun w => fAdd a b ha hb w
    have k2 := fun w => rAdd a b ha hb w
    have k3 := fun w => fSub a b ha hb w
    have k4 := fun w => rSub a b ha hb w
    have k5 := fun w => fMul a b ha hb w
    have k6 := fun w => rMul a b ha hb w
    generalize (a + b) % 2305843009213688669 = r1 at *
    generalize dif a b = r2 at *
    generalize a * b % 2305843009213688669 = r3 at *
    simp only [if_true] at kc kd
    have HB := Below.refl w.heap.size w
    go_enter Try.func3, Try.ntmps3
    go_wp2_with (first
      | (go_at_call 10; with_reducible refine (sane_any _).mono ?_; rintro e w1 ⟨rfl, hb⟩; replace HB := belowNext HB hb; clear hb)
      | (go_at_call 11; with_reducible refine (k1 _).mono ?_; rintro e w1 ⟨rfl, hb⟩; replace HB := belowNext HB hb; clear hb)
      | (go_at_call 12; with_reducible refine (k2 _).mono ?_; rintro e w1 ⟨rfl, hw⟩; rw [hw]; clear hw w1)
      | (go_at_call 13; with_reducible refine (k3 _).mono ?_; rintro e w1 ⟨rfl, hb⟩; replace HB := belowNext HB hb; clear hb)
      | (go_at_call 14; with_reducible refine (k4 _).mono ?_; rintro e w1 ⟨rfl, hw⟩; rw [hw]; clear hw w1)
      | (go_at_call 15; with_reducible refine (k5 _).mono ?_; rintro e w1 ⟨rfl, hb⟩; replace HB := belowNext HB hb; clear hb)
      | (go_at_call 16; with_reducible refine (k6 _).mono ?_; rintro e w1 ⟨rfl, hw⟩; rw [hw]; clear hw w1)
      | (go_at_call 17; with_reducible refine (kc _).mono ?_; rintro e w1 ⟨rfl, hb⟩; replace HB := belowNext HB hb; clear hb)
      | (go_at_call 18; with_reducible refine (kd _).mono ?_; rintro e w1 ⟨rfl, hw⟩; rw [hw]; clear hw w1))
    go_ret
    exact ⟨rfl, HB⟩
  · have hab : (scal a && scal b) = false := by simpa using hab
    have k1 := fun w => fAdd_bad a b hab w
    have k2 := fun w => rAdd_bad a b hab w
    have k3 := fun w => fSub_bad a b hab w
    have k4 := fun w => rSub_bad a b hab w
    have k5 := fun w => fMul_bad a b hab w
    have k6 := fun w => rMul_bad a b hab w
    clear hab
    obtain ⟨G, hG⟩ : ∃ G : Int, (if scal a = true then 0 else 1) = G := ⟨_, rfl⟩
    simp only [hG] at kc kd
    clear hG
    have HB := Below.refl w.heap.size w
    go_enter Try.func3, Try.ntmps3
    go_wp2_with (first
      | (go_at_call 10; with_reducible refine (sane_any _).mono ?_; rintro e w1 ⟨rfl, hb⟩; replace HB := belowNext HB hb; clear hb)
      | (go_at_call 11; with_reducible refine (k1 _).mono ?_; rintro e w1 ⟨rfl, hb⟩; replace HB := belowNext HB hb; clear hb)
      | (go_at_call 12; with_reducible refine (k2 _).mono ?_; rintro e w1 ⟨rfl, hw⟩; rw [hw]; clear hw w1)
      | (go_at_call 13; with_reducible refine (k3 _).mono ?_; rintro e w1 ⟨rfl, hb⟩; replace HB := belowNext HB hb; clear hb)
      | (go_at_call 14; with_reducible refine (k4 _).mono ?_; rintro e w1 ⟨rfl, hw⟩; rw [hw]; clear hw w1)
      | (go_at_call 15; with_reducible refine (k5 _).mono ?_; rintro e w1 ⟨rfl, hb⟩; replace HB := belowNext HB hb; clear hb)
      | (go_at_call 16; with_reducible refine (k6 _).mono ?_; rintro e w1 ⟨rfl, hw⟩; rw [hw]; clear hw w1)
      | (go_at_call 17; with_reducible refine (kc _).mono ?_; rintro e w1 ⟨rfl, hb⟩; replace HB := belowNext HB hb; clear hb)
      | (go_at_call 18; with_reducible refine (kd _).mono ?_; rintro e w1 ⟨rfl, hw⟩; rw [hw]; clear hw w1))
    go_ret
    exact ⟨rfl, HB⟩
set_option maxRecDepth 100000 in
set_option maxHeartbeats 4000000 in
theorem powSpec_walk (a n : Int) (hn2 : n < 9223372036854775808) (w : World) :
    Calls Try.prog 4 #[.int .i64 a, .int .i64 n] w fun e w' => e = .returned (.bool true) ∧ Below w.heap.size w w' := by
  by_cases h1 : scal a = true
  · obtain ⟨a, rfl, ha⟩ := nat_of h1
    clear h1
    by_cases h0 : a = 0
    · subst h0
      show Calls _ _ #[.int .i64 ((0 : Nat) : Int), .int .i64 n] w _
      have k1 := fun w => fInv_zero w
      have k2 := fun w => rInv_zero w
      by_cases hn : n < 0
      · have k3 := fun w => fPow_neg 0 n (by decide) hn w
        have k4 := fun w => rPow_neg 0 n (by decide) hn w
        clear hn
        have e0 : ((0 : Nat) : Int) = 0 := rfl
        simp only [e0] at k3 k4
        have HB := Below.refl w.heap.size w
        go_enter Try.func4, Try.ntmps4
        go_wp2_with (first
          | (go_at_call 10; with_reducible refine (sane_any _).mono ?_; rintro e w1 ⟨rfl, hb⟩; replace HB := belowNext HB hb; clear hb)
          | (go_at_call 19; with_reducible refine (k1 _).mono ?_; rintro e w1 ⟨rfl, hb⟩; replace HB := belowNext HB hb; clear hb)
          | (go_at_call 20; with_reducible refine (k2 _).mono ?_; rintro e w1 ⟨rfl, hw⟩; rw [hw]; clear hw w1)
          | (go_at_call 21; with_reducible refine (k3 _).mono ?_; rintro e w1 ⟨rfl, hb⟩; replace HB := belowNext HB hb; clear hb)
          | (go_at_call 22; with_reducible refine (k4 _).mono ?_; rintro e w1 ⟨rfl, hw⟩; rw [hw]; clear hw w1))
        go_ret
        exact ⟨rfl, HB⟩
      · obtain ⟨n, rfl⟩ : ∃ m : Nat, n = (m : Int) := ⟨n.toNat, by omega⟩
        have k3 := fun w => fPow 0 n (by decide) (by omega) w
        have k4 := fun w => rPow 0 n (by decide) (by omega) w
        generalize 0 ^ n % 2305843009213688669 = r2 at *
        clear hn
        have e0 : ((0 : Nat) : Int) = 0 := rfl
        simp only [e0] at k3 k4
        have HB := Below.refl w.heap.size w
        go_enter Try.func4, Try.ntmps4
        go_wp2_with (first
          | (go_at_call 10; with_reducible refine (sane_any _).mono ?_; rintro e w1 ⟨rfl, hb⟩; replace HB := belowNext HB hb; clear hb)
          | (go_at_call 19; with_reducible refine (k1 _).mono ?_; rintro e w1 ⟨rfl, hb⟩; replace HB := belowNext HB hb; clear hb)
          | (go_at_call 20; with_reducible refine (k2 _).mono ?_; rintro e w1 ⟨rfl, hw⟩; rw [hw]; clear hw w1)
          | (go_at_call 21; with_reducible refine (k3 _).mono ?_; rintro e w1 ⟨rfl, hb⟩; replace HB := belowNext HB hb; clear hb)
          | (go_at_call 22; with_reducible refine (k4 _).mono ?_; rintro e w1 ⟨rfl, hw⟩; rw [hw]; clear hw w1))
        go_ret
        exact ⟨rfl, HB⟩
    · have k1 := fun w => fInv a h0 ha w
      have k2 := fun w => rInv a h0 ha w
      generalize a ^ (kQ - 1) % 2305843009213688669 = r1 at *
      clear h0
      by_cases hn : n < 0
      · have k3 := fun w => fPow_neg a n ha hn w
        have k4 := fun w => rPow_neg a n ha hn w
        clear hn
        have HB := Below.refl w.heap.size w
        go_enter Try.func4, Try.ntmps4
        go_wp2_with (first
          | (go_at_call 10; with_reducible refine (sane_any _).mono ?_; rintro e w1 ⟨rfl, hb⟩; replace HB := belowNext HB hb; clear hb)
          | (go_at_call 19; with_reducible refine (k1 _).mono ?_; rintro e w1 ⟨rfl, hb⟩; replace HB := belowNext HB hb; clear hb)
          | (go_at_call 20; with_reducible refine (k2 _).mono ?_; rintro e w1 ⟨rfl, hw⟩; rw [hw]; clear hw w1)
          | (go_at_call 21; with_reducible refine (k3 _).mono ?_; rintro e w1 ⟨rfl, hb⟩; replace HB := belowNext HB hb; clear hb)
          | (go_at_call 22; with_reducible refine (k4 _).mono ?_; rintro e w1 ⟨rfl, hw⟩; rw [hw]; clear hw w1))
        go_ret
        exact ⟨rfl, HB⟩
      · obtain ⟨n, rfl⟩ : ∃ m : Nat, n = (m : Int) := ⟨n.toNat, by omega⟩
        have k3 := fun w => fPow a n ha (by omega) w
        have k4 := fun w => rPow a n ha (by omega) w
        generalize a ^ n % 2305843009213688669 = r2 at *
        clear hn
        have HB := Below.refl w.heap.size w
        go_enter Try.func4, Try.ntmps4
        go_wp2_with (first
          | (go_at_call 10; with_reducible refine (sane_any _).mono ?_; rintro e w1 ⟨rfl, hb⟩; replace HB := belowNext HB hb; clear hb)
          | (go_at_call 19; with_reducible refine (k1 _).mono ?_; rintro e w1 ⟨rfl, hb⟩; replace HB := belowNext HB hb; clear hb)
          | (go_at_call 20; with_reducible refine (k2 _).mono ?_; rintro e w1 ⟨rfl, hw⟩; rw [hw]; clear hw w1)
          | (go_at_call 21; with_reducible refine (k3 _).mono ?_; rintro e w1 ⟨rfl, hb⟩; replace HB := belowNext HB hb; clear hb)
          | (go_at_call 22; with_reducible refine (k4 _).mono ?_; rintro e w1 ⟨rfl, hw⟩; rw [hw]; clear hw w1))
        go_ret
        exact ⟨rfl, HB⟩
  · have ha : scal a = false := by simpa using h1
    have k1 := fun w => fInv_bad a ha w
    have k2 := fun w => rInv_bad a ha w
    have k3 := fun w => fPow_bad a n ha w
    have k4 := fun w => rPow_bad a n ha w
    clear ha h1
    have HB := Below.refl w.heap.size w
    go_enter Try.func4, Try.ntmps4
    go_wp2_with (first
      | (go_at_call 10; with_reducible refine (sane_any _).mono ?_; rintro e w1 ⟨rfl, hb⟩; replace HB := belowNext HB hb; clear hb)
      | (go_at_call 19; with_reducible refine (k1 _).mono ?_; rintro e w1 ⟨rfl, hb⟩; replace HB := belowNext HB hb; clear hb)
      | (go_at_call 20; with_reducible refine (k2 _).mono ?_; rintro e w1 ⟨rfl, hw⟩; rw [hw]; clear hw w1)
      | (go_at_call 21; with_reducible refine (k3 _).mono ?_; rintro e w1 ⟨rfl, hb⟩; replace HB := belowNext HB hb; clear hb)
      | (go_at_call 22; with_reducible refine (k4 _).mono ?_; rintro e w1 ⟨rfl, hw⟩; rw [hw]; clear hw w1))
    go_ret
    exact ⟨rfl, HB⟩
set_option maxRecDepth 100000 in
set_option maxHeartbeats 4000000 in
theorem ring_walk (x y z : Int) (hx : -9223372036854775808 ≤ x ∧ x < 9223372036854775808) (hy : -9223372036854775808 ≤ y ∧ y < 9223372036854775808) (hz : -9223372036854775808 ≤ z ∧ z < 9223372036854775808) (w : World) :
    Calls Try.prog 6 #[.int .i64 x, .int .i64 y, .int .i64 z] w fun e w' => e = .returned (.bool true) ∧ Below w.heap.size w w' := by
  have o1 := fun w => lOf x hx.1 hx.2 w
  have o2 := fun w => lOf y hy.1 hy.2 w
  have o3 := fun w => lOf z hz.1 hz.2 w
  have ha := ofI_lt x
  have hb := ofI_lt y
  have hc := ofI_lt z
  generalize ofI x = a at *
  generalize ofI y = b at *
  generalize ofI z = c at *
  obtain ⟨ab, eab⟩ : ∃ r, (a + b) % 2305843009213688669 = r := ⟨_, rfl⟩
  have hab : ab < 2305843009213688669 := by rw [← eab]; exact Nat.mod_lt _ (by decide)
  obtain ⟨bc, ebc⟩ : ∃ r, (b + c) % 2305843009213688669 = r := ⟨_, rfl⟩
  have hbc : bc < 2305843009213688669 := by rw [← ebc]; exact Nat.mod_lt _ (by decide)
  obtain ⟨abc, eabc⟩ : ∃ r, (ab + c) % 2305843009213688669 = r := ⟨_, rfl⟩
  have habc : abc < 2305843009213688669 := by rw [← eabc]; exact Nat.mod_lt _ (by decide)
  obtain ⟨pab, epab⟩ : ∃ r, a * b % 2305843009213688669 = r := ⟨_, rfl⟩
  have hpab : pab < 2305843009213688669 := by rw [← epab]; exact Nat.mod_lt _ (by decide)
  obtain ⟨pbc, epbc⟩ : ∃ r, b * c % 2305843009213688669 = r := ⟨_, rfl⟩
  have hpbc : pbc < 2305843009213688669 := by rw [← epbc]; exact Nat.mod_lt _ (by decide)
  obtain ⟨pac, epac⟩ : ∃ r, a * c % 2305843009213688669 = r := ⟨_, rfl⟩
  have hpac : pac < 2305843009213688669 := by rw [← epac]; exact Nat.mod_lt _ (by decide)
  obtain ⟨pabc, epabc⟩ : ∃ r, pab * c % 2305843009213688669 = r := ⟨_, rfl⟩
  have hpabc : pabc < 2305843009213688669 := by rw [← epabc]; exact Nat.mod_lt _ (by decide)
  obtain ⟨dd, edd⟩ : ∃ r, a * bc % 2305843009213688669 = r := ⟨_, rfl⟩
  have hdd : dd < 2305843009213688669 := by rw [← edd]; exact Nat.mod_lt _ (by decide)
  have e1 : (b + a) % 2305843009213688669 = ab := by rw [Nat.add_comm]; exact eab
  have e2 : (a + bc) % 2305843009213688669 = abc := by rw [← ebc, ← eabc, ← eab, Nat.add_mod_mod, Nat.mod_add_mod, Nat.add_assoc]
  have e3 : b * a % 2305843009213688669 = pab := by rw [Nat.mul_comm]; exact epab
  have e4 : a * pbc % 2305843009213688669 = pabc := by rw [← epbc, ← epabc, ← epab, Nat.mul_mod_mod, Nat.mod_mul_mod, Nat.mul_assoc]
  have e5 : (pab + pac) % 2305843009213688669 = dd := by rw [← epab, ← epac, ← edd, ← ebc, Nat.mul_mod_mod, Nat.mul_add, ← Nat.add_mod]
  have e6 : dif ab b = a := by rw [← eab]; exact dif_sum a b ha hb
  have e7 : (a + 0) % 2305843009213688669 = a := by rw [Nat.add_zero, Nat.mod_eq_of_lt ha]
  have e8 : a * 1 % 2305843009213688669 = a := by rw [Nat.mul_one, Nat.mod_eq_of_lt ha]
  have e9 : a * 0 % 2305843009213688669 = 0 := by rw [Nat.mul_zero, Nat.zero_mod]
  have k0 := fun w => ladd a b ha hb w
  simp only [eab] at k0
  have k1 := fun w => ladd b a hb ha w
  simp only [e1] at k1
  have k2 := fun w => ladd ab c hab hc w
  simp only [eabc] at k2
  have k3 := fun w => ladd b c hb hc w
  simp only [ebc] at k3
  have k4 := fun w => ladd a bc ha hbc w
  simp only [e2] at k4
  have k5 := fun w => lmul a b ha hb w
  simp only [epab] at k5
  have k6 := fun w => lmul b a hb ha w
  simp only [e3] at k6
  have k7 := fun w => lmul pab c hpab hc w
  simp only [epabc] at k7
  have k8 := fun w => lmul b c hb hc w
  simp only [epbc] at k8
  have k9 := fun w => lmul a pbc ha hpbc w
  simp only [e4] at k9
  have k10 := fun w => lmul a bc ha hbc w
  simp only [edd] at k10
  have k11 := fun w => lmul a c ha hc w
  simp only [epac] at k11
  have k12 := fun w => ladd pab pac hpab hpac w
  simp only [e5] at k12
  have z0 := fun w => ladd a 0 ha (by decide) w
  simp only [e7] at z0
  have z0' : ∀ w : World, Calls Try.prog 26 #[.int .i64 a, .int .i64 0] w fun e w' => e = .returned (.int .i64 a) ∧ Below w.heap.size w w' := z0
  have z1 := fun w => lmul a 1 ha (by decide) w
  simp only [e8] at z1
  have z1' : ∀ w : World, Calls Try.prog 27 #[.int .i64 a, .int .i64 1] w fun e w' => e = .returned (.int .i64 a) ∧ Below w.heap.size w w' := z1
  have z2 := fun w => lmul a 0 ha (by decide) w
  simp only [e9] at z2
  have z2' : ∀ w : World, Calls Try.prog 27 #[.int .i64 a, .int .i64 0] w fun e w' => e = .returned (.int .i64 0) ∧ Below w.heap.size w w' := z2
  have ks := fun w => fSub ab b hab hb w
  simp only [e6] at ks
  have ki := fun w => is_eq (a : Int) w
  clear eab ebc eabc epab epbc epac epabc edd e1 e2 e3 e4 e5 e6 e7 e8 e9
  have HB := Below.refl w.heap.size w
  go_enter Try.func6, Try.ntmps6
  go_wp2_with (first
    | (go_at_call 10; with_reducible refine (sane_any _).mono ?_; rintro e w1 ⟨rfl, hb⟩; replace HB := belowNext HB hb; clear hb)
    | (go_at_call 25; with_reducible refine (o1 _).mono ?_; rintro e w1 ⟨rfl, hw⟩; rw [hw]; clear hw w1)
    | (go_at_call 25; with_reducible refine (o2 _).mono ?_; rintro e w1 ⟨rfl, hw⟩; rw [hw]; clear hw w1)
    | (go_at_call 25; with_reducible refine (o3 _).mono ?_; rintro e w1 ⟨rfl, hw⟩; rw [hw]; clear hw w1)
    | (go_at_call 26; with_reducible refine (k0 _).mono ?_; rintro e w1 ⟨rfl, hb⟩; replace HB := belowNext HB hb; clear hb)
    | (go_at_call 26; with_reducible refine (k1 _).mono ?_; rintro e w1 ⟨rfl, hb⟩; replace HB := belowNext HB hb; clear hb)
    | (go_at_call 26; with_reducible refine (k2 _).mono ?_; rintro e w1 ⟨rfl, hb⟩; replace HB := belowNext HB hb; clear hb)
    | (go_at_call 26; with_reducible refine (k3 _).mono ?_; rintro e w1 ⟨rfl, hb⟩; replace HB := belowNext HB hb; clear hb)
    | (go_at_call 26; with_reducible refine (k4 _).mono ?_; rintro e w1 ⟨rfl, hb⟩; replace HB := belowNext HB hb; clear hb)
    | (go_at_call 27; with_reducible refine (k5 _).mono ?_; rintro e w1 ⟨rfl, hb⟩; replace HB := belowNext HB hb; clear hb)
    | (go_at_call 27; with_reducible refine (k6 _).mono ?_; rintro e w1 ⟨rfl, hb⟩; replace HB := belowNext HB hb; clear hb)
    | (go_at_call 27; with_reducible refine (k7 _).mono ?_; rintro e w1 ⟨rfl, hb⟩; replace HB := belowNext HB hb; clear hb)
    | (go_at_call 27; with_reducible refine (k8 _).mono ?_; rintro e w1 ⟨rfl, hb⟩; replace HB := belowNext HB hb; clear hb)
    | (go_at_call 27; with_reducible refine (k9 _).mono ?_; rintro e w1 ⟨rfl, hb⟩; replace HB := belowNext HB hb; clear hb)
    | (go_at_call 27; with_reducible refine (k10 _).mono ?_; rintro e w1 ⟨rfl, hb⟩; replace HB := belowNext HB hb; clear hb)
    | (go_at_call 27; with_reducible refine (k11 _).mono ?_; rintro e w1 ⟨rfl, hb⟩; replace HB := belowNext HB hb; clear hb)
    | (go_at_call 26; with_reducible refine (k12 _).mono ?_; rintro e w1 ⟨rfl, hb⟩; replace HB := belowNext HB hb; clear hb)
    | (go_at_call 26; with_reducible refine (z0' _).mono ?_; rintro e w1 ⟨rfl, hb⟩; replace HB := belowNext HB hb; clear hb)
    | (go_at_call 27; with_reducible refine (z1' _).mono ?_; rintro e w1 ⟨rfl, hb⟩; replace HB := belowNext HB hb; clear hb)
    | (go_at_call 27; with_reducible refine (z2' _).mono ?_; rintro e w1 ⟨rfl, hb⟩; replace HB := belowNext HB hb; clear hb)
    | (go_at_call 13; with_reducible refine (ks _).mono ?_; rintro e w1 ⟨rfl, hb⟩; replace HB := belowNext HB hb; clear hb)
    | (go_at_call 28; with_reducible refine (ki _).mono ?_; rintro e w1 ⟨rfl, hw⟩; rw [hw]; clear hw w1))
  go_ret
  exact ⟨rfl, HB⟩
set_option maxRecDepth 100000 in
set_option maxHeartbeats 4000000 in
theorem inverse_walk (x y : Int) (hx : -9223372036854775808 ≤ x ∧ x < 9223372036854775808) (hy : -9223372036854775808 ≤ y ∧ y < 9223372036854775808) (w : World) :
    Calls Try.prog 7 #[.int .i64 x, .int .i64 y] w fun e w' => e = .returned (.bool true) ∧ Below w.heap.size w w' := by
  have o1 := fun w => lOf x hx.1 hx.2 w
  have o2 := fun w => lOf y hy.1 hy.2 w
  have ha := ofI_lt x
  have hb := ofI_lt y
  generalize ofI x = a at *
  generalize ofI y = b at *
  by_cases ha0 : a = 0
  · subst ha0
    have HB := Below.refl w.heap.size w
    go_enter Try.func7, Try.ntmps7
    go_wp2_with (first
      | (go_at_call 10; with_reducible refine (sane_any _).mono ?_; rintro e w1 ⟨rfl, hb⟩; replace HB := belowNext HB hb; clear hb)
      | (go_at_call 25; with_reducible refine (o1 _).mono ?_; rintro e w1 ⟨rfl, hw⟩; rw [hw]; clear hw w1)
      | (go_at_call 25; with_reducible refine (o2 _).mono ?_; rintro e w1 ⟨rfl, hw⟩; rw [hw]; clear hw w1))
    go_ret
    exact ⟨rfl, HB⟩
  by_cases hb0 : b = 0
  · subst hb0
    have f1 : ((a : Int) == 0) = false := by simp; omega
    have HB := Below.refl w.heap.size w
    go_enter Try.func7, Try.ntmps7
    go_wp2_with (first
      | (go_at_call 10; with_reducible refine (sane_any _).mono ?_; rintro e w1 ⟨rfl, hb⟩; replace HB := belowNext HB hb; clear hb)
      | (go_at_call 25; with_reducible refine (o1 _).mono ?_; rintro e w1 ⟨rfl, hw⟩; rw [hw]; clear hw w1)
      | (go_at_call 25; with_reducible refine (o2 _).mono ?_; rintro e w1 ⟨rfl, hw⟩; rw [hw]; clear hw w1))
    go_ret
    exact ⟨rfl, HB⟩
  have f1 : ((a : Int) == 0) = false := by simp; omega
  have f2 : ((b : Int) == 0) = false := by simp; omega
  have hm := mulInv ha0 ha
  have k1 := fun w => fInv a ha0 ha w
  obtain ⟨c, ec⟩ : ∃ c, a ^ (kQ - 1) % 2305843009213688669 = c := ⟨_, rfl⟩
  have hc : c < 2305843009213688669 := by rw [← ec]; exact Nat.mod_lt _ (by decide)
  rw [ec] at hm
  simp only [ec] at k1
  clear ec
  have hc0 : c ≠ 0 := fun h => by rw [h, Nat.mul_zero] at hm; exact absurd hm (by decide)
  have hm2 := mulInv hc0 hc
  have k2 := fun w => fInv c hc0 hc w
  obtain ⟨d, ed⟩ : ∃ d, c ^ (kQ - 1) % 2305843009213688669 = d := ⟨_, rfl⟩
  have hd : d < 2305843009213688669 := by rw [← ed]; exact Nat.mod_lt _ (by decide)
  rw [ed] at hm2
  simp only [ed] at k2
  clear ed
  obtain rfl : d = a := invUnique (a := c) hd ha hm2 (by rw [Nat.mul_comm]; exact hm)
  have f3 : decide ((0 : Int) < (c : Int)) = true := decide_eq_true (by omega)
  have f4 : decide ((c : Int) < 2305843009213688669) = true := decide_eq_true (by omega)
  have k3 := fun w => lmul d c ha hc w
  simp only [hm] at k3
  have k3' : ∀ w : World, Calls Try.prog 27 #[.int .i64 d, .int .i64 c] w fun e w' => e = .returned (.int .i64 1) ∧ Below w.heap.size w w' := k3
  have ki := fun w => is_eq (d : Int) w
  have K1 := Lib.hid k1
  have K2 := Lib.hid k2
  clear k1 k2
  by_cases hbc : b = c
  · subst hbc
    clear hm hm2 ha0 hb0 hc0 k3
    generalize (b : Int) = C at o2 K1 K2 k3' f2 f3 f4
    have HB := Below.refl w.heap.size w
    go_enter Try.func7, Try.ntmps7
    go_wp2_with (first
      | (go_at_call 10; with_reducible refine (sane_any _).mono ?_; rintro e w1 ⟨rfl, hb⟩; replace HB := belowNext HB hb; clear hb)
      | (go_at_call 25; with_reducible refine (o1 _).mono ?_; rintro e w1 ⟨rfl, hw⟩; rw [hw]; clear hw w1)
      | (go_at_call 25; with_reducible refine (o2 _).mono ?_; rintro e w1 ⟨rfl, hw⟩; rw [hw]; clear hw w1)
      | (go_at_call 19; with_reducible refine (K1.out _).mono ?_; rintro e w1 ⟨rfl, hb⟩; replace HB := belowNext HB hb; clear hb)
      | (go_at_call 19; with_reducible refine (K2.out _).mono ?_; rintro e w1 ⟨rfl, hb⟩; replace HB := belowNext HB hb; clear hb)
      | (go_at_call 27; with_reducible refine (k3' _).mono ?_; rintro e w1 ⟨rfl, hb⟩; replace HB := belowNext HB hb; clear hb)
      | (go_at_call 28; with_reducible refine (ki _).mono ?_; rintro e w1 ⟨rfl, hw⟩; rw [hw]; clear hw w1))
    go_ret
    exact ⟨rfl, HB⟩
  have hne := mulNe ha0 hb0 ha hb
  have hn1 : d * b % 2305843009213688669 ≠ 1 := fun h => hbc (invUnique hb hc h hm)
  have k4 := fun w => lmul d b ha hb w
  generalize d * b % 2305843009213688669 = m at *
  have f5 : ((m : Int) == 1) = false := by simp; omega
  have f6 : ((m : Int) != 0) = true := by simp; omega
  have f7 : ((b : Int) == (c : Int)) = false := by simp; omega
  clear hm hm2 hn1 hne hbc ha0 hb0 hc0 k3
  generalize (c : Int) = C at K1 K2 k3' f3 f4 f7
  have HB := Below.refl w.heap.size w
  go_enter Try.func7, Try.ntmps7
  go_wp2_with (first
    | (go_at_call 10; with_reducible refine (sane_any _).mono ?_; rintro e w1 ⟨rfl, hb⟩; replace HB := belowNext HB hb; clear hb)
    | (go_at_call 25; with_reducible refine (o1 _).mono ?_; rintro e w1 ⟨rfl, hw⟩; rw [hw]; clear hw w1)
    | (go_at_call 25; with_reducible refine (o2 _).mono ?_; rintro e w1 ⟨rfl, hw⟩; rw [hw]; clear hw w1)
    | (go_at_call 19; with_reducible refine (K1.out _).mono ?_; rintro e w1 ⟨rfl, hb⟩; replace HB := belowNext HB hb; clear hb)
    | (go_at_call 19; with_reducible refine (K2.out _).mono ?_; rintro e w1 ⟨rfl, hb⟩; replace HB := belowNext HB hb; clear hb)
    | (go_at_call 27; with_reducible refine (k3' _).mono ?_; rintro e w1 ⟨rfl, hb⟩; replace HB := belowNext HB hb; clear hb)
    | (go_at_call 27; with_reducible refine (k4 _).mono ?_; rintro e w1 ⟨rfl, hb⟩; replace HB := belowNext HB hb; clear hb)
    | (go_at_call 28; with_reducible refine (ki _).mono ?_; rintro e w1 ⟨rfl, hw⟩; rw [hw]; clear hw w1))
  go_ret
  exact ⟨rfl, HB⟩
set_option maxRecDepth 100000 in
set_option maxHeartbeats 4000000 in
theorem powers_walk (x : Int) (m n : Nat) (hx : -9223372036854775808 ≤ x ∧ x < 9223372036854775808) (hm : m < 65536) (hn : n < 65536) (w : World) :
    Calls Try.prog 8 #[.int .i64 x, .int .u16 m, .int .u16 n] w fun e w' => e = .returned (.bool true) ∧ Below w.heap.size w w' := by
  have o1 := fun w => lOf x hx.1 hx.2 w
  have ha := ofI_lt x
  generalize ofI x = a at *
  have hmn : m * n ≤ 65535 * 65535 := Nat.mul_le_mul (by omega) (by omega)
  have c1 : IntKind.i64.wrap ((m : Int) + (n : Int)) = ((m + n : Nat) : Int) := by rw [wrapI _ (by omega) (by omega)]; omega
  have c2 : IntKind.i64.wrap ((m : Int) * (n : Int)) = ((m * n : Nat) : Int) := by rw [← Int.natCast_mul, wrapI _ (by omega) (by omega)]
  have c3 := wrapI (m : Int) (by omega) (by omega)
  have c4 := wrapI (n : Int) (by omega) (by omega)
  have hp : a ^ m % 2305843009213688669 < 2305843009213688669 := Nat.mod_lt _ (by decide)
  have hq : a ^ n % 2305843009213688669 < 2305843009213688669 := Nat.mod_lt _ (by decide)
  have k1 := fun w => fPow a m ha (by omega) w
  have k2 := fun w => fPow a n ha (by omega) w
  have k3 := fun w => fPow a (m + n) ha (by omega) w
  have k4 := fun w => fPow (a ^ m % 2305843009213688669) n hp (by omega) w
  have k5 := fun w => fPow a (m * n) ha (by omega) w
  have k6 := fun w => fPow a kQ ha (by unfold kQ; omega) w
  have k7 := fun w => lmul (a ^ m % 2305843009213688669) (a ^ n % 2305843009213688669) hp hq w
  have e1 : a ^ m % 2305843009213688669 * (a ^ n % 2305843009213688669) % 2305843009213688669 = a ^ (m + n) % 2305843009213688669 := by rw [← Nat.mul_mod, ← Nat.pow_add]
  have e2 : (a ^ m % 2305843009213688669) ^ n % 2305843009213688669 = a ^ (m * n) % 2305843009213688669 := by rw [← Nat.pow_mod, ← Nat.pow_mul]
  have ek : ((kQ : Nat) : Int) = 2305843009213688668 := by unfold kQ; rfl
  have hu : (a = 0 ∧ a ^ kQ % 2305843009213688669 = 0) ∨ (a ≠ 0 ∧ a ^ kQ % 2305843009213688669 = 1) := by
    by_cases h : a = 0
    · left; refine ⟨h, ?_⟩; rw [h, Nat.zero_pow (by unfold kQ; omega), Nat.zero_mod]
    · right; exact ⟨h, fermatQ a (by rw [Nat.mod_eq_of_lt ha]; exact h)⟩
  simp only [e1] at k7
  simp only [e2] at k4
  simp only [ek] at k6
  clear e1 e2 ek
  generalize a ^ m % 2305843009213688669 = p at *
  generalize a ^ n % 2305843009213688669 = q at *
  generalize a ^ kQ % 2305843009213688669 = u at *
  generalize a ^ (m + n) % 2305843009213688669 = r at *
  generalize a ^ (m * n) % 2305843009213688669 = t at *
  generalize m + n = s1 at *
  generalize m * n = s2 at *
  have k6' := k6
  rcases hu with ⟨h0, h1⟩ | ⟨h0, h1⟩
  · subst h0; subst h1
    have e0 : ((0 : Nat) : Int) = 0 := rfl
    simp only [e0] at o1 k1 k2 k3 k5 k6'
    clear e0
    have HB := Below.refl w.heap.size w
    go_enter Try.func8, Try.ntmps8
    go_wp2_with (first
      | (go_at_call 10; with_reducible refine (sane_any _).mono ?_; rintro e w1 ⟨rfl, hb⟩; replace HB := belowNext HB hb; clear hb)
      | (go_at_call 25; with_reducible refine (o1 _).mono ?_; rintro e w1 ⟨rfl, hw⟩; rw [hw]; clear hw w1)
      | (go_at_call 21; with_reducible refine (k1 _).mono ?_; rintro e w1 ⟨rfl, hb⟩; replace HB := belowNext HB hb; clear hb)
      | (go_at_call 21; with_reducible refine (k2 _).mono ?_; rintro e w1 ⟨rfl, hb⟩; replace HB := belowNext HB hb; clear hb)
      | (go_at_call 21; with_reducible refine (k3 _).mono ?_; rintro e w1 ⟨rfl, hb⟩; replace HB := belowNext HB hb; clear hb)
      | (go_at_call 21; with_reducible refine (k4 _).mono ?_; rintro e w1 ⟨rfl, hb⟩; replace HB := belowNext HB hb; clear hb)
      | (go_at_call 21; with_reducible refine (k5 _).mono ?_; rintro e w1 ⟨rfl, hb⟩; replace HB := belowNext HB hb; clear hb)
      | (go_at_call 21; with_reducible refine (k6' _).mono ?_; rintro e w1 ⟨rfl, hb⟩; replace HB := belowNext HB hb; clear hb)
      | (go_at_call 27; with_reducible refine (k7 _).mono ?_; rintro e w1 ⟨rfl, hb⟩; replace HB := belowNext HB hb; clear hb))
    go_ret
    exact ⟨rfl, HB⟩
  · subst h1
    have f1 : ((a : Int) != 0) = true := by simp; omega
    have e0 : ((1 : Nat) : Int) = 1 := rfl
    simp only [e0] at k6'
    clear e0
    have HB := Below.refl w.heap.size w
    go_enter Try.func8, Try.ntmps8
    go_wp2_with (first
      | (go_at_call 10; with_reducible refine (sane_any _).mono ?_; rintro e w1 ⟨rfl, hb⟩; replace HB := belowNext HB hb; clear hb)
      | (go_at_call 25; with_reducible refine (o1 _).mono ?_; rintro e w1 ⟨rfl, hw⟩; rw [hw]; clear hw w1)
      | (go_at_call 21; with_reducible refine (k1 _).mono ?_; rintro e w1 ⟨rfl, hb⟩; replace HB := belowNext HB hb; clear hb)
      | (go_at_call 21; with_reducible refine (k2 _).mono ?_; rintro e w1 ⟨rfl, hb⟩; replace HB := belowNext HB hb; clear hb)
      | (go_at_call 21; with_reducible refine (k3 _).mono ?_; rintro e w1 ⟨rfl, hb⟩; replace HB := belowNext HB hb; clear hb)
      | (go_at_call 21; with_reducible refine (k4 _).mono ?_; rintro e w1 ⟨rfl, hb⟩; replace HB := belowNext HB hb; clear hb)
      | (go_at_call 21; with_reducible refine (k5 _).mono ?_; rintro e w1 ⟨rfl, hb⟩; replace HB := belowNext HB hb; clear hb)
      | (go_at_call 21; with_reducible refine (k6' _).mono ?_; rintro e w1 ⟨rfl, hb⟩; replace HB := belowNext HB hb; clear hb)
      | (go_at_call 27; with_reducible refine (k7 _).mono ?_; rintro e w1 ⟨rfl, hb⟩; replace HB := belowNext HB hb; clear hb))
    go_ret
    exact ⟨rfl, HB⟩

theorem i64_of {a : Int} (h : (Lit.int .i64 a).wf = true) : -9223372036854775808 ≤ a ∧ a < 9223372036854775808 := by
  obtain ⟨h1, h2⟩ := bounds_i64 h
  exact ⟨h1, by omega⟩
theorem u16_of {a : Int} (h : (Lit.int .u16 a).wf = true) : ∃ n : Nat, a = (n : Int) ∧ n < 65536 := by
  obtain ⟨h1, h2⟩ := bounds_u16 h
  exact ⟨a.toNat, by omega, by omega⟩
end Go.Proofs.Ytpoclogglenhnaa
