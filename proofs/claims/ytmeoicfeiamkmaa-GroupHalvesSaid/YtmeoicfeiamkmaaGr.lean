/-
  The reference's functions of the group; the chapter's examples.
-/
import Derived.Test.YtmeoicfeiamkmaaGe
namespace Go.Proofs.Ytmeoicfeiamkmaa
open Go.RowKit
set_option linter.unusedVariables false
set_option linter.unusedSimpArgs false

theorem grprodP (p q : Nat) (hp : p < 4611686018427377339) (hq : q < 4611686018427377339) (w : World) :
    Calls Try.prog 25 #[.int .i64 p, .int .i64 q, .int .i64 4611686018427377339] w fun e w' => e = .returned (.int .i64 ((p * q % 4611686018427377339 : Nat) : Int)) ∧ w' = w :=
  grprod_any 4611686018427377339 p q (by decide) hp (by omega) w
theorem gScalar_any (a : Int) (w : World) :
    Calls Try.prog 20 #[.int .i64 a] w fun e w' => e = .returned (.bool (scal a)) ∧ w' = w := by
  by_cases h : 0 ≤ a
  · have f1 : decide (0 ≤ a) = true := decide_eq_true h
    go_enter Try.func20, Try.ntmps20
    go_wp2_with fail
    go_ret
    exact ⟨by simp [scal, f1], rfl⟩
  · have f1 : decide (0 ≤ a) = false := decide_eq_false h
    go_enter Try.func20, Try.ntmps20
    go_wp2_with fail
    go_ret
    exact ⟨by simp [scal, f1], rfl⟩

theorem hCheck_any (a : Int) (w : World) :
    Calls Try.prog 18 #[.int .i64 a] w fun e w' => e = .returned (.int .i64 (chkR a)) ∧ w' = w := by
  by_cases h1 : a < 1
  · have f1 : decide (a < 1) = true := decide_eq_true h1
    rw [chkR_bad (fun h => by have := h.1; omega)]
    go_enter Try.func18, Try.ntmps18
    go_wp2_with fail
    go_ret
    exact ⟨rfl, rfl⟩
  · have f1 : decide (a < 1) = false := decide_eq_false h1
    by_cases h2 : 4611686018427377339 ≤ a
    · have f2 : decide (4611686018427377339 ≤ a) = true := decide_eq_true h2
      rw [chkR_bad (fun h => by have := h.2.1; omega)]
      go_enter Try.func18, Try.ntmps18
      go_wp2_with fail
      go_ret
      exact ⟨rfl, rfl⟩
    · have f2 : decide (4611686018427377339 ≤ a) = false := decide_eq_false h2
      obtain ⟨n, rfl⟩ : ∃ n : Nat, a = (n : Int) := ⟨a.toNat, by omega⟩
      have hp := grpow_any n 2305843009213688669 (by omega) (by decide)
      obtain ⟨x, hx⟩ : ∃ x, n ^ 2305843009213688669 % 4611686018427377339 = x := ⟨_, rfl⟩
      have hq : IsEl (n : Int) ↔ x = 1 := by
        unfold IsEl El oQ
        rw [Int.toNat_natCast, hx]
        exact ⟨fun h => h.2.2, fun h => ⟨by omega, by omega, h⟩⟩
      rw [hx] at hp
      clear hx
      have HP := Lib.hid hp
      clear hp
      by_cases hx : x = 1
      · rw [chkR_ok (hq.2 hx)]
        subst hx
        clear hq
        go_enter Try.func18, Try.ntmps18
        go_wp2_with (go_at_call 27; refine (HP.out _).mono ?_; rintro e w1 ⟨rfl, hw⟩; rw [hw]; clear hw w1)
        go_ret
        exact ⟨rfl, rfl⟩
      · rw [chkR_bad (fun h => hx (hq.1 h))]
        clear hq
        have f3 : ((x : Int) == 1) = false := by simp; omega
        have f4 : ((x : Int) != 1) = true := by simp; omega
        go_enter Try.func18, Try.ntmps18
        go_wp2_with (go_at_call 27; refine (HP.out _).mono ?_; rintro e w1 ⟨rfl, hw⟩; rw [hw]; clear hw w1)
        go_ret
        exact ⟨rfl, rfl⟩
theorem hCheck_ok (a : Int) (h : IsEl a) (w : World) :
    Calls Try.prog 18 #[.int .i64 a] w fun e w' => e = .returned (.int .i64 0) ∧ w' = w := by
  have := hCheck_any a w
  rw [chkR_ok h] at this; exact this
theorem hCheck_bad (a : Int) (h : ¬ IsEl a) (w : World) :
    Calls Try.prog 18 #[.int .i64 a] w fun e w' => e = .returned (.int .i64 40) ∧ w' = w := by
  have := hCheck_any a w
  rw [chkR_bad h] at this; exact this

theorem hMul_any (a b : Int) (w : World) :
    Calls Try.prog 10 #[.int .i64 a, .int .i64 b] w fun e w' => e = .returned (.tuple #[.int .i64 (mulR a b).1, .int .i64 (mulR a b).2]) ∧ w' = w := by
  by_cases ha : IsEl a
  · have k1 := fun w => hCheck_ok a ha w
    by_cases hb : IsEl b
    · have k2 := fun w => hCheck_ok b hb w
      obtain ⟨n, rfl, -⟩ := ha.nat
      obtain ⟨m, rfl, -⟩ := hb.nat
      rw [mulR_ok ha hb]
      have k3 := fun w => grprodP n m (by have := ha.2.1; omega) (by have := hb.2.1; omega) w
      clear ha hb
      generalize n * m % 4611686018427377339 = r at *
      go_enter Try.func10, Try.ntmps10
      go_wp2_with (first
        | (go_at_call 18; with_reducible refine (k1 _).mono ?_; rintro e w1 ⟨rfl, hw⟩; rw [hw]; clear hw w1 k1)
        | (go_at_call 18; with_reducible refine (k2 _).mono ?_; rintro e w1 ⟨rfl, hw⟩; rw [hw]; clear hw w1)
        | (go_at_call 25; with_reducible refine (k3 _).mono ?_; rintro e w1 ⟨rfl, hw⟩; rw [hw]; clear hw w1))
      go_ret2
      exact ⟨rfl, rfl⟩
    · have k2 := fun w => hCheck_bad b hb w
      rw [mulR_bad2 hb]
      clear ha hb
      go_enter Try.func10, Try.ntmps10
      go_wp2_with (first
        | (go_at_call 18; with_reducible refine (k1 _).mono ?_; rintro e w1 ⟨rfl, hw⟩; rw [hw]; clear hw w1 k1)
        | (go_at_call 18; with_reducible refine (k2 _).mono ?_; rintro e w1 ⟨rfl, hw⟩; rw [hw]; clear hw w1))
      go_ret2
      exact ⟨rfl, rfl⟩
  · have k1 := fun w => hCheck_bad a ha w
    rw [mulR_bad1 ha]
    clear ha
    go_enter Try.func10, Try.ntmps10
    go_wp2_with (go_at_call 18; with_reducible refine (k1 _).mono ?_; rintro e w1 ⟨rfl, hw⟩; rw [hw]; clear hw w1)
    go_ret2
    exact ⟨rfl, rfl⟩

theorem hInv_any (a : Int) (w : World) :
    Calls Try.prog 12 #[.int .i64 a] w fun e w' => e = .returned (.tuple #[.int .i64 (invR a).1, .int .i64 (invR a).2]) ∧ w' = w := by
  by_cases ha : IsEl a
  · have k1 := fun w => hCheck_ok a ha w
    obtain ⟨n, rfl, -⟩ := ha.nat
    rw [invR_ok ha]
    obtain ⟨o, ho⟩ : ∃ o, oQ - 1 = o := ⟨_, rfl⟩
    have k2 := fun w => grpow_any n 2305843009213688668 (by have := ha.2.1; omega) (by decide) w
    rw [show 2305843009213688668 = o from ho] at k2
    have e : ((o : Nat) : Int) = 2305843009213688668 := by rw [← ho]; rfl
    rw [e] at k2
    rw [ho]
    clear ho e ha
    generalize n ^ o % 4611686018427377339 = r at *
    go_enter Try.func12, Try.ntmps12
    go_wp2_with (first
      | (go_at_call 18; with_reducible refine (k1 _).mono ?_; rintro e w1 ⟨rfl, hw⟩; rw [hw]; clear hw w1 k1)
      | (go_at_call 27; with_reducible refine (k2 _).mono ?_; rintro e w1 ⟨rfl, hw⟩; rw [hw]; clear hw w1))
    go_ret2
    exact ⟨rfl, rfl⟩
  · have k1 := fun w => hCheck_bad a ha w
    rw [invR_bad ha]
    clear ha
    go_enter Try.func12, Try.ntmps12
    go_wp2_with (go_at_call 18; with_reducible refine (k1 _).mono ?_; rintro e w1 ⟨rfl, hw⟩; rw [hw]; clear hw w1)
    go_ret2
    exact ⟨rfl, rfl⟩

theorem hExp_any (a k : Int) (w : World) :
    Calls Try.prog 14 #[.int .i64 a, .int .i64 k] w fun e w' => e = .returned (.tuple #[.int .i64 (expR a k).1, .int .i64 (expR a k).2]) ∧ w' = w := by
  by_cases ha : IsEl a
  · have k1 := fun w => hCheck_ok a ha w
    have k2 := fun w => gScalar_any k w
    by_cases hk : 0 ≤ k ∧ k < 2305843009213688669
    · obtain ⟨n, rfl, -⟩ := ha.nat
      obtain ⟨m, rfl⟩ : ∃ m : Nat, k = (m : Int) := ⟨k.toNat, by omega⟩
      have hm : m < 2305843009213688669 := by omega
      rw [scal_nat hm] at k2
      rw [expR_ok ha hm]
      have k3 := fun w => grpow_any n m (by have := ha.2.1; omega) (by omega) w
      clear ha hk
      generalize n ^ m % 4611686018427377339 = r at *
      go_enter Try.func14, Try.ntmps14
      go_wp2_with (first
        | (go_at_call 18; with_reducible refine (k1 _).mono ?_; rintro e w1 ⟨rfl, hw⟩; rw [hw]; clear hw w1 k1)
        | (go_at_call 20; with_reducible refine (k2 _).mono ?_; rintro e w1 ⟨rfl, hw⟩; rw [hw]; clear hw w1)
        | (go_at_call 27; with_reducible refine (k3 _).mono ?_; rintro e w1 ⟨rfl, hw⟩; rw [hw]; clear hw w1))
      go_ret2
      exact ⟨rfl, rfl⟩
    · rw [expR_arg ha hk]
      rw [show scal k = false by simp [scal]; omega] at k2
      clear ha hk
      go_enter Try.func14, Try.ntmps14
      go_wp2_with (first
        | (go_at_call 18; with_reducible refine (k1 _).mono ?_; rintro e w1 ⟨rfl, hw⟩; rw [hw]; clear hw w1 k1)
        | (go_at_call 20; with_reducible refine (k2 _).mono ?_; rintro e w1 ⟨rfl, hw⟩; rw [hw]; clear hw w1))
      go_ret2
      exact ⟨rfl, rfl⟩
  · have k1 := fun w => hCheck_bad a ha w
    rw [expR_bad ha]
    clear ha
    go_enter Try.func14, Try.ntmps14
    go_wp2_with (go_at_call 18; with_reducible refine (k1 _).mono ?_; rintro e w1 ⟨rfl, hw⟩; rw [hw]; clear hw w1)
    go_ret2
    exact ⟨rfl, rfl⟩
theorem hBase_any (k : Int) (w : World) :
    Calls Try.prog 16 #[.int .i64 k] w fun e w' => e = .returned (.tuple #[.int .i64 (expR 4 k).1, .int .i64 (expR 4 k).2]) ∧ w' = w := by
  have k1 := fun w => hExp_any 4 k w
  obtain ⟨x, hx⟩ : ∃ x, (expR 4 k).1 = x := ⟨_, rfl⟩
  obtain ⟨y, hy⟩ : ∃ y, (expR 4 k).2 = y := ⟨_, rfl⟩
  rw [hx, hy] at k1 ⊢
  clear hx hy
  go_enter Try.func16, Try.ntmps16
  go_wp2_with (go_at_call 14; with_reducible refine (k1 _).mono ?_; rintro e w1 ⟨rfl, hw⟩; rw [hw]; clear hw w1)
  go_ret2
  exact ⟨rfl, rfl⟩
theorem square_any (n : Nat) (hn : n < 18446744073709551616) (w : World) :
    Calls Try.prog 31 #[.int .u64 n] w fun e w' => e = .returned (.int .i64 ((n * n % 4611686018427377339 : Nat) : Int)) ∧ w' = w := by
  have c1 : (n : Int).tmod 4611686018427377339 = ((n % 4611686018427377339 : Nat) : Int) := by rw [Int.tmod_eq_emod_of_nonneg (by omega)]; omega
  have hm : n % 4611686018427377339 < 4611686018427377339 := Nat.mod_lt _ (by decide)
  rw [Nat.mul_mod]
  generalize n % 4611686018427377339 = m at *
  have c2 := wrapU (m : Int) (by omega) (by omega)
  have c3 := wrapI (m : Int) (by omega) (by omega)
  have k1 := fun w => grprodP m m hm hm w
  generalize m * m % 4611686018427377339 = r at *
  go_enter Try.func31, Try.ntmps31
  go_wp2_with (go_at_call 25; with_reducible refine (k1 _).mono ?_; rintro e w1 ⟨rfl, hw⟩; rw [hw]; clear hw w1)
  go_ret
  exact ⟨rfl, rfl⟩
end Go.Proofs.Ytmeoicfeiamkmaa
