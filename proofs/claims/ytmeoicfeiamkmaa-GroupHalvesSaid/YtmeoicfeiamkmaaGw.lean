/-
  The walks of the laws of group whose arguments are numbers.
-/
import Derived.Test.YtmeoicfeiamkmaaGn
import Derived.OpenShut
namespace Go.Proofs.Ytmeoicfeiamkmaa
open Go.RowKit
set_option linter.unusedVariables false
set_option linter.unusedSimpArgs false

theorem gi64_of {a : Int} (h : (Lit.int .i64 a).wf = true) : -9223372036854775808 ≤ a ∧ a < 9223372036854775808 := by
  obtain ⟨h1, h2⟩ := bounds_i64 h
  exact ⟨h1, by omega⟩
theorem gu64_of {a : Int} (h : (Lit.int .u64 a).wf = true) : ∃ n : Nat, a = (n : Int) ∧ n < 18446744073709551616 := by
  obtain ⟨h1, h2⟩ := bounds_u64 h
  exact ⟨a.toNat, by omega, by omega⟩
theorem gnat_of {a : Int} (h : scal a = true) : ∃ n : Nat, a = (n : Int) ∧ n < 2305843009213688669 := ⟨a.toNat, by have := scal_of h; omega, by have := scal_of h; omega⟩

/-- The square of a number modulo P, and whether it is an element. -/
def sqP (n : Nat) : Nat := n * n % 4611686018427377339
theorem sqP_lt (n : Nat) : sqP n < 4611686018427377339 := Nat.mod_lt _ (by decide)
theorem sqP_el {n : Nat} (h : sqP n ≠ 0) : IsEl (sqP n : Nat) := by
  refine isEl_of (sqP_lt n) (El.sq fun h0 => h ?_)
  unfold sqP
  rw [Nat.mul_mod, h0]
theorem sqP_ne {n : Nat} (h : n % 4611686018427377339 ≠ 0) : sqP n ≠ 0 := fun h0 => by
  rcases eucP n n (Nat.dvd_of_mod_eq_zero h0) with h1 | h1 <;> exact h (Nat.mod_eq_zero_of_dvd h1)
theorem element_zero (n : Nat) (hn : n < 18446744073709551616) (h : sqP n = 0) (w : World) :
    Calls Try.prog 19 #[.int .u64 n] w fun e w' => e = .returned (.tuple #[.int .i64 0, .bool false]) ∧ w' = w := by
  have k1 := fun w => square_any n hn w
  rw [show n * n % 4611686018427377339 = 0 from h] at k1
  go_enter Try.func19, Try.ntmps19
  go_wp2_with (go_at_call 31; with_reducible refine (k1 _).mono ?_; rintro e w1 ⟨rfl, hw⟩; rw [hw]; clear hw w1)
  go_ret2
  exact ⟨rfl, rfl⟩
theorem element_ok (n : Nat) (hn : n < 18446744073709551616) (h : sqP n ≠ 0) (w : World) :
    Calls Try.prog 19 #[.int .u64 n] w fun e w' => e = .returned (.tuple #[.int .i64 (sqP n : Nat), .bool true]) ∧ w' = w := by
  have k1 := fun w => square_any n hn w
  rw [show n * n % 4611686018427377339 = sqP n from rfl] at k1
  generalize sqP n = x at *
  have f1 : ((x : Int) != 0) = true := by simp; omega
  go_enter Try.func19, Try.ntmps19
  go_wp2_with (go_at_call 31; with_reducible refine (k1 _).mono ?_; rintro e w1 ⟨rfl, hw⟩; rw [hw]; clear hw w1)
  go_ret2
  exact ⟨rfl, rfl⟩

set_option maxRecDepth 100000 in
set_option maxHeartbeats 4000000 in
theorem spec_walk (a b k : Int) (w : World) :
    Calls Try.prog 3 #[.int .i64 a, .int .i64 b, .int .i64 k] w fun e w' => e = .returned (.bool true) ∧ Below w.heap.size w w' := by
  have k1 := fun w => gMul_any a b w
  have k2 := fun w => hMul_any a b w
  have k3 := fun w => gInv_any a w
  have k4 := fun w => hInv_any a w
  have k5 := fun w => gExp_any a k w
  have k6 := fun w => hExp_any a k w
  have k7 := fun w => gBase_any k w
  have k8 := fun w => hBase_any k w
  have k9 := fun w => gCheck_any a w
  have k10 := fun w => hCheck_any a w
  generalize (mulR a b).1 = m1 at *
  generalize (mulR a b).2 = m2 at *
  generalize (invR a).1 = m3 at *
  generalize (invR a).2 = m4 at *
  generalize (expR a k).1 = m5 at *
  generalize (expR a k).2 = m6 at *
  generalize (expR 4 k).1 = m7 at *
  generalize (expR 4 k).2 = m8 at *
  generalize chkR a = m9 at *
  have HB := Below.refl w.heap.size w
  go_enter Try.func3, Try.ntmps3
  go_wp2_with (first
    | (go_at_call 8; with_reducible refine (gsane_any _).mono ?_; rintro e w1 ⟨rfl, hb⟩; replace HB := belowNext HB hb; clear hb)
    | (go_at_call 9; with_reducible refine (k1 _).mono ?_; rintro e w1 ⟨rfl, hb⟩; replace HB := belowNext HB hb; clear hb)
    | (go_at_call 10; with_reducible refine (k2 _).mono ?_; rintro e w1 ⟨rfl, hw⟩; rw [hw]; clear hw w1)
    | (go_at_call 11; with_reducible refine (k3 _).mono ?_; rintro e w1 ⟨rfl, hb⟩; replace HB := belowNext HB hb; clear hb)
    | (go_at_call 12; with_reducible refine (k4 _).mono ?_; rintro e w1 ⟨rfl, hw⟩; rw [hw]; clear hw w1)
    | (go_at_call 13; with_reducible refine (k5 _).mono ?_; rintro e w1 ⟨rfl, hb⟩; replace HB := belowNext HB hb; clear hb)
    | (go_at_call 14; with_reducible refine (k6 _).mono ?_; rintro e w1 ⟨rfl, hw⟩; rw [hw]; clear hw w1)
    | (go_at_call 15; with_reducible refine (k7 _).mono ?_; rintro e w1 ⟨rfl, hb⟩; replace HB := belowNext HB hb; clear hb)
    | (go_at_call 16; with_reducible refine (k8 _).mono ?_; rintro e w1 ⟨rfl, hw⟩; rw [hw]; clear hw w1)
    | (go_at_call 17; with_reducible refine (k9 _).mono ?_; rintro e w1 ⟨rfl, hb⟩; replace HB := belowNext HB hb; clear hb)
    | (go_at_call 18; with_reducible refine (k10 _).mono ?_; rintro e w1 ⟨rfl, hw⟩; rw [hw]; clear hw w1))
  go_ret
  exact ⟨rfl, HB⟩

set_option maxRecDepth 100000 in
set_option maxHeartbeats 4000000 in
theorem axioms_walk (m n o : Nat) (hm : m < 18446744073709551616) (hn : n < 18446744073709551616) (ho : o < 18446744073709551616) (w : World) :
    Calls Try.prog 4 #[.int .u64 m, .int .u64 n, .int .u64 o] w fun e w' => e = .returned (.bool true) ∧ Below w.heap.size w w' := by
  have e1 : ∀ w, Calls Try.prog 19 #[.int .u64 m] w fun e w' => e = .returned (.tuple #[.int .i64 (sqP m : Nat), .bool (decide (sqP m ≠ 0))]) ∧ w' = w := fun w => by
    by_cases h : sqP m = 0
    · rw [decide_eq_false (by simpa using h), h]; exact element_zero m hm h w
    · rw [decide_eq_true h]; exact element_ok m hm h w
  have e2 : ∀ w, Calls Try.prog 19 #[.int .u64 n] w fun e w' => e = .returned (.tuple #[.int .i64 (sqP n : Nat), .bool (decide (sqP n ≠ 0))]) ∧ w' = w := fun w => by
    by_cases h : sqP n = 0
    · rw [decide_eq_false (by simpa using h), h]; exact element_zero n hn h w
    · rw [decide_eq_true h]; exact element_ok n hn h w
  have e3 : ∀ w, Calls Try.prog 19 #[.int .u64 o] w fun e w' => e = .returned (.tuple #[.int .i64 (sqP o : Nat), .bool (decide (sqP o ≠ 0))]) ∧ w' = w := fun w => by
    by_cases h : sqP o = 0
    · rw [decide_eq_false (by simpa using h), h]; exact element_zero o ho h w
    · rw [decide_eq_true h]; exact element_ok o ho h w
  have ha := @sqP_el m
  have hb := @sqP_el n
  have hc := @sqP_el o
  generalize sqP m = A at *
  generalize sqP n = B at *
  generalize sqP o = C at *
  by_cases h1 : A = 0
  · rw [decide_eq_false (by simpa using h1)] at e1
    generalize decide (B ≠ 0) = d2 at *
    generalize decide (C ≠ 0) = d3 at *
    clear ha hb hc h1
    have HB := Below.refl w.heap.size w
    go_enter Try.func4, Try.ntmps4
    go_wp2_with (first
      | (go_at_call 8; with_reducible refine (gsane_any _).mono ?_; rintro e w1 ⟨rfl, hb⟩; replace HB := belowNext HB hb; clear hb)
      | (go_at_call 19; with_reducible refine (e1 _).mono ?_; rintro e w1 ⟨rfl, hw⟩; rw [hw]; clear hw w1)
      | (go_at_call 19; with_reducible refine (e2 _).mono ?_; rintro e w1 ⟨rfl, hw⟩; rw [hw]; clear hw w1)
      | (go_at_call 19; with_reducible refine (e3 _).mono ?_; rintro e w1 ⟨rfl, hw⟩; rw [hw]; clear hw w1))
    go_ret
    exact ⟨rfl, HB⟩
  by_cases h2 : B = 0
  · rw [decide_eq_true h1] at e1
    rw [decide_eq_false (by simpa using h2)] at e2
    generalize decide (C ≠ 0) = d3 at *
    clear ha hb hc h1 h2
    have HB := Below.refl w.heap.size w
    go_enter Try.func4, Try.ntmps4
    go_wp2_with (first
      | (go_at_call 8; with_reducible refine (gsane_any _).mono ?_; rintro e w1 ⟨rfl, hb⟩; replace HB := belowNext HB hb; clear hb)
      | (go_at_call 19; with_reducible refine (e1 _).mono ?_; rintro e w1 ⟨rfl, hw⟩; rw [hw]; clear hw w1)
      | (go_at_call 19; with_reducible refine (e2 _).mono ?_; rintro e w1 ⟨rfl, hw⟩; rw [hw]; clear hw w1)
      | (go_at_call 19; with_reducible refine (e3 _).mono ?_; rintro e w1 ⟨rfl, hw⟩; rw [hw]; clear hw w1))
    go_ret
    exact ⟨rfl, HB⟩
  by_cases h3 : C = 0
  · rw [decide_eq_true h1] at e1
    rw [decide_eq_true h2] at e2
    rw [decide_eq_false (by simpa using h3)] at e3
    clear ha hb hc h1 h2 h3
    have HB := Below.refl w.heap.size w
    go_enter Try.func4, Try.ntmps4
    go_wp2_with (first
      | (go_at_call 8; with_reducible refine (gsane_any _).mono ?_; rintro e w1 ⟨rfl, hb⟩; replace HB := belowNext HB hb; clear hb)
      | (go_at_call 19; with_reducible refine (e1 _).mono ?_; rintro e w1 ⟨rfl, hw⟩; rw [hw]; clear hw w1)
      | (go_at_call 19; with_reducible refine (e2 _).mono ?_; rintro e w1 ⟨rfl, hw⟩; rw [hw]; clear hw w1)
      | (go_at_call 19; with_reducible refine (e3 _).mono ?_; rintro e w1 ⟨rfl, hw⟩; rw [hw]; clear hw w1))
    go_ret
    exact ⟨rfl, HB⟩
  rw [decide_eq_true h1] at e1
  rw [decide_eq_true h2] at e2
  rw [decide_eq_true h3] at e3
  have ha := ha h1
  have hb := hb h2
  have hc := hc h3
  have elm : ∀ {x y : Nat}, IsEl x → IsEl y → IsEl (x * y % 4611686018427377339 : Nat) := fun hx hy => isEl_of (Nat.mod_lt _ (by decide)) (El.mul hx.2.2 hy.2.2)
  have hi : IsEl (A ^ (oQ - 1) % 4611686018427377339 : Nat) := isEl_of (Nat.mod_lt _ (by decide)) (El.pow ha.2.2 _)
  have k1 := fun w => gMul_ok A B ha hb w
  have k2 := fun w => gMul_ok B A hb ha w
  have k3 := fun w => gMul_ok B C hb hc w
  have k4 := fun w => gMul_ok _ C (elm ha hb) hc w
  have k5 := fun w => gMul_ok A _ ha (elm hb hc) w
  have k6 : ∀ w, Calls Try.prog 9 #[.int .i64 A, .int .i64 1] w fun e w' => e = .returned (.tuple #[.int .i64 ((A * 1 % 4611686018427377339 : Nat) : Int), .int .i64 0]) ∧ Below w.heap.size w w' := fun w => gMul_ok A 1 ha el1 w
  have k7 := fun w => gInv_ok A ha w
  have k8 := fun w => gMul_ok A _ ha hi w
  have k9 := fun w => gCheck_ok _ (elm ha hb) w
  have k10 := fun w => gCheck_ok _ hi w
  rw [Nat.mul_comm B A] at k2
  rw [Nat.mul_one, Nat.mod_eq_of_lt (by have := ha.2.1; omega)] at k6
  rw [El.inv (show El A from ha.2.2)] at k8
  rw [Nat.mod_mul_mod] at k4
  rw [Nat.mul_mod_mod, ← Nat.mul_assoc] at k5
  have hab := elm ha hb
  have f1 : decide ((1 : Int) ≤ ((A * B % 4611686018427377339 : Nat) : Int)) = true := decide_eq_true hab.1
  have f2 : decide (((A * B % 4611686018427377339 : Nat) : Int) < 4611686018427377339) = true := decide_eq_true hab.2.1
  clear ha hb hc elm hi hab h1 h2 h3
  generalize A * B * C % 4611686018427377339 = ABC at *
  generalize A * B % 4611686018427377339 = AB at *
  generalize B * C % 4611686018427377339 = BC at *
  generalize A ^ (oQ - 1) % 4611686018427377339 = I at *
  have HB := Below.refl w.heap.size w
  go_enter Try.func4, Try.ntmps4
  go_wp2_with (first
    | (go_at_call 8; with_reducible refine (gsane_any _).mono ?_; rintro e w1 ⟨rfl, hb⟩; replace HB := belowNext HB hb; clear hb)
    | (go_at_call 19; with_reducible refine (e1 _).mono ?_; rintro e w1 ⟨rfl, hw⟩; rw [hw]; clear hw w1)
    | (go_at_call 19; with_reducible refine (e2 _).mono ?_; rintro e w1 ⟨rfl, hw⟩; rw [hw]; clear hw w1)
    | (go_at_call 19; with_reducible refine (e3 _).mono ?_; rintro e w1 ⟨rfl, hw⟩; rw [hw]; clear hw w1)
    | (go_at_call 9; with_reducible refine (k1 _).mono ?_; rintro e w1 ⟨rfl, hb⟩; replace HB := belowNext HB hb; clear hb)
    | (go_at_call 9; with_reducible refine (k2 _).mono ?_; rintro e w1 ⟨rfl, hb⟩; replace HB := belowNext HB hb; clear hb)
    | (go_at_call 9; with_reducible refine (k3 _).mono ?_; rintro e w1 ⟨rfl, hb⟩; replace HB := belowNext HB hb; clear hb)
    | (go_at_call 9; with_reducible refine (k4 _).mono ?_; rintro e w1 ⟨rfl, hb⟩; replace HB := belowNext HB hb; clear hb)
    | (go_at_call 9; with_reducible refine (k5 _).mono ?_; rintro e w1 ⟨rfl, hb⟩; replace HB := belowNext HB hb; clear hb)
    | (go_at_call 9; with_reducible refine (k6 _).mono ?_; rintro e w1 ⟨rfl, hb⟩; replace HB := belowNext HB hb; clear hb)
    | (go_at_call 9; with_reducible refine (k8 _).mono ?_; rintro e w1 ⟨rfl, hb⟩; replace HB := belowNext HB hb; clear hb)
    | (go_at_call 11; with_reducible refine (k7 _).mono ?_; rintro e w1 ⟨rfl, hb⟩; replace HB := belowNext HB hb; clear hb)
    | (go_at_call 17; with_reducible refine (k9 _).mono ?_; rintro e w1 ⟨rfl, hb⟩; replace HB := belowNext HB hb; clear hb)
    | (go_at_call 17; with_reducible refine (k10 _).mono ?_; rintro e w1 ⟨rfl, hb⟩; replace HB := belowNext HB hb; clear hb))
  go_ret
  exact ⟨rfl, HB⟩

set_option maxRecDepth 100000 in
set_option maxHeartbeats 4000000 in
theorem gpowers_walk (m : Nat) (j k : Int) (hm : m < 18446744073709551616) (w : World) :
    Calls Try.prog 5 #[.int .u64 m, .int .i64 j, .int .i64 k] w fun e w' => e = .returned (.bool true) ∧ Below w.heap.size w w' := by
  have s1 := fun w => gScalar_any j w
  have s2 := fun w => gScalar_any k w
  by_cases h1 : sqP m = 0
  · have e1 := fun w => element_zero m hm h1 w
    clear h1
    generalize scal j = b1 at *
    generalize scal k = b2 at *
    have HB := Below.refl w.heap.size w
    go_enter Try.func5, Try.ntmps5
    go_wp2_with (first
      | (go_at_call 8; with_reducible refine (gsane_any _).mono ?_; rintro e w1 ⟨rfl, hb⟩; replace HB := belowNext HB hb; clear hb)
      | (go_at_call 19; with_reducible refine (e1 _).mono ?_; rintro e w1 ⟨rfl, hw⟩; rw [hw]; clear hw w1))
    go_ret
    exact ⟨rfl, HB⟩
  have e1 := fun w => element_ok m hm h1 w
  have ha := sqP_el h1
  generalize sqP m = A at *
  clear h1
  by_cases hj : scal j = true
  · by_cases hk : scal k = true
    · rw [hj] at s1
      rw [hk] at s2
      obtain ⟨j, rfl, hj'⟩ := gnat_of hj
      obtain ⟨k, rfl, hk'⟩ := gnat_of hk
      replace hj := hj'
      replace hk := hk'
      clear hj' hk'
      have hA := ha.2.1
      have E : El A := ha.2.2
      have hx : IsEl (A ^ j % 4611686018427377339 : Nat) := isEl_of (Nat.mod_lt _ (by decide)) (El.pow E _)
      have hy : IsEl (A ^ k % 4611686018427377339 : Nat) := isEl_of (Nat.mod_lt _ (by decide)) (El.pow E _)
      have k1 := fun w => gExp_ok A j ha hj w
      have k2 := fun w => gExp_ok A k ha hk w
      have k3 := fun w => fAdd j k hj hk w
      have k4 := fun w => fMul j k hj hk w
      have k5 := fun w => gMul_ok _ _ hx hy w
      have k6 := fun w => gExp_ok A ((j + k) % 2305843009213688669) ha (Nat.mod_lt _ (by decide)) w
      have k7 := fun w => gExp_ok A (j * k % 2305843009213688669) ha (Nat.mod_lt _ (by decide)) w
      have k8 := fun w => gExp_ok _ k hx hk w
      have k9 : ∀ w, Calls Try.prog 13 #[.int .i64 A, .int .i64 0] w fun e w' => e = .returned (.tuple #[.int .i64 1, .int .i64 0]) ∧ Below w.heap.size w w' := fun w => gExp_ok A 0 ha (by decide) w
      have k10 : ∀ w, Calls Try.prog 13 #[.int .i64 A, .int .i64 1] w fun e w' => e = .returned (.tuple #[.int .i64 ((A ^ 1 % 4611686018427377339 : Nat) : Int), .int .i64 0]) ∧ Below w.heap.size w w' := fun w => gExp_ok A 1 ha (by decide) w
      have k12 := fun w => gInv_ok A ha w
      have k11 : ∀ w, Calls Try.prog 13 #[.int .i64 A, .int .i64 2305843009213688668] w fun e w' => e = .returned (.tuple #[.int .i64 ((A ^ (oQ - 1) % 4611686018427377339 : Nat) : Int), .int .i64 0]) ∧ Below w.heap.size w w' := by
        intro w
        obtain ⟨o, ho⟩ : ∃ o, oQ - 1 = o := ⟨_, rfl⟩
        have h := gExp_ok A 2305843009213688668 ha (by decide) w
        rw [show 2305843009213688668 = o from ho] at h
        have e : ((o : Nat) : Int) = 2305843009213688668 := by rw [← ho]; rfl
        rw [e] at h
        rw [ho]
        exact h
      rw [E.add j k] at k5
      rw [E.times j k] at k8
      rw [← oQ_eq] at k3
      rw [← oQ_eq] at k4
      rw [← oQ_eq] at k6
      rw [← oQ_eq] at k7
      rw [Nat.pow_one, Nat.mod_eq_of_lt (by omega)] at k10
      clear hx hy E ha hj hk hA
      generalize (j + k) % oQ = sum at *
      generalize j * k % oQ = prod at *
      generalize A ^ j % 4611686018427377339 = X at *
      generalize A ^ k % 4611686018427377339 = Y at *
      generalize A ^ sum % 4611686018427377339 = XY at *
      generalize A ^ prod % 4611686018427377339 = Z at *
      generalize A ^ (oQ - 1) % 4611686018427377339 = I at *
      have HB := Below.refl w.heap.size w
      go_enter Try.func5, Try.ntmps5
      go_wp2_with (first
        | (go_at_call 8; with_reducible refine (gsane_any _).mono ?_; rintro e w1 ⟨rfl, hb⟩; replace HB := belowNext HB hb; clear hb)
        | (go_at_call 19; with_reducible refine (e1 _).mono ?_; rintro e w1 ⟨rfl, hw⟩; rw [hw]; clear hw w1)
        | (go_at_call 20; with_reducible refine (s1 _).mono ?_; rintro e w1 ⟨rfl, hw⟩; rw [hw]; clear hw w1)
        | (go_at_call 20; with_reducible refine (s2 _).mono ?_; rintro e w1 ⟨rfl, hw⟩; rw [hw]; clear hw w1)
        | (go_at_call 13; with_reducible refine (k1 _).mono ?_; rintro e w1 ⟨rfl, hb⟩; replace HB := belowNext HB hb; clear hb)
        | (go_at_call 13; with_reducible refine (k2 _).mono ?_; rintro e w1 ⟨rfl, hb⟩; replace HB := belowNext HB hb; clear hb)
        | (go_at_call 13; with_reducible refine (k6 _).mono ?_; rintro e w1 ⟨rfl, hb⟩; replace HB := belowNext HB hb; clear hb)
        | (go_at_call 13; with_reducible refine (k7 _).mono ?_; rintro e w1 ⟨rfl, hb⟩; replace HB := belowNext HB hb; clear hb)
        | (go_at_call 13; with_reducible refine (k8 _).mono ?_; rintro e w1 ⟨rfl, hb⟩; replace HB := belowNext HB hb; clear hb)
        | (go_at_call 13; with_reducible refine (k9 _).mono ?_; rintro e w1 ⟨rfl, hb⟩; replace HB := belowNext HB hb; clear hb)
        | (go_at_call 13; with_reducible refine (k10 _).mono ?_; rintro e w1 ⟨rfl, hb⟩; replace HB := belowNext HB hb; clear hb)
        | (go_at_call 13; with_reducible refine (k11 _).mono ?_; rintro e w1 ⟨rfl, hb⟩; replace HB := belowNext HB hb; clear hb)
        | (go_at_call 21; with_reducible refine (k3 _).mono ?_; rintro e w1 ⟨rfl, hb⟩; replace HB := belowNext HB hb; clear hb)
        | (go_at_call 22; with_reducible refine (k4 _).mono ?_; rintro e w1 ⟨rfl, hb⟩; replace HB := belowNext HB hb; clear hb)
        | (go_at_call 9; with_reducible refine (k5 _).mono ?_; rintro e w1 ⟨rfl, hb⟩; replace HB := belowNext HB hb; clear hb)
        | (go_at_call 11; with_reducible refine (k12 _).mono ?_; rintro e w1 ⟨rfl, hb⟩; replace HB := belowNext HB hb; clear hb))
      go_ret
      exact ⟨rfl, HB⟩
    · rw [hj] at s1
      rw [show scal k = false by simpa using hk] at s2
      clear ha hj hk
      have HB := Below.refl w.heap.size w
      go_enter Try.func5, Try.ntmps5
      go_wp2_with (first
        | (go_at_call 8; with_reducible refine (gsane_any _).mono ?_; rintro e w1 ⟨rfl, hb⟩; replace HB := belowNext HB hb; clear hb)
        | (go_at_call 19; with_reducible refine (e1 _).mono ?_; rintro e w1 ⟨rfl, hw⟩; rw [hw]; clear hw w1)
        | (go_at_call 20; with_reducible refine (s1 _).mono ?_; rintro e w1 ⟨rfl, hw⟩; rw [hw]; clear hw w1)
        | (go_at_call 20; with_reducible refine (s2 _).mono ?_; rintro e w1 ⟨rfl, hw⟩; rw [hw]; clear hw w1))
      go_ret
      exact ⟨rfl, HB⟩
  · rw [show scal j = false by simpa using hj] at s1
    clear ha hj
    generalize scal k = b2 at *
    have HB := Below.refl w.heap.size w
    go_enter Try.func5, Try.ntmps5
    go_wp2_with (first
      | (go_at_call 8; with_reducible refine (gsane_any _).mono ?_; rintro e w1 ⟨rfl, hb⟩; replace HB := belowNext HB hb; clear hb)
      | (go_at_call 19; with_reducible refine (e1 _).mono ?_; rintro e w1 ⟨rfl, hw⟩; rw [hw]; clear hw w1)
      | (go_at_call 20; with_reducible refine (s1 _).mono ?_; rintro e w1 ⟨rfl, hw⟩; rw [hw]; clear hw w1))
    go_ret
    exact ⟨rfl, HB⟩

theorem mulInvG {a : Nat} (h : a ≠ 0) (ha : a < 2305843009213688669) : a * (a ^ (kQ - 1) % 2305843009213688669) % oQ = 1 := by
  rw [oQ_eq, Nat.mul_mod_mod, Nat.mul_comm, ← Nat.pow_succ, show (kQ - 1).succ = kQ from by unfold kQ; rfl]
  exact fermatQ a (by rw [Nat.mod_eq_of_lt ha]; exact h)

set_option maxRecDepth 100000 in
set_option maxHeartbeats 4000000 in
theorem roots_walk (m n : Nat) (k : Int) (hm : m < 18446744073709551616) (hn : n < 18446744073709551616) (w : World) :
    Calls Try.prog 6 #[.int .u64 m, .int .u64 n, .int .i64 k] w fun e w' => e = .returned (.bool true) ∧ Below w.heap.size w w' := by
  have s1 := fun w => gScalar_any k w
  have e1 : ∀ w, Calls Try.prog 19 #[.int .u64 m] w fun e w' => e = .returned (.tuple #[.int .i64 (sqP m : Nat), .bool (decide (sqP m ≠ 0))]) ∧ w' = w := fun w => by
    by_cases h : sqP m = 0
    · rw [decide_eq_false (by simpa using h), h]; exact element_zero m hm h w
    · rw [decide_eq_true h]; exact element_ok m hm h w
  have e2 : ∀ w, Calls Try.prog 19 #[.int .u64 n] w fun e w' => e = .returned (.tuple #[.int .i64 (sqP n : Nat), .bool (decide (sqP n ≠ 0))]) ∧ w' = w := fun w => by
    by_cases h : sqP n = 0
    · rw [decide_eq_false (by simpa using h), h]; exact element_zero n hn h w
    · rw [decide_eq_true h]; exact element_ok n hn h w
  have ha := @sqP_el m
  have hb := @sqP_el n
  generalize sqP m = A at *
  generalize sqP n = B at *
  by_cases h1 : A = 0
  · rw [decide_eq_false (by simpa using h1)] at e1
    generalize decide (B ≠ 0) = d2 at *
    generalize scal k = b1 at *
    clear ha hb h1
    have HB := Below.refl w.heap.size w
    go_enter Try.func6, Try.ntmps6
    go_wp2_with (first
      | (go_at_call 8; with_reducible refine (gsane_any _).mono ?_; rintro e w1 ⟨rfl, hb⟩; replace HB := belowNext HB hb; clear hb)
      | (go_at_call 19; with_reducible refine (e1 _).mono ?_; rintro e w1 ⟨rfl, hw⟩; rw [hw]; clear hw w1)
      | (go_at_call 19; with_reducible refine (e2 _).mono ?_; rintro e w1 ⟨rfl, hw⟩; rw [hw]; clear hw w1))
    go_ret
    exact ⟨rfl, HB⟩
  rw [decide_eq_true h1] at e1
  by_cases h2 : B = 0
  · rw [decide_eq_false (by simpa using h2)] at e2
    generalize scal k = b1 at *
    clear ha hb h1 h2
    have HB := Below.refl w.heap.size w
    go_enter Try.func6, Try.ntmps6
    go_wp2_with (first
      | (go_at_call 8; with_reducible refine (gsane_any _).mono ?_; rintro e w1 ⟨rfl, hb⟩; replace HB := belowNext HB hb; clear hb)
      | (go_at_call 19; with_reducible refine (e1 _).mono ?_; rintro e w1 ⟨rfl, hw⟩; rw [hw]; clear hw w1)
      | (go_at_call 19; with_reducible refine (e2 _).mono ?_; rintro e w1 ⟨rfl, hw⟩; rw [hw]; clear hw w1))
    go_ret
    exact ⟨rfl, HB⟩
  rw [decide_eq_true h2] at e2
  have ha := ha h1
  have hb := hb h2
  clear h1 h2
  by_cases hk : scal k = true
  · rw [hk] at s1
    obtain ⟨k, rfl, hk'⟩ := gnat_of hk
    replace hk := hk'
    clear hk'
    by_cases h0 : k = 0
    · subst h0
      clear ha hb hk
      rw [show ((0 : Nat) : Int) = 0 from rfl] at s1 ⊢
      have HB := Below.refl w.heap.size w
      go_enter Try.func6, Try.ntmps6
      go_wp2_with (first
        | (go_at_call 8; with_reducible refine (gsane_any _).mono ?_; rintro e w1 ⟨rfl, hb⟩; replace HB := belowNext HB hb; clear hb)
        | (go_at_call 19; with_reducible refine (e1 _).mono ?_; rintro e w1 ⟨rfl, hw⟩; rw [hw]; clear hw w1)
        | (go_at_call 19; with_reducible refine (e2 _).mono ?_; rintro e w1 ⟨rfl, hw⟩; rw [hw]; clear hw w1)
        | (go_at_call 20; with_reducible refine (s1 _).mono ?_; rintro e w1 ⟨rfl, hw⟩; rw [hw]; clear hw w1))
      go_ret
      exact ⟨rfl, HB⟩
    have f1 : ((k : Int) == 0) = false := by simp; omega
    have hinv := mulInvG h0 hk
    have hil : k ^ (kQ - 1) % 2305843009213688669 < 2305843009213688669 := Nat.mod_lt _ (by decide)
    have k1 := fun w => fInv k h0 hk w
    generalize k ^ (kQ - 1) % 2305843009213688669 = i at *
    have EA : El A := ha.2.2
    have EB : El B := hb.2.2
    have hA : A < 4611686018427377339 := by have := ha.2.1; omega
    have hB : B < 4611686018427377339 := by have := hb.2.1; omega
    have hc : IsEl (A ^ k % 4611686018427377339 : Nat) := isEl_of (Nat.mod_lt _ (by decide)) (El.pow EA _)
    have k2 := fun w => gExp_ok A k ha hk w
    have k3 := fun w => gExp_ok _ i hc hil w
    have k4 := fun w => gExp_ok B k hb hk w
    rw [EA.root hA hinv] at k3
    have hsame : A ^ k % 4611686018427377339 = B ^ k % 4611686018427377339 → A = B := fun h => by
      have h1 := EA.root hA hinv
      have h2 := EB.root hB hinv
      rw [h] at h1
      exact h1.symm.trans h2
    by_cases hab : A = B
    · subst hab
      clear hsame hc EA EB hA hB ha hb hinv
      generalize A ^ k % 4611686018427377339 = X at *
      have HB := Below.refl w.heap.size w
      go_enter Try.func6, Try.ntmps6
      go_wp2_with (first
        | (go_at_call 8; with_reducible refine (gsane_any _).mono ?_; rintro e w1 ⟨rfl, hb⟩; replace HB := belowNext HB hb; clear hb)
        | (go_at_call 19; with_reducible refine (e1 _).mono ?_; rintro e w1 ⟨rfl, hw⟩; rw [hw]; clear hw w1)
        | (go_at_call 19; with_reducible refine (e2 _).mono ?_; rintro e w1 ⟨rfl, hw⟩; rw [hw]; clear hw w1)
        | (go_at_call 20; with_reducible refine (s1 _).mono ?_; rintro e w1 ⟨rfl, hw⟩; rw [hw]; clear hw w1)
        | (go_at_call 23; with_reducible refine (k1 _).mono ?_; rintro e w1 ⟨rfl, hb⟩; replace HB := belowNext HB hb; clear hb)
        | (go_at_call 13; with_reducible refine (k2 _).mono ?_; rintro e w1 ⟨rfl, hb⟩; replace HB := belowNext HB hb; clear hb)
        | (go_at_call 13; with_reducible refine (k3 _).mono ?_; rintro e w1 ⟨rfl, hb⟩; replace HB := belowNext HB hb; clear hb)
        | (go_at_call 13; with_reducible refine (k4 _).mono ?_; rintro e w1 ⟨rfl, hb⟩; replace HB := belowNext HB hb; clear hb))
      go_ret
      exact ⟨rfl, HB⟩
    · have f2 : (((A ^ k % 4611686018427377339 : Nat) : Int) == ((B ^ k % 4611686018427377339 : Nat) : Int)) = false := by
        simp only [beq_eq_false_iff_ne, ne_eq, Int.ofNat_inj]
        exact fun h => hab (hsame h)
      have f3 : ((A : Int) == (B : Int)) = false := by simp only [beq_eq_false_iff_ne, ne_eq, Int.ofNat_inj]; exact hab
      clear hsame hc EA EB hA hB ha hb hinv
      generalize A ^ k % 4611686018427377339 = X at *
      generalize B ^ k % 4611686018427377339 = Y at *
      have HB := Below.refl w.heap.size w
      go_enter Try.func6, Try.ntmps6
      go_wp2_with (first
        | (go_at_call 8; with_reducible refine (gsane_any _).mono ?_; rintro e w1 ⟨rfl, hb⟩; replace HB := belowNext HB hb; clear hb)
        | (go_at_call 19; with_reducible refine (e1 _).mono ?_; rintro e w1 ⟨rfl, hw⟩; rw [hw]; clear hw w1)
        | (go_at_call 19; with_reducible refine (e2 _).mono ?_; rintro e w1 ⟨rfl, hw⟩; rw [hw]; clear hw w1)
        | (go_at_call 20; with_reducible refine (s1 _).mono ?_; rintro e w1 ⟨rfl, hw⟩; rw [hw]; clear hw w1)
        | (go_at_call 23; with_reducible refine (k1 _).mono ?_; rintro e w1 ⟨rfl, hb⟩; replace HB := belowNext HB hb; clear hb)
        | (go_at_call 13; with_reducible refine (k2 _).mono ?_; rintro e w1 ⟨rfl, hb⟩; replace HB := belowNext HB hb; clear hb)
        | (go_at_call 13; with_reducible refine (k3 _).mono ?_; rintro e w1 ⟨rfl, hb⟩; replace HB := belowNext HB hb; clear hb)
        | (go_at_call 13; with_reducible refine (k4 _).mono ?_; rintro e w1 ⟨rfl, hb⟩; replace HB := belowNext HB hb; clear hb))
      go_ret
      exact ⟨rfl, HB⟩
  · rw [show scal k = false by simpa using hk] at s1
    clear ha hb hk
    have HB := Below.refl w.heap.size w
    go_enter Try.func6, Try.ntmps6
    go_wp2_with (first
      | (go_at_call 8; with_reducible refine (gsane_any _).mono ?_; rintro e w1 ⟨rfl, hb⟩; replace HB := belowNext HB hb; clear hb)
      | (go_at_call 19; with_reducible refine (e1 _).mono ?_; rintro e w1 ⟨rfl, hw⟩; rw [hw]; clear hw w1)
      | (go_at_call 19; with_reducible refine (e2 _).mono ?_; rintro e w1 ⟨rfl, hw⟩; rw [hw]; clear hw w1)
      | (go_at_call 20; with_reducible refine (s1 _).mono ?_; rintro e w1 ⟨rfl, hw⟩; rw [hw]; clear hw w1))
    go_ret
    exact ⟨rfl, HB⟩

set_option maxRecDepth 100000 in
set_option maxHeartbeats 4000000 in
theorem ghalves_walk (n : Nat) (hn : n < 18446744073709551616) (w : World) :
    Calls Try.prog 7 #[.int .u64 n] w fun e w' => e = .returned (.bool true) ∧ Below w.heap.size w w' := by
  have c1 : (n : Int).tmod 4611686018427377339 = ((n % 4611686018427377339 : Nat) : Int) := by rw [Int.tmod_eq_emod_of_nonneg (by omega)]; omega
  have hm : n % 4611686018427377339 < 4611686018427377339 := Nat.mod_lt _ (by decide)
  by_cases h0 : n % 4611686018427377339 = 0
  · rw [h0] at c1
    have k1 := fun w => gCheck_bad 0 (badL_no 0 (by decide)) w
    clear hm h0
    have HB := Below.refl w.heap.size w
    go_enter Try.func7, Try.ntmps7
    go_wp2_with (first
      | (go_at_call 8; with_reducible refine (gsane_any _).mono ?_; rintro e w1 ⟨rfl, hb⟩; replace HB := belowNext HB hb; clear hb)
      | (go_at_call 17; with_reducible refine (k1 _).mono ?_; rintro e w1 ⟨rfl, hb⟩; replace HB := belowNext HB hb; clear hb))
    go_ret
    exact ⟨rfl, HB⟩
  have e1 := fun w => element_ok n hn (sqP_ne h0) w
  have hs := sqP_el (sqP_ne h0)
  have k1 := fun w => gCheck_ok _ hs w
  clear hs
  generalize sqP n = s at *
  generalize n % 4611686018427377339 = a at *
  have c2 := wrapU (a : Int) (by omega) (by omega)
  have c3 := wrapI (a : Int) (by omega) (by omega)
  have c4 := wrapI (4611686018427377339 - (a : Int)) (by omega) (by omega)
  have f1 : ((a : Int) == 0) = false := by simp; omega
  have hh := El.half (a := a) (by omega) hm
  have e2 : (4611686018427377339 - (a : Int)) = ((4611686018427377339 - a : Nat) : Int) := by omega
  by_cases hE : El a
  · have k2 := fun w => gCheck_ok a (isEl_of hm hE) w
    have k3 := fun w => gCheck_bad (4611686018427377339 - (a : Int)) (fun h => by
      have h2 := h.2.2
      rw [e2, Int.toNat_natCast] at h2
      exact hh.1 h2 hE) w
    clear hh e2 hE h0
    have HB := Below.refl w.heap.size w
    go_enter Try.func7, Try.ntmps7
    go_wp2_with (first
      | (go_at_call 8; with_reducible refine (gsane_any _).mono ?_; rintro e w1 ⟨rfl, hb⟩; replace HB := belowNext HB hb; clear hb)
      | (go_at_call 19; with_reducible refine (e1 _).mono ?_; rintro e w1 ⟨rfl, hw⟩; rw [hw]; clear hw w1)
      | (go_at_call 17; with_reducible refine (k1 _).mono ?_; rintro e w1 ⟨rfl, hb⟩; replace HB := belowNext HB hb; clear hb)
      | (go_at_call 17; with_reducible refine (k2 _).mono ?_; rintro e w1 ⟨rfl, hb⟩; replace HB := belowNext HB hb; clear hb)
      | (go_at_call 17; with_reducible refine (k3 _).mono ?_; rintro e w1 ⟨rfl, hb⟩; replace HB := belowNext HB hb; clear hb))
    go_ret
    exact ⟨rfl, HB⟩
  · have k2 := fun w => gCheck_bad a (fun h => hE (by have h2 := h.2.2; rwa [Int.toNat_natCast] at h2)) w
    have k3 := fun w => gCheck_ok (4611686018427377339 - (a : Int)) (by rw [e2]; exact isEl_of (by omega) (hh.2 hE)) w
    clear hh e2 hE h0
    have HB := Below.refl w.heap.size w
    go_enter Try.func7, Try.ntmps7
    go_wp2_with (first
      | (go_at_call 8; with_reducible refine (gsane_any _).mono ?_; rintro e w1 ⟨rfl, hb⟩; replace HB := belowNext HB hb; clear hb)
      | (go_at_call 19; with_reducible refine (e1 _).mono ?_; rintro e w1 ⟨rfl, hw⟩; rw [hw]; clear hw w1)
      | (go_at_call 17; with_reducible refine (k1 _).mono ?_; rintro e w1 ⟨rfl, hb⟩; replace HB := belowNext HB hb; clear hb)
      | (go_at_call 17; with_reducible refine (k2 _).mono ?_; rintro e w1 ⟨rfl, hb⟩; replace HB := belowNext HB hb; clear hb)
      | (go_at_call 17; with_reducible refine (k3 _).mono ?_; rintro e w1 ⟨rfl, hb⟩; replace HB := belowNext HB hb; clear hb))
    go_ret
    exact ⟨rfl, HB⟩
end Go.Proofs.Ytmeoicfeiamkmaa
