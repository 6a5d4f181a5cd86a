/-
  Package field and the reference: check, sums, differences, products; the reference's powers.
-/
import Derived.Test.YtmeoicfeiamkmaaDoorDv
namespace Go.Proofs.YtmeoicfeiamkmaaDoor
open Go.RowKit
set_option linter.unusedVariables false
set_option linter.unusedSimpArgs false

theorem wrapI (a : Int) (h0 : -9223372036854775808 ≤ a) (h : a < 9223372036854775808) : IntKind.i64.wrap a = a := by
  rw [IntKind.wrap_i64]; omega

theorem div64_any (hi lo : Nat) (hhi : hi < 2305843009213688669) (hlo : lo < 18446744073709551616) (w : World) :
    Calls Tryd.prog 37 #[.int .u64 hi, .int .u64 lo, .int .u64 2305843009213688669] w fun e w' => (∃ q : Int, e = .returned (.tuple #[.int .u64 q, .int .u64 (((hi * 18446744073709551616 + lo) % 2305843009213688669 : Nat) : Int)])) ∧ ∃ k, w' = w.drewN k := by
  by_cases h0 : hi = 0
  · subst h0
    rw [Nat.zero_mul, Nat.zero_add]
    exact div64_zero lo hlo w
  · refine (div64_pos hi lo (by omega) hhi hlo w).mono ?_
    rintro e w' ⟨h, rfl⟩
    exact ⟨h, 0, rfl⟩

theorem prodHi {a b : Nat} (ha : a < 2305843009213688669) (hb : b < 2305843009213688669) : a * b / 18446744073709551616 < 2305843009213688669 := by
  have h : a * b ≤ 2305843009213688668 * 2305843009213688668 := Nat.mul_le_mul (by omega) (by omega)
  generalize a * b = x at *
  omega

/-- A difference modulo Q. -/
def dif (a b : Nat) : Nat := (a + (2305843009213688669 - b)) % 2305843009213688669
/-- A number that is a scalar. -/
def scal (a : Int) : Bool := decide (0 ≤ a) && decide (a < 2305843009213688669)
theorem scal_of {a : Int} (h : scal a = true) : 0 ≤ a ∧ a < 2305843009213688669 := by simpa [scal] using h
theorem scal_nat {a : Nat} (h : a < 2305843009213688669) : scal (a : Int) = true := by simp [scal]; omega

theorem step_prod {a b c n : Nat} : ((if b % 2 = 1 then (c + a) % n else c) + (a + a) % n * (b / 2)) % n = (c + a * b) % n := by
  have e : a * b = (a + a) * (b / 2) + a * (b % 2) := by
    have h := Nat.div_add_mod b 2
    conv => lhs; rw [← h, Nat.mul_add, ← Nat.mul_assoc, Nat.mul_two]
  have e2 : ((a + a) % n * (b / 2)) % n = ((a + a) * (b / 2)) % n := by rw [Nat.mul_mod, Nat.mod_mod, ← Nat.mul_mod]
  rcases Nat.mod_two_eq_zero_or_one b with h | h
  · rw [if_neg (by omega), e, h, Nat.mul_zero, Nat.add_zero, Nat.add_mod, e2, ← Nat.add_mod]
  · rw [if_pos h, e, h, Nat.mul_one, Nat.add_mod, Nat.mod_mod, e2, ← Nat.add_mod]
    congr 1; omega

theorem step_pow {a b c n : Nat} : ((if b % 2 = 1 then c * a % n else c) * (a * a % n) ^ (b / 2)) % n = (c * a ^ b) % n := by
  have e : a ^ b = (a * a) ^ (b / 2) * a ^ (b % 2) := by
    have h := Nat.div_add_mod b 2
    conv => lhs; rw [← h, Nat.pow_add, Nat.pow_mul, Nat.pow_two]
  have e2 : (a * a % n) ^ (b / 2) % n = (a * a) ^ (b / 2) % n := by rw [← Nat.pow_mod]
  rcases Nat.mod_two_eq_zero_or_one b with h | h
  · rw [if_neg (by omega), e, h, Nat.pow_zero, Nat.mul_one, Nat.mul_mod, e2, ← Nat.mul_mod]
  · rw [if_pos h, e, h, Nat.pow_one, Nat.mul_mod, Nat.mod_mod, e2, ← Nat.mul_mod]
    congr 1
    rw [Nat.mul_assoc, Nat.mul_comm a]

/-- The cells of a slice of ints. -/
def RdI (w : World) (a : Option Addr) (l : List Int) : Prop :=
  l.length ≤ maxLen ∧ (l = [] ∨ ∃ x, a = some x ∧ ∀ j (h : j < l.length), w.cell? (x.add j) = some (.int .i64 l[j]))

theorem all_scal {l : List Int} (h : ∀ j, j < l.length → scal (l.getD j 0) = true) : l.all scal = true := by
  rw [List.all_eq_true]
  intro x hx
  obtain ⟨j, hj, rfl⟩ := List.getElem_of_mem hx
  have := h j hj
  simpa [hj] using this
theorem not_all_scal {l : List Int} {k : Nat} (hk : k < l.length) (h : scal (l.getD k 0) = false) : l.all scal = false := by
  cases e : l.all scal
  · rfl
  · rw [List.all_eq_true] at e
    have := e (l.getD k 0) (by simp [hk])
    rw [h] at this; cases this

theorem fcheck_any (a : Option Addr) (cap : Nat) (l : List Int) (w : World) (hl : RdI w a l) :
    Calls Tryd.prog 35 #[.slice a l.length cap] w fun e w' => e = .returned (.int .i64 (if l.all scal then 0 else 1)) ∧ w' = w := by
  obtain ⟨G, hG⟩ : ∃ G : Int, (if l.all scal = true then 0 else 1) = G := ⟨_, rfl⟩
  rw [hG]
  have HG := Lib.hid hG
  clear hG
  have hm := hl.1
  unfold maxLen at hm
  have HL := Lib.hid hl
  have HA : Hid (∀ j (h : j < 0), scal (l.getD j 0) = true) := Lib.hid (fun j h => absurd h (Nat.not_lt_zero _))
  clear hl
  go_enter Tryd.func35, Tryd.ntmps35
  go_wp2_with fail
  go_loopw [7] (fun i wr => ∃ k : Nat, i = .int .i64 k ∧ k ≤ l.length ∧ Hid (∀ j, j < k → scal (l.getD j 0) = true) ∧ wr = w) (fun i _ => l.length - (intOf i).toNat)
  case atStart => exact ⟨0, rfl, by omega, fun j h => absurd h (Nat.not_lt_zero _), rfl⟩
  case round =>
    obtain ⟨k, rfl, hk, hs, hw⟩ := hrel
    clear HA
    subst hw
    by_cases hlt : k < l.length
    · have f1 : decide ((k : Int) < (l.length : Int)) = true := decide_eq_true (by omega)
      obtain ⟨x, ha, hx⟩ : ∃ x, a = some x ∧ wr.cell? (x.add k) = some (.int .i64 (l.getD k 0)) := by
        rcases HL.out.2 with h | ⟨x, ha, hx⟩
        · subst h; exact absurd hlt (Nat.not_lt_zero _)
        · exact ⟨x, ha, by rw [hx k hlt]; simp [hlt]⟩
      subst ha
      obtain ⟨v, hv⟩ : ∃ v, l.getD k 0 = v := ⟨_, rfl⟩
      rw [hv] at hx
      by_cases h1 : v < 0
      · have f2 : decide (v < 0) = true := decide_eq_true h1
        have e : G = 1 := by rw [← HG.out, not_all_scal hlt (by rw [hv]; simp [scal]; omega)]; rfl
        subst e
        clear HL hs HG
        go_wp2_with fail
        go_ret
        exact ⟨rfl, rfl⟩
      · have f2 : decide (v < 0) = false := decide_eq_false h1
        by_cases h2 : 2305843009213688669 ≤ v
        · have f3 : decide (2305843009213688669 ≤ v) = true := decide_eq_true h2
          have e : G = 1 := by rw [← HG.out, not_all_scal hlt (by rw [hv]; simp [scal]; omega)]; rfl
          subst e
          clear HL hs HG
          go_wp2_with fail
          go_ret
          exact ⟨rfl, rfl⟩
        · have f3 : decide (2305843009213688669 ≤ v) = false := decide_eq_false h2
          have HV := Lib.hid hv
          have HS := Lib.hid hs
          clear hv hs
          go_wp2_with fail
          go_roundw
          case rel =>
            refine ⟨k + 1, by go_num, by omega, ?_, trivial⟩
            intro j hj
            by_cases hjk : j = k
            · subst hjk; rw [HV.out]; simp [scal]; omega
            · exact HS.out j (by omega)
          case measure => simp [intOf]; omega
    · obtain rfl : k = l.length := by omega
      have e : G = 0 := by rw [← HG.out, all_scal hs.out]; rfl
      subst e
      clear HL hs HG
      go_wp2_with fail
      go_ret
      exact ⟨rfl, rfl⟩
end Go.Proofs.YtmeoicfeiamkmaaDoor
