/-
  Package field and the reference: check, sums, differences, products; the reference's powers.
  Package field's powers: the iterator over an exponent's bits, the closure that multiplies, the loop over both.
  Package field: values of polynomials; its functions, and the reference's.
  The reference's functions; the law package's helpers; the chapter's examples.
-/
import Derived.Test.YteigldfdaciopaaGreatDoorPkV
import Derived.RangeFuncNested
import Derived.RangeFuncBound
import Derived.RangeFuncCalls
import Derived.RangeFuncLeaves
import Derived.Shelf.Abstract
import Derived.Shelf.RegionOpen
import Derived.OwnWalkIn
import Derived.TacticsInMore
import Derived.LoopNIn
import Derived.LoopIn
import Derived.Laws.EntriesVeiled
set_option linter.unusedVariables false
set_option linter.unusedSimpArgs false
namespace Go.Proofs.YteigldfdaciopaaGreatDoor
open Go.RowKit
set_option linter.unusedVariables false
set_option linter.unusedSimpArgs false

theorem wrapI (a : Int) (h0 : -9223372036854775808 ≤ a) (h : a < 9223372036854775808) : IntKind.i64.wrap a = a := by
  rw [IntKind.wrap_i64]; omega

theorem div64_any (hi lo : Nat) (hhi : hi < 2305843009213688669) (hlo : lo < 18446744073709551616) (w : World) :
    Calls Tryz.prog 90 #[.int .u64 hi, .int .u64 lo, .int .u64 2305843009213688669] w fun e w' => (∃ q : Int, e = .returned (.tuple #[.int .u64 q, .int .u64 (((hi * 18446744073709551616 + lo) % 2305843009213688669 : Nat) : Int)])) ∧ ∃ k, w' = w.drewN k := by
  by_cases h0 : hi = 0
  · subst h0
    rw [Nat.zero_mul, Nat.zero_add]
    exact div64_zero lo hlo w
  · refine (div64_pos hi lo (by omega) hhi hlo w).mono ?_
    rintro e w' ⟨h, rfl⟩
    exact ⟨h, 0, rfl⟩

theorem prodHi {a b : Nat} (ha : a < 2305843009213688669) (hb : b < 2305843009213688669) : a * b / 18446744073709551616 < 2305843009213688669 := by
  have h : a * b ≤ 2305843009213688668 * 2305843009213688668 := Nat.mul_le_mul (by omega) (by omega)
  generalize a * b = x at *
  omega

theorem product_any (a b : Nat) (ha : a < 2305843009213688669) (hb : b < 2305843009213688669) (w : World) :
    Calls Tryz.prog 74 #[.int .i64 a, .int .i64 b] w fun e w' => e = .returned (.int .i64 ((a * b % 2305843009213688669 : Nat) : Int)) ∧ ∃ k, w' = w.drewN k := by
  have c1 := wrapU (a : Int) (by omega) (by omega)
  have c2 := wrapU (b : Int) (by omega) (by omega)
  have hh := prodHi ha hb
  have hl : a * b % 18446744073709551616 < 18446744073709551616 := Nat.mod_lt _ (by decide)
  have he : a * b / 18446744073709551616 * 18446744073709551616 + a * b % 18446744073709551616 = a * b := Nat.div_add_mod' _ _
  have hr : a * b % 2305843009213688669 < 2305843009213688669 := Nat.mod_lt _ (by decide)
  have hm := Tryz.bits_Mul64 a b (by omega) (by omega)
  have HD := Lib.hid (fun w => div64_any _ _ hh hl w)
  rw [he] at HD
  have c3 := (wrapI ((a * b % 2305843009213688669 : Nat) : Int) (by omega) (by omega))
  clear he
  generalize a * b / 18446744073709551616 = hi at *
  generalize a * b % 18446744073709551616 = lo at *
  generalize a * b % 2305843009213688669 = r at *
  have HM := Lib.hid hm
  clear hm
  go_enter Tryz.func74, Tryz.ntmps74
  go_wp2_with (first
    | (go_at_call 89; refine (HM.out _).mono ?_; rintro e w' ⟨rfl, hw⟩; rw [hw]; clear hw w')
    | (go_at_call 90; refine (HD.out _).mono ?_; rintro e w' ⟨⟨q, rfl⟩, k, hw⟩; rw [hw]; clear hw w'))
  go_ret
  exact ⟨rfl, _, rfl⟩

theorem rsum_any (a b : Nat) (ha : a < 2305843009213688669) (hb : b ≤ 2305843009213688669) (w : World) :
    Calls Tryz.prog 92 #[.int .i64 a, .int .i64 b] w fun e w' => e = .returned (.int .i64 (((a + b) % 2305843009213688669 : Nat) : Int)) ∧ w' = w := by
  have c1 := wrapI ((a : Int) + b) (by omega) (by omega)
  have c2 : ((a : Int) + b).tmod 2305843009213688669 = (((a + b) % 2305843009213688669 : Nat) : Int) := by rw [Int.tmod_eq_emod_of_nonneg (by omega)]; omega
  go_enter Tryz.func92, Tryz.ntmps92
  go_wp2_with fail
  go_ret
  exact ⟨by first | rfl | simp [c1, c2], rfl⟩

/-- A difference modulo Q. -/
def dif (a b : Nat) : Nat := (a + (2305843009213688669 - b)) % 2305843009213688669
/-- A number that is a scalar. -/
def scal (a : Int) : Bool := decide (0 ≤ a) && decide (a < 2305843009213688669)
theorem scal_of {a : Int} (h : scal a = true) : 0 ≤ a ∧ a < 2305843009213688669 := by simpa [scal] using h
theorem scal_nat {a : Nat} (h : a < 2305843009213688669) : scal (a : Int) = true := by simp [scal]; omega

theorem scalar_any (a : Int) (w : World) :
    Calls Tryz.prog 70 #[.int .i64 a] w fun e w' => e = .returned (.bool (scal a)) ∧ w' = w := by
  by_cases h : 0 ≤ a
  · have f1 : decide (0 ≤ a) = true := decide_eq_true h
    go_enter Tryz.func70, Tryz.ntmps70
    go_wp2_with fail
    go_ret
    exact ⟨by simp [scal, f1], rfl⟩
  · have f1 : decide (0 ≤ a) = false := decide_eq_false h
    go_enter Tryz.func70, Tryz.ntmps70
    go_wp2_with fail
    go_ret
    exact ⟨by simp [scal, f1], rfl⟩

theorem step_prod {a b c n : Nat} : ((if b % 2 = 1 then (c + a) % n else c) + (a + a) % n * (b / 2)) % n = (c + a * b) % n := by
  have e : a * b = (a + a) * (b / 2) + a * (b % 2) := by
    have h := Nat.div_add_mod b 2
    conv => lhs; rw [← h, Nat.mul_add, ← Nat.mul_assoc, Nat.mul_two]
  have e2 : ((a + a) % n * (b / 2)) % n = ((a + a) * (b / 2)) % n := by rw [Nat.mul_mod, Nat.mod_mod, ← Nat.mul_mod]
  rcases Nat.mod_two_eq_zero_or_one b with h | h
  · rw [if_neg (by omega), e, h, Nat.mul_zero, Nat.add_zero, Nat.add_mod, e2, ← Nat.add_mod]
  · rw [if_pos h, e, h, Nat.mul_one, Nat.add_mod, Nat.mod_mod, e2, ← Nat.add_mod]
    congr 1; omega

set_option maxHeartbeats 800000 in
theorem rproduct_any (a b : Nat) (ha : a < 2305843009213688669) (hb : b < 2305843009213688669) (w : World) :
    Calls Tryz.prog 76 #[.int .i64 a, .int .i64 b] w fun e w' => e = .returned (.int .i64 ((a * b % 2305843009213688669 : Nat) : Int)) ∧ w' = w := by
  go_enter Tryz.func76, Tryz.ntmps76
  go_wp2_with fail
  go_loopw [0, 1, 5] (fun x y z wr => ∃ p q c : Nat, x = .int .i64 p ∧ y = .int .i64 q ∧ z = .int .i64 c ∧ p < 2305843009213688669 ∧ q < 2305843009213688669 ∧ c < 2305843009213688669 ∧ (c + p * q) % 2305843009213688669 = a * b % 2305843009213688669 ∧ wr = w) (fun _ y _ _ => (intOf y).toNat)
  case atStart => exact ⟨a, b, 0, rfl, rfl, rfl, ha, hb, by omega, by rw [Nat.zero_add], rfl⟩
  case round =>
    obtain ⟨p, q, c, rfl, rfl, rfl, hp, hq, hc, hi, hw⟩ := hrel
    subst hw
    by_cases h0 : q = 0
    · subst h0
      have e : c = a * b % 2305843009213688669 := by rw [← hi, Nat.mul_zero, Nat.add_zero, Nat.mod_eq_of_lt hc]
      clear hi
      go_wp2_with fail
      go_ret
      exact ⟨by rw [e]; rfl, rfl⟩
    · have f1 : decide ((0 : Int) < (q : Int)) = true := decide_eq_true (by omega)
      have hi' := step_prod (a := p) (b := q) (c := c) (n := 2305843009213688669)
      rw [hi] at hi'
      have d1 : IntKind.i64.wrap ((q : Int).tdiv 2) = ((q / 2 : Nat) : Int) := by rw [Int.tdiv_eq_ediv_of_nonneg (by omega), wrapI _ (by omega) (by omega)]; omega
      have hpp : (p + p) % 2305843009213688669 < 2305843009213688669 := Nat.mod_lt _ (by decide)
      have hcc : (c + p) % 2305843009213688669 < 2305843009213688669 := Nat.mod_lt _ (by decide)
      have HI := Lib.hid hi'
      have hq2 : q / 2 < 2305843009213688669 := by clear hi hi'; omega
      clear hi hi'
      by_cases h1 : q % 2 = 1
      · have f2 : ((q : Int).tmod 2 == 1) = true := by rw [Int.tmod_eq_emod_of_nonneg (by omega)]; simp; omega
        go_wp2_with (go_at_call 92; refine (rsum_any _ _ (by assumption) (Nat.le_of_lt (by assumption)) _).mono ?_; rintro e w' ⟨rfl, hw⟩; rw [hw]; clear hw w')
        go_roundw
        case rel =>
          have h := HI.out
          rw [if_pos h1] at h
          exact ⟨_, q / 2, _, rfl, rfl, rfl, hpp, hq2, hcc, h, trivial⟩
        case measure => simp [intOf]; omega
      · have f2 : ((q : Int).tmod 2 == 1) = false := by rw [Int.tmod_eq_emod_of_nonneg (by omega)]; simp; omega
        go_wp2_with (go_at_call 92; refine (rsum_any _ _ (by assumption) (Nat.le_of_lt (by assumption)) _).mono ?_; rintro e w' ⟨rfl, hw⟩; rw [hw]; clear hw w')
        go_roundw
        case rel =>
          have h := HI.out
          rw [if_neg h1] at h
          exact ⟨_, q / 2, _, rfl, rfl, rfl, hpp, hq2, hc, h, trivial⟩
        case measure => simp [intOf]; omega

theorem step_pow {a b c n : Nat} : ((if b % 2 = 1 then c * a % n else c) * (a * a % n) ^ (b / 2)) % n = (c * a ^ b) % n := by
  have e : a ^ b = (a * a) ^ (b / 2) * a ^ (b % 2) := by
    have h := Nat.div_add_mod b 2
    conv => lhs; rw [← h, Nat.pow_add, Nat.pow_mul, Nat.pow_two]
  have e2 : (a * a % n) ^ (b / 2) % n = (a * a) ^ (b / 2) % n := by rw [← Nat.pow_mod]
  rcases Nat.mod_two_eq_zero_or_one b with h | h
  · rw [if_neg (by omega), e, h, Nat.pow_zero, Nat.mul_one, Nat.mul_mod, e2, ← Nat.mul_mod]
  · rw [if_pos h, e, h, Nat.pow_one, Nat.mul_mod, Nat.mod_mod, e2, ← Nat.mul_mod]
    congr 1
    rw [Nat.mul_assoc, Nat.mul_comm a]

set_option maxHeartbeats 800000 in
theorem rpower_any (a b : Nat) (ha : a < 2305843009213688669) (hb : b < 9223372036854775808) (w : World) :
    Calls Tryz.prog 71 #[.int .i64 a, .int .i64 b] w fun e w' => e = .returned (.int .i64 ((a ^ b % 2305843009213688669 : Nat) : Int)) ∧ w' = w := by
  obtain ⟨G, hG⟩ : ∃ G, a ^ b % 2305843009213688669 = G := ⟨_, rfl⟩
  rw [hG]
  have H0 : Hid ((1 * a ^ b) % 2305843009213688669 = G) := Lib.hid (by rw [Nat.one_mul]; exact hG)
  clear hG
  go_enter Tryz.func71, Tryz.ntmps71
  go_wp2_with fail
  go_loopw [0, 1, 5] (fun x y z wr => ∃ p q c : Nat, x = .int .i64 p ∧ y = .int .i64 q ∧ z = .int .i64 c ∧ p < 2305843009213688669 ∧ q < 9223372036854775808 ∧ c < 2305843009213688669 ∧ Hid ((c * p ^ q) % 2305843009213688669 = G) ∧ wr = w) (fun _ y _ _ => (intOf y).toNat)
  case atStart => exact ⟨a, b, 1, rfl, rfl, rfl, ha, hb, by omega, H0, rfl⟩
  case round =>
    obtain ⟨p, q, c, rfl, rfl, rfl, hp, hq, hc, hi, hw⟩ := hrel
    clear H0
    subst hw
    by_cases h0 : q = 0
    · subst h0
      have e : c = G := by have := hi.out; rw [Nat.pow_zero, Nat.mul_one, Nat.mod_eq_of_lt hc] at this; exact this
      clear hi
      subst e
      go_wp2_with fail
      go_ret
      exact ⟨rfl, rfl⟩
    · have f1 : decide ((0 : Int) < (q : Int)) = true := decide_eq_true (by omega)
      have d1 : IntKind.i64.wrap ((q : Int).tdiv 2) = ((q / 2 : Nat) : Int) := by rw [Int.tdiv_eq_ediv_of_nonneg (by omega), wrapI _ (by omega) (by omega)]; omega
      have HI := Lib.hid ((step_pow (a := p) (b := q) (c := c) (n := 2305843009213688669)).trans hi.out)
      clear hi
      have hpp : p * p % 2305843009213688669 < 2305843009213688669 := Nat.mod_lt _ (by decide)
      have hcc : c * p % 2305843009213688669 < 2305843009213688669 := Nat.mod_lt _ (by decide)
      have hq2 : q / 2 < 9223372036854775808 := by omega
      by_cases h1 : q % 2 = 1
      · have f2 : ((q : Int).tmod 2 == 1) = true := by rw [Int.tmod_eq_emod_of_nonneg (by omega)]; simp; omega
        go_wp2_with (go_at_call 76; refine (rproduct_any _ _ (by assumption) (by assumption) _).mono ?_; rintro e w' ⟨rfl, hw⟩; rw [hw]; clear hw w')
        go_roundw
        case rel =>
          have h := HI.out
          rw [if_pos h1] at h
          exact ⟨_, q / 2, _, rfl, rfl, rfl, hpp, hq2, hcc, h, trivial⟩
        case measure => simp [intOf]; omega
      · have f2 : ((q : Int).tmod 2 == 1) = false := by rw [Int.tmod_eq_emod_of_nonneg (by omega)]; simp; omega
        go_wp2_with (go_at_call 76; refine (rproduct_any _ _ (by assumption) (by assumption) _).mono ?_; rintro e w' ⟨rfl, hw⟩; rw [hw]; clear hw w')
        go_roundw
        case rel =>
          have h := HI.out
          rw [if_neg h1] at h
          exact ⟨_, q / 2, _, rfl, rfl, rfl, hpp, hq2, hc, h, trivial⟩
        case measure => simp [intOf]; omega

/-- The cells of a slice of ints. -/
def RdI (w : World) (a : Option Addr) (l : List Int) : Prop :=
  l.length ≤ maxLen ∧ (l = [] ∨ ∃ x, a = some x ∧ ∀ j (h : j < l.length), w.cell? (x.add j) = some (.int .i64 l[j]))

theorem all_scal {l : List Int} (h : ∀ j, j < l.length → scal (l.getD j 0) = true) : l.all scal = true := by
  rw [List.all_eq_true]
  intro x hx
  obtain ⟨j, hj, rfl⟩ := List.getElem_of_mem hx
  have := h j hj
  simpa [hj] using this
theorem not_all_scal {l : List Int} {k : Nat} (hk : k < l.length) (h : scal (l.getD k 0) = false) : l.all scal = false := by
  cases e : l.all scal
  · rfl
  · rw [List.all_eq_true] at e
    have := e (l.getD k 0) (by simp [hk])
    rw [h] at this; cases this

theorem fcheck_any (a : Option Addr) (cap : Nat) (l : List Int) (w : World) (hl : RdI w a l) :
    Calls Tryz.prog 73 #[.slice a l.length cap] w fun e w' => e = .returned (.int .i64 (if l.all scal then 0 else 1)) ∧ w' = w := by
  obtain ⟨G, hG⟩ : ∃ G : Int, (if l.all scal = true then 0 else 1) = G := ⟨_, rfl⟩
  rw [hG]
  have HG := Lib.hid hG
  clear hG
  have hm := hl.1
  unfold maxLen at hm
  have HL := Lib.hid hl
  have HA : Hid (∀ j (h : j < 0), scal (l.getD j 0) = true) := Lib.hid (fun j h => absurd h (Nat.not_lt_zero _))
  clear hl
  go_enter Tryz.func73, Tryz.ntmps73
  go_wp2_with fail
  go_loopw [7] (fun i wr => ∃ k : Nat, i = .int .i64 k ∧ k ≤ l.length ∧ Hid (∀ j, j < k → scal (l.getD j 0) = true) ∧ wr = w) (fun i _ => l.length - (intOf i).toNat)
  case atStart => exact ⟨0, rfl, by omega, fun j h => absurd h (Nat.not_lt_zero _), rfl⟩
  case round =>
    obtain ⟨k, rfl, hk, hs, hw⟩ := hrel
    clear HA
    subst hw
    by_cases hlt : k < l.length
    · have f1 : decide ((k : Int) < (l.length : Int)) = true := decide_eq_true (by omega)
      obtain ⟨x, ha, hx⟩ : ∃ x, a = some x ∧ wr.cell? (x.add k) = some (.int .i64 (l.getD k 0)) := by
        rcases HL.out.2 with h | ⟨x, ha, hx⟩
        · subst h; exact absurd hlt (Nat.not_lt_zero _)
        · exact ⟨x, ha, by rw [hx k hlt]; simp [hlt]⟩
      subst ha
      obtain ⟨v, hv⟩ : ∃ v, l.getD k 0 = v := ⟨_, rfl⟩
      rw [hv] at hx
      by_cases h1 : v < 0
      · have f2 : decide (v < 0) = true := decide_eq_true h1
        have e : G = 1 := by rw [← HG.out, not_all_scal hlt (by rw [hv]; simp [scal]; omega)]; rfl
        subst e
        clear HL hs HG
        go_wp2_with fail
        go_ret
        exact ⟨rfl, rfl⟩
      · have f2 : decide (v < 0) = false := decide_eq_false h1
        by_cases h2 : 2305843009213688669 ≤ v
        · have f3 : decide (2305843009213688669 ≤ v) = true := decide_eq_true h2
          have e : G = 1 := by rw [← HG.out, not_all_scal hlt (by rw [hv]; simp [scal]; omega)]; rfl
          subst e
          clear HL hs HG
          go_wp2_with fail
          go_ret
          exact ⟨rfl, rfl⟩
        · have f3 : decide (2305843009213688669 ≤ v) = false := decide_eq_false h2
          have HV := Lib.hid hv
          have HS := Lib.hid hs
          clear hv hs
          go_wp2_with fail
          go_roundw
          case rel =>
            refine ⟨k + 1, by go_num, by omega, ?_, trivial⟩
            intro j hj
            by_cases hjk : j = k
            · subst hjk; rw [HV.out]; simp [scal]; omega
            · exact HS.out j (by omega)
          case measure => simp [intOf]; omega
    · obtain rfl : k = l.length := by omega
      have e : G = 0 := by rw [← HG.out, all_scal hs.out]; rfl
      subst e
      clear HL hs HG
      go_wp2_with fail
      go_ret
      exact ⟨rfl, rfl⟩
end Go.Proofs.YteigldfdaciopaaGreatDoor

namespace Go.Proofs.YteigldfdaciopaaGreatDoor
open Go.RowKit Go.Shelf
set_option linter.unusedVariables false
set_option linter.unusedSimpArgs false
attribute [local go_sem] Oper.semAt_some

/-- The bits of n that have come behind j rounds, k bits in all, the most significant one first. -/
def upB (n k j : Nat) : List Bool := (List.range j).map fun t => decide (n / 2 ^ (k - 1 - t) % 2 = 1)
theorem upB_len (n k j : Nat) : (upB n k j).length = j := by simp [upB]
theorem upB_succ (n k j : Nat) : upB n k (j + 1) = upB n k j ++ [decide (n / 2 ^ (k - 1 - j) % 2 = 1)] := by simp [upB, List.range_succ]
/-- The number of bits. -/
def valB (l : List Bool) : Nat := l.foldl (fun v b => 2 * v + b.toNat) 0
theorem valB_snoc (l : List Bool) (b : Bool) : valB (l ++ [b]) = 2 * valB l + b.toNat := by simp [valB]
theorem valB_up (n k : Nat) (hn : n < 2 ^ k) : ∀ j, j ≤ k → valB (upB n k j) = n / 2 ^ (k - j) := by
  intro j
  induction j with
  | zero => intro _; rw [Nat.sub_zero, Nat.div_eq_of_lt hn]; rfl
  | succ j ih =>
    intro hj
    rw [upB_succ, valB_snoc, ih (by omega)]
    have e : k - j = (k - 1 - j) + 1 := by omega
    have e2 : k - (j + 1) = k - 1 - j := by omega
    rw [e2, e, Nat.pow_succ, ← Nat.div_div_eq_div_mul]
    generalize n / 2 ^ (k - 1 - j) = x
    by_cases h : x % 2 = 1
    · simp only [h, decide_true, Bool.toNat_true]; omega
    · simp only [h, decide_false, Bool.toNat_false]; omega

theorem binary_any (n : Int) (w : World) :
    Calls Tryz.prog 106 #[.int .i64 n] w fun e w' => e = .returned (.func (.func 122) #[] #[.pointer (some ⟨w.heap.size, 0, none⟩)]) ∧ w' = w.alloc (.cells #[.int .i64 n] 3) := by
  go_enter Tryz.func106, Tryz.ntmps106
  go_wp2_with fail
  go_ret
  exact ⟨rfl, rfl⟩

theorem bitLenAux_le : ∀ (f m x : Nat), x < 2 ^ m → Lib.bitLenAux f x ≤ m := by
  intro f
  induction f with
  | zero => intro m x _; exact Nat.zero_le _
  | succ f ih =>
    intro m x h
    unfold Lib.bitLenAux
    by_cases h0 : x = 0
    · rw [if_pos h0]; exact Nat.zero_le _
    · rw [if_neg h0]
      cases m with
      | zero => simp at h; exact absurd h h0
      | succ m => have := ih m (x / 2) (by rw [Nat.pow_succ] at h; omega); omega
theorem lt_bitLenAux : ∀ (f x : Nat), x < 2 ^ f → x < 2 ^ Lib.bitLenAux f x := by
  intro f
  induction f with
  | zero => intro x h; exact h
  | succ f ih =>
    intro x h
    unfold Lib.bitLenAux
    by_cases h0 : x = 0
    · rw [if_pos h0, h0]; decide
    · rw [if_neg h0]
      have := ih (x / 2) (by rw [Nat.pow_succ] at h; omega)
      rw [Nat.add_comm, Nat.pow_succ]; omega
theorem bitLen_lt (n : Nat) (hn : n < 9223372036854775808) : Lib.bitLen n ≤ 63 ∧ n < 2 ^ Lib.bitLen n :=
  ⟨bitLenAux_le 64 63 n (by omega), lt_bitLenAux 64 n (by omega)⟩

theorem and_i64 (a b : Nat) (ha : a < 9223372036854775808) (hb : b < 9223372036854775808) : bits .and .i64 (a : Int) (b : Int) = ((a &&& b : Nat) : Int) := by
  have hx : a &&& b < 2 ^ 63 := Nat.and_lt_two_pow _ (by omega)
  have h1 : (BitVec.ofInt 64 (a : Int)).toNat = a := by
    rw [BitVec.ofInt_natCast, BitVec.toNat_ofNat]; exact Nat.mod_eq_of_lt (by omega)
  have h2 : (BitVec.ofInt 64 (b : Int)).toNat = b := by
    rw [BitVec.ofInt_natCast, BitVec.toNat_ofNat]; exact Nat.mod_eq_of_lt (by omega)
  show IntKind.i64.wrap ((BitVec.ofInt 64 (a : Int) &&& BitVec.ofInt 64 (b : Int)).toNat : Int) = _
  rw [BitVec.toNat_and, h1, h2]
  exact wrapI _ (by omega) (by omega)
theorem bit_of (n m : Nat) (hn : n < 9223372036854775808) (hm : m ≤ 63) : (bits .and .i64 ((n : Int) / 2 ^ m) 1 == 1) = decide (n / 2 ^ m % 2 = 1) := by
  have e : (n : Int) / 2 ^ m = ((n / 2 ^ m : Nat) : Int) := by simp
  rw [e]
  have hx : n / 2 ^ m < 9223372036854775808 := Nat.lt_of_le_of_lt (Nat.div_le_self _ _) hn
  generalize n / 2 ^ m = x at *
  have e2 : bits .and .i64 (x : Int) 1 = ((x % 2 : Nat) : Int) := by
    have h := and_i64 x 1 hx (by omega)
    rw [Nat.and_one_is_mod] at h; exact h
  rw [e2]
  by_cases h : x % 2 = 1
  · rw [h]; rfl
  · have h0 : x % 2 = 0 := by omega
    rw [h0]; rfl

theorem binary1_in (l Bn n : Nat) (hn : n < 9223372036854775808) (J Jx : List Bool → World → Prop)
    (hY : ∀ pre x W, J pre W → pre.length < 64 → YieldAt Fence.wide 3 Tryz.prog l #[.bool x] W fun e W' =>
      (e = .returned (.bool true) ∧ J (pre ++ [x]) W' ∧ (W.cell? ⟨Bn, 0, none⟩ = some (.int .i64 n) → W'.cell? ⟨Bn, 0, none⟩ = some (.int .i64 n))) ∨ (e = .returned (.bool false) ∧ Jx (pre ++ [x]) W'))
    (W : World) (hc : W.cell? ⟨Bn, 0, none⟩ = some (.int .i64 n)) (h0 : J [] W) :
    CallsIn Fence.wide 4 Tryz.prog 122 #[.func (.yield l) #[] #[], .pointer (some ⟨Bn, 0, none⟩)] W fun e W' => (∃ v, e = .returned v) ∧
      ((∃ ys, ys = upB n (Lib.bitLen n) (Lib.bitLen n) ∧ J ys W') ∨ (∃ pre, pre <+: upB n (Lib.bitLen n) (Lib.bitLen n) ∧ Jx pre W')) := by
  obtain ⟨hk, hnk⟩ := bitLen_lt n hn
  have hL := Tryz.bits_Len n
  rw [Int.toNat_natCast] at hL
  have c1 := wrapU (n : Int) (by omega) (by omega)
  obtain ⟨k, hkd⟩ : ∃ k, Lib.bitLen n = k := ⟨_, rfl⟩
  rw [hkd] at hk hnk hL ⊢
  have c2 := wrapI ((k : Int) - 1) (by omega) (by omega)
  refine callsIn_of_wp Tryz.func122 rfl trivial ?_ rfl
  simp only [Tryz.ntmps122, List.size_toArray, List.length_cons, List.length_nil, Nat.reduceAdd, Nat.reduceSub, Array.replicate_succ, Array.replicate_zero, List.push_toArray, List.append_toArray, List.nil_append, List.cons_append]
  gi_wp2_with (refine ⟨trivial, ?_⟩; gi_at_call 123; refine (callsIn_wide.2 (hL _ (by omega) (by omega))).mono ?_; rintro e w' ⟨rfl, hw⟩; rw [hw]; clear hw w')
  gi_loopw [3] (fun p wr => ∃ j : Nat, j ≤ k ∧ p = .int .i64 ((k : Int) - 1 - j) ∧ J (upB n k j) wr ∧ wr.cell? ⟨Bn, 0, none⟩ = some (.int .i64 n))
    (fun p wr => (intOf p + 1).toNat)
  case atStart => exact ⟨0, by omega, by simp, h0, hc⟩
  case round =>
    obtain ⟨j, hj, rfl, hJ, hcr⟩ := hrel
    by_cases hlt : j < k
    · have f1 : decide (0 ≤ (k : Int) - 1 - j) = true := decide_eq_true (by omega)
      obtain ⟨b, hb⟩ : ∃ b, decide (n / 2 ^ (k - 1 - j) % 2 = 1) = b := ⟨_, rfl⟩
      have hbit := bit_of n (k - 1 - j) hn (by omega)
      rw [hb] at hbit
      have HS := upB_succ n k j
      rw [hb] at HS
      obtain ⟨fn, tmps, assign, body, hy, hR⟩ := hY (upB n k j) b wr hJ (by rw [upB_len]; omega)
      gi_wp2
      refine hR.mono ?_
      rintro e W3 (⟨rfl, hJ3, hk3⟩ | ⟨rfl, hJx3⟩)
      · have hc3 : W3.cell? ⟨Bn, 0, none⟩ = some (.int .i64 n) := hk3 hcr
        have d1 := wrapI ((k : Int) - 1 - j - 1) (by omega) (by omega)
        gi_wp2
        go_roundw
        case rel => exact ⟨j + 1, by omega, by congr 1; omega, by rw [HS]; exact hJ3, hc3⟩
        case measure => simp [intOf]; omega
      · gi_wp2
        refine bodyPost_ret (results_none rfl _ _ _) rfl ?_
        refine ⟨⟨_, rfl⟩, .inr ⟨upB n k j ++ [b], ?_, hJx3⟩⟩
        rw [← HS]
        exact ⟨(List.range (k - (j + 1))).map fun t => decide (n / 2 ^ (k - 1 - (j + 1 + t)) % 2 = 1), by
          have e : k = (j + 1) + (k - (j + 1)) := by omega
          conv => rhs; rw [upB]
          conv => rhs; rw [e, List.range_add, List.map_append, List.map_map]
          rw [upB, ← e]; rfl⟩
    · obtain rfl : j = k := by omega
      have f1 : decide (0 ≤ (j : Int) - 1 - j) = false := decide_eq_false (by omega)
      gi_wp2
      go_end0
      exact ⟨⟨_, rfl⟩, .inl ⟨_, rfl, hJ⟩⟩

theorem mult_any (Bc c f : Nat) (hc : c < 2305843009213688669) (hf : f < 2305843009213688669) (w : World) (hcell : w.cell? ⟨Bc, 0, none⟩ = some (.int .i64 c)) (hfr : w.frozen? ⟨Bc, 0, none⟩ = false) :
    Calls Tryz.prog 105 #[.int .i64 f, .pointer (some ⟨Bc, 0, none⟩)] w fun e w' => e = .returned (.tuple #[]) ∧ ∃ k, w' = (w.drewN k).setCell ⟨Bc, 0, none⟩ (.int .i64 ((c * f % 2305843009213688669 : Nat) : Int)) := by
  go_enter Tryz.func105, Tryz.ntmps105
  go_wp2_with (go_at_call 74; refine (product_any _ _ (by assumption) (by assumption) _).mono ?_; rintro e w' ⟨rfl, k, hw⟩; rw [hw]; clear hw w')
  go_end0
  exact ⟨rfl, _, rfl⟩

theorem cellNew (W : World) (v : Value) (t : TypeId) : (W.alloc (.cells #[v] t)).cell? ⟨W.heap.size, 0, none⟩ = some v ∧ (W.alloc (.cells #[v] t)).frozen? ⟨W.heap.size, 0, none⟩ = false := by simp
theorem cellAlloc {W : World} {a : Addr} {v : Value} (o : Obj) (h : W.cell? a = some v) : (W.alloc o).cell? a = some v := cell_kept h (World.grownBy_alloc W o none) (fun r e => by cases e)
theorem frozenAlloc {W : World} {a : Addr} {v : Value} (o : Obj) (h : W.cell? a = some v) (hf : W.frozen? a = false) : (W.alloc o).frozen? a = false := (frozen_kept h (World.grownBy_alloc W o none) (fun r e => by cases e)).trans hf
/-- What the loop's blocks hold: the base, what has been multiplied, the closure; the exponent. -/
structure PowSt (B a n c : Nat) (W : World) : Prop where
  base : W.cell? ⟨B, 0, none⟩ = some (.int .i64 a)
  acc : W.cell? ⟨B + 1, 0, none⟩ = some (.int .i64 c)
  fro : W.frozen? ⟨B + 1, 0, none⟩ = false
  clo : W.cell? ⟨B + 1 + 1, 0, none⟩ = some (.func (.func 105) #[] #[.pointer (some ⟨B + 1, 0, none⟩)])
  ex : W.cell? ⟨B + 1 + 1 + 1, 0, none⟩ = some (.int .i64 n)

theorem KeepsOthers.drewN (W : World) (k : Nat) : KeepsOthers W (W.drewN k) := ⟨Nat.le_refl _, fun _ _ h _ => h⟩
theorem PowSt.step {B a n c : Nat} {W : World} (h : PowSt B a n c W) (k d : Nat) : PowSt B a n d ((W.drewN k).setCell ⟨B + 1, 0, none⟩ (.int .i64 d)) := by
  have hne : ∀ {x : Nat}, x ≠ B + 1 → (⟨B + 1, 0, none⟩ : Addr) ≠ ⟨x, 0, none⟩ := fun hx e => hx (by injection e with e1; omega)
  refine ⟨?_, ?_, ?_, ?_, ?_⟩
  · rw [World.cell?_setCell_other _ _ _ _ (hne (by omega))]; exact h.base
  · exact World.cell?_setCell_same _ _ _ h.acc
  · rw [World.frozen?_setCell]; exact h.fro
  · rw [World.cell?_setCell_other _ _ _ _ (hne (by omega))]; exact h.clo
  · rw [World.cell?_setCell_other _ _ _ _ (hne (by omega))]; exact h.ex
theorem PowSt.kept {B a n c : Nat} {W W' : World} {row : Option Nat} (h : PowSt B a n c W) (hg : W.grownBy W' row) (hr : ∀ r, row = some r → ∃ o : Obj, W.heap[r]? = some o ∧ o.isCells = false) : PowSt B a n c W' :=
  ⟨cell_kept h.base hg hr, cell_kept h.acc hg hr, (frozen_kept h.acc hg hr).trans h.fro, cell_kept h.clo hg hr, cell_kept h.ex hg hr⟩

theorem mult_st (B a n c f : Nat) (hc : c < 2305843009213688669) (hf : f < 2305843009213688669) (w : World) (h : PowSt B a n c w) :
    Calls Tryz.prog 105 #[.int .i64 f, .pointer (some ⟨B + 1, 0, none⟩)] w fun e w' => e = .returned (.tuple #[]) ∧ PowSt B a n (c * f % 2305843009213688669) w' ∧ KeepsOthers w w' ∧ Below B w w' := by
  refine (mult_any (B + 1) c f hc hf w h.acc h.fro).mono ?_
  rintro e w' ⟨he, k, rfl⟩
  exact ⟨he, h.step k _, (KeepsOthers.drewN w k).trans (KeepsOthers.setCell _ _ _), (below_drewN (Below.refl B w) k).setCell (p := ⟨B + 1, 0, none⟩) (Nat.le_succ _) _⟩

theorem binary1_stops (Bn n : Nat) (hn : n < 9223372036854775808) (w : World) (hc : w.cell? ⟨Bn, 0, none⟩ = some (.int .i64 n)) :
    SeqStopsK Fence.wide 4 Tryz.prog 122 #[.pointer (some ⟨Bn, 0, none⟩)] (fun x : Bool => #[Value.bool x]) (fun A B => A.cell? ⟨Bn, 0, none⟩ = some (.int .i64 n) → B.cell? ⟨Bn, 0, none⟩ = some (.int .i64 n)) (fun ys => ys = upB n (Lib.bitLen n) (Lib.bitLen n)) (fun pre => pre <+: upB n (Lib.bitLen n) (Lib.bitLen n)) 64 w := fun l J Jx W hW _ _ hY h0 =>
  binary1_in l Bn n hn J Jx hY W ((hW.cell (p := ⟨Bn, 0, none⟩) (by
    obtain ⟨o, ho, _⟩ := cells_of_cell hc
    exact (Array.getElem?_eq_some_iff.1 ho).1)).trans hc) h0

/-- What the bits that have come make of the base. -/
theorem pow_bit (a v : Nat) (b : Bool) : (if b then (a ^ v % 2305843009213688669) * (a ^ v % 2305843009213688669) % 2305843009213688669 * a % 2305843009213688669 else (a ^ v % 2305843009213688669) * (a ^ v % 2305843009213688669) % 2305843009213688669) = a ^ (2 * v + b.toNat) % 2305843009213688669 := by
  have e : (a ^ v % 2305843009213688669) * (a ^ v % 2305843009213688669) % 2305843009213688669 = a ^ (2 * v) % 2305843009213688669 := by
    rw [← Nat.mul_mod, ← Nat.pow_add, Nat.two_mul]
  rw [e]
  cases b
  · rfl
  · simp only [if_true, Bool.toNat_true]
    rw [Nat.pow_succ, Nat.mod_mul_mod]

set_option maxRecDepth 100000 in
set_option maxHeartbeats 2000000 in
theorem power_any (a n : Nat) (ha : a < 2305843009213688669) (hn : n < 9223372036854775808) (w : World) :
    Calls Tryz.prog 91 #[.int .i64 a, .int .i64 n] w fun e w' => e = .returned (.int .i64 ((a ^ n % 2305843009213688669 : Nat) : Int)) ∧ Below w.heap.size w w' := by
  obtain ⟨G, hG⟩ : ∃ G, a ^ n % 2305843009213688669 = G := ⟨_, rfl⟩
  rw [hG]
  have hv := valB_up n (Lib.bitLen n) (bitLen_lt n hn).2 (Lib.bitLen n) (Nat.le_refl _)
  rw [Nat.sub_self, Nat.pow_zero, Nat.div_one] at hv
  have HG : Hid (a ^ valB (upB n (Lib.bitLen n) (Lib.bitLen n)) % 2305843009213688669 = G) := Lib.hid (by rw [hv]; exact hG)
  clear hG hv
  refine (callsIn_wide (n := 5)).1 ?_
  refine callsIn_of_wp_marks Tryz.func91 rfl trivial ?_ rfl
  simp only [Tryz.ntmps91, List.size_toArray, List.length_cons, List.length_nil, Nat.reduceAdd, Nat.reduceSub, Array.replicate_succ, Array.replicate_zero, List.push_toArray, List.append_toArray, List.nil_append, List.cons_append]
  gi_wp2_with (refine ⟨trivial, ?_⟩; gi_at_call 106; refine (callsIn_wide.2 (binary_any _ _)).mono ?_; rintro e w' ⟨rfl, rfl⟩)
  generalize hW0 : (((w.alloc (Obj.cells #[Value.int IntKind.i64 (a : Int)] 3)).alloc (Obj.cells #[Value.int IntKind.i64 1] 3)).alloc (Obj.cells #[Value.func (Fn.func 105) #[] #[Value.pointer (some { block := w.heap.size + 1, off := 0 })]] 114)).alloc (Obj.cells #[Value.int IntKind.i64 (n : Int)] 3) = W0
  have hB0 : Below w.heap.size w W0 := by
    rw [← hW0]
    exact ((((Below.refl _ w).alloc (Nat.le_refl _) _).alloc (by simp) _).alloc (by simp; omega) _).alloc (by simp; omega) _
  have hsz : W0.heap.size = w.heap.size + 1 + 1 + 1 + 1 := by rw [← hW0]; simp
  have hst : PowSt w.heap.size a n 1 W0 := by
    rw [← hW0]
    have c0 := cellNew w (.int .i64 a) 3
    have c1 := cellNew (w.alloc (Obj.cells #[Value.int IntKind.i64 (a : Int)] 3)) (.int .i64 1) 3
    have c2 := cellNew ((w.alloc (Obj.cells #[Value.int IntKind.i64 (a : Int)] 3)).alloc (Obj.cells #[Value.int IntKind.i64 1] 3)) (.func (.func 105) #[] #[.pointer (some ⟨w.heap.size + 1, 0, none⟩)]) 114
    have c3 := cellNew (((w.alloc (Obj.cells #[Value.int IntKind.i64 (a : Int)] 3)).alloc (Obj.cells #[Value.int IntKind.i64 1] 3)).alloc (Obj.cells #[Value.func (Fn.func 105) #[] #[Value.pointer (some { block := w.heap.size + 1, off := 0 })]] 114)) (.int .i64 n) 3
    simp only [World.size_alloc] at c1 c2 c3
    exact ⟨cellAlloc _ (cellAlloc _ (cellAlloc _ c0.1)), cellAlloc _ (cellAlloc _ c1.1), frozenAlloc _ (cellAlloc _ c1.1) (frozenAlloc _ c1.1 c1.2), cellAlloc _ c2.1, c3.1⟩
  clear hW0
  refine wpIn_rangeFunc_ownF rfl (by decide) (gf := 122) (lb := #[.pointer (some ⟨w.heap.size + 1 + 1 + 1, 0, none⟩)]) rfl trivial (enters_of Tryz.func122 (by kernel_rfl) rfl)
    (binary1_stops (w.heap.size + 1 + 1 + 1) n hn W0 hst.ex) (fun h1 h2 h => h2 (h1 h)) (fun W l o o' hl h hc _ hcell => cell_kept hcell (grownBy_putObj' W l o') (fun r e => by cases e; exact ⟨o, h, hc⟩)) (Below.refl _ _) (fun _ => rfl)
    (fun pre W => PowSt w.heap.size a n (a ^ valB pre % 2305843009213688669) W ∧ Below w.heap.size w W)
    (fun _ _ _ => False)
    (OwnFrom.and (Own.from (fun s A B row hs hg hr => hs.kept hg hr) _) (ownFrom_below (Nat.le_refl _) (by omega)))
    (fun _ _ _ _ _ hs _ _ => hs)
    ⟨by rw [show a ^ valB [] % 2305843009213688669 = 1 from rfl]; exact hst, hB0⟩
    (fun x => { tmps := #[.int .i64 a, .int .i64 n, .pointer (some ⟨w.heap.size, 0, none⟩), undef, .int .i64 0, .pointer (some ⟨w.heap.size + 1, 0, none⟩), .pointer (some ⟨w.heap.size + 1 + 1, 0, none⟩), .bool x, .func (.func 105) #[] #[.pointer (some ⟨w.heap.size + 1, 0, none⟩)], .int .i64 n, .func (.func 122) #[] #[.pointer (some ⟨w.heap.size + 1 + 1 + 1, 0, none⟩)], .bool x, undef, undef, undef, undef, undef, undef, undef, undef], defers := [] }) ?assign ?body ?done ?stop
  case assign =>
    intro l x W K hK
    gi_wp2
    exact hK
  case body =>
    rintro l pre x W ⟨hs, hB⟩ _
    have hm : a ^ valB pre % 2305843009213688669 < 2305843009213688669 := Nat.mod_lt _ (by decide)
    have HP := Lib.hid (pow_bit a (valB pre) x)
    rw [← valB_snoc] at HP
    generalize a ^ valB pre % 2305843009213688669 = c at *
    have hm2 : c * c % 2305843009213688669 < 2305843009213688669 := Nat.mod_lt _ (by decide)
    have c1 := hs.acc
    have c2 := hs.clo
    cases x
    · have HP2 : Hid (c * c % 2305843009213688669 = a ^ valB (pre ++ [false]) % 2305843009213688669) := HP
      clear HP
      gi_wp2_with (refine ⟨trivial, ?_⟩; gi_at_call 105; refine (CallsIn.inRound l (callsIn_wide.2 (mult_st _ _ _ _ _ hm hm _ hs))).mono ?_; rintro e W1 ⟨rfl, hs1, hk1, hb1⟩)
      refine ⟨hk1, fun _ => hs1.ex, ?_, hB.trans hb1⟩
      rw [← HP2.out]; exact hs1
    · have HP2 : Hid (c * c % 2305843009213688669 * a % 2305843009213688669 = a ^ valB (pre ++ [true]) % 2305843009213688669) := HP
      clear HP
      gi_wp2_with (first
        | (refine ⟨trivial, ?_⟩; gi_at_call 105; refine (CallsIn.inRound l (callsIn_wide.2 (mult_st _ _ _ _ _ hm hm _ hs))).mono ?_; clear hs c1 c2; rintro e W1 ⟨rfl, hs1, hk1, hb1⟩; have c1 := hs1.acc; have c2 := hs1.clo; have c3 := hs1.base)
        | (refine ⟨trivial, ?_⟩; gi_at_call 105; refine (CallsIn.inRound l (callsIn_wide.2 (mult_st _ _ _ _ _ hm2 ha _ hs1))).mono ?_; rintro e W2 ⟨rfl, hs2, hk2, hb2⟩))
      refine ⟨hk1.trans hk2, fun _ => hs2.ex, ?_, (hB.trans hb1).trans hb2⟩
      rw [← HP2.out]; exact hs2
  case done =>
    rintro D ys W hD rfl ⟨hs, hB⟩ hK
    rw [HG.out] at hs
    have c1 := hs.acc
    gi_wp2
    refine ⟨by simp, .inl ⟨_, _, rfl, run_takeDeferred hK, ?_⟩⟩
    exact ⟨_, results_tmp rfl _ _ _, rfl, hB.trans (belowK_b (w := w) (Nat.le_refl _) W D _ _ (by omega) hK rfl rfl)⟩
  case stop =>
    rintro D c pre W _ _ h _
    exact h.elim
end Go.Proofs.YteigldfdaciopaaGreatDoor

namespace Go.Proofs.YteigldfdaciopaaGreatDoor
open Go.RowKit
set_option linter.unusedVariables false
set_option linter.unusedSimpArgs false

theorem belowNext {w a b : World} (h : Below w.heap.size w a) (k : Below a.heap.size a b) : Below w.heap.size w b := h.trans (k.mono h.size)

/-- The value of a polynomial, by Horner's way. -/
def evQ (x : Nat) (l : List Int) : Nat := l.foldr (fun c y => (y * x % 2305843009213688669 + c.toNat) % 2305843009213688669) 0
theorem evQ_cons (x : Nat) (c : Int) (l : List Int) : evQ x (c :: l) = (evQ x l * x % 2305843009213688669 + c.toNat) % 2305843009213688669 := rfl
theorem evQ_lt (x : Nat) (l : List Int) : evQ x l < 2305843009213688669 := by
  cases l with
  | nil => exact Nat.zero_lt_succ _
  | cons c l => exact Nat.mod_lt _ (by decide)

theorem check_cells (g : Nat) (l : List Int) (w : World) (hl : l.length ≤ 3) (hc : ∀ j (h : j < l.length), w.cell? ⟨g, j, none⟩ = some (.int .i64 l[j])) :
    Calls Tryz.prog 73 #[.slice (some ⟨g, 0, none⟩) l.length l.length] w fun e w' => e = .returned (.int .i64 (if l.all scal then 0 else 1)) ∧ w' = w :=
  fcheck_any _ _ l w ⟨by unfold maxLen; omega, .inr ⟨_, rfl, fun j h => by rw [← hc j h]; congr 1; simp [Addr.add]; rintro rfl; rfl⟩⟩

theorem check1 (g : Nat) (a : Int) (w : World) (h0 : w.cell? ⟨g, 0, none⟩ = some (.int .i64 a)) :
    Calls Tryz.prog 73 #[.slice (some ⟨g, 0, none⟩) 1 1] w fun e w' => e = .returned (.int .i64 (if scal a then 0 else 1)) ∧ w' = w := by
  have h := check_cells g [a] w (by simp) (fun j hj => by
    obtain rfl : j = 0 := by simpa using hj
    exact h0)
  simpa using h
theorem check2 (g : Nat) (a b : Int) (w : World) (h0 : w.cell? ⟨g, 0, none⟩ = some (.int .i64 a)) (h1 : w.cell? ⟨g, 1, none⟩ = some (.int .i64 b)) :
    Calls Tryz.prog 73 #[.slice (some ⟨g, 0, none⟩) 2 2] w fun e w' => e = .returned (.int .i64 (if scal a && scal b then 0 else 1)) ∧ w' = w := by
  have h := check_cells g [a, b] w (by simp) (fun j hj => by
    have hj : j < 2 := hj
    match j, hj with
    | 0, _ => exact h0
    | 1, _ => exact h1)
  simpa using h
theorem check1_ok (g : Nat) (a : Nat) (ha : a < 2305843009213688669) (w : World) (h0 : w.cell? ⟨g, 0, none⟩ = some (.int .i64 a)) :
    Calls Tryz.prog 73 #[.slice (some ⟨g, 0, none⟩) 1 1] w fun e w' => e = .returned (.int .i64 0) ∧ w' = w := by
  have h := check1 g a w h0
  rw [scal_nat ha] at h; exact h
theorem check1_bad (g : Nat) (a : Int) (ha : scal a = false) (w : World) (h0 : w.cell? ⟨g, 0, none⟩ = some (.int .i64 a)) :
    Calls Tryz.prog 73 #[.slice (some ⟨g, 0, none⟩) 1 1] w fun e w' => e = .returned (.int .i64 1) ∧ w' = w := by
  have h := check1 g a w h0
  rw [ha] at h; exact h
theorem check2_ok (g : Nat) (a b : Nat) (ha : a < 2305843009213688669) (hb : b < 2305843009213688669) (w : World) (h0 : w.cell? ⟨g, 0, none⟩ = some (.int .i64 a)) (h1 : w.cell? ⟨g, 1, none⟩ = some (.int .i64 b)) :
    Calls Tryz.prog 73 #[.slice (some ⟨g, 0, none⟩) 2 2] w fun e w' => e = .returned (.int .i64 0) ∧ w' = w := by
  have h := check2 g a b w h0 h1
  rw [scal_nat ha, scal_nat hb] at h; exact h
theorem check2_bad (g : Nat) (a b : Int) (hab : (scal a && scal b) = false) (w : World) (h0 : w.cell? ⟨g, 0, none⟩ = some (.int .i64 a)) (h1 : w.cell? ⟨g, 1, none⟩ = some (.int .i64 b)) :
    Calls Tryz.prog 73 #[.slice (some ⟨g, 0, none⟩) 2 2] w fun e w' => e = .returned (.int .i64 1) ∧ w' = w := by
  have h := check2 g a b w h0 h1
  rw [hab] at h; exact h

theorem fCheck (a : Int) (w : World) :
    Calls Tryz.prog 59 #[.int .i64 a] w fun e w' => e = .returned (.int .i64 (if scal a then 0 else 1)) ∧ Below w.heap.size w w' := by
  obtain ⟨G, hG⟩ : ∃ G : Int, (if scal a = true then 0 else 1) = G := ⟨_, rfl⟩
  rw [hG]
  have h := fun (w : World) h0 => check1 w.heap.size a (w.alloc (.cells #[.int .i64 a] 3)) h0
  rw [hG] at h
  clear hG
  go_enter Tryz.func59, Tryz.ntmps59
  go_wp2_with (go_at_call 73; refine (h _ (by simp)).mono ?_; rintro e w' ⟨rfl, hw⟩; rw [hw]; clear hw w')
  go_ret
  exact ⟨rfl, (Below.refl _ _).alloc (Nat.le_refl _) _⟩

theorem fMul (a b : Nat) (ha : a < 2305843009213688669) (hb : b < 2305843009213688669) (w : World) :
    Calls Tryz.prog 45 #[.int .i64 a, .int .i64 b] w fun e w' => e = .returned (.tuple #[.int .i64 ((a * b % 2305843009213688669 : Nat) : Int), .int .i64 0]) ∧ Below w.heap.size w w' := by
  go_enter Tryz.func45, Tryz.ntmps45
  go_wp2_with (first
    | (go_at_call 73; refine (check2_ok _ _ _ ha hb _ (by simp) (by simp)).mono ?_; rintro e w' ⟨rfl, hw⟩; rw [hw]; clear hw w')
    | (go_at_call 74; refine (product_any _ _ ha hb _).mono ?_; rintro e w' ⟨rfl, k, hw⟩; rw [hw]; clear hw w'))
  go_ret2
  exact ⟨rfl, below_drewN ((Below.refl _ _).alloc (Nat.le_refl _) _) _⟩
theorem fMul_bad (a b : Int) (hab : (scal a && scal b) = false) (w : World) :
    Calls Tryz.prog 45 #[.int .i64 a, .int .i64 b] w fun e w' => e = .returned (.tuple #[.int .i64 0, .int .i64 1]) ∧ Below w.heap.size w w' := by
  go_enter Tryz.func45, Tryz.ntmps45
  go_wp2_with (go_at_call 73; refine (check2_bad _ _ _ hab _ (by simp) (by simp)).mono ?_; rintro e w' ⟨rfl, hw⟩; rw [hw]; clear hw w')
  go_ret2
  exact ⟨rfl, (Below.refl _ _).alloc (Nat.le_refl _) _⟩

theorem inverse_any (a : Nat) (ha : a < 2305843009213688669) (w : World) :
    Calls Tryz.prog 75 #[.int .i64 a] w fun e w' => e = .returned (.int .i64 ((a ^ (kQ - 1) % 2305843009213688669 : Nat) : Int)) ∧ Below w.heap.size w w' := by
  have h := fun w => power_any a (kQ - 1) ha (by unfold kQ; omega) w
  have e : ((kQ - 1 : Nat) : Int) = 2305843009213688667 := by unfold kQ; rfl
  rw [e] at h
  generalize a ^ (kQ - 1) % 2305843009213688669 = r at *
  go_enter Tryz.func75, Tryz.ntmps75
  go_wp2_with (go_at_call 91; refine (h _).mono ?_; rintro e w' ⟨rfl, hb⟩)
  go_ret
  exact ⟨rfl, hb⟩

theorem fInv (a : Nat) (h0 : a ≠ 0) (ha : a < 2305843009213688669) (w : World) :
    Calls Tryz.prog 46 #[.int .i64 a] w fun e w' => e = .returned (.tuple #[.int .i64 ((a ^ (kQ - 1) % 2305843009213688669 : Nat) : Int), .int .i64 0]) ∧ Below w.heap.size w w' := by
  have h := inverse_any a ha
  have f1 : ((a : Int) == 0) = false := by simp; omega
  generalize a ^ (kQ - 1) % 2305843009213688669 = r at *
  go_enter Tryz.func46, Tryz.ntmps46
  go_wp2_with (first
    | (go_at_call 73; refine (check1_ok _ _ ha _ (by simp)).mono ?_; rintro e w' ⟨rfl, hw⟩; rw [hw]; clear hw w')
    | (go_at_call 75; refine (h _).mono ?_; rintro e w' ⟨rfl, hb⟩))
  go_ret2
  exact ⟨rfl, ((Below.refl _ _).alloc (Nat.le_refl _) _).trans (hb.mono (by simp))⟩
theorem fInv_zero (w : World) :
    Calls Tryz.prog 46 #[.int .i64 0] w fun e w' => e = .returned (.tuple #[.int .i64 0, .int .i64 30]) ∧ Below w.heap.size w w' := by
  go_enter Tryz.func46, Tryz.ntmps46
  go_wp2_with (go_at_call 73; refine (check1_ok _ 0 (by decide) _ (by simp)).mono ?_; rintro e w' ⟨rfl, hw⟩; rw [hw]; clear hw w')
  go_ret2
  exact ⟨rfl, (Below.refl _ _).alloc (Nat.le_refl _) _⟩
theorem fInv_bad (a : Int) (ha : scal a = false) (w : World) :
    Calls Tryz.prog 46 #[.int .i64 a] w fun e w' => e = .returned (.tuple #[.int .i64 0, .int .i64 1]) ∧ Below w.heap.size w w' := by
  go_enter Tryz.func46, Tryz.ntmps46
  go_wp2_with (go_at_call 73; refine (check1_bad _ _ ha _ (by simp)).mono ?_; rintro e w' ⟨rfl, hw⟩; rw [hw]; clear hw w')
  go_ret2
  exact ⟨rfl, (Below.refl _ _).alloc (Nat.le_refl _) _⟩

theorem checkL_ok (a : Option Addr) (cap : Nat) (l : List Int) (w : World) (hl : RdI w a l) (hs : ∀ c ∈ l, scal c = true) :
    Calls Tryz.prog 73 #[.slice a l.length cap] w fun e w' => e = .returned (.int .i64 0) ∧ w' = w := by
  have h := fcheck_any a cap l w hl
  rw [List.all_eq_true.2 hs] at h; exact h
theorem checkL_bad (a : Option Addr) (cap : Nat) (l : List Int) (w : World) (hl : RdI w a l) (hs : l.all scal = false) :
    Calls Tryz.prog 73 #[.slice a l.length cap] w fun e w' => e = .returned (.int .i64 1) ∧ w' = w := by
  have h := fcheck_any a cap l w hl
  rw [hs] at h; exact h
theorem RdI.alloc {w : World} {a : Option Addr} {l : List Int} (h : RdI w a l) (o : Obj) : RdI (w.alloc o) a l :=
  ⟨h.1, h.2.imp id fun ⟨x, ha, hc⟩ => ⟨x, ha, fun j hj => cellAlloc o (hc j hj)⟩⟩

end Go.Proofs.YteigldfdaciopaaGreatDoor

namespace Go.Proofs.YteigldfdaciopaaGreatDoor
open Go.RowKit
set_option linter.unusedVariables false
set_option linter.unusedSimpArgs false

theorem rMul (a b : Nat) (ha : a < 2305843009213688669) (hb : b < 2305843009213688669) (w : World) :
    Calls Tryz.prog 47 #[.int .i64 a, .int .i64 b] w fun e w' => e = .returned (.tuple #[.int .i64 ((a * b % 2305843009213688669 : Nat) : Int), .int .i64 0]) ∧ w' = w := by
  have s1 := scal_nat ha
  have s2 := scal_nat hb
  go_enter Tryz.func47, Tryz.ntmps47
  go_wp2_with (first
    | (go_at_call 70; refine (scalar_any _ _).mono ?_; rintro e w' ⟨rfl, hw⟩; rw [hw]; clear hw w')
    | (go_at_call 76; refine (rproduct_any _ _ ha hb _).mono ?_; rintro e w' ⟨rfl, hw⟩; rw [hw]; clear hw w'))
  go_ret2
  exact ⟨rfl, rfl⟩
theorem rMul_bad (a b : Int) (hab : (scal a && scal b) = false) (w : World) :
    Calls Tryz.prog 47 #[.int .i64 a, .int .i64 b] w fun e w' => e = .returned (.tuple #[.int .i64 0, .int .i64 1]) ∧ w' = w := by
  by_cases h1 : scal a = true
  · have h2 : scal b = false := by rw [h1] at hab; simpa using hab
    go_enter Tryz.func47, Tryz.ntmps47
    go_wp2_with (go_at_call 70; refine (scalar_any _ _).mono ?_; rintro e w' ⟨rfl, hw⟩; rw [hw]; clear hw w')
    go_ret2
    exact ⟨rfl, rfl⟩
  · have h2 : scal a = false := by simpa using h1
    go_enter Tryz.func47, Tryz.ntmps47
    go_wp2_with (go_at_call 70; refine (scalar_any _ _).mono ?_; rintro e w' ⟨rfl, hw⟩; rw [hw]; clear hw w')
    go_ret2
    exact ⟨rfl, rfl⟩
theorem rInv (a : Nat) (h0 : a ≠ 0) (ha : a < 2305843009213688669) (w : World) :
    Calls Tryz.prog 41 #[.int .i64 a] w fun e w' => e = .returned (.tuple #[.int .i64 ((a ^ (kQ - 1) % 2305843009213688669 : Nat) : Int), .int .i64 0]) ∧ w' = w := by
  have h := fun w => rpower_any a (kQ - 1) ha (by unfold kQ; omega) w
  have e : ((kQ - 1 : Nat) : Int) = 2305843009213688667 := by unfold kQ; rfl
  rw [e] at h
  have s1 := scal_nat ha
  have f1 : ((a : Int) == 0) = false := by simp; omega
  generalize a ^ (kQ - 1) % 2305843009213688669 = r at *
  go_enter Tryz.func41, Tryz.ntmps41
  go_wp2_with (first
    | (go_at_call 70; refine (scalar_any _ _).mono ?_; rintro e w' ⟨rfl, hw⟩; rw [hw]; clear hw w')
    | (go_at_call 71; refine (h _).mono ?_; rintro e w' ⟨rfl, hw⟩; rw [hw]; clear hw w'))
  go_ret2
  exact ⟨rfl, rfl⟩
theorem rInv_zero  (w : World) :
    Calls Tryz.prog 41 #[.int .i64 0] w fun e w' => e = .returned (.tuple #[.int .i64 0, .int .i64 30]) ∧ w' = w := by
  have s1 : scal 0 = true := by decide
  go_enter Tryz.func41, Tryz.ntmps41
  go_wp2_with (first
    | (go_at_call 70; refine (scalar_any _ _).mono ?_; rintro e w' ⟨rfl, hw⟩; rw [hw]; clear hw w'))
  go_ret2
  exact ⟨rfl, rfl⟩
theorem rInv_bad (a : Int) (ha : scal a = false) (w : World) :
    Calls Tryz.prog 41 #[.int .i64 a] w fun e w' => e = .returned (.tuple #[.int .i64 0, .int .i64 1]) ∧ w' = w := by
  go_enter Tryz.func41, Tryz.ntmps41
  go_wp2_with (first
    | (go_at_call 70; refine (scalar_any _ _).mono ?_; rintro e w' ⟨rfl, hw⟩; rw [hw]; clear hw w'))
  go_ret2
  exact ⟨rfl, rfl⟩
/-- A polynomial's value, the constant first. -/
theorem ev_step (x y p c v : Nat) : ((y + c * p % 2305843009213688669) % 2305843009213688669 + p * x % 2305843009213688669 * v) % 2305843009213688669 = (y + p * ((v * x % 2305843009213688669 + c) % 2305843009213688669)) % 2305843009213688669 := by
  have e1 : (p * x % 2305843009213688669 * v) % 2305843009213688669 = (p * (v * x)) % 2305843009213688669 := by
    rw [Nat.mod_mul_mod, Nat.mul_assoc, Nat.mul_comm x v]
  have e2 : p * ((v * x % 2305843009213688669 + c) % 2305843009213688669) % 2305843009213688669 = (p * (v * x) + c * p) % 2305843009213688669 := by
    rw [Nat.mul_mod_mod, Nat.mul_add, Nat.add_mod, Nat.mul_mod_mod, ← Nat.add_mod, Nat.mul_comm p c]
  have e3 : (y + c * p % 2305843009213688669) % 2305843009213688669 = (y + c * p) % 2305843009213688669 := by rw [Nat.add_mod_mod]
  rw [e3, Nat.add_mod, e1, Nat.mod_mod, ← Nat.add_mod, Nat.add_mod y (p * _), e2, ← Nat.add_mod]
  congr 1; omega

/-- The scalar of a number. -/
def ofI (n : Int) : Nat := ((n % 4611686018427387904) % 2305843009213688669).toNat
theorem ofI_lt (n : Int) : ofI n < 2305843009213688669 := by unfold ofI; omega
theorem and62 (n : Int) (h : -9223372036854775808 ≤ n) (h2 : n < 9223372036854775808) : bits .and .i64 n 4611686018427387903 = n % 4611686018427387904 := by
  obtain ⟨m, hm, hml⟩ : ∃ m : Nat, (BitVec.ofInt 64 n).toNat = m ∧ (m : Int) % 4611686018427387904 = n % 4611686018427387904 := by
    refine ⟨_, rfl, ?_⟩
    rw [BitVec.toNat_ofInt]
    omega
  have h3 : (BitVec.ofInt 64 (4611686018427387903 : Int)).toNat = 4611686018427387903 := by decide +kernel
  show IntKind.i64.wrap ((BitVec.ofInt 64 n &&& BitVec.ofInt 64 (4611686018427387903 : Int)).toNat : Int) = _
  have e : m &&& 4611686018427387903 = m % 4611686018427387904 := Nat.and_two_pow_sub_one_eq_mod m 62
  rw [BitVec.toNat_and, hm, h3, e, wrapI _ (by omega) (by omega)]
  omega
end Go.Proofs.YteigldfdaciopaaGreatDoor
