/-
  Package field's powers: the iterator over an exponent's bits, the closure that multiplies, the loop over both.
-/
import Derived.Test.YtmeoicfeiamkmaaDoorFb
import Derived.RangeFuncNested
import Derived.RangeFuncBound
import Derived.RangeFuncCalls
import Derived.RangeFuncLeaves
import Derived.Shelf.Abstract
import Derived.Shelf.RegionOpen
import Derived.OwnWalkIn
import Derived.TacticsInMore
import Derived.LoopNIn
import Derived.LoopIn
import Derived.Laws.EntriesVeiled
namespace Go.Proofs.YtmeoicfeiamkmaaDoor
open Go.RowKit Go.Shelf
set_option linter.unusedVariables false
set_option linter.unusedSimpArgs false
attribute [local go_sem] Oper.semAt_some

/-- The bits of n that have come behind j rounds, k bits in all, the most significant one first. -/
def upB (n k j : Nat) : List Bool := (List.range j).map fun t => decide (n / 2 ^ (k - 1 - t) % 2 = 1)
theorem upB_len (n k j : Nat) : (upB n k j).length = j := by simp [upB]
theorem upB_succ (n k j : Nat) : upB n k (j + 1) = upB n k j ++ [decide (n / 2 ^ (k - 1 - j) % 2 = 1)] := by simp [upB, List.range_succ]
/-- The number of bits. -/
def valB (l : List Bool) : Nat := l.foldl (fun v b => 2 * v + b.toNat) 0
theorem valB_snoc (l : List Bool) (b : Bool) : valB (l ++ [b]) = 2 * valB l + b.toNat := by simp [valB]
theorem valB_up (n k : Nat) (hn : n < 2 ^ k) : ∀ j, j ≤ k → valB (upB n k j) = n / 2 ^ (k - j) := by
  intro j
  induction j with
  | zero => intro _; rw [Nat.sub_zero, Nat.div_eq_of_lt hn]; rfl
  | succ j ih =>
    intro hj
    rw [upB_succ, valB_snoc, ih (by omega)]
    have e : k - j = (k - 1 - j) + 1 := by omega
    have e2 : k - (j + 1) = k - 1 - j := by omega
    rw [e2, e, Nat.pow_succ, ← Nat.div_div_eq_div_mul]
    generalize n / 2 ^ (k - 1 - j) = x
    by_cases h : x % 2 = 1
    · simp only [h, decide_true, Bool.toNat_true]; omega
    · simp only [h, decide_false, Bool.toNat_false]; omega

theorem bitLenAux_le : ∀ (f m x : Nat), x < 2 ^ m → Lib.bitLenAux f x ≤ m := by
  intro f
  induction f with
  | zero => intro m x _; exact Nat.zero_le _
  | succ f ih =>
    intro m x h
    unfold Lib.bitLenAux
    by_cases h0 : x = 0
    · rw [if_pos h0]; exact Nat.zero_le _
    · rw [if_neg h0]
      cases m with
      | zero => simp at h; exact absurd h h0
      | succ m => have := ih m (x / 2) (by rw [Nat.pow_succ] at h; omega); omega
theorem lt_bitLenAux : ∀ (f x : Nat), x < 2 ^ f → x < 2 ^ Lib.bitLenAux f x := by
  intro f
  induction f with
  | zero => intro x h; exact h
  | succ f ih =>
    intro x h
    unfold Lib.bitLenAux
    by_cases h0 : x = 0
    · rw [if_pos h0, h0]; decide
    · rw [if_neg h0]
      have := ih (x / 2) (by rw [Nat.pow_succ] at h; omega)
      rw [Nat.add_comm, Nat.pow_succ]; omega
theorem bitLen_lt (n : Nat) (hn : n < 9223372036854775808) : Lib.bitLen n ≤ 63 ∧ n < 2 ^ Lib.bitLen n :=
  ⟨bitLenAux_le 64 63 n (by omega), lt_bitLenAux 64 n (by omega)⟩

theorem and_i64 (a b : Nat) (ha : a < 9223372036854775808) (hb : b < 9223372036854775808) : bits .and .i64 (a : Int) (b : Int) = ((a &&& b : Nat) : Int) := by
  have hx : a &&& b < 2 ^ 63 := Nat.and_lt_two_pow _ (by omega)
  have h1 : (BitVec.ofInt 64 (a : Int)).toNat = a := by
    rw [BitVec.ofInt_natCast, BitVec.toNat_ofNat]; exact Nat.mod_eq_of_lt (by omega)
  have h2 : (BitVec.ofInt 64 (b : Int)).toNat = b := by
    rw [BitVec.ofInt_natCast, BitVec.toNat_ofNat]; exact Nat.mod_eq_of_lt (by omega)
  show IntKind.i64.wrap ((BitVec.ofInt 64 (a : Int) &&& BitVec.ofInt 64 (b : Int)).toNat : Int) = _
  rw [BitVec.toNat_and, h1, h2]
  exact wrapI _ (by omega) (by omega)
theorem bit_of (n m : Nat) (hn : n < 9223372036854775808) (hm : m ≤ 63) : (bits .and .i64 ((n : Int) / 2 ^ m) 1 == 1) = decide (n / 2 ^ m % 2 = 1) := by
  have e : (n : Int) / 2 ^ m = ((n / 2 ^ m : Nat) : Int) := by simp
  rw [e]
  have hx : n / 2 ^ m < 9223372036854775808 := Nat.lt_of_le_of_lt (Nat.div_le_self _ _) hn
  generalize n / 2 ^ m = x at *
  have e2 : bits .and .i64 (x : Int) 1 = ((x % 2 : Nat) : Int) := by
    have h := and_i64 x 1 hx (by omega)
    rw [Nat.and_one_is_mod] at h; exact h
  rw [e2]
  by_cases h : x % 2 = 1
  · rw [h]; rfl
  · have h0 : x % 2 = 0 := by omega
    rw [h0]; rfl

theorem cellNew (W : World) (v : Value) (t : TypeId) : (W.alloc (.cells #[v] t)).cell? ⟨W.heap.size, 0, none⟩ = some v ∧ (W.alloc (.cells #[v] t)).frozen? ⟨W.heap.size, 0, none⟩ = false := by simp
theorem cellAlloc {W : World} {a : Addr} {v : Value} (o : Obj) (h : W.cell? a = some v) : (W.alloc o).cell? a = some v := cell_kept h (World.grownBy_alloc W o none) (fun r e => by cases e)
theorem frozenAlloc {W : World} {a : Addr} {v : Value} (o : Obj) (h : W.cell? a = some v) (hf : W.frozen? a = false) : (W.alloc o).frozen? a = false := (frozen_kept h (World.grownBy_alloc W o none) (fun r e => by cases e)).trans hf
theorem KeepsOthers.drewN (W : World) (k : Nat) : KeepsOthers W (W.drewN k) := ⟨Nat.le_refl _, fun _ _ h _ => h⟩
/-- What the bits that have come make of the base. -/
theorem pow_bit (a v : Nat) (b : Bool) : (if b then (a ^ v % 2305843009213688669) * (a ^ v % 2305843009213688669) % 2305843009213688669 * a % 2305843009213688669 else (a ^ v % 2305843009213688669) * (a ^ v % 2305843009213688669) % 2305843009213688669) = a ^ (2 * v + b.toNat) % 2305843009213688669 := by
  have e : (a ^ v % 2305843009213688669) * (a ^ v % 2305843009213688669) % 2305843009213688669 = a ^ (2 * v) % 2305843009213688669 := by
    rw [← Nat.mul_mod, ← Nat.pow_add, Nat.two_mul]
  rw [e]
  cases b
  · rfl
  · simp only [if_true, Bool.toNat_true]
    rw [Nat.pow_succ, Nat.mod_mul_mod]

end Go.Proofs.YtmeoicfeiamkmaaDoor
