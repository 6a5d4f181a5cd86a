/-
  Words of 32 bits as natural numbers: the operations of a hash function, and what the model's operations on uint32 make of them.
-/
import Derived.Test.YtmeoicfeiamkmaaDoorChecked
import Derived.WalkKit
import Derived.WalkSpells
import Derived.WalkLawsBesides
import Derived.Lib.Hide
import Derived.Laws.Bits64
import Derived.Deep.QuietTactic
import Derived.BigQuiet
namespace Go.Proofs.YtmeoicfeiamkmaaDoor
open Go.RowKit

def uadd (a b : Nat) : Nat := (a + b) % 4294967296
def uxor (a b : Nat) : Nat := (a ^^^ b) % 4294967296
def uand (a b : Nat) : Nat := (a &&& b) % 4294967296
def uor (a b : Nat) : Nat := (a ||| b) % 4294967296
def unot (a : Nat) : Nat := uxor 4294967295 a
def ushr (a n : Nat) : Nat := a / 2 ^ n
def ushl (a n : Nat) : Nat := a * 2 ^ n % 4294967296
def uror (a n : Nat) : Nat := uor (ushr a n) (ushl a (32 - n))

theorem wrap_u32n (n : Int) : IntKind.u32.wrap n = n % 4294967296 := by simp [IntKind.wrap, IntKind.bits, IntKind.signed]
theorem w_add (a b : Nat) : ((a : Int) + (b : Int)) % 4294967296 = ((uadd a b : Nat) : Int) := by unfold uadd; omega
theorem w_xor (a b : Nat) : bits .xor .u32 (a : Int) (b : Int) = ((uxor a b : Nat) : Int) := by
  show IntKind.u32.wrap ((BitVec.ofInt 32 (a : Int) ^^^ BitVec.ofInt 32 (b : Int)).toNat : Int) = _
  rw [BitVec.ofInt_natCast, BitVec.ofInt_natCast, BitVec.toNat_xor, BitVec.toNat_ofNat, BitVec.toNat_ofNat, ← Nat.xor_mod_two_pow, wrap_u32n]
  unfold uxor; omega
theorem w_and (a b : Nat) : bits .and .u32 (a : Int) (b : Int) = ((uand a b : Nat) : Int) := by
  show IntKind.u32.wrap ((BitVec.ofInt 32 (a : Int) &&& BitVec.ofInt 32 (b : Int)).toNat : Int) = _
  rw [BitVec.ofInt_natCast, BitVec.ofInt_natCast, BitVec.toNat_and, BitVec.toNat_ofNat, BitVec.toNat_ofNat, ← Nat.and_mod_two_pow, wrap_u32n]
  unfold uand; omega
theorem w_or (a b : Nat) : bits .or .u32 (a : Int) (b : Int) = ((uor a b : Nat) : Int) := by
  show IntKind.u32.wrap ((BitVec.ofInt 32 (a : Int) ||| BitVec.ofInt 32 (b : Int)).toNat : Int) = _
  rw [BitVec.ofInt_natCast, BitVec.ofInt_natCast, BitVec.toNat_or, BitVec.toNat_ofNat, BitVec.toNat_ofNat, ← Nat.or_mod_two_pow, wrap_u32n]
  unfold uor; omega
theorem w_not (a : Nat) : bits .xor .u32 IntKind.u32.max (a : Int) = ((unot a : Nat) : Int) := w_xor 4294967295 a
theorem w_add5 (a b c d e : Nat) : ((a : Int) + (b : Int) + (c : Int) + (d : Int) + (e : Int)) % 4294967296 = ((uadd (uadd (uadd (uadd a b) c) d) e : Nat) : Int) := by unfold uadd; omega
theorem w_shr (a n : Nat) : (a : Int) / 2 ^ n = ((ushr a n : Nat) : Int) := by unfold ushr; rw [Int.natCast_ediv, Int.natCast_pow]; rfl
theorem w_shl (a n : Nat) : (a : Int) * 2 ^ n % 4294967296 = ((ushl a n : Nat) : Int) := by unfold ushl; rw [Int.natCast_emod, Int.natCast_mul, Int.natCast_pow]; rfl
theorem uor_comm (a b : Nat) : uor a b = uor b a := by unfold uor; rw [Nat.or_comm]

theorem rot_and (n : Nat) (hn : 1 ≤ n) (hn2 : n ≤ 31) : bits .and .u64 (IntKind.u64.wrap (-(n : Int))) 31 = ((32 - n : Nat) : Int) := by
  have : n = 1 ∨ n = 2 ∨ n = 3 ∨ n = 4 ∨ n = 5 ∨ n = 6 ∨ n = 7 ∨ n = 8 ∨ n = 9 ∨ n = 10 ∨ n = 11 ∨ n = 12 ∨ n = 13 ∨ n = 14 ∨ n = 15 ∨ n = 16 ∨ n = 17 ∨ n = 18 ∨ n = 19 ∨ n = 20 ∨ n = 21 ∨ n = 22 ∨ n = 23 ∨ n = 24 ∨ n = 25 ∨ n = 26 ∨ n = 27 ∨ n = 28 ∨ n = 29 ∨ n = 30 ∨ n = 31 := by omega
  rcases this with rfl | rfl | rfl | rfl | rfl | rfl | rfl | rfl | rfl | rfl | rfl | rfl | rfl | rfl | rfl | rfl | rfl | rfl | rfl | rfl | rfl | rfl | rfl | rfl | rfl | rfl | rfl | rfl | rfl | rfl | rfl <;> decide +kernel

/-- Nothing but draws. -/
def Drew (w w' : World) : Prop := ∃ k, w' = w.drewN k
theorem Drew.refl (w : World) : Drew w w := ⟨0, rfl⟩
theorem Drew.mk (w : World) (k : Nat) : Drew w (w.drewN k) := ⟨k, rfl⟩
theorem ret_u32 {a b : Int} (h : a = b) : Ending.returned (.int .u32 a) = .returned (.int .u32 b) := by rw [h]

set_option maxHeartbeats 400000 in
theorem refRor (x n : Nat) (i : Int) (hi : i = (n : Int)) (hn : 1 ≤ n) (hn2 : n ≤ 31) (w : World) :
    Calls Tryd.prog 45 #[.int .u32 x, .int .i64 i] w fun e w' => e = .returned (.int .u32 (uror x n)) ∧ ∃ k, w' = w.drewN k := by
  subst hi
  go_enter Tryd.func45, Tryd.ntmps45
  go_wp2_with fail
  go_quiet (fail)
  go_wp2_with fail
  go_ret
  exact ⟨ret_u32 (by rw [w_shr, w_shl, w_or]; rfl), _, rfl⟩

set_option maxHeartbeats 400000 in
theorem rot32 (x n s : Nat) (i : Int) (hi : i = -(n : Int)) (HS : Hid (32 - s = n)) (HS' : Hid (32 - n = s)) (hs : 1 ≤ s) (hs2 : s ≤ 31) (w : World) :
    Calls Tryd.prog 50 #[.int .u32 x, .int .i64 i] w fun e w' => e = .returned (.int .u32 (uror x n)) ∧ w = w' := by
  subst hi
  have h0 : bits .and .u64 (IntKind.u64.wrap (-(n : Int))) 31 = (s : Int) := by rw [rot_and n (by have := HS.out; omega) (by have := HS.out; omega)]; have := HS.out; omega
  have h1 : (32 - (s : Int)).toNat = n := by have := HS.out; omega
  go_enter Tryd.func50, Tryd.ntmps50
  go_wp2_with fail
  go_ret
  exact ⟨ret_u32 (by rw [w_shr, w_shl, w_or, uor_comm]; unfold uror; rw [HS'.out]), rfl⟩

set_option maxHeartbeats 400000 in
theorem ror_any (x n : Nat) (i : Int) (hi : i = (n : Int)) (hn : 1 ≤ n) (hn2 : n ≤ 31) (w : World) :
    Calls Tryd.prog 48 #[.int .u32 x, .int .i64 i] w fun e w' => e = .returned (.int .u32 (uror x n)) ∧ w = w' := by
  subst hi
  go_enter Tryd.func48, Tryd.ntmps48
  go_wp2_with fail
  refine (rot32 x n (32 - n) _ rfl (Lib.hid (by omega)) (Lib.hid rfl) (by omega) (by omega) _).mono ?_
  rintro e w' ⟨rfl, rfl⟩
  go_wp2_with fail
  go_ret
  exact ⟨rfl, rfl⟩
end Go.Proofs.YtmeoicfeiamkmaaDoor
