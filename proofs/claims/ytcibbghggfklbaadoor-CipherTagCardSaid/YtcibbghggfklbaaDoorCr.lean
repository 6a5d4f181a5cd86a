/-
  Rotations: RotateLeft32 of math/bits, rol of the reference; words of bytes.
-/
import Derived.Test.YtcibbghggfklbaaDoorCa
import Derived.Test.YtcibbghggfklbaaDoorPkB
namespace Go.Proofs.YtcibbghggfklbaaDoor
open Go.RowKit
set_option linter.unusedVariables false
set_option linter.unusedSimpArgs false

theorem rot_andp (n : Nat) (hn : n = 7 ∨ n = 8 ∨ n = 12 ∨ n = 16) : bits .and .u64 (n : Int) 31 = (n : Int) := by
  rcases hn with rfl | rfl | rfl | rfl <;> decide +kernel
set_option maxHeartbeats 400000 in
theorem rotL (x n : Nat) (i : Int) (hi : i = (n : Int)) (hn : n = 7 ∨ n = 8 ∨ n = 12 ∨ n = 16) (w : World) :
    Calls Tryd.prog 40 #[.int .u32 x, .int .i64 i] w fun e w' => e = .returned (.int .u32 (crol x n)) ∧ w' = w := by
  subst hi
  have h0 := rot_andp n hn
  have h2 : n ≤ 31 := by omega
  have h1 : (32 - (n : Int)).toNat = 32 - n := by omega
  have h3 : (n : Int).toNat = n := by omega
  have h4 : IntKind.u64.wrap (32 - (n : Int)) = 32 - (n : Int) := by simp [IntKind.wrap, IntKind.bits, IntKind.signed]; omega
  clear hn
  go_enter Tryd.func40, Tryd.ntmps40
  go_wp2_with fail
  go_ret
  exact ⟨ret_u32 (by rw [w_shr, w_shl, w_or]; rfl), rfl⟩

set_option maxHeartbeats 400000 in
theorem refRol (x n : Nat) (i : Int) (hi : i = (n : Int)) (hn : n = 7 ∨ n = 8 ∨ n = 12 ∨ n = 16) (w : World) :
    Calls Tryd.prog 41 #[.int .u32 x, .int .i64 i] w fun e w' => e = .returned (.int .u32 (crol x n)) ∧ ∃ k, w' = w.drewN k := by
  subst hi
  have h2 : n ≤ 31 := by omega
  clear hn
  go_enter Tryd.func41, Tryd.ntmps41
  go_wp2_with fail
  go_quiet (fail)
  go_wp2_with fail
  go_ret
  exact ⟨ret_u32 (by rw [w_shr, w_shl, w_or]; rfl), _, rfl⟩
end Go.Proofs.YtcibbghggfklbaaDoor
