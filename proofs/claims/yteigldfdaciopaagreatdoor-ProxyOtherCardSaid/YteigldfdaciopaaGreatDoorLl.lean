/-
  The statements of proxy: private keys of numbers; operations with a known value; numbers of capsules.
-/
import Derived.Test.YteigldfdaciopaaGreatDoorLk
import Derived.Test.YteigldfdaciopaaGreatDoorPkF
namespace Go.Proofs.YteigldfdaciopaaGreatDoor
open Go.RowKit
set_option linter.unusedVariables false
set_option linter.unusedSimpArgs false

theorem exEq {α : Type} (a : α) : ∃ b, a = b := ⟨a, rfl⟩
theorem wpList_run {P : Program} {ops : Array Oper} {rest : List Oper} {o : Oper} {a : Act} {w : World} {Q : Exit → Act → World → Prop} (hw : Region.wanted o (yielded ops a.tmps) = true) (v : Value) (hr : (execOp a.eval o).run P w = .ok (.value v) w)
    (h : wpList P ops Q rest (a.put o.dst v) w) : wpList P ops Q (o :: rest) a w :=
  wpList_step fun K hK => by
    rw [if_pos hw]
    unfold Oper.wp
    rw [hr]
    exact hK _ _ h
/-- The private key that a number determines. -/
def kyQ (n : Int) : Nat := 1 + (n % 4611686018427387904).toNat % 2305843009213688668
theorem kyQ_pk (n : Int) : PkQ (kyQ n) := by unfold PkQ kyQ; omega
set_option maxRecDepth 100000 in
theorem rKey11_any (n : Int) (h : -9223372036854775808 ≤ n) (h2 : n < 9223372036854775808) (w : World) :
    Calls Tryz.prog 17 #[.int .i64 n] w fun e w' => e = .returned (.int .i64 (kyQ n : Nat)) ∧ w' = w := by
  have k := and62 n h h2
  have hk : kyQ n = 1 + (n % 4611686018427387904).toNat % 2305843009213688668 := rfl
  obtain ⟨m, hm⟩ : ∃ m : Nat, n % 4611686018427387904 = (m : Int) := ⟨(n % 4611686018427387904).toNat, by omega⟩
  rw [hm] at k
  rw [show (n % 4611686018427387904).toNat = m by omega] at hk
  have hml : m < 4611686018427387904 := by omega
  have c1 : (m : Int).tmod 2305843009213688668 = ((m % 2305843009213688668 : Nat) : Int) := by rw [Int.tmod_eq_emod_of_nonneg (by omega)]; omega
  have hq : m % 2305843009213688668 < 2305843009213688669 := by omega
  generalize m % 2305843009213688668 = q at *
  have c2 := wrapI (q : Int) (by omega) (by omega)
  have c3 := wrapI (1 + (q : Int)) (by omega) (by omega)
  generalize kyQ n = y at *
  have HE : Hid (1 + (q : Int) = (y : Int)) := Lib.hid (by omega)
  clear hk hm
  go_enter Tryz.func17, Tryz.ntmps17
  go_wp2_with fail
  go_ret
  exact ⟨by rw [← HE.out]; rfl, rfl⟩
theorem lk_isA {x : Nat} (S : List UInt8) : IsEl ((lkA (4 ^ x % 4611686018427377339) (lkR S) : Nat) : Int) := pow_isP (El4.pow x) _
theorem lk_isB (S : List UInt8) : IsEl ((lkB (lkR S) (lkM S) : Nat) : Int) := mul_isP (pow_isP El4 _) (pow_isP El4 _)
theorem lk_open {x : Nat} (hx : PkQ x) (S : List UInt8) {K : List UInt8} (hK : K.length = 32) : kxor (lkX S K) (pmS ((opM x (lkA (4 ^ x % 4611686018427377339) (lkR S)) (lkB (lkR S) (lkM S)) : Nat) : Int)) = K := by
  rw [opM_lock hx]
  exact kxor_back (by rw [hK, pmS_len])
theorem lk_elA {x : Nat} (S : List UInt8) : El (lkA (4 ^ x % 4611686018427377339) (lkR S)) := (El4.pow x).pow _
/-- Example keys. -/
def exP (c : UInt8) : List UInt8 := c :: List.replicate 31 0
theorem exP_len (c : UInt8) : (exP c).length = 32 := by simp [exP]
theorem exP7 : Tryz.prog.built 23 [(0, .int .u8 7)] = some (bvA (exP 7)) := by kernel_rfl
theorem exP8 : Tryz.prog.built 23 [(0, .int .u8 8)] = some (bvA (exP 8)) := by kernel_rfl
theorem pk5 : PkQ 5 := by unfold PkQ; omega
theorem pk6 : PkQ 6 := by unfold PkQ; omega
theorem pk1 : PkQ 1 := by unfold PkQ; omega
theorem not0 : ¬ IsEl (0 : Int) := fun h => by have := h.1; omega
theorem equal_capS (a b : Int) (l : List UInt8) (hl : l.length = 32) (w : World) : (Op.equalIn 10000 25 (.agg (capA a b l)) (.agg (capA a b l))).run Tryz.prog w = .ok true w := by
  rw [equal_cap a b a b l l hl hl, ceq_self]
theorem equal_keyM (l : List UInt8) (hl : l.length = 32) (w : World) : (Op.equalIn 10000 23 (.agg (l.map bv).toArray) (.agg (l.map bv).toArray)).run Tryz.prog w = .ok true w := equal_keyS l hl w
end Go.Proofs.YteigldfdaciopaaGreatDoor
