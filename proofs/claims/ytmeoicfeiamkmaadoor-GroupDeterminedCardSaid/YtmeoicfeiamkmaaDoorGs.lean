/-
  What group's functions return: elements, products, powers, scalars and points of digests.
-/
import Derived.Test.YtmeoicfeiamkmaaDoorGq
namespace Go.Proofs.YtmeoicfeiamkmaaDoor
set_option linter.unusedVariables false

/-- a is an element. -/
def IsEl (a : Int) : Prop := 1 ≤ a ∧ a < 4611686018427377339 ∧ El a.toNat
theorem IsEl.nat {a : Int} (h : IsEl a) : ∃ n : Nat, a = (n : Int) ∧ 0 < n ∧ n < 4611686018427377339 ∧ El n :=
  ⟨a.toNat, by have := h.1; omega, by have := h.1; omega, by have := h.2.1; omega, h.2.2⟩
theorem isEl_of {n : Nat} (h0 : n < 4611686018427377339) (h : El n) : IsEl (n : Int) := by
  have h1 := h.ne
  refine ⟨?_, by omega, by rw [Int.toNat_natCast]; exact h⟩
  have : n ≠ 0 := fun e => h1 (by rw [e])
  omega
open Classical in
noncomputable def chkR (a : Int) : Int := if IsEl a then 0 else 40
open Classical in
noncomputable def mulR (a b : Int) : Int × Int := if IsEl a ∧ IsEl b then (((a.toNat * b.toNat % 4611686018427377339 : Nat) : Int), 0) else (0, 40)
open Classical in
noncomputable def invR (a : Int) : Int × Int := if IsEl a then (((a.toNat ^ (oQ - 1) % 4611686018427377339 : Nat) : Int), 0) else (0, 40)
open Classical in
noncomputable def expR (a k : Int) : Int × Int := if IsEl a then (if 0 ≤ k ∧ k < 2305843009213688669 then (((a.toNat ^ k.toNat % 4611686018427377339 : Nat) : Int), 0) else (0, 1)) else (0, 40)

theorem chkR_ok {a : Int} (h : IsEl a) : chkR a = 0 := if_pos h
theorem chkR_bad {a : Int} (h : ¬ IsEl a) : chkR a = 40 := if_neg h
theorem mulR_ok {a b : Nat} (ha : IsEl a) (hb : IsEl b) : mulR a b = (((a * b % 4611686018427377339 : Nat) : Int), 0) := by
  unfold mulR; rw [if_pos ⟨ha, hb⟩, Int.toNat_natCast, Int.toNat_natCast]
theorem mulR_bad1 {a b : Int} (h : ¬ IsEl a) : mulR a b = (0, 40) := if_neg fun hh => h hh.1
theorem mulR_bad2 {a b : Int} (h : ¬ IsEl b) : mulR a b = (0, 40) := if_neg fun hh => h hh.2
theorem invR_ok {a : Nat} (ha : IsEl a) : invR a = (((a ^ (oQ - 1) % 4611686018427377339 : Nat) : Int), 0) := by
  unfold invR; rw [if_pos ha, Int.toNat_natCast]
theorem invR_bad {a : Int} (h : ¬ IsEl a) : invR a = (0, 40) := if_neg h
theorem expR_ok {a k : Nat} (ha : IsEl a) (hk : k < 2305843009213688669) : expR a k = (((a ^ k % 4611686018427377339 : Nat) : Int), 0) := by
  unfold expR; rw [if_pos ha, if_pos ⟨by omega, by omega⟩, Int.toNat_natCast, Int.toNat_natCast]
theorem expR_bad {a k : Int} (h : ¬ IsEl a) : expR a k = (0, 40) := if_neg h
theorem expR_arg {a k : Int} (ha : IsEl a) (h : ¬ (0 ≤ k ∧ k < 2305843009213688669)) : expR a k = (0, 1) := by unfold expR; rw [if_pos ha, if_neg h]

/-- The number of a digest, the most significant byte first. -/
def numD (l : List UInt8) : Nat := l.foldl (fun n c => 256 * n + c.toNat) 0
/-- Its remainder, byte after byte. -/
def restD (m : Nat) (l : List UInt8) : Nat := l.foldl (fun n c => (256 * n + c.toNat) % m) 0
theorem rest_aux (m : Nat) : ∀ (l : List UInt8) (n k : Nat), n = k % m → l.foldl (fun n c => (256 * n + c.toNat) % m) n = l.foldl (fun n c => 256 * n + c.toNat) k % m
  | [], n, k, h => h
  | c :: l, n, k, h => by
    rw [List.foldl_cons, List.foldl_cons]
    refine rest_aux m l _ _ ?_
    rw [h, Nat.add_mod, Nat.mul_mod, Nat.mod_mod, ← Nat.mul_mod, ← Nat.add_mod]
theorem restD_eq (m : Nat) (l : List UInt8) : restD m l = numD l % m := rest_aux m l 0 0 (Nat.zero_mod m).symm
def scalS (l : List UInt8) : Nat := 1 + numD l % 2305843009213688668
def ptX (l : List UInt8) : Nat := 2 + numD l % 4611686018427377336
def ptS (l : List UInt8) : Nat := ptX l * ptX l % 4611686018427377339
theorem scalS_bd (l : List UInt8) : 1 ≤ scalS l ∧ scalS l < 2305843009213688669 := by unfold scalS; omega
theorem ptX_bd (l : List UInt8) : 2 ≤ ptX l ∧ ptX l ≤ 4611686018427377337 := by unfold ptX; omega
theorem ptS_lt (l : List UInt8) : ptS l < 4611686018427377339 := Nat.mod_lt _ (by decide)
theorem ptS_el (l : List UInt8) : El (ptS l) := El.sq (by have := ptX_bd l; omega)
theorem ptS_ne (l : List UInt8) : ptS l ≠ 1 := fun h => by
  have h1 := ptX_bd l
  rcases sq_one h with h2 | h2 <;> omega
end Go.Proofs.YtmeoicfeiamkmaaDoor
