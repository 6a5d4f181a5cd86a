/-
  Package proxy, as numbers and bytes: inverses of private keys, what Open finds in a capsule, factors, masks.
-/
import Derived.Test.YteigldfdaciopaaGreatDoorPkN
import Derived.Test.YteigldfdaciopaaGreatDoorPkF
import Derived.Test.YteigldfdaciopaaGreatDoorSs
import Derived.Test.YteigldfdaciopaaGreatDoorPkB
namespace Go.Proofs.YteigldfdaciopaaGreatDoor
open Go.RowKit
set_option linter.unusedVariables false
set_option linter.unusedSimpArgs false

def tagPad : List UInt8 := [112, 97, 100]
/-- The mask of an element; keys combined. -/
def pmS (m : Int) : List UInt8 := tagS tagPad (be8 m)
theorem pmS_len (m : Int) : (pmS m).length = 32 := tagS_len _ _
def kxor (a b : List UInt8) : List UInt8 := List.zipWith (fun x y => x ^^^ y) a b
theorem kxor_len {a b : List UInt8} (ha : a.length = 32) (hb : b.length = 32) : (kxor a b).length = 32 := by simp [kxor, ha, hb]
theorem kxor_back {a b : List UInt8} (h : a.length = b.length) : kxor (kxor a b) b = a := by
  unfold kxor
  apply List.ext_getElem
  · simp [h]
  · intro i h1 h2
    simp [UInt8.xor_assoc]
theorem kxor_cancel {a b c : List UInt8} (h : a.length = b.length) (h2 : a.length = c.length) : kxor (kxor a b) c = a ↔ b = c := by
  constructor
  · intro e
    apply List.ext_getElem (by omega)
    intro i h3 h4
    have hi : i < a.length := by omega
    have e2 : (kxor (kxor a b) c)[i]? = a[i]? := by rw [e]
    simp only [kxor, List.getElem?_zipWith, List.getElem?_eq_getElem hi, List.getElem?_eq_getElem h3, List.getElem?_eq_getElem h4, Option.map_some, Option.bind_some] at e2
    have e3 : a[i] ^^^ b[i] ^^^ c[i] = a[i] := by simpa using e2
    have e4 : b[i] ^^^ c[i] = 0 := by
      have := congrArg (fun x => a[i] ^^^ x) e3
      simpa [UInt8.xor_assoc, ← UInt8.xor_assoc] using this
    have e5 := congrArg (fun x => x ^^^ c[i]) e4
    simpa [UInt8.xor_assoc] using e5
  · rintro rfl
    exact kxor_back h
/-- A private key; its inverse modulo Q. -/
def PkQ (x : Nat) : Prop := 1 ≤ x ∧ x < 2305843009213688669
def fvR (x : Nat) : Nat := x ^ (kQ - 1) % 2305843009213688669
theorem fvR_lt (x : Nat) : fvR x < 2305843009213688669 := Nat.mod_lt _ (by decide)
theorem fvR_mul {x : Nat} (h : PkQ x) : x * fvR x % 2305843009213688669 = 1 := by
  unfold fvR
  rw [Nat.mul_mod_mod, Nat.mul_comm, ← Nat.pow_succ, show (kQ - 1).succ = kQ from by unfold kQ; rfl]
  exact fermatQ x (by rw [Nat.mod_eq_of_lt h.2]; have := h.1; omega)
theorem fvR_key {x : Nat} (h : PkQ x) : PkQ (fvR x) := by
  refine ⟨?_, fvR_lt x⟩
  have h1 := fvR_mul h
  rcases Nat.eq_zero_or_pos (fvR x) with h2 | h2
  · rw [h2, Nat.mul_zero] at h1; exact absurd h1 (by decide)
  · exact h2
theorem cmQ {a b c d : Nat} (h1 : a % 2305843009213688669 = c % 2305843009213688669) (h2 : b % 2305843009213688669 = d % 2305843009213688669) : a * b % 2305843009213688669 = c * d % 2305843009213688669 := by
  rw [Nat.mul_mod, h1, h2, ← Nat.mul_mod]
theorem cmP {a b c d : Nat} (h1 : a % 4611686018427377339 = c % 4611686018427377339) (h2 : b % 4611686018427377339 = d % 4611686018427377339) : a * b % 4611686018427377339 = c * d % 4611686018427377339 := by
  rw [Nat.mul_mod, h1, h2, ← Nat.mul_mod]
theorem El.redx {a j k : Nat} (ha : El a) (h : j % 2305843009213688669 = k % 2305843009213688669) : a ^ j % 4611686018427377339 = a ^ k % 4611686018427377339 := by
  rw [← ha.red j, ← ha.red k, oQ_eq, h]
theorem El.two {a : Nat} (ha : El a) (j k : Nat) : (a ^ j % 4611686018427377339) ^ k % 4611686018427377339 = a ^ (j * k) % 4611686018427377339 := by
  rw [ha.times, ha.red]
/-- The factor from x to y. -/
def fcS (x y : Nat) : Nat := y * fvR x % 2305843009213688669
theorem mulQ_key {x y : Nat} (hx : PkQ x) (hy : PkQ y) : PkQ (x * y % 2305843009213688669) := by
  refine ⟨?_, Nat.mod_lt _ (by decide)⟩
  rcases Nat.eq_zero_or_pos (x * y % 2305843009213688669) with h | h
  · exfalso
    rcases eucQ x y (Nat.dvd_of_mod_eq_zero h) with h1 | h1
    · have := Nat.le_of_dvd hx.1 h1; have := hx.2; omega
    · have := Nat.le_of_dvd hy.1 h1; have := hy.2; omega
  · exact h
theorem fcS_key {x y : Nat} (hx : PkQ x) (hy : PkQ y) : PkQ (fcS x y) := mulQ_key hy (fvR_key hx)
theorem fcS_mul {x y z : Nat} (hy : PkQ y) : fcS x y * fcS y z % 2305843009213688669 = fcS x z := by
  unfold fcS
  rw [← Nat.mul_mod, show y * fvR x * (z * fvR y) = (z * fvR x) * (y * fvR y) by ac_rfl, Nat.mul_mod, fvR_mul hy, Nat.mul_one, Nat.mod_mod]
theorem fcS_self {x : Nat} (hx : PkQ x) : fcS x x = 1 := fvR_mul hx
theorem fcS_back {x y : Nat} (hx : PkQ x) (hy : PkQ y) : fcS x y * fcS y x % 2305843009213688669 = 1 := by rw [fcS_mul hy, fcS_self hx]
/-- What a private key finds in a capsule. -/
def opM (x A B : Nat) : Nat := B * ((A ^ fvR x % 4611686018427377339) ^ (oQ - 1) % 4611686018427377339) % 4611686018427377339
def lkA (p r : Nat) : Nat := p ^ r % 4611686018427377339
def lkB (r s : Nat) : Nat := (4 ^ s % 4611686018427377339) * (4 ^ r % 4611686018427377339) % 4611686018427377339
theorem pub_pow {x : Nat} (hx : PkQ x) (r : Nat) : lkA (4 ^ x % 4611686018427377339) r ^ fvR x % 4611686018427377339 = 4 ^ r % 4611686018427377339 := by
  unfold lkA
  rw [El4.two x r, El4.two (x * r) (fvR x)]
  refine El4.redx ?_
  rw [show x * r * fvR x = x * fvR x * r by ac_rfl, Nat.mul_mod, fvR_mul hx, Nat.one_mul, Nat.mod_mod]
theorem El.undo {g : Nat} (hg : El g) (m : Nat) : (m * g % 4611686018427377339) * (g ^ (oQ - 1) % 4611686018427377339) % 4611686018427377339 = m % 4611686018427377339 := by
  rw [Nat.mod_mul_mod, Nat.mul_assoc, Nat.mul_mod, hg.inv, Nat.mul_one, Nat.mod_mod]
/-- The main theorem in numbers: what was locked is found. -/
theorem opM_lock {x : Nat} (hx : PkQ x) (r s : Nat) : opM x (lkA (4 ^ x % 4611686018427377339) r) (lkB r s) = 4 ^ s % 4611686018427377339 := by
  unfold opM lkB
  rw [pub_pow hx, (El4.pow r).undo, Nat.mod_mod]
/-- Turned by the factor, the other key finds it. -/
theorem turn_pow {x y A : Nat} (hA : El A) (hx : PkQ x) (hy : PkQ y) : (A ^ fcS x y % 4611686018427377339) ^ fvR y % 4611686018427377339 = A ^ fvR x % 4611686018427377339 := by
  rw [hA.two]
  refine hA.redx ?_
  unfold fcS
  rw [Nat.mod_mul_mod, show y * fvR x * fvR y = y * fvR y * fvR x by ac_rfl, Nat.mul_mod, fvR_mul hy, Nat.one_mul, Nat.mod_mod]
theorem opM_turn {x y A : Nat} (B : Nat) (hA : El A) (hx : PkQ x) (hy : PkQ y) : opM y (A ^ fcS x y % 4611686018427377339) B = opM x A B := by
  unfold opM
  rw [turn_pow hA hx hy]
theorem turn_two {A : Nat} (hA : El A) (m n : Nat) : (A ^ m % 4611686018427377339) ^ n % 4611686018427377339 = A ^ (m * n % 2305843009213688669) % 4611686018427377339 := hA.times m n
theorem turn_fc {x y z A : Nat} (hA : El A) (hy : PkQ y) : (A ^ fcS x y % 4611686018427377339) ^ fcS y z % 4611686018427377339 = A ^ fcS x z % 4611686018427377339 := by
  rw [turn_two hA, fcS_mul hy]
theorem turn_back {x A : Nat} (hA : El A) (hl : A < 4611686018427377339) (hx : PkQ x) : (A ^ x % 4611686018427377339) ^ fvR x % 4611686018427377339 = A := hA.root hl (fvR_mul hx)
/-- Another private key finds another element. -/
theorem opM_other {x y : Nat} (hx : PkQ x) (hy : PkQ y) (hne : x ≠ y) {r : Nat} (hr : PkQ r) (s : Nat) : opM x (lkA (4 ^ x % 4611686018427377339) r) (lkB r s) ≠ opM y (lkA (4 ^ x % 4611686018427377339) r) (lkB r s) := by
  intro e
  have hB : El (lkB r s) := (El4.pow s).mul (El4.pow r)
  have hA : El (lkA (4 ^ x % 4611686018427377339) r) := (El4.pow x).pow r
  unfold opM at e
  rw [pub_pow hx] at e
  have hlt : ∀ k, k % 4611686018427377339 < 4611686018427377339 := fun k => Nat.mod_lt _ (by decide)
  -- both inverses are equal, so both powers are
  have c : ∀ {g h : Nat}, El g → El h → g < 4611686018427377339 → h < 4611686018427377339 → lkB r s * (g ^ (oQ - 1) % 4611686018427377339) % 4611686018427377339 = lkB r s * (h ^ (oQ - 1) % 4611686018427377339) % 4611686018427377339 → g = h := by
    intro g h hg hh lg lh eq
    have u : ∀ {k : Nat}, El k → k < 4611686018427377339 → (lkB r s * (k ^ (oQ - 1) % 4611686018427377339) % 4611686018427377339) * k % 4611686018427377339 = lkB r s % 4611686018427377339 := fun {k} hk lk => by
      rw [Nat.mod_mul_mod, Nat.mul_assoc, Nat.mul_mod, Nat.mul_comm (k ^ (oQ - 1) % _) k, hk.inv, Nat.mul_one, Nat.mod_mod]
    have q : ∀ {k : Nat}, El k → k < 4611686018427377339 → (lkB r s * (k ^ (oQ - 1) % 4611686018427377339) % 4611686018427377339) ^ (oQ - 1) * (lkB r s) % 4611686018427377339 = k := fun {k} hk lk => by
      have hT : El (lkB r s * (k ^ (oQ - 1) % 4611686018427377339) % 4611686018427377339) := hB.mul (hk.pow _)
      generalize hD : lkB r s * (k ^ (oQ - 1) % 4611686018427377339) % 4611686018427377339 = T at *
      have u1 := u hk lk
      rw [hD] at u1
      have : T ^ (oQ - 1) * lkB r s % 4611686018427377339 = T ^ (oQ - 1) * (T * k) % 4611686018427377339 := cmP rfl (u1.symm)
      rw [this, ← Nat.mul_assoc, Nat.mul_comm (T ^ (oQ - 1)) T, Nat.mul_mod, ← Nat.mul_mod_mod T, hT.inv, Nat.one_mul, Nat.mod_mod, Nat.mod_eq_of_lt lk]
    rw [← q hg lg, eq, q hh lh]
  have h1 := c (El4.pow r) (hA.pow (fvR y)) (hlt _) (hlt _) e
  have h2 : lkA (4 ^ x % 4611686018427377339) r ^ fvR y % 4611686018427377339 = 4 ^ (x * r * fvR y % 2305843009213688669) % 4611686018427377339 := by
    unfold lkA
    rw [El4.two x r, El4.two (x * r) (fvR y)]
    exact El4.redx (by rw [Nat.mod_mod])
  rw [h2] at h1
  have h3 := pow4_inj hr.2 (Nat.mod_lt _ (by decide)) h1
  have h4 : r * y % 2305843009213688669 = x * r % 2305843009213688669 := by
    have h5 : r * y % 2305843009213688669 = x * r * fvR y * y % 2305843009213688669 := cmQ ((congrArg (· % 2305843009213688669) h3).trans (Nat.mod_mod _ _)) rfl
    rw [h5, show x * r * fvR y * y = y * fvR y * (x * r) by ac_rfl, Nat.mul_mod, fvR_mul hy, Nat.one_mul, Nat.mod_mod]
  have hxl := hx.2
  have hyl := hy.2
  have hrl := hr.1
  have hr2 := hr.2
  rcases Nat.lt_or_ge x y with h | h
  · have hd : 2305843009213688669 ∣ r * (y - x) := by
      rw [Nat.mul_sub, Nat.mul_comm r x]
      exact Nat.dvd_of_mod_eq_zero (Nat.sub_mod_eq_zero_of_mod_eq h4)
    rcases eucQ _ _ hd with h6 | h6
    · have := Nat.le_of_dvd (by omega) h6; omega
    · have := Nat.le_of_dvd (by omega) h6; omega
  · have hd : 2305843009213688669 ∣ r * (x - y) := by
      rw [Nat.mul_sub, Nat.mul_comm r x]
      exact Nat.dvd_of_mod_eq_zero (Nat.sub_mod_eq_zero_of_mod_eq h4.symm)
    rcases eucQ _ _ hd with h6 | h6
    · have := Nat.le_of_dvd (by omega) h6; omega
    · have := Nat.le_of_dvd (by omega) h6; omega
end Go.Proofs.YteigldfdaciopaaGreatDoor
