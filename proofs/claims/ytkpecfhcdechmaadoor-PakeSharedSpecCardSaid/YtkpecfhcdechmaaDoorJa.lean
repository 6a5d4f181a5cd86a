/-
  Package pake, as numbers and bytes: masks, passwords, points, the shared element, keys and proofs; what both sides calculate.
-/
import Derived.Test.YtkpecfhcdechmaaDoorPkN
import Derived.Test.YtkpecfhcdechmaaDoorPkF
import Derived.Test.YtkpecfhcdechmaaDoorSs
import Derived.Test.YtkpecfhcdechmaaDoorPkB
namespace Go.Proofs.YtkpecfhcdechmaaDoor
open Go.RowKit
set_option linter.unusedVariables false
set_option linter.unusedSimpArgs false

def tagPake : List UInt8 := [112, 97, 107, 101]
def tagCode : List UInt8 := [99, 111, 100, 101]
def tagProof : List UInt8 := [112, 114, 111, 111, 102]
def bHost : List UInt8 := [104, 111, 115, 116]
def bGuest : List UInt8 := [103, 117, 101, 115, 116]
/-- The mask of a role; the password of a code; the mask to the power of the password. -/
def mkS (r : Int) : Nat := if r = 1 then ptS (tagS tagPake bHost) else ptS (tagS tagPake bGuest)
def pwS (c : Int) : Nat := scalS (tagS tagCode (be8 c))
def mdS (r c : Int) : Nat := mkS r ^ pwS c % 4611686018427377339
theorem mkS_el (r : Int) : El (mkS r) := by unfold mkS; split <;> exact ptS_el _
theorem mkS_lt (r : Int) : mkS r < 4611686018427377339 := by unfold mkS; split <;> exact ptS_lt _
theorem pwS_bd (c : Int) : 1 ≤ pwS c ∧ pwS c < 2305843009213688669 := scalS_bd _
theorem mdS_el (r c : Int) : El (mdS r c) := (mkS_el r).pow _
theorem mdS_lt (r c : Int) : mdS r c < 4611686018427377339 := Nat.mod_lt _ (by decide)
/-- A valid side; Check. -/
def okP (r c s : Int) : Prop := (1 ≤ r ∧ r ≤ 2) ∧ (0 ≤ c ∧ c ≤ 999999) ∧ (1 ≤ s ∧ s < 2305843009213688669)
instance (r c s : Int) : Decidable (okP r c s) := by unfold okP; infer_instance
def pkE (r c s : Int) : Int := if okP r c s then 0 else 100
/-- The point of a side; the shared element of a side and an element. -/
def ptP (r c : Int) (s : Nat) : Nat := (4 ^ s % 4611686018427377339) * mdS r c % 4611686018427377339
def zP (r c : Int) (s peer : Nat) : Nat := (peer * (mdS (3 - r) c ^ (oQ - 1) % 4611686018427377339) % 4611686018427377339) ^ s % 4611686018427377339
/-- The key; the proof of a role for a key. -/
def kyP (r c : Int) (s peer : Nat) : List UInt8 := tagS tagPake ((if r = 1 then be8 (ptP r c s : Nat) ++ be8 (peer : Nat) else be8 (peer : Nat) ++ be8 (ptP r c s : Nat)) ++ be8 (zP r c s peer : Nat))
def prP (k : List UInt8) (r : UInt8) : List UInt8 := tagS tagProof (k ++ [r])
theorem kyP_len (r c : Int) (s peer : Nat) : (kyP r c s peer).length = 32 := tagS_len _ _
theorem prP_len (k : List UInt8) (r : UInt8) : (prP k r).length = 32 := tagS_len _ _
theorem four_el (s : Nat) : El (4 ^ s % 4611686018427377339) := El4.pow s
theorem ptP_el (r c : Int) (s : Nat) : El (ptP r c s) := (four_el s).mul (mdS_el r c)
theorem ptP_is (r c : Int) (s : Nat) : IsEl ((ptP r c s : Nat) : Int) := isEl_of (Nat.mod_lt _ (by decide)) (ptP_el r c s)
theorem mdS_is (r c : Int) : IsEl ((mdS r c : Nat) : Int) := isEl_of (mdS_lt r c) (mdS_el r c)
theorem mkS_is (r : Int) : IsEl ((mkS r : Nat) : Int) := isEl_of (mkS_lt r) (mkS_el r)

/-! ### Both sides -/
theorem cmulP {a b c d : Nat} (h1 : a % 4611686018427377339 = c % 4611686018427377339) (h2 : b % 4611686018427377339 = d % 4611686018427377339) : a * b % 4611686018427377339 = c * d % 4611686018427377339 := by
  rw [Nat.mul_mod, h1, h2, ← Nat.mul_mod]
theorem cpowP {a c : Nat} (h : a % 4611686018427377339 = c % 4611686018427377339) (k : Nat) : a ^ k % 4611686018427377339 = c ^ k % 4611686018427377339 := by
  rw [Nat.pow_mod, h, ← Nat.pow_mod]
theorem El.redc {a j k : Nat} (ha : El a) (h : j % oQ = k % oQ) : a ^ j % 4611686018427377339 = a ^ k % 4611686018427377339 := by
  rw [← ha.red j, h, ha.red]
/-- Minus u, as an exponent. -/
theorem minus_q (u : Nat) : (u * (oQ - 1) + u) % oQ = 0 := by
  have : u * (oQ - 1) + u = oQ * u := by
    have h1 : oQ - 1 + 1 = oQ := by have := oQ_pos; omega
    calc u * (oQ - 1) + u = u * (oQ - 1 + 1) := by rw [Nat.mul_add, Nat.mul_one]
      _ = u * oQ := by rw [h1]
      _ = oQ * u := Nat.mul_comm _ _
  rw [this, Nat.mul_mod_right]
theorem dif_q (v u : Nat) (hv : v < 2305843009213688669) (hu : u < 2305843009213688669) : (v + u * (oQ - 1)) % oQ = dif v u % oQ := by
  have h1 := minus_q u
  have h2 : (dif v u + u) % oQ = v % oQ := by
    rw [oQ_eq]
    unfold dif
    omega
  have h3 : (v + u * (oQ - 1) + u) % oQ = v % oQ := by
    rw [Nat.add_assoc, Nat.add_mod, h1, Nat.add_zero, Nat.mod_mod]
  have h4 : (v + u * (oQ - 1) + u) % oQ = (dif v u + u) % oQ := h3.trans h2.symm
  rw [oQ_eq] at h4 ⊢
  omega
/-- The shared element of a side whose peer's mask has the password v, its own u. -/
theorem shared_el {M : Nat} (hM : El M) (u v a b : Nat) (hv : v < 2305843009213688669) (hu : u < 2305843009213688669) :
    (((4 ^ b % 4611686018427377339) * (M ^ v % 4611686018427377339) % 4611686018427377339) * ((M ^ u % 4611686018427377339) ^ (oQ - 1) % 4611686018427377339) % 4611686018427377339) ^ a % 4611686018427377339 =
      (4 ^ (a * b) % 4611686018427377339) * (M ^ (dif v u * a % oQ) % 4611686018427377339) % 4611686018427377339 := by
  have h1 : ((4 ^ b % 4611686018427377339) * (M ^ v % 4611686018427377339) % 4611686018427377339) * ((M ^ u % 4611686018427377339) ^ (oQ - 1) % 4611686018427377339) % 4611686018427377339 = (4 ^ b * M ^ (v + u * (oQ - 1))) % 4611686018427377339 := by
    rw [Nat.pow_add, ← Nat.mul_assoc, Nat.pow_mul]
    refine cmulP ?_ ?_
    · rw [Nat.mod_mod, mulP]
    · rw [Nat.mod_mod, ← Nat.pow_mod]
  have h2 : M ^ ((v + u * (oQ - 1)) * a) % 4611686018427377339 = M ^ (dif v u * a % oQ) % 4611686018427377339 := by
    refine hM.redc ?_
    rw [Nat.mod_mod, Nat.mul_mod, dif_q v u hv hu, ← Nat.mul_mod]
  rw [cpowP (show _ % 4611686018427377339 = (4 ^ b * M ^ (v + u * (oQ - 1))) % 4611686018427377339 by rw [Nat.mod_mod]; exact h1) a, Nat.mul_pow, ← Nat.pow_mul, ← Nat.pow_mul, Nat.mul_comm b a, mulP]
  exact cmulP rfl h2
theorem cancelP {A m n : Nat} (hA : El A) (hm : m < 4611686018427377339) (hn : n < 4611686018427377339) (h : A * m % 4611686018427377339 = A * n % 4611686018427377339) : m = n := by
  have e : ∀ y, y < 4611686018427377339 → (A ^ (oQ - 1) % 4611686018427377339) * (A * y % 4611686018427377339) % 4611686018427377339 = y := by
    intro y hy
    have h1 : (A ^ (oQ - 1) % 4611686018427377339) * (A * y % 4611686018427377339) % 4611686018427377339 = (A * (A ^ (oQ - 1) % 4611686018427377339) % 4611686018427377339) * y % 4611686018427377339 := by
      rw [Nat.mul_mod_mod, ← Nat.mul_assoc, Nat.mul_comm (A ^ (oQ - 1) % 4611686018427377339) A]
      exact (Nat.mod_mul_mod _ _ _).symm
    rw [h1, hA.inv, Nat.one_mul, Nat.mod_eq_of_lt hy]
  rw [← e m hm, ← e n hn, h]
/-- Host and guest with one code have one shared element. -/
theorem dif_self (u : Nat) (hu : u < 2305843009213688669) : dif u u = 0 := by unfold dif; omega
theorem zP_agree (c : Int) (a b : Nat) : zP 1 c a (ptP 2 c b) = 4 ^ (a * b) % 4611686018427377339 ∧ zP 2 c b (ptP 1 c a) = 4 ^ (a * b) % 4611686018427377339 := by
  have hu := (pwS_bd c).2
  constructor
  · have h := shared_el (mkS_el 2) (pwS c) (pwS c) a b hu hu
    rw [dif_self _ hu, Nat.zero_mul, Nat.zero_mod, Nat.pow_zero, Nat.one_mod_eq_one.2 (by decide), Nat.mul_one, Nat.mod_mod] at h
    exact h
  · have h := shared_el (mkS_el 1) (pwS c) (pwS c) b a hu hu
    rw [dif_self _ hu, Nat.zero_mul, Nat.zero_mod, Nat.pow_zero, Nat.one_mod_eq_one.2 (by decide), Nat.mul_one, Nat.mod_mod, Nat.mul_comm b a] at h
    exact h
theorem kyP_agree (c : Int) (a b : Nat) : kyP 1 c a (ptP 2 c b) = kyP 2 c b (ptP 1 c a) := by
  obtain ⟨h1, h2⟩ := zP_agree c a b
  unfold kyP
  rw [h1, h2, if_pos rfl, if_neg (by decide)]
/-- When sides with different codes have one shared element. -/
theorem zP_codes (c d : Int) (a b : Nat) :
    (mkS 2 ^ (dif (pwS d) (pwS c) * a % 2305843009213688669) % 4611686018427377339 = mkS 1 ^ (dif (pwS c) (pwS d) * b % 2305843009213688669) % 4611686018427377339) ↔ zP 1 c a (ptP 2 d b) = zP 2 d b (ptP 1 c a) := by
  have h1 : zP 1 c a (ptP 2 d b) = _ := shared_el (mkS_el 2) (pwS c) (pwS d) a b (pwS_bd d).2 (pwS_bd c).2
  have h2 : zP 2 d b (ptP 1 c a) = _ := shared_el (mkS_el 1) (pwS d) (pwS c) b a (pwS_bd c).2 (pwS_bd d).2
  rw [h1, h2, Nat.mul_comm b a]
  rw [show oQ = 2305843009213688669 from rfl]
  constructor
  · intro h; rw [h]
  · intro h
    exact cancelP (four_el (a * b)) (Nat.mod_lt _ (by decide)) (Nat.mod_lt _ (by decide)) h
/-- A point without its mask; a point with another secret. -/
theorem ptP_mask (r c : Int) (s : Nat) : ptP r c s * (mdS r c ^ (oQ - 1) % 4611686018427377339) % 4611686018427377339 = 4 ^ s % 4611686018427377339 := by
  unfold ptP
  rw [Nat.mod_mul_mod, Nat.mul_assoc, Nat.mul_mod, (mdS_el r c).inv, Nat.mul_one, Nat.mod_mod, Nat.mod_mod]
theorem ptP_secret (r c : Int) (s t : Nat) (hs : s < 2305843009213688669) (ht : t < 2305843009213688669) : ptP r c s * (4 ^ dif t s % 4611686018427377339) % 4611686018427377339 = ptP r c t := by
  have h : 4 ^ (s + dif t s) % 4611686018427377339 = 4 ^ t % 4611686018427377339 := El4.redc (by rw [oQ_eq]; unfold dif; omega)
  unfold ptP
  rw [Nat.mod_mul_mod, Nat.mul_assoc, Nat.mul_comm (mdS r c), ← Nat.mul_assoc]
  refine cmulP ?_ rfl
  rw [mulP, ← Nat.pow_add, h, Nat.mod_mod]
end Go.Proofs.YtkpecfhcdechmaaDoor
