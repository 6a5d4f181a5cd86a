/-
  What sign's functions return, as numbers: the bytes of a number; the powers of 4, of which different exponents have different ones; the equations of signatures.
-/
import Derived.Test.YteigldfdaciopaaGreatDoorPkN
namespace Go.Proofs.YteigldfdaciopaaGreatDoor
set_option linter.unusedVariables false

/-- Byte i of a number, the most significant first. -/
def byN (n : Int) (i : Nat) : UInt8 := UInt8.ofNat (n / 2 ^ (56 - 8 * i) % 256).toNat
/-- A number's eight bytes. -/
def be8 (n : Int) : List UInt8 := (List.range 8).map (byN n)
theorem be8_len (n : Int) : (be8 n).length = 8 := by simp [be8]
theorem byN_nat (n : Int) (i : Nat) : ((byN n i).toNat : Int) = n / 2 ^ (56 - 8 * i) % 256 := by
  unfold byN
  rw [UInt8.toNat_ofNat']
  generalize n / 2 ^ (56 - 8 * i) = x
  omega
/-- The bytes of the same number without a sign. -/
theorem byN_u (n : Int) (i : Nat) (hi : i < 8) : n % 18446744073709551616 / 2 ^ (56 - 8 * i) % 256 = n / 2 ^ (56 - 8 * i) % 256 := by
  match i, hi with
  | 0, _ => show n % 18446744073709551616 / 72057594037927936 % 256 = n / 72057594037927936 % 256; omega
  | 1, _ => show n % 18446744073709551616 / 281474976710656 % 256 = n / 281474976710656 % 256; omega
  | 2, _ => show n % 18446744073709551616 / 1099511627776 % 256 = n / 1099511627776 % 256; omega
  | 3, _ => show n % 18446744073709551616 / 4294967296 % 256 = n / 4294967296 % 256; omega
  | 4, _ => show n % 18446744073709551616 / 16777216 % 256 = n / 16777216 % 256; omega
  | 5, _ => show n % 18446744073709551616 / 65536 % 256 = n / 65536 % 256; omega
  | 6, _ => show n % 18446744073709551616 / 256 % 256 = n / 256 % 256; omega
  | 7, _ => show n % 18446744073709551616 / 1 % 256 = n / 1 % 256; omega
theorem step256 {x y : Int} (h1 : x / 256 = y / 256) (h2 : x % 256 = y % 256) : x = y := by omega
theorem be8_inj {a b : Int} (ha : 0 ≤ a) (ha2 : a < 9223372036854775808) (hb : 0 ≤ b) (hb2 : b < 9223372036854775808) (h : be8 a = be8 b) : a = b := by
  have hk : ∀ i, i < 8 → a / 2 ^ (56 - 8 * i) % 256 = b / 2 ^ (56 - 8 * i) % 256 := fun i hi => by
    rw [← byN_nat, ← byN_nat]
    have := congrArg (fun l : List UInt8 => l[i]?) h
    simp only [be8, List.getElem?_map, List.getElem?_range hi, Option.map_some, Option.some.injEq] at this
    rw [this]
  have h0 : a / 72057594037927936 = b / 72057594037927936 := by have : a / 72057594037927936 % 256 = b / 72057594037927936 % 256 := hk 0 (by decide); omega
  have h1 : a / 281474976710656 = b / 281474976710656 := step256 (by omega) (hk 1 (by decide))
  have h2 : a / 1099511627776 = b / 1099511627776 := step256 (by omega) (hk 2 (by decide))
  have h3 : a / 4294967296 = b / 4294967296 := step256 (by omega) (hk 3 (by decide))
  have h4 : a / 16777216 = b / 16777216 := step256 (by omega) (hk 4 (by decide))
  have h5 : a / 65536 = b / 65536 := step256 (by omega) (hk 5 (by decide))
  have h6 : a / 256 = b / 256 := step256 (by omega) (hk 6 (by decide))
  exact step256 h6 (by have : a / 1 % 256 = b / 1 % 256 := hk 7 (by decide); omega)
theorem be8_eq_iff {a b : Int} (ha : 0 ≤ a) (ha2 : a < 9223372036854775808) (hb : 0 ≤ b) (hb2 : b < 9223372036854775808) : (be8 a = be8 b) = (a = b) :=
  propext ⟨be8_inj ha ha2 hb hb2, fun h => by rw [h]⟩
/-- The first k bytes are written. -/
def be8To (n : Int) (k : Nat) : List UInt8 := (List.range 8).map fun j => if j < k then byN n j else 0
theorem be8To_len (n : Int) (k : Nat) : (be8To n k).length = 8 := by simp [be8To]
theorem be8To_zero (n : Int) : be8To n 0 = List.replicate 8 0 := by
  apply List.ext_getElem
  · rw [be8To_len, List.length_replicate]
  · intro i h1 h2
    rw [List.getElem_replicate]
    simp only [be8To, List.getElem_map, List.getElem_range]
    rw [if_neg (by omega)]
theorem be8To_all (n : Int) : be8To n 8 = be8 n := by
  apply List.ext_getElem
  · simp [be8To, be8]
  · intro i h1 h2
    have : i < 8 := by simpa [be8To] using h1
    simp [be8To, be8, this]
theorem be8To_set (n : Int) (k : Nat) : (be8To n k).set k (byN n k) = be8To n (k + 1) := by
  apply List.ext_getElem
  · simp [be8To]
  · intro i h1 h2
    rw [List.getElem_set]
    simp only [be8To, List.getElem_map, List.getElem_range]
    by_cases e : k = i
    · subst e; rw [if_pos rfl, if_pos (by omega)]
    · rw [if_neg e]
      by_cases h : i < k
      · rw [if_pos h, if_pos (by omega)]
      · rw [if_neg h, if_neg (by omega)]
theorem be8_take (n : Int) (k : Nat) (h : k < 8) : (be8 n).take (k + 1) = (be8 n).take k ++ [byN n k] := by
  rw [List.take_succ_eq_append_getElem (by rw [be8_len]; exact h)]
  simp [be8]

theorem El4 : El 4 := El.sq (a := 2) (by decide)
theorem el4N : IsEl ((4 : Nat) : Int) := isEl_of (by decide) El4
theorem pow4_el (x : Nat) : El (4 ^ x % 4611686018427377339) := El4.pow x
theorem modP_lt (n : Nat) : n % 4611686018427377339 < 4611686018427377339 := Nat.mod_lt _ (by decide)
theorem pow4_is (x : Nat) : IsEl ((4 ^ x % 4611686018427377339 : Nat) : Int) := isEl_of (modP_lt _) (pow4_el x)
/-- Only the exponent 0 has the power 1. -/
theorem pow4_ne {d : Nat} (h0 : 0 < d) (h1 : d < oQ) : 4 ^ d % 4611686018427377339 ≠ 1 := fun h => by
  have e : d * d ^ (kQ - 1) = d ^ kQ := by
    have : kQ = (kQ - 1) + 1 := by decide
    rw [show d ^ kQ = d ^ ((kQ - 1) + 1) by rw [← this], Nat.pow_succ, Nat.mul_comm]
  have hd : d % 2305843009213688669 ≠ 0 := by unfold oQ at h1; omega
  have h2 : d * d ^ (kQ - 1) % oQ = 1 := by rw [e]; exact fermatQ d hd
  have h3 := El4.root (k := d) (by decide) h2
  rw [h, Nat.one_pow] at h3
  exact absurd h3 (by decide)
theorem pow4_lt {a b : Nat} (hab : a < b) (hb : b < oQ) : 4 ^ a % 4611686018427377339 ≠ 4 ^ b % 4611686018427377339 := fun h => by
  obtain ⟨d, rfl⟩ : ∃ d, b = a + d := ⟨b - a, by omega⟩
  rw [Nat.pow_add] at h
  have hA := (El4.pow a).ne
  rw [Nat.mod_mod] at hA
  have hd := pow4_ne (d := d) (by omega) (by omega)
  have hpos : 1 ≤ 4 ^ d := Nat.pos_of_ne_zero (by intro h0; simp at h0)
  generalize 4 ^ a = x at *
  generalize 4 ^ d = y at *
  have hdv : 4611686018427377339 ∣ x * (y - 1) := by
    obtain ⟨z, rfl⟩ : ∃ z, y = z + 1 := ⟨y - 1, by omega⟩
    rw [Nat.mul_add, Nat.mul_one] at h
    rw [Nat.add_sub_cancel]
    generalize x * z = s at *
    omega
  rcases eucP _ _ hdv with h1 | h1
  · omega
  · omega
theorem pow4_inj {a b : Nat} (ha : a < oQ) (hb : b < oQ) (h : 4 ^ a % 4611686018427377339 = 4 ^ b % 4611686018427377339) : a = b := by
  rcases Nat.lt_trichotomy a b with h1 | h1 | h1
  · exact absurd h (pow4_lt h1 hb)
  · exact h1
  · exact absurd h.symm (pow4_lt h1 ha)

/-- What a signature's S is made of. -/
def sigS (k h x : Nat) : Nat := (k + h * x % 2305843009213688669) % 2305843009213688669
theorem sigS_lt (k h x : Nat) : sigS k h x < 2305843009213688669 := Nat.mod_lt _ (by decide)
/-- The equation holds. -/
theorem sig_eq (k h x : Nat) : 4 ^ sigS k h x % 4611686018427377339 = (4 ^ k % 4611686018427377339) * ((4 ^ x % 4611686018427377339) ^ h % 4611686018427377339) % 4611686018427377339 := by
  rw [El4.times, El4.add, Nat.mul_comm x h]; rfl
/-- Only one S keeps it. -/
theorem sig_only {k h x n : Nat} (hn : n < 2305843009213688669) (he : 4 ^ n % 4611686018427377339 = (4 ^ k % 4611686018427377339) * ((4 ^ x % 4611686018427377339) ^ h % 4611686018427377339) % 4611686018427377339) : n = sigS k h x := by
  rw [← sig_eq] at he
  exact pow4_inj hn (sigS_lt k h x) he

/-- Numbers that are equal modulo Q. -/
def Cg (a b : Int) : Prop := ∃ t : Int, a = b + 2305843009213688669 * t
theorem Cg.refl (a : Int) : Cg a a := ⟨0, by omega⟩
theorem Cg.mod (a : Int) : Cg (a % 2305843009213688669) a := ⟨-(a / 2305843009213688669), by omega⟩
theorem Cg.trans {a b c : Int} (h : Cg a b) (k : Cg b c) : Cg a c := by
  obtain ⟨t, rfl⟩ := h; obtain ⟨u, rfl⟩ := k; exact ⟨u + t, by omega⟩
theorem Cg.symm {a b : Int} (h : Cg a b) : Cg b a := by obtain ⟨t, rfl⟩ := h; exact ⟨-t, by omega⟩
theorem Cg.add {a b c d : Int} (h : Cg a b) (k : Cg c d) : Cg (a + c) (b + d) := by
  obtain ⟨t, rfl⟩ := h; obtain ⟨u, rfl⟩ := k; exact ⟨t + u, by omega⟩
theorem Cg.sub {a b c d : Int} (h : Cg a b) (k : Cg c d) : Cg (a - c) (b - d) := by
  obtain ⟨t, rfl⟩ := h; obtain ⟨u, rfl⟩ := k; exact ⟨t - u, by omega⟩
theorem Cg.mul {a b : Int} (h : Cg a b) (c : Int) : Cg (c * a) (c * b) := by
  obtain ⟨t, rfl⟩ := h; exact ⟨c * t, by rw [Int.mul_add, Int.mul_left_comm]⟩
theorem Cg.eq {a b : Nat} (h : Cg a b) (ha : a < 2305843009213688669) (hb : b < 2305843009213688669) : a = b := by
  obtain ⟨t, h⟩ := h; omega
theorem Cg.modN (a : Nat) : Cg ((a % 2305843009213688669 : Nat) : Int) (a : Int) := by
  rw [Int.natCast_emod]; exact Cg.mod a
/-- A difference of scalars. -/
def difQ (a b : Nat) : Nat := (a + (2305843009213688669 - b)) % 2305843009213688669
theorem difQ_lt (a b : Nat) : difQ a b < 2305843009213688669 := Nat.mod_lt _ (by decide)
theorem difQ_cg {a b : Nat} (hb : b < 2305843009213688669) : Cg (difQ a b : Int) ((a : Int) - b) := by
  refine (Cg.modN _).trans ⟨1, ?_⟩
  omega
theorem sigS_cg (k h x : Nat) : Cg (sigS k h x : Int) ((k : Int) + (h : Int) * x) := by
  refine (Cg.modN _).trans ?_
  rw [Int.natCast_add]
  refine (Cg.refl _).add ((Cg.modN _).trans ?_)
  rw [Int.natCast_mul]; exact Cg.refl _
/-- The difference of two signatures of one private key. -/
theorem sig_diff (k l h i x : Nat) (hi : i < 2305843009213688669) :
    4 ^ difQ (sigS k h x) (sigS l i x) % 4611686018427377339 =
      ((4 ^ k % 4611686018427377339) * ((4 ^ l % 4611686018427377339) ^ (oQ - 1) % 4611686018427377339) % 4611686018427377339) * ((4 ^ x % 4611686018427377339) ^ difQ h i % 4611686018427377339) % 4611686018427377339 := by
  rw [El4.times, El4.times, El4.add, El4.add]
  congr 2
  refine Cg.eq ?_ (difQ_lt _ _) (Nat.mod_lt _ (by decide))
  refine (difQ_cg (sigS_lt _ _ _)).trans ?_
  refine ((sigS_cg k h x).sub (sigS_cg l i x)).trans ?_
  refine Cg.symm ((Cg.modN _).trans ?_)
  rw [Int.natCast_add]
  have e1 : Cg (((k + l * (oQ - 1) % oQ) % oQ : Nat) : Int) ((k : Int) - l) := by
    refine (Cg.modN _).trans ?_
    rw [Int.natCast_add]
    refine ((Cg.refl (k : Int)).add (Cg.modN (l * (oQ - 1)))).trans ⟨l, ?_⟩
    rw [Int.natCast_mul, show ((oQ - 1 : Nat) : Int) = 2305843009213688668 from rfl]
    omega
  have e2 : Cg ((x * difQ h i % oQ : Nat) : Int) ((x : Int) * ((h : Int) - i)) := by
    refine (Cg.modN _).trans ?_
    rw [Int.natCast_mul]
    exact (difQ_cg hi).mul x
  refine (e1.add e2).trans ?_
  rw [Int.mul_sub, Int.mul_comm (x : Int) h, Int.mul_comm (x : Int) i]
  generalize (h : Int) * x = s
  generalize (i : Int) * x = t
  exact ⟨0, by omega⟩
/-- The nonce, from S. -/
theorem sig_nonce (k h x : Nat) (hk : k < 2305843009213688669) : difQ (sigS k h x) (h * x % 2305843009213688669) = k := by
  have h1 : h * x % 2305843009213688669 < 2305843009213688669 := Nat.mod_lt _ (by decide)
  unfold difQ sigS
  generalize h * x % 2305843009213688669 = m at *
  omega
end Go.Proofs.YteigldfdaciopaaGreatDoor
