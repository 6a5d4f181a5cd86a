/-
  Reading numerals: the plain function; the contract of (*reader).numeral.
-/
import Derived.Test.YtihllbblehjhlaaTak
import Derived.Test.YtihllbblehjhlaaEnc
namespace Go.Proofs.Ytihllbblehjhlaa
open Go.RowKit

/-- Reads a numeral of at most f + 1 digits; the last of ten is at most 1; a digit 0 may end it only if it is the first. -/
def dn : Nat → Bool → List UInt8 → Option (Nat × List UInt8)
  | _, _, [] => none
  | 0, first, c :: r => if 1 < c.toNat then none else if c.toNat = 0 ∧ first = false then none else some (c.toNat, r)
  | f + 1, first, c :: r => if c.toNat < 128 then (if c.toNat = 0 ∧ first = false then none else some (c.toNat, r)) else (dn f false r).map fun x => (c.toNat - 128 + 128 * x.1, x.2)
/-- Reads a numeral. -/
def dnum (l : List UInt8) : Option (Nat × List UInt8) := dn 9 true l

/-- What is read is a numeral. -/
theorem dn_num : ∀ (f : Nat) (first : Bool) (l : List UInt8) (y : Nat) (r : List UInt8), dn f first l = some (y, r) → l = numF f y ++ r ∧ y < 2 * 128 ^ f ∧ (first = false → y ≠ 0)
  | _, _, [], y, r, h => by simp [dn] at h
  | 0, first, c :: l, y, r, h => by
    simp only [dn] at h
    split at h
    · cases h
    · split at h
      · cases h
      · rename_i h1 h2
        simp only [Option.some.injEq, Prod.mk.injEq] at h
        obtain ⟨rfl, rfl⟩ := h
        refine ⟨by simp [numF], by omega, fun hf hz => h2 ⟨hz, hf⟩⟩
  | f + 1, first, c :: l, y, r, h => by
    have hc := c.toNat_lt
    simp only [dn] at h
    split at h
    · split at h
      · cases h
      · rename_i h1 h2
        simp only [Option.some.injEq, Prod.mk.injEq] at h
        obtain ⟨rfl, rfl⟩ := h
        have : 0 < 128 ^ f := Nat.pow_pos (by decide)
        refine ⟨by simp [numF, h1], by rw [Nat.pow_succ]; omega, fun hf hz => h2 ⟨hz, hf⟩⟩
    · rename_i h1
      cases hd : dn f false l with
      | none => rw [hd] at h; cases h
      | some x =>
        obtain ⟨y', r'⟩ := x
        rw [hd] at h
        simp only [Option.map_some, Option.some.injEq, Prod.mk.injEq] at h
        obtain ⟨rfl, rfl⟩ := h
        obtain ⟨e1, e2, e3⟩ := dn_num f false l y' r' hd
        have := e3 rfl
        refine ⟨?_, by rw [Nat.pow_succ]; omega, by omega⟩
        rw [numF, if_neg (by omega), show (c.toNat - 128 + 128 * y') % 128 + 128 = c.toNat from by omega, show (c.toNat - 128 + 128 * y') / 128 = y' from by omega, e1]
        simp
/-- A numeral is read. -/
theorem dn_of : ∀ (f y : Nat) (first : Bool) (r : List UInt8), y < 2 * 128 ^ f → (first = false → y ≠ 0) → dn f first (numF f y ++ r) = some (y, r)
  | 0, y, first, r, h, h0 => by
    simp only [numF, List.cons_append, List.nil_append, dn]
    rw [show (UInt8.ofNat y).toNat = y from by simp; omega, if_neg (by omega), if_neg (fun hh => h0 hh.2 hh.1)]
  | f + 1, y, first, r, h, h0 => by
    simp only [numF]
    split
    · rename_i h1
      simp only [List.cons_append, List.nil_append, dn]
      rw [show (UInt8.ofNat y).toNat = y from by simp; omega, if_pos h1, if_neg (fun hh => h0 hh.2 hh.1)]
    · rename_i h1
      simp only [List.cons_append, dn]
      rw [show (UInt8.ofNat (y % 128 + 128)).toNat = y % 128 + 128 from by rw [UInt8.toNat_ofNat']; omega, if_neg (by omega), dn_of f (y / 128) false r (by rw [Nat.pow_succ] at h; omega) (by intro _; omega)]
      simp; omega
theorem dnum_some {l : List UInt8} {y : Nat} {r : List UInt8} (h : dnum l = some (y, r)) : l = numeral y ++ r ∧ y ≤ 18446744073709551615 := by
  obtain ⟨a, b, _⟩ := dn_num 9 true l y r h
  exact ⟨a, by omega⟩
theorem dnum_numeral (y : Nat) (r : List UInt8) (h : y ≤ 18446744073709551615) : dnum (numeral y ++ r) = some (y, r) := dn_of 9 y true r (by omega) (by simp)
theorem dn_short : ∀ (f : Nat) (first : Bool) (l : List UInt8) (y : Nat) (r : List UInt8), dn f first l = some (y, r) → r.length < l.length := fun f first l y r h => by
  have := (dn_num f first l y r h).1
  rw [this, List.length_append, numF_length]
  have h2 : 1 ≤ ndigF f y := by cases f <;> simp only [ndigF]; omega; split <;> omega
  omega

/-- What the loop of the reader comes to, at digit i, with the number u so far. -/
def dnAt (i u : Nat) (l : List UInt8) : Option (Nat × List UInt8) := (dn (9 - i) (i == 0) l).map fun x => (u + 128 ^ i * x.1, x.2)

set_option maxRecDepth 100000 in
set_option maxHeartbeats 400000 in
theorem take1 (Bd R : Nat) (c : UInt8) (r : List UInt8) (w : World) (h : Rdr Bd R w (c :: r)) :
    Calls Try.prog 39 #[.pointer (some ⟨R, 0, none⟩), .int .u64 1] w fun e w' => ∃ b o, e = .returned (.slice (some ⟨b, o, none⟩) 1 1) ∧ w'.cell? ⟨b, o, none⟩ = some (bv c) ∧ Rdr Bd R w' r ∧ w.grownBy w' (some R) := by
  refine (take_ok Bd R 1 (c :: r) w h (by simp)).mono ?_
  rintro e w' ⟨a', rfl, h1, h2, h3⟩
  rcases h1.2 with h4 | ⟨b, o, rfl, hb, hc⟩
  · simp at h4
  · exact ⟨b, o, rfl, by have := hc 0 (by simp); simpa using this, by simpa using h2, h3⟩
end Go.Proofs.Ytihllbblehjhlaa
