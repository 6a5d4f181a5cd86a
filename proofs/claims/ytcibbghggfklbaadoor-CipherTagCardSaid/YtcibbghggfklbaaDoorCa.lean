/-
  The blocks and streams of ChaCha20 as plain functions of numbers and bytes.
-/
import Derived.Test.YtcibbghggfklbaaDoorPkA
namespace Go.Proofs.YtcibbghggfklbaaDoor
set_option linter.unusedVariables false

/-- Rotation to the left. -/
def crol (v n : Nat) : Nat := uor (ushl v n) (ushr v (32 - n))
/-- The steps of a mix: a = a + b; d = rol(d xor a, m). -/
def cadd (v : List Nat) (a b : Nat) : List Nat := v.set a (uadd (v.getD a 0) (v.getD b 0))
def cxr (v : List Nat) (d a m : Nat) : List Nat := v.set d (crol (uxor (v.getD d 0) (v.getD a 0)) m)
theorem cadd_len (v : List Nat) (a b : Nat) : (cadd v a b).length = v.length := by simp [cadd]
theorem cxr_len (v : List Nat) (d a m : Nat) : (cxr v d a m).length = v.length := by simp [cxr]
/-- Mixing the numbers at four places. -/
def cmix (v : List Nat) (a b c d : Nat) : List Nat := cxr (cadd (cxr (cadd (cxr (cadd (cxr (cadd v a b) d a 16) c d) b c 12) a b) d a 8) c d) b c 7
theorem cmix_len (v : List Nat) (a b c d : Nat) : (cmix v a b c d).length = v.length := by simp [cmix, cxr_len, cadd_len]
/-- The first k columns, the first k diagonals. -/
def ccols (v : List Nat) (k : Nat) : List Nat := (List.range k).foldl (fun v i => cmix v i (4 + i) (8 + i) (12 + i)) v
def cdiags (v : List Nat) (k : Nat) : List Nat := (List.range k).foldl (fun v i => cmix v i (4 + (i + 1) % 4) (8 + (i + 2) % 4) (12 + (i + 3) % 4)) v
theorem ccols_succ (v : List Nat) (k : Nat) : ccols v (k + 1) = cmix (ccols v k) k (4 + k) (8 + k) (12 + k) := by simp [ccols, List.range_succ, List.foldl_append]
theorem cdiags_succ (v : List Nat) (k : Nat) : cdiags v (k + 1) = cmix (cdiags v k) k (4 + (k + 1) % 4) (8 + (k + 2) % 4) (12 + (k + 3) % 4) := by simp [cdiags, List.range_succ, List.foldl_append]
theorem ccols_len (v : List Nat) : ∀ k, (ccols v k).length = v.length
  | 0 => rfl
  | k + 1 => by rw [ccols_succ, cmix_len, ccols_len v k]
theorem cdiags_len (v : List Nat) : ∀ k, (cdiags v k).length = v.length
  | 0 => rfl
  | k + 1 => by rw [cdiags_succ, cmix_len, cdiags_len v k]
/-- k double rounds. -/
def crounds (v : List Nat) : Nat → List Nat
  | 0 => v
  | k + 1 => cdiags (ccols (crounds v k) 4) 4
theorem crounds_len (v : List Nat) : ∀ k, (crounds v k).length = v.length
  | 0 => rfl
  | k + 1 => by rw [crounds, cdiags_len, ccols_len, crounds_len v k]
/-- Word t of bytes, the least significant byte first. -/
def lword (l : List UInt8) (t : Nat) : Nat := uor (uor (uor (l.getD (4 * t) 0).toNat (ushl (l.getD (4 * t + 1) 0).toNat 8)) (ushl (l.getD (4 * t + 2) 0).toNat 16)) (ushl (l.getD (4 * t + 3) 0).toNat 24)
/-- The sixteen numbers of a key, a nonce and a counter. -/
def cstart (k n : List UInt8) (c : Nat) : List Nat := [0x61707865, 0x3320646e, 0x79622d32, 0x6b206574] ++ (List.range 8).map (lword k) ++ [c % 4294967296] ++ (List.range 3).map (lword n)
theorem cstart_len (k n : List UInt8) (c : Nat) : (cstart k n c).length = 16 := by simp [cstart]
/-- Four bytes of a word, the least significant first. -/
def lbytes (x : Nat) : List UInt8 := [UInt8.ofNat x, UInt8.ofNat (x / 256), UInt8.ofNat (x / 65536), UInt8.ofNat (x / 16777216)]
theorem lbytes_len (x : Nat) : (lbytes x).length = 4 := rfl
/-- The first t words of a block. -/
def coutTo (v s : List Nat) (t : Nat) : List UInt8 := ((List.range t).map fun i => lbytes (uadd (v.getD i 0) (s.getD i 0))).flatten
theorem coutTo_succ (v s : List Nat) (t : Nat) : coutTo v s (t + 1) = coutTo v s t ++ lbytes (uadd (v.getD t 0) (s.getD t 0)) := by simp [coutTo, List.range_succ]
theorem coutTo_len (v s : List Nat) : ∀ t, (coutTo v s t).length = 4 * t
  | 0 => rfl
  | t + 1 => by rw [coutTo_succ, List.length_append, coutTo_len v s t, lbytes_len]; omega
/-- A block. -/
def cblock (k n : List UInt8) (c : Nat) : List UInt8 := coutTo (crounds (cstart k n c) 10) (cstart k n c) 16
theorem cblock_len (k n : List UInt8) (c : Nat) : (cblock k n c).length = 64 := coutTo_len _ _ 16
/-- Byte i of the stream's blocks. -/
def cbyte (k n : List UInt8) (i : Nat) : UInt8 := (cblock k n (1 + i / 64)).getD (i % 64) 0
/-- The stream over bytes. -/
def cstream (k n b : List UInt8) : List UInt8 := (List.range b.length).map fun i => b.getD i 0 ^^^ cbyte k n i
theorem cstream_len (k n b : List UInt8) : (cstream k n b).length = b.length := by simp [cstream]
theorem cstream_get (k n b : List UInt8) (i : Nat) (h : i < b.length) : (cstream k n b)[i]? = some (b[i] ^^^ cbyte k n i) := by
  simp [cstream, h, List.getD]
theorem cstream_back (k n b : List UInt8) : cstream k n (cstream k n b) = b := by
  apply List.ext_getElem?
  intro i
  by_cases h : i < b.length
  · have h1 : i < (cstream k n b).length := by rw [cstream_len]; exact h
    rw [cstream_get _ _ _ _ h1, List.getElem?_eq_getElem h]
    have h2 := cstream_get k n b i h
    rw [List.getElem?_eq_getElem h1] at h2
    injection h2 with h2
    rw [h2, UInt8.xor_assoc, UInt8.xor_self, UInt8.xor_zero]
  · rw [List.getElem?_eq_none (by rw [cstream_len, cstream_len]; omega), List.getElem?_eq_none (by omega)]
theorem cstream_take (k n b : List UInt8) (t : Nat) : cstream k n (b.take t) = (cstream k n b).take t := by
  apply List.ext_getElem?
  intro i
  by_cases h : i < (b.take t).length
  · rw [cstream_get _ _ _ _ h]
    rw [List.length_take] at h
    rw [List.getElem?_take, if_pos (by omega), cstream_get _ _ _ _ (by omega), List.getElem_take]
  · rw [List.getElem?_eq_none (by rw [cstream_len]; omega), List.getElem?_eq_none (by rw [List.length_take] at *; rw [cstream_len]; omega)]
theorem cblock_example : (cblock ((List.range 32).map UInt8.ofNat) [0, 0, 0, 9, 0, 0, 0, 0x4a, 0, 0, 0, 0] 1).take 4 = [0x10, 0xf1, 0xe7, 0xe4] := by decide +kernel
end Go.Proofs.YtcibbghggfklbaaDoor
