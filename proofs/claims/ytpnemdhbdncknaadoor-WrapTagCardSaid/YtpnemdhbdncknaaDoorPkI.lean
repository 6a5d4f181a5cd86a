/-
  The blocks and streams of ChaCha20 as plain functions of numbers and bytes.
  What cipher's Seal and Open make of bytes, as plain functions; sealed bytes are opened, changed tags are not.
  Rotations: RotateLeft32 of math/bits, rol of the reference; words of bytes.
  Package cipher: mix; mix of the reference.
  Package cipher: word, start; the reference's word.
  Package cipher: start.
  Package cipher: the block of numbers.
  Package cipher: stream.
  Package cipher: Block and Stream.
  slices.Grow of nil and slices.Concat of slices of bytes.
-/
import Derived.Test.YtpnemdhbdncknaaDoorPkA
import Derived.Test.YtpnemdhbdncknaaDoorSs
import Derived.Test.YtpnemdhbdncknaaDoorPkB
import Derived.Test.YtpnemdhbdncknaaDoorPkE
import Derived.Test.YtpnemdhbdncknaaDoorPkC
import Derived.Lib.AppendZeros
set_option linter.unusedVariables false
set_option linter.unusedSimpArgs false
namespace Go.Proofs.YtpnemdhbdncknaaDoor
set_option linter.unusedVariables false

/-- Rotation to the left. -/
def crol (v n : Nat) : Nat := uor (ushl v n) (ushr v (32 - n))
/-- The steps of a mix: a = a + b; d = rol(d xor a, m). -/
def cadd (v : List Nat) (a b : Nat) : List Nat := v.set a (uadd (v.getD a 0) (v.getD b 0))
def cxr (v : List Nat) (d a m : Nat) : List Nat := v.set d (crol (uxor (v.getD d 0) (v.getD a 0)) m)
theorem cadd_len (v : List Nat) (a b : Nat) : (cadd v a b).length = v.length := by simp [cadd]
theorem cxr_len (v : List Nat) (d a m : Nat) : (cxr v d a m).length = v.length := by simp [cxr]
/-- Mixing the numbers at four places. -/
def cmix (v : List Nat) (a b c d : Nat) : List Nat := cxr (cadd (cxr (cadd (cxr (cadd (cxr (cadd v a b) d a 16) c d) b c 12) a b) d a 8) c d) b c 7
theorem cmix_len (v : List Nat) (a b c d : Nat) : (cmix v a b c d).length = v.length := by simp [cmix, cxr_len, cadd_len]
/-- The first k columns, the first k diagonals. -/
def ccols (v : List Nat) (k : Nat) : List Nat := (List.range k).foldl (fun v i => cmix v i (4 + i) (8 + i) (12 + i)) v
def cdiags (v : List Nat) (k : Nat) : List Nat := (List.range k).foldl (fun v i => cmix v i (4 + (i + 1) % 4) (8 + (i + 2) % 4) (12 + (i + 3) % 4)) v
theorem ccols_succ (v : List Nat) (k : Nat) : ccols v (k + 1) = cmix (ccols v k) k (4 + k) (8 + k) (12 + k) := by simp [ccols, List.range_succ, List.foldl_append]
theorem cdiags_succ (v : List Nat) (k : Nat) : cdiags v (k + 1) = cmix (cdiags v k) k (4 + (k + 1) % 4) (8 + (k + 2) % 4) (12 + (k + 3) % 4) := by simp [cdiags, List.range_succ, List.foldl_append]
theorem ccols_len (v : List Nat) : ∀ k, (ccols v k).length = v.length
  | 0 => rfl
  | k + 1 => by rw [ccols_succ, cmix_len, ccols_len v k]
theorem cdiags_len (v : List Nat) : ∀ k, (cdiags v k).length = v.length
  | 0 => rfl
  | k + 1 => by rw [cdiags_succ, cmix_len, cdiags_len v k]
/-- k double rounds. -/
def crounds (v : List Nat) : Nat → List Nat
  | 0 => v
  | k + 1 => cdiags (ccols (crounds v k) 4) 4
theorem crounds_len (v : List Nat) : ∀ k, (crounds v k).length = v.length
  | 0 => rfl
  | k + 1 => by rw [crounds, cdiags_len, ccols_len, crounds_len v k]
/-- Word t of bytes, the least significant byte first. -/
def lword (l : List UInt8) (t : Nat) : Nat := uor (uor (uor (l.getD (4 * t) 0).toNat (ushl (l.getD (4 * t + 1) 0).toNat 8)) (ushl (l.getD (4 * t + 2) 0).toNat 16)) (ushl (l.getD (4 * t + 3) 0).toNat 24)
/-- The sixteen numbers of a key, a nonce and a counter. -/
def cstart (k n : List UInt8) (c : Nat) : List Nat := [0x61707865, 0x3320646e, 0x79622d32, 0x6b206574] ++ (List.range 8).map (lword k) ++ [c % 4294967296] ++ (List.range 3).map (lword n)
theorem cstart_len (k n : List UInt8) (c : Nat) : (cstart k n c).length = 16 := by simp [cstart]
/-- Four bytes of a word, the least significant first. -/
def lbytes (x : Nat) : List UInt8 := [UInt8.ofNat x, UInt8.ofNat (x / 256), UInt8.ofNat (x / 65536), UInt8.ofNat (x / 16777216)]
theorem lbytes_len (x : Nat) : (lbytes x).length = 4 := rfl
/-- The first t words of a block. -/
def coutTo (v s : List Nat) (t : Nat) : List UInt8 := ((List.range t).map fun i => lbytes (uadd (v.getD i 0) (s.getD i 0))).flatten
theorem coutTo_succ (v s : List Nat) (t : Nat) : coutTo v s (t + 1) = coutTo v s t ++ lbytes (uadd (v.getD t 0) (s.getD t 0)) := by simp [coutTo, List.range_succ]
theorem coutTo_len (v s : List Nat) : ∀ t, (coutTo v s t).length = 4 * t
  | 0 => rfl
  | t + 1 => by rw [coutTo_succ, List.length_append, coutTo_len v s t, lbytes_len]; omega
/-- A block. -/
def cblock (k n : List UInt8) (c : Nat) : List UInt8 := coutTo (crounds (cstart k n c) 10) (cstart k n c) 16
theorem cblock_len (k n : List UInt8) (c : Nat) : (cblock k n c).length = 64 := coutTo_len _ _ 16
/-- Byte i of the stream's blocks. -/
def cbyte (k n : List UInt8) (i : Nat) : UInt8 := (cblock k n (1 + i / 64)).getD (i % 64) 0
/-- The stream over bytes. -/
def cstream (k n b : List UInt8) : List UInt8 := (List.range b.length).map fun i => b.getD i 0 ^^^ cbyte k n i
theorem cstream_len (k n b : List UInt8) : (cstream k n b).length = b.length := by simp [cstream]
theorem cstream_get (k n b : List UInt8) (i : Nat) (h : i < b.length) : (cstream k n b)[i]? = some (b[i] ^^^ cbyte k n i) := by
  simp [cstream, h, List.getD]
theorem cstream_back (k n b : List UInt8) : cstream k n (cstream k n b) = b := by
  apply List.ext_getElem?
  intro i
  by_cases h : i < b.length
  · have h1 : i < (cstream k n b).length := by rw [cstream_len]; exact h
    rw [cstream_get _ _ _ _ h1, List.getElem?_eq_getElem h]
    have h2 := cstream_get k n b i h
    rw [List.getElem?_eq_getElem h1] at h2
    injection h2 with h2
    rw [h2, UInt8.xor_assoc, UInt8.xor_self, UInt8.xor_zero]
  · rw [List.getElem?_eq_none (by rw [cstream_len, cstream_len]; omega), List.getElem?_eq_none (by omega)]
theorem cstream_take (k n b : List UInt8) (t : Nat) : cstream k n (b.take t) = (cstream k n b).take t := by
  apply List.ext_getElem?
  intro i
  by_cases h : i < (b.take t).length
  · rw [cstream_get _ _ _ _ h]
    rw [List.length_take] at h
    rw [List.getElem?_take, if_pos (by omega), cstream_get _ _ _ _ (by omega), List.getElem_take]
  · rw [List.getElem?_eq_none (by rw [cstream_len]; omega), List.getElem?_eq_none (by rw [List.length_take] at *; rw [cstream_len]; omega)]
theorem cblock_example : (cblock ((List.range 32).map UInt8.ofNat) [0, 0, 0, 9, 0, 0, 0, 0x4a, 0, 0, 0, 0] 1).take 4 = [0x10, 0xf1, 0xe7, 0xe4] := by decide +kernel
end Go.Proofs.YtpnemdhbdncknaaDoor

namespace Go.Proofs.YtpnemdhbdncknaaDoor
set_option linter.unusedVariables false

/-- The tag of bytes under a key, a nonce and a head. -/
def tagC (k n head x : List UInt8) : List UInt8 := (tagS [116, 97, 103] (k ++ n ++ be8 (head.length : Nat) ++ head ++ x)).take 16
theorem tagC_len (k n head x : List UInt8) : (tagC k n head x).length = 16 := by
  unfold tagC; rw [List.length_take, tagS_len]; rfl
def sealC (k n head b : List UInt8) : List UInt8 := cstream k n b ++ tagC k n head (cstream k n b)
theorem sealC_len (k n head b : List UInt8) : (sealC k n head b).length = b.length + 16 := by
  unfold sealC; rw [List.length_append, cstream_len, tagC_len]
/-- Whether the last 16 bytes are the tag of those before them. -/
def tagged16 (k n head c : List UInt8) : Bool := c.drop (c.length - 16) == tagC k n head (c.take (c.length - 16))
/-- Whether bytes are opened. -/
def opensC (k n head c : List UInt8) : Bool := decide (16 ≤ c.length) && (decide (c.length ≤ 65552) && tagged16 k n head c)
def openC (k n head c : List UInt8) : List UInt8 := cstream k n (c.take (c.length - 16))
theorem openC_len (k n head c : List UInt8) : (openC k n head c).length = c.length - 16 := by
  unfold openC; rw [cstream_len, List.length_take]; omega
theorem sealC_take (k n head b : List UInt8) : (sealC k n head b).take b.length = cstream k n b := by
  unfold sealC; rw [List.take_append_of_le_length (by rw [cstream_len]; omega), List.take_of_length_le (by rw [cstream_len]; omega)]
theorem sealC_drop (k n head b : List UInt8) : (sealC k n head b).drop b.length = tagC k n head (cstream k n b) := by
  unfold sealC; rw [List.drop_append_of_le_length (by rw [cstream_len]; omega), List.drop_of_length_le (by rw [cstream_len]; omega), List.nil_append]
theorem tagged_seal (k n head b : List UInt8) : tagged16 k n head (sealC k n head b) = true := by
  unfold tagged16
  rw [sealC_len, Nat.add_sub_cancel, sealC_take, sealC_drop]
  exact beq_self_eq_true _
theorem open_seal (k n head b : List UInt8) : openC k n head (sealC k n head b) = b := by
  unfold openC
  rw [sealC_len, Nat.add_sub_cancel, sealC_take, cstream_back]
theorem opens_seal (k n head b : List UInt8) (h : b.length ≤ 65536) : opensC k n head (sealC k n head b) = true := by
  unfold opensC
  rw [sealC_len, tagged_seal, decide_eq_true (by omega), decide_eq_true (by omega)]; rfl
/-- A changed byte of the tag. -/
theorem opens_changed (k n head b : List UInt8) (h : b.length ≤ 65536) (i : Nat) (hi : i < 16) (v : UInt8) :
    opensC k n head ((sealC k n head b).set (b.length + i) ((sealC k n head b).getD (b.length + i) 0 ^^^ v)) = (v == 0) := by
  have hl : ((sealC k n head b).set (b.length + i) ((sealC k n head b).getD (b.length + i) 0 ^^^ v)).length = b.length + 16 := by rw [List.length_set, sealC_len]
  have hg : (sealC k n head b).getD (b.length + i) 0 = (tagC k n head (cstream k n b)).getD i 0 := by
    unfold sealC
    rw [List.getD, List.getElem?_append_right (by rw [cstream_len]; omega), cstream_len, Nat.add_sub_cancel_left, List.getD]
  unfold opensC tagged16
  rw [hl, Nat.add_sub_cancel, hg, decide_eq_true (by omega), decide_eq_true (by omega), Bool.true_and, Bool.true_and]
  have ht : ((sealC k n head b).set (b.length + i) ((tagC k n head (cstream k n b)).getD i 0 ^^^ v)).take b.length = cstream k n b := by
    rw [List.take_set_of_le (by omega), sealC_take]
  have hd : ((sealC k n head b).set (b.length + i) ((tagC k n head (cstream k n b)).getD i 0 ^^^ v)).drop b.length = (tagC k n head (cstream k n b)).set i ((tagC k n head (cstream k n b)).getD i 0 ^^^ v) := by
    rw [List.drop_set, if_neg (by omega), Nat.add_sub_cancel_left, sealC_drop]
  rw [ht, hd]
  have hln := tagC_len k n head (cstream k n b)
  generalize tagC k n head (cstream k n b) = t at *
  rw [Bool.eq_iff_iff, beq_iff_eq, beq_iff_eq]
  have hti : t.getD i 0 = t[i]'(by omega) := by rw [List.getD, List.getElem?_eq_getElem (by omega)]; rfl
  constructor
  · intro he
    have : (t.set i (t.getD i 0 ^^^ v))[i]? = t[i]? := congrArg (fun l : List UInt8 => l[i]?) he
    rw [List.getElem?_set_self (by omega), List.getElem?_eq_getElem (by omega), hti] at this
    injection this with this
    have h2 : t[i]'(by omega) ^^^ (t[i]'(by omega) ^^^ v) = t[i]'(by omega) ^^^ t[i]'(by omega) := congrArg (fun x => t[i]'(by omega) ^^^ x) this
    rw [← UInt8.xor_assoc, UInt8.xor_self, UInt8.zero_xor] at h2
    exact h2
  · rintro rfl
    rw [UInt8.xor_zero, hti, List.set_getElem_self]
end Go.Proofs.YtpnemdhbdncknaaDoor

namespace Go.Proofs.YtpnemdhbdncknaaDoor
open Go.RowKit
set_option linter.unusedVariables false
set_option linter.unusedSimpArgs false

theorem rot_andp (n : Nat) (hn : n = 7 ∨ n = 8 ∨ n = 12 ∨ n = 16) : bits .and .u64 (n : Int) 31 = (n : Int) := by
  rcases hn with rfl | rfl | rfl | rfl <;> decide +kernel
set_option maxHeartbeats 400000 in
theorem rotL (x n : Nat) (i : Int) (hi : i = (n : Int)) (hn : n = 7 ∨ n = 8 ∨ n = 12 ∨ n = 16) (w : World) :
    Calls Tryd.prog 87 #[.int .u32 x, .int .i64 i] w fun e w' => e = .returned (.int .u32 (crol x n)) ∧ w' = w := by
  subst hi
  have h0 := rot_andp n hn
  have h2 : n ≤ 31 := by omega
  have h1 : (32 - (n : Int)).toNat = 32 - n := by omega
  have h3 : (n : Int).toNat = n := by omega
  have h4 : IntKind.u64.wrap (32 - (n : Int)) = 32 - (n : Int) := by simp [IntKind.wrap, IntKind.bits, IntKind.signed]; omega
  clear hn
  go_enter Tryd.func87, Tryd.ntmps87
  go_wp2_with fail
  go_ret
  exact ⟨ret_u32 (by rw [w_shr, w_shl, w_or]; rfl), rfl⟩

end Go.Proofs.YtpnemdhbdncknaaDoor

namespace Go.Proofs.YtpnemdhbdncknaaDoor
open Go.RowKit
set_option linter.unusedVariables false
set_option linter.unusedSimpArgs false

set_option maxRecDepth 100000 in
set_option maxHeartbeats 4000000 in
theorem mix_any (R : Nat) (v : List Nat) (a b c d : Nat) (w : World) (hv : v.length = 16) (ha : a < 16) (hb : b < 16) (hc : c < 16) (hd : d < 16) (h : WB w R 126 v) :
    Calls Tryd.prog 79 #[.pointer (some ⟨R, 0, none⟩), .int .i64 (a : Int), .int .i64 (b : Int), .int .i64 (c : Int), .int .i64 (d : Int)] w fun e w' => e = .returned (.tuple #[]) ∧ WB w' R 126 (cmix v a b c d) ∧ w.grownBy w' (some R) := by
  have HC : Hid (cmix v a b c d = cxr (cadd (cxr (cadd (cxr (cadd (cxr (cadd v a b) d a 16) c d) b c 12) a b) d a 8) c d) b c 7) := Lib.hid rfl
  have HL0 := Lib.hid hv
  have HW0 := Lib.hid h
  have HG0 : Hid (w.grownBy w (some R)) := Lib.hid ⟨rfl, rfl, rfl, Nat.le_refl _, fun _ _ _ => rfl⟩
  have ia : (a : Int) < 16 := by omega
  have ib : (b : Int) < 16 := by omega
  have ic : (c : Int) < 16 := by omega
  have id : (d : Int) < 16 := by omega
  clear hv h
  go_enter Tryd.func79, Tryd.ntmps79
  -- 0: cadd v a b
  obtain ⟨v1, hv0⟩ : ∃ V, V = cadd v a b := ⟨_, rfl⟩
  have HX0 : Hid (v1 = v.set a (uadd (v.getD a 0) (v.getD b 0))) := by rw [hv0]; exact Lib.hid rfl
  rw [← hv0] at HC
  have hl1 : v1.length = 16 := by rw [hv0, cadd_len, HL0.out]
  have HL1 := Lib.hid hl1
  clear hv0 hl1
  have cx := HW0.out.cellD a (by rw [HL0.out]; exact ha)
  have cy := HW0.out.cellD b (by rw [HL0.out]; exact hb)
  have cf := HW0.out.frozen a
  generalize v.getD a 0 = p0 at *
  generalize v.getD b 0 = q0 at *
  go_wp2_with fail
  go_still_tail 13, (by kernel_rfl)
  change wpList _ _ _ _ _ w.drew
  go_wp2_with fail
  have HW1 : Hid (WB ((w.setCell ⟨R, a, none⟩ (.int .u32 ((uadd p0 q0 : Nat) : Int))).drew) R 126 v1) := by rw [HX0.out]; exact Lib.hid ((HW0.out.set_ a _).drew)
  have HG1 : Hid (w.grownBy ((w.setCell ⟨R, a, none⟩ (.int .u32 ((uadd p0 q0 : Nat) : Int))).drew) (some R)) := Lib.hid (grown_drew (grown_set HG0.out _ _))
  try rw [w_add]
  generalize (w.setCell ⟨R, a, none⟩ (.int .u32 ((uadd p0 q0 : Nat) : Int))).drew = w1 at *
  clear cx cy cf HW0 HG0 HX0
  -- 1: cxr v1 d a 16
  obtain ⟨v2, hv1⟩ : ∃ V, V = cxr v1 d a 16 := ⟨_, rfl⟩
  have HX1 : Hid (v2 = v1.set d (crol (uxor (v1.getD d 0) (v1.getD a 0)) 16)) := by rw [hv1]; exact Lib.hid rfl
  rw [← hv1] at HC
  have hl2 : v2.length = 16 := by rw [hv1, cxr_len, HL1.out]
  have HL2 := Lib.hid hl2
  clear hv1 hl2
  have cx := HW1.out.cellD d (by rw [HL1.out]; exact hd)
  have cy := HW1.out.cellD a (by rw [HL1.out]; exact ha)
  have cf := HW1.out.frozen d
  generalize v1.getD d 0 = p1 at *
  generalize v1.getD a 0 = q1 at *
  go_wp2_with fail
  refine wp_region_still_tail 16 (by kernel_rfl) (by kernel_rfl) ?_
  simp only [List.take_succ_cons, List.take_zero, List.drop_succ_cons, List.drop_zero]
  iterate 13 still_step
  rw [w_xor]
  still_call (rotL (uxor p1 q1) 16 _ rfl (by decide) _)
  iterate 2 still_step
  refine wpStill_nil ?_
  change wpList _ _ _ _ _ w1.drew
  go_wp2_with fail
  have HW2 : Hid (WB ((w1.setCell ⟨R, d, none⟩ (.int .u32 ((crol (uxor p1 q1) 16 : Nat) : Int))).drew) R 126 v2) := by rw [HX1.out]; exact Lib.hid ((HW1.out.set_ d _).drew)
  have HG2 : Hid (w.grownBy ((w1.setCell ⟨R, d, none⟩ (.int .u32 ((crol (uxor p1 q1) 16 : Nat) : Int))).drew) (some R)) := Lib.hid (grown_drew (grown_set HG1.out _ _))
  generalize (w1.setCell ⟨R, d, none⟩ (.int .u32 ((crol (uxor p1 q1) 16 : Nat) : Int))).drew = w2 at *
  clear cx cy cf HW1 HG1 HX1
  -- 2: cadd v2 c d
  obtain ⟨v3, hv2⟩ : ∃ V, V = cadd v2 c d := ⟨_, rfl⟩
  have HX2 : Hid (v3 = v2.set c (uadd (v2.getD c 0) (v2.getD d 0))) := by rw [hv2]; exact Lib.hid rfl
  rw [← hv2] at HC
  have hl3 : v3.length = 16 := by rw [hv2, cadd_len, HL2.out]
  have HL3 := Lib.hid hl3
  clear hv2 hl3
  have cx := HW2.out.cellD c (by rw [HL2.out]; exact hc)
  have cy := HW2.out.cellD d (by rw [HL2.out]; exact hd)
  have cf := HW2.out.frozen c
  generalize v2.getD c 0 = p2 at *
  generalize v2.getD d 0 = q2 at *
  go_wp2_with fail
  go_still_tail 13, (by kernel_rfl)
  change wpList _ _ _ _ _ w2.drew
  go_wp2_with fail
  have HW3 : Hid (WB ((w2.setCell ⟨R, c, none⟩ (.int .u32 ((uadd p2 q2 : Nat) : Int))).drew) R 126 v3) := by rw [HX2.out]; exact Lib.hid ((HW2.out.set_ c _).drew)
  have HG3 : Hid (w.grownBy ((w2.setCell ⟨R, c, none⟩ (.int .u32 ((uadd p2 q2 : Nat) : Int))).drew) (some R)) := Lib.hid (grown_drew (grown_set HG2.out _ _))
  try rw [w_add]
  generalize (w2.setCell ⟨R, c, none⟩ (.int .u32 ((uadd p2 q2 : Nat) : Int))).drew = w3 at *
  clear cx cy cf HW2 HG2 HX2
  -- 3: cxr v3 b c 12
  obtain ⟨v4, hv3⟩ : ∃ V, V = cxr v3 b c 12 := ⟨_, rfl⟩
  have HX3 : Hid (v4 = v3.set b (crol (uxor (v3.getD b 0) (v3.getD c 0)) 12)) := by rw [hv3]; exact Lib.hid rfl
  rw [← hv3] at HC
  have hl4 : v4.length = 16 := by rw [hv3, cxr_len, HL3.out]
  have HL4 := Lib.hid hl4
  clear hv3 hl4
  have cx := HW3.out.cellD b (by rw [HL3.out]; exact hb)
  have cy := HW3.out.cellD c (by rw [HL3.out]; exact hc)
  have cf := HW3.out.frozen b
  generalize v3.getD b 0 = p3 at *
  generalize v3.getD c 0 = q3 at *
  go_wp2_with fail
  refine wp_region_still_tail 16 (by kernel_rfl) (by kernel_rfl) ?_
  simp only [List.take_succ_cons, List.take_zero, List.drop_succ_cons, List.drop_zero]
  iterate 13 still_step
  rw [w_xor]
  still_call (rotL (uxor p3 q3) 12 _ rfl (by decide) _)
  iterate 2 still_step
  refine wpStill_nil ?_
  change wpList _ _ _ _ _ w3.drew
  go_wp2_with fail
  have HW4 : Hid (WB ((w3.setCell ⟨R, b, none⟩ (.int .u32 ((crol (uxor p3 q3) 12 : Nat) : Int))).drew) R 126 v4) := by rw [HX3.out]; exact Lib.hid ((HW3.out.set_ b _).drew)
  have HG4 : Hid (w.grownBy ((w3.setCell ⟨R, b, none⟩ (.int .u32 ((crol (uxor p3 q3) 12 : Nat) : Int))).drew) (some R)) := Lib.hid (grown_drew (grown_set HG3.out _ _))
  generalize (w3.setCell ⟨R, b, none⟩ (.int .u32 ((crol (uxor p3 q3) 12 : Nat) : Int))).drew = w4 at *
  clear cx cy cf HW3 HG3 HX3
  -- 4: cadd v4 a b
  obtain ⟨v5, hv4⟩ : ∃ V, V = cadd v4 a b := ⟨_, rfl⟩
  have HX4 : Hid (v5 = v4.set a (uadd (v4.getD a 0) (v4.getD b 0))) := by rw [hv4]; exact Lib.hid rfl
  rw [← hv4] at HC
  have hl5 : v5.length = 16 := by rw [hv4, cadd_len, HL4.out]
  have HL5 := Lib.hid hl5
  clear hv4 hl5
  have cx := HW4.out.cellD a (by rw [HL4.out]; exact ha)
  have cy := HW4.out.cellD b (by rw [HL4.out]; exact hb)
  have cf := HW4.out.frozen a
  generalize v4.getD a 0 = p4 at *
  generalize v4.getD b 0 = q4 at *
  go_wp2_with fail
  go_still_tail 13, (by kernel_rfl)
  change wpList _ _ _ _ _ w4.drew
  go_wp2_with fail
  have HW5 : Hid (WB ((w4.setCell ⟨R, a, none⟩ (.int .u32 ((uadd p4 q4 : Nat) : Int))).drew) R 126 v5) := by rw [HX4.out]; exact Lib.hid ((HW4.out.set_ a _).drew)
  have HG5 : Hid (w.grownBy ((w4.setCell ⟨R, a, none⟩ (.int .u32 ((uadd p4 q4 : Nat) : Int))).drew) (some R)) := Lib.hid (grown_drew (grown_set HG4.out _ _))
  try rw [w_add]
  generalize (w4.setCell ⟨R, a, none⟩ (.int .u32 ((uadd p4 q4 : Nat) : Int))).drew = w5 at *
  clear cx cy cf HW4 HG4 HX4
  -- 5: cxr v5 d a 8
  obtain ⟨v6, hv5⟩ : ∃ V, V = cxr v5 d a 8 := ⟨_, rfl⟩
  have HX5 : Hid (v6 = v5.set d (crol (uxor (v5.getD d 0) (v5.getD a 0)) 8)) := by rw [hv5]; exact Lib.hid rfl
  rw [← hv5] at HC
  have hl6 : v6.length = 16 := by rw [hv5, cxr_len, HL5.out]
  have HL6 := Lib.hid hl6
  clear hv5 hl6
  have cx := HW5.out.cellD d (by rw [HL5.out]; exact hd)
  have cy := HW5.out.cellD a (by rw [HL5.out]; exact ha)
  have cf := HW5.out.frozen d
  generalize v5.getD d 0 = p5 at *
  generalize v5.getD a 0 = q5 at *
  go_wp2_with fail
  refine wp_region_still_tail 16 (by kernel_rfl) (by kernel_rfl) ?_
  simp only [List.take_succ_cons, List.take_zero, List.drop_succ_cons, List.drop_zero]
  iterate 13 still_step
  rw [w_xor]
  still_call (rotL (uxor p5 q5) 8 _ rfl (by decide) _)
  iterate 2 still_step
  refine wpStill_nil ?_
  change wpList _ _ _ _ _ w5.drew
  go_wp2_with fail
  have HW6 : Hid (WB ((w5.setCell ⟨R, d, none⟩ (.int .u32 ((crol (uxor p5 q5) 8 : Nat) : Int))).drew) R 126 v6) := by rw [HX5.out]; exact Lib.hid ((HW5.out.set_ d _).drew)
  have HG6 : Hid (w.grownBy ((w5.setCell ⟨R, d, none⟩ (.int .u32 ((crol (uxor p5 q5) 8 : Nat) : Int))).drew) (some R)) := Lib.hid (grown_drew (grown_set HG5.out _ _))
  generalize (w5.setCell ⟨R, d, none⟩ (.int .u32 ((crol (uxor p5 q5) 8 : Nat) : Int))).drew = w6 at *
  clear cx cy cf HW5 HG5 HX5
  -- 6: cadd v6 c d
  obtain ⟨v7, hv6⟩ : ∃ V, V = cadd v6 c d := ⟨_, rfl⟩
  have HX6 : Hid (v7 = v6.set c (uadd (v6.getD c 0) (v6.getD d 0))) := by rw [hv6]; exact Lib.hid rfl
  rw [← hv6] at HC
  have hl7 : v7.length = 16 := by rw [hv6, cadd_len, HL6.out]
  have HL7 := Lib.hid hl7
  clear hv6 hl7
  have cx := HW6.out.cellD c (by rw [HL6.out]; exact hc)
  have cy := HW6.out.cellD d (by rw [HL6.out]; exact hd)
  have cf := HW6.out.frozen c
  generalize v6.getD c 0 = p6 at *
  generalize v6.getD d 0 = q6 at *
  go_wp2_with fail
  go_still_tail 13, (by kernel_rfl)
  change wpList _ _ _ _ _ w6.drew
  go_wp2_with fail
  have HW7 : Hid (WB ((w6.setCell ⟨R, c, none⟩ (.int .u32 ((uadd p6 q6 : Nat) : Int))).drew) R 126 v7) := by rw [HX6.out]; exact Lib.hid ((HW6.out.set_ c _).drew)
  have HG7 : Hid (w.grownBy ((w6.setCell ⟨R, c, none⟩ (.int .u32 ((uadd p6 q6 : Nat) : Int))).drew) (some R)) := Lib.hid (grown_drew (grown_set HG6.out _ _))
  try rw [w_add]
  generalize (w6.setCell ⟨R, c, none⟩ (.int .u32 ((uadd p6 q6 : Nat) : Int))).drew = w7 at *
  clear cx cy cf HW6 HG6 HX6
  -- 7: cxr v7 b c 7
  obtain ⟨v8, hv7⟩ : ∃ V, V = cxr v7 b c 7 := ⟨_, rfl⟩
  have HX7 : Hid (v8 = v7.set b (crol (uxor (v7.getD b 0) (v7.getD c 0)) 7)) := by rw [hv7]; exact Lib.hid rfl
  rw [← hv7] at HC
  have hl8 : v8.length = 16 := by rw [hv7, cxr_len, HL7.out]
  have HL8 := Lib.hid hl8
  clear hv7 hl8
  have cx := HW7.out.cellD b (by rw [HL7.out]; exact hb)
  have cy := HW7.out.cellD c (by rw [HL7.out]; exact hc)
  have cf := HW7.out.frozen b
  generalize v7.getD b 0 = p7 at *
  generalize v7.getD c 0 = q7 at *
  go_wp2_with fail
  refine wp_region_still_tail 16 (by kernel_rfl) (by kernel_rfl) ?_
  simp only [List.take_succ_cons, List.take_zero, List.drop_succ_cons, List.drop_zero]
  iterate 13 still_step
  rw [w_xor]
  still_call (rotL (uxor p7 q7) 7 _ rfl (by decide) _)
  iterate 2 still_step
  refine wpStill_nil ?_
  change wpList _ _ _ _ _ w7.drew
  go_wp2_with fail
  have HW8 : Hid (WB ((w7.setCell ⟨R, b, none⟩ (.int .u32 ((crol (uxor p7 q7) 7 : Nat) : Int))).drew) R 126 v8) := by rw [HX7.out]; exact Lib.hid ((HW7.out.set_ b _).drew)
  have HG8 : Hid (w.grownBy ((w7.setCell ⟨R, b, none⟩ (.int .u32 ((crol (uxor p7 q7) 7 : Nat) : Int))).drew) (some R)) := Lib.hid (grown_drew (grown_set HG7.out _ _))
  generalize (w7.setCell ⟨R, b, none⟩ (.int .u32 ((crol (uxor p7 q7) 7 : Nat) : Int))).drew = w8 at *
  clear cx cy cf HW7 HG7 HX7
  go_end0
  exact ⟨rfl, by rw [HC.out]; exact HW8.out, HG8.out⟩

theorem WB.setO {w : World} {g : Nat} {T : TypeId} {l : List Nat} (h : WB w g T l) {g' : Nat} (hne : g ≠ g') (i : Nat) (v : Value) : WB (w.setCell ⟨g', i, none⟩ v) g T l := (heap_setCell_other w ⟨g', i, none⟩ g v hne).trans h
theorem zeros16 (w : World) (T : TypeId) : w.alloc (.cells #[.int .u32 0, .int .u32 0, .int .u32 0, .int .u32 0, .int .u32 0, .int .u32 0, .int .u32 0, .int .u32 0, .int .u32 0, .int .u32 0, .int .u32 0, .int .u32 0, .int .u32 0, .int .u32 0, .int .u32 0, .int .u32 0] T) = w.alloc (.cells (wv (List.replicate 16 0)) T) := rfl

end Go.Proofs.YtpnemdhbdncknaaDoor

namespace Go.Proofs.YtpnemdhbdncknaaDoor
open Go.RowKit
set_option linter.unusedVariables false
set_option linter.unusedSimpArgs false

def lw4 (c0 c1 c2 c3 : Nat) : Nat := uor (uor (uor c0 (ushl c1 8)) (ushl c2 16)) (ushl c3 24)
theorem lword_lw4 (l : List UInt8) (t : Nat) : lword l t = lw4 (l.getD (4 * t) 0).toNat (l.getD (4 * t + 1) 0).toNat (l.getD (4 * t + 2) 0).toNat (l.getD (4 * t + 3) 0).toNat := rfl
theorem ushl_small (c n : Nat) (h : c ≤ 255) (hn : n ≤ 24) : ushl c n = c * 2 ^ n := by
  unfold ushl
  have h2 : 2 ^ n ≤ 2 ^ 24 := Nat.pow_le_pow_right (by decide) hn
  have h3 : c * 2 ^ n ≤ 255 * 2 ^ 24 := Nat.mul_le_mul h h2
  exact Nat.mod_eq_of_lt (Nat.lt_of_le_of_lt h3 (by decide))
theorem w_lw4 (c0 c1 c2 c3 : Nat) (k1 : c1 ≤ 255) (k2 : c2 ≤ 255) (k3 : c3 ≤ 255) : bits .or .u32 (bits .or .u32 (bits .or .u32 (c0 : Int) ((c1 : Int) * 256)) ((c2 : Int) * 65536)) ((c3 : Int) * 16777216) = ((lw4 c0 c1 c2 c3 : Nat) : Int) := by
  have e1 : (c1 : Int) * 256 = ((ushl c1 8 : Nat) : Int) := by rw [ushl_small c1 8 k1 (by decide)]; omega
  have e2 : (c2 : Int) * 65536 = ((ushl c2 16 : Nat) : Int) := by rw [ushl_small c2 16 k2 (by decide)]; omega
  have e3 : (c3 : Int) * 16777216 = ((ushl c3 24 : Nat) : Int) := by rw [ushl_small c3 24 k3 (by decide)]; omega
  rw [e1, e2, e3, w_or, w_or, w_or]; rfl

set_option maxHeartbeats 400000 in
theorem cword_any (b o n cap : Nat) (c0 c1 c2 c3 : Nat) (w : World) (hn : 4 ≤ n) (hn2 : n ≤ maxLen)
    (h0 : w.cell? ⟨b, o, none⟩ = some (.int .u8 c0)) (h1 : w.cell? ⟨b, o + 1, none⟩ = some (.int .u8 c1)) (h2 : w.cell? ⟨b, o + 2, none⟩ = some (.int .u8 c2)) (h3 : w.cell? ⟨b, o + 3, none⟩ = some (.int .u8 c3))
    (k0 : c0 ≤ 255) (k1 : c1 ≤ 255) (k2 : c2 ≤ 255) (k3 : c3 ≤ 255) :
    Calls Tryd.prog 78 #[.slice (some ⟨b, o, none⟩) n cap] w fun e w' => e = .returned (.int .u32 (lw4 c0 c1 c2 c3)) ∧ ∃ k, w' = w.drewN k := by
  unfold maxLen at hn2
  go_enter Tryd.func78, Tryd.ntmps78
  go_wp2_with fail
  go_quiet (fail)
  go_wp2_with fail
  go_ret
  exact ⟨ret_u32 (w_lw4 _ _ _ _ k1 k2 k3), _, rfl⟩
/-- The numbers when i words of the key stand. -/
def cstK (k : List UInt8) (i : Nat) : List Nat := (List.range i).foldl (fun v t => v.set (4 + t) (lword k t)) ([0x61707865, 0x3320646e, 0x79622d32, 0x6b206574] ++ List.replicate 12 0)
def cstN (k n : List UInt8) (c i : Nat) : List Nat := (List.range i).foldl (fun v t => v.set (13 + t) (lword n t)) ((cstK k 8).set 12 c)
theorem cstK_succ (k : List UInt8) (i : Nat) : cstK k (i + 1) = (cstK k i).set (4 + i) (lword k i) := by simp [cstK, List.range_succ, List.foldl_append]
theorem cstN_succ (k n : List UInt8) (c i : Nat) : cstN k n c (i + 1) = (cstN k n c i).set (13 + i) (lword n i) := by simp [cstN, List.range_succ, List.foldl_append]
theorem cstK_len (k : List UInt8) : ∀ i, (cstK k i).length = 16
  | 0 => rfl
  | i + 1 => by rw [cstK_succ, List.length_set, cstK_len k i]
theorem cstN_len (k n : List UInt8) (c : Nat) : ∀ i, (cstN k n c i).length = 16
  | 0 => by show ((cstK k 8).set 12 c).length = 16; rw [List.length_set, cstK_len]
  | i + 1 => by rw [cstN_succ, List.length_set, cstN_len k n c i]
theorem cstN_full (k n : List UInt8) (c : Nat) (hc : c < 4294967296) : cstN k n c 3 = cstart k n c := by
  unfold cstart
  rw [Nat.mod_eq_of_lt hc]
  rfl
/-- Word t's bytes stand in a block. -/
theorem BB.word {w : World} {g : Nat} {T : TypeId} {l : List UInt8} (h : BB w g T l) (t : Nat) (ht : 4 * t + 3 < l.length) :
    (w.cell? ⟨g, 4 * t, none⟩ = some (.int .u8 (l.getD (4 * t) 0).toNat) ∧ w.cell? ⟨g, 4 * t + 1, none⟩ = some (.int .u8 (l.getD (4 * t + 1) 0).toNat)) ∧ w.cell? ⟨g, 4 * t + 2, none⟩ = some (.int .u8 (l.getD (4 * t + 2) 0).toNat) ∧ w.cell? ⟨g, 4 * t + 3, none⟩ = some (.int .u8 (l.getD (4 * t + 3) 0).toNat) := by
  refine ⟨⟨?_, ?_⟩, ?_, ?_⟩
  · rw [h.cell (4 * t) (by omega)]; simp [bv, List.getD, (by omega : 4 * t < l.length)]
  · rw [h.cell (4 * t + 1) (by omega)]; simp [bv, List.getD, (by omega : 4 * t + 1 < l.length)]
  · rw [h.cell (4 * t + 2) (by omega)]; simp [bv, List.getD, (by omega : 4 * t + 2 < l.length)]
  · rw [h.cell (4 * t + 3) (by omega)]; simp [bv, List.getD, (by omega : 4 * t + 3 < l.length)]
theorem cword_at (g : Nat) (T : TypeId) (l : List UInt8) (t n cap : Nat) (w : World) (h : BB w g T l) (ht : 4 * t + 3 < l.length) (hn : 4 ≤ n) (hn2 : n ≤ maxLen) :
    Calls Tryd.prog 78 #[.slice (some ⟨g, 4 * t, none⟩) n cap] w fun e w' => e = .returned (.int .u32 (lword l t)) ∧ ∃ k, w' = w.drewN k := by
  obtain ⟨⟨h0, h1⟩, h2, h3⟩ := h.word t ht
  exact cword_any g (4 * t) n cap _ _ _ _ w hn hn2 h0 h1 h2 h3 (byte_le _ _) (byte_le _ _) (byte_le _ _) (byte_le _ _)
end Go.Proofs.YtpnemdhbdncknaaDoor

namespace Go.Proofs.YtpnemdhbdncknaaDoor
open Go.RowKit
set_option linter.unusedVariables false
set_option linter.unusedSimpArgs false

theorem nums_size (l : List Nat) (h : l.length = 16) : (Tryd.prog.info? 126).map (·.size) = some (wv l).size := by rw [wv_size, h]; kernel_rfl

theorem first4 (k : List UInt8) (w : World) (T : TypeId) : w.alloc (.cells #[.int .u32 1634760805, .int .u32 857760878, .int .u32 2036477234, .int .u32 1797285236, .int .u32 0, .int .u32 0, .int .u32 0, .int .u32 0, .int .u32 0, .int .u32 0, .int .u32 0, .int .u32 0, .int .u32 0, .int .u32 0, .int .u32 0, .int .u32 0] T) = w.alloc (.cells (wv (cstK k 0)) T) := rfl

set_option maxRecDepth 100000 in
theorem slice_key (g j : Nat) (h : j < 8) (W : World) : (Instr.sliceAt 23 (.pointer (some ⟨g, 0, none⟩)) (some (.int .i64 (4 * (j : Int)))) none none).run Tryd.prog W = .ok (.slice (some ⟨g, 4 * j, none⟩) (32 - 4 * j) (32 - 4 * j)) W := by
  have h1 : (Instr.sliceAt 23 (.pointer (some ⟨g, 0, none⟩)) (some (.int .i64 (4 * (j : Int)))) none none).run Tryd.prog W = _ := run_sliceAt_array_l (P := Tryd.prog) W 23 ⟨g, 0, none⟩ (by kernel_rfl) .i64 (4 * (j : Int)) (by omega) (by show 4 * (j : Int) ≤ ((32 : Nat) : Int); omega)
  rw [h1]
  have hz : (sizeOf (Tryd.prog.elem 23)).run Tryd.prog W = .ok 1 W := by kernel_rfl
  have hz2 : Tryd.prog.arrayLen 23 = 32 := by kernel_rfl
  rw [hz, hz2]
  have e : (4 * (j : Int)).toNat = 4 * j := by omega
  simp [Result.andThen, slicedAt, e, Addr.add]
  rw [if_neg (by omega)]
  split
  · rename_i h0; rw [h0]
  · rfl
set_option maxRecDepth 100000 in
theorem slice_nonce (g j : Nat) (h : j < 3) (W : World) : (Instr.sliceAt 44 (.pointer (some ⟨g, 0, none⟩)) (some (.int .i64 (4 * (j : Int)))) none none).run Tryd.prog W = .ok (.slice (some ⟨g, 4 * j, none⟩) (12 - 4 * j) (12 - 4 * j)) W := by
  have h1 : (Instr.sliceAt 44 (.pointer (some ⟨g, 0, none⟩)) (some (.int .i64 (4 * (j : Int)))) none none).run Tryd.prog W = _ := run_sliceAt_array_l (P := Tryd.prog) W 44 ⟨g, 0, none⟩ (by kernel_rfl) .i64 (4 * (j : Int)) (by omega) (by show 4 * (j : Int) ≤ ((12 : Nat) : Int); omega)
  rw [h1]
  have hz : (sizeOf (Tryd.prog.elem 44)).run Tryd.prog W = .ok 1 W := by kernel_rfl
  have hz2 : Tryd.prog.arrayLen 44 = 12 := by kernel_rfl
  rw [hz, hz2]
  have e : (4 * (j : Int)).toNat = 4 * j := by omega
  simp [Result.andThen, slicedAt, e, Addr.add]
  rw [if_neg (by omega)]
  split
  · rename_i h0; rw [h0]
  · rfl

/-- What the loops of start keep. -/
structure StI (w : World) (k n : List UInt8) (wr : World) : Prop where
  below : Below w.heap.size w wr
  key : BB wr w.heap.size 23 k
  nonce : BB wr (w.heap.size + 1) 44 n
  res : WB wr (w.heap.size + 1 + 1) 126 (List.replicate 16 0)
theorem StI.drewN {w : World} {k n : List UInt8} {wr : World} (h : StI w k n wr) (q : Nat) : StI w k n (wr.drewN q) := ⟨below_dN h.below q, h.key, h.nonce, h.res⟩
theorem StI.set_ {w : World} {k n : List UInt8} {wr : World} (h : StI w k n wr) (i : Nat) (v : Value) : StI w k n (wr.setCell ⟨w.heap.size + 1 + 1 + 1, i, none⟩ v) :=
  ⟨h.below.setCell (by show w.heap.size ≤ w.heap.size + 1 + 1 + 1; omega) v, h.key.setO (by omega) i v, h.nonce.setO (by omega) i v, h.res.setO (by omega) i v⟩
theorem StI.start (w : World) (k n : List UInt8) : StI w k n ((((w.alloc (.cells (bvA k) 23)).alloc (.cells (bvA n) 44)).alloc (.cells (wv (List.replicate 16 0)) 126)).alloc (.cells (wv (cstK k 0)) 126)) ∧
    WB ((((w.alloc (.cells (bvA k) 23)).alloc (.cells (bvA n) 44)).alloc (.cells (wv (List.replicate 16 0)) 126)).alloc (.cells (wv (cstK k 0)) 126)) (w.heap.size + 1 + 1 + 1) 126 (cstK k 0) := by
  refine ⟨⟨((((Below.refl _ _).alloc (Nat.le_refl _) _).alloc (by simp) _).alloc (by simp; omega) _).alloc (by simp; omega) _, (((BB.new w _ k).alloc _).alloc _).alloc _, ?_, ?_⟩, ?_⟩
  · have h := ((BB.new (w.alloc (.cells (bvA k) 23)) 44 n).alloc (.cells (wv (List.replicate 16 0)) 126)).alloc (.cells (wv (cstK k 0)) 126)
    simpa using h
  · have h := (WB.new ((w.alloc (.cells (bvA k) 23)).alloc (.cells (bvA n) 44)) 126 (List.replicate 16 0)).alloc (.cells (wv (cstK k 0)) 126)
    simpa using h
  · have h := WB.new (((w.alloc (.cells (bvA k) 23)).alloc (.cells (bvA n) 44)).alloc (.cells (wv (List.replicate 16 0)) 126)) 126 (cstK k 0)
    simpa using h

set_option maxRecDepth 100000 in
set_option maxHeartbeats 2000000 in
theorem start_any (k n : List UInt8) (c : Nat) (hk : k.length = 32) (hn : n.length = 12) (hc : c < 4294967296) (w : World) :
    Calls Tryd.prog 66 #[.agg (bvA k), .agg (bvA n), .int .u32 (c : Int)] w fun e w' => e = .returned (.agg (wv (cstart k n c))) ∧ Below w.heap.size w w' := by
  have HLK := Lib.hid hk
  have HLN := Lib.hid hn
  have HF := Lib.hid (cstN_full k n c hc)
  have HD : Hid (∀ i, (cstK k (i + 1)) = (cstK k i).set (4 + i) (lword k i)) := Lib.hid (cstK_succ k)
  have HDL : Hid (∀ i, (cstK k i).length = 16) := Lib.hid (cstK_len k)
  have HE0 : Hid (cstN k n c 0 = (cstK k 8).set 12 c) := Lib.hid rfl
  have HE : Hid (∀ i, (cstN k n c (i + 1)) = (cstN k n c i).set (13 + i) (lword n i)) := Lib.hid (cstN_succ k n c)
  have HEL : Hid (∀ i, (cstN k n c i).length = 16) := Lib.hid (cstN_len k n c)
  clear hk hn hc
  go_enter Tryd.func66, Tryd.ntmps66
  go_wp2_with fail
  rw [zeros16, first4 k]
  obtain ⟨w1, hw1⟩ : ∃ w1, w1 = (((w.alloc (.cells (bvA k) 23)).alloc (.cells (bvA n) 44)).alloc (.cells (wv (List.replicate 16 0)) 126)).alloc (.cells (wv (cstK k 0)) 126) := ⟨_, rfl⟩
  have HI : Hid (StI w k n w1 ∧ WB w1 (w.heap.size + 1 + 1 + 1) 126 (cstK k 0)) := Lib.hid (hw1 ▸ StI.start w k n)
  rw [← hw1]
  clear hw1
  go_loopw [11] (fun i wr => ∃ j : Nat, j ≤ 8 ∧ i = .int .i64 j ∧ StI w k n wr ∧ WB wr (w.heap.size + 1 + 1 + 1) 126 (cstK k j)) (fun i _ => 8 - (intOf i).toNat)
  case atStart => exact ⟨0, by omega, rfl, HI.out⟩
  case round =>
    clear HI
    obtain ⟨j, hj, rfl, hi, hw⟩ := hrel
    have HIj := Lib.hid hi
    have HWj := Lib.hid hw
    clear hi hw
    by_cases hlt : j < 8
    · have ij : (j : Int) < 8 := by omega
      have ij4 : (4 : Int) + j < 16 := by omega
      have hsl := slice_key w.heap.size j hlt
      have hcw := fun cap W h => cword_at w.heap.size 23 k j (32 - 4 * j) cap W h (by rw [HLK.out]; omega) (by omega) (by unfold maxLen; omega)
      have HCW := Lib.hid hcw
      clear hcw
      go_wp2_with (go_at_call 78; refine (HCW.out _ _ HIj.out.key).mono ?_; rintro e w2 ⟨rfl, q, rfl⟩; have c4 := HWj.out.cellD (4 + j) (by rw [HDL.out]; omega); have f4 := HWj.out.frozen (4 + j))
      go_roundw
      case rel =>
        refine ⟨j + 1, by omega, by go_num, (HIj.out.drewN q).set_ _ _, ?_⟩
        rw [HD.out]
        exact (HWj.out.drewN q).set_ _ _
      case measure => simp [intOf]; omega
    · obtain rfl : j = 8 := by omega
      clear hlt
      have c12 := HWj.out.cellD 12 (by rw [HDL.out]; omega)
      have f12 := HWj.out.frozen 12
      have HIn : Hid (StI w k n (wr.setCell ⟨w.heap.size + 1 + 1 + 1, 12, none⟩ (.int .u32 (c : Int))) ∧ WB (wr.setCell ⟨w.heap.size + 1 + 1 + 1, 12, none⟩ (.int .u32 (c : Int))) (w.heap.size + 1 + 1 + 1) 126 (cstN k n c 0)) := Lib.hid ⟨HIj.out.set_ _ _, by rw [HE0.out]; exact HWj.out.set_ _ _⟩
      go_wp2_with fail
      generalize wr.setCell ⟨w.heap.size + 1 + 1 + 1, 12, none⟩ (.int .u32 (c : Int)) = w5 at *
      clear HIj HWj c12 f12
      go_loopw [24] (fun i wr => ∃ j : Nat, j ≤ 3 ∧ i = .int .i64 j ∧ StI w k n wr ∧ WB wr (w.heap.size + 1 + 1 + 1) 126 (cstN k n c j)) (fun i _ => 3 - (intOf i).toNat)
      case atStart => exact ⟨0, by omega, rfl, HIn.out⟩
      case round =>
        clear HIn
        obtain ⟨j, hj, rfl, hi, hw⟩ := hrel
        have HIj := Lib.hid hi
        have HWj := Lib.hid hw
        clear hi hw
        by_cases hlt : j < 3
        · have ij : (j : Int) < 3 := by omega
          have ij4 : (13 : Int) + j < 16 := by omega
          have hsl := slice_nonce (w.heap.size + 1) j hlt
          have hcw := fun cap W h => cword_at (w.heap.size + 1) 44 n j (12 - 4 * j) cap W h (by rw [HLN.out]; omega) (by omega) (by unfold maxLen; omega)
          have HCW := Lib.hid hcw
          clear hcw
          go_wp2_with (go_at_call 78; refine (HCW.out _ _ HIj.out.nonce).mono ?_; rintro e w2 ⟨rfl, q, rfl⟩; have c4 := HWj.out.cellD (13 + j) (by rw [HEL.out]; omega); have f4 := HWj.out.frozen (13 + j))
          go_roundw
          case rel =>
            repeat apply Exists.intro
            refine ⟨⟨j + 1, by omega, ?_, ?_, ?_⟩, rfl⟩
            · go_num
            · exact (HIj.out.drewN q).set_ _ _
            · rw [HE.out]; exact (HWj.out.drewN q).set_ _ _
          case measure => simp [intOf]; omega
        · obtain rfl : j = 3 := by omega
          clear hlt
          rw [HF.out] at HWj
          have hsz := nums_size (cstart k n c) (cstart_len k n c)
          have HOL : Hid ((wv (List.replicate 16 0)).size = (wv (cstart k n c)).size) := Lib.hid (by rw [wv_size, wv_size, cstart_len]; rfl)
          go_wp2_with (first | (refine wpList_load_row rfl 126 (.tmp 7) rfl (w.heap.size + 1 + 1 + 1) rfl _ (wv (cstart k n c)) (0, 0) _ HWj.out Tryd.underlying126 rfl hsz ?_) | (refine wpList_storeA rfl 126 (.tmp 6) (.tmp 35) rfl (w.heap.size + 1 + 1) (wv (cstart k n c)) rfl rfl _ _ HIj.out.res hsz HOL.out (wv_one _) ?_))
          intro w9 h9 hg9
          go_wp2_with fail
          refine bodyPost_ret (v := .agg (wv (cstart k n c))) ?_ rfl ⟨rfl, grown_below HIj.out.below hg9 (by omega) HIj.out.below.size⟩
          exact results_cell_row rfl _ _ (w.heap.size + 1 + 1) 126 _ (0, 0) _ rfl h9 Tryd.underlying126 rfl hsz
end Go.Proofs.YtpnemdhbdncknaaDoor

namespace Go.Proofs.YtpnemdhbdncknaaDoor
open Go.RowKit
set_option linter.unusedVariables false
set_option linter.unusedSimpArgs false

/-- Byte j of a block. -/
def outW (v s : List Nat) (j : Nat) : UInt8 := UInt8.ofNat (uadd (v.getD (j / 4) 0) (s.getD (j / 4) 0) / 2 ^ (8 * (j % 4)))
def outC (v s : List Nat) (k : Nat) : List UInt8 := (List.range 64).map fun j => if j < k then outW v s j else 0
theorem outC_len (v s : List Nat) (k : Nat) : (outC v s k).length = 64 := by simp [outC]
theorem outC_zero (v s : List Nat) : outC v s 0 = List.replicate 64 0 := by
  apply List.ext_getElem
  · simp [outC]
  · intro i h1 h2
    rw [List.getElem_replicate]
    simp [outC]
theorem outC_set (v s : List Nat) (k : Nat) : (outC v s k).set k (outW v s k) = outC v s (k + 1) := by
  apply List.ext_getElem
  · simp [outC]
  · intro i h1 h2
    rw [List.getElem_set]
    simp only [outC, List.getElem_map, List.getElem_range]
    by_cases e : k = i
    · subst e; rw [if_pos rfl, if_pos (by omega)]
    · rw [if_neg e]
      by_cases h : i < k
      · rw [if_pos h, if_pos (by omega)]
      · rw [if_neg h, if_neg (by omega)]
theorem lbytes_pow (x : Nat) : lbytes x = [UInt8.ofNat (x / 2 ^ 0), UInt8.ofNat (x / 2 ^ 8), UInt8.ofNat (x / 2 ^ 16), UInt8.ofNat (x / 2 ^ 24)] := by simp [lbytes]
set_option maxRecDepth 100000 in
theorem outC_full (v s : List Nat) : outC v s 64 = coutTo v s 16 := by
  unfold coutTo
  simp only [lbytes_pow]
  rfl
theorem bv_outW (v s : List Nat) (j : Nat) : Value.int .u8 (((uadd (v.getD (j / 4) 0) (s.getD (j / 4) 0) : Nat) : Int) / 2 ^ (8 * (j % 4)) % 256) = bv (outW v s j) := by
  unfold bv outW
  rw [UInt8.toNat_ofNat']
  simp

theorem ccols_zero (v : List Nat) : ccols v 0 = v := rfl
theorem cdiags_zero (v : List Nat) : cdiags v 0 = v := rfl
theorem alloc_size (w : World) (o : Obj) : (w.alloc o).heap.size = w.heap.size + 1 := by simp
/-- What the loops of block keep: the result, the numbers' two blocks. -/
structure BkI (w : World) (s v : List Nat) (wr : World) : Prop where
  below : Below w.heap.size w wr
  num : WB wr w.heap.size 126 s
  out : BB wr (w.heap.size + 1) 103 (List.replicate 64 0)
  mix : WB wr (w.heap.size + 1 + 1) 126 v
theorem BkI.start (w : World) (s : List Nat) : BkI w s (List.replicate 16 0) (((w.alloc (.cells (wv s) 126)).alloc (.cells (bvA (List.replicate 64 0)) 103)).alloc (.cells (wv (List.replicate 16 0)) 126)) := by
  refine ⟨(((Below.refl _ _).alloc (Nat.le_refl _) _).alloc (by simp) _).alloc (by simp; omega) _, ((WB.new w _ s).alloc _).alloc _, ?_, ?_⟩
  · have h := (BB.new (w.alloc (.cells (wv s) 126)) 103 (List.replicate 64 0)).alloc (.cells (wv (List.replicate 16 0)) 126)
    rw [alloc_size] at h
    exact h
  · have h := WB.new ((w.alloc (.cells (wv s) 126)).alloc (.cells (bvA (List.replicate 64 0)) 103)) 126 (List.replicate 16 0)
    rw [alloc_size, alloc_size] at h
    exact h
theorem WB.grownO {w w' : World} {g R : Nat} {T : TypeId} {l : List Nat} (h : WB w g T l) (hg : w.grownBy w' (some R)) (hne : g ≠ R) : WB w' g T l := (hg.block g h.lt (fun e => hne (by injection e))).trans h
/-- A mix. -/
theorem BkI.mixed {w : World} {s v v' : List Nat} {wr w' : World} (h : BkI w s v wr) (hg : wr.grownBy w' (some (w.heap.size + 1 + 1))) (hm : WB w' (w.heap.size + 1 + 1) 126 v') : BkI w s v' w' :=
  ⟨grown_below h.below hg (by omega) h.below.size, h.num.grownO hg (by omega), h.out.grown hg (by omega), hm⟩

set_option maxRecDepth 100000 in
set_option maxHeartbeats 2000000 in
theorem block_any (s : List Nat) (hs : s.length = 16) (w : World) :
    Calls Tryd.prog 67 #[.agg (wv s)] w fun e w' => e = .returned (.agg (bvA (coutTo (crounds s 10) s 16))) ∧ Below w.heap.size w w' := by
  obtain ⟨Z, hZ⟩ : ∃ Z, Z = bvA (List.replicate 64 0) := ⟨_, rfl⟩
  have hz := fun W : World => (by rw [hZ]; kernel_rfl : (zeroValue 103).run Tryd.prog W = .ok (.agg Z) W)
  have HLS := Lib.hid hs
  have HI0 : Hid (BkI w s (List.replicate 16 0) (((w.alloc (.cells (wv s) 126)).alloc (.cells Z 103)).alloc (.cells (wv (List.replicate 16 0)) 126))) := Lib.hid (hZ ▸ BkI.start w s)
  have HS1 : Hid ((Tryd.prog.info? 126).map (·.size) = some (wv s).size) := Lib.hid (nums_size s hs)
  have HOL : Hid ((wv (List.replicate 16 0)).size = (wv s).size) := Lib.hid (by rw [wv_size, wv_size, hs]; rfl)
  clear hs hZ
  go_enter Tryd.func67, Tryd.ntmps67
  go_wp2_with (first
    | (refine wpList_load_row rfl 126 (.tmp 1) rfl w.heap.size rfl _ (wv s) (0, 0) _ ((WB.new w _ s).alloc _) Tryd.underlying126 rfl HS1.out ?_)
    | (refine wpList_storeA rfl 126 (.tmp 3) (.tmp 9) rfl (w.heap.size + 1 + 1) (wv s) rfl rfl _ _ HI0.out.mix HS1.out HOL.out (wv_one _) ?_))
  intro w1 h1 hg1
  have HI : Hid (BkI w s (crounds s 0) w1) := Lib.hid (HI0.out.mixed hg1 h1)
  clear h1 hg1 HI0
  go_wp2_with fail
  go_loopw [11] (fun i wr => ∃ j : Nat, j ≤ 10 ∧ i = .int .i64 j ∧ BkI w s (crounds s j) wr) (fun i _ => 10 - (intOf i).toNat)
  case atStart => exact ⟨0, by omega, rfl, HI.out⟩
  case round =>
    clear HI
    obtain ⟨j, hj, rfl, hi⟩ := hrel
    have HIj := Lib.hid hi
    clear hi
    by_cases hlt : j < 10
    · have ij : (j : Int) < 10 := by omega
      have HVL : Hid (∀ i, (ccols (crounds s j) i).length = 16) := Lib.hid (fun i => by rw [ccols_len, crounds_len, HLS.out])
      have HV : Hid (∀ i, ccols (crounds s j) (i + 1) = cmix (ccols (crounds s j) i) i (4 + i) (8 + i) (12 + i)) := Lib.hid (fun i => ccols_succ _ i)
      have HR : Hid (crounds s (j + 1) = cdiags (ccols (crounds s j) 4) 4) := Lib.hid rfl
      have HI1 : Hid (BkI w s (ccols (crounds s j) 0) wr) := by rw [ccols_zero]; exact HIj
      generalize crounds s j = v at *
      go_wp2_with fail
      go_loopw [13] (fun i wr => ∃ m : Nat, m ≤ 4 ∧ i = .int .i64 m ∧ BkI w s (ccols v m) wr) (fun i _ => 4 - (intOf i).toNat)
      case atStart => exact ⟨0, by omega, rfl, HI1.out⟩
      case round =>
        clear HI1 HIj
        obtain ⟨m, hm, rfl, hi⟩ := hrel
        have HIm := Lib.hid hi
        clear hi
        by_cases hlt2 : m < 4
        · have im : (m : Int) < 4 := by omega
          have HM : Hid (∀ W, WB W (w.heap.size + 1 + 1) 126 (ccols v m) → Calls Tryd.prog 79 #[.pointer (some ⟨w.heap.size + 1 + 1, 0, none⟩), .int .i64 (m : Int), .int .i64 (4 + (m : Int)), .int .i64 (8 + (m : Int)), .int .i64 (12 + (m : Int))] W fun e w' => e = .returned (.tuple #[]) ∧ WB w' (w.heap.size + 1 + 1) 126 (ccols v (m + 1)) ∧ W.grownBy w' (some (w.heap.size + 1 + 1))) := by
            show ∀ W, _ → _
            intro W hW
            have h := mix_any (w.heap.size + 1 + 1) (ccols v m) m (4 + m) (8 + m) (12 + m) W (HVL.out m) (by omega) (by omega) (by omega) (by omega) hW
            rw [← HV.out m, Int.natCast_add, Int.natCast_add, Int.natCast_add] at h
            exact h
          go_wp2_with (go_at_call 79; refine (HM.out _ HIm.out.mix).mono ?_; rintro e w2 ⟨rfl, hw2, hg2⟩)
          go_roundw
          case rel =>
            exact ⟨m + 1, by omega, by go_num, HIm.out.mixed hg2 hw2⟩
          case measure => simp [intOf]; omega
        · obtain rfl : m = 4 := by omega
          clear hlt2
          have HI2 : Hid (BkI w s (cdiags (ccols v 4) 0) wr) := by rw [cdiags_zero]; exact HIm
          have HVL2 : Hid (∀ i, (cdiags (ccols v 4) i).length = 16) := Lib.hid (fun i => by rw [cdiags_len, HVL.out])
          have HV2 : Hid (∀ i, cdiags (ccols v 4) (i + 1) = cmix (cdiags (ccols v 4) i) i (4 + (i + 1) % 4) (8 + (i + 2) % 4) (12 + (i + 3) % 4)) := Lib.hid (fun i => cdiags_succ _ i)
          generalize ccols v 4 = v4 at *
          clear HIm
          go_wp2_with fail
          go_loopw [26] (fun i wr => ∃ m : Nat, m ≤ 4 ∧ i = .int .i64 m ∧ BkI w s (cdiags v4 m) wr) (fun i _ => 4 - (intOf i).toNat)
          case atStart => exact ⟨0, by omega, rfl, HI2.out⟩
          case round =>
            clear HI2
            obtain ⟨m, hm, rfl, hi⟩ := hrel
            have HIm := Lib.hid hi
            clear hi
            by_cases hlt2 : m < 4
            · have im : (m : Int) < 4 := by omega
              have HM : Hid (∀ W, WB W (w.heap.size + 1 + 1) 126 (cdiags v4 m) → Calls Tryd.prog 79 #[.pointer (some ⟨w.heap.size + 1 + 1, 0, none⟩), .int .i64 (m : Int), .int .i64 (4 + ((m : Int) + 1) % 4), .int .i64 (8 + ((m : Int) + 2) % 4), .int .i64 (12 + ((m : Int) + 3) % 4)] W fun e w' => e = .returned (.tuple #[]) ∧ WB w' (w.heap.size + 1 + 1) 126 (cdiags v4 (m + 1)) ∧ W.grownBy w' (some (w.heap.size + 1 + 1))) := by
                show ∀ W, _ → _
                intro W hW
                have h := mix_any (w.heap.size + 1 + 1) (cdiags v4 m) m (4 + (m + 1) % 4) (8 + (m + 2) % 4) (12 + (m + 3) % 4) W (HVL2.out m) (by omega) (by omega) (by omega) (by omega) hW
                rw [← HV2.out m, show ((4 + (m + 1) % 4 : Nat) : Int) = 4 + ((m : Int) + 1) % 4 by omega, show ((8 + (m + 2) % 4 : Nat) : Int) = 8 + ((m : Int) + 2) % 4 by omega, show ((12 + (m + 3) % 4 : Nat) : Int) = 12 + ((m : Int) + 3) % 4 by omega] at h
                exact h
              go_wp2_with (go_at_call 79; refine (HM.out _ HIm.out.mix).mono ?_; rintro e w2 ⟨rfl, hw2, hg2⟩)
              go_roundw
              case rel =>
                repeat apply Exists.intro
                refine ⟨⟨m + 1, by omega, ?_, ?_⟩, rfl⟩
                · go_num
                · exact HIm.out.mixed hg2 hw2
              case measure => simp [intOf]; omega
            · obtain rfl : m = 4 := by omega
              clear hlt2
              rw [← HR.out] at HIm
              go_wp2_with fail
              go_roundw
              case rel =>
                exact ⟨j + 1, by omega, by go_num, HIm.out⟩
              case measure => simp [intOf]; omega
    · obtain rfl : j = 10 := by omega
      have HVL : Hid ((crounds s 10).length = 16) := Lib.hid (by rw [crounds_len, HLS.out])
      have HO0 : Hid (BkI w s (crounds s 10) wr) := HIj
      obtain ⟨v, hv⟩ : ∃ v, crounds s 10 = v := ⟨_, rfl⟩
      rw [hv] at HVL HO0
      have HQ := Lib.hid hv
      clear hlt HIj hv
      have HI2 : Hid (Below w.heap.size w wr ∧ WB wr w.heap.size 126 s ∧ WB wr (w.heap.size + 1 + 1) 126 v ∧ BB wr (w.heap.size + 1) 103 (outC v s 0)) := Lib.hid ⟨HO0.out.below, HO0.out.num, HO0.out.mix, by rw [outC_zero]; exact HO0.out.out⟩
      clear HO0
      have HF := Lib.hid (outC_full v s)
      have HSET := Lib.hid (outC_set v s)
      have HVAL := Lib.hid (bv_outW v s)
      go_wp2_with fail
      go_loopw [46] (fun i wr => ∃ m : Nat, m ≤ 64 ∧ i = .int .i64 m ∧ Below w.heap.size w wr ∧ WB wr w.heap.size 126 s ∧ WB wr (w.heap.size + 1 + 1) 126 v ∧ BB wr (w.heap.size + 1) 103 (outC v s m)) (fun i _ => 64 - (intOf i).toNat)
      case atStart => exact ⟨0, by omega, rfl, HI2.out⟩
      case round =>
        clear HI2
        obtain ⟨m, hm, rfl, hb, h1, h2, h3⟩ := hrel
        have HB := Lib.hid hb
        have H1 := Lib.hid h1
        have H2 := Lib.hid h2
        have H3 := Lib.hid h3
        clear hb h1 h2 h3
        by_cases hlt : m < 64
        · have hd : m / 4 < 16 := by omega
          have c1 := H1.out.cellD (m / 4) (by rw [HLS.out]; exact hd)
          have c2 := H2.out.cellD (m / 4) (by rw [HVL.out]; exact hd)
          have c3 := H3.out.cell m (by rw [outC_len]; exact hlt)
          have f3 := H3.out.frozen m
          have im : (m : Int) < 64 := by omega
          have HV := Lib.hid (HVAL.out m)
          have HX := Lib.hid (HSET.out m)
          generalize s.getD (m / 4) 0 = y at *
          generalize v.getD (m / 4) 0 = x at *
          have id : (m : Int) / 4 < 16 := by omega
          have i0 : (0 : Int) ≤ (m : Int) / 4 := by omega
          have it : ((m : Int) / 4).toNat = m / 4 := by omega
          obtain ⟨q, hq⟩ : ∃ q, q = 8 * (m % 4) := ⟨_, rfl⟩
          have sh : IntKind.i64.wrap (8 * (m : Int).tmod 4) = (q : Int) := by
            rw [Int.tmod_eq_emod_of_nonneg (by omega), IntWalk.i64_in _ (by omega)]; omega
          have sq : q ≤ 24 := by omega
          rw [← hq] at HV
          clear hq
          have sw := u_add x y
          go_wp2_with fail
          go_still_tail 13, (by kernel_rfl)
          change wpList _ _ _ _ _ wr.drew
          go_wp2_with fail
          go_roundw
          case rel =>
            repeat apply Exists.intro
            refine ⟨⟨m + 1, by omega, ?_, ?_, ?_, ?_, ?_⟩, rfl⟩
            · go_num
            · exact (HB.out.setCell (by show w.heap.size ≤ w.heap.size + 1; omega) _).drew
            · exact (WB.setO H1.out (by omega) _ _).drew
            · exact (WB.setO H2.out (by omega) _ _).drew
            · rw [← HX.out]
              have h := (H3.out.set_ m (outW v s m)).drew
              rw [← HV.out] at h
              exact h
          case measure => simp [intOf]; omega
        · obtain rfl : m = 64 := by omega
          clear hlt
          rw [HF.out] at H3
          have hsz : (Tryd.prog.info? 103).map (·.size) = some (bvA (coutTo v s 16)).size := by rw [bvA_size, coutTo_len]; kernel_rfl
          go_wp2_with (first | (refine wpList_load_row rfl 103 (.tmp 2) rfl (w.heap.size + 1) rfl _ (bvA (coutTo v s 16)) (0, 0) _ H3.out Tryd.underlying103 rfl hsz ?_) | (refine wpList_storeA rfl 103 (.tmp 2) (.tmp 66) rfl (w.heap.size + 1) (bvA (coutTo v s 16)) rfl rfl _ _ H3.out hsz rfl (bvA_one _) ?_))
          intro w9 h9 hg9
          go_wp2_with fail
          rw [HQ.out]
          refine bodyPost_ret (v := .agg (bvA (coutTo v s 16))) ?_ rfl ⟨rfl, grown_below HB.out hg9 (by omega) HB.out.size⟩
          exact results_cell_row rfl _ _ (w.heap.size + 1) 103 _ (0, 0) _ rfl h9 Tryd.underlying103 rfl hsz

/-- A block of a key, a nonce and a counter. -/
theorem blockOf_len (k n : List UInt8) (c : Nat) : (cblock k n c).length = 64 := cblock_len k n c
end Go.Proofs.YtpnemdhbdncknaaDoor

namespace Go.Proofs.YtpnemdhbdncknaaDoor
open Go.RowKit
set_option linter.unusedVariables false
set_option linter.unusedSimpArgs false

/-- The stream's bytes when m of them stand. -/
def cstTo (k n b : List UInt8) (m : Nat) : List UInt8 := (List.range b.length).map fun i => if i < m then b.getD i 0 ^^^ cbyte k n i else 0
theorem cstTo_len (k n b : List UInt8) (m : Nat) : (cstTo k n b m).length = b.length := by simp [cstTo]
theorem cstTo_zero (k n b : List UInt8) : cstTo k n b 0 = List.replicate b.length 0 := by
  apply List.ext_getElem
  · simp [cstTo]
  · intro i h1 h2
    rw [List.getElem_replicate]
    simp [cstTo]
theorem cstTo_set (k n b : List UInt8) (m : Nat) : (cstTo k n b m).set m (b.getD m 0 ^^^ cbyte k n m) = cstTo k n b (m + 1) := by
  apply List.ext_getElem
  · simp [cstTo]
  · intro i h1 h2
    rw [List.getElem_set]
    simp only [cstTo, List.getElem_map, List.getElem_range]
    by_cases e : m = i
    · subst e; rw [if_pos rfl, if_pos (by omega)]
    · rw [if_neg e]
      by_cases h : i < m
      · rw [if_pos h, if_pos (by omega)]
      · rw [if_neg h, if_neg (by omega)]
theorem cstTo_full (k n b : List UInt8) : cstTo k n b b.length = cstream k n b := by
  unfold cstTo cstream
  apply List.map_congr_left
  intro i hi
  rw [if_pos (by simpa using hi)]
theorem cbyte_eq (k n : List UInt8) (m q u : Nat) (hq : q = m % 64) (hu : u = 1 + m / 64) : cbyte k n m = (cblock k n u).getD q 0 := by subst hq; subst hu; rfl

/-- The block that stands when m bytes have been made. -/
def blkE (k n : List UInt8) (m : Nat) : List UInt8 := if m = 0 then List.replicate 64 0 else cblock k n (1 + (m - 1) / 64)
theorem blkE_len (k n : List UInt8) (m : Nat) : (blkE k n m).length = 64 := by
  unfold blkE; split
  · rw [List.length_replicate]
  · exact cblock_len _ _ _
theorem blkE_zero (k n : List UInt8) : blkE k n 0 = List.replicate 64 0 := rfl
theorem blkE_succ (k n : List UInt8) (m : Nat) : blkE k n (m + 1) = cblock k n (1 + m / 64) := by unfold blkE; rw [if_neg (by omega), Nat.add_sub_cancel]
theorem blkE_mid (k n : List UInt8) (m : Nat) (h : ¬ m % 64 = 0) : blkE k n m = cblock k n (1 + m / 64) := by
  unfold blkE
  rw [if_neg (by intro e; subst e; exact h rfl), show (m - 1) / 64 = m / 64 by omega]

/-- What the loop of stream keeps: bytes X, block Y. -/
structure SmI (w : World) (k n X Y : List UInt8) (q : Nat) (wr : World) : Prop where
  below : Below w.heap.size w wr
  key : BB wr w.heap.size 23 k
  nonce : BB wr (w.heap.size + 1) 44 n
  out : OwnB (w.heap.size + 1 + 1) wr (.slice (some ⟨w.heap.size + 1 + 1, 0, none⟩) q q) X
  blk : BB wr (w.heap.size + 1 + 1 + 1) 103 Y
theorem OwnB.setO {B : Nat} {w : World} {v : Value} {l : List UInt8} (h : OwnB B w v l) {g : Nat} (hne : v.ownBlock ≠ some g) (i : Nat) (x : Value) : OwnB B (w.setCell ⟨g, i, none⟩ x) v l := by
  refine ⟨h.1, ?_⟩
  rcases h.2 with h2 | ⟨g', cap, cur, hv, hg, hh, r⟩
  · exact .inl h2
  · refine .inr ⟨g', cap, cur, hv, hg, ?_, r⟩
    rw [heap_setCell_other _ _ _ _ (by intro e; apply hne; rw [hv, e]; rfl)]; exact hh
theorem OwnB.grownO {B : Nat} {w w' : World} {v : Value} {l : List UInt8} (h : OwnB B w v l) {g : Nat} (hg : w.grownBy w' (some g)) (hne : v.ownBlock ≠ some g) : OwnB B w' v l := by
  refine ⟨h.1, ?_⟩
  rcases h.2 with h2 | ⟨g', cap, cur, hv, hg', hh, r⟩
  · exact .inl h2
  · refine .inr ⟨g', cap, cur, hv, hg', ?_, r⟩
    rw [hg.block g' (Array.getElem?_eq_some_iff.1 hh).1 (by intro e; apply hne; rw [hv]; injection e with e; rw [e]; rfl)]; exact hh
theorem SmI.start (w : World) (k n : List UInt8) (q : Nat) (hq : q ≤ 65536) : SmI w k n (List.replicate q 0) (List.replicate 64 0) q ((((w.alloc (.cells (bvA k) 23)).alloc (.cells (bvA n) 44)).alloc (.cells (madeCells #[.int .u8 0] q) 5)).alloc (.cells (bvA (List.replicate 64 0)) 103)) := by
  refine ⟨((((Below.refl _ _).alloc (Nat.le_refl _) _).alloc (by simp) _).alloc (by rw [alloc_size, alloc_size]; omega) _).alloc (by rw [alloc_size, alloc_size, alloc_size]; omega) _, (((BB.new w _ k).alloc _).alloc _).alloc _, ?_, ?_, ?_⟩
  · have h := ((BB.new (w.alloc (.cells (bvA k) 23)) 44 n).alloc (.cells (madeCells #[.int .u8 0] q) 5)).alloc (.cells (bvA (List.replicate 64 0)) 103)
    rw [alloc_size] at h
    exact h
  · have h := (OwnB.zeros (B := w.heap.size + 1 + 1) (w := (w.alloc (.cells (bvA k) 23)).alloc (.cells (bvA n) 44)) q (by omega) (by rw [alloc_size, alloc_size]; exact Nat.le_refl _)).alloc (.cells (bvA (List.replicate 64 0)) 103)
    rw [alloc_size, alloc_size] at h
    exact h
  · have h := BB.new (((w.alloc (.cells (bvA k) 23)).alloc (.cells (bvA n) 44)).alloc (.cells (madeCells #[.int .u8 0] q) 5)) 103 (List.replicate 64 0)
    rw [alloc_size, alloc_size, alloc_size] at h
    exact h
/-- A call. -/
theorem SmI.call {w : World} {k n X Y : List UInt8} {q : Nat} {wr w' : World} (h : SmI w k n X Y q wr) (hb : Below wr.heap.size wr w') : SmI w k n X Y q w' :=
  ⟨h.below.trans (hb.mono h.below.size), h.key.below hb h.key.lt, h.nonce.below hb h.nonce.lt, h.out.below hb, h.blk.below hb h.blk.lt⟩
/-- Another block. -/
theorem SmI.block {w : World} {k n X Y Y' : List UInt8} {q : Nat} {wr w' : World} (h : SmI w k n X Y q wr) (hg : wr.grownBy w' (some (w.heap.size + 1 + 1 + 1))) (hn : BB w' (w.heap.size + 1 + 1 + 1) 103 Y') : SmI w k n X Y' q w' :=
  ⟨grown_below h.below hg (by omega) h.below.size, h.key.grown hg (by omega), h.nonce.grown hg (by omega), h.out.grownO hg (by show some (w.heap.size + 1 + 1) ≠ some (w.heap.size + 1 + 1 + 1); intro e; injection e with e; omega), hn⟩
/-- A byte. -/
theorem SmI.put {w : World} {k n X Y : List UInt8} {wr : World} (h : SmI w k n X Y X.length wr) (j : Nat) (c : UInt8) : SmI w k n (X.set j c) Y X.length (wr.setCell ⟨w.heap.size + 1 + 1, j, none⟩ (bv c)) :=
  ⟨h.below.setCell (by show w.heap.size ≤ w.heap.size + 1 + 1; omega) _, h.key.setO (by omega) _ _, h.nonce.setO (by omega) _ _, h.out.stored j c, h.blk.setO (by omega) _ _⟩
theorem SmI.drew {w : World} {k n X Y : List UInt8} {q : Nat} {wr : World} (h : SmI w k n X Y q wr) : SmI w k n X Y q wr.drew := ⟨h.below.drew, h.key.drew, h.nonce.drew, h.out.drew, h.blk.drew⟩

set_option maxRecDepth 100000 in
set_option maxHeartbeats 2000000 in
theorem stream_any (k n l : List UInt8) (hk : k.length = 32) (hn : n.length = 12) (a : Option Addr) (cap : Nat) (w : World) (hl : RdB w.heap.size w a l) (hcap : l.length ≤ cap) (hc2 : cap ≤ maxLen) (h16 : l.length ≤ 65536) :
    Calls Tryd.prog 50 #[.agg (bvA k), .agg (bvA n), .slice a l.length cap] w fun e w' => ∃ v, e = .returned v ∧ OwnB (w.heap.size + 1 + 1) w' v (cstream k n l) ∧ Below w.heap.size w w' := by
  obtain ⟨Z, hZ⟩ : ∃ Z, Z = bvA (List.replicate 64 0) := ⟨_, rfl⟩
  have hz := fun W : World => (by rw [hZ]; kernel_rfl : (zeroValue 103).run Tryd.prog W = .ok (.agg Z) W)
  have hmk := fun W => run_makeZ l.length (by omega) W
  have HK := Lib.hid hk
  have HN := Lib.hid hn
  clear hk hn
  have HI0 : Hid (SmI w k n (cstTo k n l 0) (blkE k n 0) l.length ((((w.alloc (.cells (bvA k) 23)).alloc (.cells (bvA n) 44)).alloc (.cells (madeCells #[.int .u8 0] l.length) 5)).alloc (.cells Z 103))) := Lib.hid (by rw [hZ, cstTo_zero, blkE_zero]; exact SmI.start w k n l.length h16)
  clear hZ
  have HL := Lib.hid hl
  have HXL := Lib.hid (cstTo_len k n l)
  have HF := Lib.hid (cstTo_full k n l)
  have HSET := Lib.hid (cstTo_set k n l)
  obtain ⟨q, hq⟩ : ∃ q, l.length = q := ⟨_, rfl⟩
  rw [hq] at HI0 HXL HF hcap h16 hmk ⊢
  have HQ := Lib.hid hq
  clear hl hq
  have i16 : (q : Int) ≤ 65536 := by omega
  go_enter Tryd.func50, Tryd.ntmps50
  go_wp2_with fail
  generalize (((w.alloc (.cells (bvA k) 23)).alloc (.cells (bvA n) 44)).alloc (.cells (madeCells #[.int .u8 0] q) 5)).alloc (.cells Z 103) = w1 at *
  go_loopw [15] (fun i wr => ∃ m : Nat, m ≤ q ∧ i = .int .i64 m ∧ SmI w k n (cstTo k n l m) (blkE k n m) q wr) (fun i _ => q - (intOf i).toNat)
  case atStart => exact ⟨0, by omega, rfl, HI0.out⟩
  case round =>
    clear HI0
    obtain ⟨m, hm, rfl, hi⟩ := hrel
    have HI := Lib.hid hi
    clear hi
    by_cases hlt : m < q
    · have im : (m : Int) < (q : Int) := by omega
      obtain ⟨b, o, rfl, hbB, hcell⟩ := HL.out.at_ (by rw [HQ.out]; omega)
      have HCL : Hid (wr.cell? ⟨b, o + m, none⟩ = some (bv (l.getD m 0))) := by
        show _ = _
        rw [HI.out.below.cell (p := ⟨b, o + m, none⟩) hbB, hcell m (by rw [HQ.out]; exact hlt)]
        rw [List.getD, List.getElem?_eq_getElem (by rw [HQ.out]; exact hlt)]; rfl
      clear hcell
      by_cases hmod : m % 64 = 0
      · have ht : (m : Int).tmod 64 = 0 := by rw [Int.tmod_eq_emod_of_nonneg (by omega)]; omega
        go_wp2_with (first
          | (refine wpList_load_row rfl 23 (.tmp 3) rfl w.heap.size rfl _ (bvA k) (0, 0) _ HI.out.key Tryd.underlying23 rfl (by rw [bvA_size, HK.out]; kernel_rfl) ?_)
          | (refine wpList_load_row rfl 44 (.tmp 4) rfl (w.heap.size + 1) rfl _ (bvA n) (0, 0) _ HI.out.nonce Tryd.underlying44 rfl (by rw [bvA_size, HN.out]; kernel_rfl) ?_))
        -- MADE
        rw [show (1 + (m : Int) / 64) = ((1 + m / 64 : Nat) : Int) by omega]
        refine (start_any k n (1 + m / 64) HK.out HN.out (by omega) wr).mono ?_
        rintro e w2 ⟨rfl, hb2⟩
        have HI2 := Lib.hid (HI.out.call hb2)
        have hck2 := (hb2.cell (p := ⟨b, o + m, none⟩) (Nat.lt_of_lt_of_le hbB HI.out.below.size)).trans HCL.out
        go_wp2_with fail
        refine (block_any (cstart k n (1 + m / 64)) (cstart_len _ _ _) w2).mono ?_
        rintro e w3 ⟨rfl, hb3⟩
        have HI3 := Lib.hid (HI2.out.call hb3)
        have hck3 := (hb3.cell (p := ⟨b, o + m, none⟩) (Nat.lt_of_lt_of_le hbB HI2.out.below.size)).trans hck2
        rw [show coutTo (crounds (cstart k n (1 + m / 64)) 10) (cstart k n (1 + m / 64)) 16 = cblock k n (1 + m / 64) from rfl]
        have hsz : (Tryd.prog.info? 103).map (·.size) = some (bvA (cblock k n (1 + m / 64))).size := by rw [bvA_size, cblock_len]; kernel_rfl
        have HOL : Hid ((bvA (blkE k n m)).size = (bvA (cblock k n (1 + m / 64))).size) := Lib.hid (by rw [bvA_size, bvA_size, blkE_len, cblock_len])
        clear hb2 hb3 HI HI2 hck2
        go_wp2_with (refine wpList_storeA rfl 103 (.tmp 8) (.tmp 28) rfl (w.heap.size + 1 + 1 + 1) (bvA (cblock k n (1 + m / 64))) rfl rfl _ _ HI3.out.blk hsz HOL.out (bvA_one _) ?_)
        intro w4 h4 hg4
        have HJ := Lib.hid (HI3.out.block hg4 h4)
        have HCJ : Hid (w4.cell? ⟨b, o + m, none⟩ = some (bv (l.getD m 0))) := Lib.hid ((World.cell?_of_block (w := w3) (hg4.block b (Nat.lt_of_lt_of_le hbB HI3.out.below.size) (by intro e; injection e with e; omega))).trans hck3)
        clear h4 hg4 HI3 hck3 hsz ht
        obtain ⟨Y, hY⟩ : ∃ Y, cblock k n (1 + m / 64) = Y := ⟨_, rfl⟩
        have HYL : Hid (Y.length = 64) := Lib.hid (by rw [← hY, cblock_len])
        obtain ⟨r, hr⟩ : ∃ r, r = m % 64 := ⟨_, rfl⟩
        have HCB : Hid (cbyte k n m = Y.getD r 0) := Lib.hid (by rw [cbyte_eq k n m r (1 + m / 64) hr rfl, hY])
        have HBE : Hid (blkE k n (m + 1) = Y) := Lib.hid (by rw [blkE_succ, hY])
        rw [hY] at HJ
        have tr : (m : Int).tmod 64 = (r : Int) := by rw [Int.tmod_eq_emod_of_nonneg (by omega)]; omega
        have r64 : (r : Int) < 64 := by omega
        have HR64 : Hid (r < 64) := Lib.hid (by omega)
        clear hY hr
        have HX := Lib.hid (HSET.out m)
        rw [HCB.out] at HX
        have cl : w4.cell? ⟨b, o + m, none⟩ = some (.int .u8 ((l.getD m 0).toNat : Int)) := HCJ.out
        have cb : w4.cell? ⟨w.heap.size + 1 + 1 + 1, r, none⟩ = some (.int .u8 ((Y.getD r 0).toNat : Int)) := by
          rw [HJ.out.blk.cell r (by rw [HYL.out]; exact HR64.out), List.getD, List.getElem?_eq_getElem (by rw [HYL.out]; exact HR64.out)]; rfl
        have co := HJ.out.out.cellAt m (by rw [HXL.out]; exact hlt)
        have fo := HJ.out.out.frozenAt m
        have HXM := Lib.hid (HXL.out m)
        generalize (cstTo k n l m)[m]'(by rw [HXL.out]; exact hlt) = z at co
        generalize l.getD m 0 = x at *
        generalize Y.getD r 0 = y at *
        have hx := bv_xor x y
        clear HCB HCJ HCL hmod
        go_wp2_with fail
        go_still_tail 12, (by kernel_rfl)
        change wpList _ _ _ _ _ w4.drew
        go_wp2_with fail
        go_roundw
        case rel =>
          refine ⟨m + 1, by omega, by go_num, ?_⟩
          rw [HBE.out, ← HX.out]
          have h := HJ.out
          rw [← HXM.out] at h ⊢
          exact (h.put m (x ^^^ y)).drew
        case measure => simp [intOf]; omega
      · have ht : (m : Int).tmod 64 ≠ 0 := by rw [Int.tmod_eq_emod_of_nonneg (by omega)]; omega
        have HJ := HI
        rw [blkE_mid k n m hmod] at HJ
        have HCJ := HCL
        clear HI
        obtain ⟨Y, hY⟩ : ∃ Y, cblock k n (1 + m / 64) = Y := ⟨_, rfl⟩
        have HYL : Hid (Y.length = 64) := Lib.hid (by rw [← hY, cblock_len])
        obtain ⟨r, hr⟩ : ∃ r, r = m % 64 := ⟨_, rfl⟩
        have HCB : Hid (cbyte k n m = Y.getD r 0) := Lib.hid (by rw [cbyte_eq k n m r (1 + m / 64) hr rfl, hY])
        have HBE : Hid (blkE k n (m + 1) = Y) := Lib.hid (by rw [blkE_succ, hY])
        rw [hY] at HJ
        have tr : (m : Int).tmod 64 = (r : Int) := by rw [Int.tmod_eq_emod_of_nonneg (by omega)]; omega
        have r64 : (r : Int) < 64 := by omega
        have HR64 : Hid (r < 64) := Lib.hid (by omega)
        clear hY hr
        have HX := Lib.hid (HSET.out m)
        rw [HCB.out] at HX
        have cl : wr.cell? ⟨b, o + m, none⟩ = some (.int .u8 ((l.getD m 0).toNat : Int)) := HCJ.out
        have cb : wr.cell? ⟨w.heap.size + 1 + 1 + 1, r, none⟩ = some (.int .u8 ((Y.getD r 0).toNat : Int)) := by
          rw [HJ.out.blk.cell r (by rw [HYL.out]; exact HR64.out), List.getD, List.getElem?_eq_getElem (by rw [HYL.out]; exact HR64.out)]; rfl
        have co := HJ.out.out.cellAt m (by rw [HXL.out]; exact hlt)
        have fo := HJ.out.out.frozenAt m
        have HXM := Lib.hid (HXL.out m)
        generalize (cstTo k n l m)[m]'(by rw [HXL.out]; exact hlt) = z at co
        generalize l.getD m 0 = x at *
        generalize Y.getD r 0 = y at *
        have hx := bv_xor x y
        clear HCB HCJ HCL hmod
        go_wp2_with fail
        go_still_tail 12, (by kernel_rfl)
        change wpList _ _ _ _ _ wr.drew
        go_wp2_with fail
        go_roundw
        case rel =>
          refine ⟨m + 1, by omega, by go_num, ?_⟩
          rw [HBE.out, ← HX.out]
          have h := HJ.out
          rw [← HXM.out] at h ⊢
          exact (h.put m (x ^^^ y)).drew
        case measure => simp [intOf]; omega
    · obtain rfl : m = q := by omega
      rw [HF.out] at HI
      go_wp2_with fail
      go_ret
      exact ⟨_, rfl, by have h := HI.out.out; exact h, HI.out.below⟩
end Go.Proofs.YtpnemdhbdncknaaDoor

namespace Go.Proofs.YtpnemdhbdncknaaDoor
open Go.RowKit
set_option linter.unusedVariables false
set_option linter.unusedSimpArgs false

/-- A slice of bytes that is read, whatever its room. -/
def RdV (w : World) (v : Value) (l : List UInt8) : Prop := ∃ a cap, v = .slice a l.length cap ∧ RdB w.heap.size w a l ∧ l.length ≤ cap ∧ cap ≤ maxLen ∧ (a = none → cap = 0)
theorem RdV.form {w : World} {v : Value} {l : List UInt8} (h : RdV w v l) : ∃ a cap, v = .slice a l.length cap ∧ RdB w.heap.size w a l ∧ l.length ≤ cap ∧ cap ≤ maxLen ∧ (a = none → cap = 0) := h
theorem RdV.call {w w' : World} {v : Value} {l : List UInt8} (h : RdV w v l) (hb : Below w.heap.size w w') : RdV w' v l := by
  obtain ⟨a, cap, rfl, h1, h2⟩ := h
  exact ⟨a, cap, rfl, (h1.below hb).mono hb.size, h2⟩
theorem OwnB.rdv {B : Nat} {w : World} {v : Value} {l : List UInt8} (h : OwnB B w v l) : RdV w v l := by
  obtain ⟨a, cap, rfl, h1, h2⟩ := h.form
  have h3 := h.caps
  refine ⟨a, cap, rfl, h2, h3.1, h3.2, fun e => ?_⟩
  rcases h1 with ⟨_, h4, _⟩ | ⟨g, h4, _⟩
  · exact h4
  · rw [e] at h4; cases h4

/-- The boxes of a key and a nonce. -/
structure KN (w : World) (k n : List UInt8) (wr : World) : Prop where
  below : Below w.heap.size w wr
  key : BB wr w.heap.size 23 k
  nonce : BB wr (w.heap.size + 1) 44 n
theorem KN.start (w : World) (k n : List UInt8) : KN w k n ((w.alloc (.cells (bvA k) 23)).alloc (.cells (bvA n) 44)) := by
  refine ⟨((Below.refl _ _).alloc (Nat.le_refl _) _).alloc (by rw [alloc_size]; omega) _, (BB.new w _ k).alloc _, ?_⟩
  have h := BB.new (w.alloc (.cells (bvA k) 23)) 44 n
  rw [alloc_size] at h
  exact h
theorem KN.call {w : World} {k n : List UInt8} {wr w' : World} (h : KN w k n wr) (hb : Below wr.heap.size wr w') : KN w k n w' :=
  ⟨h.below.trans (hb.mono h.below.size), h.key.below hb h.key.lt, h.nonce.below hb h.nonce.lt⟩
theorem KN.lt {w : World} {k n : List UInt8} {wr : World} (h : KN w k n wr) : w.heap.size + 1 < wr.heap.size := h.nonce.lt
theorem KN.drew {w : World} {k n : List UInt8} {wr : World} (h : KN w k n wr) : KN w k n wr.drew := ⟨h.below.drew, h.key.drew, h.nonce.drew⟩
theorem key_size (k : List UInt8) (hk : k.length = 32) : (Tryd.prog.info? 23).map (·.size) = some (bvA k).size := by rw [bvA_size, hk]; kernel_rfl
theorem nonce_size (n : List UInt8) (hn : n.length = 12) : (Tryd.prog.info? 44).map (·.size) = some (bvA n).size := by rw [bvA_size, hn]; kernel_rfl

set_option maxRecDepth 100000 in
theorem Stream_ok (k n l : List UInt8) (hk : k.length = 32) (hn : n.length = 12) (a : Option Addr) (cap : Nat) (w : World) (hl : RdB w.heap.size w a l) (hcap : l.length ≤ cap) (hc2 : cap ≤ maxLen) (h16 : l.length ≤ 65536) :
    Calls Tryd.prog 36 #[.agg (bvA k), .agg (bvA n), .slice a l.length cap] w fun e w' => ∃ v, e = .returned (.tuple #[v, .int .i64 0]) ∧ OwnB w.heap.size w' v (cstream k n l) ∧ Below w.heap.size w w' := by
  have HSK := Lib.hid (key_size k hk)
  have HSN := Lib.hid (nonce_size n hn)
  have HKN := Lib.hid (KN.start w k n)
  have HS : Hid (∀ W, Below w.heap.size w W → Calls Tryd.prog 50 #[.agg (bvA k), .agg (bvA n), .slice a l.length cap] W fun e w' => ∃ v, e = .returned v ∧ OwnB (W.heap.size + 1 + 1) w' v (cstream k n l) ∧ Below W.heap.size W w') := Lib.hid (fun W hW => stream_any k n l hk hn a cap W ((hl.below hW).mono hW.size) hcap hc2 h16)
  have f1 : decide ((65536 : Int) < (l.length : Int)) = false := decide_eq_false (by omega)
  clear hk hn hl
  generalize l.length = q at *
  go_enter Tryd.func36, Tryd.ntmps36
  go_wp2_with (first
    | (refine wpList_load_row rfl 23 (.tmp 3) rfl w.heap.size rfl _ (bvA k) (0, 0) _ HKN.out.key Tryd.underlying23 rfl HSK.out ?_)
    | (refine wpList_load_row rfl 44 (.tmp 4) rfl (w.heap.size + 1) rfl _ (bvA n) (0, 0) _ HKN.out.nonce Tryd.underlying44 rfl HSN.out ?_)
    | (go_at_call 50; with_reducible refine (HS.out _ HKN.out.below).mono ?_; rintro e w2 ⟨v, rfl, ho2, hb2⟩))
  go_ret2
  exact ⟨_, rfl, ho2.mono (by rw [alloc_size, alloc_size]; omega), (HKN.out.call hb2).below⟩
theorem Stream_bad (k n : List UInt8) (a : Option Addr) (q cap : Nat) (w : World) (h16 : 65536 < q) :
    Calls Tryd.prog 36 #[.agg (bvA k), .agg (bvA n), .slice a q cap] w fun e w' => e = .returned (.tuple #[.slice none 0 0, .int .i64 60]) ∧ Below w.heap.size w w' := by
  have HKN := Lib.hid (KN.start w k n)
  have f1 : decide ((65536 : Int) < (q : Int)) = true := decide_eq_true (by omega)
  go_enter Tryd.func36, Tryd.ntmps36
  go_wp2_with fail
  go_ret2
  exact ⟨rfl, HKN.out.below⟩
end Go.Proofs.YtpnemdhbdncknaaDoor

namespace Go.Proofs.YtpnemdhbdncknaaDoor
open Go.RowKit
set_option linter.unusedVariables false
set_option linter.unusedSimpArgs false

theorem run_appZeros (n : Nat) (h0 : 0 < n) (hn : n ≤ 70368744177664) (ty : TypeId) (W : World) : ∃ cells, cells.size = grownCap W n 0 5 ∧ (Builtin.append_ #[24, 3] ty #[.slice none 0 0, .int .i64 (n : Int)]).run Tryd.prog W = .ok (.slice (some ⟨W.heap.size, 0, none⟩) n (grownCap W n 0 5)) (W.drew.alloc (.cells cells 5)) := by
  obtain ⟨i0, hi, hz0, hz1, hz2⟩ := info_parts byteInfo
  have h := Lib.run_append_nil_zeros (P := Tryd.prog) W 24 3 ty 5 i0 (.int .u8 0) .i64 .i64 Tryd.underlying24 Tryd.underlying3 hi hz0 n h0 (by omega) (by omega) (by rw [hz2]; omega)
  refine ⟨_, ?_, h⟩
  have hg := grownCap_ge W n 0 5
  rw [Array.size_append, size_zeroCells, size_zeroCells]
  show n * 1 + (grownCap W n 0 5 - n) * 1 = _
  omega

theorem wpList_appZ {ops : Array Oper} {rest : List Oper} {o : Oper} {a : Act} {w : World} {Q : Exit → Act → World → Prop} (hgd : o.guard = none) (s x : Operand)
    (ho : o.op = .call { callee := .builtin .append, args := #[s, x], argTypes := #[24, 3] }) (n : Nat) (h0 : 0 < n) (hn : n ≤ 70368744177664)
    (hs : a.eval s = .slice none 0 0) (hx : a.eval x = .int .i64 (n : Int))
    (h : ∀ c w', OwnB w.heap.size w' (.slice (some ⟨w.heap.size, 0, none⟩) 0 c) [] → n ≤ c → Below w.heap.size w w' → wpList Tryd.prog ops Q rest (a.put o.dst (.slice (some ⟨w.heap.size, 0, none⟩) n c)) w') : wpList Tryd.prog ops Q (o :: rest) a w := by
  refine wpList_plain hgd fun K hK => ?_
  obtain ⟨cells, hcs, hrun⟩ := run_appZeros n h0 hn o.type w
  have hg1 := grownCap_ge w n 0 5
  have hg2 := grownCap_le_maxLen w n 0 5 (by unfold maxLen; omega)
  unfold Oper.wp execOp
  simp only [ho, resolve, invoke, builtin, Sem.run_bind, Sem.run_pure, Result.andThen_ok, List.map_toArray, List.map_cons, List.map_nil, hs, hx, hrun]
  exact hK _ _ (h _ _ (World.ownsRow_made w.drew cells _ (Nat.le_refl _) hg2 (by rw [hcs, Nat.mul_one])) hg1 (((Below.refl _ _).drew).alloc (Nat.le_refl _) _))

set_option maxRecDepth 100000 in
theorem grow_nil (n : Nat) (h0 : 0 < n) (hn : n ≤ 70368744177664) (w : World) :
    Calls Tryd.prog 68 #[.slice none 0 0, .int .i64 (n : Int)] w fun e w' => ∃ v, e = .returned v ∧ OwnB w.heap.size w' v [] ∧ Below w.heap.size w w' := by
  have f1 : decide ((n : Int) < 0) = false := decide_eq_false (by omega)
  have f2 : decide ((0 : Int) < (n : Int)) = true := decide_eq_true (by omega)
  have i1 : (n : Int) ≤ 70368744177664 := by omega
  have HH := Lib.hid (And.intro h0 hn)
  clear hn
  go_enter Tryd.func68, Tryd.ntmps68
  go_wp2_with (refine wpList_appZ rfl (.tmp 20) (.tmp 21) rfl n HH.out.1 HH.out.2 rfl rfl ?_; intro c w1 ho1 hc1 hb1; have i2 : (0 : Int) ≤ (c : Int) := by omega)
  go_ret
  exact ⟨_, rfl, ho1, hb1⟩

/-- Block b holds slices of bytes. -/
def RdVs (w : World) (b : Nat) (ps : List (List UInt8)) : Prop := ∀ j (h : j < ps.length), ∃ v, w.cell? ⟨b, j, none⟩ = some v ∧ RdV w v ps[j]
theorem RdVs.call {w w' : World} {b : Nat} {ps : List (List UInt8)} (h : RdVs w b ps) (hB : b < w.heap.size) (hb : Below w.heap.size w w') : RdVs w' b ps := fun j hj => by
  obtain ⟨v, h1, h2⟩ := h j hj
  exact ⟨v, (hb.cell (p := ⟨b, j, none⟩) hB).trans h1, h2.call hb⟩

set_option maxRecDepth 100000 in
set_option maxHeartbeats 1000000 in
theorem concat_any (b : Nat) (ps : List (List UInt8)) (cap : Nat) (w : World) (hB : b < w.heap.size) (h : RdVs w b ps) (hps : ps.length ≤ 1000) (h0 : 0 < ps.flatten.length) (hn : ps.flatten.length ≤ 70368744177664) :
    Calls Tryd.prog 52 #[.slice (some ⟨b, 0, none⟩) ps.length cap] w fun e w' => ∃ v, e = .returned v ∧ OwnB w.heap.size w' v ps.flatten ∧ Below w.heap.size w w' := by
  have HR := Lib.hid h
  have HF := Lib.hid (flat_snoc ps)
  have HLE := Lib.hid (flat_le ps)
  have HT0 : Hid ((ps.take 0).flatten = []) := Lib.hid rfl
  have HTN : Hid ((ps.take ps.length).flatten = ps.flatten) := Lib.hid (by rw [List.take_length])
  have HG := Lib.hid (grow_nil ps.flatten.length h0 hn)
  have HN := Lib.hid (And.intro h0 hn)
  obtain ⟨N, hN⟩ : ∃ N, ps.flatten.length = N := ⟨_, rfl⟩
  rw [hN] at HG HN
  have HNN := Lib.hid hN
  obtain ⟨q, hq⟩ : ∃ q, ps.length = q := ⟨_, rfl⟩
  rw [hq] at hps HTN ⊢
  have HQ := Lib.hid hq
  clear h h0 hn hN hq
  have iq : (q : Int) ≤ 1000 := by omega
  go_enter Tryd.func52, Tryd.ntmps52
  go_wp2_with fail
  go_loopw [11, 3] (fun i s wr => ∃ k : Nat, k ≤ q ∧ i = .int .i64 k ∧ s = .int .i64 ((ps.take k).flatten.length : Nat) ∧ wr = w) (fun i _ _ => q - (intOf i).toNat)
  case atStart => exact ⟨0, by omega, rfl, rfl, rfl⟩
  case round =>
    obtain ⟨k, hk, rfl, rfl, hwr⟩ := hrel
    replace hwr := hwr.symm
    subst hwr
    by_cases hlt : k < q
    · obtain ⟨v, hck, a', cap', rfl, hrd, hc1, hc3, hnil⟩ := HR.out k (by rw [HQ.out]; exact hlt)
      have hle := HLE.out (k + 1)
      have HE : Hid ((ps.take (k + 1)).flatten.length = (ps.take k).flatten.length + (ps[k]'(by rw [HQ.out]; exact hlt)).length) := Lib.hid (by rw [HF.out k (by rw [HQ.out]; exact hlt), List.length_append])
      have hn := HN.out.2
      have hnn := HNN.out
      rw [HE.out] at hle
      generalize (ps[k]'(by rw [HQ.out]; exact hlt)).length = x at *
      obtain ⟨y, hy⟩ : ∃ y, (ps.take k).flatten.length = y := ⟨_, rfl⟩
      rw [hy] at HE hle ⊢
      have i1 : (x : Int) + (y : Int) ≤ 70368744177664 := by omega
      have i2 : decide ((y : Int) + (x : Int) < 0) = false := decide_eq_false (by omega)
      have ik : (k : Int) < (q : Int) := by omega
      clear hrd hy hle hn hnn
      go_wp2_with fail
      go_roundw
      case rel => exact ⟨k + 1, by omega, by go_num, by rw [HE.out]; go_num, trivial⟩
      case measure => simp [intOf]; omega
    · obtain rfl : k = q := by omega
      clear hlt
      rw [HTN.out, HNN.out]
      go_wp2_with (go_at_call 68; refine (HG.out _).mono ?_; rintro e w1 ⟨v0, rfl, ho, hb⟩)
      have HO := Lib.hid ho
      have HB := Lib.hid hb
      clear ho hb
      go_loopw [27, 6] (fun i v w' => ∃ j : Nat, j ≤ k ∧ i = .int .i64 j ∧ OwnB w.heap.size w' v (ps.take j).flatten ∧ Below w.heap.size w w') (fun i _ _ => k - (intOf i).toNat)
      case atStart => exact ⟨0, by omega, rfl, by rw [HT0.out]; exact HO.out, HB.out⟩
      case round =>
        clear HO HB
        obtain ⟨j, hj, rfl, ho, hb⟩ := hrel
        have HO := Lib.hid ho
        have HB' := Lib.hid hb
        by_cases hlt : j < k
        · obtain ⟨v, hck, a', cap', rfl, hrd, hc1, hc3, hnil⟩ := HR.out j (by rw [HQ.out]; exact hlt)
          have hck2 := (hb.cell (p := ⟨b, j, none⟩) hB).trans hck
          have HRD := Lib.hid ((hrd.below hb).mono hb.size)
          have HNIL := Lib.hid hnil
          have hle := HLE.out (j + 1)
          have HE := Lib.hid (HF.out j (by rw [HQ.out]; exact hlt))
          rw [HE.out, List.length_append, HNN.out] at hle
          have HLN : Hid ((ps.take j).flatten.length + (ps[j]'(by rw [HQ.out]; exact hlt)).length ≤ 140737488355328) := Lib.hid (by have := HN.out.2; omega)
          generalize (ps[j]'(by rw [HQ.out]; exact hlt)) = x at *
          have ij : (j : Int) < (k : Int) := by omega
          clear hrd hle ho hb hck hnil
          obtain ⟨y, hy⟩ : ∃ y, (ps.take j).flatten = y := ⟨_, rfl⟩
          rw [hy] at HE HO HLN
          clear hy
          go_wp2_with (refine wpList_appB rfl (.tmp 31) (.tmp 32) rfl w.heap.size _ y x a' cap' rfl HO.out rfl HRD.out HNIL.out HLN.out HB'.out.size ?_; intro v2 w2 ho2 hg2)
          go_roundw
          case rel =>
            exact ⟨j + 1, by omega, by go_num, by rw [HE.out]; exact ho2, HB'.out.trans (hg2.below (fun r hr => HO.out.base r hr) HB'.out.size)⟩
          case measure => simp [intOf]; omega
        · obtain rfl : j = k := by omega
          rw [HTN.out] at HO
          go_wp2_with fail
          go_ret
          exact ⟨_, rfl, HO.out, HB'.out⟩
end Go.Proofs.YtpnemdhbdncknaaDoor
