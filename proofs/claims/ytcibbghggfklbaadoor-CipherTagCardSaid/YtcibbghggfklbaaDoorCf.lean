/-
  What cipher's Seal and Open make of bytes, as plain functions; sealed bytes are opened, changed tags are not.
-/
import Derived.Test.YtcibbghggfklbaaDoorCa
import Derived.Test.YtcibbghggfklbaaDoorSs
import Derived.Test.YtcibbghggfklbaaDoorPkB
namespace Go.Proofs.YtcibbghggfklbaaDoor
set_option linter.unusedVariables false

/-- The tag of bytes under a key, a nonce and a head. -/
def tagC (k n head x : List UInt8) : List UInt8 := (tagS [116, 97, 103] (k ++ n ++ be8 (head.length : Nat) ++ head ++ x)).take 16
theorem tagC_len (k n head x : List UInt8) : (tagC k n head x).length = 16 := by
  unfold tagC; rw [List.length_take, tagS_len]; rfl
def sealC (k n head b : List UInt8) : List UInt8 := cstream k n b ++ tagC k n head (cstream k n b)
theorem sealC_len (k n head b : List UInt8) : (sealC k n head b).length = b.length + 16 := by
  unfold sealC; rw [List.length_append, cstream_len, tagC_len]
/-- Whether the last 16 bytes are the tag of those before them. -/
def tagged16 (k n head c : List UInt8) : Bool := c.drop (c.length - 16) == tagC k n head (c.take (c.length - 16))
/-- Whether bytes are opened. -/
def opensC (k n head c : List UInt8) : Bool := decide (16 ≤ c.length) && (decide (c.length ≤ 65552) && tagged16 k n head c)
def openC (k n head c : List UInt8) : List UInt8 := cstream k n (c.take (c.length - 16))
theorem openC_len (k n head c : List UInt8) : (openC k n head c).length = c.length - 16 := by
  unfold openC; rw [cstream_len, List.length_take]; omega
theorem sealC_take (k n head b : List UInt8) : (sealC k n head b).take b.length = cstream k n b := by
  unfold sealC; rw [List.take_append_of_le_length (by rw [cstream_len]; omega), List.take_of_length_le (by rw [cstream_len]; omega)]
theorem sealC_drop (k n head b : List UInt8) : (sealC k n head b).drop b.length = tagC k n head (cstream k n b) := by
  unfold sealC; rw [List.drop_append_of_le_length (by rw [cstream_len]; omega), List.drop_of_length_le (by rw [cstream_len]; omega), List.nil_append]
theorem tagged_seal (k n head b : List UInt8) : tagged16 k n head (sealC k n head b) = true := by
  unfold tagged16
  rw [sealC_len, Nat.add_sub_cancel, sealC_take, sealC_drop]
  exact beq_self_eq_true _
theorem open_seal (k n head b : List UInt8) : openC k n head (sealC k n head b) = b := by
  unfold openC
  rw [sealC_len, Nat.add_sub_cancel, sealC_take, cstream_back]
theorem opens_seal (k n head b : List UInt8) (h : b.length ≤ 65536) : opensC k n head (sealC k n head b) = true := by
  unfold opensC
  rw [sealC_len, tagged_seal, decide_eq_true (by omega), decide_eq_true (by omega)]; rfl
/-- A changed byte of the tag. -/
theorem opens_changed (k n head b : List UInt8) (h : b.length ≤ 65536) (i : Nat) (hi : i < 16) (v : UInt8) :
    opensC k n head ((sealC k n head b).set (b.length + i) ((sealC k n head b).getD (b.length + i) 0 ^^^ v)) = (v == 0) := by
  have hl : ((sealC k n head b).set (b.length + i) ((sealC k n head b).getD (b.length + i) 0 ^^^ v)).length = b.length + 16 := by rw [List.length_set, sealC_len]
  have hg : (sealC k n head b).getD (b.length + i) 0 = (tagC k n head (cstream k n b)).getD i 0 := by
    unfold sealC
    rw [List.getD, List.getElem?_append_right (by rw [cstream_len]; omega), cstream_len, Nat.add_sub_cancel_left, List.getD]
  unfold opensC tagged16
  rw [hl, Nat.add_sub_cancel, hg, decide_eq_true (by omega), decide_eq_true (by omega), Bool.true_and, Bool.true_and]
  have ht : ((sealC k n head b).set (b.length + i) ((tagC k n head (cstream k n b)).getD i 0 ^^^ v)).take b.length = cstream k n b := by
    rw [List.take_set_of_le (by omega), sealC_take]
  have hd : ((sealC k n head b).set (b.length + i) ((tagC k n head (cstream k n b)).getD i 0 ^^^ v)).drop b.length = (tagC k n head (cstream k n b)).set i ((tagC k n head (cstream k n b)).getD i 0 ^^^ v) := by
    rw [List.drop_set, if_neg (by omega), Nat.add_sub_cancel_left, sealC_drop]
  rw [ht, hd]
  have hln := tagC_len k n head (cstream k n b)
  generalize tagC k n head (cstream k n b) = t at *
  rw [Bool.eq_iff_iff, beq_iff_eq, beq_iff_eq]
  have hti : t.getD i 0 = t[i]'(by omega) := by rw [List.getD, List.getElem?_eq_getElem (by omega)]; rfl
  constructor
  · intro he
    have : (t.set i (t.getD i 0 ^^^ v))[i]? = t[i]? := congrArg (fun l : List UInt8 => l[i]?) he
    rw [List.getElem?_set_self (by omega), List.getElem?_eq_getElem (by omega), hti] at this
    injection this with this
    have h2 : t[i]'(by omega) ^^^ (t[i]'(by omega) ^^^ v) = t[i]'(by omega) ^^^ t[i]'(by omega) := congrArg (fun x => t[i]'(by omega) ^^^ x) this
    rw [← UInt8.xor_assoc, UInt8.xor_self, UInt8.zero_xor] at h2
    exact h2
  · rintro rfl
    rw [UInt8.xor_zero, hti, List.set_getElem_self]
end Go.Proofs.YtcibbghggfklbaaDoor
