/-
  Package cipher: word, start; the reference's word.
-/
import Derived.Test.YtcibbghggfklbaaDoorCm
import Derived.Test.YtcibbghggfklbaaDoorPkB
namespace Go.Proofs.YtcibbghggfklbaaDoor
open Go.RowKit
set_option linter.unusedVariables false
set_option linter.unusedSimpArgs false

def lw4 (c0 c1 c2 c3 : Nat) : Nat := uor (uor (uor c0 (ushl c1 8)) (ushl c2 16)) (ushl c3 24)
theorem lword_lw4 (l : List UInt8) (t : Nat) : lword l t = lw4 (l.getD (4 * t) 0).toNat (l.getD (4 * t + 1) 0).toNat (l.getD (4 * t + 2) 0).toNat (l.getD (4 * t + 3) 0).toNat := rfl
theorem ushl_small (c n : Nat) (h : c ≤ 255) (hn : n ≤ 24) : ushl c n = c * 2 ^ n := by
  unfold ushl
  have h2 : 2 ^ n ≤ 2 ^ 24 := Nat.pow_le_pow_right (by decide) hn
  have h3 : c * 2 ^ n ≤ 255 * 2 ^ 24 := Nat.mul_le_mul h h2
  exact Nat.mod_eq_of_lt (Nat.lt_of_le_of_lt h3 (by decide))
theorem w_lw4 (c0 c1 c2 c3 : Nat) (k1 : c1 ≤ 255) (k2 : c2 ≤ 255) (k3 : c3 ≤ 255) : bits .or .u32 (bits .or .u32 (bits .or .u32 (c0 : Int) ((c1 : Int) * 256)) ((c2 : Int) * 65536)) ((c3 : Int) * 16777216) = ((lw4 c0 c1 c2 c3 : Nat) : Int) := by
  have e1 : (c1 : Int) * 256 = ((ushl c1 8 : Nat) : Int) := by rw [ushl_small c1 8 k1 (by decide)]; omega
  have e2 : (c2 : Int) * 65536 = ((ushl c2 16 : Nat) : Int) := by rw [ushl_small c2 16 k2 (by decide)]; omega
  have e3 : (c3 : Int) * 16777216 = ((ushl c3 24 : Nat) : Int) := by rw [ushl_small c3 24 k3 (by decide)]; omega
  rw [e1, e2, e3, w_or, w_or, w_or]; rfl

set_option maxHeartbeats 400000 in
theorem cword_any (b o n cap : Nat) (c0 c1 c2 c3 : Nat) (w : World) (hn : 4 ≤ n) (hn2 : n ≤ maxLen)
    (h0 : w.cell? ⟨b, o, none⟩ = some (.int .u8 c0)) (h1 : w.cell? ⟨b, o + 1, none⟩ = some (.int .u8 c1)) (h2 : w.cell? ⟨b, o + 2, none⟩ = some (.int .u8 c2)) (h3 : w.cell? ⟨b, o + 3, none⟩ = some (.int .u8 c3))
    (k0 : c0 ≤ 255) (k1 : c1 ≤ 255) (k2 : c2 ≤ 255) (k3 : c3 ≤ 255) :
    Calls Tryd.prog 29 #[.slice (some ⟨b, o, none⟩) n cap] w fun e w' => e = .returned (.int .u32 (lw4 c0 c1 c2 c3)) ∧ ∃ k, w' = w.drewN k := by
  unfold maxLen at hn2
  go_enter Tryd.func29, Tryd.ntmps29
  go_wp2_with fail
  go_quiet (fail)
  go_wp2_with fail
  go_ret
  exact ⟨ret_u32 (w_lw4 _ _ _ _ k1 k2 k3), _, rfl⟩
set_option maxHeartbeats 400000 in
theorem refCword (b o n cap : Nat) (c0 c1 c2 c3 : Nat) (w : World) (hn : 4 ≤ n) (hn2 : n ≤ maxLen)
    (h0 : w.cell? ⟨b, o, none⟩ = some (.int .u8 c0)) (h1 : w.cell? ⟨b, o + 1, none⟩ = some (.int .u8 c1)) (h2 : w.cell? ⟨b, o + 2, none⟩ = some (.int .u8 c2)) (h3 : w.cell? ⟨b, o + 3, none⟩ = some (.int .u8 c3))
    (k0 : c0 ≤ 255) (k1 : c1 ≤ 255) (k2 : c2 ≤ 255) (k3 : c3 ≤ 255) :
    Calls Tryd.prog 31 #[.slice (some ⟨b, o, none⟩) n cap] w fun e w' => e = .returned (.int .u32 (lw4 c0 c1 c2 c3)) ∧ ∃ k, w' = w.drewN k := by
  unfold maxLen at hn2
  go_enter Tryd.func31, Tryd.ntmps31
  go_wp2_with fail
  go_quiet (fail)
  go_wp2_with fail
  go_ret
  exact ⟨ret_u32 (w_lw4 _ _ _ _ k1 k2 k3), _, rfl⟩

/-- The numbers when i words of the key stand. -/
def cstK (k : List UInt8) (i : Nat) : List Nat := (List.range i).foldl (fun v t => v.set (4 + t) (lword k t)) ([0x61707865, 0x3320646e, 0x79622d32, 0x6b206574] ++ List.replicate 12 0)
def cstN (k n : List UInt8) (c i : Nat) : List Nat := (List.range i).foldl (fun v t => v.set (13 + t) (lword n t)) ((cstK k 8).set 12 c)
theorem cstK_succ (k : List UInt8) (i : Nat) : cstK k (i + 1) = (cstK k i).set (4 + i) (lword k i) := by simp [cstK, List.range_succ, List.foldl_append]
theorem cstN_succ (k n : List UInt8) (c i : Nat) : cstN k n c (i + 1) = (cstN k n c i).set (13 + i) (lword n i) := by simp [cstN, List.range_succ, List.foldl_append]
theorem cstK_len (k : List UInt8) : ∀ i, (cstK k i).length = 16
  | 0 => rfl
  | i + 1 => by rw [cstK_succ, List.length_set, cstK_len k i]
theorem cstN_len (k n : List UInt8) (c : Nat) : ∀ i, (cstN k n c i).length = 16
  | 0 => by show ((cstK k 8).set 12 c).length = 16; rw [List.length_set, cstK_len]
  | i + 1 => by rw [cstN_succ, List.length_set, cstN_len k n c i]
theorem cstN_full (k n : List UInt8) (c : Nat) (hc : c < 4294967296) : cstN k n c 3 = cstart k n c := by
  unfold cstart
  rw [Nat.mod_eq_of_lt hc]
  rfl
/-- Word t's bytes stand in a block. -/
theorem BB.word {w : World} {g : Nat} {T : TypeId} {l : List UInt8} (h : BB w g T l) (t : Nat) (ht : 4 * t + 3 < l.length) :
    (w.cell? ⟨g, 4 * t, none⟩ = some (.int .u8 (l.getD (4 * t) 0).toNat) ∧ w.cell? ⟨g, 4 * t + 1, none⟩ = some (.int .u8 (l.getD (4 * t + 1) 0).toNat)) ∧ w.cell? ⟨g, 4 * t + 2, none⟩ = some (.int .u8 (l.getD (4 * t + 2) 0).toNat) ∧ w.cell? ⟨g, 4 * t + 3, none⟩ = some (.int .u8 (l.getD (4 * t + 3) 0).toNat) := by
  refine ⟨⟨?_, ?_⟩, ?_, ?_⟩
  · rw [h.cell (4 * t) (by omega)]; simp [bv, List.getD, (by omega : 4 * t < l.length)]
  · rw [h.cell (4 * t + 1) (by omega)]; simp [bv, List.getD, (by omega : 4 * t + 1 < l.length)]
  · rw [h.cell (4 * t + 2) (by omega)]; simp [bv, List.getD, (by omega : 4 * t + 2 < l.length)]
  · rw [h.cell (4 * t + 3) (by omega)]; simp [bv, List.getD, (by omega : 4 * t + 3 < l.length)]
theorem cword_at (g : Nat) (T : TypeId) (l : List UInt8) (t n cap : Nat) (w : World) (h : BB w g T l) (ht : 4 * t + 3 < l.length) (hn : 4 ≤ n) (hn2 : n ≤ maxLen) :
    Calls Tryd.prog 29 #[.slice (some ⟨g, 4 * t, none⟩) n cap] w fun e w' => e = .returned (.int .u32 (lword l t)) ∧ ∃ k, w' = w.drewN k := by
  obtain ⟨⟨h0, h1⟩, h2, h3⟩ := h.word t ht
  exact cword_any g (4 * t) n cap _ _ _ _ w hn hn2 h0 h1 h2 h3 (byte_le _ _) (byte_le _ _) (byte_le _ _) (byte_le _ _)
theorem refCword_at (g : Nat) (T : TypeId) (l : List UInt8) (t n cap : Nat) (w : World) (h : BB w g T l) (ht : 4 * t + 3 < l.length) (hn : 4 ≤ n) (hn2 : n ≤ maxLen) :
    Calls Tryd.prog 31 #[.slice (some ⟨g, 4 * t, none⟩) n cap] w fun e w' => e = .returned (.int .u32 (lword l t)) ∧ ∃ k, w' = w.drewN k := by
  obtain ⟨⟨h0, h1⟩, h2, h3⟩ := h.word t ht
  exact refCword g (4 * t) n cap _ _ _ _ w hn hn2 h0 h1 h2 h3 (byte_le _ _) (byte_le _ _) (byte_le _ _) (byte_le _ _)
end Go.Proofs.YtcibbghggfklbaaDoor
