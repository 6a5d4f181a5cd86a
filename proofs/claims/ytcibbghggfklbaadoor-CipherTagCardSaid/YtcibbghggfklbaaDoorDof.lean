/-
  digestsOf of the statements of layer 2.
-/
import Derived.Test.YtcibbghggfklbaaDoorPkC
import Derived.Laws.Tables
namespace Go.Proofs.YtcibbghggfklbaaDoor
open Go.RowKit

/-- The digest that a byte and its place determine. -/
def dig1 (c i : Nat) : List UInt8 := UInt8.ofNat (c % 4) :: UInt8.ofNat (i / 8) :: List.replicate 30 0
def digN (script : List UInt8) (k : Nat) : List (List UInt8) := (List.range k).map fun i => dig1 (script.getD i 0).toNat i
def digs (script : List UInt8) : List (List UInt8) := digN script (min script.length 24)
theorem dig1_len (c i : Nat) : (dig1 c i).length = 32 := by simp [dig1]
theorem digN_snoc (script : List UInt8) (k : Nat) : digN script (k + 1) = digN script k ++ [dig1 (script.getD k 0).toNat k] := by
  simp [digN, List.range_succ]
theorem digN_len (script : List UInt8) (k : Nat) : (digN script k).length = k := by simp [digN]
theorem digs_len (script : List UInt8) : (digs script).length ≤ 24 := by unfold digs; rw [digN_len]; omega
theorem dig1_cells (x k : Nat) (hk : k / 8 < 256) : bvA (dig1 x k) = #[.int .u8 ((x : Int) % 4), .int .u8 ((k : Int) / 8), .int .u8 0, .int .u8 0, .int .u8 0, .int .u8 0, .int .u8 0, .int .u8 0, .int .u8 0, .int .u8 0, .int .u8 0, .int .u8 0, .int .u8 0, .int .u8 0, .int .u8 0, .int .u8 0, .int .u8 0, .int .u8 0, .int .u8 0, .int .u8 0, .int .u8 0, .int .u8 0, .int .u8 0, .int .u8 0, .int .u8 0, .int .u8 0, .int .u8 0, .int .u8 0, .int .u8 0, .int .u8 0, .int .u8 0, .int .u8 0] := by
  have h1 : (Value.int .u8 ((x : Int) % 4)) = bv (UInt8.ofNat (x % 4)) := by rw [bv_ofNat _ (by omega)]; congr 1
  have h2 : (Value.int .u8 ((k : Int) / 8)) = bv (UInt8.ofNat (k / 8)) := by rw [bv_ofNat _ hk]; congr 1
  rw [h1, h2]; rfl
theorem OwnD.empty {B : Nat} {w : World} (hB : B ≤ w.heap.size) : OwnD B (w.alloc (.cells #[] 41)) (.slice (some ⟨w.heap.size, 0, none⟩) 0 0) [] :=
  ⟨fun _ h => (by cases h), rfl, .inr ⟨w.heap.size, 0, #[], rfl, hB, heap_alloc_new w _, Nat.le_refl _, Nat.zero_le _, rfl, rfl⟩⟩

end Go.Proofs.YtcibbghggfklbaaDoor
