/-
  Package derive: what is collected in a buffer embedded in a structure (bytes.Buffer's Write and Bytes at a field), and the key of it.
-/
import Derived.Test.YtecojpkefobgpaaGreatDoorDa
import Derived.Test.YtecojpkefobgpaaGreatDoorPkE
import Derived.Test.YtecojpkefobgpaaGreatDoorPkB
import Derived.Test.YtecojpkefobgpaaGreatDoorShelf
import Derived.Lib.BufferAt
import Derived.RegionTactic
import Derived.Deep.Draws
namespace Go.Proofs.YtecojpkefobgpaaGreatDoor
open Go.RowKit
set_option linter.unusedVariables false
set_option linter.unusedSimpArgs false

/-- The other cells of a source: its tag. -/
def srcR (tag : ByteArray) : Nat → Option Value := fun i => if i = 0 then some (.string tag) else none
/-- Block b is a source with this tag, in which the bytes m were collected. -/
def Src (B : Nat) (w : World) (b : Nat) (tag : ByteArray) (m : List UInt8) : Prop := LibA.IsBuffer 69 (srcR tag) 5 B b 1 (m.map bv) w
theorem Src.lt {B : Nat} {w : World} {b : Nat} {tag : ByteArray} {m : List UInt8} (h : Src B w b tag m) : b < w.heap.size := LibA.IsBuffer.lt h
theorem Src.ge {B : Nat} {w : World} {b : Nat} {tag : ByteArray} {m : List UInt8} (h : Src B w b tag m) : B ≤ b := h.1
theorem Src.call {B : Nat} {w w' : World} {b : Nat} {tag : ByteArray} {m : List UInt8} (h : Src B w b tag m) (hb : Below w.heap.size w w') : Src B w' b tag m := LibA.IsBuffer.old h hb
theorem Src.tag {B : Nat} {w : World} {b : Nat} {tag : ByteArray} {m : List UInt8} (h : Src B w b tag m) : w.cell? ⟨b, 0, none⟩ = some (.string tag) := LibA.IsBuffer.rest h 0 (Or.inl (by omega))
theorem Src.new {B : Nat} {w : World} (tag : ByteArray) (hB : B ≤ w.heap.size) : Src B (w.alloc (.cells #[.string tag, .slice none 0 0, .int .i64 0, .int .i8 0] 69)) w.heap.size tag [] := by
  refine LibA.zero_isBuffer hB ⟨_, heap_alloc_new w _, rfl, rfl, rfl, fun i hi => ?_⟩
  rcases hi with hi | hi
  · obtain rfl : i = 0 := by omega
    rfl
  · rw [Array.getElem?_eq_none (by show 4 ≤ i; omega)]
    unfold srcR; rw [if_neg (by omega)]
theorem Src.new' {B : Nat} {w : World} (tag : ByteArray) (b : Nat) (hb : b = w.heap.size) (hB : B ≤ w.heap.size) : Src B (w.alloc (.cells #[.string tag, .slice none 0 0, .int .i64 0, .int .i8 0] 69)) b tag [] := hb ▸ Src.new tag hB
theorem bv_one (m : List UInt8) : ∀ v ∈ m.map bv, v.oneCell' = true := by
  intro v hv
  obtain ⟨c, _, rfl⟩ := List.mem_map.1 hv
  rfl

/-- Write: the bytes are collected behind the others. -/
theorem src_write {B : Nat} {b : Nat} {tag : ByteArray} {m : List UInt8} (a : Option Addr) (cap : Nat) (l : List UInt8) {w : World} (h : Src B w b tag m) (hB : B ≤ w.heap.size) (hl : RdX b w a l) (h0 : 0 < l.length) (hlim : m.length + l.length ≤ 140737488355328) :
    Calls Tryz.prog 47 #[.pointer (some ⟨b, 1, none⟩), .slice a l.length cap] w fun e w' => e = .returned (.tuple #[.int .i64 l.length, .nilIface]) ∧ Src B w' b tag (m ++ l) ∧ Below B w w' := by
  rcases hl.2 with e | ⟨g, o, rfl, hg, hgb, hc⟩
  · rw [e] at h0; cases h0
  · have hk := Tryz.Buffer_Write_at 69 (srcR tag) B b 1 (m.map bv) (l.map bv) ⟨g, o, none⟩ l.length cap w h hB (bv_one m) (by rw [List.length_map]) hgb (fun j v hj => by
      rw [List.getElem?_map, Option.map_eq_some_iff] at hj
      obtain ⟨c, hj, rfl⟩ := hj
      obtain ⟨hlt, rfl⟩ := List.getElem?_eq_some_iff.1 hj
      rw [addr_add]
      exact hc j hlt) (bv_one l) (by rw [List.length_map]; exact hlim)
    refine hk.mono ?_
    rintro e w' ⟨rfl, h1, h2, _⟩
    refine ⟨rfl, ?_, h2⟩
    unfold Src; rw [List.map_append]; exact h1

/-- Bytes, at a field: the whole slice. -/
theorem bufBytes_none (b q : Nat) (w : World) (c0 : w.cell? ⟨b, q, none⟩ = some (.slice none 0 0)) (c1 : w.cell? ⟨b, q + 1, none⟩ = some (.int .i64 0)) :
    Calls Tryz.prog 67 #[.pointer (some ⟨b, q, none⟩)] w fun e w' => e = .returned (.slice none 0 0) ∧ ∃ n, w' = w.drewN n := by
  go_enter Tryz.func67, Tryz.ntmps67
  go_wp2
  go_region
  all_goals (go_wp2; go_ret; exact ⟨rfl, 1, rfl⟩)
theorem bufBytes_some (b q g n cap : Nat) (w : World) (c0 : w.cell? ⟨b, q, none⟩ = some (.slice (some ⟨g, 0, none⟩) n cap)) (c1 : w.cell? ⟨b, q + 1, none⟩ = some (.int .i64 0)) (hnc : n ≤ cap) (hcm : cap ≤ maxLen) :
    Calls Tryz.prog 67 #[.pointer (some ⟨b, q, none⟩)] w fun e w' => e = .returned (.slice (some ⟨g, 0, none⟩) n cap) ∧ ∃ n, w' = w.drewN n := by
  unfold maxLen at hcm
  go_enter Tryz.func67, Tryz.ntmps67
  go_wp2
  go_region
  all_goals (go_wp2; go_ret; exact ⟨rfl, 1, rfl⟩)
/-- The bytes collected. -/
theorem src_bytes {B : Nat} {b : Nat} {tag : ByteArray} {m : List UInt8} {w : World} (h : Src B w b tag m) : ∃ a cap, OwnB B w (.slice a m.length cap) m ∧
    ∀ w', (∃ k, w' = w.drewN k) → Calls Tryz.prog 67 #[.pointer (some ⟨b, 1, none⟩)] w' fun e w'' => e = .returned (.slice a m.length cap) ∧ ∃ n, w'' = w'.drewN n := by
  obtain ⟨hB, v, lr, h3, hown, hne⟩ := h
  rw [List.length_map] at hown
  rcases hown.2 with ⟨rfl, h0⟩ | ⟨g, cap, cur, rfl, hBg, hg, hnc, hcm, hcs, htk⟩
  · rw [h0]
    refine ⟨none, 0, ?_, ?_⟩
    · unfold OwnB; rw [← h0] at *; exact hown
    · rintro w' ⟨k, rfl⟩
      exact bufBytes_none b 1 _ h3.c0 h3.c1
  · refine ⟨some ⟨g, 0, none⟩, cap, hown, ?_⟩
    rintro w' ⟨k, rfl⟩
    exact bufBytes_some b 1 g m.length cap _ h3.c0 h3.c1 hnc hcm
end Go.Proofs.YtecojpkefobgpaaGreatDoor
