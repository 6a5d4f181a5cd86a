/-
  Contracts of the functions that read words out of bytes: word of the reference, words of package digest.
-/
import Derived.Test.YtmeoicfeiamkmaaDoorUw
import Derived.Test.YtmeoicfeiamkmaaDoorByt
import Derived.StillTailTactics
import Derived.Laws.Rows
import Derived.Laws.CopyOwn
namespace Go.Proofs.YtmeoicfeiamkmaaDoor
open Go.RowKit

/-- Four bytes as a word. -/
def uword (c0 c1 c2 c3 : Nat) : Nat := uor (uor (uor (c0 * 16777216) (c1 * 65536)) (c2 * 256)) c3
theorem w_word (c0 c1 c2 c3 : Nat) : bits .or .u32 (bits .or .u32 (bits .or .u32 ((c0 : Int) * 16777216) ((c1 : Int) * 65536)) ((c2 : Int) * 256)) (c3 : Int) = ((uword c0 c1 c2 c3 : Nat) : Int) := by
  have e0 : (c0 : Int) * 16777216 = ((c0 * 16777216 : Nat) : Int) := by omega
  have e1 : (c1 : Int) * 65536 = ((c1 * 65536 : Nat) : Int) := by omega
  have e2 : (c2 : Int) * 256 = ((c2 * 256 : Nat) : Int) := by omega
  rw [e0, e1, e2, w_or, w_or, w_or]; rfl

set_option maxHeartbeats 400000 in
theorem refWord (b o n cap : Nat) (c0 c1 c2 c3 : Nat) (w : World) (hn : 4 ≤ n) (hn2 : n ≤ maxLen)
    (h0 : w.cell? ⟨b, o, none⟩ = some (.int .u8 c0)) (h1 : w.cell? ⟨b, o + 1, none⟩ = some (.int .u8 c1)) (h2 : w.cell? ⟨b, o + 2, none⟩ = some (.int .u8 c2)) (h3 : w.cell? ⟨b, o + 3, none⟩ = some (.int .u8 c3))
    (k0 : c0 ≤ 255) (k1 : c1 ≤ 255) (k2 : c2 ≤ 255) (k3 : c3 ≤ 255) :
    Calls Tryd.prog 44 #[.slice (some ⟨b, o, none⟩) n cap] w fun e w' => e = .returned (.int .u32 (uword c0 c1 c2 c3)) ∧ ∃ k, w' = w.drewN k := by
  unfold maxLen at hn2
  go_enter Tryd.func44, Tryd.ntmps44
  go_wp2_with fail
  go_quiet (fail)
  go_wp2_with fail
  go_ret
  exact ⟨ret_u32 (w_word _ _ _ _), _, rfl⟩

/-- An array of words. -/
def wv (l : List Nat) : Array Value := (l.map fun x : Nat => Value.int .u32 (x : Int)).toArray
/-- Block g is just the words l. -/
def WB (w : World) (g : Nat) (T : TypeId) (l : List Nat) : Prop := w.heap[g]? = some (.cells (wv l) T (0, 0))
theorem wv_size (l : List Nat) : (wv l).size = l.length := by simp [wv]
theorem wv_get (l : List Nat) (i : Nat) (h : i < l.length) : (wv l)[i]? = some (.int .u32 (l[i] : Nat)) := by simp [wv, h]
theorem wv_set (l : List Nat) (i x : Nat) : (wv l).setIfInBounds i (.int .u32 (x : Nat)) = wv (l.set i x) := by
  apply Array.ext'
  simp [wv, List.map_set]
theorem WB.lt {w : World} {g : Nat} {T : TypeId} {l : List Nat} (h : WB w g T l) : g < w.heap.size := by
  rcases Nat.lt_or_ge g w.heap.size with hlt | hge
  · exact hlt
  · unfold WB at h; rw [Array.getElem?_eq_none hge] at h; cases h
theorem WB.cell {w : World} {g : Nat} {T : TypeId} {l : List Nat} (h : WB w g T l) (i : Nat) (hi : i < l.length) : w.cell? ⟨g, i, none⟩ = some (.int .u32 (l[i] : Nat)) := by
  rw [cell_of_row w g i _ T (0, 0) h, wv_get l i hi]
theorem WB.frozen {w : World} {g : Nat} {T : TypeId} {l : List Nat} (h : WB w g T l) (i : Nat) : w.frozen? ⟨g, i, none⟩ = false := frozen_of_row w g i _ T h
theorem WB.drew {w : World} {g : Nat} {T : TypeId} {l : List Nat} (h : WB w g T l) : WB w.drew g T l := h
theorem WB.drewN {w : World} {g : Nat} {T : TypeId} {l : List Nat} (h : WB w g T l) (n : Nat) : WB (w.drewN n) g T l := h
theorem WB.set_ {w : World} {g : Nat} {T : TypeId} {l : List Nat} (h : WB w g T l) (i x : Nat) : WB (w.setCell ⟨g, i, none⟩ (.int .u32 (x : Nat))) g T (l.set i x) := by
  unfold WB; rw [heap_setCell_same w g i _ T _ h, wv_set]
theorem wv_one (l : List Nat) : (wv l).all (·.oneCell') = true := by
  rw [Array.all_eq_true_iff_forall_mem]; intro v hv
  obtain ⟨x, _, rfl⟩ := by simpa [wv] using hv
  rfl
theorem WB.setRow {w : World} {g : Nat} {T : TypeId} {l : List Nat} (h : WB w g T l) (l' : List Nat) : WB (w.setRow g (wv l')) g T l' := setRow_heap w g _ _ T _ h
theorem WB.below {B : Nat} {w w' : World} {g : Nat} {T : TypeId} {l : List Nat} (h : WB w g T l) (hb : Below B w w') (hg : g < B) : WB w' g T l := (hb.block g hg).trans h
theorem WB.new (w : World) (T : TypeId) (l : List Nat) : WB (w.alloc (.cells (wv l) T)) w.heap.size T l := heap_alloc_new w _
theorem WB.alloc {w : World} {g : Nat} {T : TypeId} {l : List Nat} (h : WB w g T l) (o : Obj) : WB (w.alloc o) g T l := (Below.heap_alloc w o g h.lt).trans h

/-- Word t of bytes. -/
def wordAt (l : List UInt8) (t : Nat) : Nat := uword (l.getD (4 * t) 0).toNat (l.getD (4 * t + 1) 0).toNat (l.getD (4 * t + 2) 0).toNat (l.getD (4 * t + 3) 0).toNat
/-- The words of a block of 64 bytes. -/
def wordsOf (l : List UInt8) : List Nat := (List.range 16).map (wordAt l)
/-- The first k of them, in an array of n. -/
def wordsTo (n : Nat) (l : List UInt8) (k : Nat) : List Nat := (List.range n).map fun t => if t < k then wordAt l t else 0
theorem wordsTo_len (n : Nat) (l : List UInt8) (k : Nat) : (wordsTo n l k).length = n := by simp [wordsTo]
theorem wordsTo_get (n : Nat) (l : List UInt8) (k i : Nat) (h : i < (wordsTo n l k).length) : (wordsTo n l k)[i] = if i < k then wordAt l i else 0 := by simp [wordsTo]
theorem wordsTo_set (n : Nat) (l : List UInt8) (k : Nat) : (wordsTo n l k).set k (wordAt l k) = wordsTo n l (k + 1) := by
  apply List.ext_getElem
  · simp [wordsTo]
  · intro i h1 h2
    rw [List.getElem_set, wordsTo_get, wordsTo_get]
    by_cases e : k = i
    · subst e; rw [if_pos rfl, if_pos (by omega)]
    · rw [if_neg e]
      by_cases h : i < k
      · rw [if_pos h, if_pos (by omega)]
      · rw [if_neg h, if_neg (by omega)]
theorem wordsTo_full (l : List UInt8) : wordsTo 16 l 16 = wordsOf l := by
  unfold wordsTo wordsOf
  apply List.map_congr_left
  intro t ht
  rw [if_pos (by simpa using ht)]

/-- The byte's cell, as a number. -/
theorem byte_at {w w' : World} {b o : Nat} {l : List UInt8} (HC : Hid (∀ j (h : j < l.length), w.cell? ⟨b, o + j, none⟩ = some (bv l[j]))) {B : Nat} (hb : b < B) (hbl : Below B w w') (j : Nat) (hj : j < l.length) :
    w'.cell? ⟨b, o + j, none⟩ = some (.int .u8 ((l.getD j 0).toNat : Int)) := by
  rw [hbl.cell (p := ⟨b, o + j, none⟩) hb, HC.out j hj]
  simp [bv, hj]
theorem byte_le (l : List UInt8) (j : Nat) : (l.getD j 0).toNat ≤ 255 := by have := (l.getD j 0).toNat_lt; omega

set_option maxRecDepth 100000 in
set_option maxHeartbeats 800000 in
theorem words_any (b o n cap : Nat) (l : List UInt8) (w : World) (hn : 64 ≤ n) (hn2 : n ≤ maxLen) (hnc : n ≤ cap) (hb : b < w.heap.size) (hl : l.length = 64) (hc : ∀ j (h : j < l.length), w.cell? ⟨b, o + j, none⟩ = some (bv l[j])) :
    Calls Tryd.prog 41 #[.slice (some ⟨b, o, none⟩) n cap] w fun e w' => e = .returned (.agg (wv (wordsOf l))) ∧ Below w.heap.size w w' := by
  unfold maxLen at hn2
  have HC := Lib.hid hc
  have HL := Lib.hid hl
  clear hc hl
  go_enter Tryd.func41, Tryd.ntmps41
  go_wp2_with fail
  go_loopw [5] (fun i wr => ∃ k : Nat, k ≤ 16 ∧ i = .int .i64 k ∧ WB wr w.heap.size 68 (wordsTo 16 l k) ∧ Below w.heap.size w wr) (fun i _ => 16 - (intOf i).toNat)
  case atStart => exact ⟨0, by omega, rfl, heap_alloc_new w _, (Below.refl _ _).alloc (Nat.le_refl _) _⟩
  case round =>
    obtain ⟨k, hk, rfl, hw, hbl⟩ := hrel
    by_cases hlt : k < 16
    · have a0 := byte_at HC hb hbl (4 * k) (by have := HL.out; omega)
      have a1 := byte_at HC hb hbl (4 * k + 1) (by have := HL.out; omega)
      have a2 := byte_at HC hb hbl (4 * k + 2) (by have := HL.out; omega)
      have a3 := byte_at HC hb hbl (4 * k + 3) (by have := HL.out; omega)
      rw [← Nat.add_assoc] at a1 a2 a3
      have b0 := byte_le l (4 * k)
      have b1 := byte_le l (4 * k + 1)
      have b2 := byte_le l (4 * k + 2)
      have b3 := byte_le l (4 * k + 3)
      have HX : Hid (wordAt l k = uword (l.getD (4 * k) 0).toNat (l.getD (4 * k + 1) 0).toNat (l.getD (4 * k + 2) 0).toNat (l.getD (4 * k + 3) 0).toNat) := Lib.hid rfl
      generalize (l.getD (4 * k) 0).toNat = x0 at *
      generalize (l.getD (4 * k + 1) 0).toNat = x1 at *
      generalize (l.getD (4 * k + 2) 0).toNat = x2 at *
      generalize (l.getD (4 * k + 3) 0).toNat = x3 at *
      have hlen := wordsTo_len 16 l k
      have hs := hw.cell k (by rw [hlen]; exact hlt)
      rw [wordsTo_get, if_neg (by omega)] at hs
      have hf := hw.frozen k
      have he : 4 * (k + 1) - 4 * k = 4 := by omega
      have HW := Lib.hid hw
      have HB := Lib.hid hbl
      clear hw hbl hlen
      go_wp2_with fail
      go_still_tail 24, (by kernel_rfl)
      change wpList _ _ _ _ _ wr.drew
      go_wp2_with fail
      go_roundw
      case rel =>
        refine ⟨k + 1, by omega, by go_num, ?_, (HB.out.drew).setCell (Nat.le_refl _) _⟩
        rw [w_word, ← HX.out, ← wordsTo_set]
        exact (HW.out.drew).set_ k _
      case measure => simp [intOf]; omega
    · have HW := Lib.hid hw
      have HB := Lib.hid hbl
      clear hw hbl
      obtain rfl : k = 16 := by omega
      have hsz : (Tryd.prog.info? 68).map (·.size) = some (wv (wordsTo 16 l 16)).size := by rw [wv_size, wordsTo_len]; kernel_rfl
      go_wp2_with (first | (refine wpList_load_row rfl 68 (.tmp 2) rfl w.heap.size rfl _ (wv (wordsTo 16 l 16)) (0, 0) _ HW.out Tryd.underlying68 rfl hsz ?_) | (refine wpList_store_row rfl 68 (.tmp 2) (.tmp 40) rfl w.heap.size (wv (wordsTo 16 l 16)) rfl rfl _ _ HW.out hsz rfl (wv_one _) ?_))
      refine bodyPost_ret (v := .agg (wv (wordsOf l))) ?_ rfl ⟨rfl, below_setRow HB.out (Nat.le_refl _) _⟩
      rw [← wordsTo_full]
      exact results_cell_row rfl _ _ w.heap.size 68 _ (0, 0) _ rfl (WB.setRow HW.out _) Tryd.underlying68 rfl hsz
end Go.Proofs.YtmeoicfeiamkmaaDoor
