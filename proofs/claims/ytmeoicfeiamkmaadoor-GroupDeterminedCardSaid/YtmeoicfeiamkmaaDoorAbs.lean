/-
  The compression of one block: (*hasher).absorb.
-/
import Derived.Test.YtmeoicfeiamkmaaDoorSch
import Derived.Deep.MidRow
import Derived.Deep.WholeRow
namespace Go.Proofs.YtmeoicfeiamkmaaDoor
open Go.RowKit

theorem ror_2 (x : Nat) (w : World) : Calls Tryd.prog 48 #[.int .u32 x, .int .i64 2] w fun e w' => e = .returned (.int .u32 (uror x 2)) ∧ w' = w :=
  (ror_any x 2 2 rfl (by decide) (by decide) w).mono fun _ _ h => ⟨h.1, h.2.symm⟩
theorem ror_6 (x : Nat) (w : World) : Calls Tryd.prog 48 #[.int .u32 x, .int .i64 6] w fun e w' => e = .returned (.int .u32 (uror x 6)) ∧ w' = w :=
  (ror_any x 6 6 rfl (by decide) (by decide) w).mono fun _ _ h => ⟨h.1, h.2.symm⟩
theorem ror_11 (x : Nat) (w : World) : Calls Tryd.prog 48 #[.int .u32 x, .int .i64 11] w fun e w' => e = .returned (.int .u32 (uror x 11)) ∧ w' = w :=
  (ror_any x 11 11 rfl (by decide) (by decide) w).mono fun _ _ h => ⟨h.1, h.2.symm⟩
theorem ror_13 (x : Nat) (w : World) : Calls Tryd.prog 48 #[.int .u32 x, .int .i64 13] w fun e w' => e = .returned (.int .u32 (uror x 13)) ∧ w' = w :=
  (ror_any x 13 13 rfl (by decide) (by decide) w).mono fun _ _ h => ⟨h.1, h.2.symm⟩
theorem ror_22 (x : Nat) (w : World) : Calls Tryd.prog 48 #[.int .u32 x, .int .i64 22] w fun e w' => e = .returned (.int .u32 (uror x 22)) ∧ w' = w :=
  (ror_any x 22 22 rfl (by decide) (by decide) w).mono fun _ _ h => ⟨h.1, h.2.symm⟩
theorem ror_25 (x : Nat) (w : World) : Calls Tryd.prog 48 #[.int .u32 x, .int .i64 25] w fun e w' => e = .returned (.int .u32 (uror x 25)) ∧ w' = w :=
  (ror_any x 25 25 rfl (by decide) (by decide) w).mono fun _ _ h => ⟨h.1, h.2.symm⟩

theorem grown_set {R : Nat} {w w2 : World} (h : w.grownBy w2 (some R)) (i : Nat) (v : Value) : w.grownBy (w2.setCell ⟨R, i, none⟩ v) (some R) :=
  ⟨h.os, h.tape, h.output, by simpa using h.size, fun k hk hn => by rw [Below.heap_setCell _ _ _ _ (by intro e; subst e; exact hn rfl)]; exact h.block k hk hn⟩
theorem grown_drew {R : Nat} {w w2 : World} (h : w.grownBy w2 (some R)) : w.grownBy w2.drew (some R) := ⟨h.os, h.tape, h.output, h.size, h.block⟩
theorem grown_drewN {R : Nat} {w w2 : World} (h : w.grownBy w2 (some R)) (n : Nat) : w.grownBy (w2.drewN n) (some R) := ⟨h.os, h.tape, h.output, h.size, h.block⟩
theorem grown_trans {R : Nat} {w w1 w2 : World} (h : w.grownBy w1 (some R)) (k : w1.grownBy w2 (some R)) : w.grownBy w2 (some R) :=
  ⟨k.os.trans h.os, k.tape.trans h.tape, k.output.trans h.output, Nat.le_trans h.size k.size, fun i hi hn => (k.block i (Nat.lt_of_lt_of_le hi h.size) hn).trans (h.block i hi hn)⟩
theorem grown_call {R : Nat} {w w1 w2 : World} (h : w.grownBy w1 (some R)) (k : Below w1.heap.size w1 w2) : w.grownBy w2 (some R) :=
  ⟨k.os.trans h.os, k.tape.trans h.tape, k.output.trans h.output, Nat.le_trans h.size k.size, fun i hi hn => (k.block i (Nat.lt_of_lt_of_le hi h.size)).trans (h.block i hi hn)⟩

/-- The eight numbers of a state. -/
structure S8 where
  a : Nat
  b : Nat
  c : Nat
  d : Nat
  e : Nat
  f : Nat
  g : Nat
  h : Nat

def pOf (s : S8) (k x : Nat) : Nat := uadd (uadd (uadd (uadd s.h (uxor (uxor (uror s.e 6) (uror s.e 11)) (uror s.e 25))) (uxor (uand s.e s.f) (uand (unot s.e) s.g))) k) x
def qOf (s : S8) : Nat := uadd (uxor (uxor (uror s.a 2) (uror s.a 13)) (uror s.a 22)) (uxor (uxor (uand s.a s.b) (uand s.a s.c)) (uand s.b s.c))
def rnd (s : S8) (k x : Nat) : S8 := ⟨uadd (pOf s k x) (qOf s), s.a, s.b, s.c, uadd s.d (pOf s k x), s.e, s.f, s.g⟩
/-- The numbers K. -/
def kNums : List Nat := [0x428a2f98, 0x71374491, 0xb5c0fbcf, 0xe9b5dba5, 0x3956c25b, 0x59f111f1, 0x923f82a4, 0xab1c5ed5, 0xd807aa98, 0x12835b01, 0x243185be, 0x550c7dc3, 0x72be5d74, 0x80deb1fe, 0x9bdc06a7, 0xc19bf174, 0xe49b69c1, 0xefbe4786, 0x0fc19dc6, 0x240ca1cc, 0x2de92c6f, 0x4a7484aa, 0x5cb0a9dc, 0x76f988da, 0x983e5152, 0xa831c66d, 0xb00327c8, 0xbf597fc7, 0xc6e00bf3, 0xd5a79147, 0x06ca6351, 0x14292967, 0x27b70a85, 0x2e1b2138, 0x4d2c6dfc, 0x53380d13, 0x650a7354, 0x766a0abb, 0x81c2c92e, 0x92722c85, 0xa2bfe8a1, 0xa81a664b, 0xc24b8b70, 0xc76c51a3, 0xd192e819, 0xd6990624, 0xf40e3585, 0x106aa070, 0x19a4c116, 0x1e376c08, 0x2748774c, 0x34b0bcb5, 0x391c0cb3, 0x4ed8aa4a, 0x5b9cca4f, 0x682e6ff3, 0x748f82ee, 0x78a5636f, 0x84c87814, 0x8cc70208, 0x90befffa, 0xa4506ceb, 0xbef9a3f7, 0xc67178f2]
/-- The state in the beginning. -/
def hNums : List Nat := [0x6a09e667, 0xbb67ae85, 0x3c6ef372, 0xa54ff53a, 0x510e527f, 0x9b05688c, 0x1f83d9ab, 0x5be0cd19]
/-- The state after k rounds. -/
def rnds (ws : List Nat) (s : S8) : Nat → S8
  | 0 => s
  | k + 1 => rnd (rnds ws s k) (kNums.getD k 0) (ws.getD k 0)
def ofL (l : List Nat) : S8 := ⟨l.getD 0 0, l.getD 1 0, l.getD 2 0, l.getD 3 0, l.getD 4 0, l.getD 5 0, l.getD 6 0, l.getD 7 0⟩
def toL (s : S8) : List Nat := [s.a, s.b, s.c, s.d, s.e, s.f, s.g, s.h]
/-- Componentwise sums of the first k of eight numbers. -/
def addTo (x y : List Nat) (k : Nat) : List Nat := (List.range 8).map fun i => if i < k then uadd (x.getD i 0) (y.getD i 0) else x.getD i 0
theorem addTo_zero (x y : List Nat) (h : x.length = 8) : addTo x y 0 = x := by
  apply List.ext_getElem
  · simp [addTo, h]
  · intro i h1 h2
    simp [addTo, h2]
theorem addTo_len (x y : List Nat) (k : Nat) : (addTo x y k).length = 8 := by simp [addTo]
theorem addTo_get (x y : List Nat) (k i : Nat) (h : i < 8) : (addTo x y k).getD i 0 = if i < k then uadd (x.getD i 0) (y.getD i 0) else x.getD i 0 := by simp [addTo, h]
theorem addTo_set (x y : List Nat) (k : Nat) (h : k < 8) : (addTo x y k).set k (uadd (x.getD k 0) (y.getD k 0)) = addTo x y (k + 1) := by
  apply List.ext_getElem
  · simp [addTo]
  · intro i h1 h2
    rw [List.getElem_set]
    simp only [addTo, List.getElem_map, List.getElem_range]
    by_cases e : k = i
    · subst e; rw [if_pos rfl, if_pos (by omega)]
    · rw [if_neg e]
      by_cases h : i < k
      · rw [if_pos h, if_pos (by omega)]
      · rw [if_neg h, if_neg (by omega)]
theorem idx8_0 (a b c d e f g h : Nat) (w : World) : (Instr.index 52 (.agg #[.int .u32 a, .int .u32 b, .int .u32 c, .int .u32 d, .int .u32 e, .int .u32 f, .int .u32 g, .int .u32 h]) (.int .i64 (0 : Nat))).run Tryd.prog w = .ok (.int .u32 a) w := by kernel_rfl
theorem idx8_1 (a b c d e f g h : Nat) (w : World) : (Instr.index 52 (.agg #[.int .u32 a, .int .u32 b, .int .u32 c, .int .u32 d, .int .u32 e, .int .u32 f, .int .u32 g, .int .u32 h]) (.int .i64 (1 : Nat))).run Tryd.prog w = .ok (.int .u32 b) w := by kernel_rfl
theorem idx8_2 (a b c d e f g h : Nat) (w : World) : (Instr.index 52 (.agg #[.int .u32 a, .int .u32 b, .int .u32 c, .int .u32 d, .int .u32 e, .int .u32 f, .int .u32 g, .int .u32 h]) (.int .i64 (2 : Nat))).run Tryd.prog w = .ok (.int .u32 c) w := by kernel_rfl
theorem idx8_3 (a b c d e f g h : Nat) (w : World) : (Instr.index 52 (.agg #[.int .u32 a, .int .u32 b, .int .u32 c, .int .u32 d, .int .u32 e, .int .u32 f, .int .u32 g, .int .u32 h]) (.int .i64 (3 : Nat))).run Tryd.prog w = .ok (.int .u32 d) w := by kernel_rfl
theorem idx8_4 (a b c d e f g h : Nat) (w : World) : (Instr.index 52 (.agg #[.int .u32 a, .int .u32 b, .int .u32 c, .int .u32 d, .int .u32 e, .int .u32 f, .int .u32 g, .int .u32 h]) (.int .i64 (4 : Nat))).run Tryd.prog w = .ok (.int .u32 e) w := by kernel_rfl
theorem idx8_5 (a b c d e f g h : Nat) (w : World) : (Instr.index 52 (.agg #[.int .u32 a, .int .u32 b, .int .u32 c, .int .u32 d, .int .u32 e, .int .u32 f, .int .u32 g, .int .u32 h]) (.int .i64 (5 : Nat))).run Tryd.prog w = .ok (.int .u32 f) w := by kernel_rfl
theorem idx8_6 (a b c d e f g h : Nat) (w : World) : (Instr.index 52 (.agg #[.int .u32 a, .int .u32 b, .int .u32 c, .int .u32 d, .int .u32 e, .int .u32 f, .int .u32 g, .int .u32 h]) (.int .i64 (6 : Nat))).run Tryd.prog w = .ok (.int .u32 g) w := by kernel_rfl
theorem idx8_7 (a b c d e f g h : Nat) (w : World) : (Instr.index 52 (.agg #[.int .u32 a, .int .u32 b, .int .u32 c, .int .u32 d, .int .u32 e, .int .u32 f, .int .u32 g, .int .u32 h]) (.int .i64 (7 : Nat))).run Tryd.prog w = .ok (.int .u32 h) w := by kernel_rfl
theorem idx8 (s : S8) (j : Nat) (hj : j < 8) (w : World) : (Instr.index 52 (.agg #[.int .u32 s.a, .int .u32 s.b, .int .u32 s.c, .int .u32 s.d, .int .u32 s.e, .int .u32 s.f, .int .u32 s.g, .int .u32 s.h]) (.int .i64 j)).run Tryd.prog w = .ok (.int .u32 ((toL s).getD j 0 : Nat)) w := by
  have : j = 0 ∨ j = 1 ∨ j = 2 ∨ j = 3 ∨ j = 4 ∨ j = 5 ∨ j = 6 ∨ j = 7 := by omega
  rcases this with rfl | rfl | rfl | rfl | rfl | rfl | rfl | rfl
  · exact idx8_0 _ _ _ _ _ _ _ _ w
  · exact idx8_1 _ _ _ _ _ _ _ _ w
  · exact idx8_2 _ _ _ _ _ _ _ _ w
  · exact idx8_3 _ _ _ _ _ _ _ _ w
  · exact idx8_4 _ _ _ _ _ _ _ _ w
  · exact idx8_5 _ _ _ _ _ _ _ _ w
  · exact idx8_6 _ _ _ _ _ _ _ _ w
  · exact idx8_7 _ _ _ _ _ _ _ _ w
/-- The state after a block. -/
def comp (st : List Nat) (blk : List Nat) : List Nat := addTo st (toL (rnds (sched blk) (ofL st) 64)) 8

/-- The tables of package digest, as the program's text lays them. -/
def Tab (w : World) : Prop := w.rangeAt 3 0 (wv kNums).toList ∧ w.rangeAt 0 0 (wv hNums).toList
theorem Tab.lt {w : World} (h : Tab w) : 4 ≤ w.heap.size := by
  have h1 := World.block_lt_of_cell? w _ (h.1 0 (.int .u32 (0x428a2f98 : Nat)) rfl)
  have h2 := World.block_lt_of_cell? w _ (h.2 0 (.int .u32 (0x6a09e667 : Nat)) rfl)
  have h3 : 3 < w.heap.size := h1
  have h4 : 0 < w.heap.size := h2
  omega
theorem Tab.of {w w' : World} (h : Tab w) (hb : ∀ k, k < 4 → w'.heap[k]? = w.heap[k]?) : Tab w' :=
  ⟨fun j v hv => (World.cell?_of_block (w := w) (hb 3 (by decide))).trans (h.1 j v hv), fun j v hv => (World.cell?_of_block (w := w) (hb 0 (by decide))).trans (h.2 j v hv)⟩
theorem Tab.below {B : Nat} {w w' : World} (h : Tab w) (hb : Below B w w') (hB : 4 ≤ B) : Tab w' := h.of fun k hk => hb.block k (by omega)
theorem Tab.grown {R : Nat} {w w' : World} (h : Tab w) (hg : w.grownBy w' (some R)) (hR : 4 ≤ R) : Tab w' := h.of fun k hk => hg.block k (by have := h.lt; omega) (fun e => by injection e with e; omega)
theorem Tab.drewN {w : World} (h : Tab w) (n : Nat) : Tab (w.drewN n) := h
theorem Tab.k {w : World} (h : Tab w) (j : Nat) (hj : j < 64) : w.cell? ⟨3, j, none⟩ = some (.int .u32 (kNums.getD j 0 : Nat)) := by
  have hl : kNums.length = 64 := by decide
  have h0 : j < kNums.length := by omega
  have := h.1 j (.int .u32 (kNums.getD j 0 : Nat)) (by simp [wv, h0])
  rwa [Nat.zero_add] at this

/-- A hasher at block R: its state, and the cells behind it. -/
def HR (w : World) (R : Nat) (st : List Nat) (rest : List Value) : Prop := st.length = 8 ∧ w.heap[R]? = some (.cells ((wv st).toList ++ rest).toArray 55 (0, 0))
theorem HR.cell {w : World} {R : Nat} {st : List Nat} {rest : List Value} (h : HR w R st rest) (i : Nat) (hi : i < 8) : w.cell? ⟨R, i, none⟩ = some (.int .u32 (st.getD i 0 : Nat)) := by
  have h0 : i < st.length := by have := h.1; omega
  rw [cell_of_row w R i _ _ _ h.2]
  simp [wv, List.getElem?_append, h0]
theorem HR.frozen {w : World} {R : Nat} {st : List Nat} {rest : List Value} (h : HR w R st rest) (i : Nat) : w.frozen? ⟨R, i, none⟩ = false := frozen_of_row w R i _ _ h.2
theorem HR.lt {w : World} {R : Nat} {st : List Nat} {rest : List Value} (h : HR w R st rest) : R < w.heap.size := (Array.getElem?_eq_some_iff.1 h.2).1
theorem HR.drewN {w : World} {R : Nat} {st : List Nat} {rest : List Value} (h : HR w R st rest) (n : Nat) : HR (w.drewN n) R st rest := h
theorem HR.below {B : Nat} {w w' : World} {R : Nat} {st : List Nat} {rest : List Value} (h : HR w R st rest) (hb : Below B w w') (hR : R < B) : HR w' R st rest := ⟨h.1, (hb.block R hR).trans h.2⟩
theorem HR.set_ {w : World} {R : Nat} {st : List Nat} {rest : List Value} (h : HR w R st rest) (i x : Nat) (hi : i < 8) : HR (w.setCell ⟨R, i, none⟩ (.int .u32 (x : Nat))) R (st.set i x) rest := by
  refine ⟨by rw [List.length_set]; exact h.1, ?_⟩
  rw [heap_setCell_same w R i _ _ _ h.2]
  have h0 : i < (wv st).toList.length := by rw [Array.length_toList, wv_size, h.1]; exact hi
  congr 2
  apply Array.ext'
  simp only [Array.toList_setIfInBounds, List.set_append, h0, if_true]
  congr 1
  rw [← wv_set]; simp

set_option maxRecDepth 100000 in
set_option maxHeartbeats 1600000 in
theorem absorb_any (R : Nat) (st : List Nat) (rest : List Value) (blk : List Nat) (w : World) (hT : Tab w) (hR : 4 ≤ R) (h : HR w R st rest) (hbl : blk.length = 16) :
    Calls Tryd.prog 40 #[.pointer (some ⟨R, 0, none⟩), .agg (wv blk)] w fun e w' => e = .returned (.tuple #[]) ∧ HR w' R (comp st blk) rest ∧ w.grownBy w' (some R) := by
  have HBL := Lib.hid hbl
  have hlt := h.lt
  clear hbl
  have hsz : (Tryd.prog.info? 68).map (·.size) = some (wv blk).size := by rw [wv_size, HBL.out]; kernel_rfl
  go_enter Tryd.func40, Tryd.ntmps40
  have hb0 : Below w.heap.size w (w.alloc (.cells (wv blk) 68)) := (Below.refl _ _).alloc (Nat.le_refl _) _
  go_wp2_with (refine wpList_load_row rfl 68 (.tmp 3) rfl w.heap.size rfl 68 (wv blk) (0, 0) _ (heap_alloc_new w _) Tryd.underlying68 rfl hsz ?_)
  refine (schedule_any blk HBL.out _).mono ?_
  rintro e w1 ⟨rfl, hb1⟩
  have hb01 := hb0.trans (hb1.mono (by simp))
  have hz1 : w.heap.size ≤ w1.heap.size := hb01.size
  have hWl : (sched blk).length = 64 := schN_len blk HBL.out 48
  have HC : Hid (comp st blk = addTo st (toL (rnds (sched blk) (ofL st) 64)) 8) := Lib.hid rfl
  generalize sched blk = W at *
  have hsz2 : (Tryd.prog.info? 75).map (·.size) = some (wv W).size := by rw [wv_size, hWl]; kernel_rfl
  have hold : (64 : Nat) = (wv W).size := by rw [wv_size, hWl]
  have HWL := Lib.hid hWl
  have HB1 := Lib.hid hb01
  clear hWl hb01 hb1 hb0
  go_wp2_with (refine wpList_store_row rfl 75 (.tmp 4) (.tmp 20) rfl w1.heap.size (wv W) rfl rfl 75 _ (heap_alloc_new w1 _) hsz2 hold (wv_one _) ?_)
  rw [World.setRow_alloc_new]
  clear hold hsz2 hsz
  obtain ⟨w2, hw2⟩ : ∃ w2, w2 = w1.alloc (.cells (wv W) 75) := ⟨_, rfl⟩
  rw [← hw2]
  have hW2 : WB w2 w1.heap.size 75 W := hw2 ▸ WB.new w1 _ W
  have hB2 : Below w.heap.size w w2 := hw2 ▸ HB1.out.alloc hz1 _
  have hz2 : w1.heap.size < w2.heap.size := hW2.lt
  have hR2 : HR w2 R st rest := h.below hB2 hlt
  have hT2 : Tab w2 := hT.below hB2 (by omega)
  have HW2 := Lib.hid hW2
  have HB2 := Lib.hid hB2
  have HR2 := Lib.hid hR2
  have HT2 := Lib.hid hT2
  clear hw2 hW2 hB2 hR2 hT2 h hT HB1
  have c0 := HR2.out.cell 0 (by decide)
  have c1 := HR2.out.cell 1 (by decide)
  have c2 := HR2.out.cell 2 (by decide)
  have c3 := HR2.out.cell 3 (by decide)
  have c4 := HR2.out.cell 4 (by decide)
  have c5 := HR2.out.cell 5 (by decide)
  have c6 := HR2.out.cell 6 (by decide)
  have c7 := HR2.out.cell 7 (by decide)
  have HS : Hid (rnds W (ofL st) 0 = ⟨st.getD 0 0, st.getD 1 0, st.getD 2 0, st.getD 3 0, st.getD 4 0, st.getD 5 0, st.getD 6 0, st.getD 7 0⟩) := Lib.hid rfl
  have HLS := Lib.hid HR2.out.1
  generalize st.getD 0 0 = x0 at *
  generalize st.getD 1 0 = x1 at *
  generalize st.getD 2 0 = x2 at *
  generalize st.getD 3 0 = x3 at *
  generalize st.getD 4 0 = x4 at *
  generalize st.getD 5 0 = x5 at *
  generalize st.getD 6 0 = x6 at *
  generalize st.getD 7 0 = x7 at *
  go_quiet (fail)
  clear c0 c1 c2 c3 c4 c5 c6 c7
  go_wp2_with fail
  go_loopw [6, 7, 8, 9, 10, 11, 12, 13, 56] (fun a b c d e f g h i wr => ∃ k : Nat, k ≤ 64 ∧ i = .int .i64 k ∧ ∃ s : S8, Hid (rnds W (ofL st) k = s) ∧ a = .int .u32 s.a ∧ b = .int .u32 s.b ∧ c = .int .u32 s.c ∧ d = .int .u32 s.d ∧ e = .int .u32 s.e ∧ f = .int .u32 s.f ∧ g = .int .u32 s.g ∧ h = .int .u32 s.h ∧ ∃ n, wr = w2.drewN n) (fun _ _ _ _ _ _ _ _ i _ => 64 - (intOf i).toNat)
  case atStart => exact ⟨0, by omega, rfl, _, HS, rfl, rfl, rfl, rfl, rfl, rfl, rfl, rfl, _, rfl⟩
  case round =>
    obtain ⟨k, hk, rfl, ⟨xa, xb, xc, xd, xe, xf, xg, xh⟩, HSK, rfl, rfl, rfl, rfl, rfl, rfl, rfl, rfl, hwr⟩ := hrel
    have HWR := Lib.hid hwr
    clear hwr
    by_cases hlt : k < 64
    · have ck : wr.cell? ⟨3, k, none⟩ = some (.int .u32 (kNums.getD k 0 : Nat)) := by obtain ⟨n, rfl⟩ := HWR.out; exact HT2.out.k k hlt
      have cw : wr.cell? ⟨w1.heap.size, k, none⟩ = some (.int .u32 (W.getD k 0 : Nat)) := by obtain ⟨n, rfl⟩ := HWR.out; exact HW2.out.cellD k (by rw [HWL.out]; exact hlt)
      have HX : Hid (rnds W (ofL st) (k + 1) = rnd ⟨xa, xb, xc, xd, xe, xf, xg, xh⟩ (kNums.getD k 0) (W.getD k 0)) := by show _ = _; rw [← HSK.out]; rfl
      generalize kNums.getD k 0 = xk at *
      generalize W.getD k 0 = xw at *
      go_wp2_with fail
      refine wp_region_quiet_lit (by kernel_rfl) (by kernel_rfl) ?_
      iterate 2 (go_big_quiet_step (fail))
      go_big_quiet_step ((go_at_call 48; exact Calls.quiet_of_same (ror_6 _ _)))
      go_big_quiet_step (fail)
      go_big_quiet_step ((go_at_call 48; exact Calls.quiet_of_same (ror_11 _ _)))
      iterate 2 (go_big_quiet_step (fail))
      go_big_quiet_step ((go_at_call 48; exact Calls.quiet_of_same (ror_25 _ _)))
      iterate 20 (go_big_quiet_step (fail))
      refine wpQuiet_nil ?_
      intro _ hw'
      obtain ⟨nq, hw''⟩ := hw'
      subst hw''
      go_wp2_with fail
      refine (ror_2 _ _).mono ?_
      rintro e w' ⟨rfl, rfl⟩
      go_wp2_with fail
      refine (ror_13 _ _).mono ?_
      rintro e w' ⟨rfl, rfl⟩
      go_wp2_with fail
      refine (ror_22 _ _).mono ?_
      rintro e w' ⟨rfl, rfl⟩
      go_wp2_with fail
      go_roundw
      case rel =>
        obtain ⟨n, rfl⟩ := HWR.out
        refine ⟨k + 1, by omega, by go_num, _, HX, ?_, rfl, rfl, rfl, ?_, rfl, rfl, rfl, n + nq, World.drewN_drewN _ _ _⟩
        · simp only [w_not, w_xor, w_and, w_add5, w_add]; rfl
        · simp only [w_not, w_xor, w_and, w_add5, w_add]; rfl
      case measure => simp [intOf]; omega
    · obtain rfl : k = 64 := by omega
      rw [HSK.out] at HC
      obtain ⟨L, hL⟩ : ∃ L, L = toL ⟨xa, xb, xc, xd, xe, xf, xg, xh⟩ := ⟨_, rfl⟩
      rw [← hL] at HC
      have HL := Lib.hid hL
      have HW' : Hid (HR wr R st rest ∧ w.grownBy wr (some R)) := by
        obtain ⟨n, rfl⟩ := HWR.out
        exact ⟨HR2.out.drewN n, HB2.out.os, HB2.out.tape, HB2.out.output, HB2.out.size, fun j hj _ => HB2.out.block j hj⟩
      clear hL HSK hlt hk HWR HS
      go_wp2_with fail
      go_loopw [128] (fun i w' => ∃ j : Nat, j ≤ 8 ∧ i = .int .i64 j ∧ HR w' R (addTo st L j) rest ∧ w.grownBy w' (some R)) (fun i _ => 8 - (intOf i).toNat)
      case atStart => exact ⟨0, by omega, rfl, by rw [addTo_zero _ _ HLS.out]; exact HW'.out.1, HW'.out.2⟩
      case round =>
        obtain ⟨j, hj, rfl, hr, hg⟩ := hrel
        by_cases hlt : j < 8
        · have hix := idx8 ⟨xa, xb, xc, xd, xe, xf, xg, xh⟩ j hlt
          rw [← HL.out] at hix
          have cj := hr.cell j hlt
          have cf := hr.frozen j
          rw [addTo_get _ _ _ _ hlt, if_neg (by omega)] at cj
          have HX := Lib.hid (addTo_set st L j hlt)
          generalize st.getD j 0 = yj at *
          generalize L.getD j 0 = lj at *
          have HRr := Lib.hid hr
          have HG := Lib.hid hg
          clear hr hg
          go_wp2_with fail
          go_still_tail 9, (by kernel_rfl)
          change wpList _ _ _ _ _ wr.drew
          go_wp2_with fail
          go_roundw
          case rel =>
            repeat apply Exists.intro
            refine ⟨⟨j + 1, by omega, ?_, ?_, ?_⟩, rfl⟩
            · go_num
            · rw [w_add, ← HX.out]; exact HRr.out.set_ j _ hlt
            · exact grown_drew (grown_set HG.out j _)
          case measure => simp [intOf]; omega
        · obtain rfl : j = 8 := by omega
          rw [← HC.out] at hr
          have HRr := Lib.hid hr
          have HG := Lib.hid hg
          clear hr hg
          go_wp2_with fail
          go_end0
          exact ⟨rfl, HRr.out, HG.out⟩
end Go.Proofs.YtmeoicfeiamkmaaDoor
