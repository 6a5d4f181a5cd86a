/-
  Package wrap: the bytes of three elements.
-/
import Derived.Test.YtpnemdhbdncknaaDoorPkI
import Derived.Test.YtpnemdhbdncknaaDoorPkC
import Derived.Test.YtpnemdhbdncknaaDoorPkE
import Derived.Test.YtpnemdhbdncknaaDoorSs
namespace Go.Proofs.YtpnemdhbdncknaaDoor
open Go.RowKit
set_option linter.unusedVariables false
set_option linter.unusedSimpArgs false

/-- Block g holds these cells. -/
def CB (w : World) (g : Nat) (T : TypeId) (cs : Array Value) : Prop := w.heap[g]? = some (.cells cs T (0, 0))
theorem CB.new (w : World) (T : TypeId) (cs : Array Value) : CB (w.alloc (.cells cs T)) w.heap.size T cs := heap_alloc_new w _
theorem CB.lt {w : World} {g : Nat} {T : TypeId} {cs : Array Value} (h : CB w g T cs) : g < w.heap.size := (Array.getElem?_eq_some_iff.1 h).1
theorem CB.below {B : Nat} {w w' : World} {g : Nat} {T : TypeId} {cs : Array Value} (h : CB w g T cs) (hb : Below B w w') (hg : g < B) : CB w' g T cs := (hb.block g hg).trans h
theorem CB.call {w w' : World} {g : Nat} {T : TypeId} {cs : Array Value} (h : CB w g T cs) (hb : Below w.heap.size w w') : CB w' g T cs := h.below hb h.lt
theorem CB.alloc {w : World} {g : Nat} {T : TypeId} {cs : Array Value} (h : CB w g T cs) (o : Obj) : CB (w.alloc o) g T cs := (Below.heap_alloc w o g h.lt).trans h
theorem CB.drew {w : World} {g : Nat} {T : TypeId} {cs : Array Value} (h : CB w g T cs) : CB w.drew g T cs := h
theorem CB.cell {w : World} {g : Nat} {T : TypeId} {cs : Array Value} (h : CB w g T cs) (i : Nat) : w.cell? ⟨g, i, none⟩ = cs[i]? := cell_of_row w g i _ _ (0, 0) h
theorem CB.frozen {w : World} {g : Nat} {T : TypeId} {cs : Array Value} (h : CB w g T cs) (i : Nat) : w.frozen? ⟨g, i, none⟩ = false := frozen_of_row w g i _ _ h
theorem CB.grown {w w' : World} {g R : Nat} {T : TypeId} {cs : Array Value} (h : CB w g T cs) (hg : w.grownBy w' (some R)) (hne : g ≠ R) : CB w' g T cs := (hg.block g h.lt (fun e => hne (by injection e))).trans h
theorem CB.set {w : World} {g : Nat} {T : TypeId} {cs : Array Value} (h : CB w g T cs) (i : Nat) (v : Value) : CB (w.setCell ⟨g, i, none⟩ v) g T (cs.setIfInBounds i v) := by
  unfold CB; rw [heap_setCell_same w g i _ _ _ h]
theorem CB.range2 {w : World} {g : Nat} {T : TypeId} {x y : Value} (h : CB w g T #[x, y]) : w.rangeAt g 0 [x, y] := by
  intro j v hv
  match j, hv with
  | 0, hv => injection hv with hv; subst hv; exact h.cell 0
  | 1, hv => injection hv with hv; subst hv; exact h.cell 1

def sel3 (e0 e1 e2 : Int) (i : Nat) : Int := if i = 0 then e0 else if i = 1 then e1 else e2
/-- The first k bytes of three elements are written. -/
def elsTo (e0 e1 e2 : Int) (k : Nat) : List UInt8 := (List.range 24).map fun j => if j < k then byN (sel3 e0 e1 e2 (j / 8)) (j % 8) else 0
theorem elsTo_len (e0 e1 e2 : Int) (k : Nat) : (elsTo e0 e1 e2 k).length = 24 := by simp [elsTo]
theorem elsTo_zero (e0 e1 e2 : Int) : elsTo e0 e1 e2 0 = List.replicate 24 0 := by
  apply List.ext_getElem
  · rw [elsTo_len, List.length_replicate]
  · intro i h1 h2
    rw [List.getElem_replicate]
    simp only [elsTo, List.getElem_map, List.getElem_range]
    rw [if_neg (by omega)]
theorem elsTo_all (e0 e1 e2 : Int) : elsTo e0 e1 e2 24 = be8 e0 ++ be8 e1 ++ be8 e2 := rfl
theorem elsTo_set (e0 e1 e2 : Int) (k : Nat) : (elsTo e0 e1 e2 k).set k (byN (sel3 e0 e1 e2 (k / 8)) (k % 8)) = elsTo e0 e1 e2 (k + 1) := by
  apply List.ext_getElem
  · simp [elsTo]
  · intro i h1 h2
    rw [List.getElem_set]
    simp only [elsTo, List.getElem_map, List.getElem_range]
    by_cases e : k = i
    · subst e; rw [if_pos rfl, if_pos (by omega)]
    · rw [if_neg e]
      by_cases h : i < k
      · rw [if_pos h, if_pos (by omega)]
      · rw [if_neg h, if_neg (by omega)]
theorem els_byN (n : Int) (k : Nat) : Value.int .u8 (n / 2 ^ (8 * (7 - k)) % 256) = bv (byN n k) := by unfold bv; rw [byN_nat, show 8 * (7 - k) = 56 - 8 * k by omega]
theorem els_sz (l : List UInt8) (h : l.length = 24) : (Tryd.prog.info? 72).map (·.size) = some (bvA l).size := by rw [bvA_size, h]; kernel_rfl

theorem idx3_0 (e0 e1 e2 : Int) (w : World) : (Instr.index 74 (.agg #[.int .i64 e0, .int .i64 e1, .int .i64 e2]) (.int .i64 (0 : Nat))).run Tryd.prog w = .ok (.int .i64 e0) w := by kernel_rfl
theorem idx3_1 (e0 e1 e2 : Int) (w : World) : (Instr.index 74 (.agg #[.int .i64 e0, .int .i64 e1, .int .i64 e2]) (.int .i64 (1 : Nat))).run Tryd.prog w = .ok (.int .i64 e1) w := by kernel_rfl
theorem idx3_2 (e0 e1 e2 : Int) (w : World) : (Instr.index 74 (.agg #[.int .i64 e0, .int .i64 e1, .int .i64 e2]) (.int .i64 (2 : Nat))).run Tryd.prog w = .ok (.int .i64 e2) w := by kernel_rfl
theorem idx3 (e0 e1 e2 : Int) (k : Nat) (h : k < 3) (w : World) : (Instr.index 74 (.agg #[.int .i64 e0, .int .i64 e1, .int .i64 e2]) (.int .i64 (k : Nat))).run Tryd.prog w = .ok (.int .i64 (sel3 e0 e1 e2 k)) w := by
  obtain rfl | rfl | rfl : k = 0 ∨ k = 1 ∨ k = 2 := by omega
  · exact idx3_0 e0 e1 e2 w
  · exact idx3_1 e0 e1 e2 w
  · exact idx3_2 e0 e1 e2 w
set_option maxRecDepth 100000 in
set_option maxHeartbeats 2000000 in
theorem elems_any (e0 e1 e2 : Int) (w : World) :
    Calls Tryd.prog 41 #[.agg #[.int .i64 e0, .int .i64 e1, .int .i64 e2]] w fun e w' => e = .returned (.agg (bvA (be8 e0 ++ be8 e1 ++ be8 e2))) ∧ Below w.heap.size w w' := by
  obtain ⟨Z, hZ⟩ : ∃ Z, Z = bvA (List.replicate 24 0) := ⟨_, rfl⟩
  have hz := fun W : World => (by rw [hZ]; kernel_rfl : (zeroValue 72).run Tryd.prog W = .ok (.agg Z) W)
  obtain ⟨w1, hw1⟩ : ∃ w1, w1 = w.alloc (.cells #[.int .i64 e0, .int .i64 e1, .int .i64 e2] 74) := ⟨_, rfl⟩
  have HZ1 : w1.heap.size = w.heap.size + 1 := by rw [hw1]; exact alloc_size _ _
  have hB1 : Below w.heap.size w w1 := hw1 ▸ (Below.refl _ _).alloc (Nat.le_refl _) _
  have HB0 := Lib.hid (hB1.alloc hB1.size (.cells Z 72))
  have HO0 : Hid (BB (w1.alloc (.cells Z 72)) (w.heap.size + 1) 72 (elsTo e0 e1 e2 0)) := Lib.hid (by rw [hZ, elsTo_zero, ← HZ1]; exact BB.new w1 _ _)
  subst hw1
  clear hZ hB1 HZ1
  have hL : (be8 e0 ++ be8 e1 ++ be8 e2).length = 24 := by simp [be8_len]
  obtain ⟨L, hl⟩ : ∃ L, be8 e0 ++ be8 e1 ++ be8 e2 = L := ⟨_, rfl⟩
  have HL : Hid (elsTo e0 e1 e2 24 = L) := Lib.hid hl
  rw [hl] at hL ⊢
  have HLL := Lib.hid hL
  clear hl hL
  go_enter Tryd.func41, Tryd.ntmps41
  go_wp2_with fail
  go_loopw [7] (fun i wr => ∃ k : Nat, k ≤ 3 ∧ i = .int .i64 k ∧ BB wr (w.heap.size + 1) 72 (elsTo e0 e1 e2 (k * 8)) ∧ Below w.heap.size w wr) (fun i _ => 3 - (intOf i).toNat)
  case atStart => exact ⟨0, by omega, rfl, HO0.out, HB0.out⟩
  case round =>
    clear HB0 HO0
    obtain ⟨k, hk, rfl, ho, hb⟩ := hrel
    have HO := Lib.hid ho
    have HB := Lib.hid hb
    clear ho hb
    by_cases hlt : k < 3
    · have hix := fun W => idx3 e0 e1 e2 k hlt W
      have HSEL : Hid (∀ j, j < 8 → (k * 8 + j) / 8 = k ∧ (k * 8 + j) % 8 = j) := Lib.hid (fun j hj => by omega)
      go_wp2_with fail
      obtain ⟨x, hx⟩ : ∃ x, sel3 e0 e1 e2 k = x := ⟨_, rfl⟩
      have HSX := Lib.hid hx
      rw [hx]
      clear hx hix
      go_loopw [11] (fun i wr => ∃ j : Nat, j ≤ 8 ∧ i = .int .i64 j ∧ BB wr (w.heap.size + 1) 72 (elsTo e0 e1 e2 (k * 8 + j)) ∧ Below w.heap.size w wr) (fun i _ => 8 - (intOf i).toNat)
      case atStart => exact ⟨0, by omega, rfl, HO.out, HB.out⟩
      case round =>
        clear HB HO
        obtain ⟨j, hj, rfl, ho, hb⟩ := hrel
        have HO := Lib.hid ho
        have HB := Lib.hid hb
        clear ho hb
        by_cases hlt2 : j < 8
        · have cf := HO.out.frozen (k * 8 + j)
          have ck := HO.out.cell (k * 8 + j) (by rw [elsTo_len]; omega)
          have HX := Lib.hid (elsTo_set e0 e1 e2 (k * 8 + j))
          have HV := Lib.hid (els_byN x j)
          generalize hx : (elsTo e0 e1 e2 (k * 8 + j))[k * 8 + j]'(by rw [elsTo_len]; omega) = xk at ck
          clear hx
          go_wp2_with fail
          go_roundw
          case rel =>
            refine ⟨j + 1, by omega, by go_num, ?_, HB.out.setCell (p := ⟨w.heap.size + 1, k * 8 + j, none⟩) (Nat.le_succ _) _⟩
            have h := HO.out.set_ (k * 8 + j) (byN x j)
            rw [← HV.out] at h
            have hX := HX.out
            rw [(HSEL.out j hlt2).1, (HSEL.out j hlt2).2, HSX.out] at hX
            rw [hX] at h
            exact h
          case measure => simp [intOf]; omega
        · obtain rfl : j = 8 := by omega
          go_wp2_with fail
          go_roundw
          case rel => exact ⟨k + 1, by omega, by go_num, by rw [show (k + 1) * 8 = k * 8 + 8 by omega]; exact HO.out, HB.out⟩
          case measure => simp [intOf]; omega
    · obtain rfl : k = 3 := by omega
      rw [show elsTo e0 e1 e2 (3 * 8) = L from HL.out] at HO
      have hsz := els_sz _ HLL.out
      go_wp2_with (first | (refine wpList_load_row rfl 72 (.tmp 2) rfl (w.heap.size + 1) rfl _ (bvA L) (0, 0) _ HO.out Tryd.underlying72 rfl hsz ?_) | (refine wpList_storeA rfl 72 (.tmp 2) (.tmp 27) rfl (w.heap.size + 1) (bvA L) rfl rfl _ _ HO.out hsz rfl (bvA_one _) ?_))
      intro w4 h4 hg4
      go_wp2_with fail
      refine bodyPost_ret (v := .agg (bvA L)) ?_ rfl ⟨rfl, grown_below HB.out hg4 (by omega) HB.out.size⟩
      exact results_cell_row rfl _ _ (w.heap.size + 1) 72 _ (0, 0) _ rfl h4 Tryd.underlying72 rfl hsz
end Go.Proofs.YtpnemdhbdncknaaDoor
