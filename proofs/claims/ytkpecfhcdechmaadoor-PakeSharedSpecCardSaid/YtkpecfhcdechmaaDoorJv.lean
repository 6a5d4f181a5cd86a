/-
  A slice of three digests.
-/
import Derived.Test.YtkpecfhcdechmaaDoorKb
import Derived.Test.YtkpecfhcdechmaaDoorPkC
namespace Go.Proofs.YtkpecfhcdechmaaDoor
open Go.RowKit
set_option linter.unusedVariables false
set_option linter.unusedSimpArgs false

theorem size_fold (off : Nat) : ∀ (l : List (Value × Nat)) (acc : Array Value), (l.foldl (fun cs (x : Value × Nat) => cs.setIfInBounds (off + x.2) x.1) acc).size = acc.size
  | [], _ => rfl
  | x :: l, acc => by rw [List.foldl_cons, size_fold off l, Array.size_setIfInBounds]
def putAt (off : Nat) (cs base : Array Value) : Array Value := cs.zipIdx.foldl (fun a (x : Value × Nat) => a.setIfInBounds (off + x.2) x.1) base
theorem size_putAt (off : Nat) (cs base : Array Value) : (putAt off cs base).size = base.size := by
  unfold putAt
  rw [← Array.foldl_toList, size_fold]
theorem get_putAt (off : Nat) (cs base : Array Value) (i : Nat) (h : off + cs.size ≤ base.size) : (putAt off cs base)[i]? = if off ≤ i ∧ i < off + cs.size then cs[i - off]? else base[i]? := by
  unfold putAt
  rw [← Array.foldl_toList, Array.toList_zipIdx, fold_get off cs.toList 0 base i (by rw [Array.length_toList]; omega)]
  simp only [Nat.add_zero, Array.length_toList, Array.getElem?_toList]
theorem fill_step (place : Nat → Option (Nat × Nat)) (base cs : Array Value) (i off : Nat) (rest : List (Nat × Value)) (hp : place i = some (off, cs.size)) (hs : off + cs.size ≤ base.size) : Instr.fill place base ((i, .agg cs) :: rest) = Instr.fill place (putAt off cs base) rest := by
  have h0 : ¬ (((Value.agg cs).cells.size ≠ cs.size || decide (off + (Value.agg cs).cells.size > base.size)) = true) := by
    show ¬ ((cs.size ≠ cs.size || decide (off + cs.size > base.size)) = true)
    simp; omega
  simp only [Instr.fill, hp]
  rw [if_neg h0]
  rfl
theorem fill3 (place : Nat → Option (Nat × Nat)) (base c0 c1 c2 : Array Value) (hp : ∀ i, place i = some (i * 32, 32)) (h0 : c0.size = 32) (h1 : c1.size = 32) (h2 : c2.size = 32) (hb : base.size = 96) :
    Instr.fill place base [(0, .agg c0), (1, .agg c1), (2, .agg c2)] = some (c0 ++ c1 ++ c2) := by
  rw [fill_step place base c0 0 0 _ (by rw [hp, h0]) (by omega), fill_step place _ c1 1 32 _ (by rw [hp, h1]) (by rw [size_putAt]; omega), fill_step place _ c2 2 64 _ (by rw [hp, h2]) (by rw [size_putAt, size_putAt]; omega)]
  simp only [Instr.fill]
  congr 1
  apply Array.ext_getElem?
  intro i
  rw [get_putAt _ _ _ _ (by rw [size_putAt, size_putAt]; omega), get_putAt _ _ _ _ (by rw [size_putAt]; omega), get_putAt _ _ _ _ (by omega), h0, h1, h2]
  rw [Array.getElem?_append, Array.size_append, h0, h1, Array.getElem?_append, h0]
  by_cases a1 : i < 32
  · rw [if_neg (by omega), if_neg (by omega), if_pos (by omega), if_pos (by omega), if_pos (by omega)]; rfl
  · by_cases a2 : i < 64
    · rw [if_neg (by omega), if_pos (by omega), if_pos (by omega), if_neg (by omega)]
    · by_cases a3 : i < 96
      · rw [if_pos (by omega), if_neg (by omega)]
      · rw [if_neg (by omega), if_neg (by omega), if_neg (by omega), if_neg (by omega), Array.getElem?_eq_none (by omega), Array.getElem?_eq_none (by omega)]
theorem bvA_app (a b : List UInt8) : bvA (a ++ b) = bvA a ++ bvA b := by unfold bvA; simp
/-- []Digest{d0, d1, d2}. -/
theorem wpList_build3 {ops : Array Oper} {rest : List Oper} {o : Oper} {a : Act} {w : World} {Q : Exit → Act → World → Prop} (hgd : o.guard = none) (x y z : Operand) (ho : o.op = .buildSlice 39 3 #[(0, x), (1, y), (2, z)])
    (d0 d1 d2 : List UInt8) (h0 : d0.length = 32) (h1 : d1.length = 32) (h2 : d2.length = 32) (hx : a.eval x = .agg (bvA d0)) (hy : a.eval y = .agg (bvA d1)) (hz : a.eval z = .agg (bvA d2))
    (h : wpList Tryd.prog ops Q rest (a.put o.dst (.slice (some ⟨w.heap.size, 0, none⟩) 3 3)) (w.alloc (.cells (bvA (d0 ++ d1 ++ d2)) 31))) : wpList Tryd.prog ops Q (o :: rest) a w := by
  refine wpList_plain hgd fun K hK => ?_
  obtain ⟨i0, hi, hz0, hz1, hz2⟩ := info_parts digInfo
  have s0 : (bvA d0).size = 32 := by rw [bvA_size, h0]
  have s1 : (bvA d1).size = 32 := by rw [bvA_size, h1]
  have s2 : (bvA d2).size = 32 := by rw [bvA_size, h2]
  refine wp_buildSlice 39 31 3 #[(0, x), (1, y), (2, z)] ho (bvA (d0 ++ d1 ++ d2)) i0 _ Tryd.underlying39 hi hz0 (by rw [hz1]; decide) (by rw [hz1]; decide) ?_ (hK _ _ h)
  have e : (#[((0 : Nat), x), (1, y), (2, z)].map fun (i, x) => (i, a.eval x)).toList = [(0, .agg (bvA d0)), (1, .agg (bvA d1)), (2, .agg (bvA d2))] := by simp [hx, hy, hz]
  rw [e, bvA_app, bvA_app]
  exact fill3 _ _ _ _ _ (fun i => by simp [hz1]) s0 s1 s2 (by simp [hz1])
def nth3 (d0 d1 d2 : List UInt8) (k : Nat) : List UInt8 := if k = 0 then d0 else if k = 1 then d1 else d2
theorem nth3_len {d0 d1 d2 : List UInt8} (h0 : d0.length = 32) (h1 : d1.length = 32) (h2 : d2.length = 32) (k : Nat) : (nth3 d0 d1 d2 k).length = 32 := by
  unfold nth3
  split
  · exact h0
  · split
    · exact h1
    · exact h2
theorem BB.part {w : World} {g : Nat} {T : TypeId} {d0 d1 d2 : List UInt8} (h : BB w g T (d0 ++ d1 ++ d2)) (h0 : d0.length = 32) (h1 : d1.length = 32) (h2 : d2.length = 32) (k : Nat) (hk : k < 3) : w.rangeAt g (k * 32) ((nth3 d0 d1 d2 k).map bv) := by
  intro j v hv
  have hl := nth3_len h0 h1 h2 k
  have hj : j < 32 := by
    have := (List.getElem?_eq_some_iff.1 hv).1
    rw [List.length_map, hl] at this
    exact this
  rw [List.getElem?_map, List.getElem?_eq_getElem (by omega)] at hv
  injection hv with hv
  rw [← hv, h.cell (k * 32 + j) (by simp; omega)]
  congr 2
  obtain rfl | rfl | rfl : k = 0 ∨ k = 1 ∨ k = 2 := by omega
  · simp only [nth3, if_pos]
    rw [List.getElem_append_left (by simp; omega), List.getElem_append_left (by omega)]
    congr 1; omega
  · simp only [nth3]
    rw [List.getElem_append_left (by simp; omega), List.getElem_append_right (by omega)]
    simp [h0]
  · simp only [nth3]
    rw [List.getElem_append_right (by simp; omega)]
    simp [h0, h1]
theorem BB.partD {w : World} {g : Nat} {T : TypeId} {d0 d1 d2 DD : List UInt8} (h : BB w g T DD) (hD : d0 ++ d1 ++ d2 = DD) (h0 : d0.length = 32) (h1 : d1.length = 32) (h2 : d2.length = 32) (k : Nat) (hk : k < 3) : w.rangeAt g (k * 32) ((nth3 d0 d1 d2 k).map bv) := by
  subst hD
  exact h.part h0 h1 h2 k hk
theorem wpList_build3D {ops : Array Oper} {rest : List Oper} {o : Oper} {a : Act} {w : World} {Q : Exit → Act → World → Prop} (hgd : o.guard = none) (x y z : Operand) (ho : o.op = .buildSlice 39 3 #[(0, x), (1, y), (2, z)])
    (d0 d1 d2 DD : List UInt8) (hD : d0 ++ d1 ++ d2 = DD) (h0 : d0.length = 32) (h1 : d1.length = 32) (h2 : d2.length = 32) (hx : a.eval x = .agg (bvA d0)) (hy : a.eval y = .agg (bvA d1)) (hz : a.eval z = .agg (bvA d2))
    (h : wpList Tryd.prog ops Q rest (a.put o.dst (.slice (some ⟨w.heap.size, 0, none⟩) 3 3)) (w.alloc (.cells (bvA DD) 31))) : wpList Tryd.prog ops Q (o :: rest) a w := by
  subst hD
  exact wpList_build3 hgd x y z ho d0 d1 d2 h0 h1 h2 hx hy hz h
end Go.Proofs.YtkpecfhcdechmaaDoor
