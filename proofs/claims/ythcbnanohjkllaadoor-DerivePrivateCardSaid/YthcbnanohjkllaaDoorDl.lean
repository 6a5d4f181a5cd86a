/-
  Variables that hold keys; keys compared.
-/
import Derived.Test.YthcbnanohjkllaaDoorDk
import Derived.Test.YthcbnanohjkllaaDoorPkC
namespace Go.Proofs.YthcbnanohjkllaaDoor
open Go.RowKit
set_option linter.unusedVariables false
set_option linter.unusedSimpArgs false

set_option maxRecDepth 100000 in
theorem equal_key (a b : List UInt8) (ha : a.length = 32) (hb : b.length = 32) (w : World) : (Op.equalIn 10000 24 (.agg (bvA a)) (.agg (bvA b))).run Tryd.prog w = .ok (deq a b) w := by
  obtain ⟨i0, hi0, hz0, hz1, hz2⟩ := info_parts byteInfo
  have h := run_equalIn_array (P := Tryd.prog) w 9999 (bvA a) (bvA b) Tryd.underlying24 hi0
  have hc : Tryd.prog.cellsOf 5 = 1 := by kernel_rfl
  rw [hc, eqItems_bv 9998 a b w _ (fun i hi => by rw [List.mem_range] at hi; omega)] at h
  refine h.trans ?_
  congr 1
  unfold deq
  rw [Bool.eq_iff_iff, List.all_eq_true, beq_iff_eq]
  constructor
  · intro hall
    apply List.ext_getElem (by omega)
    intro i h1 h2
    have := hall i (by rw [List.mem_range]; omega)
    simpa [List.getD, h1, h2] using this
  · rintro rfl i hi
    simp
/-- Two keys that are equal. -/
theorem equal_keyS (a : List UInt8) (ha : a.length = 32) (w : World) : (Op.equalIn 10000 24 (.agg (bvA a)) (.agg (bvA a))).run Tryd.prog w = .ok true w := by
  rw [equal_key a a ha ha, deq_self]

theorem run_eqK {o : Oper} {a : Act} {w : World} (x y : Operand) (U V : Array Value) (b : Bool) (ho : o.op = .binOp .eql 24 x y 24) (hx : a.eval x = .agg U) (hy : a.eval y = .agg V)
    (h : (Op.equalIn 10000 24 (.agg U) (.agg V)).run Tryd.prog w = .ok b w) : (execOp a.eval o).run Tryd.prog w = .ok (.value (.bool b)) w := by
  unfold execOp
  simp only [ho, hx, hy]
  go_simp
theorem run_neK {o : Oper} {a : Act} {w : World} (x y : Operand) (U V : Array Value) (b : Bool) (ho : o.op = .binOp .neq 24 x y 24) (hx : a.eval x = .agg U) (hy : a.eval y = .agg V)
    (h : (Op.equalIn 10000 24 (.agg U) (.agg V)).run Tryd.prog w = .ok b w) : (execOp a.eval o).run Tryd.prog w = .ok (.value (.bool !b)) w := by
  unfold execOp
  simp only [ho, hx, hy]
  go_simp

/-- Blocks that hold keys; what lay there before is as it was. -/
structure KB (w0 : World) (l : List (Nat × List UInt8)) (w : World) : Prop where
  below : Below w0.heap.size w0 w
  keys : ∀ p ∈ l, BB w p.1 24 p.2 ∧ p.2.length = 32
theorem KB.start (w : World) : KB w [] w := ⟨Below.refl _ _, fun _ h => by cases h⟩
theorem KB.call {w0 w w' : World} {l : List (Nat × List UInt8)} (h : KB w0 l w) (hb : Below w.heap.size w w') : KB w0 l w' :=
  ⟨h.below.trans (hb.mono h.below.size), fun p hp => ⟨(h.keys p hp).1.below hb (h.keys p hp).1.lt, (h.keys p hp).2⟩⟩
theorem KB.key {w0 w : World} {l : List (Nat × List UInt8)} (h : KB w0 l w) (g : Nat) (K : List UInt8) (hm : (g, K) ∈ l) : BB w g 24 K := (h.keys _ hm).1
theorem KB.add {w0 w w' : World} {l : List (Nat × List UInt8)} (h : KB w0 l w) (K : List UInt8) (hK : K.length = 32) (h1 : w'.heap[w.heap.size]? = some (.cells (bvA K) 24 (0, 0))) (hg : (w.alloc (.cells (bvA (List.replicate 32 0)) 24)).grownBy w' (some w.heap.size)) : KB w0 ((w.heap.size, K) :: l) w' := by
  have hb : Below w.heap.size w w' := grown_below ((Below.refl _ _).alloc (Nat.le_refl _) _) hg (Nat.le_refl _) (by simp)
  have h2 := h.call hb
  refine ⟨h2.below, fun p hp => ?_⟩
  rcases List.mem_cons.1 hp with rfl | hp
  · exact ⟨h1, hK⟩
  · exact h2.keys p hp
theorem KB.box {w0 w : World} {l : List (Nat × List UInt8)} (h : KB w0 l w) (K : List UInt8) (hK : K.length = 32) : KB w0 ((w.heap.size, K) :: l) (w.alloc (.cells (bvA K) 24)) := by
  have h2 := h.call ((Below.refl _ _).alloc (Nat.le_refl _) (.cells (bvA K) 24))
  refine ⟨h2.below, fun p hp => ?_⟩
  rcases List.mem_cons.1 hp with rfl | hp
  · exact ⟨BB.new w _ _, hK⟩
  · exact h2.keys p hp
/-- A guarded load of a long array. -/
theorem wpList_load_rowG {P : Program} {ops : Array Oper} {rest : List Oper} {o : Oper} {a : Act} {w : World} {Q : Exit → Act → World → Prop} (hw : Region.wanted o (yielded ops a.tmps) = true) (ty : TypeId) (x : Operand) (ho : o.op = .load ty x)
    (g : Nat) (hx : a.eval x = .pointer (some ⟨g, 0, none⟩)) (t : TypeId) (cs : Array Value) (fr : Nat × Nat) (d : TypeDesc) (hg : w.heap[g]? = some (.cells cs t fr))
    (hu : P.underlying ty = some d) (hd : (match d with | .struct _ | .array _ _ => true | _ => false) = true) (hi : (P.info? ty).map (·.size) = some cs.size)
    (h : wpList P ops Q rest (a.put o.dst (.agg cs)) w) : wpList P ops Q (o :: rest) a w := by
  refine wpList_step fun K hK => ?_
  rw [if_pos hw]
  exact wp_load_row ty x ho g hx t cs fr d hg hu hd hi (hK _ _ h)
theorem key_szl (k : List UInt8) (hk : k.length = 32) : (Tryd.prog.info? 24).map (·.size) = some (k.map bv).length := by rw [List.length_map, hk]; kernel_rfl
theorem OV.oneRep {w : World} (s : ByteArray) (hs : s.size ≤ maxLen) : RepS (w.alloc (.cells #[.int .i64 2, .int .i64 0, .string s, .slice none 0 0] 40)).heap.size (w.alloc (.cells #[.int .i64 2, .int .i64 0, .string s, .slice none 0 0] 40)) (some ⟨w.heap.size, 0, none⟩) 1 (kidsS s []) := by
  obtain ⟨a, cap, e, h⟩ := (OV.one (B := w.heap.size) (w := w) s hs (Nat.le_refl _)).rep
  cases e
  exact h
end Go.Proofs.YthcbnanohjkllaaDoor
