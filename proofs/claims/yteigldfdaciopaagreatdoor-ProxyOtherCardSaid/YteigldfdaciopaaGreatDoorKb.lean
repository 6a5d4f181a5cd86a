/-
  Blocks that hold cells or keys; keys compared; results of several parts; empty slices.
-/
import Derived.Test.YteigldfdaciopaaGreatDoorPkC
import Derived.Test.YteigldfdaciopaaGreatDoorPkE
import Derived.Test.YteigldfdaciopaaGreatDoorSs
import Derived.Laws.ResultCell
namespace Go.Proofs.YteigldfdaciopaaGreatDoor
open Go.RowKit
set_option linter.unusedVariables false
set_option linter.unusedSimpArgs false

/-- Block g holds these cells. -/
def CB (w : World) (g : Nat) (T : TypeId) (cs : Array Value) : Prop := w.heap[g]? = some (.cells cs T (0, 0))
theorem CB.new (w : World) (T : TypeId) (cs : Array Value) : CB (w.alloc (.cells cs T)) w.heap.size T cs := heap_alloc_new w _
theorem CB.lt {w : World} {g : Nat} {T : TypeId} {cs : Array Value} (h : CB w g T cs) : g < w.heap.size := (Array.getElem?_eq_some_iff.1 h).1
theorem CB.below {B : Nat} {w w' : World} {g : Nat} {T : TypeId} {cs : Array Value} (h : CB w g T cs) (hb : Below B w w') (hg : g < B) : CB w' g T cs := (hb.block g hg).trans h
theorem CB.call {w w' : World} {g : Nat} {T : TypeId} {cs : Array Value} (h : CB w g T cs) (hb : Below w.heap.size w w') : CB w' g T cs := h.below hb h.lt
theorem CB.alloc {w : World} {g : Nat} {T : TypeId} {cs : Array Value} (h : CB w g T cs) (o : Obj) : CB (w.alloc o) g T cs := (Below.heap_alloc w o g h.lt).trans h
theorem CB.drew {w : World} {g : Nat} {T : TypeId} {cs : Array Value} (h : CB w g T cs) : CB w.drew g T cs := h
theorem CB.cell {w : World} {g : Nat} {T : TypeId} {cs : Array Value} (h : CB w g T cs) (i : Nat) : w.cell? ⟨g, i, none⟩ = cs[i]? := cell_of_row w g i _ _ (0, 0) h
theorem CB.frozen {w : World} {g : Nat} {T : TypeId} {cs : Array Value} (h : CB w g T cs) (i : Nat) : w.frozen? ⟨g, i, none⟩ = false := frozen_of_row w g i _ _ h
theorem CB.grown {w w' : World} {g R : Nat} {T : TypeId} {cs : Array Value} (h : CB w g T cs) (hg : w.grownBy w' (some R)) (hne : g ≠ R) : CB w' g T cs := (hg.block g h.lt (fun e => hne (by injection e))).trans h
theorem CB.set {w : World} {g : Nat} {T : TypeId} {cs : Array Value} (h : CB w g T cs) (i : Nat) (v : Value) : CB (w.setCell ⟨g, i, none⟩ v) g T (cs.setIfInBounds i v) := by
  unfold CB; rw [heap_setCell_same w g i _ _ _ h]
theorem CB.range2 {w : World} {g : Nat} {T : TypeId} {x y : Value} (h : CB w g T #[x, y]) : w.rangeAt g 0 [x, y] := by
  intro j v hv
  match j, hv with
  | 0, hv => injection hv with hv; subst hv; exact h.cell 0
  | 1, hv => injection hv with hv; subst hv; exact h.cell 1
theorem CB.setO {w : World} {g g' : Nat} {T : TypeId} {cs : Array Value} (h : CB w g T cs) (hne : g ≠ g') (i : Nat) (v : Value) : CB (w.setCell ⟨g', i, none⟩ v) g T cs := (heap_setCell_other w ⟨g', i, none⟩ g v hne).trans h
theorem results_row_cell {P : Program} {fn : Func} {p q : Tmp} {ty tq : TypeId} (h : fn.results = #[.cell p ty, .cell q tq]) (tmps : Array Value) (w : World) (g g2 : Nat) (t : TypeId) (cs : Array Value) (fr : Nat × Nat) (d : TypeDesc)
    (hp : tmps.getD p undef = .pointer (some ⟨g, 0, none⟩)) (hg : w.heap[g]? = some (.cells cs t fr))
    (hu : P.underlying ty = some d) (hd : (match d with | .struct _ | .array _ _ => true | _ => false) = true) (hi : (P.info? ty).map (·.size) = some cs.size)
    (hq : tmps.getD q undef = .pointer (some ⟨g2, 0, none⟩)) (v : Value) (hv : (loadVar tq ⟨g2, 0, none⟩).run P w = .ok v w) :
    (results fn tmps).run P w = .ok (.tuple #[.agg cs, v]) w := by
  have hp' : tmps[p]?.getD undef = .pointer (some ⟨g, 0, none⟩) := by simpa using hp
  have hq' : tmps[q]?.getD undef = .pointer (some ⟨g2, 0, none⟩) := by simpa using hq
  simp [results, h, hp', hq', asAddr, run_loadVar_row w g t ty cs fr d hg hu hd hi, hv]
theorem load_errno (w : World) (g : Nat) (v : Value) (h : w.cell? ⟨g, 0, none⟩ = some v) : (loadVar 27 ⟨g, 0, none⟩).run Tryz.prog w = .ok v w := by
  go_simp
theorem CB.at {w : World} {n : Nat} (T : TypeId) (cs : Array Value) (h : w.heap.size = n) : CB (w.alloc (.cells cs T)) n T cs := h ▸ CB.new w T cs
theorem results_cell_row_tmp {P : Program} {fn : Func} {p u : Tmp} {ty : TypeId} (h : fn.results = #[.cell p ty, .tmp u]) (tmps : Array Value) (w : World) (g : Nat) (t : TypeId) (cs : Array Value) (fr : Nat × Nat) (d : TypeDesc)
    (hp : tmps.getD p undef = .pointer (some ⟨g, 0, none⟩)) (hg : w.heap[g]? = some (.cells cs t fr))
    (hu : P.underlying ty = some d) (hd : (match d with | .struct _ | .array _ _ => true | _ => false) = true) (hi : (P.info? ty).map (·.size) = some cs.size) (v : Value) (hv : tmps.getD u undef = v) :
    (results fn tmps).run P w = .ok (.tuple #[.agg cs, v]) w := by
  have hp' : tmps[p]?.getD undef = .pointer (some ⟨g, 0, none⟩) := by simpa using hp
  have hv' : tmps[u]?.getD undef = v := by simpa using hv
  simp [results, h, hp', hv', asAddr, run_loadVar_row w g t ty cs fr d hg hu hd hi]
theorem key_und : Tryz.prog.underlying 23 = some (.array 32 5) := Tryz.underlying23
theorem key_sz (m : List UInt8) (h : m.length = 32) : (Tryz.prog.info? 23).map (·.size) = some (bvA m).size := by rw [bvA_size, h]; kernel_rfl
theorem key_old (m : List UInt8) (h : m.length = 32) : (bvA (List.replicate 32 0)).size = (bvA m).size := by rw [bvA_size, bvA_size, h, List.length_replicate]
set_option maxRecDepth 100000 in
theorem equal_key (a b : List UInt8) (ha : a.length = 32) (hb : b.length = 32) (w : World) : (Op.equalIn 10000 23 (.agg (bvA a)) (.agg (bvA b))).run Tryz.prog w = .ok (deq a b) w := by
  obtain ⟨i0, hi0, hz0, hz1, hz2⟩ := info_parts byteInfo
  have h := run_equalIn_array (P := Tryz.prog) w 9999 (bvA a) (bvA b) Tryz.underlying23 hi0
  have hc : Tryz.prog.cellsOf 5 = 1 := by kernel_rfl
  rw [hc, eqItems_bv 9998 a b w _ (fun i hi => by rw [List.mem_range] at hi; omega)] at h
  refine h.trans ?_
  congr 1
  unfold deq
  rw [Bool.eq_iff_iff, List.all_eq_true, beq_iff_eq]
  constructor
  · intro hall
    apply List.ext_getElem (by omega)
    intro i h1 h2
    have := hall i (by rw [List.mem_range]; omega)
    simpa [List.getD, h1, h2] using this
  · rintro rfl i hi
    simp
/-- Two keys that are equal. -/
theorem equal_keyS (a : List UInt8) (ha : a.length = 32) (w : World) : (Op.equalIn 10000 23 (.agg (bvA a)) (.agg (bvA a))).run Tryz.prog w = .ok true w := by
  rw [equal_key a a ha ha, deq_self]
theorem run_eqK {o : Oper} {a : Act} {w : World} (x y : Operand) (U V : Array Value) (b : Bool) (ho : o.op = .binOp .eql 23 x y 23) (hx : a.eval x = .agg U) (hy : a.eval y = .agg V)
    (h : (Op.equalIn 10000 23 (.agg U) (.agg V)).run Tryz.prog w = .ok b w) : (execOp a.eval o).run Tryz.prog w = .ok (.value (.bool b)) w := by
  unfold execOp
  simp only [ho, hx, hy]
  go_simp
theorem run_neK {o : Oper} {a : Act} {w : World} (x y : Operand) (U V : Array Value) (b : Bool) (ho : o.op = .binOp .neq 23 x y 23) (hx : a.eval x = .agg U) (hy : a.eval y = .agg V)
    (h : (Op.equalIn 10000 23 (.agg U) (.agg V)).run Tryz.prog w = .ok b w) : (execOp a.eval o).run Tryz.prog w = .ok (.value (.bool !b)) w := by
  unfold execOp
  simp only [ho, hx, hy]
  go_simp
/-- Blocks that hold keys; what lay there before is as it was. -/
structure KB (w0 : World) (l : List (Nat × List UInt8)) (w : World) : Prop where
  below : Below w0.heap.size w0 w
  keys : ∀ p ∈ l, BB w p.1 23 p.2 ∧ p.2.length = 32
theorem KB.start (w : World) : KB w [] w := ⟨Below.refl _ _, fun _ h => by cases h⟩
theorem KB.call {w0 w w' : World} {l : List (Nat × List UInt8)} (h : KB w0 l w) (hb : Below w.heap.size w w') : KB w0 l w' :=
  ⟨h.below.trans (hb.mono h.below.size), fun p hp => ⟨(h.keys p hp).1.below hb (h.keys p hp).1.lt, (h.keys p hp).2⟩⟩
theorem KB.key {w0 w : World} {l : List (Nat × List UInt8)} (h : KB w0 l w) (g : Nat) (K : List UInt8) (hm : (g, K) ∈ l) : BB w g 23 K := (h.keys _ hm).1
theorem KB.add {w0 w w' : World} {l : List (Nat × List UInt8)} (h : KB w0 l w) (K : List UInt8) (hK : K.length = 32) (h1 : w'.heap[w.heap.size]? = some (.cells (bvA K) 23 (0, 0))) (hg : (w.alloc (.cells (bvA (List.replicate 32 0)) 23)).grownBy w' (some w.heap.size)) : KB w0 ((w.heap.size, K) :: l) w' := by
  have hb : Below w.heap.size w w' := grown_below ((Below.refl _ _).alloc (Nat.le_refl _) _) hg (Nat.le_refl _) (by simp)
  have h2 := h.call hb
  refine ⟨h2.below, fun p hp => ?_⟩
  rcases List.mem_cons.1 hp with rfl | hp
  · exact ⟨h1, hK⟩
  · exact h2.keys p hp
theorem KB.box {w0 w : World} {l : List (Nat × List UInt8)} (h : KB w0 l w) (K : List UInt8) (hK : K.length = 32) : KB w0 ((w.heap.size, K) :: l) (w.alloc (.cells (bvA K) 23)) := by
  have h2 := h.call ((Below.refl _ _).alloc (Nat.le_refl _) (.cells (bvA K) 23))
  refine ⟨h2.below, fun p hp => ?_⟩
  rcases List.mem_cons.1 hp with rfl | hp
  · exact ⟨BB.new w _ _, hK⟩
  · exact h2.keys p hp
/-- A guarded load of a long array. -/
theorem wpList_load_rowG {P : Program} {ops : Array Oper} {rest : List Oper} {o : Oper} {a : Act} {w : World} {Q : Exit → Act → World → Prop} (hw : Region.wanted o (yielded ops a.tmps) = true) (ty : TypeId) (x : Operand) (ho : o.op = .load ty x)
    (g : Nat) (hx : a.eval x = .pointer (some ⟨g, 0, none⟩)) (t : TypeId) (cs : Array Value) (fr : Nat × Nat) (d : TypeDesc) (hg : w.heap[g]? = some (.cells cs t fr))
    (hu : P.underlying ty = some d) (hd : (match d with | .struct _ | .array _ _ => true | _ => false) = true) (hi : (P.info? ty).map (·.size) = some cs.size)
    (h : wpList P ops Q rest (a.put o.dst (.agg cs)) w) : wpList P ops Q (o :: rest) a w := by
  refine wpList_step fun K hK => ?_
  rw [if_pos hw]
  exact wp_load_row ty x ho g hx t cs fr d hg hu hd hi (hK _ _ h)
theorem key_szl (k : List UInt8) (hk : k.length = 32) : (Tryz.prog.info? 23).map (·.size) = some (k.map bv).length := by rw [List.length_map, hk]; kernel_rfl
/-- []byte{}: a new block that owns nothing. -/
theorem OwnB.empty1 {B : Nat} {w : World} (g : Nat) (hg : g = w.heap.size) (hB : B ≤ w.heap.size) : OwnB B (w.alloc (.cells #[] 5)) (.slice (some ⟨g, 0, none⟩) 0 0) [] :=
  hg ▸ World.ownsRow_made w #[] 0 hB (Nat.zero_le _) rfl
theorem OwnB.empty0 {B : Nat} {w : World} (hB : B ≤ w.heap.size) : OwnB B (w.alloc (.cells #[] 5)) (.slice (some ⟨w.heap.size, 0, none⟩) 0 0) [] :=
  World.ownsRow_made w #[] 0 hB (Nat.zero_le _) rfl
/-- []byte{}: at a step of a drawn region. -/
theorem wp_nil0 {o : Oper} {a : Act} {w : World} {K : Act → World → Prop} {Q : Exit → Act → World → Prop} (ho : o.op = .buildSlice 66 0 #[])
    (h : ∀ w' g, OwnB w.heap.size w' (.slice (some ⟨g, 0, none⟩) 0 0) [] → g = w.heap.size → Below w.heap.size w w' → K (a.put o.dst (.slice (some ⟨g, 0, none⟩) 0 0)) w') : o.wp Tryz.prog a w K Q := by
  have hh := h _ _ (OwnB.empty1 _ rfl (Nat.le_refl _)) rfl ((Below.refl _ _).alloc (Nat.le_refl _) _)
  unfold Oper.wp execOp
  have hr : (Instr.buildSlice 66 0 #[]).run Tryz.prog w = .ok (.slice (some ⟨w.heap.size, 0, none⟩) 0 0) (w.alloc (.cells #[] 5)) := by kernel_rfl
  simp only [ho, Sem.run_bind, Sem.run_pure, Result.andThen_ok, Array.map_empty, List.map_toArray, List.map_nil, hr]
  exact hh
theorem nil_cap {B : Nat} {w : World} {a : Option Addr} {n cap : Nat} {l : List UInt8} (h : OwnB B w (.slice a n cap) l) : a = none → cap = 0 := by
  obtain ⟨a', c', e, hc, _⟩ := h.form
  cases e
  rcases hc with ⟨_, e, _⟩ | ⟨g, e, _⟩
  · exact fun _ => e
  · intro e2; rw [e] at e2; cases e2
theorem BB.rdBm {w : World} {g : Nat} {T : TypeId} {l : List UInt8} (h : BB w g T l) (hl : l.length = 32) : RdB w.heap.size w (some ⟨g, 0, none⟩) l := h.rdB (by rw [hl]; unfold maxLen; omega)
/-- Block g begins with the numbers ns. -/
def RdN (w : World) (g : Nat) (ns : List Int) : Prop := g < w.heap.size ∧ ∀ j (h : j < ns.length), w.cell? ⟨g, j, none⟩ = some (.int .i64 ns[j])
theorem RdN.below {B : Nat} {w w' : World} {g : Nat} {ns : List Int} (h : RdN w g ns) (hb : Below B w w') (hg : g < B) : RdN w' g ns :=
  ⟨Nat.lt_of_lt_of_le h.1 hb.size, fun j hj => (hb.cell (p := ⟨g, j, none⟩) hg).trans (h.2 j hj)⟩
/-- The bytes of numbers. -/
def catB (ns : List Int) : List UInt8 := (ns.map be8).flatten
theorem catB_len : ∀ ns : List Int, (catB ns).length = 8 * ns.length
  | [] => rfl
  | n :: ns => by
    have h := catB_len ns
    unfold catB at *
    rw [List.map_cons, List.flatten_cons, List.length_append, h, be8_len, List.length_cons]; omega
theorem catB_take (ns : List Int) (k : Nat) (h : k < ns.length) : catB (ns.take (k + 1)) = catB (ns.take k) ++ be8 ns[k] := by
  unfold catB
  rw [List.take_succ_eq_append_getElem h, List.map_append, List.flatten_append]
  simp
theorem two_cells {w : World} {a b : Int} : RdN (w.alloc (.cells #[.int .i64 a, .int .i64 b] 3)) w.heap.size [a, b] := by
  refine ⟨by simp, fun j hj => ?_⟩
  rw [cell_of_row _ _ _ _ _ _ (heap_alloc_new w _)]
  match j, hj with
  | 0, _ => rfl
  | 1, _ => rfl
theorem one_cell {w : World} {a : Int} : RdN (w.alloc (.cells #[.int .i64 a] 3)) w.heap.size [a] := by
  refine ⟨by simp, fun j hj => ?_⟩
  rw [cell_of_row _ _ _ _ _ _ (heap_alloc_new w _)]
  match j, hj with
  | 0, _ => rfl
theorem bv_byN (n : Int) (k : Nat) : Value.int .u8 (n / 2 ^ (56 - 8 * k) % 256) = bv (byN n k) := by unfold bv; rw [byN_nat]
end Go.Proofs.YteigldfdaciopaaGreatDoor
