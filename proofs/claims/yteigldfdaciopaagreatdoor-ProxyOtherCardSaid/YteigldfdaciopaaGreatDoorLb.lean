/-
  Capsules in memory: their cells, built, compared; the pad.
-/
import Derived.Test.YteigldfdaciopaaGreatDoorLa
import Derived.Test.YteigldfdaciopaaGreatDoorKc
import Derived.Laws.StructEq
import Derived.Deep.MidRow
namespace Go.Proofs.YteigldfdaciopaaGreatDoor
open Go.RowKit
set_option linter.unusedVariables false
set_option linter.unusedSimpArgs false

def kZ : List UInt8 := List.replicate 32 0
theorem kZ_len : kZ.length = 32 := by simp [kZ]
/-- The cells of a capsule. -/
def capA (a b : Int) (l : List UInt8) : Array Value := (Value.int .i64 a :: Value.int .i64 b :: l.map bv).toArray
theorem capA_size (a b : Int) (l : List UInt8) : (capA a b l).size = l.length + 2 := by simp [capA]
theorem capA_one (a b : Int) (l : List UInt8) : (capA a b l).all (·.oneCell') = true := by
  have h := bvA_one l
  unfold bvA at h
  simp only [capA, List.all_toArray, List.all_cons] at h ⊢
  rw [h]; rfl
theorem cap_und : Tryz.prog.underlying 25 = some (.struct (Tryz.prog.fieldsOf 25)) := by kernel_rfl
theorem cap_stood : Tryz.prog.stoodInHeld 25 = false := by kernel_rfl
theorem cap_sz (a b : Int) (l : List UInt8) (h : l.length = 32) : (Tryz.prog.info? 25).map (·.size) = some (capA a b l).size := by rw [capA_size, h]; kernel_rfl
theorem cap_old (a b c d : Int) (l m : List UInt8) (h : l.length = 32) (h2 : m.length = 32) : (capA a b l).size = (capA c d m).size := by rw [capA_size, capA_size, h, h2]
theorem capA_get0 (a b : Int) (l : List UInt8) : (capA a b l)[0]? = some (.int .i64 a) := by simp [capA]
theorem capA_get1 (a b : Int) (l : List UInt8) : (capA a b l)[1]? = some (.int .i64 b) := by simp [capA]
theorem capA_pad (a b : Int) (l : List UInt8) (h : l.length = 32) : (capA a b l).extract 2 34 = bvA l := by
  unfold capA bvA
  apply Array.ext'
  simp only [List.extract_toArray]
  simp [List.extract, h, List.take_of_length_le]
theorem CB.pad {w : World} {g : Nat} {T : TypeId} {a b : Int} {l : List UInt8} (h : CB w g T (capA a b l)) : w.rangeAt g 2 (l.map bv) := by
  intro j v hv
  rw [h.cell (2 + j), capA]
  rw [List.getElem?_toArray, show 2 + j = j + 1 + 1 by omega, List.getElem?_cons_succ, List.getElem?_cons_succ]
  exact hv
theorem CB.A {w : World} {g : Nat} {T : TypeId} {a b : Int} {l : List UInt8} (h : CB w g T (capA a b l)) : w.cell? ⟨g, 0, none⟩ = some (.int .i64 a) := (h.cell 0).trans (capA_get0 a b l)
theorem CB.B {w : World} {g : Nat} {T : TypeId} {a b : Int} {l : List UInt8} (h : CB w g T (capA a b l)) : w.cell? ⟨g, 1, none⟩ = some (.int .i64 b) := (h.cell 1).trans (capA_get1 a b l)
set_option maxRecDepth 100000 in
theorem built_cap (a b : Int) : ∀ (l : List UInt8), l.length = 32 → Tryz.prog.built 25 [(0, .int .i64 a), (1, .int .i64 b), (2, .agg (bvA l))] = some (capA a b l)
  | [x0, x1, x2, x3, x4, x5, x6, x7, x8, x9, x10, x11, x12, x13, x14, x15, x16, x17, x18, x19, x20, x21, x22, x23, x24, x25, x26, x27, x28, x29, x30, x31], _ => by kernel_rfl
set_option maxRecDepth 100000 in
theorem built_cap0 : Tryz.prog.built 25 [] = some (capA 0 0 kZ) := by kernel_rfl
set_option maxRecDepth 100000 in
/-- Keys compared, at any depth. -/
theorem equal_keyN (n : Nat) (a b : List UInt8) (ha : a.length = 32) (hb : b.length = 32) (w : World) : (Op.equalIn (n + 2) 23 (.agg (bvA a)) (.agg (bvA b))).run Tryz.prog w = .ok (deq a b) w := by
  obtain ⟨i0, hi0, hz0, hz1, hz2⟩ := info_parts byteInfo
  have h := run_equalIn_array (P := Tryz.prog) w (n + 1) (bvA a) (bvA b) Tryz.underlying23 hi0
  have hc : Tryz.prog.cellsOf 5 = 1 := by kernel_rfl
  rw [hc, eqItems_bv n a b w _ (fun i hi => by rw [List.mem_range] at hi; omega)] at h
  refine h.trans ?_
  congr 1
  unfold deq
  rw [Bool.eq_iff_iff, List.all_eq_true, beq_iff_eq]
  constructor
  · intro hall
    apply List.ext_getElem (by omega)
    intro i h1 h2
    have := hall i (by rw [List.mem_range]; omega)
    simpa [List.getD, h1, h2] using this
  · rintro rfl i hi
    simp
theorem cap_part0 (a b : Int) (l : List UInt8) (w : World) : (part 3 (capA a b l) 0).run Tryz.prog w = .ok (.int .i64 a) w := by
  simp [part, isAgg, run_underlying Tryz.underlying3, capA_get0]
theorem cap_part1 (a b : Int) (l : List UInt8) (w : World) : (part 3 (capA a b l) 1).run Tryz.prog w = .ok (.int .i64 b) w := by
  simp [part, isAgg, run_underlying Tryz.underlying3, capA_get1]
theorem cap_part2 (a b : Int) (l : List UInt8) (h : l.length = 32) (w : World) : (part 23 (capA a b l) 2).run Tryz.prog w = .ok (.agg (bvA l)) w := by
  have hs : (sizeOf 23).run Tryz.prog w = .ok 32 w := by kernel_rfl
  simp [part, isAgg, run_underlying key_und, hs, capA_pad a b l h]
def ceq (a b : Int) (l : List UInt8) (c d : Int) (m : List UInt8) : Bool := a == c && (b == d && deq l m)
theorem ceq_self (a b : Int) (l : List UInt8) : ceq a b l a b l = true := by simp [ceq, deq_self]
theorem equal_cap (a b c d : Int) (l m : List UInt8) (hl : l.length = 32) (hm : m.length = 32) (w : World) :
    (Op.equalIn 10000 25 (.agg (capA a b l)) (.agg (capA c d m))).run Tryz.prog w = .ok (ceq a b l c d m) w := by
  have h := run_equalIn_struct (P := Tryz.prog) w 9999 25 (capA a b l) (capA c d m) cap_und cap_stood
  refine h.trans ?_
  have hd : (Tryz.prog.fieldsOf 25).toList.map (fun f => (decide (f.name ≠ "_"), f.type, f.offset)) = [(true, 3, 0), (true, 3, 1), (true, 23, 2)] := by kernel_rfl
  generalize (Tryz.prog.fieldsOf 25).toList = fs at hd ⊢
  obtain ⟨f0, f1, f2, rfl⟩ : ∃ f0 f1 f2, fs = [f0, f1, f2] := by
    have hl := congrArg List.length hd
    simp only [List.length_map, List.length_cons, List.length_nil] at hl
    match fs, hl with
    | [f0, f1, f2], _ => exact ⟨f0, f1, f2, rfl⟩
  · simp only [List.map_cons, List.map_nil, List.cons.injEq, Prod.mk.injEq, decide_eq_true_eq, and_true] at hd
    obtain ⟨⟨n0, t0, o0⟩, ⟨n1, t1, o1⟩, ⟨n2, t2, o2⟩⟩ := hd
    have e0 : ∀ x y : Int, (Op.equalIn 9999 3 (.int .i64 x) (.int .i64 y)).run Tryz.prog w = .ok (x == y) w := fun x y => run_equalIn_int w 9998 3 .i64 .i64 x y Tryz.underlying3
    simp only [Op.eqFields, n0, n1, n2, t0, t1, t2, o0, o1, o2, ne_eq, not_false_eq_true, if_true, Sem.run_bind, cap_part0, cap_part1, cap_part2 _ _ _ hl, cap_part2 _ _ _ hm, Result.andThen_ok, e0, equal_keyN 9997 l m hl hm, Sem.run_ite, Sem.run_pure]
    unfold ceq
    cases h1 : (a == c) <;> cases h2 : (b == d) <;> cases h3 : deq l m <;> simp
theorem cap_guard : Tryz.prog.eqGuardType Tryz.prog.depth 25 = false := by kernel_rfl
theorem run_eqC {o : Oper} {a : Act} {w : World} (x y : Operand) (U V : Array Value) (b : Bool) (ho : o.op = .binOp .eql 25 x y 25) (hx : a.eval x = .agg U) (hy : a.eval y = .agg V)
    (h : (Op.equalIn 10000 25 (.agg U) (.agg V)).run Tryz.prog w = .ok b w) : (execOp a.eval o).run Tryz.prog w = .ok (.value (.bool b)) w := by
  unfold execOp
  simp only [ho, hx, hy, Sem.run_bind, run_eqGuard_agg w .eql 25 x y U V cap_guard, Result.andThen_ok, run_eql_struct, h, Sem.run_pure]
end Go.Proofs.YteigldfdaciopaaGreatDoor
