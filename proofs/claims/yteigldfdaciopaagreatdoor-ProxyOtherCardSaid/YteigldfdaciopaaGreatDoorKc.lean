/-
  append to a slice that is full (an array's bytes): a new row. Digests compared.
-/
import Derived.Test.YteigldfdaciopaaGreatDoorKb
namespace Go.Proofs.YteigldfdaciopaaGreatDoor
open Go.RowKit
set_option linter.unusedVariables false
set_option linter.unusedSimpArgs false

theorem rd_cells {B : Nat} {w : World} {b : Addr} {l : List UInt8} (h : RdB B w (some b) l) : ∀ j v, (l.map bv)[j]? = some v → w.cell? (b.add j) = some v := by
  intro j v hv
  rw [List.getElem?_map] at hv
  have hj : j < l.length := by
    rcases Nat.lt_or_ge j l.length with h1 | h1
    · exact h1
    · rw [List.getElem?_eq_none h1] at hv; cases hv
  rw [List.getElem?_eq_getElem hj] at hv
  injection hv with hv
  subst hv
  rcases h.2 with h0 | ⟨g, o, e, -, hc⟩
  · rw [h0] at hj; simp at hj
  · injection e with e
    subst e
    rw [addr_add]
    exact hc j hj
/-- append to a slice without room. -/
theorem wp_appF {o : Oper} {a : Act} {w : World} {K : Act → World → Prop} {Q : Exit → Act → World → Prop} (s x : Operand)
    (ho : o.op = .call { callee := .builtin .append, args := #[s, x], argTypes := #[66, 66] })
    (b a2 : Addr) (n m cap : Nat) (l l' : List UInt8) (hs : a.eval s = .slice (some b) n n) (hx : a.eval x = .slice (some a2) m cap) (hn : l.length = n) (hm : l'.length = m) (hr : RdB w.heap.size w (some b) l) (hr2 : RdB w.heap.size w (some a2) l')
    (h0 : 0 < m) (hlen : n + m ≤ 1000000000)
    (h : ∀ w' v, OwnB w.heap.size w' v (l ++ l') → Below w.heap.size w w' → K (a.put o.dst v) w') : o.wp Tryz.prog a w K Q := by
  obtain ⟨i0, hi, hz0, hz1, hz2⟩ := info_parts byteInfo
  have hfit : Builtin.nextslicecap (n + m) n * i0.bytes ≤ 281474976710656 := growslice_fits (by omega) (by rw [hz2]; omega)
  have hrun := run_append_grow (P := Tryz.prog) (w := w) 66 o.type 5 i0 (.int .u8 0) Tryz.underlying66 hi hz0 b n n (l.map bv) (by rw [List.length_map, hz1, hn, Nat.mul_one]) (rd_cells hr) a2 m cap (l'.map bv) (by rw [List.length_map, hz1, hm, Nat.mul_one]) (rd_cells hr2) (by omega) (by omega) hfit
  have hg1 := grownCap_ge w (n + m) n 5
  have hg2 := grownCap_le_maxLen w (n + m) n 5 (by unfold maxLen; omega)
  generalize grownCap w (n + m) n 5 = C at *
  unfold Oper.wp execOp
  simp only [ho, resolve, invoke, builtin, Sem.run_bind, Sem.run_pure, Result.andThen_ok, List.map_toArray, List.map_cons, List.map_nil, hs, hx, hrun]
  refine h _ _ ?_ (((Below.refl _ _).drew).alloc (Nat.le_refl _) _)
  have hll : (l ++ l').length = n + m := by rw [List.length_append, hn, hm]
  unfold OwnB
  rw [hll]
  refine ⟨by rw [List.length_map, hll]; omega, .inr ⟨w.heap.size, C, _, rfl, Nat.le_refl _, heap_alloc_new w.drew _, hg1, hg2, ?_, ?_⟩⟩
  · rw [Array.size_append, Array.size_append, size_zeroCells]
    show (l.map bv).length + (l'.map bv).length + (C - (n + m)) * 1 = C * 1
    rw [List.length_map, List.length_map, hn, hm]
    omega
  · simp only [Array.toList_append, ← List.map_append]
    rw [List.take_append_of_le_length (by rw [List.length_map, hll]; omega), List.take_of_length_le (by rw [List.length_map, hll]; omega)]
theorem wpList_appF {ops : Array Oper} {rest : List Oper} {o : Oper} {a : Act} {w : World} {Q : Exit → Act → World → Prop} (hgd : o.guard = none) (s x : Operand)
    (ho : o.op = .call { callee := .builtin .append, args := #[s, x], argTypes := #[66, 66] })
    (b a2 : Addr) (n m cap : Nat) (l l' : List UInt8) (hs : a.eval s = .slice (some b) n n) (hx : a.eval x = .slice (some a2) m cap) (hn : l.length = n) (hm : l'.length = m) (hr : RdB w.heap.size w (some b) l) (hr2 : RdB w.heap.size w (some a2) l')
    (h0 : 0 < m) (hlen : n + m ≤ 1000000000)
    (h : ∀ w' v, OwnB w.heap.size w' v (l ++ l') → Below w.heap.size w w' → wpList Tryz.prog ops Q rest (a.put o.dst v) w') : wpList Tryz.prog ops Q (o :: rest) a w :=
  wpList_plain hgd fun _ hK => wp_appF s x ho b a2 n m cap l l' hs hx hn hm hr hr2 h0 hlen fun w' v h2 h3 => hK _ _ (h w' v h2 h3)
theorem run_eqD {o : Oper} {a : Act} {w : World} (x y : Operand) (U V : Array Value) (b : Bool) (ho : o.op = .binOp .eql 69 x y 69) (hx : a.eval x = .agg U) (hy : a.eval y = .agg V)
    (h : (Op.equalIn 10000 69 (.agg U) (.agg V)).run Tryz.prog w = .ok b w) : (execOp a.eval o).run Tryz.prog w = .ok (.value (.bool b)) w := by
  unfold execOp
  simp only [ho, hx, hy]
  go_simp
theorem run_neD {o : Oper} {a : Act} {w : World} (x y : Operand) (U V : Array Value) (b : Bool) (ho : o.op = .binOp .neq 69 x y 69) (hx : a.eval x = .agg U) (hy : a.eval y = .agg V)
    (h : (Op.equalIn 10000 69 (.agg U) (.agg V)).run Tryz.prog w = .ok b w) : (execOp a.eval o).run Tryz.prog w = .ok (.value (.bool !b)) w := by
  unfold execOp
  simp only [ho, hx, hy]
  go_simp
end Go.Proofs.YteigldfdaciopaaGreatDoor
