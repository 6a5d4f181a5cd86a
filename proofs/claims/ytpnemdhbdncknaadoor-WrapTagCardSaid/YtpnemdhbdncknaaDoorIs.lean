/-
  append(k[:], make([]byte, 12)...) of a key.
-/
import Derived.Test.YtpnemdhbdncknaaDoorIn
import Derived.Test.YtpnemdhbdncknaaDoorIb
import Derived.Test.YtpnemdhbdncknaaDoorPkM
import Derived.Test.YtpnemdhbdncknaaDoorPkS
import Derived.Lib.AppendZeros
namespace Go.Proofs.YtpnemdhbdncknaaDoor
open Go.RowKit
set_option linter.unusedVariables false
set_option linter.unusedSimpArgs false

theorem run_appZ32 (W : World) (g : Nat) (l : List UInt8) (hl : l.length = 32) (hc : ∀ j v, (l.map bv)[j]? = some v → W.cell? ((⟨g, 0, none⟩ : Addr).add j) = some v) (ty : TypeId) :
    (Builtin.append_ #[24, 3] ty #[.slice (some ⟨g, 0, none⟩) 32 32, .int .i64 12]).run Tryd.prog W = .ok (.slice (some ⟨W.heap.size, 0, none⟩) 44 (grownCap W 44 32 5))
      (W.drew.alloc (.cells ((l.map bv).toArray ++ (Builtin.zeroCells (Value.int .u8 0).cells 12 ++ Builtin.zeroCells (Value.int .u8 0).cells (grownCap W 44 32 5 - 44))) 5)) := by
  obtain ⟨i0, hi, hz0, hz1, hz2⟩ := info_parts byteInfo
  have ht := Tryd.underlying24
  have htn := Tryd.underlying3
  have hw : IntKind.i64.wrap (12 : Int) = 12 := IntWalk.i64_in _ (by omega)
  have h48 : ¬ (281474976710656 < Builtin.nextslicecap 44 32 * i0.bytes) := by rw [hz2]; decide
  have h48i : ¬ (281474976710656 < (12 : Int) * (i0.bytes : Int)) := by rw [hz2]; decide
  have hns : ¬ (12 * i0.size = 0) := by rw [hz1]; decide
  have h63 : ¬ ((9223372036854775807 : Int) < 32 + max 12 0) := by decide
  have hfo := run_firstCells_some (P := Tryd.prog) W.drew i0.size 32 ⟨g, 0, none⟩ 32 32 (l.map bv) (by rw [hz1, List.length_map, hl]) (by simpa using hc)
  simp [Builtin.append_, run_underlying ht, run_underlying htn, sizeOf, typeInfo, zeroValue, hi, hz0, asInt, asIntOf, hw, h48, h48i, hns, h63, Question.forced, hfo, newRow, grownCap]
/-- append of 12 zeros to the bytes of a key: a new row. -/
theorem wpList_appZ32 {ops : Array Oper} {rest : List Oper} {o : Oper} {a : Act} {w : World} {Q : Exit → Act → World → Prop} (hgd : o.guard = none) (s x : Operand)
    (ho : o.op = .call { callee := .builtin .append, args := #[s, x], argTypes := #[24, 3] }) (g : Nat) (l : List UInt8) (hl : l.length = 32) (hr : RdB w.heap.size w (some ⟨g, 0, none⟩) l)
    (hs : a.eval s = .slice (some ⟨g, 0, none⟩) 32 32) (hx : a.eval x = .int .i64 12)
    (h : ∀ c w', OwnB w.heap.size w' (.slice (some ⟨w.heap.size, 0, none⟩) 44 c) (l ++ zN) → Below w.heap.size w w' → wpList Tryd.prog ops Q rest (a.put o.dst (.slice (some ⟨w.heap.size, 0, none⟩) 44 c)) w') : wpList Tryd.prog ops Q (o :: rest) a w := by
  refine wpList_plain hgd fun K hK => ?_
  have hc : ∀ j v, (l.map bv)[j]? = some v → w.cell? ((⟨g, 0, none⟩ : Addr).add j) = some v := by
    intro j v hv
    rw [List.getElem?_map] at hv
    have hj : j < l.length := by
      rcases Nat.lt_or_ge j l.length with h1 | h1
      · exact h1
      · rw [List.getElem?_eq_none h1] at hv; cases hv
    rw [List.getElem?_eq_getElem hj] at hv
    injection hv with hv
    subst hv
    rw [addr_add]
    exact hr.cellAt j hj
  have hrun := run_appZ32 w g l hl hc o.type
  have hg1 := grownCap_ge w 44 32 5
  have hg2 := grownCap_le_maxLen w 44 32 5 (by unfold maxLen; omega)
  generalize grownCap w 44 32 5 = C at *
  unfold Oper.wp execOp
  simp only [ho, resolve, invoke, builtin, Sem.run_bind, Sem.run_pure, Result.andThen_ok, List.map_toArray, List.map_cons, List.map_nil, hs, hx, hrun]
  refine hK _ _ (h _ _ ?_ (((Below.refl _ _).drew).alloc (Nat.le_refl _) _))
  have hz : Builtin.zeroCells (Value.int .u8 0).cells 12 = (zN.map bv).toArray := by kernel_rfl
  have hll : (l ++ zN).length = 44 := by rw [List.length_append, hl, zN_len]
  unfold OwnB
  rw [hll]
  refine ⟨by rw [List.length_map, hll], .inr ⟨w.heap.size, C, _, rfl, Nat.le_refl _, heap_alloc_new w.drew _, hg1, hg2, ?_, ?_⟩⟩
  · rw [Array.size_append, Array.size_append, size_zeroCells, size_zeroCells]
    show (l.map bv).length + (12 * 1 + (C - 44) * 1) = C * 1
    rw [List.length_map, hl]
    omega
  · rw [hz]
    simp only [Array.toList_append, ← List.append_assoc, ← List.map_append]
    rw [List.take_append_of_le_length (by rw [List.length_map, hll]; exact Nat.le_refl _), List.take_of_length_le (by rw [List.length_map, hll]; exact Nat.le_refl _)]
end Go.Proofs.YtpnemdhbdncknaaDoor
