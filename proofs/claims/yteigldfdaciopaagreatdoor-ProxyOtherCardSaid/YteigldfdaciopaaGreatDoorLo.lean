/-
  A capsule that came in by value; bounds of an int.
-/
import Derived.Test.YteigldfdaciopaaGreatDoorOky
import Derived.Test.YteigldfdaciopaaGreatDoorPkC
import Derived.Test.YteigldfdaciopaaGreatDoorLb
import Derived.Deep.Strs
import Derived.Lib.SmallJoins
namespace Go.Proofs.YteigldfdaciopaaGreatDoor
open Go.RowKit Go.Joins Go.ChangeShapes Go.WideShapes Go.Deep
set_option linter.unusedVariables false
set_option linter.unusedSimpArgs false

theorem of_wf {n : Int} (h : (Lit.int .i64 n).wf = true) : -9223372036854775808 ≤ n ∧ n < 9223372036854775808 := by
  have := bounds_i64 h
  omega
set_option maxRecDepth 100000 in
/-- The cells of an array of bytes. -/
theorem trod_barr {H : Type} {enc : TypeId × Value → H} {W : World} {base : Nat} {sp : Nat → Bool} {hd : Bool} {y : DataW H × List MemPlace} {t : TypeId} {n fuel : Nat} {cs : List Value}
    (hu : Tryz.prog.underlying t = some (.array n 5)) (hc : Tryz.prog.cellsOf t = n) (hl : cs.length = n) (hf : DataW.trod enc Tryz.prog W base sp hd fuel t cs = some y) : ∃ x : List UInt8, cs = x.map bv ∧ x.length = n := by
  cases fuel with
  | zero => simp [DataW.trod] at hf
  | succ fuel =>
    unfold DataW.trod at hf
    simp only [hu] at hf
    rw [if_pos (by rw [hc]; exact hl)] at hf
    simp only [Option.map_eq_some_iff] at hf
    obtain ⟨xs, hx, _⟩ := hf
    have hall : ∀ i (hi : i < n), ∃ m : Int, cs[i]? = some (.int .u8 m) ∧ (Lit.int .u8 m).wf = true := by
      intro i hi
      obtain ⟨y, hy⟩ := mapM_all hx i (by simpa using hi)
      rw [cells_byte] at hy
      obtain ⟨m, h1, _, h2⟩ := DataW.trod_int Tryz.underlying5 hy
      refine ⟨m, ?_, h2⟩
      have := congrArg (fun l : List Value => l[0]?) h1
      simpa [List.getElem?_take, List.getElem?_drop] using this
    refine ⟨(List.range n).map fun i => byteOf cs[i]?, ?_, by simp⟩
    apply List.ext_getElem
    · simp [hl]
    · intro i h1 h2
      obtain ⟨m, hm, hw⟩ := hall i (by omega)
      have h3 : cs[i] = .int .u8 m := by
        rw [List.getElem?_eq_getElem h1] at hm
        injection hm
      rw [h3]
      simp only [List.getElem_map, List.getElem_range, hm, bv, byteOf]
      rw [byte_of hw]
set_option maxRecDepth 100000 in
theorem open_cap {H : Type} {enc : TypeId × Value → H} {W : World} {base b0 : Nat} {sp : Nat → Bool} {hd : Bool} {v : Value} {d : DataW H} {ps : List MemPlace}
    (hval : Value.okWide Tryz.prog W .any b0 25 v) (h : DataW.Trod enc Tryz.prog W base sp hd 25 v d ps) : ∃ (a b : Int) (l : List UInt8), v = .agg (capA a b l) ∧ l.length = 32 := by
  obtain ⟨cs, rfl, hsz⟩ := okWide_struct Tryz.underlying25 hval
  obtain ⟨fuel, hf⟩ := h
  obtain ⟨y0, y1, y2, n, -, hlen, h0, h1, h2⟩ := trod_struct3 Tryz.underlying25 hf
  have hC : Tryz.prog.cellsOf 25 = 34 := by kernel_rfl
  have hI : Tryz.prog.cellsOf 3 = 1 := by kernel_rfl
  have hK : Tryz.prog.cellsOf 23 = 32 := by kernel_rfl
  rw [hC] at hlen
  have hl2 : cs.toList.length = 34 := hlen
  generalize hcl : (Value.agg cs).cells.toList = L at *
  have hcl2 : cs.toList = L := hcl
  rw [hcl2] at hl2
  obtain ⟨a, ha, _, _⟩ := DataW.trod_int Tryz.underlying3 h0
  obtain ⟨b, hb, _, _⟩ := DataW.trod_int Tryz.underlying3 h1
  have h2' : DataW.trod enc Tryz.prog W base sp hd n 23 ((L.drop 2).take 32) = some y2 := by rw [← hK]; exact h2
  obtain ⟨l, hl, hll⟩ := trod_barr key_und hK (by rw [List.length_take, List.length_drop]; omega) h2'
  refine ⟨a, b, l, ?_, hll⟩
  have e0 : (L.drop 0).take 1 = [Value.int .i64 a] := by rw [← hI]; exact ha
  have e1 : (L.drop 1).take 1 = [Value.int .i64 b] := by rw [← hI]; exact hb
  have e : L = .int .i64 a :: .int .i64 b :: l.map bv := by
    match L, hl2, e0, e1, hl with
    | p :: q :: r, hl2, e0, e1, hl =>
      simp only [List.drop_zero, List.take_succ_cons, List.take_zero, List.cons.injEq, and_true, List.drop_succ_cons, List.length_cons] at e0 e1 hl hl2
      rw [List.take_of_length_le (by omega)] at hl
      rw [e0, e1, hl]
  congr 1
  unfold capA
  rw [← e, ← hcl2]
end Go.Proofs.YteigldfdaciopaaGreatDoor
