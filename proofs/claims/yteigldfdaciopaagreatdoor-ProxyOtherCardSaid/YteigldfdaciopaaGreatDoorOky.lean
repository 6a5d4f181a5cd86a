/-
  An array of bytes that came in by value (a key, a nonce, a digest).
-/
import Derived.Test.YteigldfdaciopaaGreatDoorPkC
namespace Go.Proofs.YteigldfdaciopaaGreatDoor
open Go.RowKit
set_option linter.unusedVariables false
set_option linter.unusedSimpArgs false

set_option maxRecDepth 100000 in
theorem open_barr {H : Type} {enc : TypeId × Value → H} {W : World} {base b0 : Nat} {sp : Nat → Bool} {hd : Bool} {v : Value} {d : DataW H} {ps : List MemPlace} {t : TypeId} {n : Nat}
    (hu : Tryz.prog.underlying t = some (.array n 5)) (hc : Tryz.prog.cellsOf t = n) (hval : Value.okWide Tryz.prog W .any b0 t v) (h : DataW.Trod enc Tryz.prog W base sp hd t v d ps) : ∃ x : List UInt8, v = .agg (bvA x) ∧ x.length = n := by
  unfold Value.okWide at hval
  simp only [hu] at hval
  obtain ⟨cs, rfl, hcs, _⟩ := hval
  rw [hc] at hcs
  obtain ⟨fuel, hf⟩ := h
  cases fuel with
  | zero => simp [DataW.trod] at hf
  | succ fuel =>
    unfold DataW.trod at hf
    simp only [hu, Value.cells] at hf
    rw [if_pos (by rw [hc, Array.length_toList]; exact hcs)] at hf
    simp only [Option.map_eq_some_iff] at hf
    obtain ⟨xs, hx, _⟩ := hf
    have hall : ∀ i (hi : i < n), ∃ m : Int, cs.toList[i]? = some (.int .u8 m) ∧ (Lit.int .u8 m).wf = true := by
      intro i hi
      obtain ⟨y, hy⟩ := mapM_all hx i (by simpa using hi)
      rw [cells_byte] at hy
      obtain ⟨m, h1, _, h2⟩ := DataW.trod_int Tryz.underlying5 hy
      refine ⟨m, ?_, h2⟩
      have := congrArg (fun l : List Value => l[0]?) h1
      simpa [List.getElem?_take, List.getElem?_drop] using this
    refine ⟨(List.range n).map fun i => byteOf cs.toList[i]?, ?_, by simp⟩
    congr 1
    apply Array.ext
    · rw [bvA_size]; simp [hcs]
    · intro i h1 h2
      rw [hcs] at h1
      obtain ⟨m, hm, hw⟩ := hall i h1
      have hc : cs[i]? = some (.int .u8 m) := by simpa using hm
      have hg := bvA_get ((List.range n).map fun i => byteOf cs.toList[i]?) i (by simpa using h1)
      have h3 : cs[i] = .int .u8 m := by have := Array.getElem?_eq_getElem (xs := cs) (i := i) (by omega); rw [this] at hc; injection hc
      rw [h3]
      have h4 := Array.getElem?_eq_getElem (xs := bvA ((List.range n).map fun i => byteOf cs.toList[i]?)) (i := i) h2
      rw [h4] at hg
      injection hg with hg
      rw [hg]
      simp only [List.getElem_map, List.getElem_range, hm, bv, byteOf]
      rw [byte_of hw]
end Go.Proofs.YteigldfdaciopaaGreatDoor
