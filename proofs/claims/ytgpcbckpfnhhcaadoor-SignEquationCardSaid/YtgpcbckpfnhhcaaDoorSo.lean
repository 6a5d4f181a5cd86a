/-
  A signature that came in by value.
-/
import Derived.Test.YtgpcbckpfnhhcaaDoorPkC
import Derived.Test.YtgpcbckpfnhhcaaDoorSp
import Derived.Lib.SmallJoins
namespace Go.Proofs.YtgpcbckpfnhhcaaDoor
open Go.RowKit Go.Joins Go.ChangeShapes Go.WideShapes Go.Deep
set_option linter.unusedVariables false
set_option linter.unusedSimpArgs false

theorem open_sig {H : Type} {enc : TypeId × Value → H} {W : World} {base b0 : Nat} {sp : Nat → Bool} {hd : Bool} {v : Value} {d : DataW H} {ps : List MemPlace}
    (hval : Value.okWide Tryd.prog W .any b0 30 v) (h : DataW.Trod enc Tryd.prog W base sp hd 30 v d ps) : ∃ r s : Int, v = sigV r s := by
  obtain ⟨v0, v1, y0, y1, n, rfl, rfl, rfl, h0, h1⟩ := open_agg2 Tryd.underlying30 (by kernel_rfl) (by kernel_rfl) hval h
  obtain ⟨r, hr, _, _⟩ := DataW.trod_int Tryd.underlying3 h0
  obtain ⟨s, hs, _, _⟩ := DataW.trod_int Tryd.underlying3 h1
  simp only [List.cons.injEq, and_true] at hr hs
  exact ⟨r, s, by rw [hr, hs]; rfl⟩
end Go.Proofs.YtgpcbckpfnhhcaaDoor
