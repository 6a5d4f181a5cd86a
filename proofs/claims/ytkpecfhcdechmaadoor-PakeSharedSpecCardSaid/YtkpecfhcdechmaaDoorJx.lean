/-
  A side that came in by value.
-/
import Derived.Test.YtkpecfhcdechmaaDoorPkC
import Derived.Test.YtkpecfhcdechmaaDoorJd
import Derived.Lib.SmallJoins
namespace Go.Proofs.YtkpecfhcdechmaaDoor
open Go.RowKit Go.Joins Go.ChangeShapes Go.WideShapes Go.Deep
set_option linter.unusedVariables false
set_option linter.unusedSimpArgs false

set_option maxRecDepth 100000 in
theorem open_sid {H : Type} {enc : TypeId × Value → H} {W : World} {base b0 : Nat} {sp : Nat → Bool} {hd : Bool} {v : Value} {d : DataW H} {ps : List MemPlace}
    (hval : Value.okWide Tryd.prog W .any b0 23 v) (h : DataW.Trod enc Tryd.prog W base sp hd 23 v d ps) : ∃ r c s : Int, v = sidV r c s := by
  obtain ⟨v0, v1, v2, y0, y1, y2, n, rfl, rfl, rfl, h0, h1, h2⟩ := open_agg3 Tryd.underlying23 (by kernel_rfl) (by kernel_rfl) hval h
  obtain ⟨r, hr, _, _⟩ := DataW.trod_int Tryd.underlying3 h0
  obtain ⟨c, hc, _, _⟩ := DataW.trod_int Tryd.underlying3 h1
  obtain ⟨s, hs, _, _⟩ := DataW.trod_int Tryd.underlying3 h2
  simp only [List.cons.injEq, and_true] at hr hc hs
  exact ⟨r, c, s, by rw [hr, hc, hs]; rfl⟩
end Go.Proofs.YtkpecfhcdechmaaDoor
