/-
  A wrap that came in by value.
-/
import Derived.Test.YtpnemdhbdncknaaDoorPkC
import Derived.Test.YtpnemdhbdncknaaDoorIc
import Derived.Lib.SmallJoins
namespace Go.Proofs.YtpnemdhbdncknaaDoor
open Go.RowKit Go.Joins Go.ChangeShapes Go.WideShapes Go.Deep
set_option linter.unusedVariables false
set_option linter.unusedSimpArgs false

/-- A wrap by value. -/
def wrV (u : Int) (v : Value) : Value := .agg #[.int .i64 u, v]
set_option maxRecDepth 100000 in
theorem open_wrp {H : Type} {enc : TypeId × Value → H} {W : World} {base b0 : Nat} {hd : Bool} {v : Value} {d : DataW H} {ps : List MemPlace}
    (hval : Value.okWide Tryd.prog W .any b0 32 v) (h : DataW.Trod enc Tryd.prog W base (fun _ => true) hd 32 v d ps) :
    ∃ (u : Int) (a : Option Addr) (len cap : Nat) (zs : List Int), v = wrV u (.slice a len cap) ∧ IsRow W a len cap zs := by
  obtain ⟨v0, v1, y0, y1, n, rfl, rfl, rfl, h0, h1⟩ := open_agg2 Tryd.underlying32 (by kernel_rfl) (by kernel_rfl) hval h
  obtain ⟨u, hu, _, _⟩ := DataW.trod_int Tryd.underlying3 h0
  simp only [List.cons.injEq, and_true] at hu
  subst hu
  obtain ⟨a, l, c, hs⟩ := slice_form Tryd.underlying24 h1
  simp only [List.cons.injEq, and_true] at hs
  subst hs
  refine ⟨u, a, l, c, ?_⟩
  rcases open_ints Tryd.underlying24 Tryd.underlying5 (by kernel_rfl) h1 with ⟨hcs, _⟩ | ⟨x, l', c', zs, hcs, _, hl, hm, hz, _, hcell, hwz⟩
  · simp at hcs
    obtain ⟨rfl, rfl, rfl⟩ := hcs
    exact ⟨[], rfl, .inl ⟨rfl, rfl, rfl, rfl⟩⟩
  · simp at hcs
    obtain ⟨rfl, rfl, rfl⟩ := hcs
    exact ⟨zs, rfl, .inr ⟨_, rfl, hl, hm, by simpa using hz, hcell, hwz⟩⟩
end Go.Proofs.YtpnemdhbdncknaaDoor
