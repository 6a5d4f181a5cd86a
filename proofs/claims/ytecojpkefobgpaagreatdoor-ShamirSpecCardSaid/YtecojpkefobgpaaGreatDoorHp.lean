/-
  The walk of ShamirValues (chartroomlaw08).
-/
import Derived.Test.YtecojpkefobgpaaGreatDoorHo
namespace Go.Proofs.YtecojpkefobgpaaGreatDoor
open Go.RowKit
set_option linter.unusedVariables false
set_option linter.unusedSimpArgs false

/-- Behind the examples: the box of the seed, the tables, only new blocks have turned. -/
structure SdB (w : World) (K : List UInt8) (W : World) : Prop where
  below : Below w.heap.size w W
  key : BB W w.heap.size 24 K
  tab : Tab W
theorem SdB.call {w W W' : World} {K : List UInt8} (h : SdB w K W) (hb : Below W.heap.size W W') : SdB w K W' :=
  ⟨h.below.trans (hb.mono h.below.size), h.key.below hb h.key.lt, h.tab.below hb h.tab.lt⟩
theorem SdB.start {w : World} {K : List UInt8} (hT : Tab w) : SdB w K (w.alloc (.cells (bvA K) 24)) :=
  ⟨(Below.refl _ _).alloc (Nat.le_refl _) _, BB.new w _ _, hT.below ((Below.refl _ _).alloc (Nat.le_refl _) _) hT.lt⟩

theorem many_cases {many : Int} (h : ¬ (12 < many ∧ many ≤ 64)) : decide (12 < many) = false ∨ (decide (12 < many) = true ∧ decide (many ≤ 64) = false) := by
  by_cases h1 : 12 < many
  · exact .inr ⟨decide_eq_true h1, decide_eq_false (by omega)⟩
  · exact .inl (decide_eq_false h1)
end Go.Proofs.YtecojpkefobgpaaGreatDoor
