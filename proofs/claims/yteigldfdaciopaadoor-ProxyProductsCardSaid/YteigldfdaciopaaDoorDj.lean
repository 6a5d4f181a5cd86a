/-
  The reference of package derive: Expand, Mix, Step, Scalar.
-/
import Derived.Test.YteigldfdaciopaaDoorKb
import Derived.Test.YteigldfdaciopaaDoorPkD
namespace Go.Proofs.YteigldfdaciopaaDoor
open Go.RowKit
set_option linter.unusedVariables false
set_option linter.unusedSimpArgs false

/-- A key's box and a result. -/
structure R2 (w : World) (K : List UInt8) (w' : World) : Prop where
  below : Below w.heap.size w w'
  key : BB w' w.heap.size 23 K
  out : BB w' (w.heap.size + 1) 23 (List.replicate 32 0)
theorem R2.start (w : World) (K : List UInt8) : R2 w K ((w.alloc (.cells (bvA K) 23)).alloc (.cells (bvA (List.replicate 32 0)) 23)) :=
  ⟨((Below.refl _ _).alloc (Nat.le_refl _) _).alloc (by simp) _, (BB.new w _ _).alloc _, heap_alloc2_new w _ _⟩
theorem R2.size {w w' : World} {K : List UInt8} (h : R2 w K w') : w.heap.size + 2 ≤ w'.heap.size := by have := h.out.lt; omega
theorem R2.call {w w' w'' : World} {K : List UInt8} (h : R2 w K w') {N : Nat} (hb : Below N w' w'') (hN : w.heap.size + 2 ≤ N) : R2 w K w'' :=
  ⟨h.below.trans (hb.mono (by omega)), h.key.below hb (by omega), h.out.below hb (by omega)⟩

end Go.Proofs.YteigldfdaciopaaDoor
