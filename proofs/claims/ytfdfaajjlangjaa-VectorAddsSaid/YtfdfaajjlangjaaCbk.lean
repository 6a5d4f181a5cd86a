/-
  Blocks that hold cells.
-/
import Derived.Test.YtfdfaajjlangjaaByt
namespace Go.Proofs.Ytfdfaajjlangjaa
open Go.RowKit
set_option linter.unusedVariables false
set_option linter.unusedSimpArgs false

/-- Block g holds these cells. -/
def CB (w : World) (g : Nat) (T : TypeId) (cs : Array Value) : Prop := w.heap[g]? = some (.cells cs T (0, 0))
theorem CB.new (w : World) (T : TypeId) (cs : Array Value) : CB (w.alloc (.cells cs T)) w.heap.size T cs := heap_alloc_new w _
theorem CB.lt {w : World} {g : Nat} {T : TypeId} {cs : Array Value} (h : CB w g T cs) : g < w.heap.size := (Array.getElem?_eq_some_iff.1 h).1
theorem CB.below {B : Nat} {w w' : World} {g : Nat} {T : TypeId} {cs : Array Value} (h : CB w g T cs) (hb : Below B w w') (hg : g < B) : CB w' g T cs := (hb.block g hg).trans h
theorem CB.call {w w' : World} {g : Nat} {T : TypeId} {cs : Array Value} (h : CB w g T cs) (hb : Below w.heap.size w w') : CB w' g T cs := h.below hb h.lt
theorem CB.alloc {w : World} {g : Nat} {T : TypeId} {cs : Array Value} (h : CB w g T cs) (o : Obj) : CB (w.alloc o) g T cs := (Below.heap_alloc w o g h.lt).trans h
theorem CB.drew {w : World} {g : Nat} {T : TypeId} {cs : Array Value} (h : CB w g T cs) : CB w.drew g T cs := h
theorem CB.cell {w : World} {g : Nat} {T : TypeId} {cs : Array Value} (h : CB w g T cs) (i : Nat) : w.cell? ⟨g, i, none⟩ = cs[i]? := cell_of_row w g i _ _ (0, 0) h
theorem CB.frozen {w : World} {g : Nat} {T : TypeId} {cs : Array Value} (h : CB w g T cs) (i : Nat) : w.frozen? ⟨g, i, none⟩ = false := frozen_of_row w g i _ _ h
theorem CB.grown {w w' : World} {g R : Nat} {T : TypeId} {cs : Array Value} (h : CB w g T cs) (hg : w.grownBy w' (some R)) (hne : g ≠ R) : CB w' g T cs := (hg.block g h.lt (fun e => hne (by injection e))).trans h
theorem CB.set {w : World} {g : Nat} {T : TypeId} {cs : Array Value} (h : CB w g T cs) (i : Nat) (v : Value) : CB (w.setCell ⟨g, i, none⟩ v) g T (cs.setIfInBounds i v) := by
  unfold CB; rw [heap_setCell_same w g i _ _ _ h]
theorem CB.setO {w : World} {g g' : Nat} {T : TypeId} {cs : Array Value} (h : CB w g T cs) (hne : g ≠ g') (i : Nat) (v : Value) : CB (w.setCell ⟨g', i, none⟩ v) g T cs := (heap_setCell_other w ⟨g', i, none⟩ g v hne).trans h
theorem CB.at {w : World} {n : Nat} (T : TypeId) (cs : Array Value) (h : w.heap.size = n) : CB (w.alloc (.cells cs T)) n T cs := h ▸ CB.new w T cs
end Go.Proofs.Ytfdfaajjlangjaa
