/-
  Climb of package digest.
-/
import Derived.Test.YtmeoicfeiamkmaaDoorClm
namespace Go.Proofs.YtmeoicfeiamkmaaDoor
open Go.RowKit

theorem results_cell_tmp {P : Program} {fn : Func} {p t : Tmp} {ty : TypeId} (h : fn.results = #[.cell p ty, .tmp t]) (tmps : Array Value) (w : World) (b o : Nat) (cs : List Value) (d : TypeDesc)
    (hp : tmps.getD p undef = .pointer (some ⟨b, o, none⟩)) (hc : w.rangeAt b o cs) (hu : P.underlying ty = some d) (hd : d.isRow = true) (hi : (P.info? ty).map (·.size) = some cs.length) (v2 : Value) (ht : tmps.getD t undef = v2) :
    (results fn tmps).run P w = .ok (.tuple #[.agg cs.toArray, v2]) w := by
  subst ht
  have hp' : tmps[p]?.getD undef = .pointer (some ⟨b, o, none⟩) := by simpa using hp
  simp [results, h, hp', asAddr, run_loadVar_mid w b o ty cs d hc hu hd hi]

def DigErr (w : World) (d : List UInt8) (k : Int) (e : Ending) (w' : World) : Prop := e = .returned (.tuple #[.agg (bvA d), .int .i64 k]) ∧ Below w.heap.size w w'
def zero32 : List UInt8 := List.replicate 32 0

end Go.Proofs.YtmeoicfeiamkmaaDoor
