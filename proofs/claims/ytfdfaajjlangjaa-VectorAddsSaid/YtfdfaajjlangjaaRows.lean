/-
  No cell of these rows narrows 'for every input' (looked for: loops, veiled, ifaces, maps, wideKeys, modest, calm, conditions, laid).
  DERIVED. THE GIVEN ROWS OF THIS SEAT. 7 by the template 'for every input the law returns true; each argument reads behind the call as it read before'; 0 by the template 'total and deterministic' (their statements: YtfdfaajjlangjaaTotals.lean).
  GIVEN WITH THE SEED: the statements are not yours to turn. If you find one false, say at which input.
  Laid BY PROGRAM, IN A SANDBOX (cutbox-rows.mjs): the forced cells as the released guide's own fill.sh prints them over the translation d0d4ace87048642f… (all of the seat's roots in one cut). By AI agents, Wed Nov 11 2026. No macro, syntax, notation, axiom, sorry.
-/
import Derived.Test.YtfdfaajjlangjaaChecked
import GoSem.Claim
import GoSem.ClaimJoined
import GoSem.ClaimMapViews
import Derived.JoinedTies
import Derived.KernelRfl
namespace Go.Proofs.Ytfdfaajjlangjaa
/- THE CELL 'sum', in the pinned program and in every row, IS THE sha256 OF THE DUMP (.gsa) THAT YtfdfaajjlangjaaProg.lean LOADS. Nothing in Lean hashes anything: it is a label: what it is worth is what the hold of that sum in a sandbox is worth. -/
noncomputable def Try.pinned : Pinned := { name := "ytfdfaajjlangjaa", sum := "d0d4ace87048642f520c3803ca90a7bb94117052bdfe53a95163bae73a7d8fb4", checked := Try.checked }
namespace Rows
def none {H : Type} : Left H := { results := [], args := [] }

/-- 'chartroomlaw12.VectorSpec': WHATEVER THE INPUT: true; the input reads as it did. -/
def vectorSpecSpec : ChangeSpec := { name := "vectorSpec", fn := fun _ => fun
  | [d1, d2, d3] => { results := [.lit (.bool true)], args := [d1, d2, d3] }
  | _ => none }
def vectorSpecRow : OpenClaim := { program := "ytfdfaajjlangjaa", sum := "d0d4ace87048642f520c3803ca90a7bb94117052bdfe53a95163bae73a7d8fb4", func := "chartroom/chartroomlaw12.VectorSpec", spec := "vectorSpec", unfollowed := true, recurses := true, apart := false }
def VectorSpecSaid : Prop := vectorSpecRow.holds Try.pinned (OpenSpec.ofChange vectorSpecSpec)

/-- ITS FALSE NEIGHBOUR: 'it returns false'. Refute it at one input. -/
def vectorSpecWrong : ChangeSpec := { name := "vectorSpec", fn := fun _ => fun
  | [d1, d2, d3] => { results := [.lit (.bool false)], args := [d1, d2, d3] }
  | _ => none }
def VectorSpecWrongFalsely : Prop := vectorSpecRow.holds Try.pinned (OpenSpec.ofChange vectorSpecWrong)

/-- 'chartroomlaw12.VectorJoinsSpec': WHATEVER THE INPUT: true; the input reads as it did. -/
def vectorJoinsSpecSpec : ChangeSpec := { name := "vectorJoinsSpec", fn := fun _ => fun
  | [d1, d2] => { results := [.lit (.bool true)], args := [d1, d2] }
  | _ => none }
def vectorJoinsSpecRow : OpenClaim := { program := "ytfdfaajjlangjaa", sum := "d0d4ace87048642f520c3803ca90a7bb94117052bdfe53a95163bae73a7d8fb4", func := "chartroom/chartroomlaw12.VectorJoinsSpec", spec := "vectorJoinsSpec", unfollowed := true, recurses := true, apart := false }
def VectorJoinsSpecSaid : Prop := vectorJoinsSpecRow.holds Try.pinned (OpenSpec.ofChange vectorJoinsSpecSpec)

/-- ITS FALSE NEIGHBOUR: 'it returns false'. Refute it at one input. -/
def vectorJoinsSpecWrong : ChangeSpec := { name := "vectorJoinsSpec", fn := fun _ => fun
  | [d1, d2] => { results := [.lit (.bool false)], args := [d1, d2] }
  | _ => none }
def VectorJoinsSpecWrongFalsely : Prop := vectorJoinsSpecRow.holds Try.pinned (OpenSpec.ofChange vectorJoinsSpecWrong)

/-- 'chartroomlaw12.VectorCovers': WHATEVER THE INPUT: true; the input reads as it did. -/
def vectorCoversSpec : ChangeSpec := { name := "vectorCovers", fn := fun _ => fun
  | [d1, d2, d3] => { results := [.lit (.bool true)], args := [d1, d2, d3] }
  | _ => none }
def vectorCoversRow : OpenClaim := { program := "ytfdfaajjlangjaa", sum := "d0d4ace87048642f520c3803ca90a7bb94117052bdfe53a95163bae73a7d8fb4", func := "chartroom/chartroomlaw12.VectorCovers", spec := "vectorCovers", unfollowed := true, recurses := true, apart := false }
def VectorCoversSaid : Prop := vectorCoversRow.holds Try.pinned (OpenSpec.ofChange vectorCoversSpec)

/-- ITS FALSE NEIGHBOUR: 'it returns false'. Refute it at one input. -/
def vectorCoversWrong : ChangeSpec := { name := "vectorCovers", fn := fun _ => fun
  | [d1, d2, d3] => { results := [.lit (.bool false)], args := [d1, d2, d3] }
  | _ => none }
def VectorCoversWrongFalsely : Prop := vectorCoversRow.holds Try.pinned (OpenSpec.ofChange vectorCoversWrong)

/-- 'chartroomlaw12.VectorLattice': WHATEVER THE INPUT: true; the input reads as it did. -/
def vectorLatticeSpec : ChangeSpec := { name := "vectorLattice", fn := fun _ => fun
  | [d1, d2, d3] => { results := [.lit (.bool true)], args := [d1, d2, d3] }
  | _ => none }
def vectorLatticeRow : OpenClaim := { program := "ytfdfaajjlangjaa", sum := "d0d4ace87048642f520c3803ca90a7bb94117052bdfe53a95163bae73a7d8fb4", func := "chartroom/chartroomlaw12.VectorLattice", spec := "vectorLattice", unfollowed := true, recurses := true, apart := false }
def VectorLatticeSaid : Prop := vectorLatticeRow.holds Try.pinned (OpenSpec.ofChange vectorLatticeSpec)

/-- ITS FALSE NEIGHBOUR: 'it returns false'. Refute it at one input. -/
def vectorLatticeWrong : ChangeSpec := { name := "vectorLattice", fn := fun _ => fun
  | [d1, d2, d3] => { results := [.lit (.bool false)], args := [d1, d2, d3] }
  | _ => none }
def VectorLatticeWrongFalsely : Prop := vectorLatticeRow.holds Try.pinned (OpenSpec.ofChange vectorLatticeWrong)

/-- 'chartroomlaw12.VectorOrder': WHATEVER THE INPUT: true; the input reads as it did. -/
def vectorOrderSpec : ChangeSpec := { name := "vectorOrder", fn := fun _ => fun
  | [d1, d2, d3] => { results := [.lit (.bool true)], args := [d1, d2, d3] }
  | _ => none }
def vectorOrderRow : OpenClaim := { program := "ytfdfaajjlangjaa", sum := "d0d4ace87048642f520c3803ca90a7bb94117052bdfe53a95163bae73a7d8fb4", func := "chartroom/chartroomlaw12.VectorOrder", spec := "vectorOrder", unfollowed := true, recurses := true, apart := false }
def VectorOrderSaid : Prop := vectorOrderRow.holds Try.pinned (OpenSpec.ofChange vectorOrderSpec)

/-- ITS FALSE NEIGHBOUR: 'it returns false'. Refute it at one input. -/
def vectorOrderWrong : ChangeSpec := { name := "vectorOrder", fn := fun _ => fun
  | [d1, d2, d3] => { results := [.lit (.bool false)], args := [d1, d2, d3] }
  | _ => none }
def VectorOrderWrongFalsely : Prop := vectorOrderRow.holds Try.pinned (OpenSpec.ofChange vectorOrderWrong)

/-- 'chartroomlaw12.VectorLeast': WHATEVER THE INPUT: true; the input reads as it did. -/
def vectorLeastSpec : ChangeSpec := { name := "vectorLeast", fn := fun _ => fun
  | [d1, d2, d3] => { results := [.lit (.bool true)], args := [d1, d2, d3] }
  | _ => none }
def vectorLeastRow : OpenClaim := { program := "ytfdfaajjlangjaa", sum := "d0d4ace87048642f520c3803ca90a7bb94117052bdfe53a95163bae73a7d8fb4", func := "chartroom/chartroomlaw12.VectorLeast", spec := "vectorLeast", unfollowed := true, recurses := true, apart := false }
def VectorLeastSaid : Prop := vectorLeastRow.holds Try.pinned (OpenSpec.ofChange vectorLeastSpec)

/-- ITS FALSE NEIGHBOUR: 'it returns false'. Refute it at one input. -/
def vectorLeastWrong : ChangeSpec := { name := "vectorLeast", fn := fun _ => fun
  | [d1, d2, d3] => { results := [.lit (.bool false)], args := [d1, d2, d3] }
  | _ => none }
def VectorLeastWrongFalsely : Prop := vectorLeastRow.holds Try.pinned (OpenSpec.ofChange vectorLeastWrong)

/-- 'chartroomlaw12.VectorAdds': WHATEVER THE INPUT: true; the input reads as it did. -/
def vectorAddsSpec : ChangeSpec := { name := "vectorAdds", fn := fun _ => fun
  | [d1, d2, d3] => { results := [.lit (.bool true)], args := [d1, d2, d3] }
  | _ => none }
def vectorAddsRow : OpenClaim := { program := "ytfdfaajjlangjaa", sum := "d0d4ace87048642f520c3803ca90a7bb94117052bdfe53a95163bae73a7d8fb4", func := "chartroom/chartroomlaw12.VectorAdds", spec := "vectorAdds", unfollowed := true, recurses := true, apart := false }
def VectorAddsSaid : Prop := vectorAddsRow.holds Try.pinned (OpenSpec.ofChange vectorAddsSpec)

/-- ITS FALSE NEIGHBOUR: 'it returns false'. Refute it at one input. -/
def vectorAddsWrong : ChangeSpec := { name := "vectorAdds", fn := fun _ => fun
  | [d1, d2, d3] => { results := [.lit (.bool false)], args := [d1, d2, d3] }
  | _ => none }
def VectorAddsWrongFalsely : Prop := vectorAddsRow.holds Try.pinned (OpenSpec.ofChange vectorAddsWrong)

/- THE SECOND FORM. 'bulk': how many values and letters a reading holds, each counted each time it is reached (what is shared counts as often as it is met; a slice's spare places count too). A statement '..UptoSaid' is the law's where the arguments, and the package variables that the reading takes, are together of bulk at most 1048576: NARROWER than '..Said'. Prove '..Said' where nothing that the law and all that it calls make is longer than what came in: it says more and counts as full. Else prove '..UptoSaid'. A law counts once. -/
mutual
def uptoBulk {H : Type} : DataW H → Nat
  | .lit (.string bytes) => bytes.length + 1
  | .lit _ => 1
  | .nil => 1
  | .ptr d => uptoBulk d + 1
  | .slice elems spare => uptoBulkAll elems + uptoBulkAll spare + 1
  | .agg parts => uptoBulkAll parts + 1
  | .iface _ d => uptoBulk d + 1
  | .map entries => uptoBulkEntries entries + 1
  | .held _ => 1
def uptoBulkAll {H : Type} : List (DataW H) → Nat
  | [] => 0
  | d :: r => uptoBulk d + uptoBulkAll r
def uptoBulkEntries {H : Type} : List (Lit × DataW H) → Nat
  | [] => 0
  | x :: r => uptoBulkEntry x + uptoBulkEntries r
def uptoBulkEntry {H : Type} : Lit × DataW H → Nat
  | (.string bytes, d) => bytes.length + uptoBulk d + 1
  | (_, d) => uptoBulk d + 1
 end
def uptoSmall : (H : Type) → List (DataW H) → Bool := fun _ ds => decide (uptoBulkAll ds ≤ 1048576)
def OpenSpec.upto (s : _root_.Go.ChangeSpec) : _root_.Go.OpenSpec := { _root_.Go.OpenSpec.ofChange s with cond := some uptoSmall }

/-- 'chartroomlaw12.VectorSpec', WHERE WHAT IT READS IS OF BULK AT MOST 1048576: true; the input reads as it did. -/
def vectorSpecUptoRow : OpenClaim := { program := "ytfdfaajjlangjaa", sum := "d0d4ace87048642f520c3803ca90a7bb94117052bdfe53a95163bae73a7d8fb4", func := "chartroom/chartroomlaw12.VectorSpec", spec := "vectorSpec", unfollowed := true, recurses := true, apart := false, narrowed := true }
def VectorSpecUptoSaid : Prop := vectorSpecUptoRow.holds Try.pinned (OpenSpec.upto vectorSpecSpec)

/-- 'chartroomlaw12.VectorJoinsSpec', WHERE WHAT IT READS IS OF BULK AT MOST 1048576: true; the input reads as it did. -/
def vectorJoinsSpecUptoRow : OpenClaim := { program := "ytfdfaajjlangjaa", sum := "d0d4ace87048642f520c3803ca90a7bb94117052bdfe53a95163bae73a7d8fb4", func := "chartroom/chartroomlaw12.VectorJoinsSpec", spec := "vectorJoinsSpec", unfollowed := true, recurses := true, apart := false, narrowed := true }
def VectorJoinsSpecUptoSaid : Prop := vectorJoinsSpecUptoRow.holds Try.pinned (OpenSpec.upto vectorJoinsSpecSpec)

/-- 'chartroomlaw12.VectorCovers', WHERE WHAT IT READS IS OF BULK AT MOST 1048576: true; the input reads as it did. -/
def vectorCoversUptoRow : OpenClaim := { program := "ytfdfaajjlangjaa", sum := "d0d4ace87048642f520c3803ca90a7bb94117052bdfe53a95163bae73a7d8fb4", func := "chartroom/chartroomlaw12.VectorCovers", spec := "vectorCovers", unfollowed := true, recurses := true, apart := false, narrowed := true }
def VectorCoversUptoSaid : Prop := vectorCoversUptoRow.holds Try.pinned (OpenSpec.upto vectorCoversSpec)

/-- 'chartroomlaw12.VectorLattice', WHERE WHAT IT READS IS OF BULK AT MOST 1048576: true; the input reads as it did. -/
def vectorLatticeUptoRow : OpenClaim := { program := "ytfdfaajjlangjaa", sum := "d0d4ace87048642f520c3803ca90a7bb94117052bdfe53a95163bae73a7d8fb4", func := "chartroom/chartroomlaw12.VectorLattice", spec := "vectorLattice", unfollowed := true, recurses := true, apart := false, narrowed := true }
def VectorLatticeUptoSaid : Prop := vectorLatticeUptoRow.holds Try.pinned (OpenSpec.upto vectorLatticeSpec)

/-- 'chartroomlaw12.VectorOrder', WHERE WHAT IT READS IS OF BULK AT MOST 1048576: true; the input reads as it did. -/
def vectorOrderUptoRow : OpenClaim := { program := "ytfdfaajjlangjaa", sum := "d0d4ace87048642f520c3803ca90a7bb94117052bdfe53a95163bae73a7d8fb4", func := "chartroom/chartroomlaw12.VectorOrder", spec := "vectorOrder", unfollowed := true, recurses := true, apart := false, narrowed := true }
def VectorOrderUptoSaid : Prop := vectorOrderUptoRow.holds Try.pinned (OpenSpec.upto vectorOrderSpec)

/-- 'chartroomlaw12.VectorLeast', WHERE WHAT IT READS IS OF BULK AT MOST 1048576: true; the input reads as it did. -/
def vectorLeastUptoRow : OpenClaim := { program := "ytfdfaajjlangjaa", sum := "d0d4ace87048642f520c3803ca90a7bb94117052bdfe53a95163bae73a7d8fb4", func := "chartroom/chartroomlaw12.VectorLeast", spec := "vectorLeast", unfollowed := true, recurses := true, apart := false, narrowed := true }
def VectorLeastUptoSaid : Prop := vectorLeastUptoRow.holds Try.pinned (OpenSpec.upto vectorLeastSpec)

/-- 'chartroomlaw12.VectorAdds', WHERE WHAT IT READS IS OF BULK AT MOST 1048576: true; the input reads as it did. -/
def vectorAddsUptoRow : OpenClaim := { program := "ytfdfaajjlangjaa", sum := "d0d4ace87048642f520c3803ca90a7bb94117052bdfe53a95163bae73a7d8fb4", func := "chartroom/chartroomlaw12.VectorAdds", spec := "vectorAdds", unfollowed := true, recurses := true, apart := false, narrowed := true }
def VectorAddsUptoSaid : Prop := vectorAddsUptoRow.holds Try.pinned (OpenSpec.upto vectorAddsSpec)

end Rows
end Go.Proofs.Ytfdfaajjlangjaa
