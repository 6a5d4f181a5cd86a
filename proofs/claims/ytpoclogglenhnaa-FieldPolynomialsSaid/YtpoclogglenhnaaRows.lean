/-
  No cell of these rows narrows 'for every input' (looked for: loops, veiled, ifaces, maps, wideKeys, modest, calm, conditions, laid).
  DERIVED. THE GIVEN ROWS OF THIS SEAT. 7 by the template 'for every input the law returns true; each argument reads behind the call as it read before'; 0 by the template 'total and deterministic' (their statements: YtpoclogglenhnaaTotals.lean).
  GIVEN WITH THE SEED: the statements are not yours to turn. If you find one false, say at which input.
  Laid BY PROGRAM, IN A SANDBOX (cutbox-rows.mjs): the forced cells as the released guide's own fill.sh prints them over the translation 845e2d259873a0fd… (all of the seat's roots in one cut). By AI agents, Wed Nov 11 2026. No macro, syntax, notation, axiom, sorry.
-/
import Derived.Test.YtpoclogglenhnaaChecked
import GoSem.Claim
import GoSem.ClaimJoined
import GoSem.ClaimMapViews
import Derived.JoinedTies
import Derived.KernelRfl
namespace Go.Proofs.Ytpoclogglenhnaa
/- THE CELL 'sum', in the pinned program and in every row, IS THE sha256 OF THE DUMP (.gsa) THAT YtpoclogglenhnaaProg.lean LOADS. Nothing in Lean hashes anything: it is a label: what it is worth is what the hold of that sum in a sandbox is worth. -/
noncomputable def Try.pinned : Pinned := { name := "ytpoclogglenhnaa", sum := "845e2d259873a0fd0a9bf1ccb8b9fc87be395fe852756a4a58ed8f8a296e23d4", checked := Try.checked }
namespace Rows
def none {H : Type} : Left H := { results := [], args := [] }

/-- 'chartroomlaw03.FieldAddSpec': WHATEVER THE INPUT: true; the input reads as it did. -/
def fieldAddSpecSpec : ChangeSpec := { name := "fieldAddSpec", fn := fun _ => fun
  | [d1, d2] => { results := [.lit (.bool true)], args := [d1, d2] }
  | _ => none }
def fieldAddSpecRow : OpenClaim := { program := "ytpoclogglenhnaa", sum := "845e2d259873a0fd0a9bf1ccb8b9fc87be395fe852756a4a58ed8f8a296e23d4", func := "chartroom/chartroomlaw03.FieldAddSpec", spec := "fieldAddSpec", unfollowed := true, recurses := true, named := ["math/bits.divideError", "math/bits.overflowError"], apart := false }
def FieldAddSpecSaid : Prop := fieldAddSpecRow.holds Try.pinned (OpenSpec.ofChange fieldAddSpecSpec)

/-- ITS FALSE NEIGHBOUR: 'it returns false'. Refute it at one input. -/
def fieldAddSpecWrong : ChangeSpec := { name := "fieldAddSpec", fn := fun _ => fun
  | [d1, d2] => { results := [.lit (.bool false)], args := [d1, d2] }
  | _ => none }
def FieldAddSpecWrongFalsely : Prop := fieldAddSpecRow.holds Try.pinned (OpenSpec.ofChange fieldAddSpecWrong)

/-- 'chartroomlaw03.FieldPowSpec': WHATEVER THE INPUT: true; the input reads as it did. -/
def fieldPowSpecSpec : ChangeSpec := { name := "fieldPowSpec", fn := fun _ => fun
  | [d1, d2] => { results := [.lit (.bool true)], args := [d1, d2] }
  | _ => none }
def fieldPowSpecRow : OpenClaim := { program := "ytpoclogglenhnaa", sum := "845e2d259873a0fd0a9bf1ccb8b9fc87be395fe852756a4a58ed8f8a296e23d4", func := "chartroom/chartroomlaw03.FieldPowSpec", spec := "fieldPowSpec", unfollowed := true, recurses := true, named := ["math/bits.divideError", "math/bits.overflowError"], apart := false }
def FieldPowSpecSaid : Prop := fieldPowSpecRow.holds Try.pinned (OpenSpec.ofChange fieldPowSpecSpec)

/-- ITS FALSE NEIGHBOUR: 'it returns false'. Refute it at one input. -/
def fieldPowSpecWrong : ChangeSpec := { name := "fieldPowSpec", fn := fun _ => fun
  | [d1, d2] => { results := [.lit (.bool false)], args := [d1, d2] }
  | _ => none }
def FieldPowSpecWrongFalsely : Prop := fieldPowSpecRow.holds Try.pinned (OpenSpec.ofChange fieldPowSpecWrong)

/-- 'chartroomlaw03.FieldEvalSpec': WHATEVER THE INPUT: true; the input reads as it did. -/
def fieldEvalSpecSpec : ChangeSpec := { name := "fieldEvalSpec", fn := fun _ => fun
  | [d1, d2] => { results := [.lit (.bool true)], args := [d1, d2] }
  | _ => none }
def fieldEvalSpecRow : OpenClaim := { program := "ytpoclogglenhnaa", sum := "845e2d259873a0fd0a9bf1ccb8b9fc87be395fe852756a4a58ed8f8a296e23d4", func := "chartroom/chartroomlaw03.FieldEvalSpec", spec := "fieldEvalSpec", unfollowed := true, recurses := true, named := ["math/bits.divideError", "math/bits.overflowError"], apart := false }
def FieldEvalSpecSaid : Prop := fieldEvalSpecRow.holds Try.pinned (OpenSpec.ofChange fieldEvalSpecSpec)

/-- ITS FALSE NEIGHBOUR: 'it returns false'. Refute it at one input. -/
def fieldEvalSpecWrong : ChangeSpec := { name := "fieldEvalSpec", fn := fun _ => fun
  | [d1, d2] => { results := [.lit (.bool false)], args := [d1, d2] }
  | _ => none }
def FieldEvalSpecWrongFalsely : Prop := fieldEvalSpecRow.holds Try.pinned (OpenSpec.ofChange fieldEvalSpecWrong)

/-- 'chartroomlaw03.FieldRing': WHATEVER THE INPUT: true; the input reads as it did. -/
def fieldRingSpec : ChangeSpec := { name := "fieldRing", fn := fun _ => fun
  | [d1, d2, d3] => { results := [.lit (.bool true)], args := [d1, d2, d3] }
  | _ => none }
def fieldRingRow : OpenClaim := { program := "ytpoclogglenhnaa", sum := "845e2d259873a0fd0a9bf1ccb8b9fc87be395fe852756a4a58ed8f8a296e23d4", func := "chartroom/chartroomlaw03.FieldRing", spec := "fieldRing", unfollowed := true, recurses := true, named := ["math/bits.divideError", "math/bits.overflowError"], apart := false }
def FieldRingSaid : Prop := fieldRingRow.holds Try.pinned (OpenSpec.ofChange fieldRingSpec)

/-- ITS FALSE NEIGHBOUR: 'it returns false'. Refute it at one input. -/
def fieldRingWrong : ChangeSpec := { name := "fieldRing", fn := fun _ => fun
  | [d1, d2, d3] => { results := [.lit (.bool false)], args := [d1, d2, d3] }
  | _ => none }
def FieldRingWrongFalsely : Prop := fieldRingRow.holds Try.pinned (OpenSpec.ofChange fieldRingWrong)

/-- 'chartroomlaw03.FieldInverse': WHATEVER THE INPUT: true; the input reads as it did. -/
def fieldInverseSpec : ChangeSpec := { name := "fieldInverse", fn := fun _ => fun
  | [d1, d2] => { results := [.lit (.bool true)], args := [d1, d2] }
  | _ => none }
def fieldInverseRow : OpenClaim := { program := "ytpoclogglenhnaa", sum := "845e2d259873a0fd0a9bf1ccb8b9fc87be395fe852756a4a58ed8f8a296e23d4", func := "chartroom/chartroomlaw03.FieldInverse", spec := "fieldInverse", unfollowed := true, recurses := true, named := ["math/bits.divideError", "math/bits.overflowError"], apart := false }
def FieldInverseSaid : Prop := fieldInverseRow.holds Try.pinned (OpenSpec.ofChange fieldInverseSpec)

/-- ITS FALSE NEIGHBOUR: 'it returns false'. Refute it at one input. -/
def fieldInverseWrong : ChangeSpec := { name := "fieldInverse", fn := fun _ => fun
  | [d1, d2] => { results := [.lit (.bool false)], args := [d1, d2] }
  | _ => none }
def FieldInverseWrongFalsely : Prop := fieldInverseRow.holds Try.pinned (OpenSpec.ofChange fieldInverseWrong)

/-- 'chartroomlaw03.FieldPowers': WHATEVER THE INPUT: true; the input reads as it did. -/
def fieldPowersSpec : ChangeSpec := { name := "fieldPowers", fn := fun _ => fun
  | [d1, d2, d3] => { results := [.lit (.bool true)], args := [d1, d2, d3] }
  | _ => none }
def fieldPowersRow : OpenClaim := { program := "ytpoclogglenhnaa", sum := "845e2d259873a0fd0a9bf1ccb8b9fc87be395fe852756a4a58ed8f8a296e23d4", func := "chartroom/chartroomlaw03.FieldPowers", spec := "fieldPowers", unfollowed := true, recurses := true, named := ["math/bits.divideError", "math/bits.overflowError"], apart := false }
def FieldPowersSaid : Prop := fieldPowersRow.holds Try.pinned (OpenSpec.ofChange fieldPowersSpec)

/-- ITS FALSE NEIGHBOUR: 'it returns false'. Refute it at one input. -/
def fieldPowersWrong : ChangeSpec := { name := "fieldPowers", fn := fun _ => fun
  | [d1, d2, d3] => { results := [.lit (.bool false)], args := [d1, d2, d3] }
  | _ => none }
def FieldPowersWrongFalsely : Prop := fieldPowersRow.holds Try.pinned (OpenSpec.ofChange fieldPowersWrong)

/-- 'chartroomlaw03.FieldPolynomials': WHATEVER THE INPUT: true; the input reads as it did. -/
def fieldPolynomialsSpec : ChangeSpec := { name := "fieldPolynomials", fn := fun _ => fun
  | [d1, d2, d3, d4] => { results := [.lit (.bool true)], args := [d1, d2, d3, d4] }
  | _ => none }
def fieldPolynomialsRow : OpenClaim := { program := "ytpoclogglenhnaa", sum := "845e2d259873a0fd0a9bf1ccb8b9fc87be395fe852756a4a58ed8f8a296e23d4", func := "chartroom/chartroomlaw03.FieldPolynomials", spec := "fieldPolynomials", unfollowed := true, recurses := true, named := ["math/bits.divideError", "math/bits.overflowError"], apart := false }
def FieldPolynomialsSaid : Prop := fieldPolynomialsRow.holds Try.pinned (OpenSpec.ofChange fieldPolynomialsSpec)

/-- ITS FALSE NEIGHBOUR: 'it returns false'. Refute it at one input. -/
def fieldPolynomialsWrong : ChangeSpec := { name := "fieldPolynomials", fn := fun _ => fun
  | [d1, d2, d3, d4] => { results := [.lit (.bool false)], args := [d1, d2, d3, d4] }
  | _ => none }
def FieldPolynomialsWrongFalsely : Prop := fieldPolynomialsRow.holds Try.pinned (OpenSpec.ofChange fieldPolynomialsWrong)

/- THE SECOND FORM. 'bulk': how many values and letters a reading holds, each counted each time it is reached (what is shared counts as often as it is met; a slice's spare places count too). A statement '..UptoSaid' is the law's where the arguments, and the package variables that the reading takes, are together of bulk at most 1048576: NARROWER than '..Said'. Prove '..Said' where nothing that the law and all that it calls make is longer than what came in: it says more and counts as full. Else prove '..UptoSaid'. A law counts once. -/
mutual
def uptoBulk {H : Type} : DataW H → Nat
  | .lit (.string bytes) => bytes.length + 1
  | .lit _ => 1
  | .nil => 1
  | .ptr d => uptoBulk d + 1
  | .slice elems spare => uptoBulkAll elems + uptoBulkAll spare + 1
  | .agg parts => uptoBulkAll parts + 1
  | .iface _ d => uptoBulk d + 1
  | .map entries => uptoBulkEntries entries + 1
  | .held _ => 1
def uptoBulkAll {H : Type} : List (DataW H) → Nat
  | [] => 0
  | d :: r => uptoBulk d + uptoBulkAll r
def uptoBulkEntries {H : Type} : List (Lit × DataW H) → Nat
  | [] => 0
  | x :: r => uptoBulkEntry x + uptoBulkEntries r
def uptoBulkEntry {H : Type} : Lit × DataW H → Nat
  | (.string bytes, d) => bytes.length + uptoBulk d + 1
  | (_, d) => uptoBulk d + 1
 end
def uptoSmall : (H : Type) → List (DataW H) → Bool := fun _ ds => decide (uptoBulkAll ds ≤ 1048576)
def OpenSpec.upto (s : _root_.Go.ChangeSpec) : _root_.Go.OpenSpec := { _root_.Go.OpenSpec.ofChange s with cond := some uptoSmall }

/-- 'chartroomlaw03.FieldAddSpec', WHERE WHAT IT READS IS OF BULK AT MOST 1048576: true; the input reads as it did. -/
def fieldAddSpecUptoRow : OpenClaim := { program := "ytpoclogglenhnaa", sum := "845e2d259873a0fd0a9bf1ccb8b9fc87be395fe852756a4a58ed8f8a296e23d4", func := "chartroom/chartroomlaw03.FieldAddSpec", spec := "fieldAddSpec", unfollowed := true, recurses := true, named := ["math/bits.divideError", "math/bits.overflowError"], apart := false, narrowed := true }
def FieldAddSpecUptoSaid : Prop := fieldAddSpecUptoRow.holds Try.pinned (OpenSpec.upto fieldAddSpecSpec)

/-- 'chartroomlaw03.FieldPowSpec', WHERE WHAT IT READS IS OF BULK AT MOST 1048576: true; the input reads as it did. -/
def fieldPowSpecUptoRow : OpenClaim := { program := "ytpoclogglenhnaa", sum := "845e2d259873a0fd0a9bf1ccb8b9fc87be395fe852756a4a58ed8f8a296e23d4", func := "chartroom/chartroomlaw03.FieldPowSpec", spec := "fieldPowSpec", unfollowed := true, recurses := true, named := ["math/bits.divideError", "math/bits.overflowError"], apart := false, narrowed := true }
def FieldPowSpecUptoSaid : Prop := fieldPowSpecUptoRow.holds Try.pinned (OpenSpec.upto fieldPowSpecSpec)

/-- 'chartroomlaw03.FieldEvalSpec', WHERE WHAT IT READS IS OF BULK AT MOST 1048576: true; the input reads as it did. -/
def fieldEvalSpecUptoRow : OpenClaim := { program := "ytpoclogglenhnaa", sum := "845e2d259873a0fd0a9bf1ccb8b9fc87be395fe852756a4a58ed8f8a296e23d4", func := "chartroom/chartroomlaw03.FieldEvalSpec", spec := "fieldEvalSpec", unfollowed := true, recurses := true, named := ["math/bits.divideError", "math/bits.overflowError"], apart := false, narrowed := true }
def FieldEvalSpecUptoSaid : Prop := fieldEvalSpecUptoRow.holds Try.pinned (OpenSpec.upto fieldEvalSpecSpec)

/-- 'chartroomlaw03.FieldRing', WHERE WHAT IT READS IS OF BULK AT MOST 1048576: true; the input reads as it did. -/
def fieldRingUptoRow : OpenClaim := { program := "ytpoclogglenhnaa", sum := "845e2d259873a0fd0a9bf1ccb8b9fc87be395fe852756a4a58ed8f8a296e23d4", func := "chartroom/chartroomlaw03.FieldRing", spec := "fieldRing", unfollowed := true, recurses := true, named := ["math/bits.divideError", "math/bits.overflowError"], apart := false, narrowed := true }
def FieldRingUptoSaid : Prop := fieldRingUptoRow.holds Try.pinned (OpenSpec.upto fieldRingSpec)

/-- 'chartroomlaw03.FieldInverse', WHERE WHAT IT READS IS OF BULK AT MOST 1048576: true; the input reads as it did. -/
def fieldInverseUptoRow : OpenClaim := { program := "ytpoclogglenhnaa", sum := "845e2d259873a0fd0a9bf1ccb8b9fc87be395fe852756a4a58ed8f8a296e23d4", func := "chartroom/chartroomlaw03.FieldInverse", spec := "fieldInverse", unfollowed := true, recurses := true, named := ["math/bits.divideError", "math/bits.overflowError"], apart := false, narrowed := true }
def FieldInverseUptoSaid : Prop := fieldInverseUptoRow.holds Try.pinned (OpenSpec.upto fieldInverseSpec)

/-- 'chartroomlaw03.FieldPowers', WHERE WHAT IT READS IS OF BULK AT MOST 1048576: true; the input reads as it did. -/
def fieldPowersUptoRow : OpenClaim := { program := "ytpoclogglenhnaa", sum := "845e2d259873a0fd0a9bf1ccb8b9fc87be395fe852756a4a58ed8f8a296e23d4", func := "chartroom/chartroomlaw03.FieldPowers", spec := "fieldPowers", unfollowed := true, recurses := true, named := ["math/bits.divideError", "math/bits.overflowError"], apart := false, narrowed := true }
def FieldPowersUptoSaid : Prop := fieldPowersUptoRow.holds Try.pinned (OpenSpec.upto fieldPowersSpec)

/-- 'chartroomlaw03.FieldPolynomials', WHERE WHAT IT READS IS OF BULK AT MOST 1048576: true; the input reads as it did. -/
def fieldPolynomialsUptoRow : OpenClaim := { program := "ytpoclogglenhnaa", sum := "845e2d259873a0fd0a9bf1ccb8b9fc87be395fe852756a4a58ed8f8a296e23d4", func := "chartroom/chartroomlaw03.FieldPolynomials", spec := "fieldPolynomials", unfollowed := true, recurses := true, named := ["math/bits.divideError", "math/bits.overflowError"], apart := false, narrowed := true }
def FieldPolynomialsUptoSaid : Prop := fieldPolynomialsUptoRow.holds Try.pinned (OpenSpec.upto fieldPolynomialsSpec)

end Rows
end Go.Proofs.Ytpoclogglenhnaa
