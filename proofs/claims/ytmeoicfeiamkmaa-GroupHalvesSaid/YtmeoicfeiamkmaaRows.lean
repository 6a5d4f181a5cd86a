/-
  No cell of these rows narrows 'for every input' (looked for: loops, veiled, ifaces, maps, wideKeys, modest, calm, conditions, laid).
  DERIVED. THE GIVEN ROWS OF THIS SEAT. 5 by the template 'for every input the law returns true; each argument reads behind the call as it read before'; 0 by the template 'total and deterministic' (their statements: YtmeoicfeiamkmaaTotals.lean).
  GIVEN WITH THE SEED: the statements are not yours to turn. If you find one false, say at which input.
  Laid BY PROGRAM, IN A SANDBOX (cutbox-rows.mjs): the forced cells as the released guide's own fill.sh prints them over the translation 510b31f530bc3aaf… (all of the seat's roots in one cut). By AI agents, Wed Nov 11 2026. No macro, syntax, notation, axiom, sorry.
-/
import Derived.Test.YtmeoicfeiamkmaaChecked
import GoSem.Claim
import GoSem.ClaimJoined
import GoSem.ClaimMapViews
import Derived.JoinedTies
import Derived.KernelRfl
namespace Go.Proofs.Ytmeoicfeiamkmaa
/- THE CELL 'sum', in the pinned program and in every row, IS THE sha256 OF THE DUMP (.gsa) THAT YtmeoicfeiamkmaaProg.lean LOADS. Nothing in Lean hashes anything: it is a label: what it is worth is what the hold of that sum in a sandbox is worth. -/
noncomputable def Try.pinned : Pinned := { name := "ytmeoicfeiamkmaa", sum := "510b31f530bc3aaf11dd707be7d40b3744e52b2f5332c2fb4c0a60eee6e63e95", checked := Try.checked }
namespace Rows
def none {H : Type} : Left H := { results := [], args := [] }

/-- 'chartroomlaw04.GroupSpec': WHATEVER THE INPUT: true; the input reads as it did. -/
def groupSpecSpec : ChangeSpec := { name := "groupSpec", fn := fun _ => fun
  | [d1, d2, d3] => { results := [.lit (.bool true)], args := [d1, d2, d3] }
  | _ => none }
def groupSpecRow : OpenClaim := { program := "ytmeoicfeiamkmaa", sum := "510b31f530bc3aaf11dd707be7d40b3744e52b2f5332c2fb4c0a60eee6e63e95", func := "chartroom/chartroomlaw04.GroupSpec", spec := "groupSpec", unfollowed := true, recurses := true, named := ["math/bits.divideError", "math/bits.overflowError"], apart := false }
def GroupSpecSaid : Prop := groupSpecRow.holds Try.pinned (OpenSpec.ofChange groupSpecSpec)

/-- ITS FALSE NEIGHBOUR: 'it returns false'. Refute it at one input. -/
def groupSpecWrong : ChangeSpec := { name := "groupSpec", fn := fun _ => fun
  | [d1, d2, d3] => { results := [.lit (.bool false)], args := [d1, d2, d3] }
  | _ => none }
def GroupSpecWrongFalsely : Prop := groupSpecRow.holds Try.pinned (OpenSpec.ofChange groupSpecWrong)

/-- 'chartroomlaw04.GroupAxioms': WHATEVER THE INPUT: true; the input reads as it did. -/
def groupAxiomsSpec : ChangeSpec := { name := "groupAxioms", fn := fun _ => fun
  | [d1, d2, d3] => { results := [.lit (.bool true)], args := [d1, d2, d3] }
  | _ => none }
def groupAxiomsRow : OpenClaim := { program := "ytmeoicfeiamkmaa", sum := "510b31f530bc3aaf11dd707be7d40b3744e52b2f5332c2fb4c0a60eee6e63e95", func := "chartroom/chartroomlaw04.GroupAxioms", spec := "groupAxioms", unfollowed := true, recurses := true, named := ["math/bits.divideError", "math/bits.overflowError"], apart := false }
def GroupAxiomsSaid : Prop := groupAxiomsRow.holds Try.pinned (OpenSpec.ofChange groupAxiomsSpec)

/-- ITS FALSE NEIGHBOUR: 'it returns false'. Refute it at one input. -/
def groupAxiomsWrong : ChangeSpec := { name := "groupAxioms", fn := fun _ => fun
  | [d1, d2, d3] => { results := [.lit (.bool false)], args := [d1, d2, d3] }
  | _ => none }
def GroupAxiomsWrongFalsely : Prop := groupAxiomsRow.holds Try.pinned (OpenSpec.ofChange groupAxiomsWrong)

/-- 'chartroomlaw04.GroupPowers': WHATEVER THE INPUT: true; the input reads as it did. -/
def groupPowersSpec : ChangeSpec := { name := "groupPowers", fn := fun _ => fun
  | [d1, d2, d3] => { results := [.lit (.bool true)], args := [d1, d2, d3] }
  | _ => none }
def groupPowersRow : OpenClaim := { program := "ytmeoicfeiamkmaa", sum := "510b31f530bc3aaf11dd707be7d40b3744e52b2f5332c2fb4c0a60eee6e63e95", func := "chartroom/chartroomlaw04.GroupPowers", spec := "groupPowers", unfollowed := true, recurses := true, named := ["math/bits.divideError", "math/bits.overflowError"], apart := false }
def GroupPowersSaid : Prop := groupPowersRow.holds Try.pinned (OpenSpec.ofChange groupPowersSpec)

/-- ITS FALSE NEIGHBOUR: 'it returns false'. Refute it at one input. -/
def groupPowersWrong : ChangeSpec := { name := "groupPowers", fn := fun _ => fun
  | [d1, d2, d3] => { results := [.lit (.bool false)], args := [d1, d2, d3] }
  | _ => none }
def GroupPowersWrongFalsely : Prop := groupPowersRow.holds Try.pinned (OpenSpec.ofChange groupPowersWrong)

/-- 'chartroomlaw04.GroupRoots': WHATEVER THE INPUT: true; the input reads as it did. -/
def groupRootsSpec : ChangeSpec := { name := "groupRoots", fn := fun _ => fun
  | [d1, d2, d3] => { results := [.lit (.bool true)], args := [d1, d2, d3] }
  | _ => none }
def groupRootsRow : OpenClaim := { program := "ytmeoicfeiamkmaa", sum := "510b31f530bc3aaf11dd707be7d40b3744e52b2f5332c2fb4c0a60eee6e63e95", func := "chartroom/chartroomlaw04.GroupRoots", spec := "groupRoots", unfollowed := true, recurses := true, named := ["math/bits.divideError", "math/bits.overflowError"], apart := false }
def GroupRootsSaid : Prop := groupRootsRow.holds Try.pinned (OpenSpec.ofChange groupRootsSpec)

/-- ITS FALSE NEIGHBOUR: 'it returns false'. Refute it at one input. -/
def groupRootsWrong : ChangeSpec := { name := "groupRoots", fn := fun _ => fun
  | [d1, d2, d3] => { results := [.lit (.bool false)], args := [d1, d2, d3] }
  | _ => none }
def GroupRootsWrongFalsely : Prop := groupRootsRow.holds Try.pinned (OpenSpec.ofChange groupRootsWrong)

/-- 'chartroomlaw04.GroupHalves': WHATEVER THE INPUT: true; the input reads as it did. -/
def groupHalvesSpec : ChangeSpec := { name := "groupHalves", fn := fun _ => fun
  | [d] => { results := [.lit (.bool true)], args := [d] }
  | _ => none }
def groupHalvesRow : OpenClaim := { program := "ytmeoicfeiamkmaa", sum := "510b31f530bc3aaf11dd707be7d40b3744e52b2f5332c2fb4c0a60eee6e63e95", func := "chartroom/chartroomlaw04.GroupHalves", spec := "groupHalves", unfollowed := true, recurses := true, named := ["math/bits.divideError", "math/bits.overflowError"], apart := false }
def GroupHalvesSaid : Prop := groupHalvesRow.holds Try.pinned (OpenSpec.ofChange groupHalvesSpec)

/-- ITS FALSE NEIGHBOUR: 'it returns false'. Refute it at one input. -/
def groupHalvesWrong : ChangeSpec := { name := "groupHalves", fn := fun _ => fun
  | [d] => { results := [.lit (.bool false)], args := [d] }
  | _ => none }
def GroupHalvesWrongFalsely : Prop := groupHalvesRow.holds Try.pinned (OpenSpec.ofChange groupHalvesWrong)

/- THE SECOND FORM. 'bulk': how many values and letters a reading holds, each counted each time it is reached (what is shared counts as often as it is met; a slice's spare places count too). A statement '..UptoSaid' is the law's where the arguments, and the package variables that the reading takes, are together of bulk at most 1048576: NARROWER than '..Said'. Prove '..Said' where nothing that the law and all that it calls make is longer than what came in: it says more and counts as full. Else prove '..UptoSaid'. A law counts once. -/
mutual
def uptoBulk {H : Type} : DataW H → Nat
  | .lit (.string bytes) => bytes.length + 1
  | .lit _ => 1
  | .nil => 1
  | .ptr d => uptoBulk d + 1
  | .slice elems spare => uptoBulkAll elems + uptoBulkAll spare + 1
  | .agg parts => uptoBulkAll parts + 1
  | .iface _ d => uptoBulk d + 1
  | .map entries => uptoBulkEntries entries + 1
  | .held _ => 1
def uptoBulkAll {H : Type} : List (DataW H) → Nat
  | [] => 0
  | d :: r => uptoBulk d + uptoBulkAll r
def uptoBulkEntries {H : Type} : List (Lit × DataW H) → Nat
  | [] => 0
  | x :: r => uptoBulkEntry x + uptoBulkEntries r
def uptoBulkEntry {H : Type} : Lit × DataW H → Nat
  | (.string bytes, d) => bytes.length + uptoBulk d + 1
  | (_, d) => uptoBulk d + 1
 end
def uptoSmall : (H : Type) → List (DataW H) → Bool := fun _ ds => decide (uptoBulkAll ds ≤ 1048576)
def OpenSpec.upto (s : _root_.Go.ChangeSpec) : _root_.Go.OpenSpec := { _root_.Go.OpenSpec.ofChange s with cond := some uptoSmall }

/-- 'chartroomlaw04.GroupSpec', WHERE WHAT IT READS IS OF BULK AT MOST 1048576: true; the input reads as it did. -/
def groupSpecUptoRow : OpenClaim := { program := "ytmeoicfeiamkmaa", sum := "510b31f530bc3aaf11dd707be7d40b3744e52b2f5332c2fb4c0a60eee6e63e95", func := "chartroom/chartroomlaw04.GroupSpec", spec := "groupSpec", unfollowed := true, recurses := true, named := ["math/bits.divideError", "math/bits.overflowError"], apart := false, narrowed := true }
def GroupSpecUptoSaid : Prop := groupSpecUptoRow.holds Try.pinned (OpenSpec.upto groupSpecSpec)

/-- 'chartroomlaw04.GroupAxioms', WHERE WHAT IT READS IS OF BULK AT MOST 1048576: true; the input reads as it did. -/
def groupAxiomsUptoRow : OpenClaim := { program := "ytmeoicfeiamkmaa", sum := "510b31f530bc3aaf11dd707be7d40b3744e52b2f5332c2fb4c0a60eee6e63e95", func := "chartroom/chartroomlaw04.GroupAxioms", spec := "groupAxioms", unfollowed := true, recurses := true, named := ["math/bits.divideError", "math/bits.overflowError"], apart := false, narrowed := true }
def GroupAxiomsUptoSaid : Prop := groupAxiomsUptoRow.holds Try.pinned (OpenSpec.upto groupAxiomsSpec)

/-- 'chartroomlaw04.GroupPowers', WHERE WHAT IT READS IS OF BULK AT MOST 1048576: true; the input reads as it did. -/
def groupPowersUptoRow : OpenClaim := { program := "ytmeoicfeiamkmaa", sum := "510b31f530bc3aaf11dd707be7d40b3744e52b2f5332c2fb4c0a60eee6e63e95", func := "chartroom/chartroomlaw04.GroupPowers", spec := "groupPowers", unfollowed := true, recurses := true, named := ["math/bits.divideError", "math/bits.overflowError"], apart := false, narrowed := true }
def GroupPowersUptoSaid : Prop := groupPowersUptoRow.holds Try.pinned (OpenSpec.upto groupPowersSpec)

/-- 'chartroomlaw04.GroupRoots', WHERE WHAT IT READS IS OF BULK AT MOST 1048576: true; the input reads as it did. -/
def groupRootsUptoRow : OpenClaim := { program := "ytmeoicfeiamkmaa", sum := "510b31f530bc3aaf11dd707be7d40b3744e52b2f5332c2fb4c0a60eee6e63e95", func := "chartroom/chartroomlaw04.GroupRoots", spec := "groupRoots", unfollowed := true, recurses := true, named := ["math/bits.divideError", "math/bits.overflowError"], apart := false, narrowed := true }
def GroupRootsUptoSaid : Prop := groupRootsUptoRow.holds Try.pinned (OpenSpec.upto groupRootsSpec)

/-- 'chartroomlaw04.GroupHalves', WHERE WHAT IT READS IS OF BULK AT MOST 1048576: true; the input reads as it did. -/
def groupHalvesUptoRow : OpenClaim := { program := "ytmeoicfeiamkmaa", sum := "510b31f530bc3aaf11dd707be7d40b3744e52b2f5332c2fb4c0a60eee6e63e95", func := "chartroom/chartroomlaw04.GroupHalves", spec := "groupHalves", unfollowed := true, recurses := true, named := ["math/bits.divideError", "math/bits.overflowError"], apart := false, narrowed := true }
def GroupHalvesUptoSaid : Prop := groupHalvesUptoRow.holds Try.pinned (OpenSpec.upto groupHalvesSpec)

end Rows
end Go.Proofs.Ytmeoicfeiamkmaa
