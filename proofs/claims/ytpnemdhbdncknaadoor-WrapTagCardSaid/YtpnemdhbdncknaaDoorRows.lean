/-
  NARROWER THAN 'FOR EVERY INPUT', by the rows' own cells (each row's printed sentence says how): WrapOpens: laid · WrapBothSides: laid · WrapTag: laid · WrapSeed: laid · WrapLast: laid.
  DERIVED. THE GIVEN ROWS OF THIS SEAT. 5 by the template 'for every input the law returns true; each argument reads behind the call as it read before'; 0 by the template 'total and deterministic' (their statements: YtpnemdhbdncknaaDoorTotals.lean).
  GIVEN WITH THE SEED: the statements are not yours to turn. If you find one false, say at which input.
  Laid BY PROGRAM, IN A SANDBOX (cutbox-rows.mjs): the forced cells as the released guide's own fill.sh prints them over the translation fbc065fa6a60f100… (all of the seat's roots in one cut). By AI agents, Wed Nov 11 2026. No macro, syntax, notation, axiom, sorry.
-/
import Derived.Test.YtpnemdhbdncknaaDoorChecked
import GoSem.Claim
import GoSem.ClaimJoined
import GoSem.ClaimMapViews
import Derived.JoinedTies
import Derived.KernelRfl
namespace Go.Proofs.YtpnemdhbdncknaaDoor
/- THE CELL 'sum', in the pinned program and in every row, IS THE sha256 OF THE DUMP (.gsa) THAT YtpnemdhbdncknaaDoorProg.lean LOADS. Nothing in Lean hashes anything: it is a label: what it is worth is what the hold of that sum in a sandbox is worth. -/
noncomputable def Tryd.pinned : Pinned := { name := "ytpnemdhbdncknaadoor", sum := "fbc065fa6a60f100caedb26c6093cce45013cb9a8ebfc6b76b3f51562c252d91", checked := Tryd.checked }
namespace Rows
def none {H : Type} : Left H := { results := [], args := [] }

/- WHAT THE LISTED PACKAGE-LEVEL VARIABLES READ AS WHEN THE CALL BEGINS. Each datum BY PROGRAM (the guide's laid-datum.mjs) off the statement by which the dump's own 'gosem.cut.vars' lays the variable. In a bare row this is a premise. The card (YtpnemdhbdncknaaDoorCards.lean) ties it to the program's text. -/
def laid_chartroom_digest_roundNumbers {H : Type} : DataW H := .agg [.lit (.int .u32 1116352408), .lit (.int .u32 1899447441), .lit (.int .u32 3049323471), .lit (.int .u32 3921009573), .lit (.int .u32 961987163), .lit (.int .u32 1508970993), .lit (.int .u32 2453635748), .lit (.int .u32 2870763221), .lit (.int .u32 3624381080), .lit (.int .u32 310598401), .lit (.int .u32 607225278), .lit (.int .u32 1426881987), .lit (.int .u32 1925078388), .lit (.int .u32 2162078206), .lit (.int .u32 2614888103), .lit (.int .u32 3248222580), .lit (.int .u32 3835390401), .lit (.int .u32 4022224774), .lit (.int .u32 264347078), .lit (.int .u32 604807628), .lit (.int .u32 770255983), .lit (.int .u32 1249150122), .lit (.int .u32 1555081692), .lit (.int .u32 1996064986), .lit (.int .u32 2554220882), .lit (.int .u32 2821834349), .lit (.int .u32 2952996808), .lit (.int .u32 3210313671), .lit (.int .u32 3336571891), .lit (.int .u32 3584528711), .lit (.int .u32 113926993), .lit (.int .u32 338241895), .lit (.int .u32 666307205), .lit (.int .u32 773529912), .lit (.int .u32 1294757372), .lit (.int .u32 1396182291), .lit (.int .u32 1695183700), .lit (.int .u32 1986661051), .lit (.int .u32 2177026350), .lit (.int .u32 2456956037), .lit (.int .u32 2730485921), .lit (.int .u32 2820302411), .lit (.int .u32 3259730800), .lit (.int .u32 3345764771), .lit (.int .u32 3516065817), .lit (.int .u32 3600352804), .lit (.int .u32 4094571909), .lit (.int .u32 275423344), .lit (.int .u32 430227734), .lit (.int .u32 506948616), .lit (.int .u32 659060556), .lit (.int .u32 883997877), .lit (.int .u32 958139571), .lit (.int .u32 1322822218), .lit (.int .u32 1537002063), .lit (.int .u32 1747873779), .lit (.int .u32 1955562222), .lit (.int .u32 2024104815), .lit (.int .u32 2227730452), .lit (.int .u32 2361852424), .lit (.int .u32 2428436474), .lit (.int .u32 2756734187), .lit (.int .u32 3204031479), .lit (.int .u32 3329325298)]
def laid_chartroom_digest_start {H : Type} : DataW H := .agg [.lit (.int .u32 1779033703), .lit (.int .u32 3144134277), .lit (.int .u32 1013904242), .lit (.int .u32 2773480762), .lit (.int .u32 1359893119), .lit (.int .u32 2600822924), .lit (.int .u32 528734635), .lit (.int .u32 1541459225)]
def laid_bytes_ErrTooLarge {H : Type} : DataW H := .iface "*errors.errorString" (.ptr (.agg [.lit (.string [98, 121, 116, 101, 115, 46, 66, 117, 102, 102, 101, 114, 58, 32, 116, 111, 111, 32, 108, 97, 114, 103, 101])]))

/-- 'chartroomlaw09.WrapOpens': WHATEVER THE INPUT: true; the input reads as it did. -/
def wrapOpensSpec : ChangeSpec := { name := "wrapOpens", fn := fun _ => fun
  | [d1, d2, d3, d4] => { results := [.lit (.bool true)], args := [d1, d2, d3, d4] }
  | _ => none }
def wrapOpensRow : OpenClaim := { program := "ytpnemdhbdncknaadoor", sum := "fbc065fa6a60f100caedb26c6093cce45013cb9a8ebfc6b76b3f51562c252d91", func := "chartroom/chartroomlaw09.WrapOpens", spec := "wrapOpens", unfollowed := true, recurses := true, named := ["math/bits.divideError", "math/bits.overflowError", "bytes.ErrTooLarge", "chartroom/digest.start", "chartroom/digest.roundNumbers"], apart := false, laid := [("chartroom/digest.roundNumbers", laid_chartroom_digest_roundNumbers), ("chartroom/digest.start", laid_chartroom_digest_start), ("bytes.ErrTooLarge", laid_bytes_ErrTooLarge)] }
def WrapOpensSaid : Prop := wrapOpensRow.holds Tryd.pinned (OpenSpec.ofChange wrapOpensSpec)

/-- ITS FALSE NEIGHBOUR: 'it returns false'. Refute it at one input. -/
def wrapOpensWrong : ChangeSpec := { name := "wrapOpens", fn := fun _ => fun
  | [d1, d2, d3, d4] => { results := [.lit (.bool false)], args := [d1, d2, d3, d4] }
  | _ => none }
def WrapOpensWrongFalsely : Prop := wrapOpensRow.holds Tryd.pinned (OpenSpec.ofChange wrapOpensWrong)

/-- 'chartroomlaw09.WrapBothSides': WHATEVER THE INPUT: true; the input reads as it did. -/
def wrapBothSidesSpec : ChangeSpec := { name := "wrapBothSides", fn := fun _ => fun
  | [d1, d2, d3, d4] => { results := [.lit (.bool true)], args := [d1, d2, d3, d4] }
  | _ => none }
def wrapBothSidesRow : OpenClaim := { program := "ytpnemdhbdncknaadoor", sum := "fbc065fa6a60f100caedb26c6093cce45013cb9a8ebfc6b76b3f51562c252d91", func := "chartroom/chartroomlaw09.WrapBothSides", spec := "wrapBothSides", unfollowed := true, recurses := true, named := ["math/bits.divideError", "math/bits.overflowError", "bytes.ErrTooLarge", "chartroom/digest.start", "chartroom/digest.roundNumbers"], apart := false, laid := [("chartroom/digest.roundNumbers", laid_chartroom_digest_roundNumbers), ("chartroom/digest.start", laid_chartroom_digest_start), ("bytes.ErrTooLarge", laid_bytes_ErrTooLarge)] }
def WrapBothSidesSaid : Prop := wrapBothSidesRow.holds Tryd.pinned (OpenSpec.ofChange wrapBothSidesSpec)

/-- ITS FALSE NEIGHBOUR: 'it returns false'. Refute it at one input. -/
def wrapBothSidesWrong : ChangeSpec := { name := "wrapBothSides", fn := fun _ => fun
  | [d1, d2, d3, d4] => { results := [.lit (.bool false)], args := [d1, d2, d3, d4] }
  | _ => none }
def WrapBothSidesWrongFalsely : Prop := wrapBothSidesRow.holds Tryd.pinned (OpenSpec.ofChange wrapBothSidesWrong)

/-- 'chartroomlaw09.WrapTag': WHATEVER THE INPUT: true; the input reads as it did. -/
def wrapTagSpec : ChangeSpec := { name := "wrapTag", fn := fun _ => fun
  | [d1, d2, d3] => { results := [.lit (.bool true)], args := [d1, d2, d3] }
  | _ => none }
def wrapTagRow : OpenClaim := { program := "ytpnemdhbdncknaadoor", sum := "fbc065fa6a60f100caedb26c6093cce45013cb9a8ebfc6b76b3f51562c252d91", func := "chartroom/chartroomlaw09.WrapTag", spec := "wrapTag", unfollowed := true, recurses := true, named := ["math/bits.divideError", "math/bits.overflowError", "bytes.ErrTooLarge", "chartroom/digest.start", "chartroom/digest.roundNumbers"], apart := false, laid := [("chartroom/digest.roundNumbers", laid_chartroom_digest_roundNumbers), ("chartroom/digest.start", laid_chartroom_digest_start), ("bytes.ErrTooLarge", laid_bytes_ErrTooLarge)] }
def WrapTagSaid : Prop := wrapTagRow.holds Tryd.pinned (OpenSpec.ofChange wrapTagSpec)

/-- ITS FALSE NEIGHBOUR: 'it returns false'. Refute it at one input. -/
def wrapTagWrong : ChangeSpec := { name := "wrapTag", fn := fun _ => fun
  | [d1, d2, d3] => { results := [.lit (.bool false)], args := [d1, d2, d3] }
  | _ => none }
def WrapTagWrongFalsely : Prop := wrapTagRow.holds Tryd.pinned (OpenSpec.ofChange wrapTagWrong)

/-- 'chartroomlaw09.WrapSeed': WHATEVER THE INPUT: true; the input reads as it did. -/
def wrapSeedSpec : ChangeSpec := { name := "wrapSeed", fn := fun _ => fun
  | [d1, d2, d3, d4, d5] => { results := [.lit (.bool true)], args := [d1, d2, d3, d4, d5] }
  | _ => none }
def wrapSeedRow : OpenClaim := { program := "ytpnemdhbdncknaadoor", sum := "fbc065fa6a60f100caedb26c6093cce45013cb9a8ebfc6b76b3f51562c252d91", func := "chartroom/chartroomlaw09.WrapSeed", spec := "wrapSeed", unfollowed := true, recurses := true, named := ["math/bits.divideError", "math/bits.overflowError", "bytes.ErrTooLarge", "chartroom/digest.start", "chartroom/digest.roundNumbers"], apart := false, laid := [("chartroom/digest.roundNumbers", laid_chartroom_digest_roundNumbers), ("chartroom/digest.start", laid_chartroom_digest_start), ("bytes.ErrTooLarge", laid_bytes_ErrTooLarge)] }
def WrapSeedSaid : Prop := wrapSeedRow.holds Tryd.pinned (OpenSpec.ofChange wrapSeedSpec)

/-- ITS FALSE NEIGHBOUR: 'it returns false'. Refute it at one input. -/
def wrapSeedWrong : ChangeSpec := { name := "wrapSeed", fn := fun _ => fun
  | [d1, d2, d3, d4, d5] => { results := [.lit (.bool false)], args := [d1, d2, d3, d4, d5] }
  | _ => none }
def WrapSeedWrongFalsely : Prop := wrapSeedRow.holds Tryd.pinned (OpenSpec.ofChange wrapSeedWrong)

/-- 'chartroomlaw09.WrapLast': WHATEVER THE INPUT: true; the input reads as it did. -/
def wrapLastSpec : ChangeSpec := { name := "wrapLast", fn := fun _ => fun
  | [d1, d2, d3, d4, d5, d6] => { results := [.lit (.bool true)], args := [d1, d2, d3, d4, d5, d6] }
  | _ => none }
def wrapLastRow : OpenClaim := { program := "ytpnemdhbdncknaadoor", sum := "fbc065fa6a60f100caedb26c6093cce45013cb9a8ebfc6b76b3f51562c252d91", func := "chartroom/chartroomlaw09.WrapLast", spec := "wrapLast", unfollowed := true, recurses := true, named := ["math/bits.divideError", "math/bits.overflowError", "bytes.ErrTooLarge", "chartroom/digest.start", "chartroom/digest.roundNumbers"], apart := false, laid := [("chartroom/digest.roundNumbers", laid_chartroom_digest_roundNumbers), ("chartroom/digest.start", laid_chartroom_digest_start), ("bytes.ErrTooLarge", laid_bytes_ErrTooLarge)] }
def WrapLastSaid : Prop := wrapLastRow.holds Tryd.pinned (OpenSpec.ofChange wrapLastSpec)

/-- ITS FALSE NEIGHBOUR: 'it returns false'. Refute it at one input. -/
def wrapLastWrong : ChangeSpec := { name := "wrapLast", fn := fun _ => fun
  | [d1, d2, d3, d4, d5, d6] => { results := [.lit (.bool false)], args := [d1, d2, d3, d4, d5, d6] }
  | _ => none }
def WrapLastWrongFalsely : Prop := wrapLastRow.holds Tryd.pinned (OpenSpec.ofChange wrapLastWrong)

/- THE SECOND FORM. 'bulk': how many values and letters a reading holds, each counted each time it is reached (what is shared counts as often as it is met; a slice's spare places count too). A statement '..UptoSaid' is the law's where the arguments, and the package variables that the reading takes, are together of bulk at most 1048576: NARROWER than '..Said'. Prove '..Said' where nothing that the law and all that it calls make is longer than what came in: it says more and counts as full. Else prove '..UptoSaid'. A law counts once. -/
mutual
def uptoBulk {H : Type} : DataW H → Nat
  | .lit (.string bytes) => bytes.length + 1
  | .lit _ => 1
  | .nil => 1
  | .ptr d => uptoBulk d + 1
  | .slice elems spare => uptoBulkAll elems + uptoBulkAll spare + 1
  | .agg parts => uptoBulkAll parts + 1
  | .iface _ d => uptoBulk d + 1
  | .map entries => uptoBulkEntries entries + 1
  | .held _ => 1
def uptoBulkAll {H : Type} : List (DataW H) → Nat
  | [] => 0
  | d :: r => uptoBulk d + uptoBulkAll r
def uptoBulkEntries {H : Type} : List (Lit × DataW H) → Nat
  | [] => 0
  | x :: r => uptoBulkEntry x + uptoBulkEntries r
def uptoBulkEntry {H : Type} : Lit × DataW H → Nat
  | (.string bytes, d) => bytes.length + uptoBulk d + 1
  | (_, d) => uptoBulk d + 1
 end
def uptoSmall : (H : Type) → List (DataW H) → Bool := fun _ ds => decide (uptoBulkAll ds ≤ 1048576)
def OpenSpec.upto (s : _root_.Go.ChangeSpec) : _root_.Go.OpenSpec := { _root_.Go.OpenSpec.ofChange s with cond := some uptoSmall }

/-- 'chartroomlaw09.WrapOpens', WHERE WHAT IT READS IS OF BULK AT MOST 1048576: true; the input reads as it did. -/
def wrapOpensUptoRow : OpenClaim := { program := "ytpnemdhbdncknaadoor", sum := "fbc065fa6a60f100caedb26c6093cce45013cb9a8ebfc6b76b3f51562c252d91", func := "chartroom/chartroomlaw09.WrapOpens", spec := "wrapOpens", unfollowed := true, recurses := true, named := ["math/bits.divideError", "math/bits.overflowError", "bytes.ErrTooLarge", "chartroom/digest.start", "chartroom/digest.roundNumbers"], apart := false, laid := [("chartroom/digest.roundNumbers", laid_chartroom_digest_roundNumbers), ("chartroom/digest.start", laid_chartroom_digest_start), ("bytes.ErrTooLarge", laid_bytes_ErrTooLarge)], narrowed := true }
def WrapOpensUptoSaid : Prop := wrapOpensUptoRow.holds Tryd.pinned (OpenSpec.upto wrapOpensSpec)

/-- 'chartroomlaw09.WrapBothSides', WHERE WHAT IT READS IS OF BULK AT MOST 1048576: true; the input reads as it did. -/
def wrapBothSidesUptoRow : OpenClaim := { program := "ytpnemdhbdncknaadoor", sum := "fbc065fa6a60f100caedb26c6093cce45013cb9a8ebfc6b76b3f51562c252d91", func := "chartroom/chartroomlaw09.WrapBothSides", spec := "wrapBothSides", unfollowed := true, recurses := true, named := ["math/bits.divideError", "math/bits.overflowError", "bytes.ErrTooLarge", "chartroom/digest.start", "chartroom/digest.roundNumbers"], apart := false, laid := [("chartroom/digest.roundNumbers", laid_chartroom_digest_roundNumbers), ("chartroom/digest.start", laid_chartroom_digest_start), ("bytes.ErrTooLarge", laid_bytes_ErrTooLarge)], narrowed := true }
def WrapBothSidesUptoSaid : Prop := wrapBothSidesUptoRow.holds Tryd.pinned (OpenSpec.upto wrapBothSidesSpec)

/-- 'chartroomlaw09.WrapTag', WHERE WHAT IT READS IS OF BULK AT MOST 1048576: true; the input reads as it did. -/
def wrapTagUptoRow : OpenClaim := { program := "ytpnemdhbdncknaadoor", sum := "fbc065fa6a60f100caedb26c6093cce45013cb9a8ebfc6b76b3f51562c252d91", func := "chartroom/chartroomlaw09.WrapTag", spec := "wrapTag", unfollowed := true, recurses := true, named := ["math/bits.divideError", "math/bits.overflowError", "bytes.ErrTooLarge", "chartroom/digest.start", "chartroom/digest.roundNumbers"], apart := false, laid := [("chartroom/digest.roundNumbers", laid_chartroom_digest_roundNumbers), ("chartroom/digest.start", laid_chartroom_digest_start), ("bytes.ErrTooLarge", laid_bytes_ErrTooLarge)], narrowed := true }
def WrapTagUptoSaid : Prop := wrapTagUptoRow.holds Tryd.pinned (OpenSpec.upto wrapTagSpec)

/-- 'chartroomlaw09.WrapSeed', WHERE WHAT IT READS IS OF BULK AT MOST 1048576: true; the input reads as it did. -/
def wrapSeedUptoRow : OpenClaim := { program := "ytpnemdhbdncknaadoor", sum := "fbc065fa6a60f100caedb26c6093cce45013cb9a8ebfc6b76b3f51562c252d91", func := "chartroom/chartroomlaw09.WrapSeed", spec := "wrapSeed", unfollowed := true, recurses := true, named := ["math/bits.divideError", "math/bits.overflowError", "bytes.ErrTooLarge", "chartroom/digest.start", "chartroom/digest.roundNumbers"], apart := false, laid := [("chartroom/digest.roundNumbers", laid_chartroom_digest_roundNumbers), ("chartroom/digest.start", laid_chartroom_digest_start), ("bytes.ErrTooLarge", laid_bytes_ErrTooLarge)], narrowed := true }
def WrapSeedUptoSaid : Prop := wrapSeedUptoRow.holds Tryd.pinned (OpenSpec.upto wrapSeedSpec)

/-- 'chartroomlaw09.WrapLast', WHERE WHAT IT READS IS OF BULK AT MOST 1048576: true; the input reads as it did. -/
def wrapLastUptoRow : OpenClaim := { program := "ytpnemdhbdncknaadoor", sum := "fbc065fa6a60f100caedb26c6093cce45013cb9a8ebfc6b76b3f51562c252d91", func := "chartroom/chartroomlaw09.WrapLast", spec := "wrapLast", unfollowed := true, recurses := true, named := ["math/bits.divideError", "math/bits.overflowError", "bytes.ErrTooLarge", "chartroom/digest.start", "chartroom/digest.roundNumbers"], apart := false, laid := [("chartroom/digest.roundNumbers", laid_chartroom_digest_roundNumbers), ("chartroom/digest.start", laid_chartroom_digest_start), ("bytes.ErrTooLarge", laid_bytes_ErrTooLarge)], narrowed := true }
def WrapLastUptoSaid : Prop := wrapLastUptoRow.holds Tryd.pinned (OpenSpec.upto wrapLastSpec)

end Rows
end Go.Proofs.YtpnemdhbdncknaaDoor
