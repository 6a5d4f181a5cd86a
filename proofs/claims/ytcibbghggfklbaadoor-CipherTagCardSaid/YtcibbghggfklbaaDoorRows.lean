/-
  NARROWER THAN 'FOR EVERY INPUT', by the rows' own cells (each row's printed sentence says how): CipherBlockSpec: laid · CipherStreamSpec: laid · CipherSealSpec: laid · CipherBack: laid · CipherPlaces: laid · CipherBlocks: laid · CipherTag: laid · CipherLong: laid.
  DERIVED. THE GIVEN ROWS OF THIS SEAT. 8 by the template 'for every input the law returns true; each argument reads behind the call as it read before'; 0 by the template 'total and deterministic' (their statements: YtcibbghggfklbaaDoorTotals.lean).
  GIVEN WITH THE SEED: the statements are not yours to turn. If you find one false, say at which input.
  Laid BY PROGRAM, IN A SANDBOX (cutbox-rows.mjs): the forced cells as the released guide's own fill.sh prints them over the translation 12c54316cf22df44… (all of the seat's roots in one cut). By AI agents, Wed Nov 11 2026. No macro, syntax, notation, axiom, sorry.
-/
import Derived.Test.YtcibbghggfklbaaDoorChecked
import GoSem.Claim
import GoSem.ClaimJoined
import GoSem.ClaimMapViews
import Derived.JoinedTies
import Derived.KernelRfl
namespace Go.Proofs.YtcibbghggfklbaaDoor
/- THE CELL 'sum', in the pinned program and in every row, IS THE sha256 OF THE DUMP (.gsa) THAT YtcibbghggfklbaaDoorProg.lean LOADS. Nothing in Lean hashes anything: it is a label: what it is worth is what the hold of that sum in a sandbox is worth. -/
noncomputable def Tryd.pinned : Pinned := { name := "ytcibbghggfklbaadoor", sum := "12c54316cf22df44d93a8565b2e2436843d7725ec62f8e107cf70a7e2c4dfbe1", checked := Tryd.checked }
namespace Rows
def none {H : Type} : Left H := { results := [], args := [] }

/- WHAT THE LISTED PACKAGE-LEVEL VARIABLES READ AS WHEN THE CALL BEGINS. Each datum BY PROGRAM (the guide's laid-datum.mjs) off the statement by which the dump's own 'gosem.cut.vars' lays the variable. In a bare row this is a premise. The card (YtcibbghggfklbaaDoorCards.lean) ties it to the program's text. -/
def laid_chartroom_digest_roundNumbers {H : Type} : DataW H := .agg [.lit (.int .u32 1116352408), .lit (.int .u32 1899447441), .lit (.int .u32 3049323471), .lit (.int .u32 3921009573), .lit (.int .u32 961987163), .lit (.int .u32 1508970993), .lit (.int .u32 2453635748), .lit (.int .u32 2870763221), .lit (.int .u32 3624381080), .lit (.int .u32 310598401), .lit (.int .u32 607225278), .lit (.int .u32 1426881987), .lit (.int .u32 1925078388), .lit (.int .u32 2162078206), .lit (.int .u32 2614888103), .lit (.int .u32 3248222580), .lit (.int .u32 3835390401), .lit (.int .u32 4022224774), .lit (.int .u32 264347078), .lit (.int .u32 604807628), .lit (.int .u32 770255983), .lit (.int .u32 1249150122), .lit (.int .u32 1555081692), .lit (.int .u32 1996064986), .lit (.int .u32 2554220882), .lit (.int .u32 2821834349), .lit (.int .u32 2952996808), .lit (.int .u32 3210313671), .lit (.int .u32 3336571891), .lit (.int .u32 3584528711), .lit (.int .u32 113926993), .lit (.int .u32 338241895), .lit (.int .u32 666307205), .lit (.int .u32 773529912), .lit (.int .u32 1294757372), .lit (.int .u32 1396182291), .lit (.int .u32 1695183700), .lit (.int .u32 1986661051), .lit (.int .u32 2177026350), .lit (.int .u32 2456956037), .lit (.int .u32 2730485921), .lit (.int .u32 2820302411), .lit (.int .u32 3259730800), .lit (.int .u32 3345764771), .lit (.int .u32 3516065817), .lit (.int .u32 3600352804), .lit (.int .u32 4094571909), .lit (.int .u32 275423344), .lit (.int .u32 430227734), .lit (.int .u32 506948616), .lit (.int .u32 659060556), .lit (.int .u32 883997877), .lit (.int .u32 958139571), .lit (.int .u32 1322822218), .lit (.int .u32 1537002063), .lit (.int .u32 1747873779), .lit (.int .u32 1955562222), .lit (.int .u32 2024104815), .lit (.int .u32 2227730452), .lit (.int .u32 2361852424), .lit (.int .u32 2428436474), .lit (.int .u32 2756734187), .lit (.int .u32 3204031479), .lit (.int .u32 3329325298)]
def laid_chartroom_digest_start {H : Type} : DataW H := .agg [.lit (.int .u32 1779033703), .lit (.int .u32 3144134277), .lit (.int .u32 1013904242), .lit (.int .u32 2773480762), .lit (.int .u32 1359893119), .lit (.int .u32 2600822924), .lit (.int .u32 528734635), .lit (.int .u32 1541459225)]

/-- 'chartroomlaw06.CipherBlockSpec': WHATEVER THE INPUT: true; the input reads as it did. -/
def cipherBlockSpecSpec : ChangeSpec := { name := "cipherBlockSpec", fn := fun _ => fun
  | [d1, d2, d3] => { results := [.lit (.bool true)], args := [d1, d2, d3] }
  | _ => none }
def cipherBlockSpecRow : OpenClaim := { program := "ytcibbghggfklbaadoor", sum := "12c54316cf22df44d93a8565b2e2436843d7725ec62f8e107cf70a7e2c4dfbe1", func := "chartroom/chartroomlaw06.CipherBlockSpec", spec := "cipherBlockSpec", unfollowed := true, recurses := true, named := ["chartroom/digest.start", "chartroom/digest.roundNumbers"], apart := false, laid := [("chartroom/digest.roundNumbers", laid_chartroom_digest_roundNumbers), ("chartroom/digest.start", laid_chartroom_digest_start)] }
def CipherBlockSpecSaid : Prop := cipherBlockSpecRow.holds Tryd.pinned (OpenSpec.ofChange cipherBlockSpecSpec)

/-- ITS FALSE NEIGHBOUR: 'it returns false'. Refute it at one input. -/
def cipherBlockSpecWrong : ChangeSpec := { name := "cipherBlockSpec", fn := fun _ => fun
  | [d1, d2, d3] => { results := [.lit (.bool false)], args := [d1, d2, d3] }
  | _ => none }
def CipherBlockSpecWrongFalsely : Prop := cipherBlockSpecRow.holds Tryd.pinned (OpenSpec.ofChange cipherBlockSpecWrong)

/-- 'chartroomlaw06.CipherStreamSpec': WHATEVER THE INPUT: true; the input reads as it did. -/
def cipherStreamSpecSpec : ChangeSpec := { name := "cipherStreamSpec", fn := fun _ => fun
  | [d1, d2, d3] => { results := [.lit (.bool true)], args := [d1, d2, d3] }
  | _ => none }
def cipherStreamSpecRow : OpenClaim := { program := "ytcibbghggfklbaadoor", sum := "12c54316cf22df44d93a8565b2e2436843d7725ec62f8e107cf70a7e2c4dfbe1", func := "chartroom/chartroomlaw06.CipherStreamSpec", spec := "cipherStreamSpec", unfollowed := true, recurses := true, named := ["chartroom/digest.start", "chartroom/digest.roundNumbers"], apart := false, laid := [("chartroom/digest.roundNumbers", laid_chartroom_digest_roundNumbers), ("chartroom/digest.start", laid_chartroom_digest_start)] }
def CipherStreamSpecSaid : Prop := cipherStreamSpecRow.holds Tryd.pinned (OpenSpec.ofChange cipherStreamSpecSpec)

/-- ITS FALSE NEIGHBOUR: 'it returns false'. Refute it at one input. -/
def cipherStreamSpecWrong : ChangeSpec := { name := "cipherStreamSpec", fn := fun _ => fun
  | [d1, d2, d3] => { results := [.lit (.bool false)], args := [d1, d2, d3] }
  | _ => none }
def CipherStreamSpecWrongFalsely : Prop := cipherStreamSpecRow.holds Tryd.pinned (OpenSpec.ofChange cipherStreamSpecWrong)

/-- 'chartroomlaw06.CipherSealSpec': WHATEVER THE INPUT: true; the input reads as it did. -/
def cipherSealSpecSpec : ChangeSpec := { name := "cipherSealSpec", fn := fun _ => fun
  | [d1, d2, d3, d4] => { results := [.lit (.bool true)], args := [d1, d2, d3, d4] }
  | _ => none }
def cipherSealSpecRow : OpenClaim := { program := "ytcibbghggfklbaadoor", sum := "12c54316cf22df44d93a8565b2e2436843d7725ec62f8e107cf70a7e2c4dfbe1", func := "chartroom/chartroomlaw06.CipherSealSpec", spec := "cipherSealSpec", unfollowed := true, recurses := true, named := ["chartroom/digest.start", "chartroom/digest.roundNumbers"], apart := false, laid := [("chartroom/digest.roundNumbers", laid_chartroom_digest_roundNumbers), ("chartroom/digest.start", laid_chartroom_digest_start)] }
def CipherSealSpecSaid : Prop := cipherSealSpecRow.holds Tryd.pinned (OpenSpec.ofChange cipherSealSpecSpec)

/-- ITS FALSE NEIGHBOUR: 'it returns false'. Refute it at one input. -/
def cipherSealSpecWrong : ChangeSpec := { name := "cipherSealSpec", fn := fun _ => fun
  | [d1, d2, d3, d4] => { results := [.lit (.bool false)], args := [d1, d2, d3, d4] }
  | _ => none }
def CipherSealSpecWrongFalsely : Prop := cipherSealSpecRow.holds Tryd.pinned (OpenSpec.ofChange cipherSealSpecWrong)

/-- 'chartroomlaw06.CipherBack': WHATEVER THE INPUT: true; the input reads as it did. -/
def cipherBackSpec : ChangeSpec := { name := "cipherBack", fn := fun _ => fun
  | [d1, d2, d3, d4, d5] => { results := [.lit (.bool true)], args := [d1, d2, d3, d4, d5] }
  | _ => none }
def cipherBackRow : OpenClaim := { program := "ytcibbghggfklbaadoor", sum := "12c54316cf22df44d93a8565b2e2436843d7725ec62f8e107cf70a7e2c4dfbe1", func := "chartroom/chartroomlaw06.CipherBack", spec := "cipherBack", unfollowed := true, recurses := true, named := ["chartroom/digest.start", "chartroom/digest.roundNumbers"], apart := false, laid := [("chartroom/digest.roundNumbers", laid_chartroom_digest_roundNumbers), ("chartroom/digest.start", laid_chartroom_digest_start)] }
def CipherBackSaid : Prop := cipherBackRow.holds Tryd.pinned (OpenSpec.ofChange cipherBackSpec)

/-- ITS FALSE NEIGHBOUR: 'it returns false'. Refute it at one input. -/
def cipherBackWrong : ChangeSpec := { name := "cipherBack", fn := fun _ => fun
  | [d1, d2, d3, d4, d5] => { results := [.lit (.bool false)], args := [d1, d2, d3, d4, d5] }
  | _ => none }
def CipherBackWrongFalsely : Prop := cipherBackRow.holds Tryd.pinned (OpenSpec.ofChange cipherBackWrong)

/-- 'chartroomlaw06.CipherPlaces': WHATEVER THE INPUT: true; the input reads as it did. -/
def cipherPlacesSpec : ChangeSpec := { name := "cipherPlaces", fn := fun _ => fun
  | [d1, d2, d3, d4] => { results := [.lit (.bool true)], args := [d1, d2, d3, d4] }
  | _ => none }
def cipherPlacesRow : OpenClaim := { program := "ytcibbghggfklbaadoor", sum := "12c54316cf22df44d93a8565b2e2436843d7725ec62f8e107cf70a7e2c4dfbe1", func := "chartroom/chartroomlaw06.CipherPlaces", spec := "cipherPlaces", unfollowed := true, recurses := true, named := ["chartroom/digest.start", "chartroom/digest.roundNumbers"], apart := false, laid := [("chartroom/digest.roundNumbers", laid_chartroom_digest_roundNumbers), ("chartroom/digest.start", laid_chartroom_digest_start)] }
def CipherPlacesSaid : Prop := cipherPlacesRow.holds Tryd.pinned (OpenSpec.ofChange cipherPlacesSpec)

/-- ITS FALSE NEIGHBOUR: 'it returns false'. Refute it at one input. -/
def cipherPlacesWrong : ChangeSpec := { name := "cipherPlaces", fn := fun _ => fun
  | [d1, d2, d3, d4] => { results := [.lit (.bool false)], args := [d1, d2, d3, d4] }
  | _ => none }
def CipherPlacesWrongFalsely : Prop := cipherPlacesRow.holds Tryd.pinned (OpenSpec.ofChange cipherPlacesWrong)

/-- 'chartroomlaw06.CipherBlocks': WHATEVER THE INPUT: true; the input reads as it did. -/
def cipherBlocksSpec : ChangeSpec := { name := "cipherBlocks", fn := fun _ => fun
  | [d1, d2, d3] => { results := [.lit (.bool true)], args := [d1, d2, d3] }
  | _ => none }
def cipherBlocksRow : OpenClaim := { program := "ytcibbghggfklbaadoor", sum := "12c54316cf22df44d93a8565b2e2436843d7725ec62f8e107cf70a7e2c4dfbe1", func := "chartroom/chartroomlaw06.CipherBlocks", spec := "cipherBlocks", unfollowed := true, recurses := true, named := ["chartroom/digest.start", "chartroom/digest.roundNumbers"], apart := false, laid := [("chartroom/digest.roundNumbers", laid_chartroom_digest_roundNumbers), ("chartroom/digest.start", laid_chartroom_digest_start)] }
def CipherBlocksSaid : Prop := cipherBlocksRow.holds Tryd.pinned (OpenSpec.ofChange cipherBlocksSpec)

/-- ITS FALSE NEIGHBOUR: 'it returns false'. Refute it at one input. -/
def cipherBlocksWrong : ChangeSpec := { name := "cipherBlocks", fn := fun _ => fun
  | [d1, d2, d3] => { results := [.lit (.bool false)], args := [d1, d2, d3] }
  | _ => none }
def CipherBlocksWrongFalsely : Prop := cipherBlocksRow.holds Tryd.pinned (OpenSpec.ofChange cipherBlocksWrong)

/-- 'chartroomlaw06.CipherTag': WHATEVER THE INPUT: true; the input reads as it did. -/
def cipherTagSpec : ChangeSpec := { name := "cipherTag", fn := fun _ => fun
  | [d1, d2, d3, d4, d5, d6] => { results := [.lit (.bool true)], args := [d1, d2, d3, d4, d5, d6] }
  | _ => none }
def cipherTagRow : OpenClaim := { program := "ytcibbghggfklbaadoor", sum := "12c54316cf22df44d93a8565b2e2436843d7725ec62f8e107cf70a7e2c4dfbe1", func := "chartroom/chartroomlaw06.CipherTag", spec := "cipherTag", unfollowed := true, recurses := true, named := ["chartroom/digest.start", "chartroom/digest.roundNumbers"], apart := false, laid := [("chartroom/digest.roundNumbers", laid_chartroom_digest_roundNumbers), ("chartroom/digest.start", laid_chartroom_digest_start)] }
def CipherTagSaid : Prop := cipherTagRow.holds Tryd.pinned (OpenSpec.ofChange cipherTagSpec)

/-- ITS FALSE NEIGHBOUR: 'it returns false'. Refute it at one input. -/
def cipherTagWrong : ChangeSpec := { name := "cipherTag", fn := fun _ => fun
  | [d1, d2, d3, d4, d5, d6] => { results := [.lit (.bool false)], args := [d1, d2, d3, d4, d5, d6] }
  | _ => none }
def CipherTagWrongFalsely : Prop := cipherTagRow.holds Tryd.pinned (OpenSpec.ofChange cipherTagWrong)

/-- 'chartroomlaw06.CipherLong': WHATEVER THE INPUT: true; the input reads as it did. -/
def cipherLongSpec : ChangeSpec := { name := "cipherLong", fn := fun _ => fun
  | [d1, d2, d3] => { results := [.lit (.bool true)], args := [d1, d2, d3] }
  | _ => none }
def cipherLongRow : OpenClaim := { program := "ytcibbghggfklbaadoor", sum := "12c54316cf22df44d93a8565b2e2436843d7725ec62f8e107cf70a7e2c4dfbe1", func := "chartroom/chartroomlaw06.CipherLong", spec := "cipherLong", unfollowed := true, recurses := true, named := ["chartroom/digest.start", "chartroom/digest.roundNumbers"], apart := false, laid := [("chartroom/digest.roundNumbers", laid_chartroom_digest_roundNumbers), ("chartroom/digest.start", laid_chartroom_digest_start)] }
def CipherLongSaid : Prop := cipherLongRow.holds Tryd.pinned (OpenSpec.ofChange cipherLongSpec)

/-- ITS FALSE NEIGHBOUR: 'it returns false'. Refute it at one input. -/
def cipherLongWrong : ChangeSpec := { name := "cipherLong", fn := fun _ => fun
  | [d1, d2, d3] => { results := [.lit (.bool false)], args := [d1, d2, d3] }
  | _ => none }
def CipherLongWrongFalsely : Prop := cipherLongRow.holds Tryd.pinned (OpenSpec.ofChange cipherLongWrong)

/- THE SECOND FORM. 'bulk': how many values and letters a reading holds, each counted each time it is reached (what is shared counts as often as it is met; a slice's spare places count too). A statement '..UptoSaid' is the law's where the arguments, and the package variables that the reading takes, are together of bulk at most 1048576: NARROWER than '..Said'. Prove '..Said' where nothing that the law and all that it calls make is longer than what came in: it says more and counts as full. Else prove '..UptoSaid'. A law counts once. -/
mutual
def uptoBulk {H : Type} : DataW H → Nat
  | .lit (.string bytes) => bytes.length + 1
  | .lit _ => 1
  | .nil => 1
  | .ptr d => uptoBulk d + 1
  | .slice elems spare => uptoBulkAll elems + uptoBulkAll spare + 1
  | .agg parts => uptoBulkAll parts + 1
  | .iface _ d => uptoBulk d + 1
  | .map entries => uptoBulkEntries entries + 1
  | .held _ => 1
def uptoBulkAll {H : Type} : List (DataW H) → Nat
  | [] => 0
  | d :: r => uptoBulk d + uptoBulkAll r
def uptoBulkEntries {H : Type} : List (Lit × DataW H) → Nat
  | [] => 0
  | x :: r => uptoBulkEntry x + uptoBulkEntries r
def uptoBulkEntry {H : Type} : Lit × DataW H → Nat
  | (.string bytes, d) => bytes.length + uptoBulk d + 1
  | (_, d) => uptoBulk d + 1
 end
def uptoSmall : (H : Type) → List (DataW H) → Bool := fun _ ds => decide (uptoBulkAll ds ≤ 1048576)
def OpenSpec.upto (s : _root_.Go.ChangeSpec) : _root_.Go.OpenSpec := { _root_.Go.OpenSpec.ofChange s with cond := some uptoSmall }

/-- 'chartroomlaw06.CipherBlockSpec', WHERE WHAT IT READS IS OF BULK AT MOST 1048576: true; the input reads as it did. -/
def cipherBlockSpecUptoRow : OpenClaim := { program := "ytcibbghggfklbaadoor", sum := "12c54316cf22df44d93a8565b2e2436843d7725ec62f8e107cf70a7e2c4dfbe1", func := "chartroom/chartroomlaw06.CipherBlockSpec", spec := "cipherBlockSpec", unfollowed := true, recurses := true, named := ["chartroom/digest.start", "chartroom/digest.roundNumbers"], apart := false, laid := [("chartroom/digest.roundNumbers", laid_chartroom_digest_roundNumbers), ("chartroom/digest.start", laid_chartroom_digest_start)], narrowed := true }
def CipherBlockSpecUptoSaid : Prop := cipherBlockSpecUptoRow.holds Tryd.pinned (OpenSpec.upto cipherBlockSpecSpec)

/-- 'chartroomlaw06.CipherStreamSpec', WHERE WHAT IT READS IS OF BULK AT MOST 1048576: true; the input reads as it did. -/
def cipherStreamSpecUptoRow : OpenClaim := { program := "ytcibbghggfklbaadoor", sum := "12c54316cf22df44d93a8565b2e2436843d7725ec62f8e107cf70a7e2c4dfbe1", func := "chartroom/chartroomlaw06.CipherStreamSpec", spec := "cipherStreamSpec", unfollowed := true, recurses := true, named := ["chartroom/digest.start", "chartroom/digest.roundNumbers"], apart := false, laid := [("chartroom/digest.roundNumbers", laid_chartroom_digest_roundNumbers), ("chartroom/digest.start", laid_chartroom_digest_start)], narrowed := true }
def CipherStreamSpecUptoSaid : Prop := cipherStreamSpecUptoRow.holds Tryd.pinned (OpenSpec.upto cipherStreamSpecSpec)

/-- 'chartroomlaw06.CipherSealSpec', WHERE WHAT IT READS IS OF BULK AT MOST 1048576: true; the input reads as it did. -/
def cipherSealSpecUptoRow : OpenClaim := { program := "ytcibbghggfklbaadoor", sum := "12c54316cf22df44d93a8565b2e2436843d7725ec62f8e107cf70a7e2c4dfbe1", func := "chartroom/chartroomlaw06.CipherSealSpec", spec := "cipherSealSpec", unfollowed := true, recurses := true, named := ["chartroom/digest.start", "chartroom/digest.roundNumbers"], apart := false, laid := [("chartroom/digest.roundNumbers", laid_chartroom_digest_roundNumbers), ("chartroom/digest.start", laid_chartroom_digest_start)], narrowed := true }
def CipherSealSpecUptoSaid : Prop := cipherSealSpecUptoRow.holds Tryd.pinned (OpenSpec.upto cipherSealSpecSpec)

/-- 'chartroomlaw06.CipherBack', WHERE WHAT IT READS IS OF BULK AT MOST 1048576: true; the input reads as it did. -/
def cipherBackUptoRow : OpenClaim := { program := "ytcibbghggfklbaadoor", sum := "12c54316cf22df44d93a8565b2e2436843d7725ec62f8e107cf70a7e2c4dfbe1", func := "chartroom/chartroomlaw06.CipherBack", spec := "cipherBack", unfollowed := true, recurses := true, named := ["chartroom/digest.start", "chartroom/digest.roundNumbers"], apart := false, laid := [("chartroom/digest.roundNumbers", laid_chartroom_digest_roundNumbers), ("chartroom/digest.start", laid_chartroom_digest_start)], narrowed := true }
def CipherBackUptoSaid : Prop := cipherBackUptoRow.holds Tryd.pinned (OpenSpec.upto cipherBackSpec)

/-- 'chartroomlaw06.CipherPlaces', WHERE WHAT IT READS IS OF BULK AT MOST 1048576: true; the input reads as it did. -/
def cipherPlacesUptoRow : OpenClaim := { program := "ytcibbghggfklbaadoor", sum := "12c54316cf22df44d93a8565b2e2436843d7725ec62f8e107cf70a7e2c4dfbe1", func := "chartroom/chartroomlaw06.CipherPlaces", spec := "cipherPlaces", unfollowed := true, recurses := true, named := ["chartroom/digest.start", "chartroom/digest.roundNumbers"], apart := false, laid := [("chartroom/digest.roundNumbers", laid_chartroom_digest_roundNumbers), ("chartroom/digest.start", laid_chartroom_digest_start)], narrowed := true }
def CipherPlacesUptoSaid : Prop := cipherPlacesUptoRow.holds Tryd.pinned (OpenSpec.upto cipherPlacesSpec)

/-- 'chartroomlaw06.CipherBlocks', WHERE WHAT IT READS IS OF BULK AT MOST 1048576: true; the input reads as it did. -/
def cipherBlocksUptoRow : OpenClaim := { program := "ytcibbghggfklbaadoor", sum := "12c54316cf22df44d93a8565b2e2436843d7725ec62f8e107cf70a7e2c4dfbe1", func := "chartroom/chartroomlaw06.CipherBlocks", spec := "cipherBlocks", unfollowed := true, recurses := true, named := ["chartroom/digest.start", "chartroom/digest.roundNumbers"], apart := false, laid := [("chartroom/digest.roundNumbers", laid_chartroom_digest_roundNumbers), ("chartroom/digest.start", laid_chartroom_digest_start)], narrowed := true }
def CipherBlocksUptoSaid : Prop := cipherBlocksUptoRow.holds Tryd.pinned (OpenSpec.upto cipherBlocksSpec)

/-- 'chartroomlaw06.CipherTag', WHERE WHAT IT READS IS OF BULK AT MOST 1048576: true; the input reads as it did. -/
def cipherTagUptoRow : OpenClaim := { program := "ytcibbghggfklbaadoor", sum := "12c54316cf22df44d93a8565b2e2436843d7725ec62f8e107cf70a7e2c4dfbe1", func := "chartroom/chartroomlaw06.CipherTag", spec := "cipherTag", unfollowed := true, recurses := true, named := ["chartroom/digest.start", "chartroom/digest.roundNumbers"], apart := false, laid := [("chartroom/digest.roundNumbers", laid_chartroom_digest_roundNumbers), ("chartroom/digest.start", laid_chartroom_digest_start)], narrowed := true }
def CipherTagUptoSaid : Prop := cipherTagUptoRow.holds Tryd.pinned (OpenSpec.upto cipherTagSpec)

/-- 'chartroomlaw06.CipherLong', WHERE WHAT IT READS IS OF BULK AT MOST 1048576: true; the input reads as it did. -/
def cipherLongUptoRow : OpenClaim := { program := "ytcibbghggfklbaadoor", sum := "12c54316cf22df44d93a8565b2e2436843d7725ec62f8e107cf70a7e2c4dfbe1", func := "chartroom/chartroomlaw06.CipherLong", spec := "cipherLong", unfollowed := true, recurses := true, named := ["chartroom/digest.start", "chartroom/digest.roundNumbers"], apart := false, laid := [("chartroom/digest.roundNumbers", laid_chartroom_digest_roundNumbers), ("chartroom/digest.start", laid_chartroom_digest_start)], narrowed := true }
def CipherLongUptoSaid : Prop := cipherLongUptoRow.holds Tryd.pinned (OpenSpec.upto cipherLongSpec)

end Rows
end Go.Proofs.YtcibbghggfklbaaDoor
