/-
  DERIVED. GIVEN WITH THE SEED: THE CARDS: each row of YtpnemdhbdncknaaGreatDoorRows.lean that lists a variable, with what it lists TIED to the program's text (the seventh form; the later family's looks); each row that meets fmt, with fmt's text TOLD by the authors' own Lean function (tested against real Go, not proved from fmt's source: count such statements apart). THE CARD IS WHAT COUNTS. Prove the row's statement (the work); the ties are given (YtpnemdhbdncknaaGreatDoorTie.lean); close each card by the builder's one call (the guide's Derived/Test/ToyasCard.lean, 'card_holds'). Laid BY PROGRAM, IN A SANDBOX (cutbox-door.mjs). By AI agents, Wed Nov 11 2026. No macro, syntax, notation, axiom, sorry.
-/
import Derived.Test.YtpnemdhbdncknaaGreatDoorRows
import GoSem.ClaimSeven
namespace Go.Proofs.YtpnemdhbdncknaaGreatDoor
namespace Rows

/-- THE TIED CARD OF 'chartroomlaw09.WrapWrapSpec'. -/
def wrapWrapSpecCard : Claim7 := { stood := { row := wrapWrapSpecRow, standIns := [], harness := (true, "d1e373562eb82d3851fce56b278ec58b3fd691c02053782324c98298de6ffa40"), looks := false }, kinds := [], alts := [], laidByText := true, laidKinds := [.data, .data, .sentinel], laidTests := true, laidLooks := .later }
def WrapWrapSpecCardSaid : Prop := Claim7.holds Tryz.pinned (.plain (OpenSpec.ofChange wrapWrapSpecSpec)) wrapWrapSpecCard

/-- THE TIED CARD OF 'chartroomlaw09.WrapUnwrapSpec'. -/
def wrapUnwrapSpecCard : Claim7 := { stood := { row := wrapUnwrapSpecRow, standIns := [], harness := (true, "d1e373562eb82d3851fce56b278ec58b3fd691c02053782324c98298de6ffa40"), looks := false }, kinds := [], alts := [], laidByText := true, laidKinds := [.data, .data, .sentinel], laidTests := true, laidLooks := .later }
def WrapUnwrapSpecCardSaid : Prop := Claim7.holds Tryz.pinned (.plain (OpenSpec.ofChange wrapUnwrapSpecSpec)) wrapUnwrapSpecCard

/-- THE SECOND FORM's CARD OF 'chartroomlaw09.WrapWrapSpec'. -/
def wrapWrapSpecUptoCard : Claim7 := { stood := { row := wrapWrapSpecUptoRow, standIns := [], harness := (true, "d1e373562eb82d3851fce56b278ec58b3fd691c02053782324c98298de6ffa40"), looks := false }, kinds := [], alts := [], laidByText := true, laidKinds := [.data, .data, .sentinel], laidTests := true, laidLooks := .later }
def WrapWrapSpecUptoCardSaid : Prop := Claim7.holds Tryz.pinned (.plain (OpenSpec.upto wrapWrapSpecSpec)) wrapWrapSpecUptoCard

/-- THE SECOND FORM's CARD OF 'chartroomlaw09.WrapUnwrapSpec'. -/
def wrapUnwrapSpecUptoCard : Claim7 := { stood := { row := wrapUnwrapSpecUptoRow, standIns := [], harness := (true, "d1e373562eb82d3851fce56b278ec58b3fd691c02053782324c98298de6ffa40"), looks := false }, kinds := [], alts := [], laidByText := true, laidKinds := [.data, .data, .sentinel], laidTests := true, laidLooks := .later }
def WrapUnwrapSpecUptoCardSaid : Prop := Claim7.holds Tryz.pinned (.plain (OpenSpec.upto wrapUnwrapSpecSpec)) wrapUnwrapSpecUptoCard
end Rows
end Go.Proofs.YtpnemdhbdncknaaGreatDoor
