/-
  DERIVED. GIVEN WITH THE SEED: THE CARDS: each row of YtecojpkefobgpaaGreatDoorRows.lean that lists a variable, with what it lists TIED to the program's text (the seventh form; the later family's looks); each row that meets fmt, with fmt's text TOLD by the authors' own Lean function (tested against real Go, not proved from fmt's source: count such statements apart). THE CARD IS WHAT COUNTS. Prove the row's statement (the work); the ties are given (YtecojpkefobgpaaGreatDoorTie.lean); close each card by the builder's one call (the guide's Derived/Test/ToyasCard.lean, 'card_holds'). Laid BY PROGRAM, IN A SANDBOX (cutbox-door.mjs). By AI agents, Wed Nov 11 2026. No macro, syntax, notation, axiom, sorry.
-/
import Derived.Test.YtecojpkefobgpaaGreatDoorRows
import GoSem.ClaimSeven
namespace Go.Proofs.YtecojpkefobgpaaGreatDoor
namespace Rows

/-- THE TIED CARD OF 'chartroomlaw08.ShamirSpec'. -/
def shamirSpecCard : Claim7 := { stood := { row := shamirSpecRow, standIns := [], harness := (true, "871e3c0cac4c1e2c030ec04ec6880dde156a95a5fb3e8b17c75a3600ed5b27f8"), looks := false }, kinds := [], alts := [], laidByText := true, laidKinds := [.data, .data, .sentinel], laidTests := true, laidLooks := .later }
def ShamirSpecCardSaid : Prop := Claim7.holds Tryz.pinned (.plain (OpenSpec.ofChange shamirSpecSpec)) shamirSpecCard

/-- THE TIED CARD OF 'chartroomlaw08.ShamirFitsSpec'. -/
def shamirFitsSpecCard : Claim7 := { stood := { row := shamirFitsSpecRow, standIns := [], harness := (true, "871e3c0cac4c1e2c030ec04ec6880dde156a95a5fb3e8b17c75a3600ed5b27f8"), looks := false }, kinds := [], alts := [], laidByText := true, laidKinds := [.data, .data, .sentinel], laidTests := true, laidLooks := .later }
def ShamirFitsSpecCardSaid : Prop := Claim7.holds Tryz.pinned (.plain (OpenSpec.ofChange shamirFitsSpecSpec)) shamirFitsSpecCard

/-- THE SECOND FORM's CARD OF 'chartroomlaw08.ShamirSpec'. -/
def shamirSpecUptoCard : Claim7 := { stood := { row := shamirSpecUptoRow, standIns := [], harness := (true, "871e3c0cac4c1e2c030ec04ec6880dde156a95a5fb3e8b17c75a3600ed5b27f8"), looks := false }, kinds := [], alts := [], laidByText := true, laidKinds := [.data, .data, .sentinel], laidTests := true, laidLooks := .later }
def ShamirSpecUptoCardSaid : Prop := Claim7.holds Tryz.pinned (.plain (OpenSpec.upto shamirSpecSpec)) shamirSpecUptoCard

/-- THE SECOND FORM's CARD OF 'chartroomlaw08.ShamirFitsSpec'. -/
def shamirFitsSpecUptoCard : Claim7 := { stood := { row := shamirFitsSpecUptoRow, standIns := [], harness := (true, "871e3c0cac4c1e2c030ec04ec6880dde156a95a5fb3e8b17c75a3600ed5b27f8"), looks := false }, kinds := [], alts := [], laidByText := true, laidKinds := [.data, .data, .sentinel], laidTests := true, laidLooks := .later }
def ShamirFitsSpecUptoCardSaid : Prop := Claim7.holds Tryz.pinned (.plain (OpenSpec.upto shamirFitsSpecSpec)) shamirFitsSpecUptoCard
end Rows
end Go.Proofs.YtecojpkefobgpaaGreatDoor
