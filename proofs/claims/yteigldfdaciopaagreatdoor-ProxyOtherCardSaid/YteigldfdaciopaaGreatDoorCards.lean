/-
  DERIVED. GIVEN WITH THE SEED: THE CARDS: each row of YteigldfdaciopaaGreatDoorRows.lean that lists a variable, with what it lists TIED to the program's text (the seventh form; the later family's looks); each row that meets fmt, with fmt's text TOLD by the authors' own Lean function (tested against real Go, not proved from fmt's source: count such statements apart). THE CARD IS WHAT COUNTS. Prove the row's statement (the work); the ties are given (YteigldfdaciopaaGreatDoorTie.lean); close each card by the builder's one call (the guide's Derived/Test/ToyasCard.lean, 'card_holds'). Laid BY PROGRAM, IN A SANDBOX (cutbox-door.mjs). By AI agents, Wed Nov 11 2026. No macro, syntax, notation, axiom, sorry.
-/
import Derived.Test.YteigldfdaciopaaGreatDoorRows
import GoSem.ClaimSeven
namespace Go.Proofs.YteigldfdaciopaaGreatDoor
namespace Rows

/-- THE TIED CARD OF 'chartroomlaw11.ProxyLockSpec'. -/
def proxyLockSpecCard : Claim7 := { stood := { row := proxyLockSpecRow, standIns := [], harness := (true, "d9915ec3275bc158ec7d3ae6010a72b6e0b28c62052147a0b330d55057b3cd86"), looks := true }, kinds := [], alts := [], laidByText := true, laidKinds := [.data, .data, .sentinel], laidTests := true, laidLooks := .later }
def ProxyLockSpecCardSaid : Prop := Claim7.holds Tryz.pinned (.plain (OpenSpec.ofChange proxyLockSpecSpec)) proxyLockSpecCard

/-- THE TIED CARD OF 'chartroomlaw11.ProxyTurnSpec'. -/
def proxyTurnSpecCard : Claim7 := { stood := { row := proxyTurnSpecRow, standIns := [], harness := (true, "d9915ec3275bc158ec7d3ae6010a72b6e0b28c62052147a0b330d55057b3cd86"), looks := true }, kinds := [], alts := [], laidByText := true, laidKinds := [.data, .data, .sentinel], laidTests := true, laidLooks := .later }
def ProxyTurnSpecCardSaid : Prop := Claim7.holds Tryz.pinned (.plain (OpenSpec.ofChange proxyTurnSpecSpec)) proxyTurnSpecCard

/-- THE TIED CARD OF 'chartroomlaw11.ProxyOther'. -/
def proxyOtherCard : Claim7 := { stood := { row := proxyOtherRow, standIns := [], harness := (true, "d9915ec3275bc158ec7d3ae6010a72b6e0b28c62052147a0b330d55057b3cd86"), looks := true }, kinds := [], alts := [], laidByText := true, laidKinds := [.data, .data, .sentinel], laidTests := true, laidLooks := .later }
def ProxyOtherCardSaid : Prop := Claim7.holds Tryz.pinned (.plain (OpenSpec.ofChange proxyOtherSpec)) proxyOtherCard

/-- THE SECOND FORM's CARD OF 'chartroomlaw11.ProxyLockSpec'. -/
def proxyLockSpecUptoCard : Claim7 := { stood := { row := proxyLockSpecUptoRow, standIns := [], harness := (true, "d9915ec3275bc158ec7d3ae6010a72b6e0b28c62052147a0b330d55057b3cd86"), looks := true }, kinds := [], alts := [], laidByText := true, laidKinds := [.data, .data, .sentinel], laidTests := true, laidLooks := .later }
def ProxyLockSpecUptoCardSaid : Prop := Claim7.holds Tryz.pinned (.plain (OpenSpec.upto proxyLockSpecSpec)) proxyLockSpecUptoCard

/-- THE SECOND FORM's CARD OF 'chartroomlaw11.ProxyTurnSpec'. -/
def proxyTurnSpecUptoCard : Claim7 := { stood := { row := proxyTurnSpecUptoRow, standIns := [], harness := (true, "d9915ec3275bc158ec7d3ae6010a72b6e0b28c62052147a0b330d55057b3cd86"), looks := true }, kinds := [], alts := [], laidByText := true, laidKinds := [.data, .data, .sentinel], laidTests := true, laidLooks := .later }
def ProxyTurnSpecUptoCardSaid : Prop := Claim7.holds Tryz.pinned (.plain (OpenSpec.upto proxyTurnSpecSpec)) proxyTurnSpecUptoCard

/-- THE SECOND FORM's CARD OF 'chartroomlaw11.ProxyOther'. -/
def proxyOtherUptoCard : Claim7 := { stood := { row := proxyOtherUptoRow, standIns := [], harness := (true, "d9915ec3275bc158ec7d3ae6010a72b6e0b28c62052147a0b330d55057b3cd86"), looks := true }, kinds := [], alts := [], laidByText := true, laidKinds := [.data, .data, .sentinel], laidTests := true, laidLooks := .later }
def ProxyOtherUptoCardSaid : Prop := Claim7.holds Tryz.pinned (.plain (OpenSpec.upto proxyOtherSpec)) proxyOtherUptoCard
end Rows
end Go.Proofs.YteigldfdaciopaaGreatDoor
