/-
  DERIVED. GIVEN WITH THE SEED: THE CARDS: each row of YteigldfdaciopaaDoorRows.lean that lists a variable, with what it lists TIED to the program's text (the seventh form; the later family's looks); each row that meets fmt, with fmt's text TOLD by the authors' own Lean function (tested against real Go, not proved from fmt's source: count such statements apart). THE CARD IS WHAT COUNTS. Prove the row's statement (the work); the ties are given (YteigldfdaciopaaDoorTie.lean); close each card by the builder's one call (the guide's Derived/Test/ToyasCard.lean, 'card_holds'). Laid BY PROGRAM, IN A SANDBOX (cutbox-door.mjs). By AI agents, Wed Nov 11 2026. No macro, syntax, notation, axiom, sorry.
-/
import Derived.Test.YteigldfdaciopaaDoorRows
import GoSem.ClaimSeven
namespace Go.Proofs.YteigldfdaciopaaDoor
namespace Rows

/-- THE TIED CARD OF 'chartroomlaw11.ProxyOpens'. -/
def proxyOpensCard : Claim7 := { stood := { row := proxyOpensRow, standIns := [], harness := (true, "747e9cfbc7e74212587c7095362c069acd0ee570930370d5a8b2b419c15a8bb5"), looks := true }, kinds := [], alts := [], laidByText := true, laidKinds := [.data, .data, .sentinel], laidTests := true, laidLooks := .later }
def ProxyOpensCardSaid : Prop := Claim7.holds Tryd.pinned (.plain (OpenSpec.ofChange proxyOpensSpec)) proxyOpensCard

/-- THE TIED CARD OF 'chartroomlaw11.ProxyTurned'. -/
def proxyTurnedCard : Claim7 := { stood := { row := proxyTurnedRow, standIns := [], harness := (true, "747e9cfbc7e74212587c7095362c069acd0ee570930370d5a8b2b419c15a8bb5"), looks := true }, kinds := [], alts := [], laidByText := true, laidKinds := [.data, .data, .sentinel], laidTests := true, laidLooks := .later }
def ProxyTurnedCardSaid : Prop := Claim7.holds Tryd.pinned (.plain (OpenSpec.ofChange proxyTurnedSpec)) proxyTurnedCard

/-- THE TIED CARD OF 'chartroomlaw11.ProxyFactors'. -/
def proxyFactorsCard : Claim7 := { stood := { row := proxyFactorsRow, standIns := [], harness := (true, "747e9cfbc7e74212587c7095362c069acd0ee570930370d5a8b2b419c15a8bb5"), looks := true }, kinds := [], alts := [], laidByText := true, laidKinds := [.data, .data, .sentinel], laidTests := true, laidLooks := .later }
def ProxyFactorsCardSaid : Prop := Claim7.holds Tryd.pinned (.plain (OpenSpec.ofChange proxyFactorsSpec)) proxyFactorsCard

/-- THE TIED CARD OF 'chartroomlaw11.ProxyProducts'. -/
def proxyProductsCard : Claim7 := { stood := { row := proxyProductsRow, standIns := [], harness := (true, "747e9cfbc7e74212587c7095362c069acd0ee570930370d5a8b2b419c15a8bb5"), looks := true }, kinds := [], alts := [], laidByText := true, laidKinds := [.data, .data, .sentinel], laidTests := true, laidLooks := .later }
def ProxyProductsCardSaid : Prop := Claim7.holds Tryd.pinned (.plain (OpenSpec.ofChange proxyProductsSpec)) proxyProductsCard

/-- THE SECOND FORM's CARD OF 'chartroomlaw11.ProxyOpens'. -/
def proxyOpensUptoCard : Claim7 := { stood := { row := proxyOpensUptoRow, standIns := [], harness := (true, "747e9cfbc7e74212587c7095362c069acd0ee570930370d5a8b2b419c15a8bb5"), looks := true }, kinds := [], alts := [], laidByText := true, laidKinds := [.data, .data, .sentinel], laidTests := true, laidLooks := .later }
def ProxyOpensUptoCardSaid : Prop := Claim7.holds Tryd.pinned (.plain (OpenSpec.upto proxyOpensSpec)) proxyOpensUptoCard

/-- THE SECOND FORM's CARD OF 'chartroomlaw11.ProxyTurned'. -/
def proxyTurnedUptoCard : Claim7 := { stood := { row := proxyTurnedUptoRow, standIns := [], harness := (true, "747e9cfbc7e74212587c7095362c069acd0ee570930370d5a8b2b419c15a8bb5"), looks := true }, kinds := [], alts := [], laidByText := true, laidKinds := [.data, .data, .sentinel], laidTests := true, laidLooks := .later }
def ProxyTurnedUptoCardSaid : Prop := Claim7.holds Tryd.pinned (.plain (OpenSpec.upto proxyTurnedSpec)) proxyTurnedUptoCard

/-- THE SECOND FORM's CARD OF 'chartroomlaw11.ProxyFactors'. -/
def proxyFactorsUptoCard : Claim7 := { stood := { row := proxyFactorsUptoRow, standIns := [], harness := (true, "747e9cfbc7e74212587c7095362c069acd0ee570930370d5a8b2b419c15a8bb5"), looks := true }, kinds := [], alts := [], laidByText := true, laidKinds := [.data, .data, .sentinel], laidTests := true, laidLooks := .later }
def ProxyFactorsUptoCardSaid : Prop := Claim7.holds Tryd.pinned (.plain (OpenSpec.upto proxyFactorsSpec)) proxyFactorsUptoCard

/-- THE SECOND FORM's CARD OF 'chartroomlaw11.ProxyProducts'. -/
def proxyProductsUptoCard : Claim7 := { stood := { row := proxyProductsUptoRow, standIns := [], harness := (true, "747e9cfbc7e74212587c7095362c069acd0ee570930370d5a8b2b419c15a8bb5"), looks := true }, kinds := [], alts := [], laidByText := true, laidKinds := [.data, .data, .sentinel], laidTests := true, laidLooks := .later }
def ProxyProductsUptoCardSaid : Prop := Claim7.holds Tryd.pinned (.plain (OpenSpec.upto proxyProductsSpec)) proxyProductsUptoCard
end Rows
end Go.Proofs.YteigldfdaciopaaDoor
