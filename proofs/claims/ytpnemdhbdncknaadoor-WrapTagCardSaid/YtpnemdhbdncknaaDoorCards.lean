/-
  DERIVED. GIVEN WITH THE SEED: THE CARDS: each row of YtpnemdhbdncknaaDoorRows.lean that lists a variable, with what it lists TIED to the program's text (the seventh form; the later family's looks); each row that meets fmt, with fmt's text TOLD by the authors' own Lean function (tested against real Go, not proved from fmt's source: count such statements apart). THE CARD IS WHAT COUNTS. Prove the row's statement (the work); the ties are given (YtpnemdhbdncknaaDoorTie.lean); close each card by the builder's one call (the guide's Derived/Test/ToyasCard.lean, 'card_holds'). Laid BY PROGRAM, IN A SANDBOX (cutbox-door.mjs). By AI agents, Wed Nov 11 2026. No macro, syntax, notation, axiom, sorry.
-/
import Derived.Test.YtpnemdhbdncknaaDoorRows
import GoSem.ClaimSeven
namespace Go.Proofs.YtpnemdhbdncknaaDoor
namespace Rows

/-- THE TIED CARD OF 'chartroomlaw09.WrapOpens'. -/
def wrapOpensCard : Claim7 := { stood := { row := wrapOpensRow, standIns := [], harness := (true, "0b2e4402b6fc1b7328e44a96cf6e6847f947c7508536b9feb61ccdac4126f822"), looks := false }, kinds := [], alts := [], laidByText := true, laidKinds := [.data, .data, .sentinel], laidTests := true, laidLooks := .later }
def WrapOpensCardSaid : Prop := Claim7.holds Tryd.pinned (.plain (OpenSpec.ofChange wrapOpensSpec)) wrapOpensCard

/-- THE TIED CARD OF 'chartroomlaw09.WrapBothSides'. -/
def wrapBothSidesCard : Claim7 := { stood := { row := wrapBothSidesRow, standIns := [], harness := (true, "0b2e4402b6fc1b7328e44a96cf6e6847f947c7508536b9feb61ccdac4126f822"), looks := false }, kinds := [], alts := [], laidByText := true, laidKinds := [.data, .data, .sentinel], laidTests := true, laidLooks := .later }
def WrapBothSidesCardSaid : Prop := Claim7.holds Tryd.pinned (.plain (OpenSpec.ofChange wrapBothSidesSpec)) wrapBothSidesCard

/-- THE TIED CARD OF 'chartroomlaw09.WrapTag'. -/
def wrapTagCard : Claim7 := { stood := { row := wrapTagRow, standIns := [], harness := (true, "0b2e4402b6fc1b7328e44a96cf6e6847f947c7508536b9feb61ccdac4126f822"), looks := false }, kinds := [], alts := [], laidByText := true, laidKinds := [.data, .data, .sentinel], laidTests := true, laidLooks := .later }
def WrapTagCardSaid : Prop := Claim7.holds Tryd.pinned (.plain (OpenSpec.ofChange wrapTagSpec)) wrapTagCard

/-- THE TIED CARD OF 'chartroomlaw09.WrapSeed'. -/
def wrapSeedCard : Claim7 := { stood := { row := wrapSeedRow, standIns := [], harness := (true, "0b2e4402b6fc1b7328e44a96cf6e6847f947c7508536b9feb61ccdac4126f822"), looks := false }, kinds := [], alts := [], laidByText := true, laidKinds := [.data, .data, .sentinel], laidTests := true, laidLooks := .later }
def WrapSeedCardSaid : Prop := Claim7.holds Tryd.pinned (.plain (OpenSpec.ofChange wrapSeedSpec)) wrapSeedCard

/-- THE TIED CARD OF 'chartroomlaw09.WrapLast'. -/
def wrapLastCard : Claim7 := { stood := { row := wrapLastRow, standIns := [], harness := (true, "0b2e4402b6fc1b7328e44a96cf6e6847f947c7508536b9feb61ccdac4126f822"), looks := false }, kinds := [], alts := [], laidByText := true, laidKinds := [.data, .data, .sentinel], laidTests := true, laidLooks := .later }
def WrapLastCardSaid : Prop := Claim7.holds Tryd.pinned (.plain (OpenSpec.ofChange wrapLastSpec)) wrapLastCard

/-- THE SECOND FORM's CARD OF 'chartroomlaw09.WrapOpens'. -/
def wrapOpensUptoCard : Claim7 := { stood := { row := wrapOpensUptoRow, standIns := [], harness := (true, "0b2e4402b6fc1b7328e44a96cf6e6847f947c7508536b9feb61ccdac4126f822"), looks := false }, kinds := [], alts := [], laidByText := true, laidKinds := [.data, .data, .sentinel], laidTests := true, laidLooks := .later }
def WrapOpensUptoCardSaid : Prop := Claim7.holds Tryd.pinned (.plain (OpenSpec.upto wrapOpensSpec)) wrapOpensUptoCard

/-- THE SECOND FORM's CARD OF 'chartroomlaw09.WrapBothSides'. -/
def wrapBothSidesUptoCard : Claim7 := { stood := { row := wrapBothSidesUptoRow, standIns := [], harness := (true, "0b2e4402b6fc1b7328e44a96cf6e6847f947c7508536b9feb61ccdac4126f822"), looks := false }, kinds := [], alts := [], laidByText := true, laidKinds := [.data, .data, .sentinel], laidTests := true, laidLooks := .later }
def WrapBothSidesUptoCardSaid : Prop := Claim7.holds Tryd.pinned (.plain (OpenSpec.upto wrapBothSidesSpec)) wrapBothSidesUptoCard

/-- THE SECOND FORM's CARD OF 'chartroomlaw09.WrapTag'. -/
def wrapTagUptoCard : Claim7 := { stood := { row := wrapTagUptoRow, standIns := [], harness := (true, "0b2e4402b6fc1b7328e44a96cf6e6847f947c7508536b9feb61ccdac4126f822"), looks := false }, kinds := [], alts := [], laidByText := true, laidKinds := [.data, .data, .sentinel], laidTests := true, laidLooks := .later }
def WrapTagUptoCardSaid : Prop := Claim7.holds Tryd.pinned (.plain (OpenSpec.upto wrapTagSpec)) wrapTagUptoCard

/-- THE SECOND FORM's CARD OF 'chartroomlaw09.WrapSeed'. -/
def wrapSeedUptoCard : Claim7 := { stood := { row := wrapSeedUptoRow, standIns := [], harness := (true, "0b2e4402b6fc1b7328e44a96cf6e6847f947c7508536b9feb61ccdac4126f822"), looks := false }, kinds := [], alts := [], laidByText := true, laidKinds := [.data, .data, .sentinel], laidTests := true, laidLooks := .later }
def WrapSeedUptoCardSaid : Prop := Claim7.holds Tryd.pinned (.plain (OpenSpec.upto wrapSeedSpec)) wrapSeedUptoCard

/-- THE SECOND FORM's CARD OF 'chartroomlaw09.WrapLast'. -/
def wrapLastUptoCard : Claim7 := { stood := { row := wrapLastUptoRow, standIns := [], harness := (true, "0b2e4402b6fc1b7328e44a96cf6e6847f947c7508536b9feb61ccdac4126f822"), looks := false }, kinds := [], alts := [], laidByText := true, laidKinds := [.data, .data, .sentinel], laidTests := true, laidLooks := .later }
def WrapLastUptoCardSaid : Prop := Claim7.holds Tryd.pinned (.plain (OpenSpec.upto wrapLastSpec)) wrapLastUptoCard
end Rows
end Go.Proofs.YtpnemdhbdncknaaDoor
