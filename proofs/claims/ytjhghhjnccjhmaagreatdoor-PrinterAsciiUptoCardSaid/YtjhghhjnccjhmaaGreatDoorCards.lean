/-
  DERIVED. GIVEN WITH THE SEED: THE CARDS: each row of YtjhghhjnccjhmaaGreatDoorRows.lean that lists a variable, with what it lists TIED to the program's text (the seventh form; the later family's looks); each row that meets fmt, with fmt's text TOLD by the authors' own Lean function (tested against real Go, not proved from fmt's source: count such statements apart). THE CARD IS WHAT COUNTS. Prove the row's statement (the work); the ties are given (YtjhghhjnccjhmaaGreatDoorTie.lean); close each card by the builder's one call (the guide's Derived/Test/ToyasCard.lean, 'card_holds'). Laid BY PROGRAM, IN A SANDBOX (cutbox-door.mjs). By AI agents, Wed Nov 11 2026. No macro, syntax, notation, axiom, sorry.
-/
import Derived.Test.YtjhghhjnccjhmaaGreatDoorRows
import GoSem.ClaimSeven
namespace Go.Proofs.YtjhghhjnccjhmaaGreatDoor
namespace Rows

/-- THE TIED CARD OF 'colanderlaw05.PrinterPrints'. -/
def printerPrintsCard : Claim7 := { stood := { row := printerPrintsRow, standIns := [], harness := (true, "292d51b5f2000aaf4d32b0c196417b839513f4b351d7bbf69412149326d3feb5"), looks := true }, kinds := [], alts := [], laidByText := true, laidKinds := [.data, .data, .data, .data, .data, .sentinel, .sentinel, .pinned, .pinned, .pinned], laidTests := true, laidLooks := .later }
def PrinterPrintsCardSaid : Prop := Claim7.holds Tryz.pinned (.plain (OpenSpec.ofChange printerPrintsSpec)) printerPrintsCard

/-- THE TIED CARD OF 'colanderlaw05.PrinterPieces'. -/
def printerPiecesCard : Claim7 := { stood := { row := printerPiecesRow, standIns := [], harness := (true, "292d51b5f2000aaf4d32b0c196417b839513f4b351d7bbf69412149326d3feb5"), looks := true }, kinds := [], alts := [], laidByText := true, laidKinds := [.data, .data, .data, .data, .data, .sentinel, .sentinel, .pinned, .pinned, .pinned], laidTests := true, laidLooks := .later }
def PrinterPiecesCardSaid : Prop := Claim7.holds Tryz.pinned (.plain (OpenSpec.ofChange printerPiecesSpec)) printerPiecesCard

/-- THE TIED CARD OF 'colanderlaw05.PrinterAscii'. -/
def printerAsciiCard : Claim7 := { stood := { row := printerAsciiRow, standIns := [], harness := (true, "292d51b5f2000aaf4d32b0c196417b839513f4b351d7bbf69412149326d3feb5"), looks := true }, kinds := [], alts := [], laidByText := true, laidKinds := [.data, .data, .data, .data, .data, .sentinel, .sentinel, .pinned, .pinned, .pinned], laidTests := true, laidLooks := .later }
def PrinterAsciiCardSaid : Prop := Claim7.holds Tryz.pinned (.plain (OpenSpec.ofChange printerAsciiSpec)) printerAsciiCard

/-- THE TIED CARD OF 'colanderlaw05.PrinterBlanks'. -/
def printerBlanksCard : Claim7 := { stood := { row := printerBlanksRow, standIns := [], harness := (true, "292d51b5f2000aaf4d32b0c196417b839513f4b351d7bbf69412149326d3feb5"), looks := true }, kinds := [], alts := [], laidByText := true, laidKinds := [.data, .data, .data, .data, .data, .sentinel, .sentinel, .pinned, .pinned, .pinned], laidTests := true, laidLooks := .later }
def PrinterBlanksCardSaid : Prop := Claim7.holds Tryz.pinned (.plain (OpenSpec.ofChange printerBlanksSpec)) printerBlanksCard

/-- THE SECOND FORM's CARD OF 'colanderlaw05.PrinterPrints'. -/
def printerPrintsUptoCard : Claim7 := { stood := { row := printerPrintsUptoRow, standIns := [], harness := (true, "292d51b5f2000aaf4d32b0c196417b839513f4b351d7bbf69412149326d3feb5"), looks := true }, kinds := [], alts := [], laidByText := true, laidKinds := [.data, .data, .data, .data, .data, .sentinel, .sentinel, .pinned, .pinned, .pinned], laidTests := true, laidLooks := .later }
def PrinterPrintsUptoCardSaid : Prop := Claim7.holds Tryz.pinned (.plain (OpenSpec.upto printerPrintsSpec)) printerPrintsUptoCard

/-- THE SECOND FORM's CARD OF 'colanderlaw05.PrinterPieces'. -/
def printerPiecesUptoCard : Claim7 := { stood := { row := printerPiecesUptoRow, standIns := [], harness := (true, "292d51b5f2000aaf4d32b0c196417b839513f4b351d7bbf69412149326d3feb5"), looks := true }, kinds := [], alts := [], laidByText := true, laidKinds := [.data, .data, .data, .data, .data, .sentinel, .sentinel, .pinned, .pinned, .pinned], laidTests := true, laidLooks := .later }
def PrinterPiecesUptoCardSaid : Prop := Claim7.holds Tryz.pinned (.plain (OpenSpec.upto printerPiecesSpec)) printerPiecesUptoCard

/-- THE SECOND FORM's CARD OF 'colanderlaw05.PrinterAscii'. -/
def printerAsciiUptoCard : Claim7 := { stood := { row := printerAsciiUptoRow, standIns := [], harness := (true, "292d51b5f2000aaf4d32b0c196417b839513f4b351d7bbf69412149326d3feb5"), looks := true }, kinds := [], alts := [], laidByText := true, laidKinds := [.data, .data, .data, .data, .data, .sentinel, .sentinel, .pinned, .pinned, .pinned], laidTests := true, laidLooks := .later }
def PrinterAsciiUptoCardSaid : Prop := Claim7.holds Tryz.pinned (.plain (OpenSpec.upto printerAsciiSpec)) printerAsciiUptoCard

/-- THE SECOND FORM's CARD OF 'colanderlaw05.PrinterBlanks'. -/
def printerBlanksUptoCard : Claim7 := { stood := { row := printerBlanksUptoRow, standIns := [], harness := (true, "292d51b5f2000aaf4d32b0c196417b839513f4b351d7bbf69412149326d3feb5"), looks := true }, kinds := [], alts := [], laidByText := true, laidKinds := [.data, .data, .data, .data, .data, .sentinel, .sentinel, .pinned, .pinned, .pinned], laidTests := true, laidLooks := .later }
def PrinterBlanksUptoCardSaid : Prop := Claim7.holds Tryz.pinned (.plain (OpenSpec.upto printerBlanksSpec)) printerBlanksUptoCard
end Rows
end Go.Proofs.YtjhghhjnccjhmaaGreatDoor
