/-
  DERIVED. GIVEN WITH THE SEED: THE CARDS: each row of YtdlighmnlcklnaaGreatDoorRows.lean that lists a variable, with what it lists TIED to the program's text (the seventh form; the later family's looks); each row that meets fmt, with fmt's text TOLD by the authors' own Lean function (tested against real Go, not proved from fmt's source: count such statements apart). THE CARD IS WHAT COUNTS. Prove the row's statement (the work); the ties are given (YtdlighmnlcklnaaGreatDoorTie.lean); close each card by the builder's one call (the guide's Derived/Test/ToyasCard.lean, 'card_holds'). Laid BY PROGRAM, IN A SANDBOX (cutbox-door.mjs). By AI agents, Wed Nov 11 2026. No macro, syntax, notation, axiom, sorry.
-/
import Derived.Test.YtdlighmnlcklnaaGreatDoorRows
import GoSem.ClaimSeven
namespace Go.Proofs.YtdlighmnlcklnaaGreatDoor
namespace Rows

/-- THE TIED CARD OF 'colanderlaw03.ValueMerges'. -/
def valueMergesCard : Claim7 := { stood := { row := valueMergesRow, standIns := [], harness := (true, "c0663ea2b4bb26361bbd220e68cb22a5fab0b5fab8126ca33ec6c8d2ee54d1ad"), looks := true }, kinds := [], alts := [], laidByText := true, laidKinds := [.data, .data, .data, .data, .data, .sentinel, .sentinel, .pinned, .pinned, .pinned], laidTests := true, laidLooks := .later }
def ValueMergesCardSaid : Prop := Claim7.holds Tryz.pinned (.plain (OpenSpec.ofChange valueMergesSpec)) valueMergesCard

/-- THE TIED CARD OF 'colanderlaw03.ValueSums'. -/
def valueSumsCard : Claim7 := { stood := { row := valueSumsRow, standIns := [], harness := (true, "c0663ea2b4bb26361bbd220e68cb22a5fab0b5fab8126ca33ec6c8d2ee54d1ad"), looks := true }, kinds := [], alts := [], laidByText := true, laidKinds := [.data, .data, .data, .data, .data, .sentinel, .sentinel, .pinned, .pinned, .pinned], laidTests := true, laidLooks := .later }
def ValueSumsCardSaid : Prop := Claim7.holds Tryz.pinned (.plain (OpenSpec.ofChange valueSumsSpec)) valueSumsCard

/-- THE SECOND FORM's CARD OF 'colanderlaw03.ValueMerges'. -/
def valueMergesUptoCard : Claim7 := { stood := { row := valueMergesUptoRow, standIns := [], harness := (true, "c0663ea2b4bb26361bbd220e68cb22a5fab0b5fab8126ca33ec6c8d2ee54d1ad"), looks := true }, kinds := [], alts := [], laidByText := true, laidKinds := [.data, .data, .data, .data, .data, .sentinel, .sentinel, .pinned, .pinned, .pinned], laidTests := true, laidLooks := .later }
def ValueMergesUptoCardSaid : Prop := Claim7.holds Tryz.pinned (.plain (OpenSpec.upto valueMergesSpec)) valueMergesUptoCard

/-- THE SECOND FORM's CARD OF 'colanderlaw03.ValueSums'. -/
def valueSumsUptoCard : Claim7 := { stood := { row := valueSumsUptoRow, standIns := [], harness := (true, "c0663ea2b4bb26361bbd220e68cb22a5fab0b5fab8126ca33ec6c8d2ee54d1ad"), looks := true }, kinds := [], alts := [], laidByText := true, laidKinds := [.data, .data, .data, .data, .data, .sentinel, .sentinel, .pinned, .pinned, .pinned], laidTests := true, laidLooks := .later }
def ValueSumsUptoCardSaid : Prop := Claim7.holds Tryz.pinned (.plain (OpenSpec.upto valueSumsSpec)) valueSumsUptoCard
end Rows
end Go.Proofs.YtdlighmnlcklnaaGreatDoor
