/-
  DERIVED. GIVEN WITH THE SEED: THE CARDS: each row of YtooklabipgmolaaGreatDoorRows.lean that lists a variable, with what it lists TIED to the program's text (the seventh form; the later family's looks); each row that meets fmt, with fmt's text TOLD by the authors' own Lean function (tested against real Go, not proved from fmt's source: count such statements apart). THE CARD IS WHAT COUNTS. Prove the row's statement (the work); the ties are given (YtooklabipgmolaaGreatDoorTie.lean); close each card by the builder's one call (the guide's Derived/Test/ToyasCard.lean, 'card_holds'). Laid BY PROGRAM, IN A SANDBOX (cutbox-door.mjs). By AI agents, Wed Nov 11 2026. No macro, syntax, notation, axiom, sorry.
-/
import Derived.Test.YtooklabipgmolaaGreatDoorRows
import GoSem.ClaimSeven
namespace Go.Proofs.YtooklabipgmolaaGreatDoor
namespace Rows

/-- THE TIED CARD OF 'dormouselaw09.RootNodes'. -/
def rootNodesCard : Claim7 := { stood := { row := rootNodesRow, standIns := [], harness := (true, "e6f017ac222c0509ca9f0767caaeca7a2cc7ed0267b1796b96d4a95e6d690399"), looks := true }, kinds := [], alts := [], laidByText := true, laidKinds := [.data], laidTests := true, laidLooks := .later }
def RootNodesCardSaid : Prop := Claim7.holds Tryz.pinned (.plain (OpenSpec.ofChange rootNodesSpec)) rootNodesCard

/-- THE SECOND FORM's CARD OF 'dormouselaw09.RootNodes'. -/
def rootNodesUptoCard : Claim7 := { stood := { row := rootNodesUptoRow, standIns := [], harness := (true, "e6f017ac222c0509ca9f0767caaeca7a2cc7ed0267b1796b96d4a95e6d690399"), looks := true }, kinds := [], alts := [], laidByText := true, laidKinds := [.data], laidTests := true, laidLooks := .later }
def RootNodesUptoCardSaid : Prop := Claim7.holds Tryz.pinned (.plain (OpenSpec.upto rootNodesSpec)) rootNodesUptoCard
end Rows
end Go.Proofs.YtooklabipgmolaaGreatDoor
