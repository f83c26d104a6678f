/-
  DERIVED. GIVEN WITH THE SEED: THE CARDS: each row of YtnecijeakeklaaaGreatDoorRows.lean that lists a variable, with what it lists TIED to the program's text (the seventh form; the later family's looks); each row that meets fmt, with fmt's text TOLD by the authors' own Lean function (tested against real Go, not proved from fmt's source: count such statements apart). THE CARD IS WHAT COUNTS. Prove the row's statement (the work); the ties are given (YtnecijeakeklaaaGreatDoorTie.lean); close each card by the builder's one call (the guide's Derived/Test/ToyasCard.lean, 'card_holds'). Laid BY PROGRAM, IN A SANDBOX (cutbox-door.mjs). By AI agents, Wed Nov 11 2026. No macro, syntax, notation, axiom, sorry.
-/
import Derived.Test.YtnecijeakeklaaaGreatDoorRows
import GoSem.ClaimSeven
namespace Go.Proofs.YtnecijeakeklaaaGreatDoor
namespace Rows

/-- THE TIED CARD OF 'dormouselaw10.WalkPairs'. -/
def walkPairsCard : Claim7 := { stood := { row := walkPairsRow, standIns := [], harness := (true, "bd5ae153282a471b00e75b8609ec5227768ee95851437e14e65f247f655ec596"), looks := true }, kinds := [], alts := [], laidByText := true, laidKinds := [.data], laidTests := true, laidLooks := .later }
def WalkPairsCardSaid : Prop := Claim7.holds Tryz.pinned (.plain (OpenSpec.ofChange walkPairsSpec)) walkPairsCard

/-- THE TIED CARD OF 'dormouselaw10.WalkPaths'. -/
def walkPathsCard : Claim7 := { stood := { row := walkPathsRow, standIns := [], harness := (true, "bd5ae153282a471b00e75b8609ec5227768ee95851437e14e65f247f655ec596"), looks := true }, kinds := [], alts := [], laidByText := true, laidKinds := [.data], laidTests := true, laidLooks := .later }
def WalkPathsCardSaid : Prop := Claim7.holds Tryz.pinned (.plain (OpenSpec.ofChange walkPathsSpec)) walkPathsCard

/-- THE TIED CARD OF 'dormouselaw10.WalkDropped'. -/
def walkDroppedCard : Claim7 := { stood := { row := walkDroppedRow, standIns := [], harness := (true, "bd5ae153282a471b00e75b8609ec5227768ee95851437e14e65f247f655ec596"), looks := true }, kinds := [], alts := [], laidByText := true, laidKinds := [.data], laidTests := true, laidLooks := .later }
def WalkDroppedCardSaid : Prop := Claim7.holds Tryz.pinned (.plain (OpenSpec.ofChange walkDroppedSpec)) walkDroppedCard

/-- THE SECOND FORM's CARD OF 'dormouselaw10.WalkPairs'. -/
def walkPairsUptoCard : Claim7 := { stood := { row := walkPairsUptoRow, standIns := [], harness := (true, "bd5ae153282a471b00e75b8609ec5227768ee95851437e14e65f247f655ec596"), looks := true }, kinds := [], alts := [], laidByText := true, laidKinds := [.data], laidTests := true, laidLooks := .later }
def WalkPairsUptoCardSaid : Prop := Claim7.holds Tryz.pinned (.plain (OpenSpec.upto walkPairsSpec)) walkPairsUptoCard

/-- THE SECOND FORM's CARD OF 'dormouselaw10.WalkPaths'. -/
def walkPathsUptoCard : Claim7 := { stood := { row := walkPathsUptoRow, standIns := [], harness := (true, "bd5ae153282a471b00e75b8609ec5227768ee95851437e14e65f247f655ec596"), looks := true }, kinds := [], alts := [], laidByText := true, laidKinds := [.data], laidTests := true, laidLooks := .later }
def WalkPathsUptoCardSaid : Prop := Claim7.holds Tryz.pinned (.plain (OpenSpec.upto walkPathsSpec)) walkPathsUptoCard

/-- THE SECOND FORM's CARD OF 'dormouselaw10.WalkDropped'. -/
def walkDroppedUptoCard : Claim7 := { stood := { row := walkDroppedUptoRow, standIns := [], harness := (true, "bd5ae153282a471b00e75b8609ec5227768ee95851437e14e65f247f655ec596"), looks := true }, kinds := [], alts := [], laidByText := true, laidKinds := [.data], laidTests := true, laidLooks := .later }
def WalkDroppedUptoCardSaid : Prop := Claim7.holds Tryz.pinned (.plain (OpenSpec.upto walkDroppedSpec)) walkDroppedUptoCard
end Rows
end Go.Proofs.YtnecijeakeklaaaGreatDoor
