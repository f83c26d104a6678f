/-
  DERIVED. GIVEN WITH THE SEED: THE CARDS: each row of YtoipgepkhomfgaaGreatDoorRows.lean that lists a variable, with what it lists TIED to the program's text (the seventh form; the later family's looks); each row that meets fmt, with fmt's text TOLD by the authors' own Lean function (tested against real Go, not proved from fmt's source: count such statements apart). THE CARD IS WHAT COUNTS. Prove the row's statement (the work); the ties are given (YtoipgepkhomfgaaGreatDoorTie.lean); close each card by the builder's one call (the guide's Derived/Test/ToyasCard.lean, 'card_holds'). Laid BY PROGRAM, IN A SANDBOX (cutbox-door.mjs). By AI agents, Wed Nov 11 2026. No macro, syntax, notation, axiom, sorry.
-/
import Derived.Test.YtoipgepkhomfgaaGreatDoorRows
import GoSem.ClaimSeven
namespace Go.Proofs.YtoipgepkhomfgaaGreatDoor
namespace Rows

/-- THE TIED CARD OF 'dormouselaw13.ProofOf'. -/
def proofOfCard : Claim7 := { stood := { row := proofOfRow, standIns := [], harness := (true, "1a16247cb16178c160edabb6b85867048542731d797f515351db2002fae56177"), looks := true }, kinds := [], alts := [], laidByText := true, laidKinds := [.data], laidTests := true, laidLooks := .later }
def ProofOfCardSaid : Prop := Claim7.holds Tryz.pinned (.plain (OpenSpec.ofChange proofOfSpec)) proofOfCard

/-- THE TIED CARD OF 'dormouselaw13.ProofTells'. -/
def proofTellsCard : Claim7 := { stood := { row := proofTellsRow, standIns := [], harness := (true, "1a16247cb16178c160edabb6b85867048542731d797f515351db2002fae56177"), looks := true }, kinds := [], alts := [], laidByText := true, laidKinds := [.data], laidTests := true, laidLooks := .later }
def ProofTellsCardSaid : Prop := Claim7.holds Tryz.pinned (.plain (OpenSpec.ofChange proofTellsSpec)) proofTellsCard

/-- THE TIED CARD OF 'dormouselaw13.ProofDropped'. -/
def proofDroppedCard : Claim7 := { stood := { row := proofDroppedRow, standIns := [], harness := (true, "1a16247cb16178c160edabb6b85867048542731d797f515351db2002fae56177"), looks := true }, kinds := [], alts := [], laidByText := true, laidKinds := [.data], laidTests := true, laidLooks := .later }
def ProofDroppedCardSaid : Prop := Claim7.holds Tryz.pinned (.plain (OpenSpec.ofChange proofDroppedSpec)) proofDroppedCard

/-- THE SECOND FORM's CARD OF 'dormouselaw13.ProofOf'. -/
def proofOfUptoCard : Claim7 := { stood := { row := proofOfUptoRow, standIns := [], harness := (true, "1a16247cb16178c160edabb6b85867048542731d797f515351db2002fae56177"), looks := true }, kinds := [], alts := [], laidByText := true, laidKinds := [.data], laidTests := true, laidLooks := .later }
def ProofOfUptoCardSaid : Prop := Claim7.holds Tryz.pinned (.plain (OpenSpec.upto proofOfSpec)) proofOfUptoCard

/-- THE SECOND FORM's CARD OF 'dormouselaw13.ProofTells'. -/
def proofTellsUptoCard : Claim7 := { stood := { row := proofTellsUptoRow, standIns := [], harness := (true, "1a16247cb16178c160edabb6b85867048542731d797f515351db2002fae56177"), looks := true }, kinds := [], alts := [], laidByText := true, laidKinds := [.data], laidTests := true, laidLooks := .later }
def ProofTellsUptoCardSaid : Prop := Claim7.holds Tryz.pinned (.plain (OpenSpec.upto proofTellsSpec)) proofTellsUptoCard

/-- THE SECOND FORM's CARD OF 'dormouselaw13.ProofDropped'. -/
def proofDroppedUptoCard : Claim7 := { stood := { row := proofDroppedUptoRow, standIns := [], harness := (true, "1a16247cb16178c160edabb6b85867048542731d797f515351db2002fae56177"), looks := true }, kinds := [], alts := [], laidByText := true, laidKinds := [.data], laidTests := true, laidLooks := .later }
def ProofDroppedUptoCardSaid : Prop := Claim7.holds Tryz.pinned (.plain (OpenSpec.upto proofDroppedSpec)) proofDroppedUptoCard
end Rows
end Go.Proofs.YtoipgepkhomfgaaGreatDoor
