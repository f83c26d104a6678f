/-
  DERIVED. GIVEN WITH THE SEED: THE CARDS: each row of YtlcplcgigjagpaaGreatDoorRows.lean that lists a variable, with what it lists TIED to the program's text (the seventh form; the later family's looks); each row that meets fmt, with fmt's text TOLD by the authors' own Lean function (tested against real Go, not proved from fmt's source: count such statements apart). THE CARD IS WHAT COUNTS. Prove the row's statement (the work); the ties are given (YtlcplcgigjagpaaGreatDoorTie.lean); close each card by the builder's one call (the guide's Derived/Test/ToyasCard.lean, 'card_holds'). Laid BY PROGRAM, IN A SANDBOX (cutbox-door.mjs). By AI agents, Wed Nov 11 2026. No macro, syntax, notation, axiom, sorry.
-/
import Derived.Test.YtlcplcgigjagpaaGreatDoorRows
import GoSem.ClaimSeven
namespace Go.Proofs.YtlcplcgigjagpaaGreatDoor
namespace Rows

/-- THE TIED CARD OF 'dormouselaw11.StubDrops'. -/
def stubDropsCard : Claim7 := { stood := { row := stubDropsRow, standIns := [], harness := (true, "fb3aac52cf509b84953bf934a958e10e4baf28f2102d5435306551f64a6ff5b6"), looks := true }, kinds := [], alts := [], laidByText := true, laidKinds := [.data], laidTests := true, laidLooks := .later }
def StubDropsCardSaid : Prop := Claim7.holds Tryz.pinned (.plain (OpenSpec.ofChange stubDropsSpec)) stubDropsCard

/-- THE TIED CARD OF 'dormouselaw11.StubGrafts'. -/
def stubGraftsCard : Claim7 := { stood := { row := stubGraftsRow, standIns := [], harness := (true, "fb3aac52cf509b84953bf934a958e10e4baf28f2102d5435306551f64a6ff5b6"), looks := true }, kinds := [], alts := [], laidByText := true, laidKinds := [.data], laidTests := true, laidLooks := .later }
def StubGraftsCardSaid : Prop := Claim7.holds Tryz.pinned (.plain (OpenSpec.ofChange stubGraftsSpec)) stubGraftsCard

/-- THE SECOND FORM's CARD OF 'dormouselaw11.StubDrops'. -/
def stubDropsUptoCard : Claim7 := { stood := { row := stubDropsUptoRow, standIns := [], harness := (true, "fb3aac52cf509b84953bf934a958e10e4baf28f2102d5435306551f64a6ff5b6"), looks := true }, kinds := [], alts := [], laidByText := true, laidKinds := [.data], laidTests := true, laidLooks := .later }
def StubDropsUptoCardSaid : Prop := Claim7.holds Tryz.pinned (.plain (OpenSpec.upto stubDropsSpec)) stubDropsUptoCard

/-- THE SECOND FORM's CARD OF 'dormouselaw11.StubGrafts'. -/
def stubGraftsUptoCard : Claim7 := { stood := { row := stubGraftsUptoRow, standIns := [], harness := (true, "fb3aac52cf509b84953bf934a958e10e4baf28f2102d5435306551f64a6ff5b6"), looks := true }, kinds := [], alts := [], laidByText := true, laidKinds := [.data], laidTests := true, laidLooks := .later }
def StubGraftsUptoCardSaid : Prop := Claim7.holds Tryz.pinned (.plain (OpenSpec.upto stubGraftsSpec)) stubGraftsUptoCard
end Rows
end Go.Proofs.YtlcplcgigjagpaaGreatDoor
