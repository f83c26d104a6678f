/-
  DERIVED. GIVEN WITH THE SEED: THE CARDS: each row of YtokaiemgjngcoaaGreatDoorRows.lean that lists a variable, with what it lists TIED to the program's text (the seventh form; the later family's looks); each row that meets fmt, with fmt's text TOLD by the authors' own Lean function (tested against real Go, not proved from fmt's source: count such statements apart). THE CARD IS WHAT COUNTS. Prove the row's statement (the work); the ties are given (YtokaiemgjngcoaaGreatDoorTie.lean); close each card by the builder's one call (the guide's Derived/Test/ToyasCard.lean, 'card_holds'). Laid BY PROGRAM, IN A SANDBOX (cutbox-door.mjs). By AI agents, Wed Nov 11 2026. No macro, syntax, notation, axiom, sorry.
-/
import Derived.Test.YtokaiemgjngcoaaGreatDoorRows
import GoSem.ClaimSeven
namespace Go.Proofs.YtokaiemgjngcoaaGreatDoor
namespace Rows

/-- THE TIED CARD OF 'dormouselaw14.VerifyAny'. -/
def verifyAnyCard : Claim7 := { stood := { row := verifyAnyRow, standIns := [], harness := (true, "fb70749e0a43f16cf74d2e137e5343f106f4021651368ae771a31126219192a1"), looks := true }, kinds := [], alts := [], laidByText := true, laidKinds := [.data], laidTests := true, laidLooks := .later }
def VerifyAnyCardSaid : Prop := Claim7.holds Tryz.pinned (.plain (OpenSpec.ofChange verifyAnySpec)) verifyAnyCard

/-- THE TIED CARD OF 'dormouselaw14.VerifyRight'. -/
def verifyRightCard : Claim7 := { stood := { row := verifyRightRow, standIns := [], harness := (true, "fb70749e0a43f16cf74d2e137e5343f106f4021651368ae771a31126219192a1"), looks := true }, kinds := [], alts := [], laidByText := true, laidKinds := [.data], laidTests := true, laidLooks := .later }
def VerifyRightCardSaid : Prop := Claim7.holds Tryz.pinned (.plain (OpenSpec.ofChange verifyRightSpec)) verifyRightCard

/-- THE TIED CARD OF 'dormouselaw14.VerifySound'. -/
def verifySoundCard : Claim7 := { stood := { row := verifySoundRow, standIns := [], harness := (true, "fb70749e0a43f16cf74d2e137e5343f106f4021651368ae771a31126219192a1"), looks := true }, kinds := [], alts := [], laidByText := true, laidKinds := [.data], laidTests := true, laidLooks := .later }
def VerifySoundCardSaid : Prop := Claim7.holds Tryz.pinned (.plain (OpenSpec.ofChange verifySoundSpec)) verifySoundCard

/-- THE SECOND FORM's CARD OF 'dormouselaw14.VerifyAny'. -/
def verifyAnyUptoCard : Claim7 := { stood := { row := verifyAnyUptoRow, standIns := [], harness := (true, "fb70749e0a43f16cf74d2e137e5343f106f4021651368ae771a31126219192a1"), looks := true }, kinds := [], alts := [], laidByText := true, laidKinds := [.data], laidTests := true, laidLooks := .later }
def VerifyAnyUptoCardSaid : Prop := Claim7.holds Tryz.pinned (.plain (OpenSpec.upto verifyAnySpec)) verifyAnyUptoCard

/-- THE SECOND FORM's CARD OF 'dormouselaw14.VerifyRight'. -/
def verifyRightUptoCard : Claim7 := { stood := { row := verifyRightUptoRow, standIns := [], harness := (true, "fb70749e0a43f16cf74d2e137e5343f106f4021651368ae771a31126219192a1"), looks := true }, kinds := [], alts := [], laidByText := true, laidKinds := [.data], laidTests := true, laidLooks := .later }
def VerifyRightUptoCardSaid : Prop := Claim7.holds Tryz.pinned (.plain (OpenSpec.upto verifyRightSpec)) verifyRightUptoCard

/-- THE SECOND FORM's CARD OF 'dormouselaw14.VerifySound'. -/
def verifySoundUptoCard : Claim7 := { stood := { row := verifySoundUptoRow, standIns := [], harness := (true, "fb70749e0a43f16cf74d2e137e5343f106f4021651368ae771a31126219192a1"), looks := true }, kinds := [], alts := [], laidByText := true, laidKinds := [.data], laidTests := true, laidLooks := .later }
def VerifySoundUptoCardSaid : Prop := Claim7.holds Tryz.pinned (.plain (OpenSpec.upto verifySoundSpec)) verifySoundUptoCard
end Rows
end Go.Proofs.YtokaiemgjngcoaaGreatDoor
