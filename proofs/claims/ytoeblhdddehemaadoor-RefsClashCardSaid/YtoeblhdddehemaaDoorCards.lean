/-
  DERIVED. GIVEN WITH THE SEED: THE CARDS: each row of YtoeblhdddehemaaDoorRows.lean that lists a variable, with what it lists TIED to the program's text (the seventh form; the later family's looks); each row that meets fmt, with fmt's text TOLD by the authors' own Lean function (tested against real Go, not proved from fmt's source: count such statements apart). THE CARD IS WHAT COUNTS. Prove the row's statement (the work); the ties are given (YtoeblhdddehemaaDoorTie.lean); close each card by the builder's one call (the guide's Derived/Test/ToyasCard.lean, 'card_holds'). Laid BY PROGRAM, IN A SANDBOX (cutbox-door.mjs). By AI agents, Wed Nov 11 2026. No macro, syntax, notation, axiom, sorry.
-/
import Derived.Test.YtoeblhdddehemaaDoorRows
import GoSem.ClaimSeven
namespace Go.Proofs.YtoeblhdddehemaaDoor
namespace Rows

/-- THE TIED CARD OF 'dormouselaw07.RefsOf'. -/
def refsOfCard : Claim7 := { stood := { row := refsOfRow, standIns := [], harness := (true, "df4880aff86cadf7b727b18b147d2c42d1c0c790d326fb0b8001f6b16eb377db"), looks := true }, kinds := [], alts := [], laidByText := true, laidKinds := [.data], laidTests := true, laidLooks := .later }
def RefsOfCardSaid : Prop := Claim7.holds Tryd.pinned (.plain (OpenSpec.ofChange refsOfSpec)) refsOfCard

/-- THE TIED CARD OF 'dormouselaw07.RefsKinds'. -/
def refsKindsCard : Claim7 := { stood := { row := refsKindsRow, standIns := [], harness := (true, "df4880aff86cadf7b727b18b147d2c42d1c0c790d326fb0b8001f6b16eb377db"), looks := true }, kinds := [], alts := [], laidByText := true, laidKinds := [.data], laidTests := true, laidLooks := .later }
def RefsKindsCardSaid : Prop := Claim7.holds Tryd.pinned (.plain (OpenSpec.ofChange refsKindsSpec)) refsKindsCard

/-- THE TIED CARD OF 'dormouselaw07.RefsClash'. -/
def refsClashCard : Claim7 := { stood := { row := refsClashRow, standIns := [], harness := (true, "df4880aff86cadf7b727b18b147d2c42d1c0c790d326fb0b8001f6b16eb377db"), looks := true }, kinds := [], alts := [], laidByText := true, laidKinds := [.data], laidTests := true, laidLooks := .later }
def RefsClashCardSaid : Prop := Claim7.holds Tryd.pinned (.plain (OpenSpec.ofChange refsClashSpec)) refsClashCard

/-- THE SECOND FORM's CARD OF 'dormouselaw07.RefsOf'. -/
def refsOfUptoCard : Claim7 := { stood := { row := refsOfUptoRow, standIns := [], harness := (true, "df4880aff86cadf7b727b18b147d2c42d1c0c790d326fb0b8001f6b16eb377db"), looks := true }, kinds := [], alts := [], laidByText := true, laidKinds := [.data], laidTests := true, laidLooks := .later }
def RefsOfUptoCardSaid : Prop := Claim7.holds Tryd.pinned (.plain (OpenSpec.upto refsOfSpec)) refsOfUptoCard

/-- THE SECOND FORM's CARD OF 'dormouselaw07.RefsKinds'. -/
def refsKindsUptoCard : Claim7 := { stood := { row := refsKindsUptoRow, standIns := [], harness := (true, "df4880aff86cadf7b727b18b147d2c42d1c0c790d326fb0b8001f6b16eb377db"), looks := true }, kinds := [], alts := [], laidByText := true, laidKinds := [.data], laidTests := true, laidLooks := .later }
def RefsKindsUptoCardSaid : Prop := Claim7.holds Tryd.pinned (.plain (OpenSpec.upto refsKindsSpec)) refsKindsUptoCard

/-- THE SECOND FORM's CARD OF 'dormouselaw07.RefsClash'. -/
def refsClashUptoCard : Claim7 := { stood := { row := refsClashUptoRow, standIns := [], harness := (true, "df4880aff86cadf7b727b18b147d2c42d1c0c790d326fb0b8001f6b16eb377db"), looks := true }, kinds := [], alts := [], laidByText := true, laidKinds := [.data], laidTests := true, laidLooks := .later }
def RefsClashUptoCardSaid : Prop := Claim7.holds Tryd.pinned (.plain (OpenSpec.upto refsClashSpec)) refsClashUptoCard
end Rows
end Go.Proofs.YtoeblhdddehemaaDoor
