/-
  DERIVED. GIVEN WITH THE SEED: THE CARDS: each row of YtgpnhdnncfpbcaaDoorRows.lean that lists a variable, with what it lists TIED to the program's text (the seventh form; the later family's looks); each row that meets fmt, with fmt's text TOLD by the authors' own Lean function (tested against real Go, not proved from fmt's source: count such statements apart). THE CARD IS WHAT COUNTS. Prove the row's statement (the work); the ties are given (YtgpnhdnncfpbcaaDoorTie.lean); close each card by the builder's one call (the guide's Derived/Test/ToyasCard.lean, 'card_holds'). Laid BY PROGRAM, IN A SANDBOX (cutbox-door.mjs). By AI agents, Wed Nov 11 2026. No macro, syntax, notation, axiom, sorry.
-/
import Derived.Test.YtgpnhdnncfpbcaaDoorRows
import GoSem.ClaimSeven
namespace Go.Proofs.YtgpnhdnncfpbcaaDoor
namespace Rows

/-- THE TIED CARD OF 'dormouselaw03.SumOf'. -/
def sumOfCard : Claim7 := { stood := { row := sumOfRow, standIns := [], harness := (true, "bc363dedd02f04385ad195772374c350c9c0fe6d60f7149052db86353d12ed58"), looks := false }, kinds := [], alts := [], laidByText := true, laidKinds := [.data], laidTests := true, laidLooks := .later }
def SumOfCardSaid : Prop := Claim7.holds Tryd.pinned (.plain (OpenSpec.ofChange sumOfSpec)) sumOfCard

/-- THE TIED CARD OF 'dormouselaw03.SumReads'. -/
def sumReadsCard : Claim7 := { stood := { row := sumReadsRow, standIns := [], harness := (true, "bc363dedd02f04385ad195772374c350c9c0fe6d60f7149052db86353d12ed58"), looks := false }, kinds := [], alts := [], laidByText := true, laidKinds := [.data], laidTests := true, laidLooks := .later }
def SumReadsCardSaid : Prop := Claim7.holds Tryd.pinned (.plain (OpenSpec.ofChange sumReadsSpec)) sumReadsCard

/-- THE SECOND FORM's CARD OF 'dormouselaw03.SumOf'. -/
def sumOfUptoCard : Claim7 := { stood := { row := sumOfUptoRow, standIns := [], harness := (true, "bc363dedd02f04385ad195772374c350c9c0fe6d60f7149052db86353d12ed58"), looks := false }, kinds := [], alts := [], laidByText := true, laidKinds := [.data], laidTests := true, laidLooks := .later }
def SumOfUptoCardSaid : Prop := Claim7.holds Tryd.pinned (.plain (OpenSpec.upto sumOfSpec)) sumOfUptoCard

/-- THE SECOND FORM's CARD OF 'dormouselaw03.SumReads'. -/
def sumReadsUptoCard : Claim7 := { stood := { row := sumReadsUptoRow, standIns := [], harness := (true, "bc363dedd02f04385ad195772374c350c9c0fe6d60f7149052db86353d12ed58"), looks := false }, kinds := [], alts := [], laidByText := true, laidKinds := [.data], laidTests := true, laidLooks := .later }
def SumReadsUptoCardSaid : Prop := Claim7.holds Tryd.pinned (.plain (OpenSpec.upto sumReadsSpec)) sumReadsUptoCard
end Rows
end Go.Proofs.YtgpnhdnncfpbcaaDoor
