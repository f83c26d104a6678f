/-
  DERIVED. GIVEN WITH THE SEED: THE CARDS: each row of YtlembfhdljmcoaaDoorRows.lean that lists a variable, with what it lists TIED to the program's text (the seventh form; the later family's looks); each row that meets fmt, with fmt's text TOLD by the authors' own Lean function (tested against real Go, not proved from fmt's source: count such statements apart). THE CARD IS WHAT COUNTS. Prove the row's statement (the work); the ties are given (YtlembfhdljmcoaaDoorTie.lean); close each card by the builder's one call (the guide's Derived/Test/ToyasCard.lean, 'card_holds'). Laid BY PROGRAM, IN A SANDBOX (cutbox-door.mjs). By AI agents, Wed Nov 11 2026. No macro, syntax, notation, axiom, sorry.
-/
import Derived.Test.YtlembfhdljmcoaaDoorRows
import GoSem.ClaimSeven
namespace Go.Proofs.YtlembfhdljmcoaaDoor
namespace Rows

/-- THE TIED CARD OF 'dormouselaw12.BodiesDo'. -/
def bodiesDoCard : Claim7 := { stood := { row := bodiesDoRow, standIns := [], harness := (true, "a0fc9db3933b08a7ab060ee2e8f4b6af8d548f8a0f2097a0c1e2f4524510eaa0"), looks := false }, kinds := [], alts := [], laidByText := true, laidKinds := [.data], laidTests := true, laidLooks := .later }
def BodiesDoCardSaid : Prop := Claim7.holds Tryd.pinned (.plain (OpenSpec.ofChange bodiesDoSpec)) bodiesDoCard

/-- THE TIED CARD OF 'dormouselaw12.BodiesSums'. -/
def bodiesSumsCard : Claim7 := { stood := { row := bodiesSumsRow, standIns := [], harness := (true, "a0fc9db3933b08a7ab060ee2e8f4b6af8d548f8a0f2097a0c1e2f4524510eaa0"), looks := false }, kinds := [], alts := [], laidByText := true, laidKinds := [.data], laidTests := true, laidLooks := .later }
def BodiesSumsCardSaid : Prop := Claim7.holds Tryd.pinned (.plain (OpenSpec.ofChange bodiesSumsSpec)) bodiesSumsCard

/-- THE SECOND FORM's CARD OF 'dormouselaw12.BodiesDo'. -/
def bodiesDoUptoCard : Claim7 := { stood := { row := bodiesDoUptoRow, standIns := [], harness := (true, "a0fc9db3933b08a7ab060ee2e8f4b6af8d548f8a0f2097a0c1e2f4524510eaa0"), looks := false }, kinds := [], alts := [], laidByText := true, laidKinds := [.data], laidTests := true, laidLooks := .later }
def BodiesDoUptoCardSaid : Prop := Claim7.holds Tryd.pinned (.plain (OpenSpec.upto bodiesDoSpec)) bodiesDoUptoCard

/-- THE SECOND FORM's CARD OF 'dormouselaw12.BodiesSums'. -/
def bodiesSumsUptoCard : Claim7 := { stood := { row := bodiesSumsUptoRow, standIns := [], harness := (true, "a0fc9db3933b08a7ab060ee2e8f4b6af8d548f8a0f2097a0c1e2f4524510eaa0"), looks := false }, kinds := [], alts := [], laidByText := true, laidKinds := [.data], laidTests := true, laidLooks := .later }
def BodiesSumsUptoCardSaid : Prop := Claim7.holds Tryd.pinned (.plain (OpenSpec.upto bodiesSumsSpec)) bodiesSumsUptoCard
end Rows
end Go.Proofs.YtlembfhdljmcoaaDoor
