/-
 Contracts of strings.IndexByte, sum.Read.
-/
import Derived.Test.YtlcplcgigjagpaaGreatDoorSg5
open Go.Lib (hid)
open Go.Proofs.Tryz
set_option linter.unusedSimpArgs false
set_option linter.unusedVariables false
set_option maxHeartbeats 40000000
set_option maxRecDepth 100000
namespace Go.Proofs.YtlcplcgigjagpaaGreatDoor
section
open Go.RowKit
namespace Sm
open Sh
end Sm
end
end Go.Proofs.YtlcplcgigjagpaaGreatDoor
