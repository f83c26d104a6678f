/-
 The contract of the plain answers' Block: the words' row.
-/
import Derived.Test.YtokaiemgjngcoaaGreatDoorVr4
import Derived.Deep.RegionHeldLaw
import Derived.Deep.RegionLaw
import Derived.Deep.AppendLies
import Derived.Deep.DrawnRows
open Go.Lib (hid)
open Go.Proofs.Tryz
set_option linter.unusedSimpArgs false
set_option linter.unusedVariables false
set_option maxHeartbeats 40000000
set_option maxRecDepth 100000
namespace Go.Proofs.YtokaiemgjngcoaaGreatDoor
section
open Go.RowKit
namespace Sh
attribute [local go_sem ↓] Go.wp_at_zero Go.wp_at_succ
end Sh
end
end Go.Proofs.YtokaiemgjngcoaaGreatDoor
