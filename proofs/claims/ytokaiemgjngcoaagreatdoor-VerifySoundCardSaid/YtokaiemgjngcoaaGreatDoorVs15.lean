/-
 The plain answer's Read: long heads.
-/
import Derived.Test.YtokaiemgjngcoaaGreatDoorVs8
open Go.Lib (hid)
open Go.Proofs.Tryz
set_option linter.unusedSimpArgs false
set_option linter.unusedVariables false
set_option maxHeartbeats 40000000
set_option maxRecDepth 100000
namespace Go.Proofs.YtokaiemgjngcoaaGreatDoor
section
open Go.RowKit
namespace Rl
end Rl
end
end Go.Proofs.YtokaiemgjngcoaaGreatDoor
