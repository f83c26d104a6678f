/-
 Whether nodes are the same: contracts of slices.Equal over bytes, node.Same, the plain answers' Same; the plain Same over texts.
-/
import Derived.Test.YtokaiemgjngcoaaGreatDoorVs14
import Derived.Test.YtokaiemgjngcoaaGreatDoorVs15
open Go.Lib (hid)
open Go.Proofs.Tryz
set_option linter.unusedSimpArgs false
set_option linter.unusedVariables false
set_option maxHeartbeats 40000000
set_option maxRecDepth 100000
namespace Go.Proofs.YtokaiemgjngcoaaGreatDoor
section
open Go.RowKit
namespace No
open Rl (Ee zR yA EJ)
end No
end
section
open Go.RowKit
namespace No
open Ni
open Rl
end No
end
end Go.Proofs.YtokaiemgjngcoaaGreatDoor
