/-
 The plain answer's Get: two items, a path or a leaf.
-/
import Derived.Test.YtgolhnfkmmajpaaGreatDoorMb27
import Derived.Deep.DeepCutAuto
open Go.Lib (hid)
set_option linter.unusedSimpArgs false
set_option linter.unusedVariables false
set_option maxHeartbeats 40000000
set_option maxRecDepth 100000
namespace Go.Proofs.YtgolhnfkmmajpaaGreatDoor
section
open Go.RowKit
namespace No
open Rl Ni
end No
end
end Go.Proofs.YtgolhnfkmmajpaaGreatDoor
