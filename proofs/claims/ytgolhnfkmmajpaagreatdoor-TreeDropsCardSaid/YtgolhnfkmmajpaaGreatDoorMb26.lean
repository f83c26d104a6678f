/-
 The plain answer's Read: long heads.
-/
import Derived.Test.YtgolhnfkmmajpaaGreatDoorMb13
open Go.Lib (hid)
set_option linter.unusedSimpArgs false
set_option linter.unusedVariables false
set_option maxHeartbeats 40000000
set_option maxRecDepth 100000
namespace Go.Proofs.YtgolhnfkmmajpaaGreatDoor
section
open Go.RowKit
namespace Rl
end Rl
end
end Go.Proofs.YtgolhnfkmmajpaaGreatDoor
