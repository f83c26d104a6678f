/-
 The contract of the plain answer's path of a packed text.
-/
import Derived.Test.YtgolhnfkmmajpaaGreatDoorMb7
import Derived.Test.YtgolhnfkmmajpaaGreatDoorMb23
import Derived.Test.YtgolhnfkmmajpaaGreatDoorMb1
import Derived.Maps.AppendAt
import Derived.Test.YtgolhnfkmmajpaaGreatDoorMb25
import Derived.Test.YtgolhnfkmmajpaaGreatDoorMb26
open Go.Lib (hid)
set_option linter.unusedSimpArgs false
set_option linter.unusedVariables false
set_option maxHeartbeats 40000000
set_option maxRecDepth 100000
namespace Go.Proofs.YtgolhnfkmmajpaaGreatDoor
section
open Go.RowKit
namespace No
open Ni
end No
end
section
open Go.RowKit
namespace No
open Rl Ni
end No
end
end Go.Proofs.YtgolhnfkmmajpaaGreatDoor
