/-
 Plain facts on numbers in bytes, the lowest first: no program is named here.
-/
import Derived.Laws.Bits64b
import Derived.WalkKit
import Derived.Test.YtgolhnfkmmajpaaGreatDoorRows
import Derived.WalkSpells
import Derived.WalkLawsBesides
import Derived.Lib.Hide
import Derived.Laws.IdiomStrings
import Derived.LoopN
import Derived.Test.YtgolhnfkmmajpaaGreatDoorMa2
import Derived.Test.YtgolhnfkmmajpaaGreatDoorMa1
import Derived.Lib.Bytealg
import Derived.Lib.BytesEntry
import Derived.Laws.Externs
open Go.Lib (hid)
set_option maxHeartbeats 40000000
set_option maxRecDepth 100000
namespace Go.Proofs.YtgolhnfkmmajpaaGreatDoor
section
namespace WideP
end WideP
end
section
open Go.RowKit WideP
end
section
open Go.RowKit WideP
end
section
open Go.RowKit WideP
namespace Tx
end Tx
namespace Rx
end Rx
end
section
open Go.RowKit
namespace Ni
end Ni
end
end Go.Proofs.YtgolhnfkmmajpaaGreatDoor
