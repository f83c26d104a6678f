/-
 The plain answer's Read: lists.
-/
import Derived.Test.YtgolhnfkmmajpaaGreatDoorMb12
open Go.Lib (hid)
set_option linter.unusedSimpArgs false
set_option linter.unusedVariables false
set_option maxHeartbeats 40000000
set_option maxRecDepth 100000
namespace Go.Proofs.YtgolhnfkmmajpaaGreatDoor
section
open Go.RowKit
namespace Rl
theorem own_cell {w : World} {b o : Nat} {cs : Array Value} {T : TypeId} (h : Rg.Own w b cs T) (v : Value) : Rg.Own (w.setCell ⟨b, o, none⟩ v) b (cs.setIfInBounds o v) T :=
 ⟨by simp; exact h.1, heap_setCell_same w b o cs T v h.2⟩
theorem own_cell_other {w : World} {b g o : Nat} {cs : Array Value} {T : TypeId} (h : Rg.Own w b cs T) (v : Value) (hne : b ≠ g) : Rg.Own (w.setCell ⟨g, o, none⟩ v) b cs T := own_gb h (gb_set w g o v) hne
theorem own_free' {w : World} {b j : Nat} {cs : Array Value} {T : TypeId} (h : Rg.Own w b cs T) : w.frozen? ⟨b, j, none⟩ = false := by
 simp [World.frozen?, h.2]
end Rl
end
end Go.Proofs.YtgolhnfkmmajpaaGreatDoor
