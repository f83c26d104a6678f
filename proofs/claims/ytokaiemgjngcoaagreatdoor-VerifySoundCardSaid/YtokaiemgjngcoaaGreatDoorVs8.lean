/-
 The plain answer's Read: texts, and lists.
-/
import Derived.Test.YtokaiemgjngcoaaGreatDoorVs7
open Go.Lib (hid)
open Go.Proofs.Tryz
set_option linter.unusedSimpArgs false
set_option linter.unusedVariables false
set_option maxHeartbeats 40000000
set_option maxRecDepth 100000
namespace Go.Proofs.YtokaiemgjngcoaaGreatDoor
variable {w:World} {o:Nat}
section
open Go.RowKit
namespace Rl
theorem aV {b:Nat} {cs:aO} {T:TypeId} (h:Rg.Own w b cs T) (v:Value):Rg.Own (w.setCell ⟨b,o,none⟩ v) b (cs.setIfInBounds o v) T :=
 ⟨by simp; exact h.1,heap_setCell_same w b o cs T v h.2⟩
theorem BS {b g:Nat} {cs:aO} {T:TypeId} (h:Rg.Own w b cs T) (v:Value) (hne:b≠g):Rg.Own (w.setCell ⟨g,o,none⟩ v) b cs T:=nY h (BQ w g o v) hne
theorem Qe {b j:Nat} {cs:aO} {T:TypeId} (h:Rg.Own w b cs T):w.frozen? ⟨b,j,none⟩=false:=by
 simp [World.frozen?,h.2]
end Rl
end
end Go.Proofs.YtokaiemgjngcoaaGreatDoor
