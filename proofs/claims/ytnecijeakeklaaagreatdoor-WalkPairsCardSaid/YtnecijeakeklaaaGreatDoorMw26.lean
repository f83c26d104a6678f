/-
 What a slice of strings that came in is, as a walk takes it.
-/
import Derived.Test.YtnecijeakeklaaaGreatDoorRows
import Derived.WalkKit
import Derived.ProofKit
import Derived.SliceStrings
import Derived.Test.YtnecijeakeklaaaGreatDoorMw10
import Derived.Deep.DeepCutAuto
import Derived.LaidMore
import Derived.OpenShut
import Derived.ShutString
import Derived.Stop.Joined
open Go.Lib (hid)
set_option linter.unusedSimpArgs false
set_option linter.unusedVariables false
set_option maxHeartbeats 40000000
set_option maxRecDepth 100000
namespace Go.Proofs.YtnecijeakeklaaaGreatDoor
section
open Go.RowKit Go.ChangeShapes Go.WideShapes
end
section
open Go.ChangeShapes Go.WideShapes Go.ChangeAt Go.WideMaps Go.WideElems Go.RowKit
namespace Sm
open Sh
theorem gRounds : Tryz.prog.globalNamed "dormouse/sum.rounds" = some 1 := by kernel_rfl
theorem tRounds : (Tryz.prog.globals[1]?).map (·.type) = some 191 := by kernel_rfl
theorem laid_eq {H : Type} : (Rows.laid_dormouse_sum_rounds : DataW H) = .agg ((List.range 64).map fun i => .lit (.int .u32 (kN i : Nat))) := rfl
theorem cells_u32 : Tryz.prog.cellsOf 96 = 1 := by kernel_rfl
theorem tab_of_laid {W : World} (h : laidMetH Tryz.prog [("dormouse/sum.rounds", Rows.laid_dormouse_sum_rounds)] W) : Tab W := by
 rw [MakeChecks.laidMetH_plain _ _ _ (by kernel_rfl)] at h;obtain ⟨ps, ⟨g0, t0, cs0, f0, p0, q0, hg0, ht0, hv0, hd0, _⟩, _, _⟩ := h;obtain rfl := Option.some.inj (gRounds.symm.trans hg0);obtain rfl := Option.some.inj (tRounds.symm.trans ht0);obtain ⟨xs, m1, rfl, hx1, hlen, hn3, hel⟩ := DataW.trod_array Tryz.underlying191 hd0;rw [laid_eq] at hx1;simp only [Prod.mk.injEq, DataW.agg.injEq] at hx1;intro i hi;have h1 := hel i hi;rw [cells_u32, Nat.mul_one] at h1;have hi2 : i < xs.length := by omega
 rw [List.getElem?_eq_getElem hi2] at h1;obtain ⟨n, e1, e2, _⟩ := DataW.trod_int Tryz.underlying96 h1;have e3 := congrArg (fun l => l[i]?) hx1.1;simp only [List.getElem?_map, List.getElem?_eq_getElem hi2, List.getElem?_range hi, Option.map_some, e2] at e3;have e4 : n = (kN i : Nat) := by
  have := Option.some.inj e3;simpa using this.symm
 subst e4;rw [World.var?_cell hg0 hv0 i];obtain ⟨l⟩ := cs0;have e5 := congrArg (fun l => l[0]?) e1;simp only [List.getElem?_take, List.getElem?_drop, Nat.add_zero] at e5;simpa using e5
end Sm
end
end Go.Proofs.YtnecijeakeklaaaGreatDoor
