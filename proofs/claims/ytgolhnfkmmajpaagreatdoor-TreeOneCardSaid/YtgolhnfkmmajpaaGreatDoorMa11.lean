/-
 Contracts of sum.Parts, sum.Text, sum.Less, sum.From.
-/
import Derived.Test.YtgolhnfkmmajpaaGreatDoorMa9
import Derived.Test.YtgolhnfkmmajpaaGreatDoorMa10
import Derived.Lib.BufferWrite
import Derived.Lib.SlBuf
import Derived.Laws.ResultCell
import Derived.Test.YtgolhnfkmmajpaaGreatDoorMa2
import Derived.Lib.Bytealg
import Derived.Laws.Externs
open Go.Lib (hid)
set_option maxHeartbeats 40000000
set_option maxRecDepth 100000
namespace Go.Proofs.YtgolhnfkmmajpaaGreatDoor
section
open Go.RowKit
namespace Sm
open Sh
def Tab (w : World) : Prop := ∀ i, i < 64 → w.cell? ⟨0, i, none⟩ = some (.int .u32 (kN i : Nat))
theorem Tab.pos {w : World} (h : Tab w) : 0 < w.heap.size := World.block_lt_of_cell? w _ (h 0 (by omega))
theorem Tab.below {w w' : World} (h : Tab w) {B : Nat} (hb : Below B w w') (hB : 0 < B) : Tab w' := fun i hi => (hb.cell (p := ⟨0, i, none⟩) hB).trans (h i hi)
theorem isBs_kc (w : World) (k : List UInt8) (hk : k.length = 32) : IsBs (w.alloc (.cells (kc k) 132)) (some ⟨w.heap.size, 0, none⟩) 32 32 k := by
 have h := IsBs.new w k (by unfold maxLen; omega) (kc k) 132 rfl
 rw [hk] at h
 exact h
theorem text_any (k : List UInt8) (hk : k.length = 32) (w : World) :
  Calls Tryz.prog 84 #[.agg (kc k)] w fun e w' => e = .returned (.string ⟨k.toArray⟩) ∧ Below w.heap.size w w' := by
 have hcv := conv_bs (isBs_kc w k hk)
 obtain ⟨C, hC⟩ : ∃ C, kc k = C := ⟨_, rfl⟩
 obtain ⟨T, hT⟩ : ∃ T, (⟨k.toArray⟩ : ByteArray) = T := ⟨_, rfl⟩
 rw [hC, hT] at hcv
 rw [hC, hT]
 clear hC hT hk
 go_enter Tryz.func84, Tryz.ntmps84
 go_wp2
 go_ret
 exact ⟨rfl, (Below.refl _ _).alloc (Nat.le_refl _) _⟩
end Sm
end
section
open Go.RowKit
namespace Sm
open Sh
end Sm
end
section
open Go.RowKit
namespace Sm
open Sh
end Sm
end
end Go.Proofs.YtgolhnfkmmajpaaGreatDoor
