/-
 Contracts of bytes.Compare and of nib.Less.
-/
import Derived.Test.YtoipgepkhomfgaaGreatDoorPd4
import Derived.Lib.BufferWrite
import Derived.Lib.SlBuf
open Go.Lib (hid)
open Go.Proofs.Tryz
set_option linter.unusedSimpArgs false
set_option linter.unusedVariables false
set_option maxHeartbeats 40000000
set_option maxRecDepth 100000
namespace Go.Proofs.YtoipgepkhomfgaaGreatDoor
variable {w:World} {B:Nat}
section
open Go.RowKit
namespace Ni
end Ni
end
section
open Go.RowKit
namespace Sm
open Sh
def Tab (w:World):Prop:=∀ i,i<64->w.cell? ⟨0,i,none⟩=some (.int .u32 (kN i:Nat))
theorem Tab.pos (h:Tab w):0<w.heap.size:=World.block_lt_of_cell? w _ (h 0 (by omega))
theorem Tab.below {w':World} (h:Tab w) (hb:Below B w w') (hB:0<B):Tab w':=λi hi=>(hb.cell (p:=⟨0,i,none⟩) hB).trans (h i hi)
theorem XB (w:World) (k:aM) (hk:k.length=32):bf (w.alloc (.cells (kc k) 48)) (some ⟨w.heap.size,0,none⟩) 32 32 k:=by
 have h:=bf.new w k (by unfold maxLen; omega) (kc k) 48 rfl;rw [hk] at h;exact h
theorem kR (k:aM) (hk:k.length=32) (w:World) :
  Calls prog 108 #[.agg (kc k)] w λe w'=>e = .returned (.string ⟨k.toArray⟩)/\Below w.heap.size w w':=by
 have hcv:=kQ (XB w k hk);obtain ⟨C,hC⟩:=ay (kc k)
 obtain ⟨T,hT⟩:=ay (⟨k.toArray⟩:aL)
 rw [hC,hT] at hcv;rw [hC,hT];clear hC hT hk;go_enter func108,ntmps108;go_wp2;go_ret;exact ⟨rfl,aH.alloc aG _⟩
end Sm
end
end Go.Proofs.YtoipgepkhomfgaaGreatDoor
