/-
  The contract of strings.Builder's WriteByte, over a builder that the call itself has made.
-/
import Derived.Test.YtmnihiagkmdepaaBu
import Derived.OwnWalk
namespace Go.Proofs.Ytmnihiagkmdepaa
open Go.RowKit

namespace Bu
theorem cell_one_new' (w : World) (v : Value) (t : TypeId) (fz : Nat × Nat) : ∀ j u, [v][j]? = some u → (w.alloc (.cells #[v] t fz)).cell? ((⟨w.heap.size, 0, none⟩ : Addr).add j) = some u := by
  intro j u hj
  match j, hj with
  | 0, hj => simp at hj; subst hj; simp [Addr.add, World.cell?_alloc_mark]

end Bu
end Go.Proofs.Ytmnihiagkmdepaa
