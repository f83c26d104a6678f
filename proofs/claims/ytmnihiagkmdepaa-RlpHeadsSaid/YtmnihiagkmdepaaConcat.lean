/-
  Contracts of slices.Grow of nothing, and of slices.Concat, over slices of bytes.
-/
import Derived.Test.YtmnihiagkmdepaaBs
import Derived.Lib.AppendZeros
import Derived.Laws.AppendOwnNone
namespace Go.Proofs.Ytmnihiagkmdepaa
open Go.RowKit

namespace Cc
theorem info_u8 : (Try.prog.info? 5).map (fun i => (i.zero, i.size, i.bytes)) = some (some (.int .u8 0), 1, 1) := by kernel_rfl
/-- an empty slice of the call's own -/
def GotRow (w : World) (l : List UInt8) (e : Ending) (w' : World) : Prop :=
  ∃ v, e = .returned v ∧ w'.ownsRow w.heap.size 5 1 v l.length (l.map fun x => Value.int .u8 x.toNat) ∧ Below w.heap.size w w'

/-- slices of bytes in a row -/
def IsRows (w : World) (a : Option Addr) (n : Nat) (ls : List (List UInt8)) : Prop :=
  ls.length = n ∧ ∀ j, j < n → ∃ b off, a = some ⟨b, off, none⟩ ∧ b < w.heap.size ∧ ∃ a' n' c', w.cell? ⟨b, off + j, none⟩ = some (.slice a' n' c') ∧ IsBs w a' n' c' (ls.getD j [])
/-- all of the first k, one behind the other -/
def joinK (ls : List (List UInt8)) (k : Nat) : List UInt8 := (ls.take k).flatten
theorem joinK_snoc (ls : List (List UInt8)) (k : Nat) (h : k < ls.length) : joinK ls (k + 1) = joinK ls k ++ ls.getD k [] := by
  unfold joinK
  have e : ls.getD k [] = ls[k] := by simp [List.getD, h]
  rw [List.take_succ_eq_append_getElem h, e, List.flatten_append]
  congr 1
  exact List.append_nil _
theorem joinK_le (ls : List (List UInt8)) (k : Nat) : (joinK ls k).length ≤ ls.flatten.length := by
  unfold joinK
  conv => rhs; rw [← List.take_append_drop k ls]
  rw [List.flatten_append, List.length_append]
  exact Nat.le_add_right _ _

theorem news_cells {w : World} {a : Option Addr} {n cap : Nat} {l : List UInt8} (h : IsBs w a n cap l) (ad : Addr) (ha : a = some ad) :
    ∀ j u, (l.map fun x => Value.int .u8 x.toNat)[j]? = some u → w.cell? (ad.add j) = some u := by
  intro j u hu
  have hl := h.len
  have hj : j < n := by
    rcases Nat.lt_or_ge j n with h' | h'
    · exact h'
    · rw [List.getElem?_eq_none (by simp [hl]; exact h')] at hu; cases hu
  obtain ⟨b, off, h1, _, h3⟩ := h.at' j hj
  rw [ha] at h1
  injection h1 with h1
  subst h1
  have e : (⟨b, off, none⟩ : Addr).add j = ⟨b, off + j, none⟩ := by unfold Addr.add; split <;> simp_all
  rw [e, h3]
  rw [← hu]
  simp [List.getD, hl, hj]

end Cc
end Go.Proofs.Ytmnihiagkmdepaa
