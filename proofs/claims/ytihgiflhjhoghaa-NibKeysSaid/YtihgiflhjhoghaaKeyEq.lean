/-
  A key is equal to itself; paths and keys, back and forth.
-/
import Derived.Test.YtihgiflhjhoghaaKeyC
import Derived.Test.YtihgiflhjhoghaaNibPl
import Derived.Laws.StructEq
import Derived.ChangeKeysEq
namespace Go.Proofs.Ytihgiflhjhoghaa
open Go.RowKit

namespace Ky
open Ni
theorem part_byte (k : List UInt8) (i : Nat) (hi : i < k.length) (w : World) : (part 5 (kc k) i).run Try.prog w = .ok (.int .u8 (k.getD i 0).toNat) w := by
  have hagg : (isAgg 5).run Try.prog w = .ok false w := by
    unfold isAgg
    rw [Sem.run_bind, run_underlying Try.underlying5 w]
    simp
  have hg : (kc k)[i]? = some (.int .u8 (k.getD i 0).toNat) := by simp [kc, List.getD, hi]
  unfold part
  rw [Sem.run_bind, hagg]
  simp [hg]
theorem items_same (k : List UInt8) (w : World) (d : Nat) : ∀ is : List Nat, (∀ i ∈ is, i < k.length) → (Op.eqItems (d + 1) 5 1 (kc k) (kc k) is).run Try.prog w = .ok true w
  | [], _ => by simp [Op.eqItems]
  | i :: is, h => by
    have ih := items_same k w d is (fun j hj => h j (List.mem_cons_of_mem _ hj))
    have hp := part_byte k i (h i (List.mem_cons_self ..)) w
    unfold Op.eqItems
    rw [Nat.mul_one]
    simp only [Sem.run_bind, hp, Result.andThen_ok, run_equalIn_int w d 5 .u8 .u8 _ _ Try.underlying5, beq_self_eq_true, Bool.not_true, Bool.false_eq_true, if_false]
    exact ih
theorem cells_u8 : Try.prog.cellsOf 5 = 1 := by kernel_rfl
theorem equal_key (k : List UInt8) (hk : k.length = 32) (w : World) : (Op.equalIn 10000 23 (.agg (kc k)) (.agg (kc k))).run Try.prog w = .ok true w := by
  obtain ⟨i0, hi, _⟩ := info_parts Cc.info_u8
  rw [show (10000 : Nat) = 9999 + 1 from rfl, run_equalIn_array w 9999 (kc k) (kc k) Try.underlying23 hi, cells_u8]
  exact items_same k w 9998 (List.range 32) (fun i h => by rw [hk]; simpa using h)
theorem eql_key (k : List UInt8) (hk : k.length = 32) (w : World) : (binOp .eql 23 (.agg (kc k)) (.agg (kc k))).run Try.prog w = .ok (.bool true) w := by
  rw [run_eql_struct, equal_key k hk w]
  rfl
theorem neq_key (k : List UInt8) (hk : k.length = 32) (w : World) : (binOp .neq 23 (.agg (kc k)) (.agg (kc k))).run Try.prog w = .ok (.bool false) w := by
  rw [run_neq_struct, equal_key k hk w]
  rfl
theorem guard_key : Try.prog.eqGuardType Try.prog.depth 23 = false := by kernel_rfl

/-- the key of a key's path, the path of a path's key -/
theorem key_path (k : List UInt8) (hk : k.length = 32) : keyL (pathK k) = k := by
  unfold keyL pathK
  have h := pairs_nibs ⟨k.toArray⟩
  have e : (⟨k.toArray⟩ : ByteArray).size = 32 := by show k.toArray.size = 32; simp [hk]
  rw [e] at h
  exact h
theorem path_key (l : List UInt8) (hr : rightB l = true) (hl : l.length = 64) : pathK (keyL l) = l := nibs_pairs l hr 32 hl
theorem path_right (k : List UInt8) : rightB (pathK k) = true := nibsL_right _

theorem run_load_op (ev : Operand → Value) (o : Oper) (x : Operand) (w : World) (g : Nat) (l : List UInt8) (ho : o.op = .load 23 x) (hx : ev x = .pointer (some ⟨g, 0, none⟩)) (hr : (loadVar 23 ⟨g, 0, none⟩).run Try.prog w = .ok (.agg (kc l)) w) :
    (execOp ev o).run Try.prog w = .ok (.value (.agg (kc l))) w := by
  unfold execOp
  simp only [ho, hx, Instr.loadAt, Instr.sureAddr, Sem.run_bind, Sem.run_pure, Result.andThen_ok, hr]
theorem load_block (w : World) (g : Nat) (l : List UInt8) (hl : l.length = 32) (hg : w.heap[g]? = some (.cells (kc l) 23 (0, 0))) : (loadVar 23 ⟨g, 0, none⟩).run Try.prog w = .ok (.agg (kc l)) w :=
  run_loadVar_row (P := Try.prog) w g 23 23 (kc l) (0, 0) _ hg Try.underlying23 rfl (info_kc l hl)
end Ky
end Go.Proofs.Ytihgiflhjhoghaa
