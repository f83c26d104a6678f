/-
 The contract of the plain answer's Read, of any bytes that are not far too many.
-/
import Derived.Test.YtgolhnfkmmajpaaGreatDoorMb3
open Go.Lib (hid)
set_option linter.unusedSimpArgs false
set_option linter.unusedVariables false
set_option maxHeartbeats 40000000
set_option maxRecDepth 100000
namespace Go.Proofs.YtgolhnfkmmajpaaGreatDoor
section
open Go.RowKit
namespace Rl
theorem op_load_it {ev : Operand → Value} {o : Oper} {w : World} {b : Nat} {x : It} {a : Option Addr} {n c : Nat} (h : Rg.Own w b (itC x a n c) 101) (ho : ∃ y, o.op = .load 101 y ∧ ev y = .pointer (some ⟨b, 0, none⟩)) :
  (execOp ev o).run Tryz.prog w = .ok (.value (.agg (itC x a n c))) w := by
 obtain ⟨y, ho, hx⟩ := ho
 have := run_load_item (lies_row h.2)
 unfold execOp
 simp only [ho, hx, Instr.loadAt, Instr.sureAddr, Sem.run_bind, Sem.run_pure, Result.andThen_ok, this]
 rfl
theorem wpl_store_it {ops : Array Oper} {rest : List Oper} {o : Oper} {act : Act} {w : World} {Q : Exit → Act → World → Prop} {b : Nat} {x : It} {a : Option Addr} {n c : Nat} (h : Rg.Own w b (itC x a n c) 101) (y : It) (a' : Option Addr) (n' c' : Nat)
  (hgd : o.guard = none) (p q : Operand) (ho : o.op = .store 101 p q) (hx : act.eval p = .pointer (some ⟨b, 0, none⟩)) (hy : act.eval q = .agg (itC y a' n' c')) (hd : o.dst = none)
  (hQ : wpList Tryz.prog ops Q rest act (w.setRow b (itC y a' n' c'))) : wpList Tryz.prog ops Q (o :: rest) act w :=
 wpList_store_rowTo hgd 101 p q ho hd b _ hx hy 101 _ h.2 (info_itC _ _ _ _) rfl (itC_one _ _ _ _) hQ
theorem own_rowI {w : World} {b : Nat} {cs cs' : Array Value} {T : TypeId} (h : Rg.Own w b cs T) : Rg.Own (w.setRow b cs') b cs' T := own_row_same h
end Rl
end
section
open Go.RowKit
namespace Rl
end Rl
end
end Go.Proofs.YtgolhnfkmmajpaaGreatDoor
