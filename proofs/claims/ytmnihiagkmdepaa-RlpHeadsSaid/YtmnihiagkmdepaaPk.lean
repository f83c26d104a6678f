/-
  What is told from far within by a panic and caught: contracts of rlp.fail and rlp.caught.
-/
import Derived.Test.YtmnihiagkmdepaaIt
import Derived.Defers
import Derived.Recover
import Derived.Laws.Pointers
namespace Go.Proofs.Ytmnihiagkmdepaa
open Go.RowKit

namespace Pk
/-- an error as a panic -/
def errP (c : Int) : PanicEntry := { v := .iface 37 (.int .i64 c), recovered := false }
theorem fail_any (c : Int) (w : World) : Calls Try.prog 34 #[.int .i64 c] w fun e w' => e = .panicked [errP c] ∧ w = w' := by
  go_enter Try.func34, Try.ntmps34
  go_wp2
  simp [bodyPost, errP]

theorem catch_panicking (p : Addr) (x c : Int) (older : List PanicEntry) (w : World) (hc : w.cell? p = some (.int .i64 x)) (hz : w.frozen? p = false) :
    CallsD Try.prog 32 #[.pointer (some p)] (.panicking (errP c :: older)) w fun e u' w' =>
      e = .returned (.tuple #[]) ∧ u' = .panicking ({ errP c with recovered := true } :: older) ∧ w' = w.setCell p (.int .i64 c) := by
  refine callsD_of_wpS Try.func32 rfl fun c₀ cs hu => ?_
  apply wpS_seq
  apply wpS_region
  simp [wpOpsS, go_sem, recoverD, hu, errP, Try.ntmps32, Exit.thenS]
  apply wpS_seq
  apply wpS_region
  simp [wpOpsS, go_sem, Exit.thenS]
  refine wpS_cond (t := true) (by simp [Act.eval, Array.replicate]) ?_
  simp only [if_true]
  apply wpS_region
  have hta : (Instr.typeAssert (.iface 37 (.int .i64 c)) 20 37 false).run Try.prog w = .ok (.int .i64 c) w := by kernel_rfl
  simp [wpOpsS, go_sem, hta, hc, hz, bodyPostS, results, Try.results32]

theorem catch_idle (p : Addr) (w : World) :
    CallsD Try.prog 32 #[.pointer (some p)] .returning w fun e u' w' => e = .returned (.tuple #[]) ∧ u' = .returning ∧ w' = w := by
  refine callsD_of_wpS Try.func32 rfl fun c₀ cs hu => ?_
  apply wpS_seq
  apply wpS_region
  simp [wpOpsS, go_sem, recoverD, hu, Try.ntmps32, Exit.thenS]
  apply wpS_seq
  apply wpS_region
  simp [wpOpsS, go_sem, Exit.thenS]
  refine wpS_cond (t := false) (by simp [Act.eval, Array.replicate]) ?_
  simp only [Bool.false_eq_true, if_false]
  refine wpS_of_wp (wp_skip ?_)
  cases c₀
  simp_all [bodyPostS, results, Try.results32]

/-- what is done is done, or told of by a panic: the closure's contract, over the cell that e lies in -/
theorem caught_ok (D : FuncId) (caps : Array Value) (hD : ∀ w, (callFunc D caps).run Try.prog w = .ok (.enter D caps) w) (w : World) (R : World → Prop)
    (h : Calls Try.prog D caps (w.alloc (.cells #[.int .i64 0] 37)) fun e w' => e = .returned (.tuple #[]) ∧ (w'.cell? ⟨w.heap.size, 0, none⟩ = some (.int .i64 0) ∧ w'.frozen? ⟨w.heap.size, 0, none⟩ = false) ∧ R w') :
    Calls Try.prog 23 #[.func (.func D) #[] caps] w fun e w' => e = .returned (.int .i64 0) ∧ ∃ w1, R w1 ∧ w' = w1.setCell ⟨w.heap.size, 0, none⟩ (.int .i64 0) := by
  have hmf : ∀ (fn : Fn) (first cap : Array Value) (w : World), (Instr.makeFunc fn first cap).run Try.prog w = .ok (.func fn first cap) w := fun _ _ _ _ => rfl
  have H := Lib.hid h
  clear h
  go_enter_defers Try.func23, Try.ntmps23
  go_wp2_with fail
  refine H.out.mono ?_
  rintro e w1 ⟨rfl, ⟨hc, hz⟩, hR⟩
  have HR := Lib.hid hR
  clear hR H
  go_wp2
  refine leaves_cons (f := 32) (args := #[.pointer (some ⟨w.heap.size, 0, none⟩)]) (by simp) (by simp [go_sem]) ?_
  refine (catch_idle ⟨w.heap.size, 0, none⟩ _).mono ?_
  rintro e u' w'' ⟨rfl, rfl, rfl⟩
  simp [Leaves, settle, results, Try.results23, go_sem, hc]
  exact ⟨w1, HR.out, rfl⟩
theorem caught_err (D : FuncId) (caps : Array Value) (hD : ∀ w, (callFunc D caps).run Try.prog w = .ok (.enter D caps) w) (w : World) (c : Int) (R : World → Prop)
    (h : Calls Try.prog D caps (w.alloc (.cells #[.int .i64 0] 37)) fun e w' => e = .panicked [errP c] ∧ (w'.cell? ⟨w.heap.size, 0, none⟩ = some (.int .i64 0) ∧ w'.frozen? ⟨w.heap.size, 0, none⟩ = false) ∧ R w') :
    Calls Try.prog 23 #[.func (.func D) #[] caps] w fun e w' => e = .returned (.int .i64 c) ∧ ∃ w1, R w1 ∧ w' = w1.setCell ⟨w.heap.size, 0, none⟩ (.int .i64 c) := by
  have hmf : ∀ (fn : Fn) (first cap : Array Value) (w : World), (Instr.makeFunc fn first cap).run Try.prog w = .ok (.func fn first cap) w := fun _ _ _ _ => rfl
  have H := Lib.hid h
  clear h
  go_enter_defers Try.func23, Try.ntmps23
  go_wp2_with fail
  refine H.out.mono ?_
  rintro e w1 ⟨rfl, ⟨hc, hz⟩, hR⟩
  have HR := Lib.hid hR
  clear hR H
  go_wp2
  refine leaves_cons (f := 32) (args := #[.pointer (some ⟨w.heap.size, 0, none⟩)]) (by simp) (by simp [go_sem]) ?_
  refine (catch_panicking ⟨w.heap.size, 0, none⟩ 0 c [] _ hc hz).mono ?_
  rintro e u' w'' ⟨rfl, rfl, rfl⟩
  simp [Leaves, settle, results, Try.results23, go_sem, hc]
  exact ⟨w1, HR.out, rfl⟩
end Pk
end Go.Proofs.Ytmnihiagkmdepaa
