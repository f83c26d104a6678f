/-
  Contracts of the plain answers' low, turn, shift, K.
-/
import Derived.Test.YtgpnhdnncfpbcaaDoorBs
import Derived.Test.YtgpnhdnncfpbcaaDoorShaPlain
import Derived.LoopN
import Derived.Laws.Rows
namespace Go.Proofs.YtgpnhdnncfpbcaaDoor
open Go.RowKit

namespace Sh
theorem ret_u64 {a b : Int} (h : a = b) : Ending.returned (.int .u64 a) = .returned (.int .u64 b) := by rw [h]
theorem low_any (x : Nat) (hx : x < 18446744073709551616) (w : World) :
    Calls Tryd.prog 32 #[.int .u64 x] w fun e w' => e = .returned (.int .u64 (x % 4294967296 : Nat)) ∧ w = w' := by
  go_enter Tryd.func32, Tryd.ntmps32
  go_wp2
  go_ret
  exact ⟨ret_u64 (by omega), rfl⟩

set_option maxHeartbeats 400000 in
theorem turn_any (x n : Nat) (hx : x < 4294967296) (hn : n ≤ 1000) (w : World) :
    Calls Tryd.prog 30 #[.int .u64 x, .int .i64 n] w fun e w' => e = .returned (.int .u64 (turnN x n : Nat)) ∧ w = w' := by
  have HT := Lib.hid (fun k => turnN_lt k x hx)
  have HS := Lib.hid (fun k => turnN_succ k x)
  clear hx
  go_enter Tryd.func30, Tryd.ntmps30
  go_wp2
  go_loop [0, 5] (fun v i => ∃ k : Nat, k ≤ n ∧ i = .int .i64 k ∧ v = .int .u64 (turnN x k : Nat)) (fun _ i => n - (intOf i).toNat)
  case atStart => exact ⟨0, Nat.zero_le _, rfl, rfl⟩
  case round =>
    obtain ⟨k, hk, rfl, rfl⟩ := hrel
    have hy := HT.out k
    have hs := HS.out k
    obtain ⟨y, hye⟩ : ∃ y, turnN x k = y := ⟨_, rfl⟩
    rw [hye] at hy hs ⊢
    have HY := Lib.hid hs
    have HE := Lib.hid hye
    clear hs hye
    by_cases hlt : k < n
    · go_wp2
      go_round
      case rel => exact ⟨k + 1, by omega, by go_num, by rw [HY.out]; unfold turn1; go_num⟩
      case measure => simp [intOf]; omega
    · obtain rfl : k = n := by omega
      go_wp2
      go_ret
      exact ⟨by rw [HE.out]; rfl, rfl⟩

set_option maxHeartbeats 400000 in
theorem shift_any (x n : Nat) (hx : x < 4294967296) (hn : n ≤ 1000) (w : World) :
    Calls Tryd.prog 31 #[.int .u64 x, .int .i64 n] w fun e w' => e = .returned (.int .u64 (shiftN x n : Nat)) ∧ w = w' := by
  have HT : Hid (∀ k, shiftN x k < 4294967296) := Lib.hid (fun k => by rw [shiftN_eq]; exact Nat.lt_of_le_of_lt (Nat.div_le_self _ _) hx)
  have HS := Lib.hid (fun k => shiftN_succ k x)
  clear hx
  go_enter Tryd.func31, Tryd.ntmps31
  go_wp2
  go_loop [0, 5] (fun v i => ∃ k : Nat, k ≤ n ∧ i = .int .i64 k ∧ v = .int .u64 (shiftN x k : Nat)) (fun _ i => n - (intOf i).toNat)
  case atStart => exact ⟨0, Nat.zero_le _, rfl, rfl⟩
  case round =>
    obtain ⟨k, hk, rfl, rfl⟩ := hrel
    have hy := HT.out k
    have hs := HS.out k
    obtain ⟨y, hye⟩ : ∃ y, shiftN x k = y := ⟨_, rfl⟩
    rw [hye] at hy hs ⊢
    have HY := Lib.hid hs
    have HE := Lib.hid hye
    clear hs hye
    by_cases hlt : k < n
    · go_wp2
      go_round
      case rel => exact ⟨k + 1, by omega, by go_num, by rw [HY.out]; go_num⟩
      case measure => simp [intOf]; omega
    · obtain rfl : k = n := by omega
      go_wp2
      go_ret
      exact ⟨by rw [HE.out]; rfl, rfl⟩

/-- the same at a written number -/
theorem turn_c (x n : Nat) (N : Int) (hN : N = n) (hx : x < 4294967296) (hn : n ≤ 1000) (w : World) :
    Calls Tryd.prog 30 #[.int .u64 x, .int .i64 N] w fun e w' => e = .returned (.int .u64 (turnN x n : Nat)) ∧ w = w' := by
  subst hN; exact turn_any x n hx hn w
theorem shift_c (x n : Nat) (N : Int) (hN : N = n) (hx : x < 4294967296) (hn : n ≤ 1000) (w : World) :
    Calls Tryd.prog 31 #[.int .u64 x, .int .i64 N] w fun e w' => e = .returned (.int .u64 (shiftN x n : Nat)) ∧ w = w' := by
  subst hN; exact shift_any x n hx hn w

/-- an operation whose run is known -/
theorem wpList_run {P : Program} {w : World} {ops : Array Oper} {rest : List Oper} {o : Oper} {a : Act} {Q : Exit → Act → World → Prop} (hgd : o.guard = none) (v : Value) (w' : World)
    (hr : (execOp a.eval o).run P w = .ok (.value v) w') (h : wpList P ops Q rest (a.put o.dst v) w') : wpList P ops Q (o :: rest) a w :=
  wpList_plain hgd fun K hK => by
    unfold Oper.wp
    rw [hr]
    exact hK _ _ h
/-- words as cells -/
def wc (l : List Nat) : Array Value := (l.map fun (x : Nat) => Value.int .u64 (x : Int)).toArray
theorem wc_cell (w : World) (l : List Nat) (t : TypeId) (i : Nat) (hi : i < l.length) : (w.alloc (.cells (wc l) t)).cell? ⟨w.heap.size, i, none⟩ = some (.int .u64 (l.getD i 0 : Nat)) := by
  rw [World.cell?_alloc_mark]
  simp [wc, List.getD, hi]
theorem k_len : kList.length = 64 := by decide +kernel

set_option maxRecDepth 100000 in
set_option maxHeartbeats 1000000 in
theorem k_any (i : Nat) (hi : i < 64) (w : World) :
    Calls Tryd.prog 33 #[.int .i64 i] w fun e w' => e = .returned (.int .u64 (kN i : Nat)) ∧ Below w.heap.size w w' := by
  have hc := wc_cell w kList 37 i (by rw [k_len]; exact hi)
  obtain ⟨y, hy⟩ : ∃ y, kN i = y := ⟨_, rfl⟩
  have hy2 : kList.getD i 0 = y := hy
  rw [hy2] at hc
  rw [hy]
  clear hy hy2
  go_enter Tryd.func33, Tryd.ntmps33
  go_wp2_with (refine wpList_run (o := ⟨some 4, _, _, _, _, _⟩) rfl (.slice (some ⟨w.heap.size, 0, none⟩) 64 64) (w.alloc (.cells (wc kList) 37)) (by kernel_rfl) ?_)
  go_ret
  exact ⟨rfl, (Below.refl _ _).alloc (Nat.le_refl _) _⟩
end Sh
end Go.Proofs.YtgpnhdnncfpbcaaDoor
