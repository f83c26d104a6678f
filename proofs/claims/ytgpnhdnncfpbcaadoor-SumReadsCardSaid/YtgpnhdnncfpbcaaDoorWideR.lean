/-
  Contracts of the plain answers' Num, Val, Text, Low, High.
-/
import Derived.Test.YtgpnhdnncfpbcaaDoorWideA
namespace Go.Proofs.YtgpnhdnncfpbcaaDoor
open Go.RowKit WideP

/-- one byte as a text -/
theorem conv_one (w : World) (n : Int) :
    Sem.run Tryd.prog (convert 38 9 (Value.slice (some ⟨w.heap.size, 0, none⟩) 1 1)) (w.alloc (.cells #[.int .u8 n] 5))
    = .ok (.string ⟨#[UInt8.ofNat n.toNat]⟩) (w.alloc (.cells #[.int .u8 n] 5)) := by
  have h := run_convert_bytes_arg (P := Tryd.prog) (w.alloc (.cells #[.int .u8 n] 5)) 38 5 Tryd.underlying38 Tryd.underlying5 w.heap.size 0 1 1 [n] rfl
    (fun i hi => by
      obtain rfl : i = 0 := by omega
      simp [World.cell?_alloc_mark]) 9 Tryd.underlying9
  rw [h]
  rfl

set_option maxHeartbeats 400000 in
theorem rnum_any (n : Nat) (hn : n < 2 ^ 64) (k : Nat) (hk : k ≤ 8) (w : World) :
    Calls Tryd.prog 17 #[.int .u64 n, .int .i64 k] w fun e w' => e = .returned (.string ⟨(numL n k).toArray⟩) ∧ Below w.heap.size w w' := by
  go_enter Tryd.func17, Tryd.ntmps17
  go_wp2
  go_loopw [0, 5, 6] (fun x s i wr => ∃ j : Nat, j ≤ k ∧ i = .int .i64 j ∧ x = .int .u64 (n / 256 ^ j : Nat) ∧ s = .string ⟨(numL n j).toArray⟩ ∧ Below w.heap.size w wr) (fun _ _ i _ => k - (intOf i).toNat)
  case atStart => exact ⟨0, by omega, rfl, by simp, rfl, Below.refl _ _⟩
  case round =>
    obtain ⟨j, hj, rfl, rfl, rfl, hb⟩ := hrel
    by_cases hlt : j < k
    · have hc := fun m => conv_one wr m
      have hsz : (numL n j).length ≤ 8 := by rw [numL_length]; omega
      have HD : Hid _ := Lib.hid (div_step n j hn)
      have HB : Hid _ := Lib.hid (ba_snoc n j)
      go_wp2
      go_roundw
      case rel => exact ⟨j + 1, by omega, by go_num, by rw [HD.out], by rw [HB.out], hb.alloc hb.size _⟩
      case measure => simp [intOf]; omega
    · obtain rfl : j = k := by omega
      go_wp2
      go_ret
      exact ⟨rfl, hb⟩
end Go.Proofs.YtgpnhdnncfpbcaaDoor
