/-
  Contracts of the plain answers' Num, Val, Text, Low, High.
-/
import Derived.Test.YtkhfbefaokefmaaWideA
namespace Go.Proofs.Ytkhfbefaokefmaa
open Go.RowKit WideP

set_option maxHeartbeats 400000 in
theorem rval_any (s : ByteArray) (w : World) (hs : s.size ≤ maxLen) :
    Calls Try.prog 16 #[.string s] w fun e w' => e = .returned (.int .u64 (valL (s.data.toList.take 8))) ∧ w = w' := by
  unfold maxLen at hs
  go_enter Try.func16, Try.ntmps16
  go_wp2
  go_loop [3, 4, 5] (fun n x i => ∃ k : Nat, k ≤ s.size ∧ k ≤ 8 ∧ i = .int .i64 k ∧ n = .int .u64 (valL (s.data.toList.take k)) ∧ x = .int .u64 ((256 ^ k % 18446744073709551616 : Nat) : Int)) (fun _ _ i => 8 - (intOf i).toNat)
  case atStart => exact ⟨0, by omega, by omega, rfl, rfl, rfl⟩
  case round =>
    obtain ⟨k, hk, hk8, rfl, rfl, rfl⟩ := hrel
    by_cases hlt : k < s.size ∧ k < 8
    · obtain ⟨h1, h2⟩ := hlt
      have HS : Hid ((valL (s.data.toList.take (k + 1)) : Int) = IntKind.u64.wrap ((valL (s.data.toList.take k) : Int) + IntKind.u64.wrap ((256 ^ k : Int) % 18446744073709551616 * IntKind.u64.wrap (s[k].toNat : Int)))) := Lib.hid (by
        have hl : (s.data.toList.take k).length = k := by simp; omega
        have := add_mul (s.data.toList.take k) s[k] (by omega)
        rw [hl] at this
        rw [take_snoc s k h1, this])
      have HP : Hid (IntKind.u64.wrap ((256 ^ k : Int) % 18446744073709551616 * 256) = ((256 ^ (k + 1) % 18446744073709551616 : Nat) : Int)) := Lib.hid (pow_step k)
      go_wp2
      go_round
      case rel => exact ⟨k + 1, by omega, by omega, by go_num, by rw [HS.out], by rw [HP.out]⟩
      case measure => simp [intOf]; omega
    · have HS : Hid (s.data.toList.take k = s.data.toList.take 8) := Lib.hid (by
        by_cases h8 : k = 8
        · rw [h8]
        · rw [List.take_of_length_le (by simp; omega), List.take_of_length_le (by simp; omega)])
      by_cases h1 : k < s.size
      · have h2 : ¬ k < 8 := by omega
        go_wp2
        go_ret
        exact ⟨by rw [HS.out]; rfl, rfl⟩
      · go_wp2
        go_ret
        exact ⟨by rw [HS.out]; rfl, rfl⟩

/-- one byte as a text -/
theorem conv_one (w : World) (n : Int) :
    Sem.run Try.prog (convert 44 9 (Value.slice (some ⟨w.heap.size, 0, none⟩) 1 1)) (w.alloc (.cells #[.int .u8 n] 5))
    = .ok (.string ⟨#[UInt8.ofNat n.toNat]⟩) (w.alloc (.cells #[.int .u8 n] 5)) := by
  have h := run_convert_bytes_arg (P := Try.prog) (w.alloc (.cells #[.int .u8 n] 5)) 44 5 Try.underlying44 Try.underlying5 w.heap.size 0 1 1 [n] rfl
    (fun i hi => by
      obtain rfl : i = 0 := by omega
      simp [World.cell?_alloc_mark]) 9 Try.underlying9
  rw [h]
  rfl

set_option maxHeartbeats 400000 in
theorem rnum_any (n : Nat) (hn : n < 2 ^ 64) (k : Nat) (hk : k ≤ 8) (w : World) :
    Calls Try.prog 14 #[.int .u64 n, .int .i64 k] w fun e w' => e = .returned (.string ⟨(numL n k).toArray⟩) ∧ Below w.heap.size w w' := by
  go_enter Try.func14, Try.ntmps14
  go_wp2
  go_loopw [0, 5, 6] (fun x s i wr => ∃ j : Nat, j ≤ k ∧ i = .int .i64 j ∧ x = .int .u64 (n / 256 ^ j : Nat) ∧ s = .string ⟨(numL n j).toArray⟩ ∧ Below w.heap.size w wr) (fun _ _ i _ => k - (intOf i).toNat)
  case atStart => exact ⟨0, by omega, rfl, by simp, rfl, Below.refl _ _⟩
  case round =>
    obtain ⟨j, hj, rfl, rfl, rfl, hb⟩ := hrel
    by_cases hlt : j < k
    · have hc := fun m => conv_one wr m
      have hsz : (numL n j).length ≤ 8 := by rw [numL_length]; omega
      have HD : Hid _ := Lib.hid (div_step n j hn)
      have HB : Hid _ := Lib.hid (ba_snoc n j)
      go_wp2
      go_roundw
      case rel => exact ⟨j + 1, by omega, by go_num, by rw [HD.out], by rw [HB.out], hb.alloc hb.size _⟩
      case measure => simp [intOf]; omega
    · obtain rfl : j = k := by omega
      go_wp2
      go_ret
      exact ⟨rfl, hb⟩
end Go.Proofs.Ytkhfbefaokefmaa
