/-
  Contracts of wide.Num, wide.Val and the plain answers' Num, Val, Low, High.
-/
import Derived.Test.YtgpnhdnncfpbcaaDoorRows
import Derived.Test.YtgpnhdnncfpbcaaDoorWidePlain
import Derived.WalkKit
import Derived.WalkSpells
import Derived.WalkLawsBesides
import Derived.Lib.Hide
import Derived.Laws.IdiomStrings
import Derived.LoopN
namespace Go.Proofs.YtgpnhdnncfpbcaaDoor
open Go.RowKit WideP

theorem ret_u64 {a b : Nat} (h : a = b) : Ending.returned (.int .u64 a) = .returned (.int .u64 b) := by rw [h]
theorem take_snoc (s : ByteArray) (k : Nat) (h : k < s.size) : s.data.toList.take (k + 1) = s.data.toList.take k ++ [s[k]] := by
  rw [List.take_succ_eq_append_getElem (by simpa using h)]; rfl

theorem numL_get (n k j : Nat) (h : j < (numL n k).length) : ((numL n k)[j].toNat : Int) = (n : Int) / (256 ^ j : Nat) % 256 := by
  simp only [numL, List.getElem_map, List.getElem_range]
  simp

set_option maxRecDepth 4000 in
/-- the eight cells that Num lays, as a text of c bytes -/
theorem conv_num (n : Nat) (hn : n < 2 ^ 64) (c : Nat) (hc : c ≤ 8) (w : World) :
    Sem.run Tryd.prog (convert 38 9 (Value.slice (some ⟨w.heap.size, 0, none⟩) c 8)) (w.alloc (.cells #[.int .u8 (↑n % 256), .int .u8 (↑n / 256 % 256), .int .u8 (↑n / 65536 % 256), .int .u8 (↑n / 16777216 % 256), .int .u8 (↑n / 4294967296 % 256), .int .u8 (↑n / 1099511627776 % 256), .int .u8 (↑n / 281474976710656 % 256), .int .u8 (↑n / 72057594037927936)] 71))
    = .ok (.string ⟨(numL n c).toArray⟩) (w.alloc (.cells #[.int .u8 (↑n % 256), .int .u8 (↑n / 256 % 256), .int .u8 (↑n / 65536 % 256), .int .u8 (↑n / 16777216 % 256), .int .u8 (↑n / 4294967296 % 256), .int .u8 (↑n / 1099511627776 % 256), .int .u8 (↑n / 281474976710656 % 256), .int .u8 (↑n / 72057594037927936)] 71)) := by
  have h := run_convert_bytes_back (P := Tryd.prog) (w.alloc (.cells #[.int .u8 (↑n % 256), .int .u8 (↑n / 256 % 256), .int .u8 (↑n / 65536 % 256), .int .u8 (↑n / 16777216 % 256), .int .u8 (↑n / 4294967296 % 256), .int .u8 (↑n / 1099511627776 % 256), .int .u8 (↑n / 281474976710656 % 256), .int .u8 (↑n / 72057594037927936)] 71)) 38 9 5 ⟨w.heap.size, 0, none⟩ 8 (numL n c) Tryd.underlying38 Tryd.underlying5 Tryd.underlying9
    (fun j hj => by
      have e : (⟨w.heap.size, 0, none⟩ : Addr).add j = ⟨w.heap.size, j, none⟩ := by unfold Addr.add; split <;> simp_all
      rw [e, World.cell?_alloc_mark, numL_get]
      have hj8 : j < 8 := by rw [numL_length] at hj; omega
      obtain rfl | rfl | rfl | rfl | rfl | rfl | rfl | rfl : j = 0 ∨ j = 1 ∨ j = 2 ∨ j = 3 ∨ j = 4 ∨ j = 5 ∨ j = 6 ∨ j = 7 := by omega
      all_goals simp
      omega)
  rw [numL_length] at h
  exact h

/-- how many bytes Num lays -/
def clampW (k : Int) : Nat := if k ≤ 0 then 0 else if k ≤ 8 then k.toNat else 8

set_option maxHeartbeats 400000 in
theorem num_neg (n : Nat) (hn : n < 2 ^ 64) (k : Int) (hk : k < 0) (w : World) :
    Calls Tryd.prog 35 #[.int .u64 n, .int .i64 k] w fun e w' => e = .returned (.string ⟨(numL n 0).toArray⟩) ∧ Below w.heap.size w w' := by
  have h0 := conv_num n hn 0 (by omega) w
  go_enter Tryd.func35, Tryd.ntmps35
  go_wp2
  refine wp_loop_rounds 9 ?_
  iterate 9 (rw [rounds_succ]; go_wp2)
  go_ret
  exact ⟨rfl, (Below.refl _ _).alloc (Nat.le_refl _) _⟩

set_option maxHeartbeats 400000 in
theorem num_zero (n : Nat) (hn : n < 2 ^ 64) (w : World) :
    Calls Tryd.prog 35 #[.int .u64 n, .int .i64 0] w fun e w' => e = .returned (.string ⟨(numL n 0).toArray⟩) ∧ Below w.heap.size w w' := by
  have h0 := conv_num n hn 0 (by omega) w
  go_enter Tryd.func35, Tryd.ntmps35
  go_wp2
  refine wp_loop_rounds 9 ?_
  iterate 9 (rw [rounds_succ]; go_wp2)
  go_ret
  exact ⟨rfl, (Below.refl _ _).alloc (Nat.le_refl _) _⟩

set_option maxHeartbeats 400000 in
theorem num_big (n : Nat) (hn : n < 2 ^ 64) (k : Int) (hk : 8 < k) (w : World) :
    Calls Tryd.prog 35 #[.int .u64 n, .int .i64 k] w fun e w' => e = .returned (.string ⟨(numL n 8).toArray⟩) ∧ Below w.heap.size w w' := by
  have h0 := conv_num n hn 8 (by omega) w
  go_enter Tryd.func35, Tryd.ntmps35
  go_wp2
  refine wp_loop_rounds 9 ?_
  iterate 9 (rw [rounds_succ]; go_wp2)
  go_ret
  exact ⟨rfl, (Below.refl _ _).alloc (Nat.le_refl _) _⟩

set_option maxHeartbeats 400000 in
theorem num_in (n : Nat) (hn : n < 2 ^ 64) (k : Int) (hk : 0 < k) (hk8 : k ≤ 8) (w : World) :
    Calls Tryd.prog 35 #[.int .u64 n, .int .i64 k] w fun e w' => e = .returned (.string ⟨(numL n k.toNat).toArray⟩) ∧ Below w.heap.size w w' := by
  have h0 := conv_num n hn k.toNat (by omega) w
  have hk0 : 0 ≤ k := by omega
  go_enter Tryd.func35, Tryd.ntmps35
  go_wp2
  refine wp_loop_rounds 9 ?_
  iterate 9 (rw [rounds_succ]; go_wp2)
  go_ret
  exact ⟨rfl, (Below.refl _ _).alloc (Nat.le_refl _) _⟩

/-- wide.Num, whatever it is given -/
theorem num_any (n : Nat) (hn : n < 2 ^ 64) (k : Int) (w : World) :
    Calls Tryd.prog 35 #[.int .u64 n, .int .i64 k] w fun e w' => e = .returned (.string ⟨(numL n (clampW k)).toArray⟩) ∧ Below w.heap.size w w' := by
  unfold clampW
  by_cases h0 : k ≤ 0
  · rw [if_pos h0]
    by_cases h1 : k = 0
    · subst h1; exact num_zero n hn w
    · exact num_neg n hn k (by omega) w
  · rw [if_neg h0]
    by_cases h8 : k ≤ 8
    · rw [if_pos h8]; exact num_in n hn k (by omega) h8 w
    · rw [if_neg h8]; exact num_big n hn k (by omega) w

theorem num4 (n : Nat) (hn : n < 2 ^ 64) (w : World) :
    Calls Tryd.prog 35 #[.int .u64 n, .int .i64 4] w fun e w' => e = .returned (.string ⟨(numL n 4).toArray⟩) ∧ Below w.heap.size w w' :=
  num_in n hn 4 (by omega) (by omega) w

end Go.Proofs.YtgpnhdnncfpbcaaDoor
