/-
  What stands ahead of so many bytes; contracts of rlp.Head and the plain answer's Head.
-/
import Derived.Test.YtmnihiagkmdepaaRf
namespace Go.Proofs.Ytmnihiagkmdepaa
open Go.RowKit

namespace Rl
def mark (l : Bool) : Nat := if l then 192 else 128
/-- ahead of n bytes -/
def headL (n : Nat) (l : Bool) : List UInt8 := if n < 56 then [UInt8.ofNat (mark l + n)] else UInt8.ofNat (mark l + 55 + (bigL n).length) :: bigL n
def headS (n : Nat) (l : Bool) : ByteArray := ⟨(headL n l).toArray⟩
/-- the number that it goes by -/
def clampH (n : Int) : Nat := (min (max n 0) 4294967296).toNat
theorem clampH_le (n : Int) : clampH n ≤ 4294967296 := by unfold clampH; omega
theorem headS_small {n : Nat} (h : n < 56) (l : Bool) : headS n l = ⟨#[UInt8.ofNat (mark l + n)]⟩ := by unfold headS headL; rw [if_pos h]
theorem headS_big {n : Nat} (h : ¬ n < 56) (l : Bool) : headS n l = ⟨#[UInt8.ofNat (mark l + 55 + (bigL n).length)]⟩ ++ ⟨(bigL n).toArray⟩ := by
  unfold headS headL
  rw [if_neg h]
  apply ByteArray.ext
  simp

theorem conv_new (w : World) (z : Int) (hz : 0 ≤ z ∧ z < 256) (c : UInt8) (hc : c = UInt8.ofNat z.toNat) :
    Sem.run Try.prog (convert 46 9 (Value.slice (some ⟨w.heap.size, 0, none⟩) 1 1)) (w.alloc (.cells #[.int .u8 z] 5)) = .ok (.string ⟨#[c]⟩) (w.alloc (.cells #[.int .u8 z] 5)) := by
  subst hc
  have hb : IsBs (w.alloc (.cells #[.int .u8 z] 5)) (some ⟨w.heap.size, 0, none⟩) 1 1 [UInt8.ofNat z.toNat] := IsBs.new w [UInt8.ofNat z.toNat] (by unfold maxLen; simp) _ _ (by
    simp
    omega)
  exact conv_bs hb

set_option maxHeartbeats 2000000 in
theorem head_small (n : Int) (m k : Nat) (hmax : max n 0 = m) (hmin : min (m : Int) 4294967296 = k) (hk : k < 56) (l : Bool) (w : World) :
    Calls Try.prog 8 #[.int .i64 n, .bool l] w fun e w' => e = .returned (.string (headS k l)) ∧ Below w.heap.size w w' := by
  cases l
  · obtain ⟨c, hc⟩ : ∃ c, c = UInt8.ofNat (128 + k) := ⟨_, rfl⟩
    have HS : Hid (headS k false = ⟨#[c]⟩) := Lib.hid (by rw [headS_small hk, hc]; rfl)
    have hcv := conv_new w (128 + k) (by omega) c (hc.trans (congrArg _ (by omega)))
    clear hc
    go_enter Try.func8, Try.ntmps8
    go_wp2
    go_ret
    exact ⟨by rw [HS.out]; rfl, al1 _ _⟩
  · obtain ⟨c, hc⟩ : ∃ c, c = UInt8.ofNat (192 + k) := ⟨_, rfl⟩
    have HS : Hid (headS k true = ⟨#[c]⟩) := Lib.hid (by rw [headS_small hk, hc]; rfl)
    have hcv := conv_new w (192 + k) (by omega) c (hc.trans (congrArg _ (by omega)))
    clear hc
    go_enter Try.func8, Try.ntmps8
    go_wp2
    go_ret
    exact ⟨by rw [HS.out]; rfl, al1 _ _⟩

set_option maxHeartbeats 2000000 in
theorem head_big (n : Int) (m k : Nat) (hmax : max n 0 = m) (hmin : min (m : Int) 4294967296 = k) (hm : m < 2 ^ 63) (hk : ¬ k < 56) (hk2 : k ≤ 4294967296) (l : Bool) (w : World) :
    Calls Try.prog 8 #[.int .i64 n, .bool l] w fun e w' => e = .returned (.string (headS k l)) ∧ Below w.heap.size w w' := by
  have HN := Lib.hid (fun w => number_any k (by omega) (by omega) w)
  have hlen := bigL_length (n := k) (by omega)
  cases l
  · obtain ⟨c, hc⟩ : ∃ c, c = UInt8.ofNat (183 + (bigL k).length) := ⟨_, rfl⟩
    have hs1 : headS k false = ⟨#[c]⟩ ++ ⟨(bigL k).toArray⟩ := by rw [headS_big hk, hc]; rfl
    have hcv := fun w => conv_new w (183 + (bigL k).length) (by omega) c (hc.trans (congrArg _ (by omega)))
    obtain ⟨B, hB⟩ : ∃ B, bigL k = B := ⟨_, rfl⟩
    rw [hB] at hs1 HN hlen
    simp only [hB] at hcv
    clear hB hc
    have hsz : (⟨B.toArray⟩ : ByteArray).size = B.length := by rfl
    obtain ⟨s, hs⟩ : ∃ s : ByteArray, ⟨B.toArray⟩ = s := ⟨_, rfl⟩
    rw [hs] at hsz hs1 HN
    have HS := Lib.hid hs1
    clear hs hs1
    go_enter Try.func8, Try.ntmps8
    go_wp2_with fail
    refine (HN.out _).mono ?_
    rintro e w1 ⟨rfl, hb1⟩
    have hcv1 := hcv w1
    go_wp2
    go_ret
    exact ⟨by rw [HS.out]; rfl, below_step' hb1 (al1 _ _)⟩
  · obtain ⟨c, hc⟩ : ∃ c, c = UInt8.ofNat (247 + (bigL k).length) := ⟨_, rfl⟩
    have hs1 : headS k true = ⟨#[c]⟩ ++ ⟨(bigL k).toArray⟩ := by rw [headS_big hk, hc]; rfl
    have hcv := fun w => conv_new w (247 + (bigL k).length) (by omega) c (hc.trans (congrArg _ (by omega)))
    obtain ⟨B, hB⟩ : ∃ B, bigL k = B := ⟨_, rfl⟩
    rw [hB] at hs1 HN hlen
    simp only [hB] at hcv
    clear hB hc
    have hsz : (⟨B.toArray⟩ : ByteArray).size = B.length := by rfl
    obtain ⟨s, hs⟩ : ∃ s : ByteArray, ⟨B.toArray⟩ = s := ⟨_, rfl⟩
    rw [hs] at hsz hs1 HN
    have HS := Lib.hid hs1
    clear hs hs1
    go_enter Try.func8, Try.ntmps8
    go_wp2_with fail
    refine (HN.out _).mono ?_
    rintro e w1 ⟨rfl, hb1⟩
    have hcv1 := hcv w1
    go_wp2
    go_ret
    exact ⟨by rw [HS.out]; rfl, below_step' hb1 (al1 _ _)⟩

set_option maxHeartbeats 2000000 in
theorem rhead_small (k : Nat) (hk : k < 56) (l : Bool) (w : World) :
    Calls Try.prog 9 #[.int .i64 k, .bool l] w fun e w' => e = .returned (.string (headS k l)) ∧ Below w.heap.size w w' := by
  cases l
  · obtain ⟨c, hc⟩ : ∃ c, c = UInt8.ofNat (128 + k) := ⟨_, rfl⟩
    have HS : Hid (headS k false = ⟨#[c]⟩) := Lib.hid (by rw [headS_small hk, hc]; rfl)
    have hcv := conv_new w (128 + k) (by omega) c (hc.trans (congrArg _ (by omega)))
    clear hc
    go_enter Try.func9, Try.ntmps9
    go_wp2
    go_ret
    exact ⟨by rw [HS.out]; rfl, al1 _ _⟩
  · obtain ⟨c, hc⟩ : ∃ c, c = UInt8.ofNat (192 + k) := ⟨_, rfl⟩
    have HS : Hid (headS k true = ⟨#[c]⟩) := Lib.hid (by rw [headS_small hk, hc]; rfl)
    have hcv := conv_new w (192 + k) (by omega) c (hc.trans (congrArg _ (by omega)))
    clear hc
    go_enter Try.func9, Try.ntmps9
    go_wp2
    go_ret
    exact ⟨by rw [HS.out]; rfl, al1 _ _⟩

set_option maxHeartbeats 2000000 in
theorem rhead_big (k : Nat) (hk : ¬ k < 56) (hk2 : k ≤ 4294967296) (l : Bool) (w : World) :
    Calls Try.prog 9 #[.int .i64 k, .bool l] w fun e w' => e = .returned (.string (headS k l)) ∧ Below w.heap.size w w' := by
  have HN := Lib.hid (fun w => big_any k (by omega) w)
  have hlen := bigL_length (n := k) (by omega)
  cases l
  · obtain ⟨c, hc⟩ : ∃ c, c = UInt8.ofNat (183 + (bigL k).length) := ⟨_, rfl⟩
    have hs1 : headS k false = ⟨#[c]⟩ ++ ⟨(bigL k).toArray⟩ := by rw [headS_big hk, hc]; rfl
    have hcv := fun w => conv_new w (183 + (bigL k).length) (by omega) c (hc.trans (congrArg _ (by omega)))
    obtain ⟨B, hB⟩ : ∃ B, bigL k = B := ⟨_, rfl⟩
    rw [hB] at hs1 HN hlen
    simp only [hB] at hcv
    clear hB hc
    have hsz : (⟨B.toArray⟩ : ByteArray).size = B.length := by rfl
    obtain ⟨s, hs⟩ : ∃ s : ByteArray, ⟨B.toArray⟩ = s := ⟨_, rfl⟩
    rw [hs] at hsz hs1 HN
    have HS := Lib.hid hs1
    clear hs hs1
    go_enter Try.func9, Try.ntmps9
    go_wp2_with fail
    refine (HN.out _).mono ?_
    rintro e w1 ⟨rfl, hb1⟩
    have hcv1 := hcv w1
    go_wp2
    go_ret
    exact ⟨by rw [HS.out]; rfl, below_step' hb1 (al1 _ _)⟩
  · obtain ⟨c, hc⟩ : ∃ c, c = UInt8.ofNat (247 + (bigL k).length) := ⟨_, rfl⟩
    have hs1 : headS k true = ⟨#[c]⟩ ++ ⟨(bigL k).toArray⟩ := by rw [headS_big hk, hc]; rfl
    have hcv := fun w => conv_new w (247 + (bigL k).length) (by omega) c (hc.trans (congrArg _ (by omega)))
    obtain ⟨B, hB⟩ : ∃ B, bigL k = B := ⟨_, rfl⟩
    rw [hB] at hs1 HN hlen
    simp only [hB] at hcv
    clear hB hc
    have hsz : (⟨B.toArray⟩ : ByteArray).size = B.length := by rfl
    obtain ⟨s, hs⟩ : ∃ s : ByteArray, ⟨B.toArray⟩ = s := ⟨_, rfl⟩
    rw [hs] at hsz hs1 HN
    have HS := Lib.hid hs1
    clear hs hs1
    go_enter Try.func9, Try.ntmps9
    go_wp2_with fail
    refine (HN.out _).mono ?_
    rintro e w1 ⟨rfl, hb1⟩
    have hcv1 := hcv w1
    go_wp2
    go_ret
    exact ⟨by rw [HS.out]; rfl, below_step' hb1 (al1 _ _)⟩

theorem head_any (n : Int) (hn : n < 2 ^ 63) (l : Bool) (w : World) :
    Calls Try.prog 8 #[.int .i64 n, .bool l] w fun e w' => e = .returned (.string (headS (clampH n) l)) ∧ Below w.heap.size w w' := by
  have h1 : max n 0 = ((max n 0).toNat : Int) := by omega
  have h2 : min (((max n 0).toNat : Nat) : Int) 4294967296 = clampH n := by unfold clampH; omega
  by_cases hk : clampH n < 56
  · exact head_small n _ _ h1 h2 hk l w
  · exact head_big n _ _ h1 h2 (by omega) hk (clampH_le n) l w
theorem rhead_any (k : Nat) (hk2 : k ≤ 4294967296) (l : Bool) (w : World) :
    Calls Try.prog 9 #[.int .i64 k, .bool l] w fun e w' => e = .returned (.string (headS k l)) ∧ Below w.heap.size w w' := by
  by_cases hk : k < 56
  · exact rhead_small k hk l w
  · exact rhead_big k hk hk2 l w
end Rl
end Go.Proofs.Ytmnihiagkmdepaa
