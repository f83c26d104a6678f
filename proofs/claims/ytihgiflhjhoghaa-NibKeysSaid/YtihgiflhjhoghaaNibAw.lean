/-
  What comes at any rate of nib (the law's awake): it is so.
-/
import Derived.Test.YtihgiflhjhoghaaNibE
import Derived.Test.YtihgiflhjhoghaaNibR
namespace Go.Proofs.Ytihgiflhjhoghaa
open Go.RowKit

namespace Na
open Ni
theorem pk : packL [1, 2, 3] true = [49, 35] := by decide +kernel
theorem aw_pack (w : World) :
    Calls Try.prog 13 #[.slice (some ⟨w.heap.size, 0, none⟩) 3 3, .bool true] (w.alloc (.cells #[.int .u8 1, .int .u8 2, .int .u8 3] 5)) fun e w' => e = .returned (.tuple #[.string ⟨#[49, 35]⟩, .int .i64 0]) ∧ Below w.heap.size w w' := by
  have h : IsBs (w.alloc (.cells #[.int .u8 1, .int .u8 2, .int .u8 3] 5)) (some ⟨w.heap.size, 0, none⟩) 3 3 [1, 2, 3] := IsBs.new w [1, 2, 3] (by unfold maxLen; decide) _ _ rfl
  refine (pack_odd _ _ 3 3 [1, 2, 3] true (by omega) (by omega) (by decide) _ h).mono ?_
  rintro e w' ⟨rfl, hb⟩
  rw [pk]
  exact ⟨rfl, ((Below.refl _ _).alloc (Nat.le_refl _) _).trans (hb.mono (by simp))⟩
theorem notBad : ¬ Bad ⟨#[0, 18]⟩ := by
  have e0 : nibAt ⟨#[0, 18]⟩ 0 = 0 := by decide +kernel
  have e1 : nibAt ⟨#[0, 18]⟩ 1 = 0 := by decide +kernel
  have e2 : (⟨#[0, 18]⟩ : ByteArray).size = 2 := rfl
  unfold Bad
  rw [e0, e1, e2]
  omega
theorem lf : leafB ⟨#[0, 18]⟩ = false := by decide +kernel
theorem pl : pathL ⟨#[0, 18]⟩ = [1, 2] := by decide +kernel
theorem aw_unpack (w : World) :
    Calls Try.prog 14 #[.string ⟨#[0, 18]⟩] w fun e w' => ∃ a n cap, e = .returned (.tuple #[.slice a n cap, .bool false, .int .i64 0]) ∧ IsBs w' a n cap [1, 2] ∧ Below w.heap.size w w' := by
  refine (unpack_ok ⟨#[0, 18]⟩ (by decide) notBad w).mono ?_
  rintro e w' ⟨a, n, cap, rfl, hx, hb⟩
  rw [lf]
  rw [pl] at hx
  exact ⟨a, n, cap, rfl, hx, hb⟩
theorem cm : commonN [1, 2] [1, 3] = 1 := by decide +kernel
theorem aw_common (w : World) :
    Calls Try.prog 18 #[.slice (some ⟨w.heap.size, 0, none⟩) 2 2, .slice (some ⟨w.heap.size + 1, 0, none⟩) 2 2] ((w.alloc (.cells #[.int .u8 1, .int .u8 2] 5)).alloc (.cells #[.int .u8 1, .int .u8 3] 5)) fun e w' => e = .returned (.int .i64 1) ∧ Below w.heap.size w w' := by
  have h1 : IsBs (w.alloc (.cells #[.int .u8 1, .int .u8 2] 5)) (some ⟨w.heap.size, 0, none⟩) 2 2 [1, 2] := IsBs.new w [1, 2] (by unfold maxLen; decide) _ _ rfl
  have h2 : IsBs ((w.alloc (.cells #[.int .u8 1, .int .u8 2] 5)).alloc (.cells #[.int .u8 1, .int .u8 3] 5)) (some ⟨(w.alloc (.cells #[.int .u8 1, .int .u8 2] 5)).heap.size, 0, none⟩) 2 2 [1, 3] := IsBs.new _ [1, 3] (by unfold maxLen; decide) _ _ rfl
  rw [World.size_alloc] at h2
  refine (common_any _ _ 2 2 2 2 [1, 2] [1, 3] (by omega) (by omega) _ (h1.alloc _) h2).mono ?_
  rintro e w' ⟨rfl, q, rfl⟩
  rw [cm]
  exact ⟨rfl, below_drewN (((Below.refl _ _).alloc (Nat.le_refl _) _).alloc (by simp) _) q⟩
theorem tx : textK [10, 99] 2 = [97, 63] := by decide +kernel
theorem aw_text (w : World) :
    Calls Try.prog 16 #[.slice (some ⟨w.heap.size, 0, none⟩) 2 2] (w.alloc (.cells #[.int .u8 10, .int .u8 99] 5)) fun e w' => e = .returned (.string ⟨#[97, 63]⟩) ∧ Below w.heap.size w w' := by
  have h : IsBs (w.alloc (.cells #[.int .u8 10, .int .u8 99] 5)) (some ⟨w.heap.size, 0, none⟩) 2 2 [10, 99] := IsBs.new w [10, 99] (by unfold maxLen; decide) _ _ rfl
  refine (text_any _ 2 2 [10, 99] (by omega) _ h).mono ?_
  rintro e w' ⟨rfl, hb⟩
  rw [tx]
  exact ⟨rfl, ((Below.refl _ _).alloc (Nat.le_refl _) _).trans (hb.mono (by simp))⟩

set_option maxHeartbeats 1000000 in
theorem awake_any (w : World) :
    Calls Try.prog 7 #[] w fun e w' => e = .returned (.bool true) ∧ Below w.heap.size w w' := by
  go_enter Try.func7, Try.ntmps7
  go_wp2_with fail
  refine (aw_pack _).mono ?_
  rintro e w1 ⟨rfl, hb1⟩
  go_wp2_with fail
  refine (aw_unpack _).mono ?_
  rintro e w2 ⟨a, n, cap, rfl, hx, hb2⟩
  have hcv := conv_bs hx
  have hb := hb1.trans (hb2.mono hb1.size)
  clear hx hb1 hb2
  go_wp2_with fail
  refine (aw_common _).mono ?_
  rintro e w3 ⟨rfl, hb3⟩
  have hbb := hb.trans (hb3.mono hb.size)
  clear hb hb3 hcv
  go_wp2_with fail
  refine (aw_text _).mono ?_
  rintro e w4 ⟨rfl, hb4⟩
  have hbbb := hbb.trans (hb4.mono hbb.size)
  clear hbb hb4
  go_wp2
  go_ret
  exact ⟨rfl, hbbb⟩
end Na
end Go.Proofs.Ytihgiflhjhoghaa
