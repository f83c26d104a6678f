/-
  What layer 4's law asks at any rate.
-/
import Derived.Test.YtcefohebnngfnaaGd
namespace Go.Proofs.Ytcefohebnngfnaa
open Go.RowKit

namespace Fw
open Fl
theorem ord_const : FloatKind.f64.format.order 0 0 = some .eq ∧ FloatKind.f64.format.order 4598175219545276416 4598175219545276416 = some .eq ∧ FloatKind.f64.format.order 4613937818241073152 4613937818241073152 = some .eq ∧ FloatKind.f64.format.order 4611686018427387904 4611686018427387904 = some .eq := by decide +kernel
theorem share14 (w : World) : Calls Try.prog 22 #[.float .f64 4607182418800017408, .float .f64 4616189618054758400] w fun e w' => e = .returned (.float .f64 4598175219545276416) ∧ w = w' :=
  share_div 4607182418800017408 4616189618054758400 4598175219545276416 (by omega) (by omega) (by decide +kernel) (.inl (by decide +kernel)) (by decide +kernel) w
theorem share00 (w : World) : Calls Try.prog 22 #[.float .f64 0, .float .f64 0] w fun e w' => e = .returned (.float .f64 0) ∧ w = w' :=
  share_zero 0 0 (by omega) (by omega) (by decide +kernel) (by decide +kernel) (by decide +kernel) w
theorem less_z (w : World) : Calls Try.prog 10 #[.float .f64 9223372036854775808, .float .f64 0] w fun e w' => e = .returned (.bool true) ∧ Below w.heap.size w w' := by
  have h := less_any 9223372036854775808 0 (by omega) (by omega) w
  rwa [show lessK 9223372036854775808 0 = true by decide +kernel] at h
theorem key_z (w : World) : Calls Try.prog 11 #[.float .f64 9223372036854775808] w fun e w' => e = .returned (.int .u64 9223372036854775807) ∧ w = w' := by
  have h := key_any 9223372036854775808 (by omega) w
  rwa [show ((key 9223372036854775808 : Nat) : Int) = 9223372036854775807 by decide +kernel] at h
theorem key_0 (w : World) : Calls Try.prog 11 #[.float .f64 0] w fun e w' => e = .returned (.int .u64 9223372036854775808) ∧ w = w' := by
  have h := key_any 0 (by omega) w
  rwa [show ((key 0 : Nat) : Int) = 9223372036854775808 by decide +kernel] at h
theorem of_z (w : World) : Calls Try.prog 13 #[.int .u64 9223372036854775808] w fun e w' => e = .returned (.float .f64 9223372036854775808) ∧ w = w' := of_any 9223372036854775808 w
theorem class_z (w : World) : Calls Try.prog 15 #[.float .f64 9223372036854775808] w fun e w' => e = .returned (.int .i64 3) ∧ w = w' := by
  have h := class_any 9223372036854775808 (by omega) w
  rwa [show cls 9223372036854775808 = 3 by decide +kernel] at h
theorem class_1 (w : World) : Calls Try.prog 15 #[.float .f64 4607182418800017408] w fun e w' => e = .returned (.int .i64 5) ∧ w = w' := by
  have h := class_any 4607182418800017408 (by omega) w
  rwa [show cls 4607182418800017408 = 5 by decide +kernel] at h
theorem smooth_c (w : World) : Calls Try.prog 26 #[.float .f64 4611686018427387904, .float .f64 4616189618054758400, .float .f64 4602678819172646912] w fun e w' => e = .returned (.float .f64 4613937818241073152) ∧ ∃ m, w' = w.drewN m := by
  refine (smooth_any _ _ _ (by omega) (by omega) (by omega) w).mono ?_
  rintro e w' ⟨v, m, rfl, h, rfl⟩
  rw [show smoothG 4611686018427387904 4616189618054758400 4602678819172646912 = some 4613937818241073152 by decide +kernel] at h
  obtain ⟨_, rfl, _⟩ := h
  exact ⟨rfl, m, rfl⟩
def two13 : List UInt64 := [4607182418800017408, 4613937818241073152]
theorem is13 (w : World) : IsFs (w.alloc (.cells #[.float .f64 4607182418800017408, .float .f64 4613937818241073152] 23)) (some ⟨w.heap.size, 0, none⟩) 2 2 two13 :=
  IsFs.new w two13 (by decide) _ _ rfl
theorem mean_c (b : Nat) (w : World) (h : IsFs w (some ⟨b, 0, none⟩) 2 2 two13) : Calls Try.prog 25 #[.slice (some ⟨b, 0, none⟩) 2 2] w fun e w' => e = .returned (.float .f64 4611686018427387904) ∧ ∃ m, w' = w.drewN m := by
  refine (mean_any _ _ _ _ w h).mono ?_
  rintro e w' ⟨v, m, rfl, h, rfl⟩
  rw [show meanO two13 = some 4611686018427387904 by decide +kernel] at h
  obtain ⟨_, rfl, _⟩ := h
  exact ⟨rfl, m, rfl⟩
theorem most_c (b : Nat) (w : World) (h : IsFs w (some ⟨b, 0, none⟩) 2 2 two13) : Calls Try.prog 21 #[.slice (some ⟨b, 0, none⟩) 2 2] w fun e w' => e = .returned (.float .f64 4613937818241073152) ∧ Below w.heap.size w w' := by
  refine (most_any _ _ _ _ w h (by omega)).mono ?_
  rintro e w' ⟨m, rfl, ⟨⟨j, hj, hm⟩, hall⟩, hb⟩
  have h1 := hall 1 (by omega)
  have : m = 4613937818241073152 := by
    rcases j with _ | _ | j
    · exfalso
      have e : m = 4607182418800017408 := hm.symm
      subst e
      revert h1
      decide +kernel
    · exact hm.symm
    · omega
  subst this
  exact ⟨rfl, hb⟩

set_option maxHeartbeats 2000000 in
theorem awake_any (w : World) :
    Calls Try.prog 9 #[] w fun e w' => e = .returned (.bool true) ∧ Below w.heap.size w w' := by
  obtain ⟨o1, o2, o3, o4⟩ := ord_const
  go_enter Try.func9, Try.ntmps9
  go_wp2_with fail
  refine (of_z w).mono ?_
  rintro e w1 ⟨rfl, rfl⟩
  go_wp2_with fail
  refine (share00 w).mono ?_
  rintro e w1 ⟨rfl, rfl⟩
  go_wp2_with fail
  refine (share14 w).mono ?_
  rintro e w1 ⟨rfl, rfl⟩
  go_wp2_with fail
  refine (less_z w).mono ?_
  rintro e w1 ⟨rfl, hb1⟩
  go_wp2_with fail
  refine (key_0 w1).mono ?_
  rintro e w2 ⟨rfl, rfl⟩
  go_wp2_with fail
  refine (key_z w1).mono ?_
  rintro e w2 ⟨rfl, rfl⟩
  go_wp2_with fail
  refine (class_z w1).mono ?_
  rintro e w2 ⟨rfl, rfl⟩
  go_wp2_with fail
  refine (class_1 w1).mono ?_
  rintro e w2 ⟨rfl, rfl⟩
  go_wp2_with fail
  refine (smooth_c w1).mono ?_
  rintro e w2 ⟨rfl, m, rfl⟩
  have hb2 := below_drewN hb1 m
  generalize w1.drewN m = w2 at hb2 ⊢
  clear hb1
  have I1 := Lib.hid (is13 w2)
  go_wp2_with fail
  refine (mean_c _ _ I1.out).mono ?_
  rintro e w3 ⟨rfl, m3, rfl⟩
  have hb3 := below_drewN (hb2.alloc hb2.size (.cells #[.float .f64 4607182418800017408, .float .f64 4613937818241073152] 23)) m3
  generalize (w2.alloc _).drewN m3 = w3 at hb3 ⊢
  clear hb2 I1
  have I1 := Lib.hid (is13 w3)
  go_wp2_with fail
  refine (most_c _ _ I1.out).mono ?_
  rintro e w4 ⟨rfl, hb4⟩
  have hb5 := (hb3.alloc hb3.size (.cells #[.float .f64 4607182418800017408, .float .f64 4613937818241073152] 23)).trans (hb4.mono (by have := hb3.size; simp; omega))
  clear hb3 hb4 I1
  go_wp2
  go_ret
  exact ⟨rfl, hb5⟩
end Fw
end Go.Proofs.Ytcefohebnngfnaa
