/-
  Contracts of what layer 4 and its plain answers call first: bits of numbers, places, orders of two.
-/
import Derived.Test.YtcefohebnngfnaaFm
import Derived.Test.YtcefohebnngfnaaChecked
import Derived.WalkKit
import Derived.LoopN
import Derived.Deep.Draws
import Derived.Laws.Externs
import Derived.Lib.Hide
import Derived.KernelRfl
namespace Go.Proofs.Ytcefohebnngfnaa
open Go.RowKit

namespace Fw
open Fl
theorem bits_ext (b : Nat) (w : World) : (callFunc 27 #[.float .f64 b]).run Try.prog w = .ok (.value (.int .u64 b)) w := by
  rw [run_callFunc_extern Try.func27 (by kernel_rfl) (by kernel_rfl) (by kernel_rfl) (e := Extern.MathFloatBits.float64bits) (by kernel_rfl)]
  rfl
theorem from_ext (b : Nat) (w : World) : (callFunc 7 #[.int .u64 b]).run Try.prog w = .ok (.value (.float .f64 b)) w := by
  rw [run_callFunc_extern Try.func7 (by kernel_rfl) (by kernel_rfl) (by kernel_rfl) (e := Extern.MathFloatBits.float64frombits) (by kernel_rfl)]
  rfl

theorem bits_any (b : Nat) (w : World) :
    Calls Try.prog 12 #[.float .f64 b] w fun e w' => e = .returned (.int .u64 b) ∧ w = w' := by
  have hx := bits_ext b w
  go_enter Try.func12, Try.ntmps12
  go_wp2
  go_ret
  exact ⟨rfl, rfl⟩
theorem of_any (b : Nat) (w : World) :
    Calls Try.prog 13 #[.int .u64 b] w fun e w' => e = .returned (.float .f64 b) ∧ w = w' := by
  have hx := from_ext b w
  go_enter Try.func13, Try.ntmps13
  go_wp2
  go_ret
  exact ⟨rfl, rfl⟩
theorem nan_any (w : World) :
    Calls Try.prog 37 #[] w fun e w' => e = .returned (.float .f64 9221120237041090561) ∧ w = w' := by
  have hx : (callFunc 7 #[.int .u64 9221120237041090561]).run Try.prog w = .ok (.value (.float .f64 9221120237041090561)) w := from_ext 9221120237041090561 w
  go_enter Try.func37, Try.ntmps37
  go_wp2
  go_ret
  exact ⟨rfl, rfl⟩

/-- the place that a number's bits have -/
def key (b : Nat) : Nat := if b < sgn then b + sgn else 18446744073709551615 - b
theorem and_top (b : Nat) (h : b < 18446744073709551616) : b &&& 9223372036854775808 = if b < 9223372036854775808 then 0 else 9223372036854775808 := by
  have e : (9223372036854775808 : Nat) = 2 ^ 63 := by decide +kernel
  have e64 : (18446744073709551616 : Nat) = 2 ^ 64 := by decide +kernel
  rw [e]; rw [e64] at h
  refine Nat.eq_of_testBit_eq fun i => ?_
  rw [Nat.testBit_and, Nat.testBit_two_pow]
  by_cases g : b < 2 ^ 63
  · rw [if_pos g, Nat.zero_testBit]
    by_cases hi : 63 = i
    · subst hi; rw [Nat.testBit_lt_two_pow g]; rfl
    · simp [hi]
  · rw [if_neg g, Nat.testBit_two_pow]
    by_cases hi : 63 = i
    · subst hi
      have : b.testBit 63 = true := by
        rw [Nat.testBit_eq_decide_div_mod_eq]
        have : b / 2 ^ 63 = 1 := by omega
        rw [this]; rfl
      rw [this]; rfl
    · simp [hi]
theorem or_top (b : Nat) (h : b < 9223372036854775808) : b ||| 9223372036854775808 = b + 9223372036854775808 := by
  have e : (9223372036854775808 : Nat) = 2 ^ 63 := by decide +kernel
  rw [e] at h ⊢
  have := Nat.two_pow_add_eq_or_of_lt h 1
  rw [Nat.mul_one] at this
  rw [Nat.or_comm, ← this, Nat.add_comm]
theorem xor_all (b : Nat) (h : b < 18446744073709551616) : 18446744073709551615 ^^^ b = 18446744073709551615 - b := by
  have e64 : (18446744073709551616 : Nat) = 2 ^ 64 := by decide +kernel
  rw [e64] at h
  have e1 : (18446744073709551615 : Nat) = 2 ^ 64 - 1 := by decide +kernel
  have e2 : (18446744073709551615 : Nat) - b = 2 ^ 64 - (b + 1) := by rw [e1]; omega
  rw [e2, e1]
  refine Nat.eq_of_testBit_eq fun i => ?_
  rw [Nat.testBit_xor, Nat.testBit_two_pow_sub_one, Nat.testBit_two_pow_sub_succ h]
  by_cases hi : i < 64
  · simp [hi]
  · have : b.testBit i = false := Nat.testBit_lt_two_pow (Nat.lt_of_lt_of_le h (Nat.pow_le_pow_right (by omega) (by omega)))
    simp [hi, this]
theorem bits_and (b : Nat) (h : b < 18446744073709551616) : bits .and .u64 (b : Int) 9223372036854775808 = if b < sgn then 0 else 9223372036854775808 := by
  have := bits_and_u64_nat b 9223372036854775808 h (by omega)
  rw [and_top b h] at this
  refine this.trans ?_
  show _ = if b < 9223372036854775808 then _ else _
  split <;> rfl
theorem bits_or (b : Nat) (h : b < sgn) : bits .or .u64 (b : Int) 9223372036854775808 = (key b : Nat) := by
  have hs : sgn = 9223372036854775808 := rfl
  have := bits_or_u64_nat b 9223372036854775808 (by omega) (by omega)
  rw [or_top b (by omega)] at this
  unfold key
  rw [if_pos h]
  exact this
theorem bits_not (b : Nat) (h : b < 18446744073709551616) (hs : ¬ b < sgn) : bits .xor .u64 IntKind.u64.max (b : Int) = (key b : Nat) := by
  have := bits_xor_u64_nat 18446744073709551615 b (by omega) h
  rw [xor_all b h] at this
  unfold key
  rw [if_neg hs]
  exact this
theorem bits_clear (b : Nat) (h : b < 18446744073709551616) : bits .andNot .u64 (b : Int) 9223372036854775808 = (rung b : Nat) := by
  have hs : sgn = 9223372036854775808 := rfl
  have e : (BitVec.ofInt 64 (b : Int) &&& ~~~ BitVec.ofInt 64 (9223372036854775808 : Int)).toNat = rung b := by
    have e1 : BitVec.ofInt 64 (b : Int) = BitVec.ofNat 64 b := rfl
    have e2 : (~~~ BitVec.ofInt 64 (9223372036854775808 : Int)).toNat = 2 ^ 63 - 1 := by decide +kernel
    rw [BitVec.toNat_and, e1, e2, BitVec.toNat_ofNat, Nat.and_two_pow_sub_one_eq_mod]
    unfold rung
    rw [hs]
    split <;> omega
  show IntKind.u64.wrap ((BitVec.ofInt 64 (b : Int) &&& ~~~ BitVec.ofInt 64 (9223372036854775808 : Int)).toNat : Int) = _
  rw [e, IntKind.wrap_u64]
  have : rung b < 18446744073709551616 := by unfold rung; split <;> omega
  omega
theorem place_any (b : Nat) (h : b < 18446744073709551616) (w : World) :
    Calls Try.prog 30 #[.int .u64 b] w fun e w' => e = .returned (.int .u64 (key b : Nat)) ∧ w = w' := by
  have h1 := bits_and b h
  by_cases hs : b < sgn
  · rw [if_pos hs] at h1
    have h2 := bits_or b hs
    generalize key b = k at h2 ⊢
    go_enter Try.func30, Try.ntmps30
    go_wp2
    go_ret
    exact ⟨rfl, rfl⟩
  · rw [if_neg hs] at h1
    have h2 := bits_not b h hs
    generalize key b = k at h2 ⊢
    go_enter Try.func30, Try.ntmps30
    go_wp2
    go_ret
    exact ⟨rfl, rfl⟩
theorem key_any (b : Nat) (h : b < 18446744073709551616) (w : World) :
    Calls Try.prog 11 #[.float .f64 b] w fun e w' => e = .returned (.int .u64 (key b : Nat)) ∧ w = w' := by
  have H1 := Lib.hid (bits_any b w)
  have H2 := Lib.hid (place_any b h w)
  generalize key b = k at H2 ⊢
  go_enter Try.func11, Try.ntmps11
  go_wp2_with fail
  refine H1.out.mono ?_
  rintro e w1 ⟨rfl, rfl⟩
  go_wp2_with fail
  refine H2.out.mono ?_
  rintro e w1 ⟨rfl, rfl⟩
  go_wp2
  go_ret
  exact ⟨rfl, rfl⟩
theorem same_any (a b : Nat) (w : World) :
    Calls Try.prog 14 #[.float .f64 a, .float .f64 b] w fun e w' => e = .returned (.bool (decide (a = b))) ∧ w = w' := by
  have H1 := Lib.hid (bits_any a w)
  have H2 := Lib.hid (bits_any b w)
  have he : Hid ((((a : Int) == (b : Int)) : Bool) = decide (a = b)) := Lib.hid (by rw [Bool.eq_iff_iff]; simp; omega)
  go_enter Try.func14, Try.ntmps14
  go_wp2_with fail
  refine H1.out.mono ?_
  rintro e w1 ⟨rfl, rfl⟩
  go_wp2_with fail
  refine H2.out.mono ?_
  rintro e w1 ⟨rfl, rfl⟩
  go_wp2
  go_ret
  exact ⟨by rw [← he.out]; rfl, rfl⟩
theorem rsame_any (a b : Nat) (w : World) :
    Calls Try.prog 19 #[.float .f64 a, .float .f64 b] w fun e w' => e = .returned (.bool (decide (a = b))) ∧ w = w' := by
  have h1 := bits_ext a w
  have h2 := bits_ext b w
  have he : Hid ((((a : Int) == (b : Int)) : Bool) = decide (a = b)) := Lib.hid (by rw [Bool.eq_iff_iff]; simp; omega)
  go_enter Try.func19, Try.ntmps19
  go_wp2
  go_ret
  exact ⟨by rw [← he.out]; rfl, rfl⟩
theorem minus_any (a : Nat) (w : World) :
    Calls Try.prog 28 #[.float .f64 a] w fun e w' => e = .returned (.bool (isNeg a)) ∧ w = w' := by
  have h1 := bits_ext a w
  have he : Hid (decide ((9223372036854775808 : Int) ≤ (a : Int)) = isNeg a) := Lib.hid (by unfold isNeg; rw [Bool.eq_iff_iff]; have : sgn = 9223372036854775808 := rfl; simp; omega)
  go_enter Try.func28, Try.ntmps28
  go_wp2
  go_ret
  exact ⟨by rw [← he.out]; rfl, rfl⟩
/-- in the order of all -/
def lessK (a b : Nat) : Bool := decide (key a < key b)
theorem rless_any (a b : Nat) (ha : a < 18446744073709551616) (hb : b < 18446744073709551616) (w : World) :
    Calls Try.prog 8 #[.float .f64 a, .float .f64 b] w fun e w' => e = .returned (.bool (lessK a b)) ∧ w = w' := by
  have h1 := bits_ext a w
  have h2 := bits_ext b w
  have hs : sgn = 9223372036854775808 := rfl
  cases hna : isNeg a <;> cases hnb : isNeg b
  all_goals
    have ga := hna
    have gb := hnb
    unfold isNeg at ga gb
    simp at ga gb
    have M1 := Lib.hid (minus_any a w)
    have M2 := Lib.hid (minus_any b w)
    rw [hna] at M1
    rw [hnb] at M2
    have hk : Hid (lessK a b = (if sgn ≤ a then (if sgn ≤ b then decide (b < a) else true) else (if sgn ≤ b then false else decide (a < b)))) := Lib.hid (by
      unfold lessK key
      rw [Bool.eq_iff_iff]
      by_cases q1 : a < sgn <;> by_cases q2 : b < sgn <;> simp [q1, q2] <;> omega)
    generalize lessK a b = r at hk ⊢
    have ga' := Lib.hid ga
    have gb' := Lib.hid gb
    clear hna hnb ga gb ha hb hs
    go_enter Try.func8, Try.ntmps8
    go_wp2_with fail
    refine M1.out.mono ?_
    rintro e w1 ⟨rfl, rfl⟩
    go_wp2_with fail
    refine M2.out.mono ?_
    rintro e w1 ⟨rfl, rfl⟩
    go_wp2_with fail
    refine M1.out.mono ?_
    rintro e w1 ⟨rfl, rfl⟩
    go_wp2
    go_ret
    refine ⟨?_, rfl⟩
    have q1 := ga'.out
    have q2 := gb'.out
    have q3 := hk.out
    simp only [Nat.not_le.2, q1, q2, if_true, if_false] at q3
    rw [q3]; rfl
end Fw
end Go.Proofs.Ytcefohebnngfnaa
