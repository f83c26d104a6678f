/-
  Contracts of gauge.Less, of package math's tests on numbers, and of both Class.
-/
import Derived.Test.YtcefohebnngfnaaFx
import Derived.Below
import Derived.WalkSmall
namespace Go.Proofs.Ytcefohebnngfnaa
open Go.RowKit

namespace Fw
open Fl
theorem cmpK_less (a b : Nat) : (decide (cmpK a b < 0)) = lessK a b := by
  unfold cmpK lessK
  by_cases h : key a < key b
  · simp [h]
  · by_cases h2 : key b < key a <;> simp [h, h2]
theorem less_any (a b : Nat) (ha : a < 18446744073709551616) (hb : b < 18446744073709551616) (w : World) :
    Calls Try.prog 10 #[.float .f64 a, .float .f64 b] w fun e w' => e = .returned (.bool (lessK a b)) ∧ Below w.heap.size w w' := by
  have HO := Lib.hid (order1_any a b w.heap.size ha hb (w.alloc (.cells #[.func (Fn.func 30) #[] #[]] 42)) (by simp))
  have HL := Lib.hid (cmpK_less a b)
  generalize cmpK a b = c at HO HL
  go_enter Try.func10, Try.ntmps10
  go_wp2_with fail
  refine (order_any w).mono ?_
  rintro e w1 ⟨rfl, rfl⟩
  go_wp2_with fail
  refine HO.out.mono ?_
  rintro e w1 ⟨rfl, n, rfl⟩
  go_wp2
  go_ret
  exact ⟨by rw [← HL.out]; rfl, below_drewN ((Below.refl _ _).alloc (Nat.le_refl _) _) n⟩

theorem nan_or (x y : Nat) (hx : nan x = false) (hy : nan y = false) : (nan x || nan y) = false := by rw [hx, hy]; rfl
theorem order_self (x : Nat) (hx : x < 18446744073709551616) (h : nan x = false) : FloatKind.f64.format.order x x = some .eq := by
  rw [order_eq x x hx hx, h]; simp
theorem order_none (x y : Nat) (hx : x < 18446744073709551616) (hy : y < 18446744073709551616) (h : nan x = true ∨ nan y = true) : FloatKind.f64.format.order x y = none := by
  rw [order_eq x y hx hy, if_pos (by rcases h with h | h <;> simp [h])]
theorem order_lt (x y : Nat) (hx : x < 18446744073709551616) (hy : y < 18446744073709551616) (h1 : nan x = false) (h2 : nan y = false) (h : sr x < sr y) : FloatKind.f64.format.order x y = some .lt := by
  rw [order_eq x y hx hy, if_neg (by simp [h1, h2]), Int.compare_eq_lt.2 h]
theorem order_gt (x y : Nat) (hx : x < 18446744073709551616) (hy : y < 18446744073709551616) (h1 : nan x = false) (h2 : nan y = false) (h : sr y < sr x) : FloatKind.f64.format.order x y = some .gt := by
  rw [order_eq x y hx hy, if_neg (by simp [h1, h2]), Int.compare_eq_gt.2 h]
theorem order_same (x y : Nat) (hx : x < 18446744073709551616) (hy : y < 18446744073709551616) (h1 : nan x = false) (h2 : nan y = false) (h : sr x = sr y) : FloatKind.f64.format.order x y = some .eq := by
  rw [order_eq x y hx hy, if_neg (by simp [h1, h2]), Int.compare_eq_eq.2 h]
/-- three ways of two numbers, by an arithmetic of their words -/
theorem nan_of {x : Nat} (h : rung x ≤ inf) : nan x = false := nan_rung.2 h
theorem nan_zero : nan 0 = false := rfl
theorem sr_zero : sr 0 = 0 := rfl

theorem mnan_any (b : Nat) (hb : b < 18446744073709551616) (w : World) :
    Calls Try.prog 31 #[.float .f64 b] w fun e w' => e = .returned (.bool (nan b)) ∧ w = w' := by
  cases hn : nan b
  · have ho := order_self b hb hn
    go_enter Try.func31, Try.ntmps31
    go_wp2
    go_ret
    exact ⟨rfl, rfl⟩
  · have ho := order_none b b hb hb (.inl hn)
    go_enter Try.func31, Try.ntmps31
    go_wp2
    go_ret
    exact ⟨rfl, rfl⟩
theorem abs_any (b : Nat) (hb : b < 18446744073709551616) (w : World) :
    Calls Try.prog 38 #[.float .f64 b] w fun e w' => e = .returned (.float .f64 (rung b)) ∧ w = w' := by
  have h1 := bits_ext b w
  have h2 := bits_clear b hb
  have h3 := from_ext (rung b) w
  generalize rung b = r at h2 h3 ⊢
  go_enter Try.func38, Try.ntmps38
  go_wp2
  go_ret
  exact ⟨rfl, rfl⟩
/-- infinite, with that sign -/
def infP (b : Nat) : Bool := decide (b = inf)
def infM (b : Nat) : Bool := decide (b = sgn + inf)
theorem order_max (x : Nat) (hx : x < 18446744073709551616) : (FloatKind.f64.format.order x 9218868437227405311 == some .gt) = infP x := by
  have hi : inf = 9218868437227405312 := rfl
  have hs : sgn = 9223372036854775808 := rfl
  rw [order_eq x _ hx (by omega)]
  have nm : nan 9218868437227405311 = false := by decide +kernel
  have sm : sr 9218868437227405311 = 9218868437227405311 := by decide +kernel
  rw [nm, sm]
  cases hn : nan x
  · simp only [Bool.or_false, Bool.false_eq_true, if_false]
    have hr := nan_rung.1 hn
    unfold infP
    by_cases e : x = inf
    · have : compare (sr x) 9218868437227405311 = .gt := Int.compare_eq_gt.2 (by unfold sr; rw [if_pos (by omega)]; omega)
      rw [this]; simp [e]
    · have : ¬ compare (sr x) 9218868437227405311 = .gt := fun h => by
        have := Int.compare_eq_gt.1 h
        unfold sr at this
        unfold rung at hr
        by_cases g : x < sgn
        · rw [if_pos g] at this hr; omega
        · rw [if_neg g] at this hr; omega
      simp [this, e]
  · have : infP x = false := by
      unfold infP; simp; intro e; subst e
      unfold nan at hn
      have := of_decide_eq_true hn
      unfold rung at this
      rw [if_pos (by omega)] at this
      omega
    rw [this]; rfl
theorem infp_any (b : Nat) (hb : b < 18446744073709551616) (w : World) :
    Calls Try.prog 32 #[.float .f64 b, .int .i64 1] w fun e w' => e = .returned (.bool (infP b)) ∧ w = w' := by
  have HO := Lib.hid (order_max b hb)
  go_enter Try.func32, Try.ntmps32
  go_wp2
  go_ret
  exact ⟨by rw [← HO.out]; rfl, rfl⟩
theorem xor_apart (a b : Nat) (h : a &&& b = 0) : a ^^^ b = a ||| b ∧ (a ||| b) ^^^ b = a := by
  have bit : ∀ i, (a.testBit i && b.testBit i) = false := fun i => by
    have := congrArg (fun z => z.testBit i) h
    simpa only [Nat.testBit_and, Nat.zero_testBit] using this
  constructor
  · refine Nat.eq_of_testBit_eq fun i => ?_
    have := bit i
    rw [Nat.testBit_xor, Nat.testBit_or]
    revert this
    cases a.testBit i <;> cases b.testBit i <;> decide
  · refine Nat.eq_of_testBit_eq fun i => ?_
    have := bit i
    rw [Nat.testBit_xor, Nat.testBit_or]
    revert this
    cases a.testBit i <;> cases b.testBit i <;> decide
theorem neg_word (b : Nat) (hb : b < 18446744073709551616) : Op.negFloat .f64 b = (if b < sgn then b + sgn else b - sgn) := by
  have hs : sgn = 9223372036854775808 := rfl
  have e63 : (2 : Nat) ^ 63 = 9223372036854775808 := by decide +kernel
  show b ^^^ 2 ^ 63 = _
  rw [e63]
  by_cases g : b < sgn
  · rw [if_pos g]
    have h2 : b &&& 9223372036854775808 = 0 := by rw [and_top b hb, if_pos (by omega)]
    rw [(xor_apart b _ h2).1, or_top b (by omega), hs]
  · rw [if_neg g]
    obtain ⟨c, rfl⟩ : ∃ c, b = c + sgn := ⟨b - sgn, by omega⟩
    have h2 : c &&& 9223372036854775808 = 0 := by rw [and_top c (by omega), if_pos (by omega)]
    have h3 := (xor_apart c _ h2).2
    rw [or_top c (by omega)] at h3
    rw [hs, h3]
    omega
theorem neg_lt (b : Nat) (hb : b < 18446744073709551616) : Op.negFloat .f64 b < 18446744073709551616 ∧ infP (Op.negFloat .f64 b) = infM b := by
  have hi : inf = 9218868437227405312 := rfl
  have hs : sgn = 9223372036854775808 := rfl
  rw [neg_word b hb]
  unfold infP infM
  by_cases g : b < sgn
  · rw [if_pos g]; exact ⟨by omega, by simp; omega⟩
  · rw [if_neg g]; exact ⟨by omega, by simp; omega⟩
theorem infm_any (b : Nat) (hb : b < 18446744073709551616) (w : World) :
    Calls Try.prog 32 #[.float .f64 b, .int .i64 (-1)] w fun e w' => e = .returned (.bool (infM b)) ∧ w = w' := by
  have hn := neg_lt b hb
  have HO := Lib.hid ((order_max _ hn.1).trans hn.2)
  clear hn
  have hu : (Op.unary .neg (.float .f64 b)).run Try.prog w = .ok (.float .f64 (Op.negFloat .f64 b)) w := rfl
  generalize Op.negFloat .f64 b = c at *
  go_enter Try.func32, Try.ntmps32
  go_wp2
  go_ret
  exact ⟨by rw [← HO.out]; rfl, rfl⟩
theorem signbit_any (b : Nat) (hb : b < 18446744073709551616) (w : World) :
    Calls Try.prog 33 #[.float .f64 b] w fun e w' => e = .returned (.bool (isNeg b)) ∧ w = w' := by
  have h1 := bits_ext b w
  have hk : Hid (decide (wrap64 (b : Int) < 0) = isNeg b) := Lib.hid (by
    have hs : sgn = 9223372036854775808 := rfl
    unfold isNeg
    rw [Bool.eq_iff_iff]
    unfold wrap64
    simp
    omega)
  go_enter Try.func33, Try.ntmps33
  go_wp2
  go_ret
  exact ⟨by rw [← hk.out]; rfl, rfl⟩
end Fw
end Go.Proofs.Ytcefohebnngfnaa
