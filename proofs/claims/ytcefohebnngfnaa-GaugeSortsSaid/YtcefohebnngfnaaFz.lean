/-
  Contracts of both Class, of the plain answers' Infinite and Alike, of gauge.Share.
-/
import Derived.Test.YtcefohebnngfnaaFy
namespace Go.Proofs.Ytcefohebnngfnaa
open Go.RowKit

namespace Fw
open Fl
/-- AN OPERATION ON TWO NUMBERS: its answer stands for what is said; where it is no number, one is drawn. -/
theorem choose_nan (x y : Nat) (w : World) : ∃ v, (choose (.nanBits .f64 x y)).run Try.prog w = .ok v (w.drewN 1) ∧ v < 18446744073709551616 ∧ nan v = true := by
  refine ⟨(Question.nanBits .f64 x y).cut (w.tape w.drawn (.nanBits .f64 x y)), rfl, ?_⟩
  generalize w.tape w.drawn (.nanBits .f64 x y) = t
  have hi : inf = 9218868437227405312 := rfl
  have hs : sgn = 9223372036854775808 := rfl
  have e1 : (2 : Nat) ^ 63 = 9223372036854775808 := by decide +kernel
  have e2 : (2 : Nat) ^ 52 = 4503599627370496 := by decide +kernel
  have hv : (Question.nanBits .f64 x y).cut t = (t % 2) * 2 ^ 63 + 0x7ff0000000000000 + 1 + (t / 2) % (2 ^ 52 - 1) := rfl
  rw [hv, e1, e2]
  refine ⟨by omega, ?_⟩
  unfold nan rung
  refine decide_eq_true ?_
  split <;> omega
theorem arith_run (op : BinOp) (h4 : four op = true) (t : TypeId) (x y : Nat) (w : World) :
    ∃ r n, (binOp op t (.float .f64 x) (.float .f64 y)).run Try.prog w = .ok (.float .f64 r) (w.drewN n) ∧ Rep (floatBits op .f64 x y) r := by
  cases hf : floatBits op .f64 x y with
  | some r =>
    have hn := num_of_bits hf
    exact ⟨r, 0, run_float_arith w op t .f64 x y r hf, hn.2, rfl, hn.1⟩
  | none =>
    obtain ⟨v, hv, h1, h2⟩ := choose_nan x y w
    refine ⟨v, 1, ?_, h1, h2⟩
    have : (binOp op t (.float .f64 x) (.float .f64 y)).run Try.prog w = (do pure (.float .f64 (← choose (.nanBits .f64 x y))) : Sem Value).run Try.prog w := by
      unfold floatBits at hf
      cases op <;> first | (cases h4; done) | simp [binOp, Op.floatArith, hf]
    rw [this, Sem.run_bind, hv]
    rfl

/-- what a number is -/
def cls (b : Nat) : Int := if nan b then 0 else if infM b then 1 else if sgn < b then 2 else if b = sgn then 3 else if b = 0 then 4 else if infP b then 6 else 5
theorem order_zero (b : Nat) (hb : b < 18446744073709551616) (hn : nan b = false) : FloatKind.f64.format.order b 0 = if sgn < b then some .lt else if b = sgn ∨ b = 0 then some .eq else some .gt := by
  have hs : sgn = 9223372036854775808 := rfl
  rw [order_eq b 0 hb (by omega), if_neg (by rw [hn, nan_zero]; simp), sr_zero]
  unfold sr
  by_cases h1 : sgn < b
  · rw [if_pos h1, Int.compare_eq_lt.2 (by rw [if_neg (by omega)]; omega)]
  · rw [if_neg h1]
    by_cases h2 : b = sgn ∨ b = 0
    · rw [if_pos h2, Int.compare_eq_eq.2 (by rcases h2 with h2 | h2 <;> subst h2 <;> decide +kernel)]
    · rw [if_neg h2, Int.compare_eq_gt.2 (by rw [if_pos (by omega)]; omega)]
theorem order_zero_nan (b : Nat) (hb : b < 18446744073709551616) (hn : nan b = true) : FloatKind.f64.format.order b 0 = none := order_none b 0 hb (by omega) (.inl hn)

set_option maxHeartbeats 2000000 in
theorem class_any (b : Nat) (hb : b < 18446744073709551616) (w : World) :
    Calls Try.prog 15 #[.float .f64 b] w fun e w' => e = .returned (.int .i64 (cls b)) ∧ w = w' := by
  have hi : inf = 9218868437227405312 := rfl
  have hs : sgn = 9223372036854775808 := rfl
  have N := Lib.hid (mnan_any b hb w)
  have M := Lib.hid (infm_any b hb w)
  have S := Lib.hid (signbit_any b hb w)
  have Q := Lib.hid (infp_any b hb w)
  have HC : Hid (cls b = if nan b then 0 else if infM b then 1 else if sgn < b then 2 else if b = sgn then 3 else if b = 0 then 4 else if infP b then 6 else 5) := Lib.hid rfl
  generalize cls b = c at HC ⊢
  cases hn : nan b
  · rw [hn] at N HC
    have ho := order_zero b hb hn
    cases hm : infM b
    · rw [hm] at M HC
      by_cases h1 : sgn < b
      · have HK : Hid (c = 2) := Lib.hid (by rw [HC.out]; simp [h1])
        rw [if_pos h1] at ho
        clear HC h1 hi hs hn hm S Q hb
        go_enter Try.func15, Try.ntmps15
        go_wp2_with fail
        refine N.out.mono ?_
        rintro e w1 ⟨rfl, rfl⟩
        go_wp2_with fail
        refine M.out.mono ?_
        rintro e w1 ⟨rfl, rfl⟩
        go_wp2
        go_ret
        exact ⟨by rw [HK.out]; rfl, rfl⟩
      · by_cases h2 : b = sgn
        · have HK : Hid (c = 3) := Lib.hid (by rw [HC.out]; simp [h2])
          have hS : isNeg b = true := by rw [h2]; rfl
          rw [hS] at S
          rw [if_neg h1, if_pos (.inl h2)] at ho
          clear HC h1 hi hs hn hm Q hb h2 hS
          go_enter Try.func15, Try.ntmps15
          go_wp2_with fail
          refine N.out.mono ?_
          rintro e w1 ⟨rfl, rfl⟩
          go_wp2_with fail
          refine M.out.mono ?_
          rintro e w1 ⟨rfl, rfl⟩
          go_wp2_with fail
          refine S.out.mono ?_
          rintro e w1 ⟨rfl, rfl⟩
          go_wp2
          go_ret
          exact ⟨by rw [HK.out]; rfl, rfl⟩
        · by_cases h3 : b = 0
          · have HK : Hid (c = 4) := Lib.hid (by rw [HC.out]; subst h3; simp [sgn])
            have hS : isNeg b = false := by rw [h3]; rfl
            rw [hS] at S
            rw [if_neg h1, if_pos (.inr h3)] at ho
            clear HC h1 hi hs hn hm Q hb h2 hS h3
            go_enter Try.func15, Try.ntmps15
            go_wp2_with fail
            refine N.out.mono ?_
            rintro e w1 ⟨rfl, rfl⟩
            go_wp2_with fail
            refine M.out.mono ?_
            rintro e w1 ⟨rfl, rfl⟩
            go_wp2_with fail
            refine S.out.mono ?_
            rintro e w1 ⟨rfl, rfl⟩
            go_wp2
            go_ret
            exact ⟨by rw [HK.out]; rfl, rfl⟩
          · rw [if_neg h1, if_neg (by rintro (h | h); exact h2 h; exact h3 h)] at ho
            cases hp : infP b
            · have HK : Hid (c = 5) := Lib.hid (by rw [HC.out]; simp [h1, h2, h3, hp])
              rw [hp] at Q
              clear HC h1 hi hs hn hm S hb h2 h3 hp
              go_enter Try.func15, Try.ntmps15
              go_wp2_with fail
              refine N.out.mono ?_
              rintro e w1 ⟨rfl, rfl⟩
              go_wp2_with fail
              refine M.out.mono ?_
              rintro e w1 ⟨rfl, rfl⟩
              go_wp2_with fail
              refine Q.out.mono ?_
              rintro e w1 ⟨rfl, rfl⟩
              go_wp2
              go_ret
              exact ⟨by rw [HK.out]; rfl, rfl⟩
            · have HK : Hid (c = 6) := Lib.hid (by rw [HC.out]; simp [h1, h2, h3, hp])
              rw [hp] at Q
              clear HC h1 hi hs hn hm S hb h2 h3 hp
              go_enter Try.func15, Try.ntmps15
              go_wp2_with fail
              refine N.out.mono ?_
              rintro e w1 ⟨rfl, rfl⟩
              go_wp2_with fail
              refine M.out.mono ?_
              rintro e w1 ⟨rfl, rfl⟩
              go_wp2_with fail
              refine Q.out.mono ?_
              rintro e w1 ⟨rfl, rfl⟩
              go_wp2
              go_ret
              exact ⟨by rw [HK.out]; rfl, rfl⟩
    · have HK : Hid (c = 1) := Lib.hid (by rw [HC.out]; simp [hm])
      rw [hm] at M
      clear HC hi hs hn hm S Q hb ho
      go_enter Try.func15, Try.ntmps15
      go_wp2_with fail
      refine N.out.mono ?_
      rintro e w1 ⟨rfl, rfl⟩
      go_wp2_with fail
      refine M.out.mono ?_
      rintro e w1 ⟨rfl, rfl⟩
      go_wp2
      go_ret
      exact ⟨by rw [HK.out]; rfl, rfl⟩
  · have HK : Hid (c = 0) := Lib.hid (by rw [HC.out]; simp [hn])
    rw [hn] at N
    clear HC hi hs hn S Q hb M
    go_enter Try.func15, Try.ntmps15
    go_wp2_with fail
    refine N.out.mono ?_
    rintro e w1 ⟨rfl, rfl⟩
    go_wp2
    go_ret
    exact ⟨by rw [HK.out]; rfl, rfl⟩

/-- beyond all -/
def isInf (b : Nat) : Bool := decide (rung b = inf)
theorem isInf_or (b : Nat) (_hb : b < 18446744073709551616) : isInf b = (infP b || infM b) := by
  have hi : inf = 9218868437227405312 := rfl
  have hs : sgn = 9223372036854775808 := rfl
  unfold isInf infP infM rung
  rw [Bool.eq_iff_iff]
  simp
  split <;> omega
set_option maxHeartbeats 2000000 in
theorem rinf_any (b : Nat) (hb : b < 18446744073709551616) (w : World) :
    Calls Try.prog 23 #[.float .f64 b] w fun e w' => e = .returned (.bool (isInf b)) ∧ ∃ n, w' = w.drewN n := by
  have HI : Hid (isInf b = decide (rung b = inf)) := Lib.hid rfl
  generalize isInf b = c at HI ⊢
  cases hn : nan b
  · have ho := order_self b hb hn
    have hr := nan_rung.1 hn
    by_cases hi : rung b = inf
    · have HK : Hid (c = true) := Lib.hid (by rw [HI.out]; simp [hi])
      obtain ⟨r, n, hrun, hrep⟩ := arith_run .sub rfl 23 b b w
      rw [sub_self_inf hb hi] at hrep
      have h0 := order_zero_nan r hrep.1 hrep.2
      clear HI hn hr hi hb hrep
      go_enter Try.func23, Try.ntmps23
      go_wp2
      go_ret
      exact ⟨by rw [HK.out]; rfl, _, rfl⟩
    · have HK : Hid (c = false) := Lib.hid (by rw [HI.out]; simp [hi])
      have hrun := run_float_arith (P := Try.prog) w .sub 23 .f64 b b 0 (sub_self hb (by omega))
      have h0 := order_zero 0 (by omega) nan_zero
      rw [if_neg (by decide +kernel), if_pos (.inr rfl)] at h0
      clear HI hn hr hi hb
      go_enter Try.func23, Try.ntmps23
      go_wp2
      go_ret
      exact ⟨by rw [HK.out]; rfl, 0, rfl⟩
  · have ho := order_none b b hb hb (.inl hn)
    have HK : Hid (c = false) := Lib.hid (by
      rw [HI.out]; unfold nan at hn
      have := of_decide_eq_true hn
      simp; omega)
    clear HI hn hb
    go_enter Try.func23, Try.ntmps23
    go_wp2
    go_ret
    exact ⟨by rw [HK.out]; rfl, 0, rfl⟩
end Fw
end Go.Proofs.Ytcefohebnngfnaa
