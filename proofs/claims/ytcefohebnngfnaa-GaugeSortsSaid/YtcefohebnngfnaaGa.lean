/-
  Contracts of the plain answer's Class, of Alike, of gauge.Share.
-/
import Derived.Test.YtcefohebnngfnaaFz
namespace Go.Proofs.Ytcefohebnngfnaa
open Go.RowKit

namespace Fw
open Fl
set_option maxHeartbeats 2000000 in
theorem rclass_any (b : Nat) (hb : b < 18446744073709551616) (w : World) :
    Calls Try.prog 16 #[.float .f64 b] w fun e w' => e = .returned (.int .i64 (cls b)) ∧ ∃ n, w' = w.drewN n := by
  have hi : inf = 9218868437227405312 := rfl
  have hs : sgn = 9223372036854775808 := rfl
  have I := fun wx => rinf_any b hb wx
  have S := fun n => minus_any b (w.drewN n)
  have HC : Hid (cls b = if nan b then 0 else if infM b then 1 else if sgn < b then 2 else if b = sgn then 3 else if b = 0 then 4 else if infP b then 6 else 5) := Lib.hid rfl
  generalize cls b = c at HC ⊢
  cases hn : nan b
  · rw [hn] at HC
    have hx := order_self b hb hn
    have ho := order_zero b hb hn
    have hI := isInf_or b hb
    cases hm : infM b
    · rw [hm] at HC
      cases hp : infP b
      · rw [hm, hp] at hI
        rw [hI] at I
        have I := Lib.hid I
        by_cases h1 : sgn < b
        · have HK : Hid (c = 2) := Lib.hid (by rw [HC.out]; simp [h1])
          rw [if_pos h1] at ho
          clear HC h1 hi hs hn hm hp S hb hI
          go_enter Try.func16, Try.ntmps16
          go_wp2_with fail
          refine (I.out _).mono ?_
          rintro e w1 ⟨rfl, n1, rfl⟩
          go_wp2_with fail
          refine (I.out _).mono ?_
          rintro e w1 ⟨rfl, n2, rfl⟩
          go_wp2
          go_ret
          exact ⟨by rw [HK.out]; rfl, _, rfl⟩
        · by_cases h2 : b = sgn
          · have HK : Hid (c = 3) := Lib.hid (by rw [HC.out]; simp [h2])
            have hS : isNeg b = true := by rw [h2]; rfl
            rw [hS] at S
            have S := Lib.hid S
            rw [if_neg h1, if_pos (.inl h2)] at ho
            clear HC h1 hi hs hn hm hp hb hI h2 hS
            go_enter Try.func16, Try.ntmps16
            go_wp2_with fail
            refine (I.out _).mono ?_
            rintro e w1 ⟨rfl, n1, rfl⟩
            go_wp2_with fail
            refine (I.out _).mono ?_
            rintro e w1 ⟨rfl, n2, rfl⟩
            go_wp2_with fail
            refine (S.out _).mono ?_
            rintro e w1 ⟨rfl, rfl⟩
            go_wp2
            go_ret
            exact ⟨by rw [HK.out]; rfl, _, rfl⟩
          · by_cases h3 : b = 0
            · have HK : Hid (c = 4) := Lib.hid (by rw [HC.out]; subst h3; simp [sgn])
              have hS : isNeg b = false := by rw [h3]; rfl
              rw [hS] at S
              have S := Lib.hid S
              rw [if_neg h1, if_pos (.inr h3)] at ho
              clear HC h1 hi hs hn hm hp hb hI h2 hS h3
              go_enter Try.func16, Try.ntmps16
              go_wp2_with fail
              refine (I.out _).mono ?_
              rintro e w1 ⟨rfl, n1, rfl⟩
              go_wp2_with fail
              refine (I.out _).mono ?_
              rintro e w1 ⟨rfl, n2, rfl⟩
              go_wp2_with fail
              refine (S.out _).mono ?_
              rintro e w1 ⟨rfl, rfl⟩
              go_wp2
              go_ret
              exact ⟨by rw [HK.out]; rfl, _, rfl⟩
            · rw [if_neg h1, if_neg (by rintro (h | h); exact h2 h; exact h3 h)] at ho
              have HK : Hid (c = 5) := Lib.hid (by rw [HC.out]; simp [h1, h2, h3, hp])
              clear HC h1 hi hs hn hm hp hb hI h2 h3 S
              go_enter Try.func16, Try.ntmps16
              go_wp2_with fail
              refine (I.out _).mono ?_
              rintro e w1 ⟨rfl, n1, rfl⟩
              go_wp2_with fail
              refine (I.out _).mono ?_
              rintro e w1 ⟨rfl, n2, rfl⟩
              go_wp2
              go_ret
              exact ⟨by rw [HK.out]; rfl, _, rfl⟩
      · have HK : Hid (c = 6) := Lib.hid (by
          have e : b = inf := of_decide_eq_true hp
          rw [HC.out, e]; simp [hi, hs]; decide +kernel)
        have e : b = inf := of_decide_eq_true hp
        rw [if_neg (by omega), if_neg (by omega)] at ho
        rw [hp, Bool.true_or] at hI
        rw [hI] at I
        have I := Lib.hid I
        clear HC hi hs hn hm hp S hb hI e
        go_enter Try.func16, Try.ntmps16
        go_wp2_with fail
        refine (I.out _).mono ?_
        rintro e w1 ⟨rfl, n1, rfl⟩
        go_wp2_with fail
        refine (I.out _).mono ?_
        rintro e w1 ⟨rfl, n2, rfl⟩
        go_wp2
        go_ret
        exact ⟨by rw [HK.out]; rfl, _, rfl⟩
    · have HK : Hid (c = 1) := Lib.hid (by rw [HC.out]; simp [hm])
      have e : b = sgn + inf := of_decide_eq_true hm
      rw [if_pos (by omega)] at ho
      rw [hm, Bool.or_true] at hI
      rw [hI] at I
      have I := Lib.hid I
      clear HC hi hs hn hm S hb hI e
      go_enter Try.func16, Try.ntmps16
      go_wp2_with fail
      refine (I.out _).mono ?_
      rintro e w1 ⟨rfl, n1, rfl⟩
      go_wp2
      go_ret
      exact ⟨by rw [HK.out]; rfl, _, rfl⟩
  · have HK : Hid (c = 0) := Lib.hid (by rw [HC.out]; simp [hn])
    have hx := order_none b b hb hb (.inl hn)
    clear HC hi hs hn S hb I
    go_enter Try.func16, Try.ntmps16
    go_wp2
    go_ret
    exact ⟨by rw [HK.out]; rfl, 0, rfl⟩

theorem alike_any (a b : Nat) (h : Like a b) (w : World) :
    Calls Try.prog 24 #[.float .f64 a, .float .f64 b] w fun e w' => e = .returned (.bool true) ∧ w = w' := by
  obtain ⟨ha, hb, ⟨h1, h2⟩ | ⟨h1, h2, h3⟩⟩ := h
  · have o1 := order_none a b ha hb (.inl h1)
    have o2 := order_none a a ha ha (.inl h1)
    have o3 := order_none b b hb hb (.inl h2)
    clear h1 h2
    go_enter Try.func24, Try.ntmps24
    go_wp2
    go_ret
    exact ⟨rfl, rfl⟩
  · have o1 := order_same a b ha hb h1 h2 h3
    clear h1 h2 h3
    go_enter Try.func24, Try.ntmps24
    go_wp2
    go_ret
    exact ⟨rfl, rfl⟩

/-- what is no number, or below 0, or of what is infinite -/
def noShare (p q : Nat) : Bool := nan p || nan q || decide (sgn < p) || decide (sgn < q) || infP q
theorem ge_zero (b : Nat) (hb : b < 18446744073709551616) : ((FloatKind.f64.format.order b 0 == some .gt) || (FloatKind.f64.format.order b 0 == some .eq)) = !(nan b || decide (sgn < b)) := by
  cases hn : nan b
  · rw [order_zero b hb hn]
    by_cases h1 : sgn < b
    · simp [h1]
    · by_cases h2 : b = sgn ∨ b = 0 <;> simp [h1, h2]
  · rw [order_zero_nan b hb hn]; rfl
theorem eq_zero (b : Nat) (hb : b < 18446744073709551616) : (FloatKind.f64.format.order b 0 == some .eq) = decide (rung b = 0) := by
  have hi : inf = 9218868437227405312 := rfl
  have hs : sgn = 9223372036854775808 := rfl
  cases hn : nan b
  · rw [order_zero b hb hn]
    unfold rung
    by_cases h1 : sgn < b
    · rw [if_pos h1, if_neg (by omega)]; simp; omega
    · rw [if_neg h1]
      by_cases h2 : b = sgn ∨ b = 0
      · rw [if_pos h2]; rcases h2 with h2 | h2 <;> subst h2 <;> decide +kernel
      · rw [if_neg h2, if_pos (by omega)]; simp; omega
  · rw [order_zero_nan b hb hn]
    unfold nan at hn
    have := of_decide_eq_true hn
    simp; omega
theorem ord4 (o : Option Ordering) : o = none ∨ o = some .lt ∨ o = some .eq ∨ o = some .gt := by
  rcases o with _ | o
  · exact .inl rfl
  · cases o <;> simp
set_option maxHeartbeats 4000000 in
theorem share_bad (p q : Nat) (hp : p < 18446744073709551616) (hq : q < 18446744073709551616) (h : noShare p q = true) (w : World) :
    Calls Try.prog 22 #[.float .f64 p, .float .f64 q] w fun e w' => e = .returned (.float .f64 9221120237041090561) ∧ w = w' := by
  have g1 := ge_zero p hp
  have g2 := ge_zero q hq
  have I := infp_any q hq w
  have HN := Lib.hid (nan_any w)
  have hh : infP q = true ∨ (nan p || decide (sgn < p)) = true ∨ (nan q || decide (sgn < q)) = true := by
    unfold noShare at h
    revert h
    cases nan p <;> cases nan q <;> cases decide (sgn < p) <;> cases decide (sgn < q) <;> cases infP q <;> simp
  clear h hp hq
  rcases hh with hh | hh | hh
  · rw [hh] at I
    have I' := Lib.hid I
    clear I hh g1 g2
    rcases ord4 (FloatKind.f64.format.order p 0) with o1 | o1 | o1 | o1 <;> rcases ord4 (FloatKind.f64.format.order q 0) with o2 | o2 | o2 | o2
    all_goals
      go_enter Try.func22, Try.ntmps22
      go_wp2_with (first | (go_at_call 32; refine I'.out.mono ?_; rintro e w1 ⟨rfl, rfl⟩) | (go_at_call 37; refine HN.out.mono ?_; rintro e w1 ⟨rfl, rfl⟩))
      go_ret
      exact ⟨rfl, rfl⟩
  · rw [hh] at g1
    clear I hh g2
    rcases ord4 (FloatKind.f64.format.order p 0) with o1 | o1 | o1 | o1 <;> rw [o1] at g1 <;> first | (cases g1; done) | skip
    all_goals
      clear g1
      go_enter Try.func22, Try.ntmps22
      go_wp2_with (go_at_call 37; refine HN.out.mono ?_; rintro e w1 ⟨rfl, rfl⟩)
      go_ret
      exact ⟨rfl, rfl⟩
  · rw [hh] at g2
    clear I hh g1
    rcases ord4 (FloatKind.f64.format.order p 0) with o1 | o1 | o1 | o1 <;> rcases ord4 (FloatKind.f64.format.order q 0) with o2 | o2 | o2 | o2 <;> rw [o2] at g2 <;> first | (cases g2; done) | skip
    all_goals
      clear g2
      go_enter Try.func22, Try.ntmps22
      go_wp2_with (go_at_call 37; refine HN.out.mono ?_; rintro e w1 ⟨rfl, rfl⟩)
      go_ret
      exact ⟨rfl, rfl⟩
theorem good_parts {p q : Nat} (h : noShare p q = false) : (nan p || decide (sgn < p)) = false ∧ (nan q || decide (sgn < q)) = false ∧ infP q = false := by
  unfold noShare at h
  revert h
  cases nan p <;> cases nan q <;> cases decide (sgn < p) <;> cases decide (sgn < q) <;> cases infP q <;> simp
theorem share_zero (p q : Nat) (hp : p < 18446744073709551616) (hq : q < 18446744073709551616) (h : noShare p q = false) (h0 : rung p = 0) (h1 : rung q = 0) (w : World) :
    Calls Try.prog 22 #[.float .f64 p, .float .f64 q] w fun e w' => e = .returned (.float .f64 0) ∧ w = w' := by
  have e1 := eq_zero p hp
  have e2 := eq_zero q hq
  have I := infp_any q hq w
  rw [(good_parts h).2.2] at I
  have I' := Lib.hid I
  rw [h0] at e1
  rw [h1] at e2
  have o1 : FloatKind.f64.format.order p 0 = some .eq := by simpa using e1
  have o2 : FloatKind.f64.format.order q 0 = some .eq := by simpa using e2
  clear I e1 e2 h0 h1 h hp hq
  go_enter Try.func22, Try.ntmps22
  go_wp2_with (go_at_call 32; refine I'.out.mono ?_; rintro e w1 ⟨rfl, rfl⟩)
  go_ret
  exact ⟨rfl, rfl⟩
set_option maxHeartbeats 4000000 in
theorem share_div (p q r : Nat) (hp : p < 18446744073709551616) (hq : q < 18446744073709551616) (h : noShare p q = false) (h0 : rung p ≠ 0 ∨ rung q ≠ 0) (hr : floatBits .quo .f64 (rung p) (rung q) = some r) (w : World) :
    Calls Try.prog 22 #[.float .f64 p, .float .f64 q] w fun e w' => e = .returned (.float .f64 r) ∧ w = w' := by
  have g1 := ge_zero p hp
  have g2 := ge_zero q hq
  have e1 := eq_zero p hp
  have e2 := eq_zero q hq
  have I := infp_any q hq w
  rw [(good_parts h).2.2] at I
  rw [(good_parts h).1] at g1
  rw [(good_parts h).2.1] at g2
  have I' := Lib.hid I
  have A1 := Lib.hid (abs_any p hp w)
  have A2 := Lib.hid (abs_any q hq w)
  have hrun := run_float_arith (P := Try.prog) w .quo 23 .f64 _ _ r hr
  have hz : (rung p = 0 → rung q = 0 → False) := fun a b => by rcases h0 with h0 | h0 <;> exact h0 (by assumption)
  generalize rung p = p' at *
  generalize rung q = q' at *
  rcases ord4 (FloatKind.f64.format.order p 0) with o1 | o1 | o1 | o1 <;> rcases ord4 (FloatKind.f64.format.order q 0) with o2 | o2 | o2 | o2 <;> rw [o1] at g1 e1 <;> rw [o2] at g2 e2 <;> first | (cases g1; done) | (cases g2; done) | (exact absurd (of_decide_eq_true e1.symm) fun a => hz a (of_decide_eq_true e2.symm)) | skip
  all_goals
    clear g1 g2 e1 e2 I h0 hz h hp hq hr
    go_enter Try.func22, Try.ntmps22
    go_wp2_with (go_at_call 32; refine I'.out.mono ?_; rintro e w1 ⟨rfl, rfl⟩)
    refine A1.out.mono ?_
    rintro e w1 ⟨rfl, rfl⟩
    go_wp2_with fail
    refine A2.out.mono ?_
    rintro e w1 ⟨rfl, rfl⟩
    go_wp2
    go_ret
    exact ⟨rfl, rfl⟩
end Fw
end Go.Proofs.Ytcefohebnngfnaa
