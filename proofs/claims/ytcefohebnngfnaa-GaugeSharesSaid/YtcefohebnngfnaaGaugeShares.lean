/-
  GaugeShares: of any two numbers, gauge.Share says which share the one is of the other, between 0 and 1 if it is no more, or that there is none; for every two words, with no condition.
-/
import Derived.Test.YtcefohebnngfnaaGe
import Derived.OpenShut
import Derived.ChangeOld
namespace Go.Proofs.Ytcefohebnngfnaa.gaugeShares
open Go.ChangeShapes Go.WideShapes Go.ChangeAt Go.RowKit
open Fw Fl

theorem own : ownKnob Try.prog.godebug = none := by kernel_rfl
theorem laidOut : laidOutB Try.prog = true := by kernel_rfl

theorem nan_const : FloatKind.f64.format.order 9221120237041090561 9221120237041090561 = none := by decide +kernel
theorem inf_const : FloatKind.f64.format.order inf 0 = some .gt := by decide +kernel

set_option maxHeartbeats 8000000 in
theorem walk_bad (p q : Nat) (hp : p < 18446744073709551616) (hq : q < 18446744073709551616) (h : noShare p q = true) (w : World) :
    Calls Try.prog 5 #[.float .f64 p, .float .f64 q] w fun e w' => e = .returned (.bool true) ∧ Below w.heap.size w w' := by
  have hnc := nan_const
  have HS := Lib.hid (share_bad p q hp hq h w)
  have HI := fun wx => rinf_any q hq wx
  cases n1 : nan p
  · have o1 := order_self p hp n1
    have z1 := order_zero p hp n1
    cases n2 : nan q
    · have o2 := order_self q hq n2
      have z2 := order_zero q hq n2
      by_cases s1 : sgn < p
      · rw [if_pos s1] at z1
        clear n1 n2 hp hq h s1 z2 HI
        go_enter Try.func5, Try.ntmps5
        go_wp2_with fail
        refine HS.out.mono ?_
        rintro e w1 ⟨rfl, rfl⟩
        go_wp2_with fail
        refine (awake_any _).mono ?_
        rintro e w1 ⟨rfl, hb⟩
        go_wp2
        go_ret
        exact ⟨rfl, hb⟩
      · rw [if_neg s1] at z1
        have z1' : (FloatKind.f64.format.order p 0 == some .lt) = false := by rw [z1]; split <;> rfl
        clear z1
        by_cases s2 : sgn < q
        · rw [if_pos s2] at z2
          clear n1 n2 hp hq h s1 s2 HI
          go_enter Try.func5, Try.ntmps5
          go_wp2_with fail
          refine HS.out.mono ?_
          rintro e w1 ⟨rfl, rfl⟩
          go_wp2_with fail
          refine (awake_any _).mono ?_
          rintro e w1 ⟨rfl, hb⟩
          go_wp2
          go_ret
          exact ⟨rfl, hb⟩
        · rw [if_neg s2] at z2
          have z2' : (FloatKind.f64.format.order q 0 == some .lt) = false := by rw [z2]; split <;> rfl
          clear z2
          have hi : infP q = true := by
            unfold noShare at h
            revert h
            rw [n1, n2, decide_eq_false s1, decide_eq_false s2]
            cases infP q <;> simp
          have hI : isInf q = true := by rw [isInf_or q hq, hi]; rfl
          rw [hI] at HI
          replace HI := Lib.hid HI
          clear n1 n2 hp hq h s1 s2 hi hI
          go_enter Try.func5, Try.ntmps5
          go_wp2_with fail
          refine HS.out.mono ?_
          rintro e w1 ⟨rfl, rfl⟩
          go_wp2_with fail
          refine (HI.out _).mono ?_
          rintro e w1 ⟨rfl, m, rfl⟩
          go_wp2_with fail
          refine (awake_any _).mono ?_
          rintro e w1 ⟨rfl, hb⟩
          have hb' := (below_drewN (Below.refl _ _) m).trans hb
          clear hb
          go_wp2
          go_ret
          exact ⟨rfl, hb'⟩
    · have o2 := order_none q q hq hq (.inl n2)
      clear n1 n2 hp hq h z1 HI
      go_enter Try.func5, Try.ntmps5
      go_wp2_with fail
      refine HS.out.mono ?_
      rintro e w1 ⟨rfl, rfl⟩
      go_wp2_with fail
      refine (awake_any _).mono ?_
      rintro e w1 ⟨rfl, hb⟩
      go_wp2
      go_ret
      exact ⟨rfl, hb⟩
  · have o1 := order_none p p hp hp (.inl n1)
    clear n1 hp hq h HI
    go_enter Try.func5, Try.ntmps5
    go_wp2_with fail
    refine HS.out.mono ?_
    rintro e w1 ⟨rfl, rfl⟩
    go_wp2_with fail
    refine (awake_any _).mono ?_
    rintro e w1 ⟨rfl, hb⟩
    go_wp2
    go_ret
    exact ⟨rfl, hb⟩

/-- what is no share of nothing, and so on: the parts -/
theorem good (p q : Nat) (hp : p < 18446744073709551616) (hq : q < 18446744073709551616) (h : noShare p q = false) :
    nan p = false ∧ nan q = false ∧ p ≤ sgn ∧ q ≤ sgn ∧ isInf q = false ∧ (FloatKind.f64.format.order p 0 == some .lt) = false ∧ (FloatKind.f64.format.order q 0 == some .lt) = false ∧ q ≠ inf := by
  obtain ⟨g1, g2, g3⟩ := good_parts h
  simp only [Bool.or_eq_false_iff] at g1 g2
  have a1 := Nat.not_lt.1 (of_decide_eq_false g1.2)
  have a2 := Nat.not_lt.1 (of_decide_eq_false g2.2)
  have hi : inf = 9218868437227405312 := rfl
  have hm : infM q = false := by unfold infM; exact decide_eq_false (by omega)
  refine ⟨g1.1, g2.1, a1, a2, by rw [isInf_or q hq, g3, hm]; rfl, ?_, ?_, of_decide_eq_false g3⟩
  · rw [order_zero p hp g1.1, if_neg (by omega)]; split <;> rfl
  · rw [order_zero q hq g2.1, if_neg (by omega)]; split <;> rfl

set_option maxHeartbeats 8000000 in
theorem walk_zero (p q : Nat) (hp : p < 18446744073709551616) (hq : q < 18446744073709551616) (h : noShare p q = false) (h0 : rung p = 0) (h1 : rung q = 0) (w : World) :
    Calls Try.prog 5 #[.float .f64 p, .float .f64 q] w fun e w' => e = .returned (.bool true) ∧ Below w.heap.size w w' := by
  obtain ⟨n1, n2, l1, l2, hI, z1, z2, _⟩ := good p q hp hq h
  have HS := Lib.hid (share_zero p q hp hq h h0 h1 w)
  have HI := fun wx => rinf_any q hq wx
  rw [hI] at HI
  replace HI := Lib.hid HI
  have o1 := order_self p hp n1
  have o2 := order_self q hq n2
  have e1 := eq_zero p hp
  have e2 := eq_zero q hq
  rw [h0, decide_eq_true rfl] at e1
  rw [h1, decide_eq_true rfl] at e2
  have HR := Lib.hid (fun wx => rsame_any 0 0 wx)
  clear n1 n2 l1 l2 hI h0 h1 h hp hq
  go_enter Try.func5, Try.ntmps5
  go_wp2_with fail
  refine HS.out.mono ?_
  rintro e w1 ⟨rfl, rfl⟩
  go_wp2_with fail
  refine (HI.out _).mono ?_
  rintro e w1 ⟨rfl, m, rfl⟩
  go_wp2_with fail
  refine (awake_any _).mono ?_
  rintro e w1 ⟨rfl, hb⟩
  have hb' := (below_drewN (Below.refl _ _) m).trans hb
  clear hb
  go_wp2_with fail
  refine (HR.out _).mono ?_
  rintro e w2 ⟨rfl, rfl⟩
  go_wp2
  go_ret
  exact ⟨rfl, hb'⟩

set_option maxHeartbeats 8000000 in
theorem walk_inf (p q : Nat) (hp : p < 18446744073709551616) (hq : q < 18446744073709551616) (h : noShare p q = false) (h0 : rung p ≠ 0) (h1 : rung q = 0) (w : World) :
    Calls Try.prog 5 #[.float .f64 p, .float .f64 q] w fun e w' => e = .returned (.bool true) ∧ Below w.heap.size w w' := by
  obtain ⟨n1, n2, l1, l2, hI, z1, z2, _⟩ := good p q hp hq h
  have hdiv := div_zero (rung p) (by omega) (nan_rung.1 n1)
  rw [← h1] at hdiv
  have HS := Lib.hid (share_div p q inf hp hq h (.inl h0) hdiv w)
  have HI := fun wx => rinf_any q hq wx
  rw [hI] at HI
  replace HI := Lib.hid HI
  have HJ := fun wx => rinf_any inf (by decide +kernel) wx
  rw [show isInf inf = true by decide +kernel] at HJ
  replace HJ := Lib.hid HJ
  have oi := inf_const
  generalize inf = s at *
  have o1 := order_self p hp n1
  have o2 := order_self q hq n2
  have e1 := eq_zero p hp
  have e2 := eq_zero q hq
  rw [decide_eq_false h0] at e1
  rw [h1, decide_eq_true rfl] at e2
  clear n1 n2 l1 l2 hI h0 h1 h hp hq hdiv
  go_enter Try.func5, Try.ntmps5
  go_wp2_with fail
  refine HS.out.mono ?_
  rintro e w1 ⟨rfl, rfl⟩
  go_wp2_with fail
  refine (HI.out _).mono ?_
  rintro e w1 ⟨rfl, m, rfl⟩
  go_wp2_with fail
  refine (awake_any _).mono ?_
  rintro e w1 ⟨rfl, hb⟩
  have hb' := (below_drewN (Below.refl _ _) m).trans hb
  clear hb
  go_wp2_with fail
  refine (HJ.out _).mono ?_
  rintro e w2 ⟨rfl, m2, rfl⟩
  go_wp2
  go_ret
  exact ⟨rfl, below_drewN hb' m2⟩

/-- the quotient, and what is said of it -/
theorem quotients (p q : Nat) (hp : p < 18446744073709551616) (hq : q < 18446744073709551616) (h : noShare p q = false) (h1 : rung q ≠ 0) :
    ∃ s t, floatBits .quo .f64 (rung p) (rung q) = some s ∧ floatBits .quo .f64 p q = some t ∧ Like s t ∧ ((FloatKind.f64.format.order s 0 == some .gt) || (FloatKind.f64.format.order s 0 == some .eq)) = true ∧
      (((FloatKind.f64.format.order p q == some .lt) || (FloatKind.f64.format.order p q == some .eq)) = true → ((FloatKind.f64.format.order s 4607182418800017408 == some .lt) || (FloatKind.f64.format.order s 4607182418800017408 == some .eq)) = true) := by
  obtain ⟨n1, n2, l1, l2, hI, z1, z2, hqi⟩ := good p q hp hq h
  have hi : inf = 9218868437227405312 := rfl
  have hs : sgn = 9223372036854775808 := rfl
  have ho : one = 4607182418800017408 := rfl
  have hqs : q < sgn := by
    rcases Nat.lt_or_ge q sgn with h' | h'
    · exact h'
    · exfalso; apply h1; unfold rung; rw [if_neg (by omega)]; omega
  have rq := rung_pos hqs
  have r2 := nan_rung.1 n2
  have r1 := nan_rung.1 n1
  rw [rq.1] at h1 r2 ⊢
  -- what a rung up to infinity is, as an answer
  have key : ∀ s, s ≤ inf → (s < 18446744073709551616 ∧ nan s = false ∧ ((FloatKind.f64.format.order s 0 == some .gt) || (FloatKind.f64.format.order s 0 == some .eq)) = true) ∧ (s ≤ one → ((FloatKind.f64.format.order s 4607182418800017408 == some .lt) || (FloatKind.f64.format.order s 4607182418800017408 == some .eq)) = true) := by
    intro s hsi
    have rs := rung_pos (x := s) (by omega)
    have ns : nan s = false := nan_rung.2 (by rw [rs.1]; exact hsi)
    refine ⟨⟨by omega, ns, ?_⟩, fun hle => ?_⟩
    · rw [ge_zero s (by omega), ns, decide_eq_false (by omega)]; rfl
    · rcases Nat.lt_or_ge s one with g | g
      · rw [order_lt s 4607182418800017408 (by omega) (by omega) ns one_facts.2.2.1 (by rw [rs.2.2, one_facts.2.2.2]; omega)]; rfl
      · rw [order_same s 4607182418800017408 (by omega) (by omega) ns one_facts.2.2.1 (by rw [rs.2.2, one_facts.2.2.2]; omega)]; rfl
  by_cases hp0 : p = sgn
  · -- -0
    subst hp0
    have e : rung sgn = 0 := by decide +kernel
    have d := div_neg0 q (by omega) (by omega)
    refine ⟨0, sgn, by rw [e]; exact d.2, d.1, ⟨by omega, by omega, .inr ⟨rfl, by decide +kernel, by decide +kernel⟩⟩, (key 0 (by omega)).1.2.2, fun _ => (key 0 (by omega)).2 (by omega)⟩
  · have hps : p < sgn := by omega
    have rp := rung_pos hps
    rw [rp.1] at r1 ⊢
    by_cases hpi : p = inf
    · subst hpi
      have d := div_inf q (by omega)
      refine ⟨inf, inf, d, d, ⟨by omega, by omega, .inr ⟨by decide +kernel, by decide +kernel, rfl⟩⟩, (key inf (Nat.le_refl _)).1.2.2, fun hle => ?_⟩
      exfalso
      rw [order_gt inf q hp hq n1 n2 (by rw [rq.2.2, rp.2.2]; omega)] at hle
      cases hle
    · obtain ⟨r, d, hr, hr1⟩ := div_rungs p q (by omega) (by omega) (by omega)
      have k := key r hr
      refine ⟨r, r, d, d, ⟨k.1.1, k.1.1, .inr ⟨k.1.2.1, k.1.2.1, rfl⟩⟩, k.1.2.2, fun hle => k.2 (hr1 ?_)⟩
      rcases Nat.lt_or_ge q p with g | g
      · exfalso
        rw [order_gt p q hp hq n1 n2 (by rw [rq.2.2, rp.2.2]; omega)] at hle
        cases hle
      · exact g

set_option maxHeartbeats 8000000 in
theorem walk_div (p q : Nat) (hp : p < 18446744073709551616) (hq : q < 18446744073709551616) (h : noShare p q = false) (h1 : rung q ≠ 0) (w : World) :
    Calls Try.prog 5 #[.float .f64 p, .float .f64 q] w fun e w' => e = .returned (.bool true) ∧ Below w.heap.size w w' := by
  obtain ⟨n1, n2, l1, l2, hI, z1, z2, _⟩ := good p q hp hq h
  obtain ⟨s, t, d1, d2, hlike, g0, g1⟩ := quotients p q hp hq h h1
  have HS := Lib.hid (share_div p q s hp hq h (.inr h1) d1 w)
  have HI := fun wx => rinf_any q hq wx
  rw [hI] at HI
  replace HI := Lib.hid HI
  have HA := Lib.hid (fun wx => alike_any s t hlike wx)
  have hrun := fun wx => run_float_arith (P := Try.prog) wx .quo 23 .f64 p q t d2
  have o1 := order_self p hp n1
  have o2 := order_self q hq n2
  have e2 := eq_zero q hq
  rw [decide_eq_false h1] at e2
  obtain ⟨z, hz⟩ : ∃ z, (FloatKind.f64.format.order p 0 == some .eq) = z := ⟨_, rfl⟩
  obtain ⟨le, hle⟩ : ∃ le, ((FloatKind.f64.format.order p q == some .lt) || (FloatKind.f64.format.order p q == some .eq)) = le := ⟨_, rfl⟩
  rw [hle] at g1
  clear n1 n2 l1 l2 hI h1 h hp hq d1 d2 hlike
  cases z <;> cases le
  all_goals
    first
    | (have g2 := g1 rfl; clear g1)
    | clear g1
    go_enter Try.func5, Try.ntmps5
    go_wp2_with fail
    refine HS.out.mono ?_
    rintro e w1 ⟨rfl, rfl⟩
    go_wp2_with fail
    refine (HI.out _).mono ?_
    rintro e w1 ⟨rfl, m, rfl⟩
    go_wp2_with fail
    refine (awake_any _).mono ?_
    rintro e w1 ⟨rfl, hb⟩
    have hb' := (below_drewN (Below.refl _ _) m).trans hb
    clear hb
    go_wp2_with fail
    refine (HA.out _).mono ?_
    rintro e w2 ⟨rfl, rfl⟩
    go_wp2
    go_ret
    exact ⟨rfl, hb'⟩

theorem walk (p q : Nat) (hp : p < 18446744073709551616) (hq : q < 18446744073709551616) (w : World) :
    Calls Try.prog 5 #[.float .f64 p, .float .f64 q] w fun e w' => e = .returned (.bool true) ∧ Below w.heap.size w w' := by
  cases h : noShare p q
  · by_cases h1 : rung q = 0
    · by_cases h0 : rung p = 0
      · exact walk_zero p q hp hq h h0 h1 w
      · exact walk_inf p q hp hq h h0 h1 w
    · exact walk_div p q hp hq h h1 w
  · exact walk_bad p q hp hq h w

set_option maxRecDepth 100000 in
theorem lifted (os : Os) (started : os.Started) (H : Type) (enc : TypeId × Value → H) :
    ReturnsInHanded {} Try.checked os 5 .any (Rows.gaugeSharesSpec.pre6 enc Try.prog Try.f5 Rows.gaugeSharesRow.domain false) (Rows.gaugeSharesSpec.post enc Try.prog Try.f5 false true false false) := by
  refine returnsInHanded_of_change (C := Try.checked) own started (by kernel_rfl) Try.func5
    (ChangeSpec.witness6 (enc := enc) (C := Try.checked) false ⟨#[], #[.float .f64 0, .float .f64 0], []⟩ 8 (by kernel_rfl) (by kernel_rfl) (by kernel_rfl) (by kernel_rfl)) ?_
  intro W base args ds gs before hval0 hW _ _
  have hval : ∀ (j : Nat) t v, Try.f5.params[j]? = some t → args[j]? = some v → Value.okWide Try.prog W .any base t v := hval0
  have hW' := hW
  obtain ⟨p, q, hA0, hV, rfl, hfz, hnd⟩ := hW
  have hA : DataW.TrodAll enc Try.prog W 0 (fun _ => true) true Try.f5.params.toList args.toList ds p := hA0
  rw [Try.params5] at hA hval
  obtain ⟨v0, vs0, d0, ds0, p0, q0, hargs, rfl, rfl, h0, r0⟩ := trodAll_cons hA
  obtain ⟨v1, vs1, d1, ds1, p1, q1, rfl, rfl, rfl, h1, r1⟩ := trodAll_cons r0
  obtain ⟨rfl, rfl, rfl⟩ := trodAll_nil r1
  obtain rfl : args = #[v0, v1] := by cases args; simp_all
  obtain ⟨rfl, rfl⟩ := trodVars_none hV
  have k0 := h0
  have lt0 : ∀ x ∈ p0, x.block < W.heap.size := by obtain ⟨m, hm⟩ := k0; exact DataW.trod_lt m _ _ _ hm
  obtain ⟨a0, rfl, hd0, hp0, w0⟩ := open_float Try.underlying23 (hval 0 23 v0 rfl rfl) h0
  have b0 : a0 < 18446744073709551616 := of_decide_eq_true w0
  have k1 := h1
  have lt1 : ∀ x ∈ p1, x.block < W.heap.size := by obtain ⟨m, hm⟩ := k1; exact DataW.trod_lt m _ _ _ hm
  obtain ⟨a1, rfl, hd1, hp1, w1⟩ := open_float Try.underlying23 (hval 1 23 v1 rfl rfl) h1
  have b1 : a1 < 18446744073709551616 := of_decide_eq_true w1
  clear hA0 hval0
  refine (walk a0 a1 b0 b1 W).mono fun e W' ⟨he, bel⟩ => ?_
  subst he
  exact ⟨_, rfl, _, _, _, [], _, [], hW', trodAll_mk1 (shut_bool Try.underlying4 _), (trodAll_cons_mk (Below.trod laidOut (by kernel_rfl) (of_decide_eq_true (by kernel_rfl)) k0 bel lt0) (trodAll_cons_mk (Below.trod laidOut (by kernel_rfl) (of_decide_eq_true (by kernel_rfl)) k1 bel lt1) trodAll_mk0)), rfl, bel.frame _, fun h => by cases h⟩

theorem over : Rows.gaugeSharesRow.holds Try.pinned (OpenSpec.ofChange Rows.gaugeSharesSpec) :=
  OpenClaim.holds_of_wide 5 Try.f5 rfl rfl rfl rfl rfl rfl rfl ⟨rfl, rfl, rfl, rfl, rfl⟩ rfl rfl rfl rfl rfl (by kernel_rfl) Try.func5 (by kernel_rfl)
    (of_decide_eq_true (by kernel_rfl)) (by unfold Func.isWrapper; first | (rw [if_pos (by decide +kernel)]; kernel_rfl) | (rw [if_neg (by decide +kernel)]; exact ⟨rfl, rfl⟩))
    (fun os started H enc _ => lifted os started H enc)

theorem proved : Rows.GaugeSharesSaid := over

end Go.Proofs.Ytcefohebnngfnaa.gaugeShares
