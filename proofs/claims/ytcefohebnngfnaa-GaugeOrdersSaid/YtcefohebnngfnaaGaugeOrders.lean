/-
  GaugeOrders: of any two numbers, by their bits, gauge.Less, Key, Bits, Of, Same and Class say what the order of all says; for every two words, with no condition.
-/
import Derived.Test.YtcefohebnngfnaaGe
import Derived.OpenShut
import Derived.ChangeOld
namespace Go.Proofs.Ytcefohebnngfnaa.gaugeOrders
open Go.ChangeShapes Go.WideShapes Go.ChangeAt Go.RowKit
open Fw Fl

theorem own : ownKnob Try.prog.godebug = none := by kernel_rfl
theorem laidOut : laidOutB Try.prog = true := by kernel_rfl

theorem key_inj (x y : Nat) (hx : x < 18446744073709551616) (hy : y < 18446744073709551616) (h : key x = key y) : x = y := by
  have hs : sgn = 9223372036854775808 := rfl
  unfold key at h
  split at h <;> split at h <;> omega
theorem order_key (x y : Nat) (hx : x < 18446744073709551616) (hy : y < 18446744073709551616) (h : FloatKind.f64.format.order x y = some .lt) : key x < key y := by
  have hs : sgn = 9223372036854775808 := rfl
  rw [order_eq x y hx hy] at h
  split at h
  · cases h
  · have h' := Int.compare_eq_lt.1 (Option.some.inj h)
    unfold sr at h'
    unfold key
    by_cases q1 : x < sgn <;> by_cases q2 : y < sgn <;> simp only [q1, q2, if_true, if_false] at h' ⊢ <;> omega

theorem ways (x y : Nat) (hx : x < 18446744073709551616) (hy : y < 18446744073709551616) : ∃ (r1 r2 e : Bool) (o : Option Ordering), lessK x y = r1 ∧ lessK y x = r2 ∧ ((x : Int) == (y : Int)) = e ∧ ((x : Int) != (y : Int)) = !e ∧ decide (key x < key y) = r1 ∧ FloatKind.f64.format.order x y = o ∧ decide (x = y) = e ∧
    ((r1 = true ∧ e = false) ∨ (r1 = false ∧ r2 = false ∧ e = true ∧ o ≠ some .lt) ∨ (r1 = false ∧ r2 = true ∧ e = false ∧ o ≠ some .lt)) := by
  refine ⟨_, _, decide (x = y), _, rfl, rfl, ?_, ?_, rfl, rfl, rfl, ?_⟩
  · rw [Bool.eq_iff_iff]; simp; omega
  · rw [Bool.eq_iff_iff]; simp; omega
  · have ho := order_key x y hx hy
    unfold lessK
    rcases Nat.lt_trichotomy (key x) (key y) with h | h | h
    · exact .inl ⟨decide_eq_true h, decide_eq_false (by rintro rfl; omega)⟩
    · have := key_inj x y hx hy h
      subst this
      exact .inr (.inl ⟨decide_eq_false (by omega), decide_eq_false (by omega), decide_eq_true rfl, fun h' => by have := ho h'; omega⟩)
    · exact .inr (.inr ⟨decide_eq_false (by omega), decide_eq_true h, decide_eq_false (by rintro rfl; omega), fun h' => by have := ho h'; omega⟩)

set_option maxRecDepth 100000 in
set_option maxHeartbeats 8000000 in
theorem walk (x y : Nat) (hx : x < 18446744073709551616) (hy : y < 18446744073709551616) (w : World) :
    Calls Try.prog 3 #[.int .u64 x, .int .u64 y] w fun e w' => e = .returned (.bool true) ∧ Below w.heap.size w w' := by
  obtain ⟨r1, r2, e, o, h1, h2, h3, h4, h5, h6, h7, good⟩ := ways x y hx hy
  have f1 := from_ext x w
  have f2 := from_ext y w
  have L1 := fun wx => less_any x y hx hy wx
  have R1 := fun wx => rless_any x y hx hy wx
  have R2 := fun wx => rless_any y x hy hx wx
  have K1 := fun wx => key_any x hx wx
  have K2 := fun wx => key_any y hy wx
  have S1 := fun wx => same_any x y wx
  have C1 := fun wx => class_any x hx wx
  have C2 := fun wx => rclass_any x hx wx
  rw [h1] at L1 R1
  rw [h2] at R2
  rw [h7] at S1
  generalize cls x = c at C1 C2
  generalize key x = kx at *
  generalize key y = ky at *
  clear h1 h2 h7 hx hy
  rcases good with ⟨rfl, rfl⟩ | ⟨rfl, rfl, rfl, ho⟩ | ⟨rfl, rfl, rfl, ho⟩ <;> rcases ord4 o with rfl | rfl | rfl | rfl <;> first | (exact absurd rfl ho) | skip
  all_goals
    replace L1 := Lib.hid L1
    replace R1 := Lib.hid R1
    replace R2 := Lib.hid R2
    replace K1 := Lib.hid K1
    replace K2 := Lib.hid K2
    replace S1 := Lib.hid S1
    replace C1 := Lib.hid C1
    replace C2 := Lib.hid C2
    go_enter Try.func3, Try.ntmps3
    go_wp2_with fail
    refine (R1.out _).mono ?_
    rintro e w1 ⟨rfl, rfl⟩
    go_wp2_with fail
    refine (awake_any _).mono ?_
    rintro e w1 ⟨rfl, hb1⟩
    go_wp2_with fail
    refine (L1.out _).mono ?_
    rintro e w2 ⟨rfl, hb2⟩
    have hb := hb1.trans (hb2.mono hb1.size)
    clear hb1 hb2
    go_wp2_with (first | (go_at_call 8; refine (R2.out _).mono ?_; rintro e w3 ⟨rfl, rfl⟩) | (go_at_call 13; refine (of_any _ _).mono ?_; rintro e w3 ⟨rfl, rfl⟩) | (go_at_call 12; refine (bits_any _ _).mono ?_; rintro e w3 ⟨rfl, rfl⟩) | (go_at_call 14; refine (S1.out _).mono ?_; rintro e w3 ⟨rfl, rfl⟩) | (go_at_call 15; refine (C1.out _).mono ?_; rintro e w3 ⟨rfl, rfl⟩))
    refine (K1.out _).mono ?_
    rintro e w3 ⟨rfl, rfl⟩
    go_wp2_with fail
    refine (K2.out _).mono ?_
    rintro e w3 ⟨rfl, rfl⟩
    go_wp2_with (first | (go_at_call 13; refine (of_any _ _).mono ?_; rintro e w3 ⟨rfl, rfl⟩) | (go_at_call 12; refine (bits_any _ _).mono ?_; rintro e w3 ⟨rfl, rfl⟩) | (go_at_call 14; refine (S1.out _).mono ?_; rintro e w3 ⟨rfl, rfl⟩) | (go_at_call 15; refine (C1.out _).mono ?_; rintro e w3 ⟨rfl, rfl⟩))
    refine (C2.out _).mono ?_
    rintro e w3 ⟨rfl, q, rfl⟩
    go_wp2
    go_ret
    exact ⟨rfl, below_drewN hb q⟩

set_option maxRecDepth 100000 in
theorem lifted (os : Os) (started : os.Started) (H : Type) (enc : TypeId × Value → H) :
    ReturnsInHanded {} Try.checked os 3 .any (Rows.gaugeOrdersSpec.pre6 enc Try.prog Try.f3 Rows.gaugeOrdersRow.domain false) (Rows.gaugeOrdersSpec.post enc Try.prog Try.f3 false true false false) := by
  refine returnsInHanded_of_change (C := Try.checked) own started (by kernel_rfl) Try.func3
    (ChangeSpec.witness6 (enc := enc) (C := Try.checked) false ⟨#[], #[.int .u64 0, .int .u64 0], []⟩ 8 (by kernel_rfl) (by kernel_rfl) (by kernel_rfl) (by kernel_rfl)) ?_
  intro W base args ds gs before hval0 hW _ _
  have hval : ∀ (j : Nat) t v, Try.f3.params[j]? = some t → args[j]? = some v → Value.okWide Try.prog W .any base t v := hval0
  have hW' := hW
  obtain ⟨p, q, hA0, hV, rfl, hfz, hnd⟩ := hW
  have hA : DataW.TrodAll enc Try.prog W 0 (fun _ => true) true Try.f3.params.toList args.toList ds p := hA0
  rw [Try.params3] at hA hval
  obtain ⟨v0, vs0, d0, ds0, p0, q0, hargs, rfl, rfl, h0, r0⟩ := trodAll_cons hA
  obtain ⟨v1, vs1, d1, ds1, p1, q1, rfl, rfl, rfl, h1, r1⟩ := trodAll_cons r0
  obtain ⟨rfl, rfl, rfl⟩ := trodAll_nil r1
  obtain rfl : args = #[v0, v1] := by cases args; simp_all
  obtain ⟨rfl, rfl⟩ := trodVars_none hV
  have k0 := h0
  have lt0 : ∀ x ∈ p0, x.block < W.heap.size := by obtain ⟨m, hm⟩ := k0; exact DataW.trod_lt m _ _ _ hm
  obtain ⟨a0, rfl, hd0, hp0, w0⟩ := open_int Try.underlying22 (hval 0 22 v0 rfl rfl) h0
  have b0 := bounds_u64 w0
  obtain ⟨n0, rfl⟩ := Int.eq_ofNat_of_zero_le b0.1
  have k1 := h1
  have lt1 : ∀ x ∈ p1, x.block < W.heap.size := by obtain ⟨m, hm⟩ := k1; exact DataW.trod_lt m _ _ _ hm
  obtain ⟨a1, rfl, hd1, hp1, w1⟩ := open_int Try.underlying22 (hval 1 22 v1 rfl rfl) h1
  have b1 := bounds_u64 w1
  obtain ⟨n1, rfl⟩ := Int.eq_ofNat_of_zero_le b1.1
  clear hA0 hval0
  refine (walk n0 n1 (by omega) (by omega) W).mono fun e W' ⟨he, bel⟩ => ?_
  subst he
  exact ⟨_, rfl, _, _, _, [], _, [], hW', trodAll_mk1 (shut_bool Try.underlying4 _), (trodAll_cons_mk (Below.trod laidOut (by kernel_rfl) (of_decide_eq_true (by kernel_rfl)) k0 bel lt0) (trodAll_cons_mk (Below.trod laidOut (by kernel_rfl) (of_decide_eq_true (by kernel_rfl)) k1 bel lt1) trodAll_mk0)), rfl, bel.frame _, fun h => by cases h⟩

theorem over : Rows.gaugeOrdersRow.holds Try.pinned (OpenSpec.ofChange Rows.gaugeOrdersSpec) :=
  OpenClaim.holds_of_wide 3 Try.f3 rfl rfl rfl rfl rfl rfl rfl ⟨rfl, rfl, rfl, rfl, rfl⟩ rfl rfl rfl rfl rfl (by kernel_rfl) Try.func3 (by kernel_rfl)
    (of_decide_eq_true (by kernel_rfl)) (by unfold Func.isWrapper; first | (rw [if_pos (by decide +kernel)]; kernel_rfl) | (rw [if_neg (by decide +kernel)]; exact ⟨rfl, rfl⟩))
    (fun os started H enc _ => lifted os started H enc)

theorem proved : Rows.GaugeOrdersSaid := over

end Go.Proofs.Ytcefohebnngfnaa.gaugeOrders
