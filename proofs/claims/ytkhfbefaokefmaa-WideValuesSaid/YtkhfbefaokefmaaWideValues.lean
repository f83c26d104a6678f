/-
  WideValues: Val is the number of a text's first 8 bytes, and what Num lays in 8 or in 3 bytes Val reads again; for every text and every number (a text of more than 100 bytes: the law asks what comes at any rate).
-/
import Derived.Test.YtkhfbefaokefmaaAwake
import Derived.ProofKit
import Derived.OpenShut
import Derived.ShutString
import Derived.ChangeOld
import Derived.Below
namespace Go.Proofs.Ytkhfbefaokefmaa.wideValues
open Go.ChangeShapes Go.WideShapes Go.ChangeAt Go.RowKit
open Go.ChangeMaps (open_string shut_string)
open WideP

theorem own : ownKnob Try.prog.godebug = none := by kernel_rfl
theorem laidOut : laidOutB Try.prog = true := by kernel_rfl

theorem num8 (n : Nat) (hn : n < 2 ^ 64) (w : World) :
    Calls Try.prog 10 #[.int .u64 n, .int .i64 8] w fun e w' => e = .returned (.string ⟨(numL n 8).toArray⟩) ∧ Below w.heap.size w w' :=
  num_in n hn 8 (by omega) (by omega) w
theorem num3 (n : Nat) (hn : n < 2 ^ 64) (w : World) :
    Calls Try.prog 10 #[.int .u64 n, .int .i64 3] w fun e w' => e = .returned (.string ⟨(numL n 3).toArray⟩) ∧ Below w.heap.size w w' :=
  num_in n hn 3 (by omega) (by omega) w
theorem val_num (n k : Nat) (hk : k ≤ 8) (w : World) :
    Calls Try.prog 15 #[.string ⟨(numL n k).toArray⟩] w fun e w' => e = .returned (.int .u64 (n % 256 ^ k : Nat)) ∧ w = w' := by
  have hs : (⟨(numL n k).toArray⟩ : ByteArray).size = k := by
    show (numL n k).toArray.size = k
    simp [numL_length]
  refine (val_any _ w (by rw [hs]; unfold maxLen; omega)).mono ?_
  rintro e w' ⟨rfl, rfl⟩
  refine ⟨?_, rfl⟩
  have e1 : ((⟨(numL n k).toArray⟩ : ByteArray).data.toList).take 8 = numL n k := by
    show ((numL n k).toArray.toList).take 8 = numL n k
    rw [List.take_of_length_le (by simp [numL_length]; omega)]
  rw [e1, valL_numL]
theorem val8 (n : Nat) (hn : n < 2 ^ 64) (w : World) :
    Calls Try.prog 15 #[.string ⟨(numL n 8).toArray⟩] w fun e w' => e = .returned (.int .u64 n) ∧ w = w' := by
  have h : n % 256 ^ 8 = n := by omega
  have := val_num n 8 (by omega) w
  rw [h] at this
  exact this
theorem val3 (n : Nat) (w : World) :
    Calls Try.prog 15 #[.string ⟨(numL n 3).toArray⟩] w fun e w' => e = .returned (.int .u64 ((n % 16777216 : Nat) : Int)) ∧ w = w' :=
  val_num n 3 (by omega) w

set_option maxHeartbeats 1000000 in
theorem walk (s : ByteArray) (n : Nat) (hs : s.size ≤ maxLen) (hn : n < 2 ^ 64) (w : World) :
    Calls Try.prog 5 #[.string s, .int .u64 n] w fun e w' => e = .returned (.bool true) ∧ Below w.heap.size w w' := by
  have hs' := hs
  unfold maxLen at hs'
  by_cases hbig : 100 < s.size
  · go_enter Try.func5, Try.ntmps5
    go_wp2_with fail
    refine (Aw.awake_any _).mono ?_
    rintro e w1 ⟨rfl, hb⟩
    go_wp2
    go_ret
    exact ⟨rfl, hb⟩
  · have hle : s.size ≤ 100 := by omega
    have hm : ((n : Int).tmod 16777216) = ((n % 16777216 : Nat) : Int) := by
      rw [Int.tmod_eq_emod_of_nonneg (by omega)]; omega
    have HM := Lib.hid hm
    clear hm hbig
    go_enter Try.func5, Try.ntmps5
    go_wp2_with fail
    refine (Aw.awake_any _).mono ?_
    rintro e w1 ⟨rfl, hb1⟩
    go_wp2_with fail
    refine (val_any s _ hs).mono ?_
    rintro e w2 ⟨rfl, rfl⟩
    go_wp2_with fail
    refine (rval_any s _ hs).mono ?_
    rintro e w2 ⟨rfl, rfl⟩
    go_wp2_with fail
    refine (num8 n hn _).mono ?_
    rintro e w2 ⟨rfl, hb2⟩
    go_wp2_with fail
    refine (val8 n hn _).mono ?_
    rintro e w3 ⟨rfl, rfl⟩
    go_wp2_with fail
    refine (num3 n hn _).mono ?_
    rintro e w3 ⟨rfl, hb3⟩
    go_wp2_with fail
    refine (val3 n _).mono ?_
    rintro e w4 ⟨rfl, rfl⟩
    have hb := hb1.trans ((hb2.trans (hb3.mono hb2.size)).mono hb1.size)
    clear hb1 hb2 hb3
    go_wp2
    go_ret
    exact ⟨rfl, hb⟩

set_option maxRecDepth 100000 in
theorem lifted (os : Os) (started : os.Started) (H : Type) (enc : TypeId × Value → H) :
    ReturnsInHanded {} Try.checked os 5 .any (Rows.wideValuesSpec.pre6 enc Try.prog Try.f5 Rows.wideValuesRow.domain false) (Rows.wideValuesSpec.post enc Try.prog Try.f5 false true false false) := by
  refine returnsInHanded_of_change (C := Try.checked) own started (by kernel_rfl) Try.func5
    (ChangeSpec.witness6 (enc := enc) (C := Try.checked) false ⟨#[], #[.string ByteArray.empty, .int .u64 0], []⟩ 8 (by kernel_rfl) (by kernel_rfl) (by kernel_rfl) (by kernel_rfl)) ?_
  intro W base args ds gs before hval0 hW _ _
  have hval : ∀ (j : Nat) t v, Try.f5.params[j]? = some t → args[j]? = some v → Value.okWide Try.prog W .any base t v := hval0
  have hW' := hW
  obtain ⟨p, q, hA0, hV, rfl, hfz, hnd⟩ := hW
  have hA : DataW.TrodAll enc Try.prog W 0 (fun _ => true) true Try.f5.params.toList args.toList ds p := hA0
  rw [Try.params5] at hA hval
  obtain ⟨v0, vs0, d0, ds0, p0, q0, hargs, rfl, rfl, h0, r0⟩ := trodAll_cons hA
  obtain ⟨v1, vs1, d1, ds1, p1, q1, rfl, rfl, rfl, h1, r1⟩ := trodAll_cons r0
  obtain ⟨rfl, rfl, rfl⟩ := trodAll_nil r1
  obtain rfl : args = #[v0, v1] := by cases args; simp_all
  obtain ⟨rfl, rfl⟩ := trodVars_none hV
  have k0 := h0
  have lt0 : ∀ x ∈ p0, x.block < W.heap.size := by obtain ⟨m, hm⟩ := k0; exact DataW.trod_lt m _ _ _ hm
  obtain ⟨a0, rfl, hd0, hp0, w0⟩ := open_string Try.underlying9 (hval 0 9 v0 rfl rfl) h0
  have k1 := h1
  have lt1 : ∀ x ∈ p1, x.block < W.heap.size := by obtain ⟨m, hm⟩ := k1; exact DataW.trod_lt m _ _ _ hm
  obtain ⟨a1, rfl, hd1, hp1, w1⟩ := open_int Try.underlying22 (hval 1 22 v1 rfl rfl) h1
  obtain ⟨h10, h11⟩ : 0 ≤ a1 ∧ a1 < 18446744073709551616 := by have := bounds_u64 w1; omega
  obtain ⟨n1, rfl⟩ := Int.eq_ofNat_of_zero_le h10
  have hn1 : n1 < 2 ^ 64 := by omega
  clear hA0 hval0
  refine (walk a0 n1 w0 hn1 W).mono fun e W' ⟨he, bel⟩ => ?_
  subst he
  exact ⟨_, rfl, _, _, _, [], _, [], hW', trodAll_mk1 (shut_bool Try.underlying4 _), (trodAll_cons_mk (Below.trod laidOut (by kernel_rfl) (of_decide_eq_true (by kernel_rfl)) k0 bel lt0) (trodAll_cons_mk (Below.trod laidOut (by kernel_rfl) (of_decide_eq_true (by kernel_rfl)) k1 bel lt1) trodAll_mk0)), rfl, bel.frame _, fun h => by cases h⟩

theorem over : Rows.wideValuesRow.holds Try.pinned (OpenSpec.ofChange Rows.wideValuesSpec) :=
  OpenClaim.holds_of_wide 5 Try.f5 rfl rfl rfl rfl rfl rfl rfl ⟨rfl, rfl, rfl, rfl, rfl⟩ rfl rfl rfl rfl rfl (by kernel_rfl) Try.func5 (by kernel_rfl)
    (of_decide_eq_true (by kernel_rfl)) (by unfold Func.isWrapper; first | (rw [if_pos (by decide +kernel)]; kernel_rfl) | (rw [if_neg (by decide +kernel)]; exact ⟨rfl, rfl⟩))
    (fun os started H enc _ => lifted os started H enc)

theorem proved : Rows.WideValuesSaid := over

end Go.Proofs.Ytkhfbefaokefmaa.wideValues
