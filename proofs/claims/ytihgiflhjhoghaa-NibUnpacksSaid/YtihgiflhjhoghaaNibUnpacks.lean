/-
  NibUnpacks: what is unpacked of any text is a path that is packed as that very text; a text that is refused is no hex-prefix; for every text (of more than 200 bytes: the law asks what comes at any rate).
-/
import Derived.Test.YtihgiflhjhoghaaNibAw
import Derived.Test.YtihgiflhjhoghaaNibPl
import Derived.OpenShut
import Derived.ShutString
import Derived.ChangeOld
import Derived.Below
namespace Go.Proofs.Ytihgiflhjhoghaa.nibUnpacks
open Go.ChangeShapes Go.WideShapes Go.ChangeAt Go.RowKit
open Go.ChangeMaps (open_string shut_string)
open Ni

theorem own : ownKnob Try.prog.godebug = none := by kernel_rfl
theorem laidOut : laidOutB Try.prog = true := by kernel_rfl

theorem ret_true {b : Bool} (h : b = true) : Ending.returned (.bool b) = .returned (.bool true) := by rw [h]

set_option maxRecDepth 100000 in
set_option maxHeartbeats 1000000 in
theorem walk_big (s : ByteArray) (hn : 200 < s.size) (w : World) :
    Calls Try.prog 5 #[.string s] w fun e w' => e = .returned (.bool true) ∧ Below w.heap.size w w' := by
  go_enter Try.func5, Try.ntmps5
  go_wp2_with fail
  refine (Na.awake_any _).mono ?_
  rintro e w1 ⟨rfl, hb⟩
  go_wp2
  go_ret
  exact ⟨rfl, hb⟩

set_option maxRecDepth 100000 in
set_option maxHeartbeats 1000000 in
theorem walk_nil (w : World) :
    Calls Try.prog 5 #[.string ByteArray.empty] w fun e w' => e = .returned (.bool true) ∧ Below w.heap.size w w' := by
  go_enter Try.func5, Try.ntmps5
  go_wp2_with fail
  refine (unpack_nil _).mono ?_
  rintro e w1 ⟨rfl, rfl⟩
  go_wp2_with fail
  refine (Na.awake_any _).mono ?_
  rintro e w1 ⟨rfl, hb⟩
  go_wp2
  go_ret
  exact ⟨rfl, hb⟩

set_option maxRecDepth 100000 in
set_option maxHeartbeats 2000000 in
theorem walk_bad (s : ByteArray) (h0 : 0 < s.size) (hn : s.size ≤ 200) (hb : Bad s) (w : World) :
    Calls Try.prog 5 #[.string s] w fun e w' => e = .returned (.bool true) ∧ Below w.heap.size w w' := by
  have HU := Lib.hid (unpack_bad s h0 (by omega) hb w)
  have hne := not_empty h0
  obtain ⟨e0, e1⟩ := nib01 s h0
  unfold Bad at hb
  rw [e0, e1] at hb
  have hx256 : s[0].toNat < 256 := UInt8.toNat_lt _
  clear e0 e1
  by_cases hc : 64 ≤ s[0].toNat
  · clear hb
    go_enter Try.func5, Try.ntmps5
    go_wp2_with fail
    refine HU.out.mono ?_
    rintro e w1 ⟨rfl, hb1⟩
    go_wp2_with fail
    refine (Na.awake_any _).mono ?_
    rintro e w2 ⟨rfl, hb2⟩
    have hbw := hb1.trans (hb2.mono hb1.size)
    clear hb1 hb2
    go_wp2
    go_ret
    exact ⟨rfl, hbw⟩
  · have hc3 : s[0].toNat / 16 ≤ 3 := by omega
    by_cases hp : s[0].toNat / 16 % 2 = 0
    · have q1 : ((s[0].toNat : Int) / 16 % 2 == 0) = true := by simp; omega
      by_cases hz : s[0].toNat % 16 = 0
      · have q2 : ((s[0].toNat : Int) % 16 != 0) = false := by simp; omega
        have h33 : 33 < s.size := by omega
        clear hb hc3 hp hz
        go_enter Try.func5, Try.ntmps5
        go_wp2_with fail
        refine HU.out.mono ?_
        rintro e w1 ⟨rfl, hb1⟩
        go_wp2_with fail
        refine (Na.awake_any _).mono ?_
        rintro e w2 ⟨rfl, hb2⟩
        have hbw := hb1.trans (hb2.mono hb1.size)
        clear hb1 hb2
        go_wp2
        go_ret
        exact ⟨rfl, hbw⟩
      · have q2 : ((s[0].toNat : Int) % 16 != 0) = true := by simp; omega
        clear hb hc3 hp hz
        go_enter Try.func5, Try.ntmps5
        go_wp2_with fail
        refine HU.out.mono ?_
        rintro e w1 ⟨rfl, hb1⟩
        go_wp2_with fail
        refine (Na.awake_any _).mono ?_
        rintro e w2 ⟨rfl, hb2⟩
        have hbw := hb1.trans (hb2.mono hb1.size)
        clear hb1 hb2
        go_wp2
        go_ret
        exact ⟨rfl, hbw⟩
    · have q1 : ((s[0].toNat : Int) / 16 % 2 == 0) = false := by simp; omega
      have q3 : ((s[0].toNat : Int) / 16 % 2 == 1) = true := by simp; omega
      have h32 : 32 < s.size := by omega
      clear hb hc3 hp
      go_enter Try.func5, Try.ntmps5
      go_wp2_with fail
      refine HU.out.mono ?_
      rintro e w1 ⟨rfl, hb1⟩
      go_wp2_with fail
      refine (Na.awake_any _).mono ?_
      rintro e w2 ⟨rfl, hb2⟩
      have hbw := hb1.trans (hb2.mono hb1.size)
      clear hb1 hb2
      go_wp2
      go_ret
      exact ⟨ret_true (b := decide (64 ≤ (s[0].toNat : Int)) || decide (32 < (s.size : Int))) (by simp; omega), hbw⟩

set_option maxRecDepth 100000 in
set_option maxHeartbeats 2000000 in
theorem walk_ok (s : ByteArray) (h0 : 0 < s.size) (hn : s.size ≤ 200) (hb : ¬ Bad s) (w : World) :
    Calls Try.prog 5 #[.string s] w fun e w' => e = .returned (.bool true) ∧ Below w.heap.size w w' := by
  have HU := Lib.hid (unpack_ok s h0 hb w)
  have hne := not_empty h0
  have HR := Lib.hid (path_right s)
  have HL := Lib.hid (path_le s hb)
  have HP := Lib.hid (unpack_pack s h0 hb)
  obtain ⟨lf, hlf⟩ : ∃ lf, leafB s = lf := ⟨_, rfl⟩
  rw [hlf] at HP
  have HLf := Lib.hid hlf
  clear hb hlf
  go_enter Try.func5, Try.ntmps5
  go_wp2_with fail
  refine HU.out.mono ?_
  rintro e w1 ⟨a, n, c, rfl, hx, hb1⟩
  rw [HLf.out]
  have hn64 : n ≤ 64 := by rw [← hx.len]; exact HL.out
  have HX := Lib.hid hx
  clear hx
  go_wp2_with fail
  refine (Na.awake_any _).mono ?_
  rintro e w2 ⟨rfl, hb2⟩
  have HX2 := Lib.hid (HX.out.below hb2)
  have hbw := hb1.trans (hb2.mono hb1.size)
  have hR := rright_any a n c _ w2 HX2.out
  rw [HR.out] at hR
  have HRR := Lib.hid hR
  have hQ := rpack_any a n c _ lf HR.out hn64 w2 HX2.out
  rw [HP.out] at hQ
  have HQ := Lib.hid hQ
  clear hb1 hb2 hR hQ
  go_wp2_with fail
  refine HRR.out.mono ?_
  rintro e w3 ⟨rfl, rfl⟩
  go_wp2_with fail
  refine HQ.out.mono ?_
  rintro e w4 ⟨rfl, hb4⟩
  have hbw4 := hbw.trans (hb4.mono hbw.size)
  clear hbw hb4
  go_wp2
  go_ret
  exact ⟨rfl, hbw4⟩

theorem walk (s : ByteArray) (w : World) :
    Calls Try.prog 5 #[.string s] w fun e w' => e = .returned (.bool true) ∧ Below w.heap.size w w' := by
  by_cases hbig : 200 < s.size
  · exact walk_big s hbig w
  · by_cases h0 : s.size = 0
    · have e : s = ByteArray.empty := by
        cases s with
        | mk d => have : d = #[] := Array.eq_empty_of_size_eq_zero h0
                  rw [this]; rfl
      rw [e]; exact walk_nil w
    · by_cases hb : Bad s
      · exact walk_bad s (by omega) (by omega) hb w
      · exact walk_ok s (by omega) (by omega) hb w

set_option maxRecDepth 100000 in
theorem lifted (os : Os) (started : os.Started) (H : Type) (enc : TypeId × Value → H) :
    ReturnsInHanded {} Try.checked os 5 .any (Rows.nibUnpacksSpec.pre6 enc Try.prog Try.f5 Rows.nibUnpacksRow.domain false) (Rows.nibUnpacksSpec.post enc Try.prog Try.f5 false true false false) := by
  refine returnsInHanded_of_change (C := Try.checked) own started (by kernel_rfl) Try.func5
    (ChangeSpec.witness6 (enc := enc) (C := Try.checked) false ⟨#[], #[.string ByteArray.empty], []⟩ 8 (by kernel_rfl) (by kernel_rfl) (by kernel_rfl) (by kernel_rfl)) ?_
  intro W base args ds gs before hval0 hW _ _
  have hval : ∀ (j : Nat) t v, Try.f5.params[j]? = some t → args[j]? = some v → Value.okWide Try.prog W .any base t v := hval0
  have hW' := hW
  obtain ⟨p, q, hA0, hV, rfl, hfz, hnd⟩ := hW
  have hA : DataW.TrodAll enc Try.prog W 0 (fun _ => true) true Try.f5.params.toList args.toList ds p := hA0
  rw [Try.params5] at hA hval
  obtain ⟨v0, vs0, d0, ds0, p0, q0, hargs, rfl, rfl, h0, r0⟩ := trodAll_cons hA
  obtain ⟨rfl, rfl, rfl⟩ := trodAll_nil r0
  obtain rfl : args = #[v0] := by cases args; simp_all
  obtain ⟨rfl, rfl⟩ := trodVars_none hV
  have k0 := h0
  have lt0 : ∀ x ∈ p0, x.block < W.heap.size := by obtain ⟨m, hm⟩ := k0; exact DataW.trod_lt m _ _ _ hm
  obtain ⟨a0, rfl, hd0, hp0, w0⟩ := open_string Try.underlying9 (hval 0 9 v0 rfl rfl) h0
  clear hA0 hval0
  refine (walk a0 W).mono fun e W' ⟨he, bel⟩ => ?_
  subst he
  exact ⟨_, rfl, _, _, _, [], _, [], hW', trodAll_mk1 (shut_bool Try.underlying4 _), (trodAll_cons_mk (Below.trod laidOut (by kernel_rfl) (of_decide_eq_true (by kernel_rfl)) k0 bel lt0) trodAll_mk0), rfl, bel.frame _, fun h => by cases h⟩

theorem over : Rows.nibUnpacksRow.holds Try.pinned (OpenSpec.ofChange Rows.nibUnpacksSpec) :=
  OpenClaim.holds_of_wide 5 Try.f5 rfl rfl rfl rfl rfl rfl rfl ⟨rfl, rfl, rfl, rfl, rfl⟩ rfl rfl rfl rfl rfl (by kernel_rfl) Try.func5 (by kernel_rfl)
    (of_decide_eq_true (by kernel_rfl)) (by unfold Func.isWrapper; first | (rw [if_pos (by decide +kernel)]; kernel_rfl) | (rw [if_neg (by decide +kernel)]; exact ⟨rfl, rfl⟩))
    (fun os started H enc _ => lifted os started H enc)

theorem proved : Rows.NibUnpacksSaid := over

end Go.Proofs.Ytihgiflhjhoghaa.nibUnpacks
