/-
  NibPacks: any path packed is what the plain answer packs, and is unpacked again as it was; what is no path, or is too long, is refused; for every list of bytes and both marks (of more than 200 bytes: the law asks what comes at any rate).
-/
import Derived.Test.YtihgiflhjhoghaaNibAw
import Derived.Test.YtihgiflhjhoghaaNibPl
import Derived.Test.YtihgiflhjhoghaaBsIn
import Derived.OpenShut
import Derived.ShutString
import Derived.ChangeOld
import Derived.Below
namespace Go.Proofs.Ytihgiflhjhoghaa.nibPacks
open Go.ChangeShapes Go.WideShapes Go.ChangeAt Go.RowKit
open Ni

theorem own : ownKnob Try.prog.godebug = none := by kernel_rfl
theorem laidOut : laidOutB Try.prog = true := by kernel_rfl

set_option maxHeartbeats 1000000 in
theorem walk_big (a : Option Addr) (n c : Nat) (leaf : Bool) (hn : 200 < n) (w : World) :
    Calls Try.prog 4 #[.slice a n c, .bool leaf] w fun e w' => e = .returned (.bool true) ∧ Below w.heap.size w w' := by
  go_enter Try.func4, Try.ntmps4
  go_wp2_with fail
  refine (Na.awake_any _).mono ?_
  rintro e w1 ⟨rfl, hb⟩
  go_wp2
  go_ret
  exact ⟨rfl, hb⟩

set_option maxHeartbeats 1000000 in
theorem walk_wrong (a : Option Addr) (n c : Nat) (l : List UInt8) (leaf : Bool) (hn : n ≤ 200) (hw : 64 < n ∨ rightB l = false) (w : World) (h : IsBs w a n c l) :
    Calls Try.prog 4 #[.slice a n c, .bool leaf] w fun e w' => e = .returned (.bool true) ∧ Below w.heap.size w w' := by
  have hP : Calls Try.prog 13 #[.slice a n c, .bool leaf] w fun e w' => e = .returned (.tuple #[.string ByteArray.empty, .int .i64 2]) ∧ w = w' := by
    by_cases h64 : 64 < n
    · exact pack_big a n c leaf h64 (by unfold maxLen; omega) w
    · exact pack_wrong a n c l leaf (by omega) (by rcases hw with hw | hw; exact absurd hw h64; exact hw) w h
  have hR := rright_any a n c l w h
  have HP := Lib.hid hP
  clear hP h
  cases hrr : rightB l
  · rw [hrr] at hR
    have HR := Lib.hid hR
    clear hR hw hrr
    go_enter Try.func4, Try.ntmps4
    go_wp2_with fail
    refine HP.out.mono ?_
    rintro e w1 ⟨rfl, rfl⟩
    go_wp2_with fail
    refine HR.out.mono ?_
    rintro e w1 ⟨rfl, rfl⟩
    go_wp2_with fail
    refine (Na.awake_any _).mono ?_
    rintro e w1 ⟨rfl, hb⟩
    go_wp2
    go_ret
    exact ⟨rfl, hb⟩
  · rw [hrr] at hR hw
    have h64 : 64 < n := by simpa using hw
    have HR := Lib.hid hR
    clear hR hw hrr
    go_enter Try.func4, Try.ntmps4
    go_wp2_with fail
    refine HP.out.mono ?_
    rintro e w1 ⟨rfl, rfl⟩
    go_wp2_with fail
    refine HR.out.mono ?_
    rintro e w1 ⟨rfl, rfl⟩
    go_wp2_with fail
    refine (Na.awake_any _).mono ?_
    rintro e w1 ⟨rfl, hb⟩
    go_wp2
    go_ret
    exact ⟨rfl, hb⟩

theorem pack_any (a : Option Addr) (n c : Nat) (l : List UInt8) (leaf : Bool) (hn : n ≤ 64) (hr : rightB l = true) (w : World) (h : IsBs w a n c l) :
    Calls Try.prog 13 #[.slice a n c, .bool leaf] w fun e w' => e = .returned (.tuple #[.string ⟨(packL l leaf).toArray⟩, .int .i64 0]) ∧ Below w.heap.size w w' := by
  by_cases h2 : n % 2 = 0
  · exact pack_even a n c l leaf hn h2 hr w h
  · obtain ⟨b, off, rfl, _⟩ := h.at' 0 (by omega)
    exact pack_odd b off n c l leaf hn (by omega) hr w h

set_option maxRecDepth 100000 in
set_option maxHeartbeats 2000000 in
theorem walk_right (a : Option Addr) (n c : Nat) (l : List UInt8) (leaf : Bool) (hn : n ≤ 64) (hr : rightB l = true) (w : World) (h : IsBs w a n c l) :
    Calls Try.prog 4 #[.slice a n c, .bool leaf] w fun e w' => e = .returned (.bool true) ∧ Below w.heap.size w w' := by
  have hll : l.length ≤ 64 := by rw [h.len]; exact hn
  have HP := Lib.hid (pack_any a n c l leaf hn hr w h)
  have HU := Lib.hid (fun wx => unpack_ok ⟨(packL l leaf).toArray⟩ (by rw [packL_size]; omega) (pack_good l leaf hr hll) wx)
  have HL := Lib.hid (pack_leaf l leaf hr)
  have HPa := Lib.hid (pack_path l leaf hr)
  have HRR := Lib.hid hr
  have H := Lib.hid h
  obtain ⟨s, hs⟩ : ∃ s, (⟨(packL l leaf).toArray⟩ : ByteArray) = s := ⟨_, rfl⟩
  have HQ := Lib.hid (fun wx hx => rpack_any a n c l leaf hr hn wx hx)
  rw [hs] at HP HU HL HPa HQ
  clear hr hll h hs
  go_enter Try.func4, Try.ntmps4
  go_wp2_with fail
  refine HP.out.mono ?_
  rintro e w1 ⟨rfl, hb1⟩
  have H1 := Lib.hid (H.out.below hb1)
  have hR1 := rright_any a n c l w1 H1.out
  rw [HRR.out] at hR1
  have HR1 := Lib.hid hR1
  clear hR1
  go_wp2_with fail
  refine HR1.out.mono ?_
  rintro e w2 ⟨rfl, rfl⟩
  go_wp2_with fail
  refine (HU.out _).mono ?_
  rintro e w2 ⟨a2, n2, c2, rfl, hx2, hb2⟩
  rw [HL.out]
  rw [HPa.out] at hx2
  have H2 := Lib.hid (H1.out.below hb2)
  have HX2 := Lib.hid hx2
  have hbw2 := hb1.trans (hb2.mono hb1.size)
  clear hb1 hb2 hx2
  go_wp2_with fail
  refine (Na.awake_any _).mono ?_
  rintro e w3 ⟨rfl, hb3⟩
  have H3 := Lib.hid (H2.out.below hb3)
  have HX3 := Lib.hid (HX2.out.below hb3)
  have hbw3 := hbw2.trans (hb3.mono hbw2.size)
  clear hbw2 hb3
  go_wp2_with fail
  refine (HQ.out _ H3.out).mono ?_
  rintro e w4 ⟨rfl, hb4⟩
  have hcv1 := conv_bs (H3.out.below hb4)
  have hcv2 := conv_bs (HX3.out.below hb4)
  have hbw4 := hbw3.trans (hb4.mono hbw3.size)
  clear hbw3 hb4
  go_wp2
  go_ret
  exact ⟨rfl, hbw4⟩

theorem walk (a : Option Addr) (n c : Nat) (l : List UInt8) (leaf : Bool) (w : World) (h : IsBs w a n c l) :
    Calls Try.prog 4 #[.slice a n c, .bool leaf] w fun e w' => e = .returned (.bool true) ∧ Below w.heap.size w w' := by
  by_cases hbig : 200 < n
  · exact walk_big a n c leaf hbig w
  · by_cases hw : 64 < n ∨ rightB l = false
    · exact walk_wrong a n c l leaf (by omega) hw w h
    · exact walk_right a n c l leaf (by omega) (by cases hr : rightB l <;> simp_all) w h

set_option maxRecDepth 100000 in
theorem lifted (os : Os) (started : os.Started) (H : Type) (enc : TypeId × Value → H) :
    ReturnsInHanded {} Try.checked os 4 .any (Rows.nibPacksSpec.pre6 enc Try.prog Try.f4 Rows.nibPacksRow.domain false) (Rows.nibPacksSpec.post enc Try.prog Try.f4 false true false false) := by
  refine returnsInHanded_of_change (C := Try.checked) own started (by kernel_rfl) Try.func4
    (ChangeSpec.witness6 (enc := enc) (C := Try.checked) false ⟨#[], #[.slice none 0 0, .bool false], []⟩ 8 (by kernel_rfl) (by kernel_rfl) (by kernel_rfl) (by kernel_rfl)) ?_
  intro W base args ds gs before hval0 hW _ _
  have hval : ∀ (j : Nat) t v, Try.f4.params[j]? = some t → args[j]? = some v → Value.okWide Try.prog W .any base t v := hval0
  have hW' := hW
  obtain ⟨p, q, hA0, hV, rfl, hfz, hnd⟩ := hW
  have hA : DataW.TrodAll enc Try.prog W 0 (fun _ => true) true Try.f4.params.toList args.toList ds p := hA0
  rw [Try.params4] at hA hval
  obtain ⟨v0, vs0, d0, ds0, p0, q0, hargs, rfl, rfl, h0, r0⟩ := trodAll_cons hA
  obtain ⟨v1, vs1, d1, ds1, p1, q1, rfl, rfl, rfl, h1, r1⟩ := trodAll_cons r0
  obtain ⟨rfl, rfl, rfl⟩ := trodAll_nil r1
  obtain rfl : args = #[v0, v1] := by cases args; simp_all
  obtain ⟨rfl, rfl⟩ := trodVars_none hV
  have k0 := h0
  have lt0 : ∀ x ∈ p0, x.block < W.heap.size := by obtain ⟨m, hm⟩ := k0; exact DataW.trod_lt m _ _ _ hm
  obtain ⟨b0, len0, cap0, rfl⟩ := okWide_slice Try.underlying24 (hval 0 24 v0 rfl rfl)
  obtain ⟨l0, hl0⟩ := isBs_of Try.underlying24 Try.underlying5 (by kernel_rfl) h0
  have k1 := h1
  have lt1 : ∀ x ∈ p1, x.block < W.heap.size := by obtain ⟨m, hm⟩ := k1; exact DataW.trod_lt m _ _ _ hm
  obtain ⟨a1, rfl, hd1, hp1⟩ := open_bool Try.underlying4 (hval 1 4 v1 rfl rfl) h1
  clear hA0 hval0
  refine (walk b0 len0 cap0 l0 a1 W hl0).mono fun e W' ⟨he, bel⟩ => ?_
  subst he
  exact ⟨_, rfl, _, _, _, [], _, [], hW', trodAll_mk1 (shut_bool Try.underlying4 _), (trodAll_cons_mk (Below.trod laidOut (by kernel_rfl) (of_decide_eq_true (by kernel_rfl)) k0 bel lt0) (trodAll_cons_mk (Below.trod laidOut (by kernel_rfl) (of_decide_eq_true (by kernel_rfl)) k1 bel lt1) trodAll_mk0)), rfl, bel.frame _, fun h => by cases h⟩

theorem over : Rows.nibPacksRow.holds Try.pinned (OpenSpec.ofChange Rows.nibPacksSpec) :=
  OpenClaim.holds_of_wide 4 Try.f4 rfl rfl rfl rfl rfl rfl rfl ⟨rfl, rfl, rfl, rfl, rfl⟩ rfl rfl rfl rfl rfl (by kernel_rfl) Try.func4 (by kernel_rfl)
    (of_decide_eq_true (by kernel_rfl)) (by unfold Func.isWrapper; first | (rw [if_pos (by decide +kernel)]; kernel_rfl) | (rw [if_neg (by decide +kernel)]; exact ⟨rfl, rfl⟩))
    (fun os started H enc _ => lifted os started H enc)

theorem proved : Rows.NibPacksSaid := over

end Go.Proofs.Ytihgiflhjhoghaa.nibPacks
