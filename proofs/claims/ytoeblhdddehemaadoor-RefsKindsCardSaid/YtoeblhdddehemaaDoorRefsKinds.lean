/-
  RefsKinds: what any reference is, and the nodes within any node, are what the plain answer gives; for every text (of more than 200 bytes, or bytes of more than 1000: the law asks what comes at any rate). The table of the rounds' numbers holds what the program's text lays.
-/
import Derived.Test.YtoeblhdddehemaaDoorMg28
import Derived.Test.YtoeblhdddehemaaDoorMg33
import Derived.Test.YtoeblhdddehemaaDoorMg25
import Derived.Test.YtoeblhdddehemaaDoorMg6
import Derived.Test.YtoeblhdddehemaaDoorTie
import Derived.Test.YtoeblhdddehemaaDoorCards
import Derived.SevenTiedAt
import Derived.ChangeOld
import Derived.Below
namespace Go.Proofs.YtoeblhdddehemaaDoor.refsKinds
open Go.ChangeShapes Go.WideShapes Go.ChangeAt Go.RowKit
open Go.ChangeMaps (open_string shut_string)
open Sh Sm Rf Rl Ni No

theorem own : ownKnob Tryd.prog.godebug = none := by kernel_rfl
theorem laidOut : laidOutB Tryd.prog = true := by kernel_rfl

set_option maxRecDepth 100000 in
set_option maxHeartbeats 8000000 in
theorem walk_none (r s : ByteArray) (hr : r.size ≤ 200) (hs : s.size ≤ 1000) (h : r.size = 0) (w : World) (hT : Tab w) :
    Calls Tryd.prog 4 #[.string r, .string s] w fun e w' => e = .returned (.bool true) ∧ Below w.heap.size w w' := by
  have h0 := hT.pos
  have HT := Lib.hid hT
  have HB0 : Hid (Below w.heap.size w w) := Lib.hid (Below.refl _ _)
  have HAw := Lib.hid rawake_any
  have HKi := Lib.hid (fun W => kind_any r (by unfold maxLen; omega) W)
  have HAl := Lib.hid (fall_any s (by omega))
  have HRa := Lib.hid (rall_any s (by omega))
  have HRe := Lib.hid (rrefs_any r (by omega))
  unfold Rf.AllC GotAll at HAl
  unfold RAllC GotAll at HRa
  unfold RRefC at HRe
  obtain ⟨P, hP⟩ : ∃ P, allP s.data.toList = P := ⟨_, rfl⟩
  rw [hP] at HAl HRa
  obtain rfl := size_zero h
  rw [kind_e] at HKi
  clear hT hP
  go_enter Tryd.func4, Tryd.ntmps4
  go_wp2_with fail
  refine (HAw.out _ (HT.out.below HB0.out h0)).mono ?_
  rintro e w20 ⟨rfl, hb⟩
  have HB20 := Lib.hid (below_step' HB0.out hb)
  clear hb
  go_wp2_with fail
  refine (HKi.out _).mono ?_
  rintro e w21 ⟨rfl, hb⟩
  have HB21 := Lib.hid (below_step' HB20.out hb)
  clear hb
  go_wp2_with fail
  refine (HAl.out w21).mono ?_
  rintro e w22 ⟨a1, n1, c1, rfl, hs1, _, hb⟩
  have HS1 := Lib.hid hs1
  have HB22 := Lib.hid (below_step' HB21.out hb)
  clear hb hs1
  go_wp2_with fail
  refine (HRa.out w22).mono ?_
  rintro e w23 ⟨a2, n2, c2, rfl, hs2, _, hb⟩
  have HSm := Lib.hid (rsameSt_any a1 a2 n1 n2 c1 c2 _ _ w23 (HS1.out.below hb) hs2)
  rw [sameB_true rfl] at HSm
  have HB23 := Lib.hid (below_step' HB22.out hb)
  clear hb hs2 HS1
  go_wp2_with fail
  refine (HSm.out).mono ?_
  rintro e w24 ⟨rfl, hb⟩
  have HB24 := Lib.hid (below_step' HB23.out hb)
  clear hb
  go_wp2
  go_ret
  exact ⟨rfl, HB24.out⟩
set_option maxRecDepth 100000 in
set_option maxHeartbeats 8000000 in
theorem walk_sum (r s : ByteArray) (_ : r.size ≤ 200) (hs : s.size ≤ 1000) (h : r.size = 32) (w : World) (hT : Tab w) :
    Calls Tryd.prog 4 #[.string r, .string s] w fun e w' => e = .returned (.bool true) ∧ Below w.heap.size w w' := by
  have h0 := hT.pos
  have HT := Lib.hid hT
  have HB0 : Hid (Below w.heap.size w w) := Lib.hid (Below.refl _ _)
  have HAw := Lib.hid rawake_any
  have HKi := Lib.hid (fun W => kind_any r (by unfold maxLen; omega) W)
  have HAl := Lib.hid (fall_any s (by omega))
  have HRa := Lib.hid (rall_any s (by omega))
  have HRe := Lib.hid (rrefs_any r (by omega))
  unfold Rf.AllC GotAll at HAl
  unfold RAllC GotAll at HRa
  unfold RRefC at HRe
  obtain ⟨P, hP⟩ : ∃ P, allP s.data.toList = P := ⟨_, rfl⟩
  rw [hP] at HAl HRa
  have hne := Ni.not_empty (s := r) (by omega)
  have hF : refP r = true := by unfold refP; rw [show plainB r = true from decide_eq_true (.inr h)]; rfl
  have hK : kindP r = 1 := by unfold kindP; rw [if_neg (by omega), if_pos h]
  have hq : ((r.size : Int) == 32) = true := by rw [h]; rfl
  rw [hF] at HRe
  rw [hK] at HKi
  clear hF hK
  clear hT hP
  go_enter Tryd.func4, Tryd.ntmps4
  go_wp2_with fail
  refine (HRe.out w).mono ?_
  rintro e w1 ⟨rfl, hb⟩
  have HB1 := Lib.hid (below_step' HB0.out hb)
  clear hb
  go_wp2_with fail
  refine (HAw.out _ (HT.out.below HB1.out h0)).mono ?_
  rintro e w20 ⟨rfl, hb⟩
  have HB20 := Lib.hid (below_step' HB1.out hb)
  clear hb
  go_wp2_with fail
  refine (HKi.out _).mono ?_
  rintro e w21 ⟨rfl, hb⟩
  have HB21 := Lib.hid (below_step' HB20.out hb)
  clear hb
  go_wp2_with fail
  refine (HAl.out w21).mono ?_
  rintro e w22 ⟨a1, n1, c1, rfl, hs1, _, hb⟩
  have HS1 := Lib.hid hs1
  have HB22 := Lib.hid (below_step' HB21.out hb)
  clear hb hs1
  go_wp2_with fail
  refine (HRa.out w22).mono ?_
  rintro e w23 ⟨a2, n2, c2, rfl, hs2, _, hb⟩
  have HSm := Lib.hid (rsameSt_any a1 a2 n1 n2 c1 c2 _ _ w23 (HS1.out.below hb) hs2)
  rw [sameB_true rfl] at HSm
  have HB23 := Lib.hid (below_step' HB22.out hb)
  clear hb hs2 HS1
  go_wp2_with fail
  refine (HSm.out).mono ?_
  rintro e w24 ⟨rfl, hb⟩
  have HB24 := Lib.hid (below_step' HB23.out hb)
  clear hb
  go_wp2
  go_ret
  exact ⟨rfl, HB24.out⟩
set_option maxRecDepth 100000 in
set_option maxHeartbeats 8000000 in
theorem walk_own (r s : ByteArray) (hr : r.size ≤ 200) (hs : s.size ≤ 1000) (h0' : r.size ≠ 0) (h : r.size ≠ 32) (hF : refP r = true) (w : World) (hT : Tab w) :
    Calls Tryd.prog 4 #[.string r, .string s] w fun e w' => e = .returned (.bool true) ∧ Below w.heap.size w w' := by
  have h0 := hT.pos
  have HT := Lib.hid hT
  have HB0 : Hid (Below w.heap.size w w) := Lib.hid (Below.refl _ _)
  have HAw := Lib.hid rawake_any
  have HKi := Lib.hid (fun W => kind_any r (by unfold maxLen; omega) W)
  have HAl := Lib.hid (fall_any s (by omega))
  have HRa := Lib.hid (rall_any s (by omega))
  have HRe := Lib.hid (rrefs_any r (by omega))
  unfold Rf.AllC GotAll at HAl
  unfold RAllC GotAll at HRa
  unfold RRefC at HRe
  obtain ⟨P, hP⟩ : ∃ P, allP s.data.toList = P := ⟨_, rfl⟩
  rw [hP] at HAl HRa
  have hne := Ni.not_empty (s := r) (by omega)
  have hK : kindP r = 2 := by unfold kindP; rw [if_neg h0', if_neg h, if_pos hF]
  have hq : ((r.size : Int) == 32) = false := by simp; omega
  rw [hF] at HRe
  rw [hK] at HKi
  clear hF hK h0' h
  clear hT hP
  go_enter Tryd.func4, Tryd.ntmps4
  go_wp2_with fail
  refine (HRe.out w).mono ?_
  rintro e w1 ⟨rfl, hb⟩
  have HB1 := Lib.hid (below_step' HB0.out hb)
  clear hb
  go_wp2_with fail
  refine (HRe.out w1).mono ?_
  rintro e w2 ⟨rfl, hb⟩
  have HB2 := Lib.hid (below_step' HB1.out hb)
  clear hb
  go_wp2_with fail
  refine (HAw.out _ (HT.out.below HB2.out h0)).mono ?_
  rintro e w20 ⟨rfl, hb⟩
  have HB20 := Lib.hid (below_step' HB2.out hb)
  clear hb
  go_wp2_with fail
  refine (HKi.out _).mono ?_
  rintro e w21 ⟨rfl, hb⟩
  have HB21 := Lib.hid (below_step' HB20.out hb)
  clear hb
  go_wp2_with fail
  refine (HAl.out w21).mono ?_
  rintro e w22 ⟨a1, n1, c1, rfl, hs1, _, hb⟩
  have HS1 := Lib.hid hs1
  have HB22 := Lib.hid (below_step' HB21.out hb)
  clear hb hs1
  go_wp2_with fail
  refine (HRa.out w22).mono ?_
  rintro e w23 ⟨a2, n2, c2, rfl, hs2, _, hb⟩
  have HSm := Lib.hid (rsameSt_any a1 a2 n1 n2 c1 c2 _ _ w23 (HS1.out.below hb) hs2)
  rw [sameB_true rfl] at HSm
  have HB23 := Lib.hid (below_step' HB22.out hb)
  clear hb hs2 HS1
  go_wp2_with fail
  refine (HSm.out).mono ?_
  rintro e w24 ⟨rfl, hb⟩
  have HB24 := Lib.hid (below_step' HB23.out hb)
  clear hb
  go_wp2
  go_ret
  exact ⟨rfl, HB24.out⟩
set_option maxRecDepth 100000 in
set_option maxHeartbeats 8000000 in
theorem walk_no (r s : ByteArray) (hr : r.size ≤ 200) (hs : s.size ≤ 1000) (h0' : r.size ≠ 0) (h : r.size ≠ 32) (hF : refP r = false) (w : World) (hT : Tab w) :
    Calls Tryd.prog 4 #[.string r, .string s] w fun e w' => e = .returned (.bool true) ∧ Below w.heap.size w w' := by
  have h0 := hT.pos
  have HT := Lib.hid hT
  have HB0 : Hid (Below w.heap.size w w) := Lib.hid (Below.refl _ _)
  have HAw := Lib.hid rawake_any
  have HKi := Lib.hid (fun W => kind_any r (by unfold maxLen; omega) W)
  have HAl := Lib.hid (fall_any s (by omega))
  have HRa := Lib.hid (rall_any s (by omega))
  have HRe := Lib.hid (rrefs_any r (by omega))
  unfold Rf.AllC GotAll at HAl
  unfold RAllC GotAll at HRa
  unfold RRefC at HRe
  obtain ⟨P, hP⟩ : ∃ P, allP s.data.toList = P := ⟨_, rfl⟩
  rw [hP] at HAl HRa
  have hne := Ni.not_empty (s := r) (by omega)
  have hK : kindP r = 3 := by unfold kindP; rw [if_neg h0', if_neg h, if_neg (by rw [hF]; decide)]
  have hq : ((r.size : Int) == 32) = false := by simp; omega
  rw [hF] at HRe
  rw [hK] at HKi
  clear hF hK h0' h
  clear hT hP
  go_enter Tryd.func4, Tryd.ntmps4
  go_wp2_with fail
  refine (HRe.out w).mono ?_
  rintro e w1 ⟨rfl, hb⟩
  have HB1 := Lib.hid (below_step' HB0.out hb)
  clear hb
  go_wp2_with fail
  refine (HRe.out w1).mono ?_
  rintro e w2 ⟨rfl, hb⟩
  have HB2 := Lib.hid (below_step' HB1.out hb)
  clear hb
  go_wp2_with fail
  refine (HAw.out _ (HT.out.below HB2.out h0)).mono ?_
  rintro e w20 ⟨rfl, hb⟩
  have HB20 := Lib.hid (below_step' HB2.out hb)
  clear hb
  go_wp2_with fail
  refine (HKi.out _).mono ?_
  rintro e w21 ⟨rfl, hb⟩
  have HB21 := Lib.hid (below_step' HB20.out hb)
  clear hb
  go_wp2_with fail
  refine (HAl.out w21).mono ?_
  rintro e w22 ⟨a1, n1, c1, rfl, hs1, _, hb⟩
  have HS1 := Lib.hid hs1
  have HB22 := Lib.hid (below_step' HB21.out hb)
  clear hb hs1
  go_wp2_with fail
  refine (HRa.out w22).mono ?_
  rintro e w23 ⟨a2, n2, c2, rfl, hs2, _, hb⟩
  have HSm := Lib.hid (rsameSt_any a1 a2 n1 n2 c1 c2 _ _ w23 (HS1.out.below hb) hs2)
  rw [sameB_true rfl] at HSm
  have HB23 := Lib.hid (below_step' HB22.out hb)
  clear hb hs2 HS1
  go_wp2_with fail
  refine (HSm.out).mono ?_
  rintro e w24 ⟨rfl, hb⟩
  have HB24 := Lib.hid (below_step' HB23.out hb)
  clear hb
  go_wp2
  go_ret
  exact ⟨rfl, HB24.out⟩
theorem walk_big (r s : ByteArray) (hr : r.size ≤ maxLen) (hs : s.size ≤ maxLen) (h : 200 < r.size ∨ 1000 < s.size) (w : World) (hT : Tab w) :
    Calls Tryd.prog 4 #[.string r, .string s] w fun e w' => e = .returned (.bool true) ∧ Below w.heap.size w w' := by
  have HA := Lib.hid (rawake_any w hT)
  unfold maxLen at hr hs
  by_cases h1 : 200 < r.size
  · clear hT h
    go_enter Tryd.func4, Tryd.ntmps4
    go_wp2_with fail
    refine HA.out.mono ?_
    rintro e w1 ⟨rfl, hb1⟩
    go_wp2
    go_ret
    exact ⟨rfl, hb1⟩
  · have h2 : 1000 < s.size := by omega
    clear hT h
    go_enter Tryd.func4, Tryd.ntmps4
    go_wp2_with fail
    refine HA.out.mono ?_
    rintro e w1 ⟨rfl, hb1⟩
    go_wp2
    go_ret
    exact ⟨rfl, hb1⟩
theorem walk (r s : ByteArray) (hr : r.size ≤ maxLen) (hs : s.size ≤ maxLen) (w : World) (hT : Tab w) :
    Calls Tryd.prog 4 #[.string r, .string s] w fun e w' => e = .returned (.bool true) ∧ Below w.heap.size w w' := by
  by_cases h1 : 200 < r.size
  · exact walk_big r s hr hs (.inl h1) w hT
  by_cases h2 : 1000 < s.size
  · exact walk_big r s hr hs (.inr h2) w hT
  by_cases h3 : r.size = 0
  · exact walk_none r s (by omega) (by omega) h3 w hT
  by_cases h4 : r.size = 32
  · exact walk_sum r s (by omega) (by omega) h4 w hT
  cases hF : refP r with
  | true => exact walk_own r s (by omega) (by omega) h3 h4 hF w hT
  | false => exact walk_no r s (by omega) (by omega) h3 h4 hF w hT

/-- the door's own heap meets the row's condition -/
theorem door_met (os : Os) (args : Array Value) : laidMetH Tryd.prog [("dormouse/sum.rounds", Rows.laid_dormouse_sum_rounds)] ((World.doorLaid Tryd.prog 400 os).forCall (fun _ _ => 0) ⟨#[], args, []⟩).memory :=
  laidMetH_of_parts3 (fuel := 8) (laidMet_of_run' 8 (by kernel_rfl) (by kernel_rfl)) (by kernel_rfl) (by kernel_rfl)

set_option maxRecDepth 100000 in
theorem lifted (os : Os) (started : os.Started) (H : Type) (enc : TypeId × Value → H) :
    ReturnsInHanded {} Tryd.checked os 4 .any (fun w args => (Rows.refsKindsSpec.pre enc Tryd.prog Tryd.f4 [] false w args ∧ laidMetH Tryd.prog [("dormouse/sum.rounds", Rows.laid_dormouse_sum_rounds)] w) ∧ sizedMet enc Tryd.prog Tryd.f4 (OpenSpec.ofChange Rows.refsKindsSpec) false w args)
      (Rows.refsKindsSpec.post enc Tryd.prog Tryd.f4 false true false false) := by
  refine returnsInHanded_of_change_and (C := Tryd.checked) (X := fun w _ => laidMetH Tryd.prog [("dormouse/sum.rounds", Rows.laid_dormouse_sum_rounds)] w) (fun _ _ _ hh h => h.of_heap hh) own started (by kernel_rfl) Tryd.func4
    (ChangeSpec.witness_shaped (enc := enc) (C := Tryd.checked) (os := os) (X := fun w _ => laidMetH Tryd.prog [("dormouse/sum.rounds", Rows.laid_dormouse_sum_rounds)] w) false (World.doorLaid Tryd.prog 400 os) #[.string ⟨#[]⟩, .string ⟨#[]⟩] 8 rfl (World.shaped_of_RefB (by kernel_rfl) (by kernel_rfl)) (by kernel_rfl) (by kernel_rfl) (by kernel_rfl) (door_met os _)) ?_
  intro W base args ds gs before hval0 hW _ _ hL _
  have hval : ∀ (j : Nat) t v, Tryd.f4.params[j]? = some t → args[j]? = some v → Value.okWide Tryd.prog W .any base t v := hval0
  have hW' := hW
  obtain ⟨p, q, hA0, hV, rfl, hfz, hnd⟩ := hW
  have hA : DataW.TrodAll enc Tryd.prog W 0 (fun _ => true) true Tryd.f4.params.toList args.toList ds p := hA0
  rw [Tryd.params4] at hA hval
  obtain ⟨v0, vs0, d0, ds0, p0, q0, hargs, rfl, rfl, h0, r0⟩ := trodAll_cons hA
  obtain ⟨v1, vs1, d1, ds1, p1, q1, rfl, rfl, rfl, h1, r1⟩ := trodAll_cons r0
  obtain ⟨rfl, rfl, rfl⟩ := trodAll_nil r1
  obtain rfl : args = #[v0, v1] := by cases args; simp_all
  obtain ⟨rfl, rfl⟩ := trodVars_none hV
  have k0 := h0
  have lt0 : ∀ x ∈ p0, x.block < W.heap.size := by obtain ⟨m, hm⟩ := k0; exact DataW.trod_lt m _ _ _ hm
  obtain ⟨a0, rfl, hd0, hp0, w0⟩ := open_string Tryd.underlying9 (hval 0 9 v0 rfl rfl) h0
  have k1 := h1
  have lt1 : ∀ x ∈ p1, x.block < W.heap.size := by obtain ⟨m, hm⟩ := k1; exact DataW.trod_lt m _ _ _ hm
  obtain ⟨a1, rfl, hd1, hp1, w1⟩ := open_string Tryd.underlying9 (hval 1 9 v1 rfl rfl) h1
  clear hA0 hval0
  refine (walk a0 a1 w0 w1 W (tab_of_laid hL)).mono fun e W' ⟨he, bel⟩ => ?_
  subst he
  exact ⟨_, rfl, _, _, _, [], _, [], hW', trodAll_mk1 (shut_bool Tryd.underlying4 _), (trodAll_cons_mk (Below.trod laidOut (by kernel_rfl) (of_decide_eq_true (by kernel_rfl)) k0 bel lt0) (trodAll_cons_mk (Below.trod laidOut (by kernel_rfl) (of_decide_eq_true (by kernel_rfl)) k1 bel lt1) trodAll_mk0)), rfl, bel.frame _, fun h => by cases h⟩

theorem over : Rows.refsKindsRow.holds Tryd.pinned (OpenSpec.ofChange Rows.refsKindsSpec) :=
  OpenClaim.holds_of_wide 4 Tryd.f4 rfl rfl rfl rfl rfl rfl rfl ⟨rfl, rfl, rfl, rfl, rfl⟩ rfl rfl rfl rfl rfl (by kernel_rfl) Tryd.func4 (by kernel_rfl)
    (of_decide_eq_true (by kernel_rfl)) (by unfold Func.isWrapper; first | (rw [if_pos (by decide +kernel)]; kernel_rfl) | (rw [if_neg (by decide +kernel)]; exact ⟨rfl, rfl⟩))
    (fun os started H enc _ => lifted os started H enc)

theorem proved : Rows.RefsKindsCardSaid :=
  Claim7.holds_tied_plain_at .later [] [.data] true Rows.refsKindsCard.stood.harness true
    over (fun _ h => by cases h) (by kernel_rfl) (fun _ h => by cases h) refsKinds_row_tie rfl ⟨rfl, rfl⟩ (by kernel_rfl) rfl
    (fun f fn hf hfn => by
      obtain rfl : f = 4 := Option.some.inj ((show Tryd.prog.funcNamed "dormouse/dormouselaw07.RefsKinds" = some 4 by kernel_rfl).symm.trans hf) |>.symm
      obtain rfl : fn = Tryd.f4 := (Option.some.inj (Tryd.func4.symm.trans hfn)).symm
      exact ⟨by kernel_rfl, fun j t ht => by
        rw [Tryd.params4] at ht
        have hm : t ∈ [9, 9] := by simpa using Array.mem_of_getElem? ht
        have hall : ([9, 9].all fun u => !Tryd.prog.wantsStandIn u) = true := by kernel_rfl
        exact (show Tryd.prog.wantsStandIn t = false by simpa using List.all_eq_true.1 hall t hm)⟩)
    (by kernel_rfl)

end Go.Proofs.YtoeblhdddehemaaDoor.refsKinds
