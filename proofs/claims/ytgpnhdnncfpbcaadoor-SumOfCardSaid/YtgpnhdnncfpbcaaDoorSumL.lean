/-
  SumOf: the sum of any text is what the plain answer gives, and the sum of any texts within a text likewise; for every text and every list of texts (of more than 300 bytes, more than 6 texts, or a text of more than 60 bytes: the law asks what comes at any rate). The table of the rounds' numbers holds what the program's text lays into it (the card's tie).
-/
import Derived.Test.YtgpnhdnncfpbcaaDoorSumK
import Derived.Test.YtgpnhdnncfpbcaaDoorTie
import Derived.Test.YtgpnhdnncfpbcaaDoorCards
import Derived.SevenTiedAt
import Derived.ChangeOld
import Derived.Below
namespace Go.Proofs.YtgpnhdnncfpbcaaDoor.sumOf
open Go.ChangeShapes Go.WideShapes Go.ChangeAt Go.RowKit
open Go.ChangeMaps (open_string shut_string)
open WideP Tx Sh Sm

theorem own : ownKnob Tryd.prog.godebug = none := by kernel_rfl
theorem laidOut : laidOutB Tryd.prog = true := by kernel_rfl

theorem ba_eta (x : ByteArray) : (⟨x.data.toList.toArray⟩ : ByteArray) = x := by
  apply ByteArray.ext; simp
theorem textsL_len (xs : List ByteArray) (h : ∀ x ∈ xs, x.size ≤ 60) : (textsL xs).length ≤ 64 * xs.length := by
  induction xs with
  | nil => simp [textsL]
  | cons x xs ih =>
    have := ih fun y hy => h y (List.mem_cons_of_mem _ hy)
    have hx := h x List.mem_cons_self
    have e : textsL (x :: xs) = numL x.size 4 ++ x.data.toList ++ textsL xs := by simp [textsL]
    have hn : (numL x.size 4).length = 4 := numL_length _ _
    have hl : x.data.toList.length = x.size := by simp
    rw [e, List.length_append, List.length_append, hn, hl, List.length_cons]
    omega
theorem rof_str (s : ByteArray) (hs : s.size ≤ 900000) (w : World) :
    Calls Tryd.prog 9 #[.string s] w fun e w' => e = .returned (.string ⟨(sumL s.data.toList).toArray⟩) ∧ Below w.heap.size w w' := by
  have h := rof_any s.data.toList (by simpa using hs) w
  rw [ba_eta] at h
  exact h

set_option maxRecDepth 100000 in
set_option maxHeartbeats 8000000 in
theorem walk (s : ByteArray) (a : Option Addr) (len cap : Nat) (xs : List ByteArray) (w : World) (hsm : s.size ≤ maxLen) (hl : IsStrs w a len cap xs) (hT : Tab w) :
    Calls Tryd.prog 3 #[.string s, .slice a len cap] w fun e w' => e = .returned (.bool true) ∧ Below w.heap.size w w' := by
  obtain ⟨hlc, hcm, hxl, hcell⟩ := hl
  unfold maxLen at hcm hsm
  have h0 := hT.pos
  have HT := Lib.hid hT
  have HC := Lib.hid hcell
  have HX := Lib.hid hxl
  clear hcell hxl hT
  go_enter Tryd.func3, Tryd.ntmps3
  by_cases h300 : 300 < s.size
  · go_wp2_with fail
    refine (awake_any _ HT.out).mono ?_
    rintro e w1 ⟨rfl, hb1⟩
    go_wp2
    go_ret
    exact ⟨rfl, hb1⟩
  by_cases h6 : 6 < len
  · go_wp2_with fail
    refine (awake_any _ HT.out).mono ?_
    rintro e w1 ⟨rfl, hb1⟩
    go_wp2
    go_ret
    exact ⟨rfl, hb1⟩
  go_wp2_with fail
  go_loopw [5, 6] (fun t i wr => ∃ j : Nat, j ≤ len ∧ i = .int .i64 j ∧ t = .string ⟨(textsL (xs.take j)).toArray⟩ ∧ Hid (∀ q, q < j → (xs.getD q ByteArray.empty).size ≤ 60) ∧ Below w.heap.size w wr) (fun _ i _ => len - (intOf i).toNat)
  case atStart => exact ⟨0, Nat.zero_le _, rfl, rfl, Lib.hid (fun q hq => absurd hq (Nat.not_lt_zero _)), Below.refl _ _⟩
  case round =>
    obtain ⟨j, hj, rfl, rfl, HQ, hb⟩ := hrel
    have hlen : (textsL (xs.take j)).length ≤ 384 := by
      have h := textsL_len (xs.take j) (fun x hx => by
        obtain ⟨q, hq, rfl⟩ := List.getElem_of_mem hx
        have hq' : q < j ∧ q < xs.length := by simp at hq; omega
        have := HQ.out q hq'.1
        simpa [List.getD, hq'.2] using this)
      have h2 : (xs.take j).length ≤ 6 := by rw [List.length_take]; omega
      omega
    by_cases hlt : j < len
    · obtain ⟨b, off, rfl, hbs, hc0, hmx⟩ := HC.out j hlt
      obtain ⟨x, hx⟩ : ∃ x, xs.getD j ByteArray.empty = x := ⟨_, rfl⟩
      have HTk := Lib.hid (textsL_take xs j (by rw [HX.out]; exact hlt))
      rw [hx] at hc0 hmx HTk
      have HXX := Lib.hid hx
      clear hx
      unfold maxLen at hmx
      have hc : wr.cell? ⟨b, off + j, none⟩ = some (.string x) := by rw [hb.cell (p := ⟨b, off + j, none⟩) hbs]; exact hc0
      clear hc0
      by_cases hbig : 60 < x.size
      · go_wp2_with fail
        refine (awake_any _ (HT.out.below hb h0)).mono ?_
        rintro e w1 ⟨rfl, hb1⟩
        go_wp2
        go_ret
        exact ⟨rfl, hb.trans (hb1.mono hb.size)⟩
      · have hx60 : x.size ≤ 60 := by omega
        have hnl : (numL x.size 4).length = 4 := numL_length _ _
        have hxl : x.data.toList.length = x.size := by simp
        have hl2 : (numL x.size 4 ++ x.data.toList).length ≤ 64 := by rw [List.length_append, hnl, hxl]; omega
        have HB := Lib.hid (ba_append (textsL (xs.take j)) (numL x.size 4 ++ x.data.toList))
        obtain ⟨z, hz⟩ : ∃ z, z = numL x.size 4 ++ x.data.toList := ⟨_, rfl⟩
        have hTx := Rx.text_any x wr (by omega)
        rw [← hz] at hl2 HB HTk hTx
        have HZ := Lib.hid hTx
        clear hnl hxl hbig hz hTx
        go_wp2_with fail
        refine HZ.out.mono ?_
        rintro e w1 ⟨rfl, hb1⟩
        go_wp2
        go_roundw
        case rel =>
          refine ⟨j + 1, by omega, by go_num, ?_, Lib.hid ?_, hb.trans (hb1.mono hb.size)⟩
          · rw [HB.out, HTk.out]
          · intro q hq
            by_cases e : q = j
            · subst e; rw [HXX.out]; exact hx60
            · exact HQ.out q (by omega)
        case measure => simp [intOf]; omega
    · obtain rfl : j = len := by omega
      have htk : xs.take j = xs := List.take_of_length_le (by rw [HX.out]; exact Nat.le_refl _)
      rw [htk] at hlen ⊢
      have HP : Hid (∀ wx, Below w.heap.size w wx → Calls Tryd.prog 10 #[.slice a j cap] wx fun e w' => e = .returned (.agg (kc (sumL (textsL xs)))) ∧ Below wx.heap.size wx w') := Lib.hid (fun wx hx => by
        refine parts_any a j cap xs wx HX.out (by unfold maxLen; omega) (fun q hq => ?_) (fun q hq => ?_) (by omega) (HT.out.below hx h0)
        · obtain ⟨b, off, h1, h2, h3, _⟩ := HC.out q hq
          exact ⟨b, off, h1, Nat.lt_of_lt_of_le h2 hx.size, by rw [hx.cell (p := ⟨b, off + q, none⟩) h2]; exact h3⟩
        · have := HQ.out q hq; omega)
      have HRs := Lib.hid (fun W => rsum_any (textsL xs) (by omega) W)
      have HKp := Lib.hid (sumL_length (textsL xs))
      have HKs := Lib.hid (sumL_length s.data.toList)
      have HOf := Lib.hid (fun W (h : Tab W) => of_any s (by omega) W h)
      have HRo := Lib.hid (fun W => rof_str s (by omega) W)
      obtain ⟨T, hTT⟩ : ∃ T, (⟨(textsL xs).toArray⟩ : ByteArray) = T := ⟨_, rfl⟩
      rw [hTT] at HRs ⊢
      obtain ⟨Kp, hKp⟩ : ∃ K, sumL (textsL xs) = K := ⟨_, rfl⟩
      rw [hKp] at HP HRs HKp
      obtain ⟨Ks, hKs⟩ : ∃ K, sumL s.data.toList = K := ⟨_, rfl⟩
      rw [hKs] at HOf HRo HKs
      have HTs := Lib.hid (fun W => text_any Ks HKs.out W)
      obtain ⟨S, hS⟩ : ∃ S, (⟨Ks.toArray⟩ : ByteArray) = S := ⟨_, rfl⟩
      rw [hS] at HRo HTs
      clear hTT hKp hKs hS htk hlt hj hlen HC HQ HX h300 h6
      go_wp2_with fail
      refine (awake_any _ (HT.out.below hb h0)).mono ?_
      rintro e w1 ⟨rfl, hb1⟩
      have hB1 := hb.trans (hb1.mono hb.size)
      have hT1 := HT.out.below hB1 h0
      clear hb1 hb
      go_wp2_with fail
      refine (HOf.out _ hT1).mono ?_
      rintro e w2 ⟨rfl, hb2⟩
      have hB2 := hB1.trans (hb2.mono hB1.size)
      clear hb2 hB1 hT1
      go_wp2_with fail
      refine (HTs.out _).mono ?_
      rintro e w3 ⟨rfl, hb3⟩
      have hB3 := hB2.trans (hb3.mono hB2.size)
      clear hb3 hB2
      go_wp2_with fail
      refine (HRo.out _).mono ?_
      rintro e w4 ⟨rfl, hb4⟩
      have hB4 := hB3.trans (hb4.mono hB3.size)
      clear hb4 hB3
      go_wp2_with fail
      refine (HP.out _ hB4).mono ?_
      rintro e w5 ⟨rfl, hb5⟩
      have hB5 := hB4.trans (hb5.mono hB4.size)
      clear hb5 hB4
      go_wp2_with fail
      refine (HRs.out _).mono ?_
      rintro e w6 ⟨rfl, hb6⟩
      have hB6 := hB5.trans (hb6.mono hB5.size)
      clear hb6 hB5
      go_wp2_with (refine Rg.runW (by rfl) _ _ (run_eql_op _ _ Kp HKp.out _ ⟨_, _, rfl, rfl, rfl⟩) ?_)
      go_ret
      exact ⟨rfl, hB6⟩

/-- the door's own heap meets the row's condition -/
theorem door_met (os : Os) (args : Array Value) : laidMetH Tryd.prog [("dormouse/sum.rounds", Rows.laid_dormouse_sum_rounds)] ((World.doorLaid Tryd.prog 400 os).forCall (fun _ _ => 0) ⟨#[], args, []⟩).memory :=
  laidMetH_of_parts3 (fuel := 8) (laidMet_of_run' 8 (by kernel_rfl) (by kernel_rfl)) (by kernel_rfl) (by kernel_rfl)

set_option maxRecDepth 100000 in
theorem lifted (os : Os) (started : os.Started) (H : Type) (enc : TypeId × Value → H) :
    ReturnsInHanded {} Tryd.checked os 3 .any (fun w args => (Rows.sumOfSpec.pre enc Tryd.prog Tryd.f3 [] false w args ∧ laidMetH Tryd.prog [("dormouse/sum.rounds", Rows.laid_dormouse_sum_rounds)] w) ∧ sizedMet enc Tryd.prog Tryd.f3 (OpenSpec.ofChange Rows.sumOfSpec) false w args)
      (Rows.sumOfSpec.post enc Tryd.prog Tryd.f3 false true false false) := by
  refine returnsInHanded_of_change_and (C := Tryd.checked) (X := fun w _ => laidMetH Tryd.prog [("dormouse/sum.rounds", Rows.laid_dormouse_sum_rounds)] w) (fun _ _ _ hh h => h.of_heap hh) own started (by kernel_rfl) Tryd.func3
    (ChangeSpec.witness_shaped (enc := enc) (C := Tryd.checked) (os := os) (X := fun w _ => laidMetH Tryd.prog [("dormouse/sum.rounds", Rows.laid_dormouse_sum_rounds)] w) false (World.doorLaid Tryd.prog 400 os) #[.string ⟨#[]⟩, .slice none 0 0] 8 rfl (World.shaped_of_RefB (by kernel_rfl) (by kernel_rfl)) (by kernel_rfl) (by kernel_rfl) (by kernel_rfl) (door_met os _)) ?_
  intro W base args ds gs before hval0 hW _ _ hL _
  have hval : ∀ (j : Nat) t v, Tryd.f3.params[j]? = some t → args[j]? = some v → Value.okWide Tryd.prog W .any base t v := hval0
  have hW' := hW
  obtain ⟨p, q, hA0, hV, rfl, hfz, hnd⟩ := hW
  have hA : DataW.TrodAll enc Tryd.prog W 0 (fun _ => true) true Tryd.f3.params.toList args.toList ds p := hA0
  rw [Tryd.params3] at hA hval
  obtain ⟨v0, vs0, d0, ds0, p0, q0, hargs, rfl, rfl, h0, r0⟩ := trodAll_cons hA
  obtain ⟨v1, vs1, d1, ds1, p1, q1, rfl, rfl, rfl, h1, r1⟩ := trodAll_cons r0
  obtain ⟨rfl, rfl, rfl⟩ := trodAll_nil r1
  obtain rfl : args = #[v0, v1] := by cases args; simp_all
  obtain ⟨rfl, rfl⟩ := trodVars_none hV
  have k0 := h0
  have lt0 : ∀ x ∈ p0, x.block < W.heap.size := by obtain ⟨m, hm⟩ := k0; exact DataW.trod_lt m _ _ _ hm
  obtain ⟨a0, rfl, hd0, hp0, w0⟩ := open_string Tryd.underlying9 (hval 0 9 v0 rfl rfl) h0
  have k1 := h1
  have lt1 : ∀ x ∈ p1, x.block < W.heap.size := by obtain ⟨m, hm⟩ := k1; exact DataW.trod_lt m _ _ _ hm
  obtain ⟨b1, len1, cap1, rfl⟩ := okWide_slice Tryd.underlying22 (hval 1 22 v1 rfl rfl)
  obtain ⟨xs1, hs1⟩ := isStrs_of Tryd.underlying22 Tryd.underlying9 (by kernel_rfl) h1
  clear hA0 hval0
  refine (walk a0 b1 len1 cap1 xs1 W w0 hs1 (tab_of_laid hL)).mono fun e W' ⟨he, bel⟩ => ?_
  subst he
  exact ⟨_, rfl, _, _, _, [], _, [], hW', trodAll_mk1 (shut_bool Tryd.underlying4 _), (trodAll_cons_mk (Below.trod laidOut (by kernel_rfl) (of_decide_eq_true (by kernel_rfl)) k0 bel lt0) (trodAll_cons_mk (Below.trod laidOut (by kernel_rfl) (of_decide_eq_true (by kernel_rfl)) k1 bel lt1) trodAll_mk0)), rfl, bel.frame _, fun h => by cases h⟩

theorem over : Rows.sumOfRow.holds Tryd.pinned (OpenSpec.ofChange Rows.sumOfSpec) :=
  OpenClaim.holds_of_wide 3 Tryd.f3 rfl rfl rfl rfl rfl rfl rfl ⟨rfl, rfl, rfl, rfl, rfl⟩ rfl rfl rfl rfl rfl (by kernel_rfl) Tryd.func3 (by kernel_rfl)
    (of_decide_eq_true (by kernel_rfl)) (by unfold Func.isWrapper; first | (rw [if_pos (by decide +kernel)]; kernel_rfl) | (rw [if_neg (by decide +kernel)]; exact ⟨rfl, rfl⟩))
    (fun os started H enc _ => lifted os started H enc)

theorem proved : Rows.SumOfCardSaid :=
  Claim7.holds_tied_plain_at .later [] [.data] true (true, "bc363dedd02f04385ad195772374c350c9c0fe6d60f7149052db86353d12ed58") false
    over (fun _ h => by cases h) (by kernel_rfl) (fun _ h => by cases h) sumOf_row_tie rfl ⟨rfl, rfl⟩ (by kernel_rfl) rfl
    (fun f fn hf hfn => by
      obtain rfl : f = 3 := Option.some.inj ((show Tryd.prog.funcNamed "dormouse/dormouselaw03.SumOf" = some 3 by kernel_rfl).symm.trans hf) |>.symm
      obtain rfl : fn = Tryd.f3 := (Option.some.inj (Tryd.func3.symm.trans hfn)).symm
      exact ⟨by kernel_rfl, fun j t ht => by
        rw [Tryd.params3] at ht
        have hm : t ∈ [9, 22] := by simpa using Array.mem_of_getElem? ht
        have hall : ([9, 22].all fun u => !Tryd.prog.wantsStandIn u) = true := by kernel_rfl
        exact (show Tryd.prog.wantsStandIn t = false by simpa using List.all_eq_true.1 hall t hm)⟩)
    (by kernel_rfl)

end Go.Proofs.YtgpnhdnncfpbcaaDoor.sumOf
