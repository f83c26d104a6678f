/-
  WideLays: any number in any width is laid as it ought to be, and read again; any texts are laid within a text, and cut off again in order; for every number, width and list of texts (of which 20 are looked at; one of more than 200 bytes: the law asks what comes at any rate).
-/
import Derived.Test.YtkhfbefaokefmaaAwake
import Derived.Test.YtkhfbefaokefmaaStrs
import Derived.Deep.DeepCutAuto
import Derived.Deep.RegionWith
import Derived.OpenShut
import Derived.ShutString
import Derived.ChangeOld
import Derived.Below
namespace Go.Proofs.Ytkhfbefaokefmaa.wideLays
open Go.ChangeShapes Go.WideShapes Go.ChangeAt Go.RowKit
open Go.ChangeMaps (open_string shut_string)
open WideP Tx

theorem own : ownKnob Try.prog.godebug = none := by kernel_rfl
theorem laidOut : laidOutB Try.prog = true := by kernel_rfl

/-! ### the width -/
def lowI (k : Int) : Int := if k < 8 then k else 8
theorem low8 (k : Int) (w : World) :
    Calls Try.prog 7 #[.int .i64 k, .int .i64 8] w fun e w' => e = .returned (.int .i64 (lowI k)) ∧ w = w' := Rx.low_any k 8 w
theorem high0 (k : Int) (w : World) :
    Calls Try.prog 6 #[.int .i64 (lowI k), .int .i64 0] w fun e w' => e = .returned (.int .i64 (clampW k)) ∧ w = w' := by
  have h := Rx.high_any (lowI k) 0 w
  have e : (if 0 < lowI k then lowI k else 0) = (clampW k : Int) := by
    unfold lowI clampW
    by_cases h8 : k < 8
    · rw [if_pos h8]
      by_cases h0 : k ≤ 0
      · rw [if_neg (by omega), if_pos h0]; rfl
      · rw [if_pos (by omega), if_neg h0, if_pos (by omega)]; omega
    · rw [if_neg h8, if_pos (by omega), if_neg (by omega)]
      by_cases h8' : k ≤ 8
      · rw [if_pos h8']; omega
      · rw [if_neg h8']; rfl
  rw [e] at h
  exact h
theorem clampW_le (k : Int) : clampW k ≤ 8 := by unfold clampW; split <;> (try split) <;> omega

/-! ### texts cut off again -/
def restL (xs : List ByteArray) (k : Nat) : ByteArray := ⟨(textsL (xs.drop k) ++ [101, 110, 100]).toArray⟩
theorem ba_eta (x : ByteArray) : (⟨x.data.toList.toArray⟩ : ByteArray) = x := by
  apply ByteArray.ext; simp
theorem extract_list (l : List UInt8) (i j : Nat) : (⟨l.toArray⟩ : ByteArray).extract i j = ⟨((l.drop i).take (j - i)).toArray⟩ := by
  apply ByteArray.ext
  apply Array.toList_inj.1
  rw [Lib.extract_data]
theorem size_list (l : List UInt8) : (⟨l.toArray⟩ : ByteArray).size = l.length := by
  show l.toArray.size = l.length
  simp
theorem outN_list (l : List UInt8) (n : Nat) (h : n ≤ l.length) : Cu.outN ⟨l.toArray⟩ n = ⟨(l.take n).toArray⟩ := by
  unfold Cu.outN Cu.okN
  rw [size_list, if_pos (by simp; omega), extract_list]
  simp
theorem leftN_list (l : List UInt8) (n : Nat) (h : n ≤ l.length) : Cu.leftN ⟨l.toArray⟩ n = ⟨(l.drop n).toArray⟩ := by
  unfold Cu.leftN Cu.okN
  rw [size_list, if_pos (by simp; omega), extract_list, Int.toNat_natCast, List.take_of_length_le (by simp)]
theorem errN_list (l : List UInt8) (n : Nat) (e : Int) (h : n ≤ l.length) : Cu.errN ⟨l.toArray⟩ e n = e := by
  unfold Cu.errN Cu.okN
  rw [size_list, if_pos (by simp; omega)]
theorem cut_text (x : ByteArray) (r : List UInt8) (hx : x.size < 4294967296) :
    Cu.outT ⟨(numL x.size 4 ++ x.data.toList ++ r).toArray⟩ = x ∧ Cu.leftT ⟨(numL x.size 4 ++ x.data.toList ++ r).toArray⟩ = ⟨r.toArray⟩ ∧ Cu.errT ⟨(numL x.size 4 ++ x.data.toList ++ r).toArray⟩ 0 = 0 := by
  have hn : (numL x.size 4).length = 4 := numL_length _ _
  have hl : x.data.toList.length = x.size := by simp
  have h4 : 4 ≤ (numL x.size 4 ++ x.data.toList ++ r).length := by simp [hn]
  have e1 : Cu.leftN ⟨(numL x.size 4 ++ x.data.toList ++ r).toArray⟩ 4 = ⟨(x.data.toList ++ r).toArray⟩ := by
    have := leftN_list _ 4 h4
    rw [List.append_assoc, List.drop_left' hn] at this
    rw [List.append_assoc]
    exact this
  have e2 : Cu.lenT ⟨(numL x.size 4 ++ x.data.toList ++ r).toArray⟩ = x.size := by
    unfold Cu.lenT
    have := outN_list _ 4 h4
    rw [List.append_assoc, List.take_left' hn] at this
    rw [List.append_assoc]
    have this' : Cu.outN ⟨(numL x.size 4 ++ (x.data.toList ++ r)).toArray⟩ 4 = ⟨(numL x.size 4).toArray⟩ := this
    rw [this']
    show valL ((numL x.size 4).toArray.toList.take 8) = x.size
    rw [List.take_of_length_le (by simp [hn]), valL_numL]
    omega
  have e3 : Cu.errN ⟨(numL x.size 4 ++ x.data.toList ++ r).toArray⟩ 0 4 = 0 := errN_list _ 4 0 h4
  have hx2 : x.size ≤ (x.data.toList ++ r).length := by rw [List.length_append, hl]; omega
  refine ⟨?_, ?_, ?_⟩
  · unfold Cu.outT
    rw [e1, e2, outN_list _ _ hx2, List.take_left' hl, ba_eta]
  · unfold Cu.leftT
    rw [e1, e2, leftN_list _ _ hx2, List.drop_left' hl]
  · unfold Cu.errT
    rw [e1, e2, e3, errN_list _ _ _ hx2]
theorem textsL_cons (x : ByteArray) (xs : List ByteArray) : textsL (x :: xs) = numL x.size 4 ++ x.data.toList ++ textsL xs := by simp [textsL]
theorem rest_step (xs : List ByteArray) (k : Nat) (h : k < xs.length) : restL xs k = ⟨(numL (xs.getD k ByteArray.empty).size 4 ++ (xs.getD k ByteArray.empty).data.toList ++ (textsL (xs.drop (k + 1)) ++ [101, 110, 100])).toArray⟩ := by
  have e : xs.getD k ByteArray.empty = xs[k] := by simp [List.getD, h]
  have e2 : textsL (xs[k] :: xs.drop (k + 1)) = numL xs[k].size 4 ++ xs[k].data.toList ++ textsL (xs.drop (k + 1)) := textsL_cons _ _
  unfold restL
  rw [List.drop_eq_getElem_cons h, e, e2]
  simp only [List.append_assoc]
theorem text_rest (xs : List ByteArray) (k : Nat) (h : k < xs.length) (hx : (xs.getD k ByteArray.empty).size ≤ 200) (hall : (restL xs k).size ≤ 5000) (c : Nat) (w : World) (hA : Cu.At c (restL xs k) 0 w) :
    Calls Try.prog 13 #[.pointer (some ⟨c, 0, none⟩)] w fun e w' => e = .returned (.string (xs.getD k ByteArray.empty)) ∧ Cu.At c (restL xs (k + 1)) 0 w' ∧ w.grownBy w' (some c) := by
  have h1 := Cu.text_any c (restL xs k) 0 (by unfold maxLen; omega) w hA
  obtain ⟨e1, e2, e3⟩ := cut_text (xs.getD k ByteArray.empty) (textsL (xs.drop (k + 1)) ++ [101, 110, 100]) (by omega)
  rw [← rest_step xs k h] at e1 e2 e3
  rw [e1, e2, e3] at h1
  exact h1
theorem textsL_len (xs : List ByteArray) (h : ∀ x ∈ xs, x.size ≤ 200) : (textsL xs).length ≤ 204 * xs.length := by
  induction xs with
  | nil => simp [textsL]
  | cons x xs ih =>
    have := ih fun y hy => h y (List.mem_cons_of_mem _ hy)
    have hx := h x List.mem_cons_self
    have e : textsL (x :: xs) = numL x.size 4 ++ x.data.toList ++ textsL xs := by simp [textsL]
    have hn : (numL x.size 4).length = 4 := numL_length _ _
    have hl : x.data.toList.length = x.size := by simp
    rw [e, List.length_append, List.length_append, hn, hl, List.length_cons]
    omega


set_option maxRecDepth 100000 in
set_option maxHeartbeats 4000000 in
theorem walk (n : Nat) (k : Int) (a : Option Addr) (len cap : Nat) (xs : List ByteArray) (hn : n < 2 ^ 64) (w : World) (hl : IsStrs w a len cap xs) :
    Calls Try.prog 3 #[.int .u64 n, .int .i64 k, .slice a len cap] w fun e w' => e = .returned (.bool true) ∧ Below w.heap.size w w' := by
  obtain ⟨hlc, hcm, hxl, hcell⟩ := hl
  unfold maxLen at hcm
  have HC := Lib.hid hcell
  have HX := Lib.hid hxl
  clear hcell hxl
  have hsome : 20 < len → ∃ b off, a = some ⟨b, off, none⟩ := fun h => by
    obtain ⟨b, off, h1, _⟩ := HC.out 0 (by omega)
    exact ⟨b, off, h1⟩
  have HS := Lib.hid hsome
  clear hsome
  go_enter Try.func3, Try.ntmps3
  go_upto_if 15 with fail
  go_cut [2] (fun s2 wx => ∃ m c : Nat, s2 = .slice a m c ∧ m ≤ 20 ∧ m ≤ len ∧ w = wx)
  case first =>
    by_cases h20 : 20 < len
    · obtain ⟨b, off, rfl⟩ := HS.out h20
      go_wp2_with fail
      go_meet
      exact ⟨20, cap, rfl, by omega, by omega, rfl⟩
    · go_wp2_with fail
      go_meet
      exact ⟨len, cap, rfl, by omega, by omega, rfl⟩
  case rest =>
    obtain ⟨m, c, rfl, hm20, hml, rfl⟩ := hcut
    go_wp2_with fail
    refine (low8 _ _).mono ?_
    rintro e w1 ⟨rfl, rfl⟩
    go_wp2_with fail
    refine (high0 _ _).mono ?_
    rintro e w1 ⟨rfl, rfl⟩
    obtain ⟨ys, hys⟩ : ∃ ys, ys = xs.take m := ⟨_, rfl⟩
    have hyl : ys.length = m := by rw [hys, List.length_take, HX.out]; omega
    have hyc : ∀ j, j < m → ∃ b off, a = some ⟨b, off, none⟩ ∧ b < w.heap.size ∧ w.cell? ⟨b, off + j, none⟩ = some (.string (ys.getD j ByteArray.empty)) ∧ (ys.getD j ByteArray.empty).size ≤ maxLen := fun j hj => by
      obtain ⟨b, off, h1, h2, h3, h4⟩ := HC.out j (by omega)
      have e : ys.getD j ByteArray.empty = xs.getD j ByteArray.empty := by
        rw [hys]; simp [List.getD, List.getElem?_take_of_lt hj]
      rw [e]
      exact ⟨b, off, h1, h2, h3, h4⟩
    clear HC HX HS hys
    have HL := Lib.hid hyl
    have HC := Lib.hid hyc
    clear hyl hyc
    go_wp2_with fail
    go_loopw [8, 9] (fun s i wr => ∃ j : Nat, j ≤ m ∧ i = .int .i64 j ∧ s = .string ⟨(textsL (ys.take j)).toArray⟩ ∧ Hid (∀ q, q < j → (ys.getD q ByteArray.empty).size ≤ 200) ∧ Below w.heap.size w wr) (fun _ i _ => m - (intOf i).toNat)
    case atStart => exact ⟨0, Nat.zero_le _, rfl, rfl, Lib.hid (fun q hq => absurd hq (Nat.not_lt_zero _)), Below.refl _ _⟩
    case round =>
      obtain ⟨j, hj, rfl, rfl, HQ, hb⟩ := hrel
      have hlen : (textsL (ys.take j)).length ≤ 4080 := by
        have h := textsL_len (ys.take j) (fun x hx => by
          obtain ⟨q, hq, rfl⟩ := List.getElem_of_mem hx
          have hq' : q < j ∧ q < ys.length := by simp at hq; omega
          have := HQ.out q hq'.1
          simpa [List.getD, hq'.2] using this)
        have h2 : (ys.take j).length ≤ 20 := by rw [List.length_take]; omega
        omega
      by_cases hlt : j < m
      · obtain ⟨b, off, rfl, hbs, hc0, hmx⟩ := HC.out j hlt
        obtain ⟨x, hx⟩ : ∃ x, ys.getD j ByteArray.empty = x := ⟨_, rfl⟩
        have HT := Lib.hid (textsL_take ys j (by rw [HL.out]; exact hlt))
        rw [hx] at hc0 hmx HT
        have HXX := Lib.hid hx
        clear hx
        unfold maxLen at hmx
        have hc : wr.cell? ⟨b, off + j, none⟩ = some (.string x) := by rw [hb.cell (p := ⟨b, off + j, none⟩) hbs]; exact hc0
        clear hc0
        by_cases hbig : 200 < x.size
        · go_wp2_with fail
          refine (Aw.awake_any _).mono ?_
          rintro e w1 ⟨rfl, hb1⟩
          go_wp2
          go_ret
          exact ⟨rfl, hb.trans (hb1.mono hb.size)⟩
        · have hx200 : x.size ≤ 200 := by omega
          have hnl : (numL x.size 4).length = 4 := numL_length _ _
          have hxl : x.data.toList.length = x.size := by simp
          have hl2 : (numL x.size 4 ++ x.data.toList).length ≤ 204 := by rw [List.length_append, hnl, hxl]; omega
          have HB := Lib.hid (ba_append (textsL (ys.take j)) (numL x.size 4 ++ x.data.toList))
          obtain ⟨z, hz⟩ : ∃ z, z = numL x.size 4 ++ x.data.toList := ⟨_, rfl⟩
          have hTx := Rx.text_any x wr (by omega)
          rw [← hz] at hl2 HB HT hTx
          have HZ := Lib.hid hTx
          clear hnl hxl hbig hz hTx
          go_wp2_with fail
          refine HZ.out.mono ?_
          rintro e w1 ⟨rfl, hb1⟩
          go_wp2
          go_roundw
          case rel =>
            refine ⟨j + 1, by omega, by go_num, ?_, Lib.hid ?_, hb.trans (hb1.mono hb.size)⟩
            · rw [HB.out, HT.out]
            · intro q hq
              by_cases e : q = j
              · subst e; rw [HXX.out]; exact hx200
              · exact HQ.out q (by omega)
          case measure => simp [intOf]; omega
      · obtain rfl : j = m := by omega
        have htk : ys.take j = ys := List.take_of_length_le (by rw [HL.out]; exact Nat.le_refl _)
        rw [htk] at hlen
        have HTx : Hid (∀ wx, Below w.heap.size w wx → Calls Try.prog 12 #[.slice a j c] wx fun e w' => e = .returned (.string ⟨(textsL ys).toArray⟩) ∧ Below wx.heap.size wx w') := Lib.hid (fun wx hx => by
          refine texts_any a j c ys wx HL.out (by unfold maxLen; omega) (fun q hq => ?_) (fun q hq => ?_) (by omega)
          · obtain ⟨b, off, h1, h2, h3, _⟩ := HC.out q hq
            exact ⟨b, off, h1, Nat.lt_of_lt_of_le h2 hx.size, by rw [hx.cell (p := ⟨b, off + q, none⟩) h2]; exact h3⟩
          · have := HQ.out q hq; omega)
        have HJ : Hid ((⟨(textsL ys).toArray⟩ : ByteArray) ++ ⟨#[101, 110, 100]⟩ = restL ys 0) := Lib.hid (ba_append (textsL ys) [101, 110, 100])
        have hrs : ∀ q, (restL ys q).size ≤ 5000 := fun q => by
          have h1 : (textsL (ys.drop q)).length ≤ (textsL ys).length := by
            conv => rhs; rw [← List.take_append_drop q ys]
            unfold textsL
            rw [List.flatMap_append, List.length_append]
            exact Nat.le_add_left _ _
          unfold restL
          rw [size_list, List.length_append]
          simp
          omega
        have HR := Lib.hid hrs
        clear hrs hlt hj
        rw [htk]
        clear htk
        go_wp2_with fail
        refine (num_any n hn k _).mono ?_
        rintro e w1 ⟨rfl, hb1⟩
        have hbw := hb.trans (hb1.mono hb.size)
        clear hb hb1
        go_wp2_with fail
        refine (HTx.out _ hbw).mono ?_
        rintro e w2 ⟨rfl, hb2⟩
        have hbw2 := hbw.trans (hb2.mono hbw.size)
        clear hbw hb2
        go_wp2_with fail
        rw [HJ.out]
        refine (Cu.on_any _ _).mono ?_
        rintro e w3 ⟨rfl, rfl⟩
        have hA : Cu.At w2.heap.size (restL ys 0) 0 (w2.alloc (.cells #[.string (restL ys 0), .int .i64 0] 46)) := Tx.heap_new _ _
        have hw3 : Below w.heap.size w (w2.alloc (.cells #[.string (restL ys 0), .int .i64 0] 46)) := hbw2.alloc hbw2.size _
        have hle : w.heap.size ≤ w2.heap.size := hbw2.size
        obtain ⟨cc, hcc⟩ : ∃ cc, w2.heap.size = cc := ⟨_, rfl⟩
        obtain ⟨w3, hw⟩ : ∃ w3, w2.alloc (.cells #[.string (restL ys 0), .int .i64 0] 46) = w3 := ⟨_, rfl⟩
        rw [hw] at hA hw3
        rw [hcc] at hA hle
        rw [hw]
        rw [hcc]
        clear hw hcc hbw2
        go_wp2_with fail
        go_loopw [12] (fun i wr2 => ∃ q : Nat, q ≤ j ∧ i = .int .i64 q ∧ Cu.At cc (restL ys q) 0 wr2 ∧ Below w.heap.size w wr2) (fun i _ => j - (intOf i).toNat)
        case atStart => exact ⟨0, Nat.zero_le _, rfl, hA, hw3⟩
        case round =>
          obtain ⟨q, hq, rfl, hAq, hbq⟩ := hrel
          clear hA hw3
          by_cases hqt : q < j
          · obtain ⟨b, off, rfl, hbs, hc0, _⟩ := HC.out q hqt
            have hq200 := HQ.out q hqt
            obtain ⟨x, hx⟩ : ∃ x, ys.getD q ByteArray.empty = x := ⟨_, rfl⟩
            have hTq : ∀ wx, Cu.At cc (restL ys q) 0 wx → Below w.heap.size w wx → Calls Try.prog 13 #[.pointer (some ⟨cc, 0, none⟩)] wx fun e w' => e = .returned (.string x) ∧ (Cu.At cc (restL ys (q + 1)) 0 w' ∧ Below w.heap.size w w' ∧ w'.cell? ⟨b, off + q, none⟩ = some (.string x)) := fun wx hA1 hB1 => by
              refine (text_rest ys q (by rw [HL.out]; exact hqt) hq200 (HR.out q) cc wx hA1).mono ?_
              rintro e w' ⟨he, h1, h2⟩
              rw [hx] at he
              have hB2 := hB1.grown h2 hB1.size (fun k hk => by cases hk; exact hle)
              refine ⟨he, h1, hB2, ?_⟩
              rw [hB2.cell (p := ⟨b, off + q, none⟩) hbs, hc0, hx]
            have hcq : wr.cell? ⟨b, off + q, none⟩ = some (.string x) := by rw [hbq.cell (p := ⟨b, off + q, none⟩) hbs, hc0, hx]
            have HTq := Lib.hid hTq
            clear hTq hc0 hx hq200
            go_wp2_with fail
            go_region_with (go_at_call 13; refine (HTq.out _ (by exact hAq) (by first | exact hbq | exact hbq.drew)).mono ?_; rintro e w' ⟨rfl, hA2, hB2, hc2⟩)
            all_goals go_wp2
            all_goals
              go_roundw
              case rel => exact ⟨q + 1, by omega, by go_num, hA2, hB2⟩
              case measure => simp [intOf]; omega
          · obtain rfl : q = j := by omega
            have hre : restL ys q = ⟨#[101, 110, 100]⟩ := by
              unfold restL
              rw [List.drop_eq_nil_of_le (by rw [HL.out]; exact Nat.le_refl _)]
              rfl
            rw [hre] at hAq
            have hts : (⟨(numL n (clampW k)).toArray⟩ : ByteArray).size ≤ maxLen := by
              have := clampW_le k
              rw [size_list, numL_length]; unfold maxLen; omega
            have HTs := Lib.hid hts
            have HCl := Lib.hid (clampW_le k)
            clear hre hts hqt hq HR HJ
            go_wp2_with fail
            refine (Aw.awake_any _).mono ?_
            rintro e w4 ⟨rfl, hb4⟩
            have hA4 := hAq.below hb4
            have hbw4 := hbq.trans (hb4.mono hbq.size)
            clear hAq hbq hb4
            go_wp2_with fail
            refine (rnum_any n hn (clampW k) HCl.out _).mono ?_
            rintro e w5 ⟨rfl, hb5⟩
            have hA5 := hA4.below hb5
            have hbw5 := hbw4.trans (hb5.mono hbw4.size)
            clear hA4 hbw4 hb5
            go_wp2_with fail
            refine (val_any _ _ HTs.out).mono ?_
            rintro e w6 ⟨rfl, rfl⟩
            go_wp2_with fail
            refine (rval_any _ _ HTs.out).mono ?_
            rintro e w6 ⟨rfl, rfl⟩
            go_wp2_with fail
            refine (HTx.out _ hbw5).mono ?_
            rintro e w6 ⟨rfl, hb6⟩
            have hA6 := hA5.below hb6
            have hbw6 := hbw5.trans (hb6.mono hbw5.size)
            clear hA5 hbw5 hb6
            go_wp2_with fail
            refine (Cu.rest_any cc ⟨#[101, 110, 100]⟩ 0 _ hA6).mono ?_
            rintro e w7 ⟨rfl, rfl⟩
            go_wp2_with fail
            refine (Cu.err_any _ _ _ _ hA6).mono ?_
            rintro e w7 ⟨rfl, rfl⟩
            go_wp2
            go_ret
            exact ⟨rfl, hbw6⟩

set_option maxRecDepth 100000 in
theorem lifted (os : Os) (started : os.Started) (H : Type) (enc : TypeId × Value → H) :
    ReturnsInHanded {} Try.checked os 3 .any (Rows.wideLaysSpec.pre6 enc Try.prog Try.f3 Rows.wideLaysRow.domain false) (Rows.wideLaysSpec.post enc Try.prog Try.f3 false true false false) := by
  refine returnsInHanded_of_change (C := Try.checked) own started (by kernel_rfl) Try.func3
    (ChangeSpec.witness6 (enc := enc) (C := Try.checked) false ⟨#[], #[.int .u64 0, .int .i64 0, .slice none 0 0], []⟩ 8 (by kernel_rfl) (by kernel_rfl) (by kernel_rfl) (by kernel_rfl)) ?_
  intro W base args ds gs before hval0 hW _ _
  have hval : ∀ (j : Nat) t v, Try.f3.params[j]? = some t → args[j]? = some v → Value.okWide Try.prog W .any base t v := hval0
  have hW' := hW
  obtain ⟨p, q, hA0, hV, rfl, hfz, hnd⟩ := hW
  have hA : DataW.TrodAll enc Try.prog W 0 (fun _ => true) true Try.f3.params.toList args.toList ds p := hA0
  rw [Try.params3] at hA hval
  obtain ⟨v0, vs0, d0, ds0, p0, q0, hargs, rfl, rfl, h0, r0⟩ := trodAll_cons hA
  obtain ⟨v1, vs1, d1, ds1, p1, q1, rfl, rfl, rfl, h1, r1⟩ := trodAll_cons r0
  obtain ⟨v2, vs2, d2, ds2, p2, q2, rfl, rfl, rfl, h2, r2⟩ := trodAll_cons r1
  obtain ⟨rfl, rfl, rfl⟩ := trodAll_nil r2
  obtain rfl : args = #[v0, v1, v2] := by cases args; simp_all
  obtain ⟨rfl, rfl⟩ := trodVars_none hV
  have k0 := h0
  have lt0 : ∀ x ∈ p0, x.block < W.heap.size := by obtain ⟨m, hm⟩ := k0; exact DataW.trod_lt m _ _ _ hm
  obtain ⟨a0, rfl, hd0, hp0, w0⟩ := open_int Try.underlying22 (hval 0 22 v0 rfl rfl) h0
  obtain ⟨h10, h11⟩ : 0 ≤ a0 ∧ a0 < 18446744073709551616 := by have := bounds_u64 w0; omega
  obtain ⟨n0, rfl⟩ := Int.eq_ofNat_of_zero_le h10
  have hn0 : n0 < 2 ^ 64 := by omega
  have k1 := h1
  have lt1 : ∀ x ∈ p1, x.block < W.heap.size := by obtain ⟨m, hm⟩ := k1; exact DataW.trod_lt m _ _ _ hm
  obtain ⟨a1, rfl, hd1, hp1, w1⟩ := open_int Try.underlying3 (hval 1 3 v1 rfl rfl) h1
  have k2 := h2
  have lt2 : ∀ x ∈ p2, x.block < W.heap.size := by obtain ⟨m, hm⟩ := k2; exact DataW.trod_lt m _ _ _ hm
  obtain ⟨b2, len2, cap2, rfl⟩ := okWide_slice Try.underlying23 (hval 2 23 v2 rfl rfl)
  obtain ⟨xs2, hs2⟩ := isStrs_of Try.underlying23 Try.underlying9 (by kernel_rfl) h2
  clear hA0 hval0
  refine (walk n0 a1 b2 len2 cap2 xs2 hn0 W hs2).mono fun e W' ⟨he, bel⟩ => ?_
  subst he
  exact ⟨_, rfl, _, _, _, [], _, [], hW', trodAll_mk1 (shut_bool Try.underlying4 _), (trodAll_cons_mk (Below.trod laidOut (by kernel_rfl) (of_decide_eq_true (by kernel_rfl)) k0 bel lt0) (trodAll_cons_mk (Below.trod laidOut (by kernel_rfl) (of_decide_eq_true (by kernel_rfl)) k1 bel lt1) (trodAll_cons_mk (Below.trod laidOut (by kernel_rfl) (of_decide_eq_true (by kernel_rfl)) k2 bel lt2) trodAll_mk0))), rfl, bel.frame _, fun h => by cases h⟩

theorem over : Rows.wideLaysRow.holds Try.pinned (OpenSpec.ofChange Rows.wideLaysSpec) :=
  OpenClaim.holds_of_wide 3 Try.f3 rfl rfl rfl rfl rfl rfl rfl ⟨rfl, rfl, rfl, rfl, rfl⟩ rfl rfl rfl rfl rfl (by kernel_rfl) Try.func3 (by kernel_rfl)
    (of_decide_eq_true (by kernel_rfl)) (by unfold Func.isWrapper; first | (rw [if_pos (by decide +kernel)]; kernel_rfl) | (rw [if_neg (by decide +kernel)]; exact ⟨rfl, rfl⟩))
    (fun os started H enc _ => lifted os started H enc)

theorem proved : Rows.WideLaysSaid := over

end Go.Proofs.Ytkhfbefaokefmaa.wideLays
