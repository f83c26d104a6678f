/-
 The plain answer's Read: long heads.
-/
import Derived.Test.YtgolhnfkmmajpaaGreatDoorMc13
open Go.Lib (hid)
set_option linter.unusedSimpArgs false
set_option linter.unusedVariables false
set_option maxHeartbeats 40000000
set_option maxRecDepth 100000
namespace Go.Proofs.YtgolhnfkmmajpaaGreatDoor
section
open Go.RowKit
namespace Rl
theorem rread_l_cut (s : ByteArray) (d k : Nat) (dI lI : Int) (w : World) (hdI : dI = d) (hlI : lI + k = 4096) (hk : k ≤ 4096) (h : d ≤ 64) (h2 : k < 4096) (_hmax : s.size ≤ 1000000) (c : UInt8) (t : List UInt8) (hs : s.data.toList = c :: t) (hc : 128 ≤ c.toNat) (h5 : ¬ c.toNat % 64 ≤ 55) (hlt : t.length < c.toNat % 64 - 55) : Calls Tryz.prog 49 #[.string s, .int .i64 dI, .int .i64 lI] w (RPost w (readL s.data.toList d k)) := by
 have HE : Hid (∃ c, readL s.data.toList d k = .error c) := hid (by
  rw [readL_eq, if_neg (by omega), if_neg (by omega), hs, headE_of c t hc, if_neg h5, if_pos hlt]
  exact ⟨_, rfl⟩)
 obtain ⟨r, hr⟩ : ∃ r, readL s.data.toList d k = r := ⟨_, rfl⟩
 rw [hr] at HE ⊢
 clear hr
 have hs0 : 0 < s.size := by rw [size_len, hs]; simp
 have hne := size_pos_ne hs0
 have hsl : t.length + 1 = s.size := by rw [size_len, hs]; rfl
 have hg0 := get_at s 0 hs0
 rw [hs, List.getD_cons_zero] at hg0
 have hcl := c.toNat_lt
 obtain ⟨C, hC⟩ : ∃ C, c.toNat = C := ⟨_, rfl⟩
 rw [hC] at hcl
 have hg1 : (s[0]'hs0).toNat = C := by rw [hg0, hC]
 rw [hC] at hc h5 hlt
 obtain ⟨m, hm⟩ : ∃ m, C % 64 - 55 = m := ⟨_, rfl⟩
 obtain ⟨n0, hn0⟩ : ∃ n0, C % 64 = n0 := ⟨_, rfl⟩
 have hrem : (C : Int).tmod 64 = (n0 : Int) := by rw [Int.tmod_eq_emod_of_nonneg (by omega)]; omega
 have hmI : (n0 : Int) - 55 = (m : Int) := by omega
 have h55 : ¬ n0 ≤ 55 := by omega
 have h8 : m ≤ 8 := by omega
 have hm1 : 1 ≤ m := by omega
 have hlt2 : s.size < 1 + m := by omega
 clear hg0 hs hC hn0 hm
 obtain ⟨h1, h2⟩ := two_boxes w
 obtain ⟨hR, hN, hB, hsz⟩ := h2 _ rfl
 have H1 := hid h1
 have HR := hid hR
 have HN := hid hN
 have HB := hid hB
 have HSz := hid hsz
 clear h1 h2 hR hN hB hsz
 go_enter Tryz.func49, Tryz.ntmps49
 go_wp2_with (first
  | (refine wpl_store_it H1.out it0 none 0 0 rfl _ _ rfl rfl rfl rfl ?_)
  | (refine wpl_store_it HR.out it0 none 0 0 rfl _ _ rfl rfl rfl rfl ?_)
  | (refine Rg.run rfl _ _ (op_load_it HN.out ?_) ?_; · exact ⟨_, rfl, rfl⟩))
 exact bodyPost_ret (res_item3 rfl _ rfl (own_rowI HR.out)) rfl (post_err 5 HE.out (by decide) rfl (below_row HB.out (Nat.le_refl _) _))
theorem rread_l_zero (s : ByteArray) (d k : Nat) (dI lI : Int) (w : World) (hdI : dI = d) (hlI : lI + k = 4096) (hk : k ≤ 4096) (h : d ≤ 64) (h2 : k < 4096) (hmax : s.size ≤ 1000000) (c : UInt8) (t : List UInt8) (hs : s.data.toList = c :: t) (hc : 128 ≤ c.toNat) (h5 : ¬ c.toNat % 64 ≤ 55) (hlt : ¬ t.length < c.toNat % 64 - 55) (hz : t.headD 0 = 0) : Calls Tryz.prog 49 #[.string s, .int .i64 dI, .int .i64 lI] w (RPost w (readL s.data.toList d k)) := by
 have HE : Hid (∃ c, readL s.data.toList d k = .error c) := hid (by
  rw [readL_eq, if_neg (by omega), if_neg (by omega), hs, headE_of c t hc, if_neg h5, if_neg hlt, if_pos (.inl hz)]
  exact ⟨_, rfl⟩)
 obtain ⟨r, hr⟩ : ∃ r, readL s.data.toList d k = r := ⟨_, rfl⟩
 rw [hr] at HE ⊢
 clear hr
 have hs0 : 0 < s.size := by rw [size_len, hs]; simp
 have hne := size_pos_ne hs0
 have hsl : t.length + 1 = s.size := by rw [size_len, hs]; rfl
 have hg0 := get_at s 0 hs0
 rw [hs, List.getD_cons_zero] at hg0
 have hcl := c.toNat_lt
 obtain ⟨C, hC⟩ : ∃ C, c.toNat = C := ⟨_, rfl⟩
 rw [hC] at hcl
 have hg1 : (s[0]'hs0).toNat = C := by rw [hg0, hC]
 rw [hC] at hc h5 hlt
 obtain ⟨m, hm⟩ : ∃ m, C % 64 - 55 = m := ⟨_, rfl⟩
 obtain ⟨n0, hn0⟩ : ∃ n0, C % 64 = n0 := ⟨_, rfl⟩
 have hrem : (C : Int).tmod 64 = (n0 : Int) := by rw [Int.tmod_eq_emod_of_nonneg (by omega)]; omega
 have hmI : (n0 : Int) - 55 = (m : Int) := by omega
 have h55 : ¬ n0 ≤ 55 := by omega
 have h8 : m ≤ 8 := by omega
 have hm1 : 1 ≤ m := by omega
 have hlt2 : ¬ s.size < 1 + m := by omega
 have hs1 : 1 < s.size := by omega
 have hg2 := get_at s 1 hs1
 have hsec : (s.data.toList.getD 1 0) = t.headD 0 := by
  rw [hs, List.getD_cons_succ]
  cases t with
  | nil => rfl
  | cons y ys => rfl
 rw [hsec] at hg2
 have hgz : (s[1]'hs1).toNat = 0 := by rw [hg2, hz]; rfl
 clear hg0 hs hC hn0 hm hg2 hsec
 obtain ⟨h1, h2⟩ := two_boxes w
 obtain ⟨hR, hN, hB, hsz⟩ := h2 _ rfl
 have H1 := hid h1
 have HR := hid hR
 have HN := hid hN
 have HB := hid hB
 have HSz := hid hsz
 clear h1 h2 hR hN hB hsz
 go_enter Tryz.func49, Tryz.ntmps49
 go_wp2_with (first
  | (refine wpl_store_it H1.out it0 none 0 0 rfl _ _ rfl rfl rfl rfl ?_)
  | (refine wpl_store_it HR.out it0 none 0 0 rfl _ _ rfl rfl rfl rfl ?_)
  | (refine Rg.run rfl _ _ (op_load_it HN.out ?_) ?_; · exact ⟨_, rfl, rfl⟩))
 exact bodyPost_ret (res_item3 rfl _ rfl (own_rowI HR.out)) rfl (post_err 6 HE.out (by decide) rfl (below_row HB.out (Nat.le_refl _) _))
theorem rread_l_err (s : ByteArray) (d k : Nat) (dI lI : Int) (w : World) (hdI : dI = d) (hlI : lI + k = 4096) (hk : k ≤ 4096) (h : d ≤ 64) (h2 : k < 4096) (hmax : s.size ≤ 1000000) (c : UInt8) (t : List UInt8) (hs : s.data.toList = c :: t) (hc : 128 ≤ c.toNat) (h5 : ¬ c.toNat % 64 ≤ 55) (hlt : ¬ t.length < c.toNat % 64 - 55) (hz : t.headD 0 ≠ 0)
  (hbad : valB (t.take (c.toNat % 64 - 55)) ≤ 55 ∨ t.length < c.toNat % 64 - 55 + valB (t.take (c.toNat % 64 - 55))) : Calls Tryz.prog 49 #[.string s, .int .i64 dI, .int .i64 lI] w (RPost w (readL s.data.toList d k)) := by
 have HE : Hid (∃ c, readL s.data.toList d k = .error c) := hid (by
  rw [readL_eq, if_neg (by omega), if_neg (by omega), hs, headE_of c t hc, if_neg h5, if_neg hlt]
  by_cases hv : valB (t.take (c.toNat % 64 - 55)) ≤ 55
  ·rw [if_pos (.inr hv)]
   exact ⟨_, rfl⟩
  ·rw [if_neg (by rintro (e | e); exact hz e; exact hv e)]
   dsimp only
   rw [if_pos (by rw [List.length_cons]; omega)]
   exact ⟨_, rfl⟩)
 obtain ⟨r, hr⟩ : ∃ r, readL s.data.toList d k = r := ⟨_, rfl⟩
 rw [hr] at HE ⊢
 clear hr
 have hs0 : 0 < s.size := by rw [size_len, hs]; simp
 have hne := size_pos_ne hs0
 have hsl : t.length + 1 = s.size := by rw [size_len, hs]; rfl
 have hg0 := get_at s 0 hs0
 rw [hs, List.getD_cons_zero] at hg0
 have hcl := c.toNat_lt
 obtain ⟨C, hC⟩ : ∃ C, c.toNat = C := ⟨_, rfl⟩
 rw [hC] at hcl
 have hg1 : (s[0]'hs0).toNat = C := by rw [hg0, hC]
 rw [hC] at hc h5 hlt hbad
 obtain ⟨m, hm⟩ : ∃ m, C % 64 - 55 = m := ⟨_, rfl⟩
 obtain ⟨n0, hn0⟩ : ∃ n0, C % 64 = n0 := ⟨_, rfl⟩
 have hrem : (C : Int).tmod 64 = (n0 : Int) := by rw [Int.tmod_eq_emod_of_nonneg (by omega)]; omega
 have hmI : (n0 : Int) - 55 = (m : Int) := by omega
 have h55 : ¬ n0 ≤ 55 := by omega
 have h8 : m ≤ 8 := by omega
 have hm1 : 1 ≤ m := by omega
 rw [hm] at hbad
 have hlt2 : ¬ s.size < 1 + m := by omega
 have hdrop : s.data.toList.drop 1 = t := by rw [hs]; rfl
 have hs1 : 1 < s.size := by omega
 have hg2 := get_at s 1 hs1
 have hsec : (s.data.toList.getD 1 0) = t.headD 0 := by
  rw [hs, List.getD_cons_succ]
  cases t with
  | nil => rfl
  | cons y ys => rfl
 rw [hsec] at hg2
 obtain ⟨V, hV⟩ : ∃ V, valB (t.take m) = V := ⟨_, rfl⟩
 have HV : Hid (V = valB ((s.data.toList.drop 1).take m)) := hid (by rw [hdrop, hV])
 rw [hV] at hbad
 have hgz : ((s[1]'hs1).toNat : Int) ≠ 0 := by
  intro e
  apply hz
  rw [← hg2]
  apply UInt8.toNat_inj.1
  have : (0 : UInt8).toNat = 0 := rfl
  omega
 have hgb : (((s[1]'hs1).toNat : Int) == 0) = false := by simp only [beq_eq_false_iff_ne]; exact hgz
 have hbd2 : V ≤ 55 ∨ s.size - (1 + m) < V := by omega
 clear hg0 hs hC hn0 hm hg2 hsec hdrop hV hbad hz
 obtain ⟨h1, h2⟩ := two_boxes w
 obtain ⟨hR, hN, hB, hsz⟩ := h2 _ rfl
 have H1 := hid h1
 have HR := hid hR
 have HN := hid hN
 have HB := hid hB
 have HSz := hid hsz
 clear h1 h2 hR hN hB hsz
 go_enter Tryz.func49, Tryz.ntmps49
 go_wp2_with (first
  | (refine wpl_store_it H1.out it0 none 0 0 rfl _ _ rfl rfl rfl rfl ?_)
  | (refine wpl_store_it HR.out it0 none 0 0 rfl _ _ rfl rfl rfl rfl ?_)
  | (refine Rg.run rfl _ _ (op_load_it HN.out ?_) ?_; · exact ⟨_, rfl, rfl⟩))
 go_loop [13, 16] (fun v i => ∃ q x : Nat, 1 ≤ q ∧ q ≤ m + 1 ∧ i = .int .i64 q ∧ v = .int .i64 x ∧ Hid (x = valB ((s.data.toList.drop 1).take (q - 1)))) (fun _ i => m + 1 - (intOf i).toNat)
 case atStart => exact ⟨1, 0, Nat.le_refl _, by omega, rfl, rfl, hid rfl⟩
 case round =>
  obtain ⟨q, x, hq1, hqm, rfl, rfl, HX⟩ := hrel
  by_cases hqt : q ≤ m
  ·have hqs : q < s.size := by omega
   have hb := (s[q]'hqs).toNat_lt
   have HNx : Hid (256 * x + (s[q]'hqs).toNat = valB ((s.data.toList.drop 1).take (q + 1 - 1))) := hid (by
    rw [show q + 1 - 1 = q by omega, take_next _ q hq1 (by rw [← size_len]; exact hqs), valB_snoc, ← HX.out, get_at s q hqs, Nat.mul_comm])
   obtain ⟨y, hy⟩ : ∃ y, (s[q]'hqs).toNat = y := ⟨_, rfl⟩
   rw [hy] at hb HNx
   by_cases hx32 : x < 4294967296
   ·have hge : decide ((4294967296 : Int) ≤ (x : Int)) = false := by simp; omega
    have hxb : x ≤ 1099511627776 := by omega
    clear HX hx32
    go_wp2
    go_round
    case rel => exact ⟨q + 1, 256 * x + y, by omega, by omega, by go_num, by go_num, hid HNx.out⟩
    case measure => simp [intOf]; omega
   ·have hge : decide ((4294967296 : Int) ≤ (x : Int)) = true := by simp; omega
    clear HX HNx hx32
    go_wp2_with (first
  | (refine wpl_store_it H1.out it0 none 0 0 rfl _ _ rfl rfl rfl rfl ?_)
  | (refine wpl_store_it HR.out it0 none 0 0 rfl _ _ rfl rfl rfl rfl ?_)
  | (refine Rg.run rfl _ _ (op_load_it HN.out ?_) ?_; · exact ⟨_, rfl, rfl⟩))
    exact bodyPost_ret (res_item3 rfl _ rfl (own_rowI HR.out)) rfl (post_err 5 HE.out (by decide) rfl (below_row HB.out (Nat.le_refl _) _))
  ·obtain rfl : q = m + 1 := by omega
   obtain rfl : x = V := by rw [HX.out, HV.out]; rfl
   clear HX
   by_cases hv : x ≤ 55
   ·go_wp2_with (first
  | (refine wpl_store_it H1.out it0 none 0 0 rfl _ _ rfl rfl rfl rfl ?_)
  | (refine wpl_store_it HR.out it0 none 0 0 rfl _ _ rfl rfl rfl rfl ?_)
  | (refine Rg.run rfl _ _ (op_load_it HN.out ?_) ?_; · exact ⟨_, rfl, rfl⟩))
    exact bodyPost_ret (res_item3 rfl _ rfl (own_rowI HR.out)) rfl (post_err 6 HE.out (by decide) rfl (below_row HB.out (Nat.le_refl _) _))
   ·have hv2 : s.size - (1 + m) < x := by omega
    go_wp2_with (first
  | (refine wpl_store_it H1.out it0 none 0 0 rfl _ _ rfl rfl rfl rfl ?_)
  | (refine wpl_store_it HR.out it0 none 0 0 rfl _ _ rfl rfl rfl rfl ?_)
  | (refine Rg.run rfl _ _ (op_load_it HN.out ?_) ?_; · exact ⟨_, rfl, rfl⟩))
    exact bodyPost_ret (res_item3 rfl _ rfl (own_rowI HR.out)) rfl (post_err 5 HE.out (by decide) rfl (below_row HB.out (Nat.le_refl _) _))
theorem rread_l_text (s : ByteArray) (d k : Nat) (dI lI : Int) (w : World) (hdI : dI = d) (hlI : lI + k = 4096) (hk : k ≤ 4096) (h : d ≤ 64) (h2 : k < 4096) (hmax : s.size ≤ 1000000) (c : UInt8) (t : List UInt8) (hs : s.data.toList = c :: t) (hc : 128 ≤ c.toNat) (hL : c.toNat < 192) (h5 : ¬ c.toNat % 64 ≤ 55) (hlt : ¬ t.length < c.toNat % 64 - 55) (hz : t.headD 0 ≠ 0) (hv56 : ¬ valB (t.take (c.toNat % 64 - 55)) ≤ 55) (hfit : c.toNat % 64 - 55 + valB (t.take (c.toNat % 64 - 55)) ≤ t.length) : Calls Tryz.prog 49 #[.string s, .int .i64 dI, .int .i64 lI] w (RPost w (readL s.data.toList d k)) := by
 have HE : Hid (readL s.data.toList d k = .ok (.mk false (s.extract (1 + (c.toNat % 64 - 55)) (1 + (c.toNat % 64 - 55) + valB (t.take (c.toNat % 64 - 55)))) [], 1 + (c.toNat % 64 - 55) + valB (t.take (c.toNat % 64 - 55)), k + 1)) := hid (by
  rw [readL_eq, if_neg (by omega), if_neg (by omega), hs, headE_of c t hc, if_neg h5, if_neg hlt, if_neg (by rintro (e | e); exact hz e; exact hv56 e)]
  dsimp only
  rw [if_neg (by rw [List.length_cons]; omega), if_neg (by simp; omega), if_neg (by omega), ext_bytes, hs])
 rw [HE.out]
 have hs0 : 0 < s.size := by rw [size_len, hs]; simp
 have hne := size_pos_ne hs0
 have hsl : t.length + 1 = s.size := by rw [size_len, hs]; rfl
 have hg0 := get_at s 0 hs0
 rw [hs, List.getD_cons_zero] at hg0
 have hcl := c.toNat_lt
 obtain ⟨C, hC⟩ : ∃ C, c.toNat = C := ⟨_, rfl⟩
 rw [hC] at hcl
 have hg1 : (s[0]'hs0).toNat = C := by rw [hg0, hC]
 rw [hC] at hc h5 hlt hv56 hfit hL ⊢
 obtain ⟨m, hm⟩ : ∃ m, C % 64 - 55 = m := ⟨_, rfl⟩
 obtain ⟨n0, hn0⟩ : ∃ n0, C % 64 = n0 := ⟨_, rfl⟩
 have hrem : (C : Int).tmod 64 = (n0 : Int) := by rw [Int.tmod_eq_emod_of_nonneg (by omega)]; omega
 have hmI : (n0 : Int) - 55 = (m : Int) := by omega
 have h55 : ¬ n0 ≤ 55 := by omega
 have h8 : m ≤ 8 := by omega
 have hm1 : 1 ≤ m := by omega
 rw [hm] at hv56 hfit ⊢
 have hlt2 : ¬ s.size < 1 + m := by omega
 have hdrop : s.data.toList.drop 1 = t := by rw [hs]; rfl
 have hs1 : 1 < s.size := by omega
 have hg2 := get_at s 1 hs1
 have hsec : (s.data.toList.getD 1 0) = t.headD 0 := by
  rw [hs, List.getD_cons_succ]
  cases t with
  | nil => rfl
  | cons y ys => rfl
 rw [hsec] at hg2
 obtain ⟨V, hV⟩ : ∃ V, valB (t.take m) = V := ⟨_, rfl⟩
 have HV : Hid (V = valB ((s.data.toList.drop 1).take m)) := hid (by rw [hdrop, hV])
 rw [hV] at hv56 hfit ⊢
 have hgz : ((s[1]'hs1).toNat : Int) ≠ 0 := by
  intro e
  apply hz
  rw [← hg2]
  apply UInt8.toNat_inj.1
  have : (0 : UInt8).toNat = 0 := rfl
  omega
 have hgb : (((s[1]'hs1).toNat : Int) == 0) = false := by simp only [beq_eq_false_iff_ne]; exact hgz
 have hV32 : V ≤ 1000000 := by omega
 have hbd2 : ¬ s.size - (1 + m) < V := by omega
 have hLb : decide (192 ≤ (C : Int)) = false := by simp; omega
 have hq : ((V : Int) == 1) = false := by simp; omega
 clear hg0 hs hC hn0 hm hg2 hsec hdrop hV hz HE
 obtain ⟨h1, h2⟩ := two_boxes w
 obtain ⟨hR, hN, hB, hsz⟩ := h2 _ rfl
 have H1 := hid h1
 have HR := hid hR
 have HN := hid hN
 have HB := hid hB
 have HSz := hid hsz
 clear h1 h2 hR hN hB hsz
 go_enter Tryz.func49, Tryz.ntmps49
 go_wp2_with (first
  | (refine wpl_store_it H1.out it0 none 0 0 rfl _ _ rfl rfl rfl rfl ?_)
  | (refine wpl_store_it HR.out it0 none 0 0 rfl _ _ rfl rfl rfl rfl ?_)
  | (refine Rg.run rfl _ _ (op_load_it HN.out ?_) ?_; · exact ⟨_, rfl, rfl⟩))
 go_loop [13, 16] (fun v i => ∃ q x : Nat, 1 ≤ q ∧ q ≤ m + 1 ∧ i = .int .i64 q ∧ v = .int .i64 x ∧ Hid (x = valB ((s.data.toList.drop 1).take (q - 1)))) (fun _ i => m + 1 - (intOf i).toNat)
 case atStart => exact ⟨1, 0, Nat.le_refl _, by omega, rfl, rfl, hid rfl⟩
 case round =>
  obtain ⟨q, x, hq1, hqm, rfl, rfl, HX⟩ := hrel
  by_cases hqt : q ≤ m
  ·have hqs : q < s.size := by omega
   have hb := (s[q]'hqs).toNat_lt
   have HNx : Hid (256 * x + (s[q]'hqs).toNat = valB ((s.data.toList.drop 1).take (q + 1 - 1))) := hid (by
    rw [show q + 1 - 1 = q by omega, take_next _ q hq1 (by rw [← size_len]; exact hqs), valB_snoc, ← HX.out, get_at s q hqs, Nat.mul_comm])
   obtain ⟨y, hy⟩ : ∃ y, (s[q]'hqs).toNat = y := ⟨_, rfl⟩
   rw [hy] at hb HNx
   have hx32 : x < 4294967296 := by
    have h1 := valB_take (s.data.toList.drop 1) (q - 1) m (by omega)
    rw [← HX.out, ← HV.out] at h1
    omega
   have hge : decide ((4294967296 : Int) ≤ (x : Int)) = false := by simp; omega
   have hxb : x ≤ 1099511627776 := by omega
   clear HX hx32
   go_wp2
   go_round
   case rel => exact ⟨q + 1, 256 * x + y, by omega, by omega, by go_num, by go_num, hid HNx.out⟩
   case measure => simp [intOf]; omega
  ·obtain rfl : q = m + 1 := by omega
   obtain rfl : x = V := by rw [HX.out, HV.out]; rfl
   clear HX
   go_wp2_with (first
  | (refine wpl_store_it H1.out it0 none 0 0 rfl _ _ rfl rfl rfl rfl ?_)
  | (refine wpl_store_it HR.out it0 none 0 0 rfl _ _ rfl rfl rfl rfl ?_)
  | (refine Rg.run rfl _ _ (op_load_it HN.out ?_) ?_; · exact ⟨_, rfl, rfl⟩)
    | (refine wpl_store_it HR.out (.mk false (s.extract (1 + m) (1 + m + x)) []) none 0 0 rfl _ _ rfl rfl rfl rfl ?_))
   exact bodyPost_ret (res_item3 rfl _ rfl (own_rowI HR.out)) rfl ⟨none, 0, 0, _, _, rfl, by omega, by omega, ItsIn.nil _ _, below_row HB.out (Nat.le_refl _) _⟩
theorem rread_l_list (s : ByteArray) (d k : Nat) (dI lI : Int) (w : World) (hdI : dI = d) (hlI : lI + k = 4096) (hk : k ≤ 4096) (h : d ≤ 64) (h2 : k < 4096) (hmax : s.size ≤ 1000000) (c : UInt8) (t : List UInt8) (hs : s.data.toList = c :: t) (hc : 128 ≤ c.toNat) (hL : 192 ≤ c.toNat) (h5 : ¬ c.toNat % 64 ≤ 55) (hlt : ¬ t.length < c.toNat % 64 - 55) (hz : t.headD 0 ≠ 0) (hv56 : ¬ valB (t.take (c.toNat % 64 - 55)) ≤ 55) (hfit : c.toNat % 64 - 55 + valB (t.take (c.toNat % 64 - 55)) ≤ t.length) (hRC : ∀ r : ByteArray, r.size < s.size → RC r) : Calls Tryz.prog 49 #[.string s, .int .i64 dI, .int .i64 lI] w (RPost w (readL s.data.toList d k)) := by
 have HE : Hid (readL s.data.toList d k = listE (1 + (c.toNat % 64 - 55) + valB (t.take (c.toNat % 64 - 55))) (allL (s.extract (1 + (c.toNat % 64 - 55)) (1 + (c.toNat % 64 - 55) + valB (t.take (c.toNat % 64 - 55)))).data.toList (d + 1) (k + 1))) := hid (by
  have hx : (s.extract (1 + (c.toNat % 64 - 55)) (1 + (c.toNat % 64 - 55) + valB (t.take (c.toNat % 64 - 55)))).data.toList = (s.data.toList.drop (1 + (c.toNat % 64 - 55))).take (valB (t.take (c.toNat % 64 - 55))) := by rw [ext_bytes]
  rw [hx, readL_eq, if_neg (by omega), if_neg (by omega), hs, headE_of c t hc, if_neg h5, if_neg hlt, if_neg (by rintro (e | e); exact hz e; exact hv56 e)]
  dsimp only
  rw [if_neg (by rw [List.length_cons]; omega), if_pos (by simp; omega)]
  rfl)
 rw [HE.out]
 subst hdI
 have hs0 : 0 < s.size := by rw [size_len, hs]; simp
 have hne := size_pos_ne hs0
 have hsl : t.length + 1 = s.size := by rw [size_len, hs]; rfl
 have hg0 := get_at s 0 hs0
 rw [hs, List.getD_cons_zero] at hg0
 have hcl := c.toNat_lt
 obtain ⟨C, hC⟩ : ∃ C, c.toNat = C := ⟨_, rfl⟩
 rw [hC] at hcl
 have hg1 : (s[0]'hs0).toNat = C := by rw [hg0, hC]
 rw [hC] at hc h5 hlt hv56 hfit hL ⊢
 obtain ⟨m, hm⟩ : ∃ m, C % 64 - 55 = m := ⟨_, rfl⟩
 obtain ⟨n0, hn0⟩ : ∃ n0, C % 64 = n0 := ⟨_, rfl⟩
 have hrem : (C : Int).tmod 64 = (n0 : Int) := by rw [Int.tmod_eq_emod_of_nonneg (by omega)]; omega
 have hmI : (n0 : Int) - 55 = (m : Int) := by omega
 have h55 : ¬ n0 ≤ 55 := by omega
 have h8 : m ≤ 8 := by omega
 have hm1 : 1 ≤ m := by omega
 rw [hm] at hv56 hfit ⊢
 have hlt2 : ¬ s.size < 1 + m := by omega
 have hdrop : s.data.toList.drop 1 = t := by rw [hs]; rfl
 have hs1 : 1 < s.size := by omega
 have hg2 := get_at s 1 hs1
 have hsec : (s.data.toList.getD 1 0) = t.headD 0 := by
  rw [hs, List.getD_cons_succ]
  cases t with
  | nil => rfl
  | cons y ys => rfl
 rw [hsec] at hg2
 obtain ⟨V, hV⟩ : ∃ V, valB (t.take m) = V := ⟨_, rfl⟩
 have HV : Hid (V = valB ((s.data.toList.drop 1).take m)) := hid (by rw [hdrop, hV])
 rw [hV] at hv56 hfit ⊢
 have hgz : ((s[1]'hs1).toNat : Int) ≠ 0 := by
  intro e
  apply hz
  rw [← hg2]
  apply UInt8.toNat_inj.1
  have : (0 : UInt8).toNat = 0 := rfl
  omega
 have hgb : (((s[1]'hs1).toNat : Int) == 0) = false := by simp only [beq_eq_false_iff_ne]; exact hgz
 have hV32 : V ≤ 1000000 := by omega
 have hbd2 : ¬ s.size - (1 + m) < V := by omega
 have hLb : decide (192 ≤ (C : Int)) = true := by simp; omega
 obtain ⟨T, hT⟩ : ∃ T, s.extract (1 + m) (1 + m + V) = T := ⟨_, rfl⟩
 have hTs : T.size < s.size := by rw [← hT]; simp; omega
 rw [hT]
 have HRC : Hid (∀ r : ByteArray, r.size ≤ T.size → RC r) := hid (fun r hr => hRC r (by omega))
 obtain ⟨r0, hr0⟩ : ∃ r0, allL T.data.toList (d + 1) (k + 1) = r0 := ⟨_, rfl⟩
 have H0 : Hid (r0 = glue [] (allL T.data.toList (d + 1) (k + 1))) := hid (by rw [glue_zero, hr0])
 rw [hr0]
 have HTT := hid hT
 clear hg0 hs hC hn0 hm hg2 hsec hdrop hV hz HE hRC hr0 hT
 obtain ⟨h1, h2⟩ := two_boxes w
 obtain ⟨hR, hN, hB, hsz⟩ := h2 _ rfl
 obtain ⟨h3, h4⟩ := three_boxes w _ hR hN hB hsz
 obtain ⟨hR4, hN4, hS4, hB4, hsz4⟩ := h4 _ rfl
 have HL0 := hid h3
 have HR4 := hid hR4
 have HN4 := hid hN4
 have HS4 := hid hS4
 have HB4 := hid hB4
 have HSz4 := hid hsz4
 have H1 := hid h1
 have HR := hid hR
 have HN := hid hN
 have HB := hid hB
 have HSz := hid hsz
 clear h3 h4 hR4 hN4 hS4 hB4 hsz4 h1 h2 hR hN hB hsz
 go_enter Tryz.func49, Tryz.ntmps49
 go_wp2_with (first
  | (refine wpl_store_it H1.out it0 none 0 0 rfl _ _ rfl rfl rfl rfl ?_)
  | (refine wpl_store_it HR.out it0 none 0 0 rfl _ _ rfl rfl rfl rfl ?_)
  | (refine Rg.run rfl _ _ (op_load_it HN.out ?_) ?_; · exact ⟨_, rfl, rfl⟩))
 go_loop [13, 16] (fun v i => ∃ q x : Nat, 1 ≤ q ∧ q ≤ m + 1 ∧ i = .int .i64 q ∧ v = .int .i64 x ∧ Hid (x = valB ((s.data.toList.drop 1).take (q - 1)))) (fun _ i => m + 1 - (intOf i).toNat)
 case atStart => exact ⟨1, 0, Nat.le_refl _, by omega, rfl, rfl, hid rfl⟩
 case round =>
  obtain ⟨q, x, hq1, hqm, rfl, rfl, HX⟩ := hrel
  by_cases hqt : q ≤ m
  ·have hqs : q < s.size := by omega
   have hb := (s[q]'hqs).toNat_lt
   have HNx : Hid (256 * x + (s[q]'hqs).toNat = valB ((s.data.toList.drop 1).take (q + 1 - 1))) := hid (by
    rw [show q + 1 - 1 = q by omega, take_next _ q hq1 (by rw [← size_len]; exact hqs), valB_snoc, ← HX.out, get_at s q hqs, Nat.mul_comm])
   obtain ⟨y, hy⟩ : ∃ y, (s[q]'hqs).toNat = y := ⟨_, rfl⟩
   rw [hy] at hb HNx
   have hx32 : x < 4294967296 := by
    have h1 := valB_take (s.data.toList.drop 1) (q - 1) m (by omega)
    rw [← HX.out, ← HV.out] at h1
    omega
   have hge : decide ((4294967296 : Int) ≤ (x : Int)) = false := by simp; omega
   have hxb : x ≤ 1099511627776 := by omega
   clear HX hx32
   go_wp2
   go_round
   case rel => exact ⟨q + 1, 256 * x + y, by omega, by omega, by go_num, by go_num, hid HNx.out⟩
   case measure => simp [intOf]; omega
  ·obtain rfl : q = m + 1 := by omega
   obtain rfl : x = V := by rw [HX.out, HV.out]; rfl
   clear HX
   go_wp2_with (first
  | (refine wpl_store_it H1.out it0 none 0 0 rfl _ _ rfl rfl rfl rfl ?_)
  | (refine wpl_store_it HR.out it0 none 0 0 rfl _ _ rfl rfl rfl rfl ?_)
  | (refine Rg.run rfl _ _ (op_load_it HN.out ?_) ?_; · exact ⟨_, rfl, rfl⟩)
    | (refine wpl_store_it HL0.out (.mk true ⟨#[]⟩ []) none 0 0 rfl _ _ rfl rfl rfl rfl ?_))
   go_loopw [2, 17] (fun lv rs wr => ∃ (r : ByteArray) (xs : List It) (kk : Nat) (lJ : Int) (v : Value), lv = .int .i64 lJ ∧ rs = .string r ∧ lJ + kk = 4096 ∧ r.size ≤ T.size ∧ kk ≤ 4096 ∧ xs.length ≤ kk ∧ Hid (r0 = glue xs (allL r.data.toList (d + 1) kk)) ∧ Hid (RowI (w.heap.size + 3) wr v xs) ∧ Hid (Rg.Own wr w.heap.size (itC it0 none 0 0) 101) ∧ Hid (Rg.Own wr (w.heap.size + 1) (itC it0 none 0 0) 101) ∧ Hid (Rg.Own wr (w.heap.size + 2) #[.bool true, .string ⟨#[]⟩, v] 101) ∧ Hid (Below w.heap.size w wr) ∧ w.heap.size + 3 ≤ wr.heap.size) (fun _ rs _ => restSize rs)
   case atStart => exact ⟨T, [], k + 1, _, .slice none 0 0, rfl, congrArg Value.string HTT.out, by omega, Nat.le_refl _, by omega, Nat.zero_le _, hid H0.out, hid (RowI.nil _ _), hid HR4.out, hid HN4.out, hid HS4.out, hid HB4.out, by have := HSz4.out; omega⟩
   case round =>
    obtain ⟨r, xs, kk, lJ, v, rfl, rfl, hlJ, hrT, hkk, hxk, HGl, HRow, HRr, HNr, HSr, HBr, hszr⟩ := hrel
    clear H0 HR4 HN4 HS4 HB4 HSz4 HL0 H1 HR HN HB HSz
    by_cases hne : r.data.toList = []
    ·have e1 : (r.toList == []) = true := by rw [ByteArray.toList_eq, hne]; rfl
     have e2 : (r.toList != []) = false := by rw [bne, e1]; rfl
     have e3 : r.toList.isEmpty = true := by rw [ByteArray.toList_eq, hne]; rfl
     have hg := HGl.out
     rw [hne, glue_nil] at hg
     obtain ⟨a', n', c', hv, hI⟩ := HRow.out.done (by omega)
     subst hg
     subst hv
     have HI := hid hI
     clear hI HRow HGl hne HRC
     go_wp2_with (first
      | (refine Rg.run rfl _ _ (op_load_it (x := .mk true ⟨#[]⟩ xs) HSr.out ?_) ?_; · exact ⟨_, rfl, rfl⟩)
      | (refine wpl_store_it HRr.out (.mk true ⟨#[]⟩ xs) a' n' c' rfl _ _ rfl rfl rfl rfl ?_))
     exact bodyPost_ret (res_item3 rfl _ rfl (own_rowI HRr.out)) rfl ⟨a', n', c', _, _, rfl, by omega, by omega, ItsIn.weak (ItsIn_row HI.out (by omega) _) (by omega), below_row HBr.out (Nat.le_refl _) _⟩
    ·have e1 : (r.toList == []) = false := by rw [beq_eq_false_iff_ne, ByteArray.toList_eq]; exact hne
     have e2 : (r.toList != []) = true := by rw [bne, e1]; rfl
     have e3 : r.toList.isEmpty = false := by
      rw [ByteArray.toList_eq]
      cases hd : r.data.toList with
      | nil => exact absurd hd hne
      | cons _ _ => rfl
     have hrd := HRC.out r hrT (d + 1) kk ((d : Int) + 1) lJ wr (by omega) (by omega) hlJ hkk
     have hlv := HRow.out.lt
     cases hrr : readL r.data.toList (d + 1) kk with
     | error c1 =>
      rw [hrr] at hrd
      have HD : Hid (Calls Tryz.prog 49 #[.string r, .int .i64 ((d : Int) + 1), .int .i64 lJ] wr fun e w' => ∃ c : Int, c ≠ 0 ∧ e = .returned (.tuple #[itV it0 none 0 0, .int .i64 0, .int .i64 0, .int .i64 c]) ∧ Below wr.heap.size wr w') := hid hrd
      have hg := HGl.out
      rw [glue_err hne hrr] at hg
      subst hg
      clear hrd hrr HGl hne HRow HRC hlv
      go_wp2_with fail
      with_reducible refine HD.out.mono ?_
      rintro e w1 ⟨c2, hc2, rfl, hb1⟩
      have hne2 : (c2 != 0) = true := by simp; exact hc2
      have HT0 : Hid (Rg.Own (w1.alloc (.cells #[.bool false, .string ⟨#[]⟩, .slice none 0 0] 101)) w1.heap.size (itC it0 none 0 0) 101) := hid (Rg.Own.new _ _ _)
      have hz1 := hb1.size
      have HR1 := hid (own_row (cs' := itC it0 none 0 0) ((HRr.out.below hb1).below (al1 w1 (.cells #[.bool false, .string ⟨#[]⟩, .slice none 0 0] 101))) (show w.heap.size ≠ w1.heap.size by omega))
      have HN1 := hid (own_row (cs' := itC it0 none 0 0) ((HNr.out.below hb1).below (al1 w1 (.cells #[.bool false, .string ⟨#[]⟩, .slice none 0 0] 101))) (show w.heap.size + 1 ≠ w1.heap.size by omega))
      have HB1 := hid (below_row (bst (HBr.out.trans (hb1.mono (by omega))) (al1 w1 (.cells #[.bool false, .string ⟨#[]⟩, .slice none 0 0] 101))) (show w.heap.size ≤ w1.heap.size by omega) (itC it0 none 0 0))
      clear hb1 HD
      unfold itV
      go_wp2_with (first
       | (refine wpl_store_it HT0.out it0 none 0 0 rfl _ _ rfl rfl rfl rfl ?_)
       | (refine Rg.run rfl _ _ (op_load_it HN1.out ?_) ?_; · exact ⟨_, rfl, rfl⟩)
       | (refine wpl_store_it HR1.out it0 none 0 0 rfl _ _ rfl rfl rfl rfl ?_))
      exact bodyPost_ret (res_item3 rfl _ rfl (own_rowI HR1.out)) rfl ⟨c2, hc2, rfl, below_row HB1.out (Nat.le_refl _) _⟩
     | ok q =>
      obtain ⟨x, n1, k2⟩ := q
      rw [hrr] at hrd
      have HD : Hid (Calls Tryz.prog 49 #[.string r, .int .i64 ((d : Int) + 1), .int .i64 lJ] wr fun e w' => ∃ (a : Option Addr) (nn cap : Nat) (nI lI : Int), e = .returned (.tuple #[itV x a nn cap, .int .i64 nI, .int .i64 lI, .int .i64 0]) ∧ nI = n1 ∧ lI + k2 = 4096 ∧ ItsIn wr.heap.size w' x.xs a nn cap ∧ Below wr.heap.size wr w') := hid hrd
      obtain ⟨p1, p2, p3, p4⟩ := (props r.data.toList.length).1 _ _ _ _ _ _ (Nat.le_refl _) hrr
      rw [← size_len] at p2
      have hg := HGl.out
      rw [glue_more hne p1 hrr] at hg
      have HGl2 := hid hg
      have HOk : Hid (∀ j, v.ownBlock = some j → w.heap.size + 3 ≤ j ∧ j < wr.heap.size) := hid hlv
      clear hrd hrr HGl hne hg hlv HRC
      unfold itV at HD
      go_wp2_with fail
      with_reducible refine HD.out.mono ?_
      rintro e w1 ⟨A1, N1, C1, nI, lI2, rfl, hnI, hl2, hI, hb1⟩
      have hz1 := hb1.size
      have HT0 : Hid (Rg.Own (w1.alloc (.cells #[.bool false, .string ⟨#[]⟩, .slice none 0 0] 101)) w1.heap.size (itC it0 none 0 0) 101) := hid (Rg.Own.new _ _ _)
      obtain ⟨w3, hw3⟩ : ∃ w3, w3 = (w1.alloc (.cells #[.bool false, .string ⟨#[]⟩, .slice none 0 0] 101)).setRow w1.heap.size (itC x A1 N1 C1) := ⟨_, rfl⟩
      have hz3 : w3.heap.size = w1.heap.size + 1 := by rw [hw3]; simp
      have hb3 : Below w1.heap.size w1 w3 := by rw [hw3]; exact below_row (al1 _ _) (Nat.le_refl _) _
      have HT3 : Hid (Rg.Own w3 w1.heap.size (itC x A1 N1 C1) 101) := hid (by rw [hw3]; exact own_row_same HT0.out)
      have HR3 := hid ((HRr.out.below hb1).below hb3)
      have HN3 := hid ((HNr.out.below hb1).below hb3)
      have hS3 := (HSr.out.below hb1).below hb3
      have HS3 := hid hS3
      have HRow3 := hid ((HRow.out.below' hb1).below' hb3)
      have HB3 := hid (bst (HBr.out.trans (hb1.mono (by omega))) hb3)
      have HI3 : Hid (ItsP (fun b => w.heap.size + 3 ≤ b ∧ v.ownBlock ≠ some b) w3 x.xs A1 N1 C1) := hid ((ItsP.to hI (p' := fun b => w.heap.size + 3 ≤ b ∧ v.ownBlock ≠ some b) (fun b _ hb => ⟨by omega, fun e => by have := (HOk.out b e).2; omega⟩)).stays hb3)
      have c2 : w3.cell? ⟨w.heap.size + 1 + 1, 2, none⟩ = some v := by rw [cell_of_row w3 _ _ _ _ _ hS3.2]; rfl
      have hl3 : (w.heap.size + 3) ≤ w3.heap.size := by omega
      clear hb1 hI hb3 HD HRr HNr HSr HRow HBr hS3
      subst hw3
      go_wp2_with (first
       | (refine wpl_store_it HT0.out x A1 N1 C1 rfl _ _ rfl rfl rfl rfl ?_)
       | (refine Rg.run rfl _ _ (op_load_it HT3.out ?_) ?_; · exact ⟨_, rfl, rfl⟩)
       | (refine wpl_item (x := x) (A := A1) (N := N1) (C := C1) (by rfl) _ rfl rfl ?_; intro w4 b4 ho4 hb4)
       | (refine wpl_push (B := w.heap.size + 3) (v := v) (by rfl) (HRow3.out.below' hb4) ho4 (HI3.out.stays hb4) (by omega) (by have := hb4.size; omega) _ _ rfl rfl rfl ?_; intro v5 w5 hr5 hg5; obtain ⟨a5, n5, k5, rfl⟩ := hr5.shape; have hO5 := own_gb' (HS3.out.below hb4) hg5 (fun e => by have := (HOk.out _ e).1; omega); have c5 : w5.cell? ⟨w.heap.size + 1 + 1, 2, none⟩ = some v := (by rw [cell_of_row w5 _ _ _ _ _ hO5.2]; rfl); have f5 : w5.frozen? ⟨w.heap.size + 1 + 1, 2, none⟩ = false := own_free' hO5))
      obtain ⟨v5, hv5⟩ : ∃ v5, Value.slice a5 n5 k5 = v5 := ⟨_, rfl⟩
      rw [hv5] at hr5
      have hvb : ∀ b, b = w.heap.size ∨ b = w.heap.size + 1 ∨ b = w.heap.size + 2 → v.ownBlock ≠ some b := fun b hb e => by have := (HOk.out b e).1; omega
      have hz4 := hb4.size
      have HO6 : Hid (Rg.Own (w5.setCell ⟨w.heap.size + 2, 2, none⟩ v5) (w.heap.size + 2) #[.bool true, .string ⟨#[]⟩, v5] 101) := hid (own_cell hO5 v5)
      have HR6 := hid (own_cell_other (o := 2) (own_gb' (HR3.out.below hb4) hg5 (hvb _ (.inl rfl))) v5 (show w.heap.size ≠ w.heap.size + 2 by omega))
      have HN6 := hid (own_cell_other (o := 2) (own_gb' (HN3.out.below hb4) hg5 (hvb _ (.inr (.inl rfl)))) v5 (show w.heap.size + 1 ≠ w.heap.size + 2 by omega))
      have HRow6 := hid (hr5.gb (gb_set w5 (w.heap.size + 2) 2 v5) (by omega))
      have HB6 : Hid (Below w.heap.size w (w5.setCell ⟨w.heap.size + 2, 2, none⟩ v5)) := hid (((bst HB3.out hb4).grown hg5 (by omega) (fun j hj => by have := (HOk.out j hj).1; omega)).setCell (p := ⟨w.heap.size + 2, 2, none⟩) (by show w.heap.size ≤ w.heap.size + 2; omega) _)
      have hz5 := hg5.size
      have hz6 : w.heap.size + 3 ≤ (w5.setCell ⟨w.heap.size + 2, 2, none⟩ v5).heap.size := by simp; omega
      have hcut : (r.extract n1 r.size).size = r.size - n1 := by simp
      have HRB := hid (rest_bytes r n1 p2)
      subst hnI
      subst hv5
      clear hO5 hr5 hg5 hb4 ho4 HS3 HN3 HR3 HRow3 HI3 HT3 HT0 HB3 hvb
      go_wp2
      go_roundw
      case rel => exact ⟨r.extract n1 r.size, xs ++ [x], k2, lI2, .slice a5 n5 k5, rfl, rfl, hl2, by omega, p4, by rw [List.length_append, List.length_singleton]; omega, hid (by rw [HRB.out]; exact HGl2.out), HRow6, HR6, HN6, HO6, HB6, hz6⟩
      case measure => simp [restSize]; omega
theorem rread_tells (N : Nat) (hN : N ≤ 1000000) : ∀ s : ByteArray, s.size ≤ N → RC s := by
 induction N using Nat.strongRecOn with
 | ind N ih =>
  intro s hs d k dI lI w hdI hd hlI hk
  by_cases h1 : 64 < d
  ·exact rread_deep s d k dI lI w hdI hlI hk h1
  ·by_cases h2 : k = 4096
   ·exact rread_big s d k dI lI w hdI hlI hk (by omega) h2
   ·by_cases h0 : s.size = 0
    ·exact rread_nil s d k dI lI w hdI hlI hk (by omega) (by omega) h0
    ·have hRC : ∀ r : ByteArray, r.size < s.size → RC r := fun r hr => ih r.size (by omega) (by omega) r (Nat.le_refl _)
     cases hd : s.data.toList with
     | nil =>
      have := len_s s
      rw [hd] at this
      exact absurd this.symm h0
     | cons c t =>
      rw [← hd]
      by_cases hc : c.toNat < 128
      ·exact rread_self s d k dI lI w hdI hlI hk (by omega) (by omega) c t hd hc
      ·by_cases h5 : c.toNat % 64 ≤ 55
       ·by_cases hlt : t.length < c.toNat % 64
        ·exact rread_s_short s d k dI lI w hdI hlI hk (by omega) (by omega) (by omega) c t hd (by omega) h5 hlt
        ·by_cases hL : c.toNat < 192
         ·by_cases hn1 : c.toNat % 64 = 1
          ·by_cases hF : (t.headD 0).toNat < 128
           ·exact rread_s_bad s d k dI lI w hdI hlI hk (by omega) (by omega) (by omega) c t hd (by omega) hL hn1 (by omega) hF
           ·exact rread_s_text1 s d k dI lI w hdI hlI hk (by omega) (by omega) (by omega) c t hd (by omega) hL hn1 (by omega) hF
          ·exact rread_s_text s d k dI lI w hdI hlI hk (by omega) (by omega) (by omega) c t hd (by omega) hL h5 (by omega) hn1
         ·exact rread_s_list s d k dI lI w hdI hlI hk (by omega) (by omega) (by omega) c t hd (by omega) (by omega) h5 (by omega) hRC
       ·by_cases hlt : t.length < c.toNat % 64 - 55
        ·exact rread_l_cut s d k dI lI w hdI hlI hk (by omega) (by omega) (by omega) c t hd (by omega) h5 hlt
        ·by_cases hz : t.headD 0 = 0
         ·exact rread_l_zero s d k dI lI w hdI hlI hk (by omega) (by omega) (by omega) c t hd (by omega) h5 hlt hz
         ·by_cases hv : valB (t.take (c.toNat % 64 - 55)) ≤ 55
          ·exact rread_l_err s d k dI lI w hdI hlI hk (by omega) (by omega) (by omega) c t hd (by omega) h5 hlt hz (.inl hv)
          ·by_cases hf : c.toNat % 64 - 55 + valB (t.take (c.toNat % 64 - 55)) ≤ t.length
           ·by_cases hL : c.toNat < 192
            ·exact rread_l_text s d k dI lI w hdI hlI hk (by omega) (by omega) (by omega) c t hd (by omega) hL h5 hlt hz hv hf
            ·exact rread_l_list s d k dI lI w hdI hlI hk (by omega) (by omega) (by omega) c t hd (by omega) (by omega) h5 hlt hz hv hf hRC
           ·exact rread_l_err s d k dI lI w hdI hlI hk (by omega) (by omega) (by omega) c t hd (by omega) h5 hlt hz (.inr (by omega))
theorem rread_any (s : ByteArray) (hs : s.size ≤ 1000000) (w : World) : Calls Tryz.prog 49 #[.string s, .int .i64 0, .int .i64 4096] w (RPost w (readL s.data.toList 0 0)) :=
 rread_tells s.size hs s (Nat.le_refl _) 0 0 0 4096 w rfl (by omega) (by omega) (by omega)
end Rl
end
end Go.Proofs.YtgolhnfkmmajpaaGreatDoor
