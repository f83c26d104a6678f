/-
  The plain answer's Read: texts, and lists.
-/
import Derived.Test.YtoeblhdddehemaaDoorMg15
namespace Go.Proofs.YtoeblhdddehemaaDoor
set_option maxRecDepth 100000
open Go.RowKit

namespace Rl
set_option maxHeartbeats 8000000 in
theorem rread_s_text (s : ByteArray) (d k : Nat) (dI lI : Int) (w : World) (hdI : dI = d) (hlI : lI + k = 4096) (hk : k ≤ 4096) (h : d ≤ 64) (h2 : k < 4096) (hmax : s.size ≤ 1000000) (c : UInt8) (t : List UInt8) (hs : s.data.toList = c :: t) (hc : 128 ≤ c.toNat) (hL : c.toNat < 192) (h5 : c.toNat % 64 ≤ 55) (hlt : c.toNat % 64 ≤ t.length) (h1 : c.toNat % 64 ≠ 1) : Calls Tryd.prog 43 #[.string s, .int .i64 dI, .int .i64 lI] w (RPost w (readL s.data.toList d k)) := by
  have HE : Hid (readL s.data.toList d k = .ok (.mk false (s.extract 1 (1 + c.toNat % 64)) [], 1 + c.toNat % 64, k + 1)) := Lib.hid (by
    rw [readL_eq, if_neg (by omega), if_neg (by omega), hs, headE_of c t hc, if_pos h5]
    dsimp only
    rw [if_neg (by rw [List.length_cons]; omega), if_neg (by simp; omega), if_neg (by omega), ext_bytes, hs])
  rw [HE.out]
  have hs0 : 0 < s.size := by rw [size_len, hs]; simp
  have hne := size_pos_ne hs0
  have hsl : t.length + 1 = s.size := by rw [size_len, hs]; rfl
  have hg0 := get_at s 0 hs0
  rw [hs, List.getD_cons_zero] at hg0
  have hcl := c.toNat_lt
  obtain ⟨C, hC⟩ : ∃ C, c.toNat = C := ⟨_, rfl⟩
  rw [hC] at hcl
  have hg1 : (s[0]'hs0).toNat = C := by rw [hg0, hC]
  rw [hC] at hc h5 hlt hL h1 ⊢
  obtain ⟨n0, hn0⟩ : ∃ n0, C % 64 = n0 := ⟨_, rfl⟩
  have hrem : (C : Int).tmod 64 = (n0 : Int) := by rw [Int.tmod_eq_emod_of_nonneg (by omega)]; omega
  have h55 : n0 ≤ 55 := by omega
  rw [hn0] at hlt h5 h1 ⊢
  have hq : ((n0 : Int) == 1) = false := by simp; omega
  have hLb : decide (192 ≤ (C : Int)) = false := by simp; omega
  have hlt2 : n0 ≤ s.size - 1 := by omega
  clear hg0 hs hC HE
  obtain ⟨h1, h2⟩ := two_boxes w
  obtain ⟨hR, hN, hB, hsz⟩ := h2 _ rfl
  have H1 := Lib.hid h1
  have HR := Lib.hid hR
  have HN := Lib.hid hN
  have HB := Lib.hid hB
  have HSz := Lib.hid hsz
  clear h1 h2 hR hN hB hsz
  go_enter Tryd.func43, Tryd.ntmps43
  go_wp2_with (first
    | (refine wpl_store_it H1.out it0 none 0 0 rfl _ _ rfl rfl rfl rfl ?_)
    | (refine wpl_store_it HR.out it0 none 0 0 rfl _ _ rfl rfl rfl rfl ?_)
    | (refine Rg.run rfl _ _ (op_load_it HN.out ?_) ?_; · exact ⟨_, rfl, rfl⟩)
    | (refine wpl_store_it HR.out (.mk false (s.extract 1 (1 + n0)) []) none 0 0 rfl _ _ rfl rfl rfl rfl ?_))
  exact bodyPost_ret (res_item3 rfl _ rfl (own_rowI HR.out)) rfl ⟨none, 0, 0, _, _, rfl, by omega, by omega, ItsIn.nil _ _, below_row HB.out (Nat.le_refl _) _⟩
set_option maxHeartbeats 8000000 in
theorem rread_s_text1 (s : ByteArray) (d k : Nat) (dI lI : Int) (w : World) (hdI : dI = d) (hlI : lI + k = 4096) (hk : k ≤ 4096) (h : d ≤ 64) (h2 : k < 4096) (hmax : s.size ≤ 1000000) (c : UInt8) (t : List UInt8) (hs : s.data.toList = c :: t) (hc : 128 ≤ c.toNat) (hL : c.toNat < 192) (h1 : c.toNat % 64 = 1) (hlt : 1 ≤ t.length) (hF : ¬ (t.headD 0).toNat < 128) : Calls Tryd.prog 43 #[.string s, .int .i64 dI, .int .i64 lI] w (RPost w (readL s.data.toList d k)) := by
  have HE : Hid (readL s.data.toList d k = .ok (.mk false (s.extract 1 2) [], 2, k + 1)) := Lib.hid (by
    rw [readL_eq, if_neg (by omega), if_neg (by omega), hs, headE_of c t hc, if_pos (by omega)]
    dsimp only
    rw [if_neg (by rw [List.length_cons]; omega), if_neg (by simp; omega), if_neg (by
      rintro ⟨_, _, e⟩
      exact hF e), h1, show (2 : Nat) = 1 + 1 from rfl, ext_bytes, hs])
  rw [HE.out]
  have hs0 : 0 < s.size := by rw [size_len, hs]; simp
  have hne := size_pos_ne hs0
  have hsl : t.length + 1 = s.size := by rw [size_len, hs]; rfl
  have hg0 := get_at s 0 hs0
  rw [hs, List.getD_cons_zero] at hg0
  have hcl := c.toNat_lt
  obtain ⟨C, hC⟩ : ∃ C, c.toNat = C := ⟨_, rfl⟩
  rw [hC] at hcl
  have hg1 : (s[0]'hs0).toNat = C := by rw [hg0, hC]
  rw [hC] at hc hL h1
  have hrem : (C : Int).tmod 64 = 1 := by rw [Int.tmod_eq_emod_of_nonneg (by omega)]; omega
  obtain ⟨X, hX⟩ : ∃ X, s.extract 1 2 = X := ⟨_, rfl⟩
  have hXd : X.data.toList = t.take 1 := by
    have := ext_bytes s 1 1
    rw [show (1 : Nat) + 1 = 2 from rfl, hX, hs] at this
    rw [this]
    rfl
  have hx0 : 0 < X.size := by rw [size_len, hXd, List.length_take]; omega
  have hxf : (X[0]'hx0) = t.headD 0 := by
    rw [get_at X 0 hx0, hXd]
    cases t with
    | nil => rfl
    | cons y ys => rfl
  rw [← hxf] at hF
  have hxne := size_pos_ne hx0
  have hLb : decide (192 ≤ (C : Int)) = false := by simp; omega
  have hlt2 : 1 ≤ s.size - 1 := by omega
  have HXX := Lib.hid hX
  clear hg0 hs hC HE hXd hxf
  obtain ⟨h1, h2⟩ := two_boxes w
  obtain ⟨hR, hN, hB, hsz⟩ := h2 _ rfl
  have H1 := Lib.hid h1
  have HR := Lib.hid hR
  have HN := Lib.hid hN
  have HB := Lib.hid hB
  have HSz := Lib.hid hsz
  clear h1 h2 hR hN hB hsz
  go_enter Tryd.func43, Tryd.ntmps43
  go_wp2_with (first
    | (refine wpl_store_it H1.out it0 none 0 0 rfl _ _ rfl rfl rfl rfl ?_)
    | (refine wpl_store_it HR.out it0 none 0 0 rfl _ _ rfl rfl rfl rfl ?_)
    | (refine Rg.run rfl _ _ (op_load_it HN.out ?_) ?_; · exact ⟨_, rfl, rfl⟩)
    | (refine wpl_store_it HR.out (.mk false X []) none 0 0 rfl _ _ rfl rfl rfl rfl ?_))
  exact bodyPost_ret (res_item3 rfl _ rfl (own_rowI HR.out)) rfl (by
    rw [HXX.out]
    exact ⟨none, 0, 0, _, _, rfl, by omega, by omega, ItsIn.nil _ _, below_row HB.out (Nat.le_refl _) _⟩)
set_option maxHeartbeats 8000000 in
theorem rread_s_bad (s : ByteArray) (d k : Nat) (dI lI : Int) (w : World) (hdI : dI = d) (hlI : lI + k = 4096) (hk : k ≤ 4096) (h : d ≤ 64) (h2 : k < 4096) (hmax : s.size ≤ 1000000) (c : UInt8) (t : List UInt8) (hs : s.data.toList = c :: t) (hc : 128 ≤ c.toNat) (hL : c.toNat < 192) (h1 : c.toNat % 64 = 1) (hlt : 1 ≤ t.length) (hF : (t.headD 0).toNat < 128) : Calls Tryd.prog 43 #[.string s, .int .i64 dI, .int .i64 lI] w (RPost w (readL s.data.toList d k)) := by
  have HE : Hid (∃ c, readL s.data.toList d k = .error c) := Lib.hid (by
    rw [readL_eq, if_neg (by omega), if_neg (by omega), hs, headE_of c t hc, if_pos (by omega)]
    dsimp only
    rw [if_neg (by rw [List.length_cons]; omega), if_neg (by simp; omega), if_pos ⟨rfl, h1, hF⟩]
    exact ⟨_, rfl⟩)
  obtain ⟨r, hr⟩ : ∃ r, readL s.data.toList d k = r := ⟨_, rfl⟩
  rw [hr] at HE ⊢
  clear hr
  have hs0 : 0 < s.size := by rw [size_len, hs]; simp
  have hne := size_pos_ne hs0
  have hsl : t.length + 1 = s.size := by rw [size_len, hs]; rfl
  have hg0 := get_at s 0 hs0
  rw [hs, List.getD_cons_zero] at hg0
  have hcl := c.toNat_lt
  obtain ⟨C, hC⟩ : ∃ C, c.toNat = C := ⟨_, rfl⟩
  rw [hC] at hcl
  have hg1 : (s[0]'hs0).toNat = C := by rw [hg0, hC]
  rw [hC] at hc hL h1
  have hrem : (C : Int).tmod 64 = 1 := by rw [Int.tmod_eq_emod_of_nonneg (by omega)]; omega
  obtain ⟨X, hX⟩ : ∃ X, s.extract 1 2 = X := ⟨_, rfl⟩
  have hXd : X.data.toList = t.take 1 := by
    have := ext_bytes s 1 1
    rw [show (1 : Nat) + 1 = 2 from rfl, hX, hs] at this
    rw [this]
    rfl
  have hx0 : 0 < X.size := by rw [size_len, hXd, List.length_take]; omega
  have hxf : (X[0]'hx0) = t.headD 0 := by
    rw [get_at X 0 hx0, hXd]
    cases t with
    | nil => rfl
    | cons y ys => rfl
  rw [← hxf] at hF
  have hxne := size_pos_ne hx0
  have hLb : decide (192 ≤ (C : Int)) = false := by simp; omega
  have hlt2 : 1 ≤ s.size - 1 := by omega
  clear hg0 hs hC hXd hxf
  obtain ⟨h1, h2⟩ := two_boxes w
  obtain ⟨hR, hN, hB, hsz⟩ := h2 _ rfl
  have H1 := Lib.hid h1
  have HR := Lib.hid hR
  have HN := Lib.hid hN
  have HB := Lib.hid hB
  have HSz := Lib.hid hsz
  clear h1 h2 hR hN hB hsz
  go_enter Tryd.func43, Tryd.ntmps43
  go_wp2_with (first
    | (refine wpl_store_it H1.out it0 none 0 0 rfl _ _ rfl rfl rfl rfl ?_)
    | (refine wpl_store_it HR.out it0 none 0 0 rfl _ _ rfl rfl rfl rfl ?_)
    | (refine Rg.run rfl _ _ (op_load_it HN.out ?_) ?_; · exact ⟨_, rfl, rfl⟩))
  exact bodyPost_ret (res_item3 rfl _ rfl (own_rowI HR.out)) rfl (post_err 6 HE.out (by decide) rfl (below_row HB.out (Nat.le_refl _) _))
end Rl
end Go.Proofs.YtoeblhdddehemaaDoor
