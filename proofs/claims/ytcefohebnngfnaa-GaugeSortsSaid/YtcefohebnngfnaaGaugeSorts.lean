/-
  GaugeSorts: any numbers, put in the order of all, are those that the plain answer tells; the first and the last of them are the least and the most; for every list of numbers, with no condition (of more than sixty the law asks the first sixty).
-/
import Derived.Test.YtcefohebnngfnaaGh
import Derived.Test.YtcefohebnngfnaaRegion
import Derived.OpenShut
import Derived.ChangeOld
namespace Go.Proofs.Ytcefohebnngfnaa.gaugeSorts
open Go.ChangeShapes Go.WideShapes Go.ChangeAt Go.RowKit
open Fw Fl

theorem own : ownKnob Try.prog.godebug = none := by kernel_rfl
theorem laidOut : laidOutB Try.prog = true := by kernel_rfl

theorem key_one (x y : UInt64) (h : key x.toNat = key y.toNat) : x = y := by
  have hs : sgn = 9223372036854775808 := rfl
  have hx := lt64 x
  have hy := lt64 y
  apply UInt64.toNat_inj.1
  unfold key at h
  split at h <;> split at h <;> omega
/-- the same numbers in the order of all are one list -/
theorem rising_one : ∀ s t : List UInt64, s.Perm t → Rising s → Rising t → s = t
  | [], t, h, _, _ => by rw [List.nil_perm.1 h]
  | a :: s, [], h, _, _ => by have := h.length_eq; simp at this
  | a :: s, b :: t, h, hs, ht => by
    unfold Rising at hs ht
    rw [List.pairwise_cons] at hs ht
    have hab : key a.toNat ≤ key b.toNat := by
      have : b ∈ a :: s := h.mem_iff.2 (List.mem_cons_self ..)
      rcases List.mem_cons.1 this with rfl | hb
      · exact Nat.le_refl _
      · exact hs.1 b hb
    have hba : key b.toNat ≤ key a.toNat := by
      have : a ∈ b :: t := h.mem_iff.1 (List.mem_cons_self ..)
      rcases List.mem_cons.1 this with rfl | hb
      · exact Nat.le_refl _
      · exact ht.1 a hb
    have e : a = b := key_one a b (by omega)
    subst e
    rw [rising_one s t ((List.perm_cons a).1 h) hs.2 ht.2]
theorem first_one (l s : List UInt64) (n : Nat) (m : UInt64) (hl : l.length = n) (hn : 0 < n) (hp : s.Perm l) (hr : Rising s) (hb : leastB l n m) : m = s.getD 0 0 := by
  have hsl : s.length = n := by rw [hp.length_eq, hl]
  have h0 : s.getD 0 0 = s[0]'(by omega) := by simp [List.getD, List.getElem?_eq_getElem (show 0 < s.length by omega)]
  obtain ⟨⟨j, hj, hm⟩, hall⟩ := hb
  have hml : m ∈ l := by
    rw [← hm, List.getD, List.getElem?_eq_getElem (by omega)]
    exact List.getElem_mem _
  obtain ⟨i, hi, hi2⟩ := List.getElem_of_mem (hp.mem_iff.2 hml)
  have h1 : key (s[0]'(by omega)).toNat ≤ key m.toNat := by
    by_cases h : i = 0
    · subst h; rw [hi2]; exact Nat.le_refl _
    · have := (List.pairwise_iff_getElem.1 hr) 0 i (by omega) hi (by omega)
      rwa [hi2] at this
  obtain ⟨q, hq, hq2⟩ := List.getElem_of_mem (hp.mem_iff.1 (List.getElem_mem (show 0 < s.length by omega)))
  have h2 := hall q (by omega)
  rw [List.getD, List.getElem?_eq_getElem hq] at h2
  simp only [Option.getD_some] at h2
  rw [hq2] at h2
  rw [h0]
  exact key_one _ _ (by omega)
theorem last_one (l s : List UInt64) (n : Nat) (m : UInt64) (hl : l.length = n) (hn : 0 < n) (hp : s.Perm l) (hr : Rising s) (hb : mostB l n m) : m = s.getD (n - 1) 0 := by
  have hsl : s.length = n := by rw [hp.length_eq, hl]
  have h0 : s.getD (n - 1) 0 = s[n - 1]'(by omega) := by simp [List.getD, List.getElem?_eq_getElem (show n - 1 < s.length by omega)]
  obtain ⟨⟨j, hj, hm⟩, hall⟩ := hb
  have hml : m ∈ l := by
    rw [← hm, List.getD, List.getElem?_eq_getElem (by omega)]
    exact List.getElem_mem _
  obtain ⟨i, hi, hi2⟩ := List.getElem_of_mem (hp.mem_iff.2 hml)
  have h1 : key m.toNat ≤ key (s[n - 1]'(by omega)).toNat := by
    by_cases h : i = n - 1
    · subst h; rw [hi2]; exact Nat.le_refl _
    · have := (List.pairwise_iff_getElem.1 hr) i (n - 1) hi (by omega) (by omega)
      rwa [hi2] at this
  obtain ⟨q, hq, hq2⟩ := List.getElem_of_mem (hp.mem_iff.1 (List.getElem_mem (show n - 1 < s.length by omega)))
  have h2 := hall q (by omega)
  rw [List.getD, List.getElem?_eq_getElem hq] at h2
  simp only [Option.getD_some] at h2
  rw [hq2] at h2
  rw [h0]
  exact key_one _ _ (by omega)
theorem rsame_self (x : Nat) (w : World) : Calls Try.prog 19 #[.float .f64 x, .float .f64 x] w fun e w' => e = .returned (.bool true) ∧ Below w.heap.size w w' :=
  (rsame_any x x w).mono fun e w' h => ⟨by rw [h.1]; simp, by rw [← h.2]; exact Below.refl _ _⟩
theorem rsame_quiet (x : Nat) (w : World) (q : Nat) : Calls Try.prog 19 #[.float .f64 x, .float .f64 x] (w.drewN q) fun e w' => e = .returned (.bool true) ∧ w' = w.drewN q :=
  (rsame_any x x _).mono fun e w' h => ⟨by rw [h.1]; simp, h.2.symm⟩

set_option maxRecDepth 100000 in
set_option maxHeartbeats 16000000 in
theorem walk_small (a : Option Addr) (n cap : Nat) (l : List UInt64) (hle : n ≤ 60) (w : World) (h : IsFs w a n cap l) :
    Calls Try.prog 4 #[.slice a n cap] w fun e w' => e = .returned (.bool true) ∧ Below w.heap.size w w' := by
  have H := Lib.hid h
  have hnc := h.1
  have hcm := h.2.1
  unfold maxLen at hcm
  have hle' : ¬ 60 < n := by omega
  clear h
  go_enter Try.func4, Try.ntmps4
  go_wp2_with fail
  refine (sort_any _ n cap l (by omega) w H.out).mono ?_
  rintro e w1 ⟨a1, c1, s, rfl, hs, hps, hrs, hb1⟩
  have HS1 := Lib.hid (And.intro hs (And.intro hps hrs))
  have HB1 := Lib.hid hb1
  clear hs hps hrs hb1
  go_wp2_with fail
  refine (rsort_any _ n cap l (by omega) w1 (H.out.below HB1.out)).mono ?_
  rintro e w2 ⟨a2, c2, t, rfl, ht, hpt, hrt, hb2⟩
  have hst : t = s := rising_one t s (hpt.trans HS1.out.2.1.symm) hrt HS1.out.2.2
  subst hst
  have HS := Lib.hid (HS1.out.1.below hb2)
  have HT := Lib.hid ht
  have HB := Lib.hid (HB1.out.trans (hb2.mono HB1.out.size))
  have HP := Lib.hid (And.intro hpt hrt)
  have HA := Lib.hid (H.out.below HB.out)
  clear ht hpt hrt hb2 HS1 HB1
  go_wp2
  go_loopw [5] (fun i wr => ∃ k m : Nat, k ≤ n ∧ i = .int .i64 k ∧ wr = w2.drewN m) (fun i _ => n - (intOf i).toNat)
  case atStart => exact ⟨0, 0, Nat.zero_le _, rfl, rfl⟩
  case round =>
    obtain ⟨k, m, hk, rfl, rfl⟩ := hrel
    obtain ⟨W, hW⟩ : ∃ W, w2.drewN m = W := ⟨_, rfl⟩
    have HSW : Hid (IsFs W a1 n c1 t) := Lib.hid (by rw [← hW]; exact HS.out.drewN m)
    have HTW : Hid (IsFs W a2 n c2 t) := Lib.hid (by rw [← hW]; exact HT.out.drewN m)
    have HAW : Hid (IsFs W a n cap l) := Lib.hid (by rw [← hW]; exact HA.out.drewN m)
    have HBW : Hid (Below w.heap.size w W) := Lib.hid (by rw [← hW]; exact below_drewN HB.out m)
    have HW := Lib.hid hW
    rw [hW]
    clear hW HS HT HA HB
    by_cases hlt : k < n
    · obtain ⟨g1, o1, rfl, _, hx1⟩ := HSW.out.at' k hlt
      obtain ⟨g2, o2, rfl, _, hx2⟩ := HTW.out.at' k hlt
      have hn1 := HSW.out.1
      have hn2 := HTW.out.1
      have hm1 := HSW.out.2.1
      have hm2 := HTW.out.2.1
      unfold maxLen at hm1 hm2
      generalize (t.getD k 0).toNat = x at hx1 hx2
      have HQ := Lib.hid (fun q => rsame_quiet x W q)
      go_wp2_with fail
      go_quiet ((go_at_call 19; exact Calls.quiet_of_same (HQ.out _)))
      go_wp2
      go_roundw
      case rel => exact ⟨k + 1, m + nq, by omega, by go_num, by rw [← HW.out]; exact World.drewN_drewN _ _ _⟩
      case measure => simp [intOf]; omega
    · have hkn : n = k := by omega
      subst hkn
      clear hlt hk
      by_cases h0 : n = 0
      · subst h0
        have hz := ord_const.1
        go_wp2_with fail
        refine (awake_any _).mono ?_
        rintro e w4 ⟨rfl, hb4⟩
        have hbw := HBW.out.trans (hb4.mono HBW.out.size)
        clear hb4
        go_wp2_with fail
        refine (least_none _).mono ?_
        rintro e w5 ⟨rfl, rfl⟩
        go_wp2_with fail
        refine (most_none _).mono ?_
        rintro e w5 ⟨rfl, rfl⟩
        go_wp2
        go_ret
        exact ⟨rfl, hbw⟩
      · have h0' : ((n : Int) == 0) = false := by simp; omega
        have hpos : 0 < n := by omega
        obtain ⟨g2, o2, rfl, _, hx2⟩ := HTW.out.at' 0 hpos
        obtain ⟨x0, hx0⟩ : ∃ x0, (t.getD 0 0).toNat = x0 := ⟨_, rfl⟩
        obtain ⟨x1, hx1⟩ : ∃ x1, (t.getD (n - 1) 0).toNat = x1 := ⟨_, rfl⟩
        have HLe : Hid (∀ wx, Below W.heap.size W wx → Calls Try.prog 20 #[.slice (a ) n cap] wx fun e w' => e = .returned (.float .f64 x0) ∧ Below wx.heap.size wx w') := Lib.hid (fun wx hb =>
          (least_any _ n cap l wx (HAW.out.below hb) hpos).mono fun e w' ⟨mm, he, hl, hbb⟩ => ⟨by rw [he, ← hx0, first_one l t n mm HAW.out.len hpos HP.out.1 HP.out.2 hl], hbb⟩)
        have HMo : Hid (∀ wx, Below W.heap.size W wx → Calls Try.prog 21 #[.slice (a ) n cap] wx fun e w' => e = .returned (.float .f64 x1) ∧ Below wx.heap.size wx w') := Lib.hid (fun wx hb =>
          (most_any _ n cap l wx (HAW.out.below hb) hpos).mono fun e w' ⟨mm, he, hl, hbb⟩ => ⟨by rw [he, ← hx1, last_one l t n mm HAW.out.len hpos HP.out.1 HP.out.2 hl], hbb⟩)
        have HC0 : Hid (∀ wx, Below W.heap.size W wx → wx.cell? ⟨g2, o2, none⟩ = some (.float .f64 x0)) := Lib.hid (fun wx hb => by
          obtain ⟨g', o', e0, _, hc⟩ := (HTW.out.below hb).at' 0 hpos
          obtain ⟨rfl, rfl⟩ : g2 = g' ∧ o2 = o' := by simpa using e0
          rw [hx0] at hc
          exact hc)
        have HC1 : Hid (∀ wx, Below W.heap.size W wx → wx.cell? ⟨g2, o2 + (n - 1), none⟩ = some (.float .f64 x1)) := Lib.hid (fun wx hb => by
          obtain ⟨g', o', e0, _, hc⟩ := (HTW.out.below hb).at' (n - 1) (by omega)
          obtain ⟨rfl, rfl⟩ : g2 = g' ∧ o2 = o' := by simpa using e0
          rw [hx1] at hc
          exact hc)
        clear hx0 hx1 hx2
        have hn2 := HTW.out.1
        have hm2 := HTW.out.2.1
        unfold maxLen at hm2
        have q1 : IntKind.i64.wrap ((n : Int) - 1) = (n : Int) - 1 := by rw [IntKind.wrap_i64]; omega
        have q2 : (0 : Int) ≤ (n : Int) - 1 := by omega
        have q3 : (1 : Int) ≤ (n : Int) := by omega
        have q4 : (n : Int) - 1 < (n : Int) := by omega
        have q5 : ((n : Int) - 1).toNat = n - 1 := by omega
        go_wp2_with fail
        refine wp_region_noPanic ?_
        refine wp_region_held_drew (S := fun w' => Below W.heap.size W w') (by kernel_rfl) ((Below.refl _ _).drew) (fun hHeld => ?_)
        refine wpAnyH_ready (rs := [0]) (by kernel_rfl) (by simp) ?_
        refine Rg.readyL (i := 0) rfl (fun K hK => ?_)
        go_simp
        go_at_call 9
        (with_reducible refine (awake_any _).mono ?_)
        rintro e wv0 ⟨rfl, hbx⟩
        refine hK.out _ _ ?_ (fun hHeld => ?_)
        · exact Below.trans hHeld (hbx.mono hHeld.size)
        clear hK K
        try simp only [Act.put, List.setIfInBounds_toArray, List.set_cons_zero, List.set_cons_succ]
        refine Rg.takeL (i := 1) (v := ?_) rfl (by kernel_rfl) (by kernel_rfl) (by kernel_rfl) (fun _ _ _ h => h) (Or.inl ⟨by rfl, ?_⟩) (by assumption) ?_
        rotate_left
        · (intro wz hSw; (try dsimp only at hSw); go_simp <;> with_reducible rfl)
        try simp only [Act.put, List.setIfInBounds_toArray, List.set_cons_zero, List.set_cons_succ]
        refine Rg.takeL (i := 2) (v := ?_) rfl (by kernel_rfl) (by kernel_rfl) (by kernel_rfl) (fun _ _ _ h => h) (Or.inl ⟨by rfl, ?_⟩) (by assumption) ?_
        rotate_left
        · (intro wz hSw; (try dsimp only at hSw); go_simp <;> with_reducible rfl)
        try simp only [Act.put, List.setIfInBounds_toArray, List.set_cons_zero, List.set_cons_succ]
        refine Rg.takeL (i := 4) (v := ?_) rfl (by kernel_rfl) (by kernel_rfl) (by kernel_rfl) (fun _ _ _ h => h) (Or.inl ⟨by rfl, ?_⟩) (by assumption) ?_
        rotate_left
        · (intro wz hSw; (try dsimp only at hSw); go_simp <;> with_reducible rfl)
        try simp only [Act.put, List.setIfInBounds_toArray, List.set_cons_zero, List.set_cons_succ]
        refine Rg.takeL (i := 5) (v := ?_) rfl (by kernel_rfl) (by kernel_rfl) (by kernel_rfl) (fun _ _ _ h => h) (Or.inl ⟨by rfl, ?_⟩) (by assumption) ?_
        rotate_left
        · (intro wz hSw; (try dsimp only at hSw); go_simp <;> with_reducible rfl)
        try simp only [Act.put, List.setIfInBounds_toArray, List.set_cons_zero, List.set_cons_succ]
        refine Rg.takeL (i := 6) (v := ?_) rfl (by kernel_rfl) (by kernel_rfl) (by kernel_rfl) (fun _ _ _ h => h) (Or.inl ⟨by rfl, ?_⟩) (by assumption) ?_
        rotate_left
        · (intro wz hSw; have hz : wz.cell? ⟨g2, o2, none⟩ = some (.float .f64 x0) := HC0.out wz hSw; go_simp <;> with_reducible rfl)
        try simp only [Act.put, List.setIfInBounds_toArray, List.set_cons_zero, List.set_cons_succ]
        refine wpAnyH_ready (rs := [3]) (by kernel_rfl) (by simp) ?_
        refine Rg.readyL (i := 3) rfl (fun K hK => ?_)
        go_simp
        go_at_call 20
        (with_reducible refine (HLe.out _ hHeld).mono ?_)
        rintro e wv1 ⟨rfl, hbx⟩
        refine hK.out _ _ ?_ (fun hHeld => ?_)
        · exact Below.trans hHeld (hbx.mono hHeld.size)
        clear hK K
        try simp only [Act.put, List.setIfInBounds_toArray, List.set_cons_zero, List.set_cons_succ]
        refine wpAnyH_ready (rs := [7]) (by kernel_rfl) (by simp) ?_
        refine Rg.readyL (i := 7) rfl (fun K hK => ?_)
        go_simp
        go_at_call 19
        (with_reducible refine (rsame_self _ _).mono ?_)
        rintro e wv2 ⟨rfl, hbx⟩
        refine hK.out _ _ ?_ (fun hHeld => ?_)
        · exact Below.trans hHeld (hbx.mono hHeld.size)
        clear hK K
        try simp only [Act.put, List.setIfInBounds_toArray, List.set_cons_zero, List.set_cons_succ]
        refine Rg.takeL (i := 8) (v := ?_) rfl (by kernel_rfl) (by kernel_rfl) (by kernel_rfl) (fun _ _ _ h => h) (Or.inl ⟨by rfl, ?_⟩) (by assumption) ?_
        rotate_left
        · (intro wz hSw; (try dsimp only at hSw); go_simp <;> with_reducible rfl)
        try simp only [Act.put, List.setIfInBounds_toArray, List.set_cons_zero, List.set_cons_succ]
        refine Rg.takeL (i := 9) (v := ?_) rfl (by kernel_rfl) (by kernel_rfl) (by kernel_rfl) (fun _ _ _ h => h) (Or.inl ⟨by rfl, ?_⟩) (by assumption) ?_
        rotate_left
        · (intro wz hSw; (try dsimp only at hSw); go_simp <;> with_reducible rfl)
        try simp only [Act.put, List.setIfInBounds_toArray, List.set_cons_zero, List.set_cons_succ]
        refine Rg.takeL (i := 10) (v := ?_) rfl (by kernel_rfl) (by kernel_rfl) (by kernel_rfl) (fun _ _ _ h => h) (Or.inl ⟨by rfl, ?_⟩) (by assumption) ?_
        rotate_left
        · (intro wz hSw; (try dsimp only at hSw); go_simp <;> with_reducible rfl)
        try simp only [Act.put, List.setIfInBounds_toArray, List.set_cons_zero, List.set_cons_succ]
        refine Rg.takeL (i := 12) (v := ?_) rfl (by kernel_rfl) (by kernel_rfl) (by kernel_rfl) (fun _ _ _ h => h) (Or.inl ⟨by rfl, ?_⟩) (by assumption) ?_
        rotate_left
        · (intro wz hSw; (try dsimp only at hSw); go_simp <;> with_reducible rfl)
        try simp only [Act.put, List.setIfInBounds_toArray, List.set_cons_zero, List.set_cons_succ]
        refine Rg.takeL (i := 13) (v := ?_) rfl (by kernel_rfl) (by kernel_rfl) (by kernel_rfl) (fun _ _ _ h => h) (Or.inl ⟨by rfl, ?_⟩) (by assumption) ?_
        rotate_left
        · (intro wz hSw; (try dsimp only at hSw); go_simp <;> with_reducible rfl)
        try simp only [Act.put, List.setIfInBounds_toArray, List.set_cons_zero, List.set_cons_succ]
        refine Rg.takeL (i := 14) (v := ?_) rfl (by kernel_rfl) (by kernel_rfl) (by kernel_rfl) (fun _ _ _ h => h) (Or.inl ⟨by rfl, ?_⟩) (by assumption) ?_
        rotate_left
        · (intro wz hSw; (try dsimp only at hSw); go_simp <;> with_reducible rfl)
        try simp only [Act.put, List.setIfInBounds_toArray, List.set_cons_zero, List.set_cons_succ]
        refine Rg.takeL (i := 15) (v := ?_) rfl (by kernel_rfl) (by kernel_rfl) (by kernel_rfl) (fun _ _ _ h => h) (Or.inl ⟨by rfl, ?_⟩) (by assumption) ?_
        rotate_left
        · (intro wz hSw; (try dsimp only at hSw); go_simp <;> with_reducible rfl)
        try simp only [Act.put, List.setIfInBounds_toArray, List.set_cons_zero, List.set_cons_succ]
        refine Rg.takeL (i := 16) (v := ?_) rfl (by kernel_rfl) (by kernel_rfl) (by kernel_rfl) (fun _ _ _ h => h) (Or.inl ⟨by rfl, ?_⟩) (by assumption) ?_
        rotate_left
        · (intro wz hSw; (try dsimp only at hSw); go_simp <;> with_reducible rfl)
        try simp only [Act.put, List.setIfInBounds_toArray, List.set_cons_zero, List.set_cons_succ]
        refine Rg.takeL (i := 17) (v := ?_) rfl (by kernel_rfl) (by kernel_rfl) (by kernel_rfl) (fun _ _ _ h => h) (Or.inl ⟨by rfl, ?_⟩) (by assumption) ?_
        rotate_left
        · (intro wz hSw; have hz : wz.cell? ⟨g2, o2 + (n - 1), none⟩ = some (.float .f64 x1) := HC1.out wz hSw; go_simp <;> with_reducible rfl)
        try simp only [Act.put, List.setIfInBounds_toArray, List.set_cons_zero, List.set_cons_succ]
        refine wpAnyH_ready (rs := [11]) (by kernel_rfl) (by simp) ?_
        refine Rg.readyL (i := 11) rfl (fun K hK => ?_)
        go_simp
        go_at_call 21
        (with_reducible refine (HMo.out _ hHeld).mono ?_)
        rintro e wv3 ⟨rfl, hbx⟩
        refine hK.out _ _ ?_ (fun hHeld => ?_)
        · exact Below.trans hHeld (hbx.mono hHeld.size)
        clear hK K
        try simp only [Act.put, List.setIfInBounds_toArray, List.set_cons_zero, List.set_cons_succ]
        refine wpAnyH_ready (rs := [18]) (by kernel_rfl) (by simp) ?_
        refine Rg.readyL (i := 18) rfl (fun K hK => ?_)
        go_simp
        go_at_call 19
        (with_reducible refine (rsame_self _ _).mono ?_)
        rintro e wv4 ⟨rfl, hbx⟩
        refine hK.out _ _ ?_ (fun hHeld => ?_)
        · exact Below.trans hHeld (hbx.mono hHeld.size)
        clear hK K
        try simp only [Act.put, List.setIfInBounds_toArray, List.set_cons_zero, List.set_cons_succ]
        refine Rg.takeL (i := 19) (v := ?_) rfl (by kernel_rfl) (by kernel_rfl) (by kernel_rfl) (fun _ _ _ h => h) (Or.inl ⟨by rfl, ?_⟩) (by assumption) ?_
        rotate_left
        · (intro wz hSw; (try dsimp only at hSw); go_simp <;> with_reducible rfl)
        try simp only [Act.put, List.setIfInBounds_toArray, List.set_cons_zero, List.set_cons_succ]
        refine Rg.takeL (i := 20) (v := ?_) rfl (by kernel_rfl) (by kernel_rfl) (by kernel_rfl) (fun _ _ _ h => h) (Or.inl ⟨by rfl, ?_⟩) (by assumption) ?_
        rotate_left
        · (intro wz hSw; (try dsimp only at hSw); go_simp <;> with_reducible rfl)
        try simp only [Act.put, List.setIfInBounds_toArray, List.set_cons_zero, List.set_cons_succ]
        refine wpAnyH_done (by kernel_rfl) ?_ _
        refine NoPanic.normal ?_
        go_wp2
        go_ret
        exact ⟨rfl, HBW.out.trans (Below.mono hHeld HBW.out.size)⟩

set_option maxRecDepth 100000 in
set_option maxHeartbeats 16000000 in
theorem walk_big (a : Option Addr) (n cap : Nat) (l : List UInt64) (hle : 60 < n) (w : World) (h : IsFs w a n cap l) :
    Calls Try.prog 4 #[.slice a n cap] w fun e w' => e = .returned (.bool true) ∧ Below w.heap.size w w' := by
  have H0 := Lib.hid h
  have hnc := h.1
  have hcm := h.2.1
  unfold maxLen at hcm
  obtain ⟨b0, off0, rfl, _, _⟩ := h.at' 0 (by omega)
  obtain ⟨l', hl'⟩ : ∃ l', l.take 60 = l' := ⟨_, rfl⟩
  have H : Hid (IsFs w (some ⟨b0, off0, none⟩) 60 cap l') := Lib.hid (by rw [← hl']; exact h.first 60 (by omega))
  clear h hl' H0
  go_enter Try.func4, Try.ntmps4
  go_wp2_with fail
  refine (sort_any _ 60 cap l' (by omega) w H.out).mono ?_
  rintro e w1 ⟨a1, c1, s, rfl, hs, hps, hrs, hb1⟩
  have HS1 := Lib.hid (And.intro hs (And.intro hps hrs))
  have HB1 := Lib.hid hb1
  clear hs hps hrs hb1
  go_wp2_with fail
  refine (rsort_any _ 60 cap l' (by omega) w1 (H.out.below HB1.out)).mono ?_
  rintro e w2 ⟨a2, c2, t, rfl, ht, hpt, hrt, hb2⟩
  have hst : t = s := rising_one t s (hpt.trans HS1.out.2.1.symm) hrt HS1.out.2.2
  subst hst
  have HS := Lib.hid (HS1.out.1.below hb2)
  have HT := Lib.hid ht
  have HB := Lib.hid (HB1.out.trans (hb2.mono HB1.out.size))
  have HP := Lib.hid (And.intro hpt hrt)
  have HA := Lib.hid (H.out.below HB.out)
  clear ht hpt hrt hb2 HS1 HB1
  go_wp2
  go_loopw [5] (fun i wr => ∃ k m : Nat, k ≤ 60 ∧ i = .int .i64 k ∧ wr = w2.drewN m) (fun i _ => 60 - (intOf i).toNat)
  case atStart => exact ⟨0, 0, Nat.zero_le _, rfl, rfl⟩
  case round =>
    obtain ⟨k, m, hk, rfl, rfl⟩ := hrel
    obtain ⟨W, hW⟩ : ∃ W, w2.drewN m = W := ⟨_, rfl⟩
    have HSW : Hid (IsFs W a1 60 c1 t) := Lib.hid (by rw [← hW]; exact HS.out.drewN m)
    have HTW : Hid (IsFs W a2 60 c2 t) := Lib.hid (by rw [← hW]; exact HT.out.drewN m)
    have HAW : Hid (IsFs W (some ⟨b0, off0, none⟩) 60 cap l') := Lib.hid (by rw [← hW]; exact HA.out.drewN m)
    have HBW : Hid (Below w.heap.size w W) := Lib.hid (by rw [← hW]; exact below_drewN HB.out m)
    have HW := Lib.hid hW
    rw [hW]
    clear hW HS HT HA HB
    by_cases hlt : k < 60
    · obtain ⟨g1, o1, rfl, _, hx1⟩ := HSW.out.at' k hlt
      obtain ⟨g2, o2, rfl, _, hx2⟩ := HTW.out.at' k hlt
      have hn1 := HSW.out.1
      have hn2 := HTW.out.1
      have hm1 := HSW.out.2.1
      have hm2 := HTW.out.2.1
      unfold maxLen at hm1 hm2
      generalize (t.getD k 0).toNat = x at hx1 hx2
      have HQ := Lib.hid (fun q => rsame_quiet x W q)
      go_wp2_with fail
      go_quiet ((go_at_call 19; exact Calls.quiet_of_same (HQ.out _)))
      go_wp2
      go_roundw
      case rel => exact ⟨k + 1, m + nq, by omega, by go_num, by rw [← HW.out]; exact World.drewN_drewN _ _ _⟩
      case measure => simp [intOf]; omega
    · have hkn : 60 = k := by omega
      subst hkn
      clear hlt hk
      have hpos : 0 < 60 := by omega
      obtain ⟨g2, o2, rfl, _, hx2⟩ := HTW.out.at' 0 hpos
      obtain ⟨x0, hx0⟩ : ∃ x0, (t.getD 0 0).toNat = x0 := ⟨_, rfl⟩
      obtain ⟨x1, hx1⟩ : ∃ x1, (t.getD (60 - 1) 0).toNat = x1 := ⟨_, rfl⟩
      have HLe : Hid (∀ wx, Below W.heap.size W wx → Calls Try.prog 20 #[.slice ((some ⟨b0, off0, none⟩) ) 60 cap] wx fun e w' => e = .returned (.float .f64 x0) ∧ Below wx.heap.size wx w') := Lib.hid (fun wx hb =>
        (least_any _ 60 cap l' wx (HAW.out.below hb) hpos).mono fun e w' ⟨mm, he, hl, hbb⟩ => ⟨by rw [he, ← hx0, first_one l' t 60 mm HAW.out.len hpos HP.out.1 HP.out.2 hl], hbb⟩)
      have HMo : Hid (∀ wx, Below W.heap.size W wx → Calls Try.prog 21 #[.slice ((some ⟨b0, off0, none⟩) ) 60 cap] wx fun e w' => e = .returned (.float .f64 x1) ∧ Below wx.heap.size wx w') := Lib.hid (fun wx hb =>
        (most_any _ 60 cap l' wx (HAW.out.below hb) hpos).mono fun e w' ⟨mm, he, hl, hbb⟩ => ⟨by rw [he, ← hx1, last_one l' t 60 mm HAW.out.len hpos HP.out.1 HP.out.2 hl], hbb⟩)
      have HC0 : Hid (∀ wx, Below W.heap.size W wx → wx.cell? ⟨g2, o2, none⟩ = some (.float .f64 x0)) := Lib.hid (fun wx hb => by
        obtain ⟨g', o', e0, _, hc⟩ := (HTW.out.below hb).at' 0 hpos
        obtain ⟨rfl, rfl⟩ : g2 = g' ∧ o2 = o' := by simpa using e0
        rw [hx0] at hc
        exact hc)
      have HC1 : Hid (∀ wx, Below W.heap.size W wx → wx.cell? ⟨g2, o2 + 59, none⟩ = some (.float .f64 x1)) := Lib.hid (fun wx hb => by
        obtain ⟨g', o', e0, _, hc⟩ := (HTW.out.below hb).at' (60 - 1) (by omega)
        obtain ⟨rfl, rfl⟩ : g2 = g' ∧ o2 = o' := by simpa using e0
        rw [hx1] at hc
        exact hc)
      clear hx0 hx1 hx2
      have hn2 := HTW.out.1
      have hm2 := HTW.out.2.1
      unfold maxLen at hm2
      have q1 : IntKind.i64.wrap 59 = 59 := by decide +kernel
      go_wp2_with fail
      refine wp_region_noPanic ?_
      refine wp_region_held_drew (S := fun w' => Below W.heap.size W w') (by kernel_rfl) ((Below.refl _ _).drew) (fun hHeld => ?_)
      refine wpAnyH_ready (rs := [0]) (by kernel_rfl) (by simp) ?_
      refine Rg.readyL (i := 0) rfl (fun K hK => ?_)
      go_simp
      go_at_call 9
      (with_reducible refine (awake_any _).mono ?_)
      rintro e wv0 ⟨rfl, hbx⟩
      refine hK.out _ _ ?_ (fun hHeld => ?_)
      · exact Below.trans hHeld (hbx.mono hHeld.size)
      clear hK K
      try simp only [Act.put, List.setIfInBounds_toArray, List.set_cons_zero, List.set_cons_succ]
      refine Rg.takeL (i := 1) (v := ?_) rfl (by kernel_rfl) (by kernel_rfl) (by kernel_rfl) (fun _ _ _ h => h) (Or.inl ⟨by rfl, ?_⟩) (by assumption) ?_
      rotate_left
      · (intro wz hSw; (try dsimp only at hSw); go_simp <;> with_reducible rfl)
      try simp only [Act.put, List.setIfInBounds_toArray, List.set_cons_zero, List.set_cons_succ]
      refine Rg.takeL (i := 2) (v := ?_) rfl (by kernel_rfl) (by kernel_rfl) (by kernel_rfl) (fun _ _ _ h => h) (Or.inl ⟨by rfl, ?_⟩) (by assumption) ?_
      rotate_left
      · (intro wz hSw; (try dsimp only at hSw); go_simp <;> with_reducible rfl)
      try simp only [Act.put, List.setIfInBounds_toArray, List.set_cons_zero, List.set_cons_succ]
      refine Rg.takeL (i := 4) (v := ?_) rfl (by kernel_rfl) (by kernel_rfl) (by kernel_rfl) (fun _ _ _ h => h) (Or.inl ⟨by rfl, ?_⟩) (by assumption) ?_
      rotate_left
      · (intro wz hSw; (try dsimp only at hSw); go_simp <;> with_reducible rfl)
      try simp only [Act.put, List.setIfInBounds_toArray, List.set_cons_zero, List.set_cons_succ]
      refine Rg.takeL (i := 5) (v := ?_) rfl (by kernel_rfl) (by kernel_rfl) (by kernel_rfl) (fun _ _ _ h => h) (Or.inl ⟨by rfl, ?_⟩) (by assumption) ?_
      rotate_left
      · (intro wz hSw; (try dsimp only at hSw); go_simp <;> with_reducible rfl)
      try simp only [Act.put, List.setIfInBounds_toArray, List.set_cons_zero, List.set_cons_succ]
      refine Rg.takeL (i := 6) (v := ?_) rfl (by kernel_rfl) (by kernel_rfl) (by kernel_rfl) (fun _ _ _ h => h) (Or.inl ⟨by rfl, ?_⟩) (by assumption) ?_
      rotate_left
      · (intro wz hSw; have hz : wz.cell? ⟨g2, o2, none⟩ = some (.float .f64 x0) := HC0.out wz hSw; go_simp <;> with_reducible rfl)
      try simp only [Act.put, List.setIfInBounds_toArray, List.set_cons_zero, List.set_cons_succ]
      refine wpAnyH_ready (rs := [3]) (by kernel_rfl) (by simp) ?_
      refine Rg.readyL (i := 3) rfl (fun K hK => ?_)
      go_simp
      go_at_call 20
      (with_reducible refine (HLe.out _ hHeld).mono ?_)
      rintro e wv1 ⟨rfl, hbx⟩
      refine hK.out _ _ ?_ (fun hHeld => ?_)
      · exact Below.trans hHeld (hbx.mono hHeld.size)
      clear hK K
      try simp only [Act.put, List.setIfInBounds_toArray, List.set_cons_zero, List.set_cons_succ]
      refine wpAnyH_ready (rs := [7]) (by kernel_rfl) (by simp) ?_
      refine Rg.readyL (i := 7) rfl (fun K hK => ?_)
      go_simp
      go_at_call 19
      (with_reducible refine (rsame_self _ _).mono ?_)
      rintro e wv2 ⟨rfl, hbx⟩
      refine hK.out _ _ ?_ (fun hHeld => ?_)
      · exact Below.trans hHeld (hbx.mono hHeld.size)
      clear hK K
      try simp only [Act.put, List.setIfInBounds_toArray, List.set_cons_zero, List.set_cons_succ]
      refine Rg.takeL (i := 8) (v := ?_) rfl (by kernel_rfl) (by kernel_rfl) (by kernel_rfl) (fun _ _ _ h => h) (Or.inl ⟨by rfl, ?_⟩) (by assumption) ?_
      rotate_left
      · (intro wz hSw; (try dsimp only at hSw); go_simp <;> with_reducible rfl)
      try simp only [Act.put, List.setIfInBounds_toArray, List.set_cons_zero, List.set_cons_succ]
      refine Rg.takeL (i := 9) (v := ?_) rfl (by kernel_rfl) (by kernel_rfl) (by kernel_rfl) (fun _ _ _ h => h) (Or.inl ⟨by rfl, ?_⟩) (by assumption) ?_
      rotate_left
      · (intro wz hSw; (try dsimp only at hSw); go_simp <;> with_reducible rfl)
      try simp only [Act.put, List.setIfInBounds_toArray, List.set_cons_zero, List.set_cons_succ]
      refine Rg.takeL (i := 10) (v := ?_) rfl (by kernel_rfl) (by kernel_rfl) (by kernel_rfl) (fun _ _ _ h => h) (Or.inl ⟨by rfl, ?_⟩) (by assumption) ?_
      rotate_left
      · (intro wz hSw; (try dsimp only at hSw); go_simp <;> with_reducible rfl)
      try simp only [Act.put, List.setIfInBounds_toArray, List.set_cons_zero, List.set_cons_succ]
      refine Rg.takeL (i := 12) (v := ?_) rfl (by kernel_rfl) (by kernel_rfl) (by kernel_rfl) (fun _ _ _ h => h) (Or.inl ⟨by rfl, ?_⟩) (by assumption) ?_
      rotate_left
      · (intro wz hSw; (try dsimp only at hSw); go_simp <;> with_reducible rfl)
      try simp only [Act.put, List.setIfInBounds_toArray, List.set_cons_zero, List.set_cons_succ]
      refine Rg.takeL (i := 13) (v := ?_) rfl (by kernel_rfl) (by kernel_rfl) (by kernel_rfl) (fun _ _ _ h => h) (Or.inl ⟨by rfl, ?_⟩) (by assumption) ?_
      rotate_left
      · (intro wz hSw; (try dsimp only at hSw); go_simp <;> with_reducible rfl)
      try simp only [Act.put, List.setIfInBounds_toArray, List.set_cons_zero, List.set_cons_succ]
      refine Rg.takeL (i := 14) (v := ?_) rfl (by kernel_rfl) (by kernel_rfl) (by kernel_rfl) (fun _ _ _ h => h) (Or.inl ⟨by rfl, ?_⟩) (by assumption) ?_
      rotate_left
      · (intro wz hSw; (try dsimp only at hSw); go_simp <;> with_reducible rfl)
      try simp only [Act.put, List.setIfInBounds_toArray, List.set_cons_zero, List.set_cons_succ]
      refine Rg.takeL (i := 15) (v := ?_) rfl (by kernel_rfl) (by kernel_rfl) (by kernel_rfl) (fun _ _ _ h => h) (Or.inl ⟨by rfl, ?_⟩) (by assumption) ?_
      rotate_left
      · (intro wz hSw; (try dsimp only at hSw); go_simp <;> with_reducible rfl)
      try simp only [Act.put, List.setIfInBounds_toArray, List.set_cons_zero, List.set_cons_succ]
      refine Rg.takeL (i := 16) (v := ?_) rfl (by kernel_rfl) (by kernel_rfl) (by kernel_rfl) (fun _ _ _ h => h) (Or.inl ⟨by rfl, ?_⟩) (by assumption) ?_
      rotate_left
      · (intro wz hSw; (try dsimp only at hSw); go_simp <;> with_reducible rfl)
      try simp only [Act.put, List.setIfInBounds_toArray, List.set_cons_zero, List.set_cons_succ]
      refine Rg.takeL (i := 17) (v := ?_) rfl (by kernel_rfl) (by kernel_rfl) (by kernel_rfl) (fun _ _ _ h => h) (Or.inl ⟨by rfl, ?_⟩) (by assumption) ?_
      rotate_left
      · (intro wz hSw; have hz : wz.cell? ⟨g2, o2 + 59, none⟩ = some (.float .f64 x1) := HC1.out wz hSw; go_simp <;> with_reducible rfl)
      try simp only [Act.put, List.setIfInBounds_toArray, List.set_cons_zero, List.set_cons_succ]
      refine wpAnyH_ready (rs := [11]) (by kernel_rfl) (by simp) ?_
      refine Rg.readyL (i := 11) rfl (fun K hK => ?_)
      go_simp
      go_at_call 21
      (with_reducible refine (HMo.out _ hHeld).mono ?_)
      rintro e wv3 ⟨rfl, hbx⟩
      refine hK.out _ _ ?_ (fun hHeld => ?_)
      · exact Below.trans hHeld (hbx.mono hHeld.size)
      clear hK K
      try simp only [Act.put, List.setIfInBounds_toArray, List.set_cons_zero, List.set_cons_succ]
      refine wpAnyH_ready (rs := [18]) (by kernel_rfl) (by simp) ?_
      refine Rg.readyL (i := 18) rfl (fun K hK => ?_)
      go_simp
      go_at_call 19
      (with_reducible refine (rsame_self _ _).mono ?_)
      rintro e wv4 ⟨rfl, hbx⟩
      refine hK.out _ _ ?_ (fun hHeld => ?_)
      · exact Below.trans hHeld (hbx.mono hHeld.size)
      clear hK K
      try simp only [Act.put, List.setIfInBounds_toArray, List.set_cons_zero, List.set_cons_succ]
      refine Rg.takeL (i := 19) (v := ?_) rfl (by kernel_rfl) (by kernel_rfl) (by kernel_rfl) (fun _ _ _ h => h) (Or.inl ⟨by rfl, ?_⟩) (by assumption) ?_
      rotate_left
      · (intro wz hSw; (try dsimp only at hSw); go_simp <;> with_reducible rfl)
      try simp only [Act.put, List.setIfInBounds_toArray, List.set_cons_zero, List.set_cons_succ]
      refine Rg.takeL (i := 20) (v := ?_) rfl (by kernel_rfl) (by kernel_rfl) (by kernel_rfl) (fun _ _ _ h => h) (Or.inl ⟨by rfl, ?_⟩) (by assumption) ?_
      rotate_left
      · (intro wz hSw; (try dsimp only at hSw); go_simp <;> with_reducible rfl)
      try simp only [Act.put, List.setIfInBounds_toArray, List.set_cons_zero, List.set_cons_succ]
      refine wpAnyH_done (by kernel_rfl) ?_ _
      refine NoPanic.normal ?_
      go_wp2
      go_ret
      exact ⟨rfl, HBW.out.trans (Below.mono hHeld HBW.out.size)⟩

theorem walk (a : Option Addr) (n cap : Nat) (l : List UInt64) (w : World) (h : IsFs w a n cap l) :
    Calls Try.prog 4 #[.slice a n cap] w fun e w' => e = .returned (.bool true) ∧ Below w.heap.size w w' := by
  by_cases hle : 60 < n
  · exact walk_big a n cap l hle w h
  · exact walk_small a n cap l (by omega) w h

set_option maxRecDepth 100000 in
theorem lifted (os : Os) (started : os.Started) (H : Type) (enc : TypeId × Value → H) :
    ReturnsInHanded {} Try.checked os 4 .any (Rows.gaugeSortsSpec.pre6 enc Try.prog Try.f4 Rows.gaugeSortsRow.domain false) (Rows.gaugeSortsSpec.post enc Try.prog Try.f4 false true false false) := by
  refine returnsInHanded_of_change (C := Try.checked) own started (by kernel_rfl) Try.func4
    (ChangeSpec.witness6 (enc := enc) (C := Try.checked) false ⟨#[], #[.slice none 0 0], []⟩ 8 (by kernel_rfl) (by kernel_rfl) (by kernel_rfl) (by kernel_rfl)) ?_
  intro W base args ds gs before hval0 hW _ _
  have hval : ∀ (j : Nat) t v, Try.f4.params[j]? = some t → args[j]? = some v → Value.okWide Try.prog W .any base t v := hval0
  have hW' := hW
  obtain ⟨p, q, hA0, hV, rfl, hfz, hnd⟩ := hW
  have hA : DataW.TrodAll enc Try.prog W 0 (fun _ => true) true Try.f4.params.toList args.toList ds p := hA0
  rw [Try.params4] at hA hval
  obtain ⟨v0, vs0, d0, ds0, p0, q0, hargs, rfl, rfl, h0, r0⟩ := trodAll_cons hA
  obtain ⟨rfl, rfl, rfl⟩ := trodAll_nil r0
  obtain rfl : args = #[v0] := by cases args; simp_all
  obtain ⟨rfl, rfl⟩ := trodVars_none hV
  have k0 := h0
  have lt0 : ∀ x ∈ p0, x.block < W.heap.size := by obtain ⟨m, hm⟩ := k0; exact DataW.trod_lt m _ _ _ hm
  obtain ⟨fu0, hf0⟩ := h0
  obtain ⟨ad, len, cap, l, e0, hl⟩ := Fw.isFs_of Try.underlying30 Try.underlying23 (by kernel_rfl) hf0
  obtain ⟨b0, len0, cap0, rfl⟩ := okWide_slice Try.underlying30 (hval 0 30 v0 rfl rfl)
  simp only [Value.cells] at e0
  obtain ⟨rfl, rfl, rfl⟩ : b0 = ad ∧ len0 = len ∧ cap0 = cap := by simpa using e0
  clear hA0 hval0
  refine (walk b0 len0 cap0 l W hl).mono fun e W' ⟨he, bel⟩ => ?_
  subst he
  exact ⟨_, rfl, _, _, _, [], _, [], hW', trodAll_mk1 (shut_bool Try.underlying4 _), (trodAll_cons_mk (Below.trod laidOut (by kernel_rfl) (of_decide_eq_true (by kernel_rfl)) k0 bel lt0) trodAll_mk0), rfl, bel.frame _, fun h => by cases h⟩

theorem over : Rows.gaugeSortsRow.holds Try.pinned (OpenSpec.ofChange Rows.gaugeSortsSpec) :=
  OpenClaim.holds_of_wide 4 Try.f4 rfl rfl rfl rfl rfl rfl rfl ⟨rfl, rfl, rfl, rfl, rfl⟩ rfl rfl rfl rfl rfl (by kernel_rfl) Try.func4 (by kernel_rfl)
    (of_decide_eq_true (by kernel_rfl)) (by unfold Func.isWrapper; first | (rw [if_pos (by decide +kernel)]; kernel_rfl) | (rw [if_neg (by decide +kernel)]; exact ⟨rfl, rfl⟩))
    (fun os started H enc _ => lifted os started H enc)

theorem proved : Rows.GaugeSortsSaid := over

end Go.Proofs.Ytcefohebnngfnaa.gaugeSorts
