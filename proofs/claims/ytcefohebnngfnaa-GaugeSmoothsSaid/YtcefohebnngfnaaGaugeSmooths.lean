/-
  GaugeSmooths: whatever two numbers, share and numbers: gauge.Smooth and gauge.Mean say what the document says; for every two numbers, every share, every list of numbers, with no condition.
-/
import Derived.Test.YtcefohebnngfnaaFsIn
import Derived.OpenShut
import Derived.ChangeOld
namespace Go.Proofs.Ytcefohebnngfnaa.gaugeSmooths
open Go.ChangeShapes Go.WideShapes Go.ChangeAt Go.RowKit
open Fw Fl

theorem own : ownKnob Try.prog.godebug = none := by kernel_rfl
theorem laidOut : laidOutB Try.prog = true := by kernel_rfl
theorem like_self (o : Option Nat) (v : Nat) (h : Rep o v) : ∀ z, Rep o z → Like z v := fun _ hz => Rep.like hz h

set_option maxRecDepth 100000 in
set_option maxHeartbeats 16000000 in
theorem walk_nan (old x0 share : Nat) (hold : old < 18446744073709551616) (hx0 : x0 < 18446744073709551616) (hshare : share < 18446744073709551616) (a : Option Addr) (n cap : Nat) (l : List UInt64) (hn : nan old = true) (w : World) (h : IsFs w a n cap l) :
    Calls Try.prog 6 #[.agg #[.float .f64 old, .float .f64 x0, .float .f64 share, .slice a n cap]] w fun e w' => e = .returned (.bool true) ∧ Below w.heap.size w w' := by
  have o1 := order_none old old hold hold (.inl hn)
  have HL : Hid (∀ z, Rep (smoothG old x0 share) z → Like z x0) := Lib.hid (by
    refine like_self _ _ ?_
    unfold smoothG
    rw [hn, if_pos rfl]
    cases hx : nan x0
    · exact Rep.num hx0 hx
    · exact ⟨hx0, hx⟩)
  clear hn
  have hcm := h.2.1
  have hnc := h.1
  unfold maxLen at hcm
  by_cases hb : 60 < n
  · have H' := Lib.hid (h.first 60 (by omega))
    obtain ⟨b0, off0, rfl, _, _⟩ := h.at' 0 (by omega)
    have hl' := h.len
    obtain ⟨l', hl2⟩ : ∃ l', l.take 60 = l' := ⟨_, rfl⟩
    rw [hl2] at H'
    clear h hl2 hl'
    go_enter Try.func6, Try.ntmps6
    go_wp2_with fail
    go_quiet (fail)
    have HB : Hid (Below w.heap.size w ((w.alloc (.cells #[.float .f64 old, .float .f64 x0, .float .f64 share, .slice (some ⟨b0, off0, none⟩) n cap] 37)).drewN nq)) := Lib.hid (below_drewN ((Below.refl _ _).alloc (Nat.le_refl _) _) nq)
    obtain ⟨W, hW⟩ : ∃ W, (w.alloc (.cells #[.float .f64 old, .float .f64 x0, .float .f64 share, .slice (some ⟨b0, off0, none⟩) n cap] 37)).drewN nq = W := ⟨_, rfl⟩
    rw [hW] at HB ⊢
    clear hW

    have H2 : Hid (IsFs (W) (some ⟨b0, off0, none⟩) 60 cap l') := Lib.hid (H'.out.below (HB.out))
    have HB2 : Hid (Below w.heap.size w (W)) := Lib.hid (HB.out)
    go_wp2
    obtain ⟨W2, hW2⟩ : ∃ W2, W = W2 := ⟨_, rfl⟩
    rw [hW2] at H2 HB2 ⊢
    clear hW2
    go_loopw [9, 10] (fun t i wr => ∃ k s m : Nat, k ≤ 60 ∧ i = .int .i64 k ∧ t = .float .f64 s ∧ Hid (Rep (sumO (l'.take k)) s) ∧ wr = W2.drewN m) (fun _ i _ => 60 - (intOf i).toNat)
    case atStart => exact ⟨0, 0, 0, Nat.zero_le _, rfl, rfl, Lib.hid rep_zero, rfl⟩
    case round =>
      obtain ⟨k, s, m, hk, rfl, rfl, HR, rfl⟩ := hrel
      by_cases hlt : k < 60
      · obtain ⟨b, off, e0, hb, hc⟩ := H2.out.at' k hlt
        obtain ⟨rfl, rfl⟩ : b0 = b ∧ off0 = off := by simpa using e0
        obtain ⟨r, q, hrun, hrep⟩ := add_step _ s (l'.getD k 0).toNat HR.out (W2.drewN m)
        rw [← sumO_take l' k (by rw [H2.out.len]; exact hlt)] at hrep
        have HR' := Lib.hid hrep
        clear hrep
        generalize (l'.getD k 0).toNat = x at *
        go_wp2
        go_roundw
        case rel => exact ⟨k + 1, r, _, by omega, by go_num, rfl, HR', rfl⟩
        case measure => simp [intOf]; omega
      · have hkn : 60 = k := by omega
        have HS : Hid (Rep (sumO l') s) := Lib.hid (by
          have := HR.out
          rwa [List.take_of_length_le (by rw [H2.out.len, hkn]; exact Nat.le_refl _)] at this)
        subst hkn
        clear HR hk hlt
        have HM := Lib.hid (mean_any _ 60 cap l' (W2.drewN m) (H2.out.drewN m))
        go_wp2_with fail
        refine HM.out.mono ?_
        rintro e w3 ⟨v3, m3, rfl, hv3, rfl⟩
        have HV3 := Lib.hid hv3
        clear hv3 HM
        go_wp2_with fail
        refine (awake_any _).mono ?_
        rintro e w4 ⟨rfl, hb4⟩
        have hbw4 := (below_drewN HB2.out (m + m3)).trans (hb4.mono HB2.out.size)
        clear hb4
        go_wp2_with fail
        refine (smooth_any old x0 share hold hx0 hshare w4).mono ?_
        rintro e w5 ⟨v5, m5, rfl, hv5, rfl⟩
        have hbw5 := below_drewN hbw4 m5
        generalize w4.drewN m5 = w5 at hbw5 ⊢
        clear hbw4
        have HA := Lib.hid (alike_any v5 x0 (HL.out v5 hv5) w5)
        clear hv5
        go_wp2_with fail
        refine HA.out.mono ?_
        rintro e w6 ⟨rfl, rfl⟩
        obtain ⟨r, q, hrun, hrep⟩ := quo_step l' s HS.out w5
        rw [H2.out.len] at hrun
        change (binOp .quo 23 (.float .f64 s) (.float .f64 (floatOfInt .f64 60))).run Try.prog w5 = .ok (.float .f64 r) (w5.drewN q) at hrun
        have HA2 := Lib.hid (alike_any v3 r (Rep.like HV3.out hrep) (w5.drewN q))
        clear hrep HA
        go_wp2_with fail
        refine HA2.out.mono ?_
        rintro e w6 ⟨rfl, rfl⟩
        go_wp2
        go_ret
        exact ⟨rfl, below_drewN hbw5 q⟩
  · have H' := Lib.hid h
    clear h hcm hnc
    go_enter Try.func6, Try.ntmps6
    go_wp2_with fail
    go_quiet (fail)
    have HB : Hid (Below w.heap.size w ((w.alloc (.cells #[.float .f64 old, .float .f64 x0, .float .f64 share, .slice a n cap] 37)).drewN nq)) := Lib.hid (below_drewN ((Below.refl _ _).alloc (Nat.le_refl _) _) nq)
    obtain ⟨W, hW⟩ : ∃ W, (w.alloc (.cells #[.float .f64 old, .float .f64 x0, .float .f64 share, .slice a n cap] 37)).drewN nq = W := ⟨_, rfl⟩
    rw [hW] at HB ⊢
    clear hW

    have H2 : Hid (IsFs (W) a n cap l) := Lib.hid (H'.out.below (HB.out))
    have HB2 : Hid (Below w.heap.size w (W)) := Lib.hid (HB.out)
    go_wp2
    obtain ⟨W2, hW2⟩ : ∃ W2, W = W2 := ⟨_, rfl⟩
    rw [hW2] at H2 HB2 ⊢
    clear hW2
    go_loopw [9, 10] (fun t i wr => ∃ k s m : Nat, k ≤ n ∧ i = .int .i64 k ∧ t = .float .f64 s ∧ Hid (Rep (sumO (l.take k)) s) ∧ wr = W2.drewN m) (fun _ i _ => n - (intOf i).toNat)
    case atStart => exact ⟨0, 0, 0, Nat.zero_le _, rfl, rfl, Lib.hid rep_zero, rfl⟩
    case round =>
      obtain ⟨k, s, m, hk, rfl, rfl, HR, rfl⟩ := hrel
      by_cases hlt : k < n
      · obtain ⟨b, off, e0, hb, hc⟩ := H2.out.at' k hlt
        obtain rfl := e0
        obtain ⟨r, q, hrun, hrep⟩ := add_step _ s (l.getD k 0).toNat HR.out (W2.drewN m)
        rw [← sumO_take l k (by rw [H2.out.len]; exact hlt)] at hrep
        have HR' := Lib.hid hrep
        clear hrep
        generalize (l.getD k 0).toNat = x at *
        go_wp2
        go_roundw
        case rel => exact ⟨k + 1, r, _, by omega, by go_num, rfl, HR', rfl⟩
        case measure => simp [intOf]; omega
      · have hkn : n = k := by omega
        have HS : Hid (Rep (sumO l) s) := Lib.hid (by
          have := HR.out
          rwa [List.take_of_length_le (by rw [H2.out.len, hkn]; exact Nat.le_refl _)] at this)
        subst hkn
        clear HR hk hlt
        have HM := Lib.hid (mean_any _ n cap l (W2.drewN m) (H2.out.drewN m))
        go_wp2_with fail
        refine HM.out.mono ?_
        rintro e w3 ⟨v3, m3, rfl, hv3, rfl⟩
        have HV3 := Lib.hid hv3
        clear hv3 HM
        go_wp2_with fail
        refine (awake_any _).mono ?_
        rintro e w4 ⟨rfl, hb4⟩
        have hbw4 := (below_drewN HB2.out (m + m3)).trans (hb4.mono HB2.out.size)
        clear hb4
        go_wp2_with fail
        refine (smooth_any old x0 share hold hx0 hshare w4).mono ?_
        rintro e w5 ⟨v5, m5, rfl, hv5, rfl⟩
        have hbw5 := below_drewN hbw4 m5
        generalize w4.drewN m5 = w5 at hbw5 ⊢
        clear hbw4
        have HA := Lib.hid (alike_any v5 x0 (HL.out v5 hv5) w5)
        clear hv5
        go_wp2_with fail
        refine HA.out.mono ?_
        rintro e w6 ⟨rfl, rfl⟩
        obtain ⟨r, q, hrun, hrep⟩ := quo_step l s HS.out w5
        rw [H2.out.len] at hrun
        have HA2 := Lib.hid (alike_any v3 r (Rep.like HV3.out hrep) (w5.drewN q))
        clear hrep HA
        go_wp2_with fail
        refine HA2.out.mono ?_
        rintro e w6 ⟨rfl, rfl⟩
        go_wp2
        go_ret
        exact ⟨rfl, below_drewN hbw5 q⟩

set_option maxRecDepth 100000 in
set_option maxHeartbeats 16000000 in
theorem walk_x (old x0 share : Nat) (hold : old < 18446744073709551616) (hx0 : x0 < 18446744073709551616) (hshare : share < 18446744073709551616) (a : Option Addr) (n cap : Nat) (l : List UInt64) (hn : nan old = false) (hs : nan x0 = true) (w : World) (h : IsFs w a n cap l) :
    Calls Try.prog 6 #[.agg #[.float .f64 old, .float .f64 x0, .float .f64 share, .slice a n cap]] w fun e w' => e = .returned (.bool true) ∧ Below w.heap.size w w' := by
  have o1 := order_self old hold hn
  have o2 := order_none x0 x0 hx0 hx0 (.inl hs)
  have HL : Hid (∀ z, Rep (smoothG old x0 share) z → Like z old) := Lib.hid (by
    refine like_self _ _ ?_
    unfold smoothG
    rw [hn, if_neg (by simp), if_pos (by simp [hs])]
    exact Rep.num hold hn)
  clear hn hs
  have hcm := h.2.1
  have hnc := h.1
  unfold maxLen at hcm
  by_cases hb : 60 < n
  · have H' := Lib.hid (h.first 60 (by omega))
    obtain ⟨b0, off0, rfl, _, _⟩ := h.at' 0 (by omega)
    have hl' := h.len
    obtain ⟨l', hl2⟩ : ∃ l', l.take 60 = l' := ⟨_, rfl⟩
    rw [hl2] at H'
    clear h hl2 hl'
    go_enter Try.func6, Try.ntmps6
    go_wp2_with fail
    go_quiet (fail)
    have HB : Hid (Below w.heap.size w ((w.alloc (.cells #[.float .f64 old, .float .f64 x0, .float .f64 share, .slice (some ⟨b0, off0, none⟩) n cap] 37)).drewN nq)) := Lib.hid (below_drewN ((Below.refl _ _).alloc (Nat.le_refl _) _) nq)
    obtain ⟨W, hW⟩ : ∃ W, (w.alloc (.cells #[.float .f64 old, .float .f64 x0, .float .f64 share, .slice (some ⟨b0, off0, none⟩) n cap] 37)).drewN nq = W := ⟨_, rfl⟩
    rw [hW] at HB ⊢
    clear hW

    have H2 : Hid (IsFs (W) (some ⟨b0, off0, none⟩) 60 cap l') := Lib.hid (H'.out.below (HB.out))
    have HB2 : Hid (Below w.heap.size w (W)) := Lib.hid (HB.out)
    go_wp2
    obtain ⟨W2, hW2⟩ : ∃ W2, W = W2 := ⟨_, rfl⟩
    rw [hW2] at H2 HB2 ⊢
    clear hW2
    go_loopw [9, 10] (fun t i wr => ∃ k s m : Nat, k ≤ 60 ∧ i = .int .i64 k ∧ t = .float .f64 s ∧ Hid (Rep (sumO (l'.take k)) s) ∧ wr = W2.drewN m) (fun _ i _ => 60 - (intOf i).toNat)
    case atStart => exact ⟨0, 0, 0, Nat.zero_le _, rfl, rfl, Lib.hid rep_zero, rfl⟩
    case round =>
      obtain ⟨k, s, m, hk, rfl, rfl, HR, rfl⟩ := hrel
      by_cases hlt : k < 60
      · obtain ⟨b, off, e0, hb, hc⟩ := H2.out.at' k hlt
        obtain ⟨rfl, rfl⟩ : b0 = b ∧ off0 = off := by simpa using e0
        obtain ⟨r, q, hrun, hrep⟩ := add_step _ s (l'.getD k 0).toNat HR.out (W2.drewN m)
        rw [← sumO_take l' k (by rw [H2.out.len]; exact hlt)] at hrep
        have HR' := Lib.hid hrep
        clear hrep
        generalize (l'.getD k 0).toNat = x at *
        go_wp2
        go_roundw
        case rel => exact ⟨k + 1, r, _, by omega, by go_num, rfl, HR', rfl⟩
        case measure => simp [intOf]; omega
      · have hkn : 60 = k := by omega
        have HS : Hid (Rep (sumO l') s) := Lib.hid (by
          have := HR.out
          rwa [List.take_of_length_le (by rw [H2.out.len, hkn]; exact Nat.le_refl _)] at this)
        subst hkn
        clear HR hk hlt
        have HM := Lib.hid (mean_any _ 60 cap l' (W2.drewN m) (H2.out.drewN m))
        go_wp2_with fail
        refine HM.out.mono ?_
        rintro e w3 ⟨v3, m3, rfl, hv3, rfl⟩
        have HV3 := Lib.hid hv3
        clear hv3 HM
        go_wp2_with fail
        refine (awake_any _).mono ?_
        rintro e w4 ⟨rfl, hb4⟩
        have hbw4 := (below_drewN HB2.out (m + m3)).trans (hb4.mono HB2.out.size)
        clear hb4
        go_wp2_with fail
        refine (smooth_any old x0 share hold hx0 hshare w4).mono ?_
        rintro e w5 ⟨v5, m5, rfl, hv5, rfl⟩
        have hbw5 := below_drewN hbw4 m5
        generalize w4.drewN m5 = w5 at hbw5 ⊢
        clear hbw4
        have HA := Lib.hid (alike_any v5 old (HL.out v5 hv5) w5)
        clear hv5
        go_wp2_with fail
        refine HA.out.mono ?_
        rintro e w6 ⟨rfl, rfl⟩
        obtain ⟨r, q, hrun, hrep⟩ := quo_step l' s HS.out w5
        rw [H2.out.len] at hrun
        change (binOp .quo 23 (.float .f64 s) (.float .f64 (floatOfInt .f64 60))).run Try.prog w5 = .ok (.float .f64 r) (w5.drewN q) at hrun
        have HA2 := Lib.hid (alike_any v3 r (Rep.like HV3.out hrep) (w5.drewN q))
        clear hrep HA
        go_wp2_with fail
        refine HA2.out.mono ?_
        rintro e w6 ⟨rfl, rfl⟩
        go_wp2
        go_ret
        exact ⟨rfl, below_drewN hbw5 q⟩
  · have H' := Lib.hid h
    clear h hcm hnc
    go_enter Try.func6, Try.ntmps6
    go_wp2_with fail
    go_quiet (fail)
    have HB : Hid (Below w.heap.size w ((w.alloc (.cells #[.float .f64 old, .float .f64 x0, .float .f64 share, .slice a n cap] 37)).drewN nq)) := Lib.hid (below_drewN ((Below.refl _ _).alloc (Nat.le_refl _) _) nq)
    obtain ⟨W, hW⟩ : ∃ W, (w.alloc (.cells #[.float .f64 old, .float .f64 x0, .float .f64 share, .slice a n cap] 37)).drewN nq = W := ⟨_, rfl⟩
    rw [hW] at HB ⊢
    clear hW

    have H2 : Hid (IsFs (W) a n cap l) := Lib.hid (H'.out.below (HB.out))
    have HB2 : Hid (Below w.heap.size w (W)) := Lib.hid (HB.out)
    go_wp2
    obtain ⟨W2, hW2⟩ : ∃ W2, W = W2 := ⟨_, rfl⟩
    rw [hW2] at H2 HB2 ⊢
    clear hW2
    go_loopw [9, 10] (fun t i wr => ∃ k s m : Nat, k ≤ n ∧ i = .int .i64 k ∧ t = .float .f64 s ∧ Hid (Rep (sumO (l.take k)) s) ∧ wr = W2.drewN m) (fun _ i _ => n - (intOf i).toNat)
    case atStart => exact ⟨0, 0, 0, Nat.zero_le _, rfl, rfl, Lib.hid rep_zero, rfl⟩
    case round =>
      obtain ⟨k, s, m, hk, rfl, rfl, HR, rfl⟩ := hrel
      by_cases hlt : k < n
      · obtain ⟨b, off, e0, hb, hc⟩ := H2.out.at' k hlt
        obtain rfl := e0
        obtain ⟨r, q, hrun, hrep⟩ := add_step _ s (l.getD k 0).toNat HR.out (W2.drewN m)
        rw [← sumO_take l k (by rw [H2.out.len]; exact hlt)] at hrep
        have HR' := Lib.hid hrep
        clear hrep
        generalize (l.getD k 0).toNat = x at *
        go_wp2
        go_roundw
        case rel => exact ⟨k + 1, r, _, by omega, by go_num, rfl, HR', rfl⟩
        case measure => simp [intOf]; omega
      · have hkn : n = k := by omega
        have HS : Hid (Rep (sumO l) s) := Lib.hid (by
          have := HR.out
          rwa [List.take_of_length_le (by rw [H2.out.len, hkn]; exact Nat.le_refl _)] at this)
        subst hkn
        clear HR hk hlt
        have HM := Lib.hid (mean_any _ n cap l (W2.drewN m) (H2.out.drewN m))
        go_wp2_with fail
        refine HM.out.mono ?_
        rintro e w3 ⟨v3, m3, rfl, hv3, rfl⟩
        have HV3 := Lib.hid hv3
        clear hv3 HM
        go_wp2_with fail
        refine (awake_any _).mono ?_
        rintro e w4 ⟨rfl, hb4⟩
        have hbw4 := (below_drewN HB2.out (m + m3)).trans (hb4.mono HB2.out.size)
        clear hb4
        go_wp2_with fail
        refine (smooth_any old x0 share hold hx0 hshare w4).mono ?_
        rintro e w5 ⟨v5, m5, rfl, hv5, rfl⟩
        have hbw5 := below_drewN hbw4 m5
        generalize w4.drewN m5 = w5 at hbw5 ⊢
        clear hbw4
        have HA := Lib.hid (alike_any v5 old (HL.out v5 hv5) w5)
        clear hv5
        go_wp2_with fail
        refine HA.out.mono ?_
        rintro e w6 ⟨rfl, rfl⟩
        obtain ⟨r, q, hrun, hrep⟩ := quo_step l s HS.out w5
        rw [H2.out.len] at hrun
        have HA2 := Lib.hid (alike_any v3 r (Rep.like HV3.out hrep) (w5.drewN q))
        clear hrep HA
        go_wp2_with fail
        refine HA2.out.mono ?_
        rintro e w6 ⟨rfl, rfl⟩
        go_wp2
        go_ret
        exact ⟨rfl, below_drewN hbw5 q⟩

set_option maxRecDepth 100000 in
set_option maxHeartbeats 16000000 in
theorem walk_share (old x0 share : Nat) (hold : old < 18446744073709551616) (hx0 : x0 < 18446744073709551616) (hshare : share < 18446744073709551616) (a : Option Addr) (n cap : Nat) (l : List UInt64) (hn : nan old = false) (hx : nan x0 = false) (hs : nan share = true) (w : World) (h : IsFs w a n cap l) :
    Calls Try.prog 6 #[.agg #[.float .f64 old, .float .f64 x0, .float .f64 share, .slice a n cap]] w fun e w' => e = .returned (.bool true) ∧ Below w.heap.size w w' := by
  have o1 := order_self old hold hn
  have o2 := order_self x0 hx0 hx
  have o3 := order_none share share hshare hshare (.inl hs)
  have HL : Hid (∀ z, Rep (smoothG old x0 share) z → Like z old) := Lib.hid (by
    refine like_self _ _ ?_
    unfold smoothG
    rw [hn, if_neg (by simp), if_pos (by simp [hs])]
    exact Rep.num hold hn)
  clear hn hs hx
  have hcm := h.2.1
  have hnc := h.1
  unfold maxLen at hcm
  by_cases hb : 60 < n
  · have H' := Lib.hid (h.first 60 (by omega))
    obtain ⟨b0, off0, rfl, _, _⟩ := h.at' 0 (by omega)
    have hl' := h.len
    obtain ⟨l', hl2⟩ : ∃ l', l.take 60 = l' := ⟨_, rfl⟩
    rw [hl2] at H'
    clear h hl2 hl'
    go_enter Try.func6, Try.ntmps6
    go_wp2_with fail
    go_quiet (fail)
    have HB : Hid (Below w.heap.size w ((w.alloc (.cells #[.float .f64 old, .float .f64 x0, .float .f64 share, .slice (some ⟨b0, off0, none⟩) n cap] 37)).drewN nq)) := Lib.hid (below_drewN ((Below.refl _ _).alloc (Nat.le_refl _) _) nq)
    obtain ⟨W, hW⟩ : ∃ W, (w.alloc (.cells #[.float .f64 old, .float .f64 x0, .float .f64 share, .slice (some ⟨b0, off0, none⟩) n cap] 37)).drewN nq = W := ⟨_, rfl⟩
    rw [hW] at HB ⊢
    clear hW

    have H2 : Hid (IsFs (W) (some ⟨b0, off0, none⟩) 60 cap l') := Lib.hid (H'.out.below (HB.out))
    have HB2 : Hid (Below w.heap.size w (W)) := Lib.hid (HB.out)
    go_wp2
    obtain ⟨W2, hW2⟩ : ∃ W2, W = W2 := ⟨_, rfl⟩
    rw [hW2] at H2 HB2 ⊢
    clear hW2
    go_loopw [9, 10] (fun t i wr => ∃ k s m : Nat, k ≤ 60 ∧ i = .int .i64 k ∧ t = .float .f64 s ∧ Hid (Rep (sumO (l'.take k)) s) ∧ wr = W2.drewN m) (fun _ i _ => 60 - (intOf i).toNat)
    case atStart => exact ⟨0, 0, 0, Nat.zero_le _, rfl, rfl, Lib.hid rep_zero, rfl⟩
    case round =>
      obtain ⟨k, s, m, hk, rfl, rfl, HR, rfl⟩ := hrel
      by_cases hlt : k < 60
      · obtain ⟨b, off, e0, hb, hc⟩ := H2.out.at' k hlt
        obtain ⟨rfl, rfl⟩ : b0 = b ∧ off0 = off := by simpa using e0
        obtain ⟨r, q, hrun, hrep⟩ := add_step _ s (l'.getD k 0).toNat HR.out (W2.drewN m)
        rw [← sumO_take l' k (by rw [H2.out.len]; exact hlt)] at hrep
        have HR' := Lib.hid hrep
        clear hrep
        generalize (l'.getD k 0).toNat = x at *
        go_wp2
        go_roundw
        case rel => exact ⟨k + 1, r, _, by omega, by go_num, rfl, HR', rfl⟩
        case measure => simp [intOf]; omega
      · have hkn : 60 = k := by omega
        have HS : Hid (Rep (sumO l') s) := Lib.hid (by
          have := HR.out
          rwa [List.take_of_length_le (by rw [H2.out.len, hkn]; exact Nat.le_refl _)] at this)
        subst hkn
        clear HR hk hlt
        have HM := Lib.hid (mean_any _ 60 cap l' (W2.drewN m) (H2.out.drewN m))
        go_wp2_with fail
        refine HM.out.mono ?_
        rintro e w3 ⟨v3, m3, rfl, hv3, rfl⟩
        have HV3 := Lib.hid hv3
        clear hv3 HM
        go_wp2_with fail
        refine (awake_any _).mono ?_
        rintro e w4 ⟨rfl, hb4⟩
        have hbw4 := (below_drewN HB2.out (m + m3)).trans (hb4.mono HB2.out.size)
        clear hb4
        go_wp2_with fail
        refine (smooth_any old x0 share hold hx0 hshare w4).mono ?_
        rintro e w5 ⟨v5, m5, rfl, hv5, rfl⟩
        have hbw5 := below_drewN hbw4 m5
        generalize w4.drewN m5 = w5 at hbw5 ⊢
        clear hbw4
        have HA := Lib.hid (alike_any v5 old (HL.out v5 hv5) w5)
        clear hv5
        go_wp2_with fail
        refine HA.out.mono ?_
        rintro e w6 ⟨rfl, rfl⟩
        obtain ⟨r, q, hrun, hrep⟩ := quo_step l' s HS.out w5
        rw [H2.out.len] at hrun
        change (binOp .quo 23 (.float .f64 s) (.float .f64 (floatOfInt .f64 60))).run Try.prog w5 = .ok (.float .f64 r) (w5.drewN q) at hrun
        have HA2 := Lib.hid (alike_any v3 r (Rep.like HV3.out hrep) (w5.drewN q))
        clear hrep HA
        go_wp2_with fail
        refine HA2.out.mono ?_
        rintro e w6 ⟨rfl, rfl⟩
        go_wp2
        go_ret
        exact ⟨rfl, below_drewN hbw5 q⟩
  · have H' := Lib.hid h
    clear h hcm hnc
    go_enter Try.func6, Try.ntmps6
    go_wp2_with fail
    go_quiet (fail)
    have HB : Hid (Below w.heap.size w ((w.alloc (.cells #[.float .f64 old, .float .f64 x0, .float .f64 share, .slice a n cap] 37)).drewN nq)) := Lib.hid (below_drewN ((Below.refl _ _).alloc (Nat.le_refl _) _) nq)
    obtain ⟨W, hW⟩ : ∃ W, (w.alloc (.cells #[.float .f64 old, .float .f64 x0, .float .f64 share, .slice a n cap] 37)).drewN nq = W := ⟨_, rfl⟩
    rw [hW] at HB ⊢
    clear hW

    have H2 : Hid (IsFs (W) a n cap l) := Lib.hid (H'.out.below (HB.out))
    have HB2 : Hid (Below w.heap.size w (W)) := Lib.hid (HB.out)
    go_wp2
    obtain ⟨W2, hW2⟩ : ∃ W2, W = W2 := ⟨_, rfl⟩
    rw [hW2] at H2 HB2 ⊢
    clear hW2
    go_loopw [9, 10] (fun t i wr => ∃ k s m : Nat, k ≤ n ∧ i = .int .i64 k ∧ t = .float .f64 s ∧ Hid (Rep (sumO (l.take k)) s) ∧ wr = W2.drewN m) (fun _ i _ => n - (intOf i).toNat)
    case atStart => exact ⟨0, 0, 0, Nat.zero_le _, rfl, rfl, Lib.hid rep_zero, rfl⟩
    case round =>
      obtain ⟨k, s, m, hk, rfl, rfl, HR, rfl⟩ := hrel
      by_cases hlt : k < n
      · obtain ⟨b, off, e0, hb, hc⟩ := H2.out.at' k hlt
        obtain rfl := e0
        obtain ⟨r, q, hrun, hrep⟩ := add_step _ s (l.getD k 0).toNat HR.out (W2.drewN m)
        rw [← sumO_take l k (by rw [H2.out.len]; exact hlt)] at hrep
        have HR' := Lib.hid hrep
        clear hrep
        generalize (l.getD k 0).toNat = x at *
        go_wp2
        go_roundw
        case rel => exact ⟨k + 1, r, _, by omega, by go_num, rfl, HR', rfl⟩
        case measure => simp [intOf]; omega
      · have hkn : n = k := by omega
        have HS : Hid (Rep (sumO l) s) := Lib.hid (by
          have := HR.out
          rwa [List.take_of_length_le (by rw [H2.out.len, hkn]; exact Nat.le_refl _)] at this)
        subst hkn
        clear HR hk hlt
        have HM := Lib.hid (mean_any _ n cap l (W2.drewN m) (H2.out.drewN m))
        go_wp2_with fail
        refine HM.out.mono ?_
        rintro e w3 ⟨v3, m3, rfl, hv3, rfl⟩
        have HV3 := Lib.hid hv3
        clear hv3 HM
        go_wp2_with fail
        refine (awake_any _).mono ?_
        rintro e w4 ⟨rfl, hb4⟩
        have hbw4 := (below_drewN HB2.out (m + m3)).trans (hb4.mono HB2.out.size)
        clear hb4
        go_wp2_with fail
        refine (smooth_any old x0 share hold hx0 hshare w4).mono ?_
        rintro e w5 ⟨v5, m5, rfl, hv5, rfl⟩
        have hbw5 := below_drewN hbw4 m5
        generalize w4.drewN m5 = w5 at hbw5 ⊢
        clear hbw4
        have HA := Lib.hid (alike_any v5 old (HL.out v5 hv5) w5)
        clear hv5
        go_wp2_with fail
        refine HA.out.mono ?_
        rintro e w6 ⟨rfl, rfl⟩
        obtain ⟨r, q, hrun, hrep⟩ := quo_step l s HS.out w5
        rw [H2.out.len] at hrun
        have HA2 := Lib.hid (alike_any v3 r (Rep.like HV3.out hrep) (w5.drewN q))
        clear hrep HA
        go_wp2_with fail
        refine HA2.out.mono ?_
        rintro e w6 ⟨rfl, rfl⟩
        go_wp2
        go_ret
        exact ⟨rfl, below_drewN hbw5 q⟩

set_option maxRecDepth 100000 in
set_option maxHeartbeats 16000000 in
theorem walk_neg (old x0 share : Nat) (hold : old < 18446744073709551616) (hx0 : x0 < 18446744073709551616) (hshare : share < 18446744073709551616) (a : Option Addr) (n cap : Nat) (l : List UInt64) (hn : nan old = false) (hx : nan x0 = false) (hs : nan share = false) (hk : sgn < share) (w : World) (h : IsFs w a n cap l) :
    Calls Try.prog 6 #[.agg #[.float .f64 old, .float .f64 x0, .float .f64 share, .slice a n cap]] w fun e w' => e = .returned (.bool true) ∧ Below w.heap.size w w' := by
  have o1 := order_self old hold hn
  have o2 := order_self x0 hx0 hx
  have o3 := order_self share hshare hs
  have o4 := order_zero share hshare hs
  rw [if_pos hk] at o4
  have o5 : FloatKind.f64.format.order 0 4607182418800017408 = some .lt := by decide +kernel
  have HL0 : Hid (∀ r, Rep (smoothO old x0 0) r → ∀ z, Rep (smoothG old x0 share) z → Like z r) := Lib.hid (by
    intro r hr z hz
    have hG : smoothG old x0 share = smoothO old x0 (clamp share) := by
      unfold smoothG
      rw [hn, hx, hs]; rfl
    rw [hG] at hz
    have hc : clamp share = 0 := by unfold clamp; rw [if_pos (.inl (by omega))]
    rw [hc] at hz
    exact Rep.like hz hr)
  clear hn hx hs hk
  have hcm := h.2.1
  have hnc := h.1
  unfold maxLen at hcm
  by_cases hb : 60 < n
  · have H' := Lib.hid (h.first 60 (by omega))
    obtain ⟨b0, off0, rfl, _, _⟩ := h.at' 0 (by omega)
    have hl' := h.len
    obtain ⟨l', hl2⟩ : ∃ l', l.take 60 = l' := ⟨_, rfl⟩
    rw [hl2] at H'
    clear h hl2 hl'
    go_enter Try.func6, Try.ntmps6
    go_wp2_with fail
    go_quiet (fail)
    have HB : Hid (Below w.heap.size w ((w.alloc (.cells #[.float .f64 old, .float .f64 x0, .float .f64 share, .slice (some ⟨b0, off0, none⟩) n cap] 37)).drewN nq)) := Lib.hid (below_drewN ((Below.refl _ _).alloc (Nat.le_refl _) _) nq)
    obtain ⟨W, hW⟩ : ∃ W, (w.alloc (.cells #[.float .f64 old, .float .f64 x0, .float .f64 share, .slice (some ⟨b0, off0, none⟩) n cap] 37)).drewN nq = W := ⟨_, rfl⟩
    rw [hW] at HB ⊢
    clear hW
    obtain ⟨d, e, r7, n1, n2, n3, r1, r2, r3, hrep⟩ := smooth_step old x0 0 W
    have HL := Lib.hid (HL0.out r7 hrep)
    clear hrep HL0
    have H2 : Hid (IsFs (W.drewN (n1 + n2 + n3)) (some ⟨b0, off0, none⟩) 60 cap l') := Lib.hid (H'.out.below (below_drewN HB.out _))
    have HB2 : Hid (Below w.heap.size w (W.drewN (n1 + n2 + n3))) := Lib.hid (below_drewN HB.out _)
    go_wp2
    obtain ⟨W2, hW2⟩ : ∃ W2, W.drewN (n1 + n2 + n3) = W2 := ⟨_, rfl⟩
    rw [hW2] at H2 HB2 ⊢
    clear hW2
    go_loopw [9, 10] (fun t i wr => ∃ k s m : Nat, k ≤ 60 ∧ i = .int .i64 k ∧ t = .float .f64 s ∧ Hid (Rep (sumO (l'.take k)) s) ∧ wr = W2.drewN m) (fun _ i _ => 60 - (intOf i).toNat)
    case atStart => exact ⟨0, 0, 0, Nat.zero_le _, rfl, rfl, Lib.hid rep_zero, rfl⟩
    case round =>
      obtain ⟨k, s, m, hk, rfl, rfl, HR, rfl⟩ := hrel
      by_cases hlt : k < 60
      · obtain ⟨b, off, e0, hb, hc⟩ := H2.out.at' k hlt
        obtain ⟨rfl, rfl⟩ : b0 = b ∧ off0 = off := by simpa using e0
        obtain ⟨r, q, hrun, hrep⟩ := add_step _ s (l'.getD k 0).toNat HR.out (W2.drewN m)
        rw [← sumO_take l' k (by rw [H2.out.len]; exact hlt)] at hrep
        have HR' := Lib.hid hrep
        clear hrep
        generalize (l'.getD k 0).toNat = x at *
        go_wp2
        go_roundw
        case rel => exact ⟨k + 1, r, _, by omega, by go_num, rfl, HR', rfl⟩
        case measure => simp [intOf]; omega
      · have hkn : 60 = k := by omega
        have HS : Hid (Rep (sumO l') s) := Lib.hid (by
          have := HR.out
          rwa [List.take_of_length_le (by rw [H2.out.len, hkn]; exact Nat.le_refl _)] at this)
        subst hkn
        clear HR hk hlt
        have HM := Lib.hid (mean_any _ 60 cap l' (W2.drewN m) (H2.out.drewN m))
        go_wp2_with fail
        refine HM.out.mono ?_
        rintro e w3 ⟨v3, m3, rfl, hv3, rfl⟩
        have HV3 := Lib.hid hv3
        clear hv3 HM
        go_wp2_with fail
        refine (awake_any _).mono ?_
        rintro e w4 ⟨rfl, hb4⟩
        have hbw4 := (below_drewN HB2.out (m + m3)).trans (hb4.mono HB2.out.size)
        clear hb4
        go_wp2_with fail
        refine (smooth_any old x0 share hold hx0 hshare w4).mono ?_
        rintro e w5 ⟨v5, m5, rfl, hv5, rfl⟩
        have hbw5 := below_drewN hbw4 m5
        generalize w4.drewN m5 = w5 at hbw5 ⊢
        clear hbw4
        have HA := Lib.hid (alike_any v5 r7 (HL.out v5 hv5) w5)
        clear hv5
        go_wp2_with fail
        refine HA.out.mono ?_
        rintro e w6 ⟨rfl, rfl⟩
        obtain ⟨r, q, hrun, hrep⟩ := quo_step l' s HS.out w5
        rw [H2.out.len] at hrun
        change (binOp .quo 23 (.float .f64 s) (.float .f64 (floatOfInt .f64 60))).run Try.prog w5 = .ok (.float .f64 r) (w5.drewN q) at hrun
        have HA2 := Lib.hid (alike_any v3 r (Rep.like HV3.out hrep) (w5.drewN q))
        clear hrep HA
        go_wp2_with fail
        refine HA2.out.mono ?_
        rintro e w6 ⟨rfl, rfl⟩
        go_wp2
        go_ret
        exact ⟨rfl, below_drewN hbw5 q⟩
  · have H' := Lib.hid h
    clear h hcm hnc
    go_enter Try.func6, Try.ntmps6
    go_wp2_with fail
    go_quiet (fail)
    have HB : Hid (Below w.heap.size w ((w.alloc (.cells #[.float .f64 old, .float .f64 x0, .float .f64 share, .slice a n cap] 37)).drewN nq)) := Lib.hid (below_drewN ((Below.refl _ _).alloc (Nat.le_refl _) _) nq)
    obtain ⟨W, hW⟩ : ∃ W, (w.alloc (.cells #[.float .f64 old, .float .f64 x0, .float .f64 share, .slice a n cap] 37)).drewN nq = W := ⟨_, rfl⟩
    rw [hW] at HB ⊢
    clear hW
    obtain ⟨d, e, r7, n1, n2, n3, r1, r2, r3, hrep⟩ := smooth_step old x0 0 W
    have HL := Lib.hid (HL0.out r7 hrep)
    clear hrep HL0
    have H2 : Hid (IsFs (W.drewN (n1 + n2 + n3)) a n cap l) := Lib.hid (H'.out.below (below_drewN HB.out _))
    have HB2 : Hid (Below w.heap.size w (W.drewN (n1 + n2 + n3))) := Lib.hid (below_drewN HB.out _)
    go_wp2
    obtain ⟨W2, hW2⟩ : ∃ W2, W.drewN (n1 + n2 + n3) = W2 := ⟨_, rfl⟩
    rw [hW2] at H2 HB2 ⊢
    clear hW2
    go_loopw [9, 10] (fun t i wr => ∃ k s m : Nat, k ≤ n ∧ i = .int .i64 k ∧ t = .float .f64 s ∧ Hid (Rep (sumO (l.take k)) s) ∧ wr = W2.drewN m) (fun _ i _ => n - (intOf i).toNat)
    case atStart => exact ⟨0, 0, 0, Nat.zero_le _, rfl, rfl, Lib.hid rep_zero, rfl⟩
    case round =>
      obtain ⟨k, s, m, hk, rfl, rfl, HR, rfl⟩ := hrel
      by_cases hlt : k < n
      · obtain ⟨b, off, e0, hb, hc⟩ := H2.out.at' k hlt
        obtain rfl := e0
        obtain ⟨r, q, hrun, hrep⟩ := add_step _ s (l.getD k 0).toNat HR.out (W2.drewN m)
        rw [← sumO_take l k (by rw [H2.out.len]; exact hlt)] at hrep
        have HR' := Lib.hid hrep
        clear hrep
        generalize (l.getD k 0).toNat = x at *
        go_wp2
        go_roundw
        case rel => exact ⟨k + 1, r, _, by omega, by go_num, rfl, HR', rfl⟩
        case measure => simp [intOf]; omega
      · have hkn : n = k := by omega
        have HS : Hid (Rep (sumO l) s) := Lib.hid (by
          have := HR.out
          rwa [List.take_of_length_le (by rw [H2.out.len, hkn]; exact Nat.le_refl _)] at this)
        subst hkn
        clear HR hk hlt
        have HM := Lib.hid (mean_any _ n cap l (W2.drewN m) (H2.out.drewN m))
        go_wp2_with fail
        refine HM.out.mono ?_
        rintro e w3 ⟨v3, m3, rfl, hv3, rfl⟩
        have HV3 := Lib.hid hv3
        clear hv3 HM
        go_wp2_with fail
        refine (awake_any _).mono ?_
        rintro e w4 ⟨rfl, hb4⟩
        have hbw4 := (below_drewN HB2.out (m + m3)).trans (hb4.mono HB2.out.size)
        clear hb4
        go_wp2_with fail
        refine (smooth_any old x0 share hold hx0 hshare w4).mono ?_
        rintro e w5 ⟨v5, m5, rfl, hv5, rfl⟩
        have hbw5 := below_drewN hbw4 m5
        generalize w4.drewN m5 = w5 at hbw5 ⊢
        clear hbw4
        have HA := Lib.hid (alike_any v5 r7 (HL.out v5 hv5) w5)
        clear hv5
        go_wp2_with fail
        refine HA.out.mono ?_
        rintro e w6 ⟨rfl, rfl⟩
        obtain ⟨r, q, hrun, hrep⟩ := quo_step l s HS.out w5
        rw [H2.out.len] at hrun
        have HA2 := Lib.hid (alike_any v3 r (Rep.like HV3.out hrep) (w5.drewN q))
        clear hrep HA
        go_wp2_with fail
        refine HA2.out.mono ?_
        rintro e w6 ⟨rfl, rfl⟩
        go_wp2
        go_ret
        exact ⟨rfl, below_drewN hbw5 q⟩

set_option maxRecDepth 100000 in
set_option maxHeartbeats 16000000 in
theorem walk_nil (old x0 share : Nat) (hold : old < 18446744073709551616) (hx0 : x0 < 18446744073709551616) (hshare : share < 18446744073709551616) (a : Option Addr) (n cap : Nat) (l : List UInt64) (hn : nan old = false) (hx : nan x0 = false) (hs : nan share = false) (hk : share = sgn) (w : World) (h : IsFs w a n cap l) :
    Calls Try.prog 6 #[.agg #[.float .f64 old, .float .f64 x0, .float .f64 share, .slice a n cap]] w fun e w' => e = .returned (.bool true) ∧ Below w.heap.size w w' := by
  have o1 := order_self old hold hn
  have o2 := order_self x0 hx0 hx
  have o3 := order_self share hshare hs
  have o4 : FloatKind.f64.format.order share 0 = some .eq := by rw [hk]; decide +kernel
  have o5 : FloatKind.f64.format.order share 4607182418800017408 = some .lt := by rw [hk]; decide +kernel
  have HL0 : Hid (∀ r, Rep (smoothO old x0 share) r → ∀ z, Rep (smoothG old x0 share) z → Like z r) := Lib.hid (by
    intro r hr z hz
    have hG : smoothG old x0 share = smoothO old x0 (clamp share) := by
      unfold smoothG
      rw [hn, hx, hs]; rfl
    rw [hG] at hz
    have hc : clamp share = 0 := by unfold clamp; rw [if_pos (.inl (by omega))]
    rw [hc] at hz
    rw [hk] at hr
    exact smooth_zero old x0 hold hn z r hz hr)
  clear hn hx hs hk
  have hcm := h.2.1
  have hnc := h.1
  unfold maxLen at hcm
  by_cases hb : 60 < n
  · have H' := Lib.hid (h.first 60 (by omega))
    obtain ⟨b0, off0, rfl, _, _⟩ := h.at' 0 (by omega)
    have hl' := h.len
    obtain ⟨l', hl2⟩ : ∃ l', l.take 60 = l' := ⟨_, rfl⟩
    rw [hl2] at H'
    clear h hl2 hl'
    go_enter Try.func6, Try.ntmps6
    go_wp2_with fail
    go_quiet (fail)
    have HB : Hid (Below w.heap.size w ((w.alloc (.cells #[.float .f64 old, .float .f64 x0, .float .f64 share, .slice (some ⟨b0, off0, none⟩) n cap] 37)).drewN nq)) := Lib.hid (below_drewN ((Below.refl _ _).alloc (Nat.le_refl _) _) nq)
    obtain ⟨W, hW⟩ : ∃ W, (w.alloc (.cells #[.float .f64 old, .float .f64 x0, .float .f64 share, .slice (some ⟨b0, off0, none⟩) n cap] 37)).drewN nq = W := ⟨_, rfl⟩
    rw [hW] at HB ⊢
    clear hW
    obtain ⟨d, e, r7, n1, n2, n3, r1, r2, r3, hrep⟩ := smooth_step old x0 share W
    have HL := Lib.hid (HL0.out r7 hrep)
    clear hrep HL0
    have H2 : Hid (IsFs (W.drewN (n1 + n2 + n3)) (some ⟨b0, off0, none⟩) 60 cap l') := Lib.hid (H'.out.below (below_drewN HB.out _))
    have HB2 : Hid (Below w.heap.size w (W.drewN (n1 + n2 + n3))) := Lib.hid (below_drewN HB.out _)
    go_wp2
    obtain ⟨W2, hW2⟩ : ∃ W2, W.drewN (n1 + n2 + n3) = W2 := ⟨_, rfl⟩
    rw [hW2] at H2 HB2 ⊢
    clear hW2
    go_loopw [9, 10] (fun t i wr => ∃ k s m : Nat, k ≤ 60 ∧ i = .int .i64 k ∧ t = .float .f64 s ∧ Hid (Rep (sumO (l'.take k)) s) ∧ wr = W2.drewN m) (fun _ i _ => 60 - (intOf i).toNat)
    case atStart => exact ⟨0, 0, 0, Nat.zero_le _, rfl, rfl, Lib.hid rep_zero, rfl⟩
    case round =>
      obtain ⟨k, s, m, hk, rfl, rfl, HR, rfl⟩ := hrel
      by_cases hlt : k < 60
      · obtain ⟨b, off, e0, hb, hc⟩ := H2.out.at' k hlt
        obtain ⟨rfl, rfl⟩ : b0 = b ∧ off0 = off := by simpa using e0
        obtain ⟨r, q, hrun, hrep⟩ := add_step _ s (l'.getD k 0).toNat HR.out (W2.drewN m)
        rw [← sumO_take l' k (by rw [H2.out.len]; exact hlt)] at hrep
        have HR' := Lib.hid hrep
        clear hrep
        generalize (l'.getD k 0).toNat = x at *
        go_wp2
        go_roundw
        case rel => exact ⟨k + 1, r, _, by omega, by go_num, rfl, HR', rfl⟩
        case measure => simp [intOf]; omega
      · have hkn : 60 = k := by omega
        have HS : Hid (Rep (sumO l') s) := Lib.hid (by
          have := HR.out
          rwa [List.take_of_length_le (by rw [H2.out.len, hkn]; exact Nat.le_refl _)] at this)
        subst hkn
        clear HR hk hlt
        have HM := Lib.hid (mean_any _ 60 cap l' (W2.drewN m) (H2.out.drewN m))
        go_wp2_with fail
        refine HM.out.mono ?_
        rintro e w3 ⟨v3, m3, rfl, hv3, rfl⟩
        have HV3 := Lib.hid hv3
        clear hv3 HM
        go_wp2_with fail
        refine (awake_any _).mono ?_
        rintro e w4 ⟨rfl, hb4⟩
        have hbw4 := (below_drewN HB2.out (m + m3)).trans (hb4.mono HB2.out.size)
        clear hb4
        go_wp2_with fail
        refine (smooth_any old x0 share hold hx0 hshare w4).mono ?_
        rintro e w5 ⟨v5, m5, rfl, hv5, rfl⟩
        have hbw5 := below_drewN hbw4 m5
        generalize w4.drewN m5 = w5 at hbw5 ⊢
        clear hbw4
        have HA := Lib.hid (alike_any v5 r7 (HL.out v5 hv5) w5)
        clear hv5
        go_wp2_with fail
        refine HA.out.mono ?_
        rintro e w6 ⟨rfl, rfl⟩
        obtain ⟨r, q, hrun, hrep⟩ := quo_step l' s HS.out w5
        rw [H2.out.len] at hrun
        change (binOp .quo 23 (.float .f64 s) (.float .f64 (floatOfInt .f64 60))).run Try.prog w5 = .ok (.float .f64 r) (w5.drewN q) at hrun
        have HA2 := Lib.hid (alike_any v3 r (Rep.like HV3.out hrep) (w5.drewN q))
        clear hrep HA
        go_wp2_with fail
        refine HA2.out.mono ?_
        rintro e w6 ⟨rfl, rfl⟩
        go_wp2
        go_ret
        exact ⟨rfl, below_drewN hbw5 q⟩
  · have H' := Lib.hid h
    clear h hcm hnc
    go_enter Try.func6, Try.ntmps6
    go_wp2_with fail
    go_quiet (fail)
    have HB : Hid (Below w.heap.size w ((w.alloc (.cells #[.float .f64 old, .float .f64 x0, .float .f64 share, .slice a n cap] 37)).drewN nq)) := Lib.hid (below_drewN ((Below.refl _ _).alloc (Nat.le_refl _) _) nq)
    obtain ⟨W, hW⟩ : ∃ W, (w.alloc (.cells #[.float .f64 old, .float .f64 x0, .float .f64 share, .slice a n cap] 37)).drewN nq = W := ⟨_, rfl⟩
    rw [hW] at HB ⊢
    clear hW
    obtain ⟨d, e, r7, n1, n2, n3, r1, r2, r3, hrep⟩ := smooth_step old x0 share W
    have HL := Lib.hid (HL0.out r7 hrep)
    clear hrep HL0
    have H2 : Hid (IsFs (W.drewN (n1 + n2 + n3)) a n cap l) := Lib.hid (H'.out.below (below_drewN HB.out _))
    have HB2 : Hid (Below w.heap.size w (W.drewN (n1 + n2 + n3))) := Lib.hid (below_drewN HB.out _)
    go_wp2
    obtain ⟨W2, hW2⟩ : ∃ W2, W.drewN (n1 + n2 + n3) = W2 := ⟨_, rfl⟩
    rw [hW2] at H2 HB2 ⊢
    clear hW2
    go_loopw [9, 10] (fun t i wr => ∃ k s m : Nat, k ≤ n ∧ i = .int .i64 k ∧ t = .float .f64 s ∧ Hid (Rep (sumO (l.take k)) s) ∧ wr = W2.drewN m) (fun _ i _ => n - (intOf i).toNat)
    case atStart => exact ⟨0, 0, 0, Nat.zero_le _, rfl, rfl, Lib.hid rep_zero, rfl⟩
    case round =>
      obtain ⟨k, s, m, hk, rfl, rfl, HR, rfl⟩ := hrel
      by_cases hlt : k < n
      · obtain ⟨b, off, e0, hb, hc⟩ := H2.out.at' k hlt
        obtain rfl := e0
        obtain ⟨r, q, hrun, hrep⟩ := add_step _ s (l.getD k 0).toNat HR.out (W2.drewN m)
        rw [← sumO_take l k (by rw [H2.out.len]; exact hlt)] at hrep
        have HR' := Lib.hid hrep
        clear hrep
        generalize (l.getD k 0).toNat = x at *
        go_wp2
        go_roundw
        case rel => exact ⟨k + 1, r, _, by omega, by go_num, rfl, HR', rfl⟩
        case measure => simp [intOf]; omega
      · have hkn : n = k := by omega
        have HS : Hid (Rep (sumO l) s) := Lib.hid (by
          have := HR.out
          rwa [List.take_of_length_le (by rw [H2.out.len, hkn]; exact Nat.le_refl _)] at this)
        subst hkn
        clear HR hk hlt
        have HM := Lib.hid (mean_any _ n cap l (W2.drewN m) (H2.out.drewN m))
        go_wp2_with fail
        refine HM.out.mono ?_
        rintro e w3 ⟨v3, m3, rfl, hv3, rfl⟩
        have HV3 := Lib.hid hv3
        clear hv3 HM
        go_wp2_with fail
        refine (awake_any _).mono ?_
        rintro e w4 ⟨rfl, hb4⟩
        have hbw4 := (below_drewN HB2.out (m + m3)).trans (hb4.mono HB2.out.size)
        clear hb4
        go_wp2_with fail
        refine (smooth_any old x0 share hold hx0 hshare w4).mono ?_
        rintro e w5 ⟨v5, m5, rfl, hv5, rfl⟩
        have hbw5 := below_drewN hbw4 m5
        generalize w4.drewN m5 = w5 at hbw5 ⊢
        clear hbw4
        have HA := Lib.hid (alike_any v5 r7 (HL.out v5 hv5) w5)
        clear hv5
        go_wp2_with fail
        refine HA.out.mono ?_
        rintro e w6 ⟨rfl, rfl⟩
        obtain ⟨r, q, hrun, hrep⟩ := quo_step l s HS.out w5
        rw [H2.out.len] at hrun
        have HA2 := Lib.hid (alike_any v3 r (Rep.like HV3.out hrep) (w5.drewN q))
        clear hrep HA
        go_wp2_with fail
        refine HA2.out.mono ?_
        rintro e w6 ⟨rfl, rfl⟩
        go_wp2
        go_ret
        exact ⟨rfl, below_drewN hbw5 q⟩

set_option maxRecDepth 100000 in
set_option maxHeartbeats 16000000 in
theorem walk_one (old x0 share : Nat) (hold : old < 18446744073709551616) (hx0 : x0 < 18446744073709551616) (hshare : share < 18446744073709551616) (a : Option Addr) (n cap : Nat) (l : List UInt64) (hn : nan old = false) (hx : nan x0 = false) (hs : nan share = false) (hk : one < share ∧ share < sgn) (w : World) (h : IsFs w a n cap l) :
    Calls Try.prog 6 #[.agg #[.float .f64 old, .float .f64 x0, .float .f64 share, .slice a n cap]] w fun e w' => e = .returned (.bool true) ∧ Below w.heap.size w w' := by
  have o1 := order_self old hold hn
  have o2 := order_self x0 hx0 hx
  have o3 := order_self share hshare hs
  have o4 : (FloatKind.f64.format.order share 0 == some .lt) = false := by rw [order_zero share hshare hs, if_neg (by omega)]; split <;> rfl
  have o5 : FloatKind.f64.format.order share 4607182418800017408 = some .gt := order_gt share 4607182418800017408 hshare (by omega) hs one_facts.2.2.1 (by
    have : one = 4607182418800017408 := rfl
    rw [(rung_pos hk.2).2.2, one_facts.2.2.2]; omega)
  have HL0 : Hid (∀ r, Rep (smoothO old x0 4607182418800017408) r → ∀ z, Rep (smoothG old x0 share) z → Like z r) := Lib.hid (by
    intro r hr z hz
    have hG : smoothG old x0 share = smoothO old x0 (clamp share) := by
      unfold smoothG
      rw [hn, hx, hs]; rfl
    rw [hG] at hz
    have hc : clamp share = 4607182418800017408 := by
      have : one = 4607182418800017408 := rfl
      unfold clamp; rw [if_neg (by omega), if_pos hk.1]
      exact this
    rw [hc] at hz
    exact Rep.like hz hr)
  clear hn hx hs hk
  have hcm := h.2.1
  have hnc := h.1
  unfold maxLen at hcm
  by_cases hb : 60 < n
  · have H' := Lib.hid (h.first 60 (by omega))
    obtain ⟨b0, off0, rfl, _, _⟩ := h.at' 0 (by omega)
    have hl' := h.len
    obtain ⟨l', hl2⟩ : ∃ l', l.take 60 = l' := ⟨_, rfl⟩
    rw [hl2] at H'
    clear h hl2 hl'
    go_enter Try.func6, Try.ntmps6
    go_wp2_with fail
    go_quiet (fail)
    have HB : Hid (Below w.heap.size w ((w.alloc (.cells #[.float .f64 old, .float .f64 x0, .float .f64 share, .slice (some ⟨b0, off0, none⟩) n cap] 37)).drewN nq)) := Lib.hid (below_drewN ((Below.refl _ _).alloc (Nat.le_refl _) _) nq)
    obtain ⟨W, hW⟩ : ∃ W, (w.alloc (.cells #[.float .f64 old, .float .f64 x0, .float .f64 share, .slice (some ⟨b0, off0, none⟩) n cap] 37)).drewN nq = W := ⟨_, rfl⟩
    rw [hW] at HB ⊢
    clear hW
    obtain ⟨d, e, r7, n1, n2, n3, r1, r2, r3, hrep⟩ := smooth_step old x0 4607182418800017408 W
    have HL := Lib.hid (HL0.out r7 hrep)
    clear hrep HL0
    have H2 : Hid (IsFs (W.drewN (n1 + n2 + n3)) (some ⟨b0, off0, none⟩) 60 cap l') := Lib.hid (H'.out.below (below_drewN HB.out _))
    have HB2 : Hid (Below w.heap.size w (W.drewN (n1 + n2 + n3))) := Lib.hid (below_drewN HB.out _)
    go_wp2
    obtain ⟨W2, hW2⟩ : ∃ W2, W.drewN (n1 + n2 + n3) = W2 := ⟨_, rfl⟩
    rw [hW2] at H2 HB2 ⊢
    clear hW2
    go_loopw [9, 10] (fun t i wr => ∃ k s m : Nat, k ≤ 60 ∧ i = .int .i64 k ∧ t = .float .f64 s ∧ Hid (Rep (sumO (l'.take k)) s) ∧ wr = W2.drewN m) (fun _ i _ => 60 - (intOf i).toNat)
    case atStart => exact ⟨0, 0, 0, Nat.zero_le _, rfl, rfl, Lib.hid rep_zero, rfl⟩
    case round =>
      obtain ⟨k, s, m, hk, rfl, rfl, HR, rfl⟩ := hrel
      by_cases hlt : k < 60
      · obtain ⟨b, off, e0, hb, hc⟩ := H2.out.at' k hlt
        obtain ⟨rfl, rfl⟩ : b0 = b ∧ off0 = off := by simpa using e0
        obtain ⟨r, q, hrun, hrep⟩ := add_step _ s (l'.getD k 0).toNat HR.out (W2.drewN m)
        rw [← sumO_take l' k (by rw [H2.out.len]; exact hlt)] at hrep
        have HR' := Lib.hid hrep
        clear hrep
        generalize (l'.getD k 0).toNat = x at *
        go_wp2
        go_roundw
        case rel => exact ⟨k + 1, r, _, by omega, by go_num, rfl, HR', rfl⟩
        case measure => simp [intOf]; omega
      · have hkn : 60 = k := by omega
        have HS : Hid (Rep (sumO l') s) := Lib.hid (by
          have := HR.out
          rwa [List.take_of_length_le (by rw [H2.out.len, hkn]; exact Nat.le_refl _)] at this)
        subst hkn
        clear HR hk hlt
        have HM := Lib.hid (mean_any _ 60 cap l' (W2.drewN m) (H2.out.drewN m))
        go_wp2_with fail
        refine HM.out.mono ?_
        rintro e w3 ⟨v3, m3, rfl, hv3, rfl⟩
        have HV3 := Lib.hid hv3
        clear hv3 HM
        go_wp2_with fail
        refine (awake_any _).mono ?_
        rintro e w4 ⟨rfl, hb4⟩
        have hbw4 := (below_drewN HB2.out (m + m3)).trans (hb4.mono HB2.out.size)
        clear hb4
        go_wp2_with fail
        refine (smooth_any old x0 share hold hx0 hshare w4).mono ?_
        rintro e w5 ⟨v5, m5, rfl, hv5, rfl⟩
        have hbw5 := below_drewN hbw4 m5
        generalize w4.drewN m5 = w5 at hbw5 ⊢
        clear hbw4
        have HA := Lib.hid (alike_any v5 r7 (HL.out v5 hv5) w5)
        clear hv5
        go_wp2_with fail
        refine HA.out.mono ?_
        rintro e w6 ⟨rfl, rfl⟩
        obtain ⟨r, q, hrun, hrep⟩ := quo_step l' s HS.out w5
        rw [H2.out.len] at hrun
        change (binOp .quo 23 (.float .f64 s) (.float .f64 (floatOfInt .f64 60))).run Try.prog w5 = .ok (.float .f64 r) (w5.drewN q) at hrun
        have HA2 := Lib.hid (alike_any v3 r (Rep.like HV3.out hrep) (w5.drewN q))
        clear hrep HA
        go_wp2_with fail
        refine HA2.out.mono ?_
        rintro e w6 ⟨rfl, rfl⟩
        go_wp2
        go_ret
        exact ⟨rfl, below_drewN hbw5 q⟩
  · have H' := Lib.hid h
    clear h hcm hnc
    go_enter Try.func6, Try.ntmps6
    go_wp2_with fail
    go_quiet (fail)
    have HB : Hid (Below w.heap.size w ((w.alloc (.cells #[.float .f64 old, .float .f64 x0, .float .f64 share, .slice a n cap] 37)).drewN nq)) := Lib.hid (below_drewN ((Below.refl _ _).alloc (Nat.le_refl _) _) nq)
    obtain ⟨W, hW⟩ : ∃ W, (w.alloc (.cells #[.float .f64 old, .float .f64 x0, .float .f64 share, .slice a n cap] 37)).drewN nq = W := ⟨_, rfl⟩
    rw [hW] at HB ⊢
    clear hW
    obtain ⟨d, e, r7, n1, n2, n3, r1, r2, r3, hrep⟩ := smooth_step old x0 4607182418800017408 W
    have HL := Lib.hid (HL0.out r7 hrep)
    clear hrep HL0
    have H2 : Hid (IsFs (W.drewN (n1 + n2 + n3)) a n cap l) := Lib.hid (H'.out.below (below_drewN HB.out _))
    have HB2 : Hid (Below w.heap.size w (W.drewN (n1 + n2 + n3))) := Lib.hid (below_drewN HB.out _)
    go_wp2
    obtain ⟨W2, hW2⟩ : ∃ W2, W.drewN (n1 + n2 + n3) = W2 := ⟨_, rfl⟩
    rw [hW2] at H2 HB2 ⊢
    clear hW2
    go_loopw [9, 10] (fun t i wr => ∃ k s m : Nat, k ≤ n ∧ i = .int .i64 k ∧ t = .float .f64 s ∧ Hid (Rep (sumO (l.take k)) s) ∧ wr = W2.drewN m) (fun _ i _ => n - (intOf i).toNat)
    case atStart => exact ⟨0, 0, 0, Nat.zero_le _, rfl, rfl, Lib.hid rep_zero, rfl⟩
    case round =>
      obtain ⟨k, s, m, hk, rfl, rfl, HR, rfl⟩ := hrel
      by_cases hlt : k < n
      · obtain ⟨b, off, e0, hb, hc⟩ := H2.out.at' k hlt
        obtain rfl := e0
        obtain ⟨r, q, hrun, hrep⟩ := add_step _ s (l.getD k 0).toNat HR.out (W2.drewN m)
        rw [← sumO_take l k (by rw [H2.out.len]; exact hlt)] at hrep
        have HR' := Lib.hid hrep
        clear hrep
        generalize (l.getD k 0).toNat = x at *
        go_wp2
        go_roundw
        case rel => exact ⟨k + 1, r, _, by omega, by go_num, rfl, HR', rfl⟩
        case measure => simp [intOf]; omega
      · have hkn : n = k := by omega
        have HS : Hid (Rep (sumO l) s) := Lib.hid (by
          have := HR.out
          rwa [List.take_of_length_le (by rw [H2.out.len, hkn]; exact Nat.le_refl _)] at this)
        subst hkn
        clear HR hk hlt
        have HM := Lib.hid (mean_any _ n cap l (W2.drewN m) (H2.out.drewN m))
        go_wp2_with fail
        refine HM.out.mono ?_
        rintro e w3 ⟨v3, m3, rfl, hv3, rfl⟩
        have HV3 := Lib.hid hv3
        clear hv3 HM
        go_wp2_with fail
        refine (awake_any _).mono ?_
        rintro e w4 ⟨rfl, hb4⟩
        have hbw4 := (below_drewN HB2.out (m + m3)).trans (hb4.mono HB2.out.size)
        clear hb4
        go_wp2_with fail
        refine (smooth_any old x0 share hold hx0 hshare w4).mono ?_
        rintro e w5 ⟨v5, m5, rfl, hv5, rfl⟩
        have hbw5 := below_drewN hbw4 m5
        generalize w4.drewN m5 = w5 at hbw5 ⊢
        clear hbw4
        have HA := Lib.hid (alike_any v5 r7 (HL.out v5 hv5) w5)
        clear hv5
        go_wp2_with fail
        refine HA.out.mono ?_
        rintro e w6 ⟨rfl, rfl⟩
        obtain ⟨r, q, hrun, hrep⟩ := quo_step l s HS.out w5
        rw [H2.out.len] at hrun
        have HA2 := Lib.hid (alike_any v3 r (Rep.like HV3.out hrep) (w5.drewN q))
        clear hrep HA
        go_wp2_with fail
        refine HA2.out.mono ?_
        rintro e w6 ⟨rfl, rfl⟩
        go_wp2
        go_ret
        exact ⟨rfl, below_drewN hbw5 q⟩

set_option maxRecDepth 100000 in
set_option maxHeartbeats 16000000 in
theorem walk_within (old x0 share : Nat) (hold : old < 18446744073709551616) (hx0 : x0 < 18446744073709551616) (hshare : share < 18446744073709551616) (a : Option Addr) (n cap : Nat) (l : List UInt64) (hn : nan old = false) (hx : nan x0 = false) (hs : nan share = false) (hk : share ≤ one) (w : World) (h : IsFs w a n cap l) :
    Calls Try.prog 6 #[.agg #[.float .f64 old, .float .f64 x0, .float .f64 share, .slice a n cap]] w fun e w' => e = .returned (.bool true) ∧ Below w.heap.size w w' := by
  have o1 := order_self old hold hn
  have o2 := order_self x0 hx0 hx
  have o3 := order_self share hshare hs
  have o4 : (FloatKind.f64.format.order share 0 == some .lt) = false := by
    have : one = 4607182418800017408 := rfl
    have hg : sgn = 9223372036854775808 := rfl
    rw [order_zero share hshare hs, if_neg (by omega)]; split <;> rfl
  have o5 : (FloatKind.f64.format.order share 4607182418800017408 == some .gt) = false := by
    have h1 : one = 4607182418800017408 := rfl
    have hg : sgn = 9223372036854775808 := rfl
    rcases Nat.lt_or_ge share one with g | g
    · rw [order_lt share 4607182418800017408 hshare (by omega) hs one_facts.2.2.1 (by rw [(rung_pos (by omega)).2.2, one_facts.2.2.2]; omega)]; rfl
    · rw [order_same share 4607182418800017408 hshare (by omega) hs one_facts.2.2.1 (by rw [(rung_pos (by omega)).2.2, one_facts.2.2.2]; omega)]; rfl
  have HL0 : Hid (∀ r, Rep (smoothO old x0 share) r → ∀ z, Rep (smoothG old x0 share) z → Like z r) := Lib.hid (by
    intro r hr z hz
    have hG : smoothG old x0 share = smoothO old x0 (clamp share) := by
      unfold smoothG
      rw [hn, hx, hs]; rfl
    rw [hG] at hz
    have hc : clamp share = share := by
      have h1 : one = 4607182418800017408 := rfl
      have hg : sgn = 9223372036854775808 := rfl
      unfold clamp
      by_cases h0 : share = 0
      · rw [if_pos (.inr h0), h0]
      · rw [if_neg (by omega), if_neg (by omega)]
    rw [hc] at hz
    exact Rep.like hz hr)
  clear hn hx hs hk
  have hcm := h.2.1
  have hnc := h.1
  unfold maxLen at hcm
  by_cases hb : 60 < n
  · have H' := Lib.hid (h.first 60 (by omega))
    obtain ⟨b0, off0, rfl, _, _⟩ := h.at' 0 (by omega)
    have hl' := h.len
    obtain ⟨l', hl2⟩ : ∃ l', l.take 60 = l' := ⟨_, rfl⟩
    rw [hl2] at H'
    clear h hl2 hl'
    go_enter Try.func6, Try.ntmps6
    go_wp2_with fail
    go_quiet (fail)
    have HB : Hid (Below w.heap.size w ((w.alloc (.cells #[.float .f64 old, .float .f64 x0, .float .f64 share, .slice (some ⟨b0, off0, none⟩) n cap] 37)).drewN nq)) := Lib.hid (below_drewN ((Below.refl _ _).alloc (Nat.le_refl _) _) nq)
    obtain ⟨W, hW⟩ : ∃ W, (w.alloc (.cells #[.float .f64 old, .float .f64 x0, .float .f64 share, .slice (some ⟨b0, off0, none⟩) n cap] 37)).drewN nq = W := ⟨_, rfl⟩
    rw [hW] at HB ⊢
    clear hW
    obtain ⟨d, e, r7, n1, n2, n3, r1, r2, r3, hrep⟩ := smooth_step old x0 share W
    have HL := Lib.hid (HL0.out r7 hrep)
    clear hrep HL0
    have H2 : Hid (IsFs (W.drewN (n1 + n2 + n3)) (some ⟨b0, off0, none⟩) 60 cap l') := Lib.hid (H'.out.below (below_drewN HB.out _))
    have HB2 : Hid (Below w.heap.size w (W.drewN (n1 + n2 + n3))) := Lib.hid (below_drewN HB.out _)
    go_wp2
    obtain ⟨W2, hW2⟩ : ∃ W2, W.drewN (n1 + n2 + n3) = W2 := ⟨_, rfl⟩
    rw [hW2] at H2 HB2 ⊢
    clear hW2
    go_loopw [9, 10] (fun t i wr => ∃ k s m : Nat, k ≤ 60 ∧ i = .int .i64 k ∧ t = .float .f64 s ∧ Hid (Rep (sumO (l'.take k)) s) ∧ wr = W2.drewN m) (fun _ i _ => 60 - (intOf i).toNat)
    case atStart => exact ⟨0, 0, 0, Nat.zero_le _, rfl, rfl, Lib.hid rep_zero, rfl⟩
    case round =>
      obtain ⟨k, s, m, hk, rfl, rfl, HR, rfl⟩ := hrel
      by_cases hlt : k < 60
      · obtain ⟨b, off, e0, hb, hc⟩ := H2.out.at' k hlt
        obtain ⟨rfl, rfl⟩ : b0 = b ∧ off0 = off := by simpa using e0
        obtain ⟨r, q, hrun, hrep⟩ := add_step _ s (l'.getD k 0).toNat HR.out (W2.drewN m)
        rw [← sumO_take l' k (by rw [H2.out.len]; exact hlt)] at hrep
        have HR' := Lib.hid hrep
        clear hrep
        generalize (l'.getD k 0).toNat = x at *
        go_wp2
        go_roundw
        case rel => exact ⟨k + 1, r, _, by omega, by go_num, rfl, HR', rfl⟩
        case measure => simp [intOf]; omega
      · have hkn : 60 = k := by omega
        have HS : Hid (Rep (sumO l') s) := Lib.hid (by
          have := HR.out
          rwa [List.take_of_length_le (by rw [H2.out.len, hkn]; exact Nat.le_refl _)] at this)
        subst hkn
        clear HR hk hlt
        have HM := Lib.hid (mean_any _ 60 cap l' (W2.drewN m) (H2.out.drewN m))
        go_wp2_with fail
        refine HM.out.mono ?_
        rintro e w3 ⟨v3, m3, rfl, hv3, rfl⟩
        have HV3 := Lib.hid hv3
        clear hv3 HM
        go_wp2_with fail
        refine (awake_any _).mono ?_
        rintro e w4 ⟨rfl, hb4⟩
        have hbw4 := (below_drewN HB2.out (m + m3)).trans (hb4.mono HB2.out.size)
        clear hb4
        go_wp2_with fail
        refine (smooth_any old x0 share hold hx0 hshare w4).mono ?_
        rintro e w5 ⟨v5, m5, rfl, hv5, rfl⟩
        have hbw5 := below_drewN hbw4 m5
        generalize w4.drewN m5 = w5 at hbw5 ⊢
        clear hbw4
        have HA := Lib.hid (alike_any v5 r7 (HL.out v5 hv5) w5)
        clear hv5
        go_wp2_with fail
        refine HA.out.mono ?_
        rintro e w6 ⟨rfl, rfl⟩
        obtain ⟨r, q, hrun, hrep⟩ := quo_step l' s HS.out w5
        rw [H2.out.len] at hrun
        change (binOp .quo 23 (.float .f64 s) (.float .f64 (floatOfInt .f64 60))).run Try.prog w5 = .ok (.float .f64 r) (w5.drewN q) at hrun
        have HA2 := Lib.hid (alike_any v3 r (Rep.like HV3.out hrep) (w5.drewN q))
        clear hrep HA
        go_wp2_with fail
        refine HA2.out.mono ?_
        rintro e w6 ⟨rfl, rfl⟩
        go_wp2
        go_ret
        exact ⟨rfl, below_drewN hbw5 q⟩
  · have H' := Lib.hid h
    clear h hcm hnc
    go_enter Try.func6, Try.ntmps6
    go_wp2_with fail
    go_quiet (fail)
    have HB : Hid (Below w.heap.size w ((w.alloc (.cells #[.float .f64 old, .float .f64 x0, .float .f64 share, .slice a n cap] 37)).drewN nq)) := Lib.hid (below_drewN ((Below.refl _ _).alloc (Nat.le_refl _) _) nq)
    obtain ⟨W, hW⟩ : ∃ W, (w.alloc (.cells #[.float .f64 old, .float .f64 x0, .float .f64 share, .slice a n cap] 37)).drewN nq = W := ⟨_, rfl⟩
    rw [hW] at HB ⊢
    clear hW
    obtain ⟨d, e, r7, n1, n2, n3, r1, r2, r3, hrep⟩ := smooth_step old x0 share W
    have HL := Lib.hid (HL0.out r7 hrep)
    clear hrep HL0
    have H2 : Hid (IsFs (W.drewN (n1 + n2 + n3)) a n cap l) := Lib.hid (H'.out.below (below_drewN HB.out _))
    have HB2 : Hid (Below w.heap.size w (W.drewN (n1 + n2 + n3))) := Lib.hid (below_drewN HB.out _)
    go_wp2
    obtain ⟨W2, hW2⟩ : ∃ W2, W.drewN (n1 + n2 + n3) = W2 := ⟨_, rfl⟩
    rw [hW2] at H2 HB2 ⊢
    clear hW2
    go_loopw [9, 10] (fun t i wr => ∃ k s m : Nat, k ≤ n ∧ i = .int .i64 k ∧ t = .float .f64 s ∧ Hid (Rep (sumO (l.take k)) s) ∧ wr = W2.drewN m) (fun _ i _ => n - (intOf i).toNat)
    case atStart => exact ⟨0, 0, 0, Nat.zero_le _, rfl, rfl, Lib.hid rep_zero, rfl⟩
    case round =>
      obtain ⟨k, s, m, hk, rfl, rfl, HR, rfl⟩ := hrel
      by_cases hlt : k < n
      · obtain ⟨b, off, e0, hb, hc⟩ := H2.out.at' k hlt
        obtain rfl := e0
        obtain ⟨r, q, hrun, hrep⟩ := add_step _ s (l.getD k 0).toNat HR.out (W2.drewN m)
        rw [← sumO_take l k (by rw [H2.out.len]; exact hlt)] at hrep
        have HR' := Lib.hid hrep
        clear hrep
        generalize (l.getD k 0).toNat = x at *
        go_wp2
        go_roundw
        case rel => exact ⟨k + 1, r, _, by omega, by go_num, rfl, HR', rfl⟩
        case measure => simp [intOf]; omega
      · have hkn : n = k := by omega
        have HS : Hid (Rep (sumO l) s) := Lib.hid (by
          have := HR.out
          rwa [List.take_of_length_le (by rw [H2.out.len, hkn]; exact Nat.le_refl _)] at this)
        subst hkn
        clear HR hk hlt
        have HM := Lib.hid (mean_any _ n cap l (W2.drewN m) (H2.out.drewN m))
        go_wp2_with fail
        refine HM.out.mono ?_
        rintro e w3 ⟨v3, m3, rfl, hv3, rfl⟩
        have HV3 := Lib.hid hv3
        clear hv3 HM
        go_wp2_with fail
        refine (awake_any _).mono ?_
        rintro e w4 ⟨rfl, hb4⟩
        have hbw4 := (below_drewN HB2.out (m + m3)).trans (hb4.mono HB2.out.size)
        clear hb4
        go_wp2_with fail
        refine (smooth_any old x0 share hold hx0 hshare w4).mono ?_
        rintro e w5 ⟨v5, m5, rfl, hv5, rfl⟩
        have hbw5 := below_drewN hbw4 m5
        generalize w4.drewN m5 = w5 at hbw5 ⊢
        clear hbw4
        have HA := Lib.hid (alike_any v5 r7 (HL.out v5 hv5) w5)
        clear hv5
        go_wp2_with fail
        refine HA.out.mono ?_
        rintro e w6 ⟨rfl, rfl⟩
        obtain ⟨r, q, hrun, hrep⟩ := quo_step l s HS.out w5
        rw [H2.out.len] at hrun
        have HA2 := Lib.hid (alike_any v3 r (Rep.like HV3.out hrep) (w5.drewN q))
        clear hrep HA
        go_wp2_with fail
        refine HA2.out.mono ?_
        rintro e w6 ⟨rfl, rfl⟩
        go_wp2
        go_ret
        exact ⟨rfl, below_drewN hbw5 q⟩

theorem walk (old x0 share : Nat) (hold : old < 18446744073709551616) (hx0 : x0 < 18446744073709551616) (hshare : share < 18446744073709551616) (a : Option Addr) (n cap : Nat) (l : List UInt64) (w : World) (h : IsFs w a n cap l) :
    Calls Try.prog 6 #[.agg #[.float .f64 old, .float .f64 x0, .float .f64 share, .slice a n cap]] w fun e w' => e = .returned (.bool true) ∧ Below w.heap.size w w' := by
  cases hn : nan old
  · cases hx : nan x0
    · cases hs : nan share
      · by_cases h1 : sgn < share
        · exact walk_neg old x0 share hold hx0 hshare a n cap l hn hx hs h1 w h
        · by_cases h2 : share = sgn
          · exact walk_nil old x0 share hold hx0 hshare a n cap l hn hx hs h2 w h
          · by_cases h3 : one < share
            · exact walk_one old x0 share hold hx0 hshare a n cap l hn hx hs ⟨h3, by omega⟩ w h
            · exact walk_within old x0 share hold hx0 hshare a n cap l hn hx hs (by omega) w h
      · exact walk_share old x0 share hold hx0 hshare a n cap l hn hx hs w h
    · exact walk_x old x0 share hold hx0 hshare a n cap l hn hx w h
  · exact walk_nan old x0 share hold hx0 hshare a n cap l hn w h

set_option maxRecDepth 100000 in
theorem lifted (os : Os) (started : os.Started) (H : Type) (enc : TypeId × Value → H) :
    ReturnsInHanded {} Try.checked os 6 .any (Rows.gaugeSmoothsSpec.pre6 enc Try.prog Try.f6 Rows.gaugeSmoothsRow.domain false) (Rows.gaugeSmoothsSpec.post enc Try.prog Try.f6 false true false false) := by
  refine returnsInHanded_of_change (C := Try.checked) own started (by kernel_rfl) Try.func6
    (ChangeSpec.witness6 (enc := enc) (C := Try.checked) false ⟨#[], #[.agg #[.float .f64 0, .float .f64 0, .float .f64 0, .slice none 0 0]], []⟩ 8 (by kernel_rfl) (by kernel_rfl) (by kernel_rfl) (by kernel_rfl)) ?_
  intro W base args ds gs before hval0 hW _ _
  have hval : ∀ (j : Nat) t v, Try.f6.params[j]? = some t → args[j]? = some v → Value.okWide Try.prog W .any base t v := hval0
  have hW' := hW
  obtain ⟨p, q, hA0, hV, rfl, hfz, hnd⟩ := hW
  have hA : DataW.TrodAll enc Try.prog W 0 (fun _ => true) true Try.f6.params.toList args.toList ds p := hA0
  rw [Try.params6] at hA hval
  obtain ⟨v0, vs0, d0, ds0, p0, q0, hargs, rfl, rfl, h0, r0⟩ := trodAll_cons hA
  obtain ⟨rfl, rfl, rfl⟩ := trodAll_nil r0
  obtain rfl : args = #[v0] := by cases args; simp_all
  obtain ⟨rfl, rfl⟩ := trodVars_none hV
  have k0 := h0
  have lt0 : ∀ x ∈ p0, x.block < W.heap.size := by obtain ⟨m, hm⟩ := k0; exact DataW.trod_lt m _ _ _ hm
  obtain ⟨c0, c1, c2, c3, y0, y1, y2, y3, m0, rfl, hd0, hp0, t0, t1, t2, t3⟩ := Joins.open_agg4 Try.underlying37 (by kernel_rfl) (by kernel_rfl) (hval 0 37 v0 rfl rfl) h0
  obtain ⟨z0, e0, _, b0⟩ := Fw.trod_float Try.underlying23 t0
  obtain ⟨z1, e1, _, b1⟩ := Fw.trod_float Try.underlying23 t1
  obtain ⟨z2, e2, _, b2⟩ := Fw.trod_float Try.underlying23 t2
  obtain ⟨ad, len, cap, l, e3, hl⟩ := Fw.isFs_of Try.underlying30 Try.underlying23 (by kernel_rfl) t3
  simp only [List.cons.injEq, and_true] at e0 e1 e2 e3
  subst e0 e1 e2 e3
  clear hA0 hval0
  refine (walk z0 z1 z2 b0 b1 b2 ad len cap l W hl).mono fun e W' ⟨he, bel⟩ => ?_
  subst he
  exact ⟨_, rfl, _, _, _, [], _, [], hW', trodAll_mk1 (shut_bool Try.underlying4 _), (trodAll_cons_mk (Below.trod laidOut (by kernel_rfl) (of_decide_eq_true (by kernel_rfl)) k0 bel lt0) trodAll_mk0), rfl, bel.frame _, fun h => by cases h⟩

theorem over : Rows.gaugeSmoothsRow.holds Try.pinned (OpenSpec.ofChange Rows.gaugeSmoothsSpec) :=
  OpenClaim.holds_of_wide 6 Try.f6 rfl rfl rfl rfl rfl rfl rfl ⟨rfl, rfl, rfl, rfl, rfl⟩ rfl rfl rfl rfl rfl (by kernel_rfl) Try.func6 (by kernel_rfl)
    (of_decide_eq_true (by kernel_rfl)) (by unfold Func.isWrapper; first | (rw [if_pos (by decide +kernel)]; kernel_rfl) | (rw [if_neg (by decide +kernel)]; exact ⟨rfl, rfl⟩))
    (fun os started H enc _ => lifted os started H enc)

theorem proved : Rows.GaugeSmoothsSaid := over

end Go.Proofs.Ytcefohebnngfnaa.gaugeSmooths
