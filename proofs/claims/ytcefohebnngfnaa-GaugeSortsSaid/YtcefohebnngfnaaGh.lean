/-
  Contract of the plain answer's Sort.
-/
import Derived.Test.YtcefohebnngfnaaGg
namespace Go.Proofs.Ytcefohebnngfnaa
open Go.RowKit

namespace Fw
open Fl
theorem rless_quiet (a b : Nat) (ha : a < 18446744073709551616) (hb : b < 18446744073709551616) (w : World) (q : Nat) :
    Calls Try.prog 8 #[.float .f64 a, .float .f64 b] (w.drewN q) fun e w' => e = .returned (.bool (lessK a b)) ∧ w' = w.drewN q := (rless_any a b ha hb _).mono fun _ _ h => ⟨h.1, h.2.symm⟩
/-- one more, put in behind all that it is not ahead of -/
theorem put_behind (s : List UInt64) (u : UInt64) (k : Nat) (hk : k ≤ s.length) (hr : Rising s) (h1 : ∀ i, i < k → key (s.getD i 0).toNat ≤ key u.toNat) (h2 : k < s.length → key u.toNat < key (s.getD k 0).toNat) :
    Rising (s.take k ++ [u] ++ s.drop k) ∧ (s.take k ++ [u] ++ s.drop k).Perm (u :: s) := by
  have ht : ∀ x ∈ s.take k, key x.toNat ≤ key u.toNat := by
    intro x hx
    obtain ⟨i, hi, rfl⟩ := List.getElem_of_mem hx
    have hi' : i < k := by rw [List.length_take] at hi; omega
    have := h1 i hi'
    rw [List.getElem_take]
    rwa [List.getD, List.getElem?_eq_getElem (by omega)] at this
  have hd : ∀ x ∈ s.drop k, key u.toNat ≤ key x.toNat := by
    intro x hx
    obtain ⟨i, hi, rfl⟩ := List.getElem_of_mem hx
    rw [List.length_drop] at hi
    have h3 := h2 (by omega)
    rw [List.getD, List.getElem?_eq_getElem (by omega)] at h3
    rw [List.getElem_drop]
    simp only [Option.getD_some] at h3
    by_cases h0 : i = 0
    · subst h0; simp only [Nat.add_zero]; omega
    · have := (List.pairwise_iff_getElem.1 hr) k (k + i) (by omega) (by omega) (by omega)
      omega
  have hs : Rising (s.take k ++ s.drop k) := by rw [List.take_append_drop]; exact hr
  unfold Rising at hs ⊢
  rw [List.pairwise_append] at hs
  refine ⟨?_, ?_⟩
  · rw [List.append_assoc, List.pairwise_append]
    refine ⟨hs.1, ?_, ?_⟩
    · rw [List.singleton_append, List.pairwise_cons]; exact ⟨hd, hs.2.1⟩
    · intro x hx y hy
      rw [List.singleton_append, List.mem_cons] at hy
      rcases hy with rfl | hy
      · exact ht x hx
      · exact hs.2.2 x hx y hy
  · rw [List.append_assoc, List.singleton_append]
    refine List.perm_middle.trans ?_
    rw [List.take_append_drop]
/-- what stands behind a place -/
theorem IsFs.rest {w : World} {g n cap : Nat} {l : List UInt64} (h : IsFs w (some ⟨g, 0, none⟩) n cap l) (k : Nat) (hk : k ≤ n) (a : Option Addr) (ha : k < n → a = some ⟨g, k, none⟩) (hn : a ≠ none) : IsFs w a (n - k) (cap - k) (l.drop k) := by
  have h1 := h.1
  have h2 := h.len
  have h3 := h.2.1
  refine ⟨by omega, by omega, by rw [List.length_drop]; omega, fun e => absurd e hn, fun j hj => ?_⟩
  obtain ⟨b, off, e1, e2, e3⟩ := h.at' (k + j) (by omega)
  obtain ⟨rfl, rfl⟩ : g = b ∧ 0 = off := by simpa using e1
  refine ⟨g, k, ha (by omega), e2, ?_⟩
  rw [← Nat.zero_add (k + j), e3]
  simp [List.getD]

/-- the three appends: what stands ahead, the one more, what stands behind, in memory of the call's own -/
theorem puts (W : World) (a1 : Option Addr) (p c1 : Nat) (t1 : List UInt64) (h1 : IsFs W a1 p c1 t1) (u : UInt64) (a2 : Option Addr) (m c2 : Nat) (t2 : List UInt64) (h2 : IsFs W a2 m c2 t2) (h60 : p + m ≤ 60) :
    ∃ v1 w1 v2 w3 g c w4, (Builtin.append_ #[30, 30] 30 #[.slice (some ⟨W.heap.size, 0, none⟩) 0 0, .slice a1 p c1]).run Try.prog (W.alloc (.cells #[] 23)) = .ok v1 w1 ∧
      (Builtin.append_ #[30, 30] 30 #[v1, .slice (some ⟨w1.heap.size, 0, none⟩) 1 1]).run Try.prog (w1.alloc (.cells #[.float .f64 u.toNat] 23)) = .ok v2 w3 ∧
      (Builtin.append_ #[30, 30] 30 #[v2, .slice a2 m c2]).run Try.prog w3 = .ok (.slice (some ⟨g, 0, none⟩) (p + 1 + m) c) w4 ∧
      IsFs w4 (some ⟨g, 0, none⟩) (p + 1 + m) c (t1 ++ [u] ++ t2) ∧ Below W.heap.size W w1 ∧ Below W.heap.size W w3 ∧ Below W.heap.size W w4 := by
  have o0 : (W.alloc (.cells #[] 23)).ownsRow W.heap.size 23 1 (.slice (some ⟨W.heap.size, 0, none⟩) 0 0) 0 [] := World.ownsRow_lit W #[] 0 (Nat.le_refl _) (Nat.zero_le _) rfl
  have b0 : Below W.heap.size W (W.alloc (.cells #[] 23)) := (Below.refl _ _).alloc (Nat.le_refl _) _
  obtain ⟨v1, w1, r1, o1, g1, _⟩ := app_run W.heap.size _ 0 [] _ o0 a1 p c1 t1 (h1.below b0) (by omega) b0.size 30
  have b1 := below_grown b0 g1 b0.size (fun q hq => (o0.lt q hq).1)
  have b1' := b1.alloc b1.size (.cells #[.float .f64 u.toNat] 23)
  rw [Nat.zero_add, List.nil_append] at o1
  have o1' := o1.alloc (.cells #[.float .f64 u.toNat] 23)
  obtain ⟨v2, w3, r2, o2, g2, _⟩ := app_run W.heap.size v1 p _ _ o1' (some ⟨w1.heap.size, 0, none⟩) 1 1 [u] (IsFs.new w1 [u] (by unfold maxLen; simp) _ _ rfl) (by omega) b1'.size 30
  have b2 := below_grown b1' g2 b1'.size (fun q hq => (o1'.lt q hq).1)
  obtain ⟨v3, w4, r3, o3, g3, _⟩ := app_run W.heap.size v2 (p + 1) _ _ o2 a2 m c2 t2 (h2.below b2) (by omega) b2.size 30
  have b3 := below_grown b2 g3 b2.size (fun q hq => (o2.lt q hq).1)
  rw [← List.map_append, ← List.map_append] at o3
  obtain ⟨a, c, rfl, hf⟩ := IsFs.ofOwn o3
  rcases o3.2 with ⟨_, hz⟩ | ⟨g, cap', cur, he, _⟩
  · omega
  · injection he with he1 he2 he3
    subst he1
    exact ⟨v1, w1, v2, w3, g, c, w4, r1, r2, r3, hf, b1, b2, b3⟩

theorem IsFs.empty {w : World} {ad : Addr} {c : Nat} (hc : c ≤ maxLen) : IsFs w (some ad) 0 c [] :=
  ⟨Nat.zero_le _, hc, rfl, fun e => (by cases e), fun _ hj => absurd hj (Nat.not_lt_zero _)⟩

set_option maxRecDepth 100000 in
set_option maxHeartbeats 8000000 in
theorem rsort_any (a : Option Addr) (n cap : Nat) (l : List UInt64) (h60 : n ≤ 60) (w : World) (h : IsFs w a n cap l) :
    Calls Try.prog 18 #[.slice a n cap] w (GotSorted w n l) := by
  have hnc := h.1
  have hcm := h.2.1
  unfold maxLen at hcm
  have H := Lib.hid h
  clear h
  go_enter Try.func18, Try.ntmps18
  go_wp2
  go_loopw [3, 4] (fun o i wr => ∃ (k c : Nat) (ao : Option Addr) (s : List UInt64), k ≤ n ∧ i = .int .i64 k ∧ o = .slice ao k c ∧ ((ao = none ∧ k = 0 ∧ c = 0) ∨ ∃ g, ao = some ⟨g, 0, none⟩) ∧ Hid (IsFs wr ao k c s ∧ s.Perm (l.take k) ∧ Rising s) ∧ Hid (Below w.heap.size w wr)) (fun _ i _ => n - (intOf i).toNat)
  case atStart => exact ⟨0, 0, none, [], Nat.zero_le _, rfl, rfl, .inl ⟨rfl, rfl, rfl⟩, Lib.hid ⟨IsFs.nil _, List.Perm.refl _, List.Pairwise.nil⟩, Lib.hid (Below.refl _ _)⟩
  case round =>
    obtain ⟨k, c, ao, s, hk, rfl, rfl, hform, HS, HB⟩ := hrel
    by_cases hlt : k < n
    · obtain ⟨b, off, rfl, hb, hc⟩ := (H.out.below HB.out).at' k hlt
      obtain ⟨u, hu⟩ : ∃ u, l.getD k 0 = u := ⟨_, rfl⟩
      rw [hu] at hc
      have HU := Lib.hid hu
      clear hu
      have hkc := HS.out.1.1
      have hcc := HS.out.1.2.1
      unfold maxLen at hcc
      rcases hform with ⟨rfl, rfl, rfl⟩ | ⟨g, rfl⟩
      · have hs0 : s = [] := List.eq_nil_of_length_eq_zero HS.out.1.len
        go_wp2
        refine wp_loop_rounds 1 ?_
        rw [rounds_succ]
        go_wp2_with fail
        go_quiet (fail)
        obtain ⟨W, hW⟩ : ∃ W, wr.drewN nq = W := ⟨_, rfl⟩
        have HWB : Hid (Below w.heap.size w W) := Lib.hid (by rw [← hW]; exact below_drewN HB.out nq)
        rw [hW]
        clear hW
        have HP : Hid (∀ i, i < 0 → key (s.getD i 0).toNat ≤ key u.toNat) := Lib.hid (fun i hi => absurd hi (Nat.not_lt_zero _))
        obtain ⟨v1, w1, v2, w3, g4, c4, w4, r1, r2, r3, hf, b1, b2, b3⟩ := puts W (none) 0 0 s (by rw [hs0]; exact IsFs.nil _) u (none) 0 (0) [] (IsFs.nil _) (by omega)
        have hc1 : w1.cell? ⟨b, off + 0, none⟩ = some (.float .f64 u.toNat) := by
          obtain ⟨b', off', e0, _, hcs⟩ := (H.out.below (HWB.out.trans (b1.mono HWB.out.size))).at' 0 hlt
          obtain ⟨rfl, rfl⟩ : b = b' ∧ off = off' := by simpa using e0
          rw [HU.out] at hcs
          exact hcs
        clear hs0
        rw [Nat.add_zero] at hc1
        have HPI := Lib.hid (put_behind s u 0 (by rw [HS.out.1.len]; exact Nat.le_refl _) HS.out.2.2 HP.out (fun h => absurd h (by rw [HS.out.1.len]; exact Nat.lt_irrefl _)))
        have hB4 : Hid (Below w.heap.size w w4) := Lib.hid (HWB.out.trans (b3.mono HWB.out.size))
        have HR1 := Lib.hid r1
        have HR2 := Lib.hid r2
        have HR3 := Lib.hid r3
        have HF := Lib.hid hf
        clear r1 r2 r3 hf b1 b2 b3 hc
        go_wp2_with (at_builtin; first | (refine Lib.wpList_append_run _ rfl _ _ _ _ rfl _ _ rfl rfl _ _ HR1.out ?_) | (refine Lib.wpList_append_run _ rfl _ _ _ _ rfl _ _ rfl rfl _ _ HR2.out ?_) | (refine Lib.wpList_append_run _ rfl _ _ _ _ rfl _ _ rfl rfl _ _ HR3.out ?_))
        go_roundw
        case rel =>
          have hd : s.take 0 = s ∧ s.drop 0 = [] := ⟨List.take_of_length_le (by rw [HS.out.1.len]; exact Nat.le_refl _), List.drop_of_length_le (by rw [HS.out.1.len]; exact Nat.le_refl _)⟩
          have hi := HPI.out
          rw [hd.1, hd.2] at hi
          refine ⟨0 + 1, c4, some ⟨g4, 0, none⟩, _, by omega, by go_num, rfl, .inr ⟨g4, rfl⟩, Lib.hid ⟨HF.out, ?_, hi.1⟩, hB4⟩
          refine hi.2.trans ?_
          have hk' : 0 < l.length := by rw [H.out.len]; exact hlt
          rw [List.take_succ_eq_append_getElem hk']
          have e := HU.out
          rw [List.getD, List.getElem?_eq_getElem hk'] at e
          simp only [Option.getD_some] at e
          rw [e]
          exact ((List.Perm.cons u HS.out.2.1).trans (List.perm_append_singleton u (l.take 0)).symm)
        case measure => simp [intOf]; omega
      · go_wp2
        go_loopw [5] (fun j wx => ∃ (p m : Nat), p ≤ k ∧ j = .int .i64 p ∧ Hid (∀ i, i < p → key (s.getD i 0).toNat ≤ key u.toNat) ∧ wx = wr.drewN m) (fun j _ => k - (intOf j).toNat)
        case atStart => exact ⟨0, 0, Nat.zero_le _, rfl, Lib.hid (fun i hi => absurd hi (Nat.not_lt_zero _)), rfl⟩
        case round =>
          clear hc
          obtain ⟨p, m, hp, rfl, HP, rfl⟩ := hrel
          obtain ⟨wx, hwx⟩ : ∃ wx, wx = wr.drewN m := ⟨_, rfl⟩
          rw [← hwx]
          have HW := Lib.hid hwx
          clear hwx
          have hc : wx.cell? ⟨b, off + k, none⟩ = some (.float .f64 u.toNat) := by
            rw [HW.out]
            obtain ⟨b', off', e0, _, hcs⟩ := (H.out.below HB.out).at' k hlt
            obtain ⟨rfl, rfl⟩ : b = b' ∧ off = off' := by simpa using e0
            rw [HU.out] at hcs
            exact hcs
          by_cases hpk : p < k
          · obtain ⟨g', off', e0, hg, hcs⟩ := (HS.out.1.drewN m).at' p hpk
            obtain ⟨rfl, rfl⟩ : g = g' ∧ 0 = off' := by simpa using e0
            clear e0
            rw [← HW.out] at hcs
            obtain ⟨y, hy⟩ : ∃ y, s.getD p 0 = y := ⟨_, rfl⟩
            rw [hy] at hcs
            have HY := Lib.hid hy
            clear hy
            rw [Nat.zero_add] at hcs
            have hu64 := lt64 u
            have hy64 := lt64 y
            have HL := Lib.hid (fun q => rless_quiet u.toNat y.toNat hu64 hy64 wx q)
            obtain ⟨un, hun⟩ : ∃ un, u.toNat = un := ⟨_, rfl⟩
            obtain ⟨yn, hyn⟩ : ∃ yn, y.toNat = yn := ⟨_, rfl⟩
            rw [hun] at hc HL
            rw [hyn] at hcs HL
            clear hu64 hy64
            have hpk' : decide (p < k) = true := decide_eq_true hpk
            cases hle : lessK un yn
            · rw [hle] at HL
              have HLE : Hid (∀ i, i < p + 1 → key (s.getD i 0).toNat ≤ key u.toNat) := Lib.hid (fun i hi => by
                by_cases e : i = p
                · subst e; rw [HY.out, hun, hyn]; exact Nat.not_lt.1 (of_decide_eq_false hle)
                · exact HP.out i (by omega))
              clear hun hyn hle
              go_wp2_with fail
              go_quiet ((go_at_call 8; exact Calls.quiet_of_same (HL.out _)))
              go_wp2
              go_roundw
              case rel => exact ⟨p + 1, m + nq, by omega, by go_num, HLE, by rw [HW.out]; exact World.drewN_drewN _ _ _⟩
              case measure => simp [intOf]; omega
            · rw [hle] at HL
              have HLT : Hid (p < k → key u.toNat < key (s.getD p 0).toNat) := Lib.hid (fun _ => by rw [HY.out, hun, hyn]; exact of_decide_eq_true hle)
              clear hyn hle
              go_wp2_with fail
              go_quiet ((go_at_call 8; exact Calls.quiet_of_same (HL.out _)))
              obtain ⟨W, hW⟩ : ∃ W, wx.drewN nq = W := ⟨_, rfl⟩
              have HWB : Hid (Below w.heap.size w W) := Lib.hid (by rw [← hW, HW.out]; exact below_drewN (below_drewN HB.out m) nq)
              have HSS : Hid (IsFs W (some ⟨g, 0, none⟩) k c s) := Lib.hid (by rw [← hW, HW.out]; exact HS.out.1)
              rw [hW]
              rw [← hun] at hc
              clear hW hpk' hcs hun
              have h1 := HSS.out.first p (by omega)
              have h2 : IsFs W (some ⟨g, p, none⟩) (k - p) (c - p) (s.drop p) := HSS.out.rest p (by omega) _ (fun h => rfl) (by simp)
              obtain ⟨v1, w1, v2, w3, g4, c4, w4, r1, r2, r3, hf, b1, b2, b3⟩ := puts W (some ⟨g, 0, none⟩) p c (s.take p) h1 u _ (k - p) (c - p) (s.drop p) h2 (by omega)
              have hc1 : w1.cell? ⟨b, off + k, none⟩ = some (.float .f64 u.toNat) := by
                obtain ⟨b', off', e0, _, hcs⟩ := (H.out.below (HWB.out.trans (b1.mono HWB.out.size))).at' k hlt
                obtain ⟨rfl, rfl⟩ : b = b' ∧ off = off' := by simpa using e0
                rw [HU.out] at hcs
                exact hcs
              have HPI := Lib.hid (put_behind s u p (by rw [HSS.out.len]; omega) HS.out.2.2 HP.out (fun h => HLT.out (by rw [HSS.out.len] at h; exact h)))
              have hB4 : Hid (Below w.heap.size w w4) := Lib.hid (HWB.out.trans (b3.mono HWB.out.size))
              have HR1 := Lib.hid r1
              have HR2 := Lib.hid r2
              have HR3 := Lib.hid r3
              have HF := Lib.hid hf
              clear r1 r2 r3 hf b1 b2 b3 h1 h2 hc
              go_wp2_with (at_builtin; first | (refine Lib.wpList_append_run _ rfl _ _ _ _ rfl _ _ rfl rfl _ _ HR1.out ?_) | (refine Lib.wpList_append_run _ rfl _ _ _ _ rfl _ _ rfl rfl _ _ HR2.out ?_) | (refine Lib.wpList_append_run _ rfl _ _ _ _ rfl _ _ rfl rfl _ _ HR3.out ?_))
              go_roundw
              case rel =>
                refine ⟨k + 1, c4, some ⟨g4, 0, none⟩, _, by omega, by go_num, by rw [show p + 1 + (k - p) = k + 1 by omega], .inr ⟨g4, rfl⟩, Lib.hid ⟨by have := HF.out; rwa [show p + 1 + (k - p) = k + 1 by omega] at this, ?_, HPI.out.1⟩, hB4⟩
                refine HPI.out.2.trans ?_
                have hk' : k < l.length := by rw [H.out.len]; exact hlt
                rw [List.take_succ_eq_append_getElem hk']
                have e := HU.out
                rw [List.getD, List.getElem?_eq_getElem hk'] at e
                simp only [Option.getD_some] at e
                rw [e]
                exact ((List.Perm.cons u HS.out.2.1).trans (List.perm_append_singleton u (l.take k)).symm)
              case measure => simp [intOf]; omega
          · obtain rfl : k = p := by omega
            have hpk' : decide (k < k) = false := by simp
            have HLT : Hid (k < k → key u.toNat < key (s.getD k 0).toNat) := Lib.hid (fun h => absurd h (Nat.lt_irrefl _))
            go_wp2_with fail
            go_quiet (fail)
            obtain ⟨W, hW⟩ : ∃ W, wx.drewN nq = W := ⟨_, rfl⟩
            have HWB : Hid (Below w.heap.size w W) := Lib.hid (by rw [← hW, HW.out]; exact below_drewN (below_drewN HB.out m) nq)
            have HSS : Hid (IsFs W (some ⟨g, 0, none⟩) k c s) := Lib.hid (by rw [← hW, HW.out]; exact HS.out.1)
            rw [hW]
            clear hW hpk'
            by_cases hck : c = k
            · subst hck
              obtain ⟨v1, w1, v2, w3, g4, c4, w4, r1, r2, r3, hf, b1, b2, b3⟩ := puts W (some ⟨g, 0, none⟩) c c s (HSS.out) u (some ⟨g, 0, none⟩) 0 (0) [] (IsFs.empty (by unfold maxLen; omega)) (by omega)
              have hc1 : w1.cell? ⟨b, off + c, none⟩ = some (.float .f64 u.toNat) := by
                obtain ⟨b', off', e0, _, hcs⟩ := (H.out.below (HWB.out.trans (b1.mono HWB.out.size))).at' c hlt
                obtain ⟨rfl, rfl⟩ : b = b' ∧ off = off' := by simpa using e0
                rw [HU.out] at hcs
                exact hcs
              have hzero : (0 : Nat) ≤ c := Nat.zero_le _
              have HPI := Lib.hid (put_behind s u c (by rw [HS.out.1.len]; exact Nat.le_refl _) HS.out.2.2 HP.out (fun h => absurd h (by rw [HS.out.1.len]; exact Nat.lt_irrefl _)))
              have hB4 : Hid (Below w.heap.size w w4) := Lib.hid (HWB.out.trans (b3.mono HWB.out.size))
              have HR1 := Lib.hid r1
              have HR2 := Lib.hid r2
              have HR3 := Lib.hid r3
              have HF := Lib.hid hf
              clear r1 r2 r3 hf b1 b2 b3 hc
              go_wp2_with (at_builtin; first | (refine Lib.wpList_append_run _ rfl _ _ _ _ rfl _ _ rfl rfl _ _ HR1.out ?_) | (refine Lib.wpList_append_run _ rfl _ _ _ _ rfl _ _ rfl rfl _ _ HR2.out ?_) | (refine Lib.wpList_append_run _ rfl _ _ _ _ rfl _ _ rfl rfl _ _ HR3.out ?_))
              go_roundw
              case rel =>
                have hd : s.take c = s ∧ s.drop c = [] := ⟨List.take_of_length_le (by rw [HS.out.1.len]; exact Nat.le_refl _), List.drop_of_length_le (by rw [HS.out.1.len]; exact Nat.le_refl _)⟩
                have hi := HPI.out
                rw [hd.1, hd.2] at hi
                refine ⟨c + 1, c4, some ⟨g4, 0, none⟩, _, by omega, by go_num, rfl, .inr ⟨g4, rfl⟩, Lib.hid ⟨HF.out, ?_, hi.1⟩, hB4⟩
                refine hi.2.trans ?_
                have hk' : c < l.length := by rw [H.out.len]; exact hlt
                rw [List.take_succ_eq_append_getElem hk']
                have e := HU.out
                rw [List.getD, List.getElem?_eq_getElem hk'] at e
                simp only [Option.getD_some] at e
                rw [e]
                exact ((List.Perm.cons u HS.out.2.1).trans (List.perm_append_singleton u (l.take c)).symm)
              case measure => simp [intOf]; omega
            · obtain ⟨v1, w1, v2, w3, g4, c4, w4, r1, r2, r3, hf, b1, b2, b3⟩ := puts W (some ⟨g, 0, none⟩) k c s (HSS.out) u (some ⟨g, k, none⟩) 0 (c - k) [] (IsFs.empty (by unfold maxLen; omega)) (by omega)
              have hc1 : w1.cell? ⟨b, off + k, none⟩ = some (.float .f64 u.toNat) := by
                obtain ⟨b', off', e0, _, hcs⟩ := (H.out.below (HWB.out.trans (b1.mono HWB.out.size))).at' k hlt
                obtain ⟨rfl, rfl⟩ : b = b' ∧ off = off' := by simpa using e0
                rw [HU.out] at hcs
                exact hcs
              have hzero : (0 : Nat) ≤ c := Nat.zero_le _
              have HPI := Lib.hid (put_behind s u k (by rw [HS.out.1.len]; exact Nat.le_refl _) HS.out.2.2 HP.out (fun h => absurd h (by rw [HS.out.1.len]; exact Nat.lt_irrefl _)))
              have hB4 : Hid (Below w.heap.size w w4) := Lib.hid (HWB.out.trans (b3.mono HWB.out.size))
              have HR1 := Lib.hid r1
              have HR2 := Lib.hid r2
              have HR3 := Lib.hid r3
              have HF := Lib.hid hf
              clear r1 r2 r3 hf b1 b2 b3 hc
              go_wp2_with (at_builtin; first | (refine Lib.wpList_append_run _ rfl _ _ _ _ rfl _ _ rfl rfl _ _ HR1.out ?_) | (refine Lib.wpList_append_run _ rfl _ _ _ _ rfl _ _ rfl rfl _ _ HR2.out ?_) | (refine Lib.wpList_append_run _ rfl _ _ _ _ rfl _ _ rfl rfl _ _ HR3.out ?_))
              go_roundw
              case rel =>
                have hd : s.take k = s ∧ s.drop k = [] := ⟨List.take_of_length_le (by rw [HS.out.1.len]; exact Nat.le_refl _), List.drop_of_length_le (by rw [HS.out.1.len]; exact Nat.le_refl _)⟩
                have hi := HPI.out
                rw [hd.1, hd.2] at hi
                refine ⟨k + 1, c4, some ⟨g4, 0, none⟩, _, by omega, by go_num, rfl, .inr ⟨g4, rfl⟩, Lib.hid ⟨HF.out, ?_, hi.1⟩, hB4⟩
                refine hi.2.trans ?_
                have hk' : k < l.length := by rw [H.out.len]; exact hlt
                rw [List.take_succ_eq_append_getElem hk']
                have e := HU.out
                rw [List.getD, List.getElem?_eq_getElem hk'] at e
                simp only [Option.getD_some] at e
                rw [e]
                exact ((List.Perm.cons u HS.out.2.1).trans (List.perm_append_singleton u (l.take k)).symm)
              case measure => simp [intOf]; omega
    · have hkn : n = k := by omega
      subst hkn
      go_wp2
      go_ret
      refine ⟨ao, c, s, rfl, HS.out.1, ?_, HS.out.2.2, HB.out⟩
      have hp := HS.out.2.1
      rwa [List.take_of_length_le (by rw [H.out.len]; exact Nat.le_refl _)] at hp
end Fw
end Go.Proofs.Ytcefohebnngfnaa
