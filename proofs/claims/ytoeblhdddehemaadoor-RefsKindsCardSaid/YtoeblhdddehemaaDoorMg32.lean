/-
  The plain answer's Get: seventeen items, a branch; any bytes.
-/
import Derived.Test.YtoeblhdddehemaaDoorMg30
import Derived.Test.YtoeblhdddehemaaDoorMg31
import Derived.Deep.DeepCutAuto
namespace Go.Proofs.YtoeblhdddehemaaDoor
set_option maxRecDepth 100000
open Go.RowKit

namespace No
open Rl Ni
/-- the references so far -/
def kidsJ (xs : List It) (j : Nat) : List ByteArray := (xs.take j).map (fun x => (kidR x).1) ++ List.replicate (16 - j) eB
theorem kidsJ_length {xs : List It} (h : xs.length = 17) {j : Nat} (hj : j ≤ 16) : (kidsJ xs j).length = 16 := by
  unfold kidsJ
  rw [List.length_append, List.length_map, List.length_take, List.length_replicate, h]
  omega
theorem kidsJ_set {xs : List It} (h : xs.length = 17) {j : Nat} (hj : j < 16) {x : It} (hx : xs[j]? = some x) (c : Nat) (a : Option Addr) (n : Nat) : (ndC ⟨3, [], eB, kidsJ xs j⟩ a n c).setIfInBounds (3 + j) (.string (kidR x).1) = ndC ⟨3, [], eB, kidsJ xs (j + 1)⟩ a n c := by
  have hj' : j < xs.length := by omega
  have e : xs[j] = x := (List.getElem?_eq_some_iff.1 hx).2
  have hk : (kidsJ xs j).set j (kidR x).1 = kidsJ xs (j + 1) := by
    unfold kidsJ
    rw [show 16 - j = (16 - (j + 1)) + 1 by omega, List.replicate_succ, List.take_succ_eq_append_getElem hj', e, List.map_append, List.map_cons, List.map_nil]
    simp [Nat.min_eq_left (Nat.le_of_lt hj')]
  unfold ndC
  rw [← hk, show 3 + j = j + 1 + 1 + 1 by omega]
  simp [List.map_set]
theorem kidsJ_end (xs : List It) : (⟨3, [], eB, kidsJ xs 16⟩ : Nd) = brN xs := by
  unfold kidsJ brN
  simp
set_option maxHeartbeats 16000000 in
theorem rget_branch (s : ByteArray) (hs : s.size ≤ 1000000) (x : It) (k : Nat) (hr : readL s.data.toList 0 0 = .ok (x, s.size, k)) (hw : wholeL s.data.toList = .ok x) (h17 : x.xs.length = 17) (hR : ∀ k : ByteArray, k.size ≤ 1000000 → (k.size < 32 → k.size < s.size) → RRefC k) (w : World) : Calls Tryd.prog 28 #[.string s] w (ReadPost w (getP s.data.toList)) := by
  have hsl : s.data.toList.length ≤ 1000000 := by rw [len_s]; omega
  have hm := get_branch hsl hw h17
  have HG : Hid (getP s.data.toList = if mayW refP (brN x.xs) = true ∧ putP (brN x.xs) = s.data.toList then some (brN x.xs) else none) := Lib.hid (get_if hsl (brN_length h17) (fun M h => (hm M h).2))
  have HF : Hid (∀ y, y ∈ x.xs.take 16 → (kidR y).2 = false → getP s.data.toList = none) := Lib.hid (fun y hy hf => by
    cases hg : getP s.data.toList with
    | none => rfl
    | some M => exact absurd (((hm M hg).1 y hy).symm.trans hf) (by decide))
  clear hm
  obtain ⟨G, hGG⟩ : ∃ G, getP s.data.toList = G := ⟨_, rfl⟩
  rw [hGG] at HG HF ⊢
  clear hGG
  have HGood := Lib.hid (good_of hsl hw)
  have HLess := Lib.hid (fun y (hy : y ∈ x.xs) => el_less hs hw hy)
  have HKd : Hid (∀ y ∈ x.xs, ∀ (w' : World) (A : Option Addr) (N C : Nat), IsIts w' y.xs A N C → Calls Tryd.prog 46 #[.agg #[.bool y.l, .string y.s, .slice A N C]] w' fun e w'' => e = .returned (.tuple #[.string (kidR y).1, .bool (kidR y).2]) ∧ Below w'.heap.size w' w'') := Lib.hid (fun y hy w' A N C h => by
    have hl := HLess.out y hy
    have hg := HGood.out y hy
    exact rkid_any y w' A N C h hg (fun _ hlt => hR _ (by rw [ba_size]; omega) (fun _ => by rw [ba_size]; omega)) (fun _ => hR _ hg.2.2.2 (fun _ => by omega)))
  have hRk : ∀ k ∈ (brN x.xs).ks, RRefC k := fun k hk => by
    obtain ⟨y, hy, rfl⟩ := List.mem_map.1 (show k ∈ (x.xs.take 16).map (fun x => (kidR x).1) from hk)
    have hl := HLess.out y (List.mem_of_mem_take hy)
    have := kidR_size hl.2
    exact hR _ (by omega) (fun _ => by omega)
  have hNl : (brN x.xs).ks.length = 16 := brN_length h17
  have hMay := fun w' (h : IsBs w' none 0 0 (brN x.xs).p) => rmay_any (brN x.xs) none 0 0 hNl w' h (Nat.zero_le _) hRk
  have hPut := fun (hm : mayW refP (brN x.xs) = true) w' (h : IsBs w' none 0 0 (brN x.xs).p) => rput_of (brN x.xs) none 0 0 hNl w' h hm
  have hT : (⟨(putP (brN x.xs)).toArray⟩ : ByteArray) = s ↔ putP (brN x.xs) = s.data.toList := put_is
  obtain ⟨T, hTT⟩ : ∃ T, (⟨(putP (brN x.xs)).toArray⟩ : ByteArray) = T := ⟨_, rfl⟩
  rw [hTT] at hT hPut
  have HT := Lib.hid hT
  clear hTT hT
  clear hRk hR
  obtain ⟨w2, hw2⟩ : ∃ w2, w2 = w.alloc (.cells (ndC nd0 none 0 0) 45) := ⟨_, rfl⟩
  have hs2 : w2.heap.size = w.heap.size + 1 := by rw [hw2]; simp
  have HO : Hid (OwnN w2 w.heap.size nd0 none 0 0) := Lib.hid (by rw [hw2]; exact Rg.Own.new _ _ _)
  have HB2 : Hid (Below w.heap.size w w2) := Lib.hid (by rw [hw2]; exact al1 _ _)
  have HW := Lib.hid (rread_ok hs hr w2)
  have H17 := Lib.hid h17
  clear hr hw
  subst hw2
  go_enter Tryd.func28, Tryd.ntmps28
  go_wp2_with (refine Rg.run rfl _ _ (run_alloc_nd _ _ _ w.heap.size rfl rfl) ?_)
  with_reducible refine HW.out.mono ?_
  rintro e w3 ⟨a3, n3, c3, lI, rfl, hI3, hb3⟩
  rw [hs2] at hI3
  obtain ⟨hN45, hC4, hO4, hB4, hall⟩ := get_boxes w w3 (HO.out.below hb3) (below_step' HB2.out hb3) x a3 n3 c3
  have hn3 : n3 = x.xs.length := hI3.len.symm
  obtain rfl : n3 = 17 := by omega
  have hm := hI3.max
  have hnc := hI3.le
  unfold maxLen at hm
  have HN45 := Lib.hid hN45
  have HA := Lib.hid hall
  have HI3 := Lib.hid hI3
  have HB3 := Lib.hid (below_step' HB2.out hb3)
  have hlt3 : w.heap.size < w3.heap.size := (HO.out.below hb3).1
  have hC5 := (hall _ rfl).2.1
  clear hb3 HW hI3 hN45 hall hO4 hB4 hn3 hs2 HO HB2 h17
  go_wp2_with (first
    | (refine Rg.run rfl _ _ (run_alloc_nd _ _ _ (w3.heap.size + 1) (by simp) rfl) ?_)
    | (refine Rg.run rfl _ _ (op_build (built_kd 3) ?_) ?_; · exact ⟨_, rfl, rfl⟩)
    | (refine wpl_store_nd HN45.out rfl ⟨3, [], eB, zks⟩ none 0 0 rfl rfl _ _ rfl rfl rfl rfl ?_))
  obtain ⟨w5, hw5⟩ : ∃ w5, w5 = ((w3.alloc (.cells #[.bool x.l, .string x.s, .slice a3 17 c3] 63)).alloc (.cells (ndC nd0 none 0 0) 45)).setRow (w3.heap.size + 1) (ndC ⟨3, [], eB, zks⟩ none 0 0) := ⟨_, rfl⟩
  obtain ⟨hO5, hc5, hN5, hb5, hs5⟩ := HA.out w5 hw5
  rw [← hw5]
  clear HA HN45 hw5 hC4 hC5
  have HO5 := Lib.hid hO5
  have HN5 := Lib.hid hN5
  have HB5 := Lib.hid hb5
  have HC5 := Lib.hid hc5
  clear hO5 hN5 hb5 hc5
  go_loopw [14] (fun i wr => ∃ j : Nat, j ≤ 16 ∧ i = .int .i64 j ∧ Hid (OwnN wr (w3.heap.size + 1) ⟨3, [], eB, kidsJ x.xs j⟩ none 0 0) ∧ Hid (Below (w3.heap.size + 1) w5 wr)) (fun i _ => 16 - (intOf i).toNat)
  case atStart => exact ⟨0, Nat.zero_le _, rfl, Lib.hid (HN5.out), Lib.hid (Below.refl _ _)⟩
  case round =>
    obtain ⟨j, hj, rfl, HN, HB⟩ := hrel
    have HB3r := Lib.hid (HB5.out.trans (HB.out.mono (Nat.le_succ _)))
    have HBr := Lib.hid (below_step' HB3.out HB3r.out)
    have HOr : Hid (OwnN wr w.heap.size nd0 none 0 0) := Lib.hid (by
      have := HB.out.block w.heap.size (by omega)
      exact ⟨Nat.lt_of_lt_of_le HO5.out.1 HB.out.size, this.trans HO5.out.2⟩)
    have hcr : wr.cell? ⟨w3.heap.size, 2, none⟩ = some (.slice a3 17 c3) := (Below.cell (p := ⟨w3.heap.size, 2, none⟩) HB.out (Nat.lt_succ_self _)).trans HC5.out
    have hszr := HN.out.1
    by_cases hlt : j < 16
    · obtain ⟨y, b, off, A, N, C, hy, rfl, hBb, hblt, hL, hIy⟩ := its_at HI3.out j (by omega)
      obtain ⟨f0, f1, f2⟩ := hL.stays HB3r.out hblt
      have hmem : y ∈ x.xs := List.mem_of_getElem? hy
      have hKd := HKd.out y hmem wr A N C (hIy.stays HB3r.out)
      have HSet := Lib.hid (kidsJ_set H17.out hlt hy 0 none 0)
      have hFn : (kidR y).2 = false → G = none := HF.out y (by
        rw [List.mem_iff_getElem?]
        exact ⟨j, by rw [List.getElem?_take_of_lt hlt]; exact hy⟩)
      obtain ⟨kk, hkk⟩ : ∃ kk, (kidR y).1 = kk := ⟨_, rfl⟩
      obtain ⟨is, his⟩ : ∃ is, (kidR y).2 = is := ⟨_, rfl⟩
      rw [hkk] at hKd HSet
      rw [his] at hKd hFn
      have HK := Lib.hid hKd
      clear hKd hkk his hL hIy hmem hy
      go_wp2_with fail
      refine HK.out.mono ?_
      rintro e w7 ⟨rfl, hb7⟩
      have HN7 := Lib.hid (HN.out.below hb7)
      have HO7 := Lib.hid (HOr.out.below hb7)
      have HB7 := Lib.hid (below_step' HBr.out hb7)
      have HB57 := Lib.hid (HB.out.trans (hb7.mono (by omega)))
      have hl7 : (kidsJ x.xs j).length = 16 := kidsJ_length H17.out hj
      have c7 := nd_kid HN7.out hl7 j hlt
      have f7 : w7.frozen? ⟨w3.heap.size + 1, 3 + j, none⟩ = false := own_free HN7.out
      clear hb7 HK f0 f1 f2 hcr
      cases is with
      | true =>
        go_wp2
        go_roundw
        case rel =>
          refine ⟨j + 1, by omega, by go_num, Lib.hid ?_, Lib.hid (HB57.out.setCell (by show w3.heap.size + 1 ≤ w3.heap.size + 1; omega) _)⟩
          have h := own_cell (o := 3 + j) HN7.out (.string kk)
          rw [HSet.out] at h
          exact h
        case measure => simp [intOf]; omega
      | false =>
        have HGn : Hid (G = none) := Lib.hid (hFn (by first | rfl | trivial))
        clear hFn
        go_wp2_with (first
          | (refine Rg.run rfl _ _ (op_build built0 ?_) ?_; · exact ⟨_, rfl, rfl⟩)
          | (refine wpl_store_nd HO7.out rfl nd0 none 0 0 rfl rfl _ _ rfl rfl rfl rfl ?_))
        exact bodyPost_ret (res_nd1 rfl _ rfl (own_rowN HO7.out) rfl) rfl ⟨nd0, none, 0, 0, false, rfl, .inr ⟨rfl, HGn.out⟩, BsF.nil _ _, rfl, below_rowN HB7.out (Nat.le_refl _) _⟩
    · obtain rfl : j = 16 := by omega
      have HN8 : Hid (OwnN wr (w3.heap.size + 1) (brN x.xs) none 0 0) := Lib.hid (by rw [← kidsJ_end]; exact HN.out)
      have hszr' := hszr
      clear HKd HF HI3 HC5 HB5 HO5 HN5 HB HN HB3r hcr HGood HLess
      go_wp2_with fail
      obtain ⟨M, hM⟩ : ∃ M, mayW refP (brN x.xs) = M := ⟨_, rfl⟩
      rw [hM] at hMay
      have HMay := Lib.hid hMay
      clear hMay
      cases M with
      | false =>
        refine wp_region_noPanic ?_
        refine wp_region_held_drew (S := fun w' => SG w.heap.size (w3.heap.size + 1) (brN x.xs) none 0 0 w w') (by kernel_rfl) (⟨Nat.lt_succ_of_lt hlt3, HN8.out.drew, ⟨_, rfl, HOr.out.drew⟩, BsF.nil _ _, HBr.out.drew⟩) (fun hHeld => ?_)
        refine Rg.takeL (i := 0) (v := ?_) rfl (by kernel_rfl) (by kernel_rfl) (by kernel_rfl) (fun _ _ _ h => h) (Or.inl ⟨by rfl, ?_⟩) (by assumption) ?_
        rotate_left
        · (intro wz hSw; (refine op_load_nd hSw.nd hNl ?_; exact ⟨_, rfl, rfl⟩))
        try simp only [Act.put, List.setIfInBounds_toArray, List.set_cons_zero, List.set_cons_succ]
        refine Rg.takeL (i := 1) (v := ?_) rfl (by kernel_rfl) (by kernel_rfl) (by kernel_rfl) (fun _ _ _ h => h) (Or.inl ⟨by rfl, ?_⟩) (by assumption) ?_
        rotate_left
        · (intro wz hSw; (refine op_load_nd hSw.nd hNl ?_; exact ⟨_, rfl, rfl⟩))
        try simp only [Act.put, List.setIfInBounds_toArray, List.set_cons_zero, List.set_cons_succ]
        refine wpAnyH_ready (rs := [2]) (by kernel_rfl) (by simp) ?_
        refine Rg.readyL (i := 2) rfl (fun K hK => ?_)
        have hbs := hHeld.bs.1
        go_simp
        go_at_call 45
        (with_reducible refine (HMay.out _ hbs).mono ?_)
        rintro e wx0 ⟨rfl, hbx⟩
        refine hK.out _ _ ?_ (fun hHeld => ?_)
        · exact hHeld.keep hbx
        clear hK K hbx
        try simp only [Act.put, List.setIfInBounds_toArray, List.set_cons_zero, List.set_cons_succ]
        refine Rg.takeL (i := 3) (v := ?_) rfl (by kernel_rfl) (by kernel_rfl) (by kernel_rfl) (fun _ _ _ h => h) (Or.inl ⟨by rfl, ?_⟩) (by assumption) ?_
        rotate_left
        · (intro wz hSw; (try dsimp only at hSw); go_simp <;> with_reducible rfl)
        try simp only [Act.put, List.setIfInBounds_toArray, List.set_cons_zero, List.set_cons_succ]
        refine Rg.takeL (i := 4) (v := undef) rfl (by kernel_rfl) (by kernel_rfl) (by kernel_rfl) (fun _ _ _ h => h) (Or.inr ⟨by rfl, rfl⟩) (by assumption) ?_
        try simp only [Act.put, List.setIfInBounds_toArray, List.set_cons_zero, List.set_cons_succ]
        refine Rg.takeL (i := 5) (v := undef) rfl (by kernel_rfl) (by kernel_rfl) (by kernel_rfl) (fun _ _ _ h => h) (Or.inr ⟨by rfl, rfl⟩) (by assumption) ?_
        try simp only [Act.put, List.setIfInBounds_toArray, List.set_cons_zero, List.set_cons_succ]
        refine Rg.takeL (i := 6) (v := undef) rfl (by kernel_rfl) (by kernel_rfl) (by kernel_rfl) (fun _ _ _ h => h) (Or.inr ⟨by rfl, rfl⟩) (by assumption) ?_
        try simp only [Act.put, List.setIfInBounds_toArray, List.set_cons_zero, List.set_cons_succ]
        refine Rg.takeL (i := 7) (v := undef) rfl (by kernel_rfl) (by kernel_rfl) (by kernel_rfl) (fun _ _ _ h => h) (Or.inr ⟨by rfl, rfl⟩) (by assumption) ?_
        try simp only [Act.put, List.setIfInBounds_toArray, List.set_cons_zero, List.set_cons_succ]
        refine Rg.takeL (i := 8) (v := ?_) rfl (by kernel_rfl) (by kernel_rfl) (by kernel_rfl) (fun _ _ _ h => h) (Or.inl ⟨by rfl, ?_⟩) (by assumption) ?_
        rotate_left
        · (intro wz hSw; (try dsimp only at hSw); go_simp <;> with_reducible rfl)
        try simp only [Act.put, List.setIfInBounds_toArray, List.set_cons_zero, List.set_cons_succ]
        refine wpAnyH_ready (rs := [9]) (by kernel_rfl) (by simp) ?_
        refine Rg.readyL (i := 9) rfl (fun K hK => ?_)
        obtain ⟨cs, hcs, hOr⟩ := hHeld.res
        refine Rg.meetStore (by rfl) hOr 45 (ndC (brN x.xs) none 0 0) ⟨_, _, rfl, rfl, rfl⟩ (info_ndC _ _ _ _ hNl) (by rw [hcs, ndC_size _ _ _ _ hNl]) (ndC_one _ _ _ _) ?_
        rintro wz hn hu
        refine hK.out _ _ ?_ (fun hHeld => ?_)
        · exact hHeld.put (ndC_size _ _ _ _ hNl) hn hu (Nat.le_refl _)
        clear hK K
        try simp only [Act.put]
        refine Rg.takeL (i := 10) (v := ?_) rfl (by kernel_rfl) (by kernel_rfl) (by kernel_rfl) (fun _ _ _ h => h) (Or.inl ⟨by rfl, ?_⟩) (by assumption) ?_
        rotate_left
        · (intro wz hSw; (try dsimp only at hSw); go_simp <;> with_reducible rfl)
        try simp only [Act.put, List.setIfInBounds_toArray, List.set_cons_zero, List.set_cons_succ]
        refine wpAnyH_done (by kernel_rfl) ?_ _
        refine NoPanic.normal ?_
        go_wp2
        exact bodyPost_ret (res_nd1 rfl _ rfl hn hNl) rfl ⟨brN x.xs, none, 0, 0, false, rfl, .inr ⟨rfl, HG.out.trans (if_neg (fun h => absurd (hM.symm.trans h.1) (by decide)))⟩, hHeld.bs.weak (by omega), hNl, hHeld.be⟩
      | true =>
        have HPut := Lib.hid (hPut hM)
        clear hPut
        refine wp_region_noPanic ?_
        refine wp_region_held_drew (S := fun w' => SG w.heap.size (w3.heap.size + 1) (brN x.xs) none 0 0 w w') (by kernel_rfl) (⟨Nat.lt_succ_of_lt hlt3, HN8.out.drew, ⟨_, rfl, HOr.out.drew⟩, BsF.nil _ _, HBr.out.drew⟩) (fun hHeld => ?_)
        refine Rg.takeL (i := 0) (v := ?_) rfl (by kernel_rfl) (by kernel_rfl) (by kernel_rfl) (fun _ _ _ h => h) (Or.inl ⟨by rfl, ?_⟩) (by assumption) ?_
        rotate_left
        · (intro wz hSw; (refine op_load_nd hSw.nd hNl ?_; exact ⟨_, rfl, rfl⟩))
        try simp only [Act.put, List.setIfInBounds_toArray, List.set_cons_zero, List.set_cons_succ]
        refine Rg.takeL (i := 1) (v := ?_) rfl (by kernel_rfl) (by kernel_rfl) (by kernel_rfl) (fun _ _ _ h => h) (Or.inl ⟨by rfl, ?_⟩) (by assumption) ?_
        rotate_left
        · (intro wz hSw; (refine op_load_nd hSw.nd hNl ?_; exact ⟨_, rfl, rfl⟩))
        try simp only [Act.put, List.setIfInBounds_toArray, List.set_cons_zero, List.set_cons_succ]
        refine wpAnyH_ready (rs := [2]) (by kernel_rfl) (by simp) ?_
        refine Rg.readyL (i := 2) rfl (fun K hK => ?_)
        have hbs := hHeld.bs.1
        go_simp
        go_at_call 45
        (with_reducible refine (HMay.out _ hbs).mono ?_)
        rintro e wx0 ⟨rfl, hbx⟩
        refine hK.out _ _ ?_ (fun hHeld => ?_)
        · exact hHeld.keep hbx
        clear hK K hbx
        try simp only [Act.put, List.setIfInBounds_toArray, List.set_cons_zero, List.set_cons_succ]
        refine Rg.takeL (i := 3) (v := ?_) rfl (by kernel_rfl) (by kernel_rfl) (by kernel_rfl) (fun _ _ _ h => h) (Or.inl ⟨by rfl, ?_⟩) (by assumption) ?_
        rotate_left
        · (intro wz hSw; (try dsimp only at hSw); go_simp <;> with_reducible rfl)
        try simp only [Act.put, List.setIfInBounds_toArray, List.set_cons_zero, List.set_cons_succ]
        refine Rg.takeL (i := 4) (v := ?_) rfl (by kernel_rfl) (by kernel_rfl) (by kernel_rfl) (fun _ _ _ h => h) (Or.inl ⟨by rfl, ?_⟩) (by assumption) ?_
        rotate_left
        · (intro wz hSw; (refine op_load_nd hSw.nd hNl ?_; exact ⟨_, rfl, rfl⟩))
        try simp only [Act.put, List.setIfInBounds_toArray, List.set_cons_zero, List.set_cons_succ]
        refine Rg.takeL (i := 6) (v := ?_) rfl (by kernel_rfl) (by kernel_rfl) (by kernel_rfl) (fun _ _ _ h => h) (Or.inl ⟨by rfl, ?_⟩) (by assumption) ?_
        rotate_left
        · (intro wz hSw; (try dsimp only at hSw); go_simp <;> with_reducible rfl)
        try simp only [Act.put, List.setIfInBounds_toArray, List.set_cons_zero, List.set_cons_succ]
        refine wpAnyH_ready (rs := [5]) (by kernel_rfl) (by simp) ?_
        refine Rg.readyL (i := 5) rfl (fun K hK => ?_)
        have hbs := hHeld.bs.1
        go_simp
        go_at_call 47
        (with_reducible refine (HPut.out _ hbs).mono ?_)
        rintro e wx1 ⟨rfl, hbx⟩
        refine hK.out _ _ ?_ (fun hHeld => ?_)
        · exact hHeld.keep hbx
        clear hK K hbx
        try simp only [Act.put, List.setIfInBounds_toArray, List.set_cons_zero, List.set_cons_succ]
        refine Rg.takeL (i := 7) (v := ?_) rfl (by kernel_rfl) (by kernel_rfl) (by kernel_rfl) (fun _ _ _ h => h) (Or.inl ⟨by rfl, ?_⟩) (by assumption) ?_
        rotate_left
        · (intro wz hSw; (refine op_eq_st T s ?_; exact ⟨_, _, rfl, rfl, rfl⟩))
        try simp only [Act.put, List.setIfInBounds_toArray, List.set_cons_zero, List.set_cons_succ]
        refine Rg.takeL (i := 8) (v := ?_) rfl (by kernel_rfl) (by kernel_rfl) (by kernel_rfl) (fun _ _ _ h => h) (Or.inl ⟨by rfl, ?_⟩) (by assumption) ?_
        rotate_left
        · (intro wz hSw; (try dsimp only at hSw); go_simp <;> with_reducible rfl)
        try simp only [Act.put, List.setIfInBounds_toArray, List.set_cons_zero, List.set_cons_succ]
        refine wpAnyH_ready (rs := [9]) (by kernel_rfl) (by simp) ?_
        refine Rg.readyL (i := 9) rfl (fun K hK => ?_)
        obtain ⟨cs, hcs, hOr⟩ := hHeld.res
        refine Rg.meetStore (by rfl) hOr 45 (ndC (brN x.xs) none 0 0) ⟨_, _, rfl, rfl, rfl⟩ (info_ndC _ _ _ _ hNl) (by rw [hcs, ndC_size _ _ _ _ hNl]) (ndC_one _ _ _ _) ?_
        rintro wz hn hu
        refine hK.out _ _ ?_ (fun hHeld => ?_)
        · exact hHeld.put (ndC_size _ _ _ _ hNl) hn hu (Nat.le_refl _)
        clear hK K
        try simp only [Act.put]
        refine Rg.takeL (i := 10) (v := ?_) rfl (by kernel_rfl) (by kernel_rfl) (by kernel_rfl) (fun _ _ _ h => h) (Or.inl ⟨by rfl, ?_⟩) (by assumption) ?_
        rotate_left
        · (intro wz hSw; (try dsimp only at hSw); go_simp <;> with_reducible rfl)
        try simp only [Act.put, List.setIfInBounds_toArray, List.set_cons_zero, List.set_cons_succ]
        refine wpAnyH_done (by kernel_rfl) ?_ _
        refine NoPanic.normal ?_
        go_wp2
        refine bodyPost_ret (res_nd1 rfl _ rfl hn hNl) rfl ⟨brN x.xs, none, 0, 0, decide (T = s), rfl, ?_, hHeld.bs.weak (by omega), hNl, hHeld.be⟩
        by_cases he : T = s
        · exact .inl ⟨decide_eq_true he, HG.out.trans (if_pos ⟨hM, HT.out.1 he⟩)⟩
        · exact .inr ⟨decide_eq_false he, HG.out.trans (if_neg (fun h => he (HT.out.2 h.2)))⟩

theorem rget_step (s : ByteArray) (hs : s.size ≤ 1000000) (ih : ∀ k : ByteArray, k.size < 32 → k.size < s.size → RGetC k) : RGetC s := by
  intro w
  have hR : ∀ k : ByteArray, k.size ≤ 1000000 → (k.size < 32 → k.size < s.size) → RRefC k := fun k hk h => rref_of k (by omega) (fun h32 => ih k h32 (h h32))
  cases hr : readL s.data.toList 0 0 with
  | error c => exact rget_err s hs c hr w
  | ok q =>
    obtain ⟨x, n, k⟩ := q
    obtain ⟨p1, p2, _, _⟩ := (props s.data.toList.length).1 _ _ _ _ _ _ (Nat.le_refl _) hr
    rw [len_s] at p2
    by_cases hn : n < s.size
    · exact rget_long s hs x n k hr hn w
    · obtain rfl : n = s.size := by omega
      have hw := whole_is hr (by rw [len_s]; omega)
      by_cases h2 : x.xs.length = 2
      · by_cases hb : (x.xs.getD 0 it0).s.size = 0 ∨ Bad (x.xs.getD 0 it0).s
        · exact rget_bad s hs x k hr hw h2 hb w
        · cases hlf : leafB (x.xs.getD 0 it0).s with
          | true => exact rget_leaf s hs x k hr hw h2 hb hlf (by omega) hR w
          | false => exact rget_ext s hs x k hr hw h2 hb hlf (by omega) hR w
      · by_cases h17 : x.xs.length = 17
        · exact rget_branch s hs x k hr hw h17 hR w
        · exact rget_few s hs x k hr hw h2 h17 w
theorem rget_upto (N : Nat) (hN : N ≤ 1000000) : ∀ s : ByteArray, s.size ≤ N → RGetC s := by
  induction N using Nat.strongRecOn with
  | ind N ih => exact fun s hs => rget_step s (by omega) (fun k _ hk => ih k.size (by omega) (by omega) k (Nat.le_refl _))
/-- the plain answer's Get of any bytes that are not far too many -/
theorem rget_any (s : ByteArray) (hs : s.size ≤ 1000000) : RGetC s := rget_upto s.size hs s (Nat.le_refl _)
/-- the plain answer's Reference of any text -/
theorem rrefs_any (k : ByteArray) (hk : k.size ≤ 9223372036854775807) : RRefC k := rref_of k hk (fun h => rget_any k (by omega))
end No
end Go.Proofs.YtoeblhdddehemaaDoor
