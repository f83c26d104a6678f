/-
 The plain answer's Get: bytes that are no item of 2 or 17.
-/
import Derived.Test.YtgolhnfkmmajpaaGreatDoorMc27
import Derived.Deep.DeepCutAuto
import Derived.Test.YtgolhnfkmmajpaaGreatDoorMc29
import Derived.Test.YtgolhnfkmmajpaaGreatDoorMc25
open Go.Lib (hid)
set_option linter.unusedSimpArgs false
set_option linter.unusedVariables false
set_option maxHeartbeats 40000000
set_option maxRecDepth 100000
namespace Go.Proofs.YtgolhnfkmmajpaaGreatDoor
section
open Go.RowKit
namespace No
open Rl Ni
theorem rget_err (s : ByteArray) (hs : s.size ≤ 1000000) (c : Int) (hr : readL s.data.toList 0 0 = .error c) (w : World) : Calls Tryz.prog 23 #[.string s] w (ReadPost w (getP s.data.toList)) := by
 have hg : getP s.data.toList = none := get_err (by rw [len_s]; omega) (whole_err hr)
 rw [hg]
 obtain ⟨w2, hw2⟩ : ∃ w2, w2 = w.alloc (.cells (ndC nd0 none 0 0) 58) := ⟨_, rfl⟩
 have hs2 : w2.heap.size = w.heap.size + 1 := by rw [hw2]; simp
 have HO : Hid (OwnN w2 w.heap.size nd0 none 0 0) := hid (by rw [hw2]; exact Rg.Own.new _ _ _)
 have HB2 : Hid (Below w.heap.size w w2) := hid (by rw [hw2]; exact al1 _ _)
 have HW := hid (rread_err hs hr w2)
 clear hg hr hs2
 subst hw2
 go_enter Tryz.func23, Tryz.ntmps23
 go_wp2_with (refine Rg.run rfl _ _ (run_alloc_nd _ _ _ w.heap.size rfl rfl) ?_)
 with_reducible refine HW.out.mono ?_
 rintro e w3 ⟨c, hc, rfl, hb3⟩
 have hne : (c != 0) = true := by simp; exact hc
 have HO3 := hid ((HO.out.below hb3).below (al1 w3 (.cells #[.bool false, .string ⟨#[]⟩, .slice none 0 0] 101)))
 have HB3 := hid (bst (bst HB2.out hb3) (al1 w3 (.cells #[.bool false, .string ⟨#[]⟩, .slice none 0 0] 101)))
 clear hb3 HW hc
 go_upto_if 43 with fail
 go_wp2_with (first
  | (refine Rg.run rfl _ _ (op_build built0 ?_) ?_; · exact ⟨_, rfl, rfl⟩)
  | (refine wpl_store_nd HO3.out rfl nd0 none 0 0 rfl rfl _ _ rfl rfl rfl rfl ?_))
 exact bodyPost_ret (res_nd1 rfl _ rfl (own_rowN HO3.out) rfl) rfl ⟨nd0, none, 0, 0, false, rfl, .inr ⟨rfl, rfl⟩, BsF.nil _ _, rfl, below_rowN HB3.out (Nat.le_refl _) _⟩
theorem rget_long (s : ByteArray) (hs : s.size ≤ 1000000) (x : It) (n k : Nat) (hr : readL s.data.toList 0 0 = .ok (x, n, k)) (hn : n < s.size) (w : World) : Calls Tryz.prog 23 #[.string s] w (ReadPost w (getP s.data.toList)) := by
 have hg : getP s.data.toList = none := get_err (by rw [len_s]; omega) (whole_long hr (by rw [len_s]; exact hn))
 rw [hg]
 obtain ⟨w2, hw2⟩ : ∃ w2, w2 = w.alloc (.cells (ndC nd0 none 0 0) 58) := ⟨_, rfl⟩
 have hs2 : w2.heap.size = w.heap.size + 1 := by rw [hw2]; simp
 have HO : Hid (OwnN w2 w.heap.size nd0 none 0 0) := hid (by rw [hw2]; exact Rg.Own.new _ _ _)
 have HB2 : Hid (Below w.heap.size w w2) := hid (by rw [hw2]; exact al1 _ _)
 have HW := hid (rread_ok hs hr w2)
 have hnn : ((n : Int) != (s.size : Int)) = true := by simp; omega
 clear hg hr
 subst hw2
 go_enter Tryz.func23, Tryz.ntmps23
 go_wp2_with (refine Rg.run rfl _ _ (run_alloc_nd _ _ _ w.heap.size rfl rfl) ?_)
 with_reducible refine HW.out.mono ?_
 rintro e w3 ⟨a3, n3, c3, lI, rfl, hI3, hb3⟩
 rw [hs2] at hI3
 obtain ⟨hN45, hC4, hO4, hB4, hall⟩ := get_boxes w w3 (HO.out.below hb3) (bst HB2.out hb3) x a3 n3 c3
 have hn3 : n3 = x.xs.length := hI3.len.symm
 have HO4 := hid hO4
 have HB4 := hid hB4
 clear hb3 HW hI3 hN45 hall hO4 hB4 hn3 hs2
 go_upto_if 43 with fail
 go_wp2_with (first
  | (refine Rg.run rfl _ _ (op_build built0 ?_) ?_; · exact ⟨_, rfl, rfl⟩)
  | (refine wpl_store_nd HO4.out rfl nd0 none 0 0 rfl rfl _ _ rfl rfl rfl rfl ?_))
 exact bodyPost_ret (res_nd1 rfl _ rfl (own_rowN HO4.out) rfl) rfl ⟨nd0, none, 0, 0, false, rfl, .inr ⟨rfl, rfl⟩, BsF.nil _ _, rfl, below_rowN HB4.out (Nat.le_refl _) _⟩
theorem rget_few (s : ByteArray) (hs : s.size ≤ 1000000) (x : It) (k : Nat) (hr : readL s.data.toList 0 0 = .ok (x, s.size, k)) (hw : wholeL s.data.toList = .ok x) (h2 : x.xs.length ≠ 2) (h17 : x.xs.length ≠ 17) (w : World) : Calls Tryz.prog 23 #[.string s] w (ReadPost w (getP s.data.toList)) := by
 have hg : getP s.data.toList = none := get_few (by rw [len_s]; omega) hw h2 h17
 rw [hg]
 obtain ⟨w2, hw2⟩ : ∃ w2, w2 = w.alloc (.cells (ndC nd0 none 0 0) 58) := ⟨_, rfl⟩
 have hs2 : w2.heap.size = w.heap.size + 1 := by rw [hw2]; simp
 have HO : Hid (OwnN w2 w.heap.size nd0 none 0 0) := hid (by rw [hw2]; exact Rg.Own.new _ _ _)
 have HB2 : Hid (Below w.heap.size w w2) := hid (by rw [hw2]; exact al1 _ _)
 have HW := hid (rread_ok hs hr w2)
 clear hg hr hw
 subst hw2
 go_enter Tryz.func23, Tryz.ntmps23
 go_wp2_with (refine Rg.run rfl _ _ (run_alloc_nd _ _ _ w.heap.size rfl rfl) ?_)
 with_reducible refine HW.out.mono ?_
 rintro e w3 ⟨a3, n3, c3, lI, rfl, hI3, hb3⟩
 rw [hs2] at hI3
 obtain ⟨hN45, hC4, hO4, hB4, hall⟩ := get_boxes w w3 (HO.out.below hb3) (bst HB2.out hb3) x a3 n3 c3
 have hn3 : n3 = x.xs.length := hI3.len.symm
 have HO4 := hid hO4
 have HB4 := hid hB4
 have hm := hI3.max
 have hnc := hI3.le
 unfold maxLen at hm
 have d2 : ((n3 : Int) != 2) = true := by simp; omega
 have d17 : ((n3 : Int) != 17) = true := by simp; omega
 clear hb3 HW hI3 hN45 hall hO4 hB4 hn3 hs2
 go_wp2_with (first
  | (refine Rg.run rfl _ _ (op_build built0 ?_) ?_; · exact ⟨_, rfl, rfl⟩)
  | (refine wpl_store_nd HO4.out rfl nd0 none 0 0 rfl rfl _ _ rfl rfl rfl rfl ?_))
 exact bodyPost_ret (res_nd1 rfl _ rfl (own_rowN HO4.out) rfl) rfl ⟨nd0, none, 0, 0, false, rfl, .inr ⟨rfl, rfl⟩, BsF.nil _ _, rfl, below_rowN HB4.out (Nat.le_refl _) _⟩
end No
end
section
open Go.RowKit
namespace No
open Rl Ni
def kidsJ (xs : List It) (j : Nat) : List ByteArray := (xs.take j).map (fun x => (kidR x).1) ++ List.replicate (16 - j) eB
theorem kidsJ_length {xs : List It} (h : xs.length = 17) {j : Nat} (hj : j ≤ 16) : (kidsJ xs j).length = 16 := by
 unfold kidsJ
 rw [List.length_append, List.length_map, List.length_take, List.length_replicate, h]
 omega
theorem kidsJ_set {xs : List It} (h : xs.length = 17) {j : Nat} (hj : j < 16) {x : It} (hx : xs[j]? = some x) (c : Nat) (a : Option Addr) (n : Nat) : (ndC ⟨3, [], eB, kidsJ xs j⟩ a n c).setIfInBounds (3 + j) (.string (kidR x).1) = ndC ⟨3, [], eB, kidsJ xs (j + 1)⟩ a n c := by
 have hj' : j < xs.length := by omega
 have e : xs[j] = x := (List.getElem?_eq_some_iff.1 hx).2
 have hk : (kidsJ xs j).set j (kidR x).1 = kidsJ xs (j + 1) := by
  unfold kidsJ
  rw [show 16 - j = (16 - (j + 1)) + 1 by omega, List.replicate_succ, List.take_succ_eq_append_getElem hj', e, List.map_append, List.map_cons, List.map_nil]
  simp [Nat.min_eq_left (Nat.le_of_lt hj')]
 unfold ndC
 rw [← hk, show 3 + j = j + 1 + 1 + 1 by omega]
 simp [List.map_set]
theorem kidsJ_end (xs : List It) : (⟨3, [], eB, kidsJ xs 16⟩ : Nd) = brN xs := by
 unfold kidsJ brN
 simp
theorem rget_branch (s : ByteArray) (hs : s.size ≤ 1000000) (x : It) (k : Nat) (hr : readL s.data.toList 0 0 = .ok (x, s.size, k)) (hw : wholeL s.data.toList = .ok x) (h17 : x.xs.length = 17) (hR : ∀ k : ByteArray, k.size ≤ 1000000 → (k.size < 32 → k.size < s.size) → RRefC k) (w : World) : Calls Tryz.prog 23 #[.string s] w (ReadPost w (getP s.data.toList)) := by
 have hsl : s.data.toList.length ≤ 1000000 := by rw [len_s]; omega
 have hm := get_branch hsl hw h17
 have HG : Hid (getP s.data.toList = if mayW refP (brN x.xs) = true ∧ putP (brN x.xs) = s.data.toList then some (brN x.xs) else none) := hid (get_if hsl (brN_length h17) (fun M h => (hm M h).2))
 have HF : Hid (∀ y, y ∈ x.xs.take 16 → (kidR y).2 = false → getP s.data.toList = none) := hid (fun y hy hf => by
  cases hg : getP s.data.toList with
  | none => rfl
  | some M => exact absurd (((hm M hg).1 y hy).symm.trans hf) (by decide))
 clear hm
 obtain ⟨G, hGG⟩ : ∃ G, getP s.data.toList = G := ⟨_, rfl⟩
 rw [hGG] at HG HF ⊢
 clear hGG
 have HGood := hid (good_of hsl hw)
 have HLess := hid (fun y (hy : y ∈ x.xs) => el_less hs hw hy)
 have HKd : Hid (∀ y ∈ x.xs, ∀ (w' : World) (A : Option Addr) (N C : Nat), IsIts w' y.xs A N C → Calls Tryz.prog 52 #[.agg #[.bool y.l, .string y.s, .slice A N C]] w' fun e w'' => e = .returned (.tuple #[.string (kidR y).1, .bool (kidR y).2]) ∧ Below w'.heap.size w' w'') := hid (fun y hy w' A N C h => by
  have hl := HLess.out y hy
  have hg := HGood.out y hy
  exact rkid_any y w' A N C h hg (fun _ hlt => hR _ (by rw [ba_size]; omega) (fun _ => by rw [ba_size]; omega)) (fun _ => hR _ hg.2.2.2 (fun _ => by omega)))
 have hRk : ∀ k ∈ (brN x.xs).ks, RRefC k := fun k hk => by
  obtain ⟨y, hy, rfl⟩ := List.mem_map.1 (show k ∈ (x.xs.take 16).map (fun x => (kidR x).1) from hk)
  have hl := HLess.out y (List.mem_of_mem_take hy)
  have := kidR_size hl.2
  exact hR _ (by omega) (fun _ => by omega)
 have hNl : (brN x.xs).ks.length = 16 := brN_length h17
 have hMay := fun w' (h : IsBs w' none 0 0 (brN x.xs).p) => rmay_any (brN x.xs) none 0 0 hNl w' h (Nat.zero_le _) hRk
 have hPut := fun (hm : mayW refP (brN x.xs) = true) w' (h : IsBs w' none 0 0 (brN x.xs).p) => rput_of (brN x.xs) none 0 0 hNl w' h hm
 have hT : (⟨(putP (brN x.xs)).toArray⟩ : ByteArray) = s ↔ putP (brN x.xs) = s.data.toList := put_is
 obtain ⟨T, hTT⟩ : ∃ T, (⟨(putP (brN x.xs)).toArray⟩ : ByteArray) = T := ⟨_, rfl⟩
 rw [hTT] at hT hPut
 have HT := hid hT
 clear hTT hT
 clear hRk hR
 obtain ⟨w2, hw2⟩ : ∃ w2, w2 = w.alloc (.cells (ndC nd0 none 0 0) 58) := ⟨_, rfl⟩
 have hs2 : w2.heap.size = w.heap.size + 1 := by rw [hw2]; simp
 have HO : Hid (OwnN w2 w.heap.size nd0 none 0 0) := hid (by rw [hw2]; exact Rg.Own.new _ _ _)
 have HB2 : Hid (Below w.heap.size w w2) := hid (by rw [hw2]; exact al1 _ _)
 have HW := hid (rread_ok hs hr w2)
 have H17 := hid h17
 clear hr hw
 subst hw2
 go_enter Tryz.func23, Tryz.ntmps23
 go_wp2_with (refine Rg.run rfl _ _ (run_alloc_nd _ _ _ w.heap.size rfl rfl) ?_)
 with_reducible refine HW.out.mono ?_
 rintro e w3 ⟨a3, n3, c3, lI, rfl, hI3, hb3⟩
 rw [hs2] at hI3
 obtain ⟨hN45, hC4, hO4, hB4, hall⟩ := get_boxes w w3 (HO.out.below hb3) (bst HB2.out hb3) x a3 n3 c3
 have hn3 : n3 = x.xs.length := hI3.len.symm
 obtain rfl : n3 = 17 := by omega
 have hm := hI3.max
 have hnc := hI3.le
 unfold maxLen at hm
 have HN45 := hid hN45
 have HA := hid hall
 have HI3 := hid hI3
 have HB3 := hid (bst HB2.out hb3)
 have hlt3 : w.heap.size < w3.heap.size := (HO.out.below hb3).1
 have hC5 := (hall _ rfl).2.1
 clear hb3 HW hI3 hN45 hall hO4 hB4 hn3 hs2 HO HB2 h17
 go_wp2_with (first
  | (refine Rg.run rfl _ _ (run_alloc_nd _ _ _ (w3.heap.size + 1) (by simp) rfl) ?_)
  | (refine Rg.run rfl _ _ (op_build (built_kd 3) ?_) ?_; · exact ⟨_, rfl, rfl⟩)
  | (refine wpl_store_nd HN45.out rfl ⟨3, [], eB, zks⟩ none 0 0 rfl rfl _ _ rfl rfl rfl rfl ?_))
 obtain ⟨w5, hw5⟩ : ∃ w5, w5 = ((w3.alloc (.cells #[.bool x.l, .string x.s, .slice a3 17 c3] 101)).alloc (.cells (ndC nd0 none 0 0) 58)).setRow (w3.heap.size + 1) (ndC ⟨3, [], eB, zks⟩ none 0 0) := ⟨_, rfl⟩
 obtain ⟨hO5, hc5, hN5, hb5, hs5⟩ := HA.out w5 hw5
 rw [← hw5]
 clear HA HN45 hw5 hC4 hC5
 have HO5 := hid hO5
 have HN5 := hid hN5
 have HB5 := hid hb5
 have HC5 := hid hc5
 clear hO5 hN5 hb5 hc5
 go_loopw [14] (fun i wr => ∃ j : Nat, j ≤ 16 ∧ i = .int .i64 j ∧ Hid (OwnN wr (w3.heap.size + 1) ⟨3, [], eB, kidsJ x.xs j⟩ none 0 0) ∧ Hid (Below (w3.heap.size + 1) w5 wr)) (fun i _ => 16 - (intOf i).toNat)
 case atStart => exact ⟨0, Nat.zero_le _, rfl, hid (HN5.out), hid (Below.refl _ _)⟩
 case round =>
  obtain ⟨j, hj, rfl, HN, HB⟩ := hrel
  have HB3r := hid (HB5.out.trans (HB.out.mono (Nat.le_succ _)))
  have HBr := hid (bst HB3.out HB3r.out)
  have HOr : Hid (OwnN wr w.heap.size nd0 none 0 0) := hid (by
   have := HB.out.block w.heap.size (by omega)
   exact ⟨Nat.lt_of_lt_of_le HO5.out.1 HB.out.size, this.trans HO5.out.2⟩)
  have hcr : wr.cell? ⟨w3.heap.size, 2, none⟩ = some (.slice a3 17 c3) := (Below.cell (p := ⟨w3.heap.size, 2, none⟩) HB.out (Nat.lt_succ_self _)).trans HC5.out
  have hszr := HN.out.1
  by_cases hlt : j < 16
  ·obtain ⟨y, b, off, A, N, C, hy, rfl, hBb, hblt, hL, hIy⟩ := its_at HI3.out j (by omega)
   obtain ⟨f0, f1, f2⟩ := hL.stays HB3r.out hblt
   have hmem : y ∈ x.xs := List.mem_of_getElem? hy
   have hKd := HKd.out y hmem wr A N C (hIy.stays HB3r.out)
   have HSet := hid (kidsJ_set H17.out hlt hy 0 none 0)
   have hFn : (kidR y).2 = false → G = none := HF.out y (by
    rw [List.mem_iff_getElem?]
    exact ⟨j, by rw [List.getElem?_take_of_lt hlt]; exact hy⟩)
   obtain ⟨kk, hkk⟩ : ∃ kk, (kidR y).1 = kk := ⟨_, rfl⟩
   obtain ⟨is, his⟩ : ∃ is, (kidR y).2 = is := ⟨_, rfl⟩
   rw [hkk] at hKd HSet
   rw [his] at hKd hFn
   have HK := hid hKd
   clear hKd hkk his hL hIy hmem hy
   go_wp2_with fail
   refine HK.out.mono ?_
   rintro e w7 ⟨rfl, hb7⟩
   have HN7 := hid (HN.out.below hb7)
   have HO7 := hid (HOr.out.below hb7)
   have HB7 := hid (bst HBr.out hb7)
   have HB57 := hid (HB.out.trans (hb7.mono (by omega)))
   have hl7 : (kidsJ x.xs j).length = 16 := kidsJ_length H17.out hj
   have c7 := nd_kid HN7.out hl7 j hlt
   have f7 : w7.frozen? ⟨w3.heap.size + 1, 3 + j, none⟩ = false := own_free HN7.out
   clear hb7 HK f0 f1 f2 hcr
   cases is with
   | true =>
    go_wp2
    go_roundw
    case rel =>
     refine ⟨j + 1, by omega, by go_num, hid ?_, hid (HB57.out.setCell (by show w3.heap.size + 1 ≤ w3.heap.size + 1; omega) _)⟩
     have h := own_cell (o := 3 + j) HN7.out (.string kk)
     rw [HSet.out] at h
     exact h
    case measure => simp [intOf]; omega
   | false =>
    have HGn : Hid (G = none) := hid (hFn (by first | rfl | trivial))
    clear hFn
    go_wp2_with (first
     | (refine Rg.run rfl _ _ (op_build built0 ?_) ?_; · exact ⟨_, rfl, rfl⟩)
     | (refine wpl_store_nd HO7.out rfl nd0 none 0 0 rfl rfl _ _ rfl rfl rfl rfl ?_))
    exact bodyPost_ret (res_nd1 rfl _ rfl (own_rowN HO7.out) rfl) rfl ⟨nd0, none, 0, 0, false, rfl, .inr ⟨rfl, HGn.out⟩, BsF.nil _ _, rfl, below_rowN HB7.out (Nat.le_refl _) _⟩
  ·obtain rfl : j = 16 := by omega
   have HN8 : Hid (OwnN wr (w3.heap.size + 1) (brN x.xs) none 0 0) := hid (by rw [← kidsJ_end]; exact HN.out)
   have hszr' := hszr
   clear HKd HF HI3 HC5 HB5 HO5 HN5 HB HN HB3r hcr HGood HLess
   go_wp2_with fail
   obtain ⟨M, hM⟩ : ∃ M, mayW refP (brN x.xs) = M := ⟨_, rfl⟩
   rw [hM] at hMay
   have HMay := hid hMay
   clear hMay
   cases M with
   | false =>
    refine wp_region_noPanic ?_
    refine wp_region_held_drew (S := fun w' => SG w.heap.size (w3.heap.size + 1) (brN x.xs) none 0 0 w w') (by kernel_rfl) (⟨Nat.lt_succ_of_lt hlt3, HN8.out.drew, ⟨_, rfl, HOr.out.drew⟩, BsF.nil _ _, HBr.out.drew⟩) (fun hld => ?_)
    refine Rg.tk (i := 0) rfl ?_ (hy := by intro wz hSw; (refine op_load_nd hSw.nd hNl ?_; exact ⟨_, rfl, rfl⟩))
    try simp only [Act.put, Rg.s]
    refine Rg.tk (i := 1) rfl ?_ (hy := by intro wz hSw; (refine op_load_nd hSw.nd hNl ?_; exact ⟨_, rfl, rfl⟩))
    try simp only [Act.put, Rg.s]
    refine Rg.rd (i := 2) rfl fun K hK => ?_
    have hbs := hld.bs.1
    go_simp
    go_at_call 51
    (with_reducible refine (HMay.out _ hbs).mono ?_)
    rintro e wx0 ⟨rfl, hbx⟩
    refine hK.out _ _ ?_ (fun hld => ?_)
    ·exact hld.keep hbx
    clear hK K hbx
    try simp only [Act.put, Rg.s]
    refine Rg.tk (i := 3) rfl ?_
    try simp only [Act.put, Rg.s]
    refine Rg.takeL (i := 4) (v := undef) rfl (by kernel_rfl) (by kernel_rfl) (by kernel_rfl) (fun _ _ _ h => h) (Or.inr ⟨by rfl, rfl⟩) (by assumption) ?_
    try simp only [Act.put, Rg.s]
    refine Rg.takeL (i := 5) (v := undef) rfl (by kernel_rfl) (by kernel_rfl) (by kernel_rfl) (fun _ _ _ h => h) (Or.inr ⟨by rfl, rfl⟩) (by assumption) ?_
    try simp only [Act.put, Rg.s]
    refine Rg.takeL (i := 6) (v := undef) rfl (by kernel_rfl) (by kernel_rfl) (by kernel_rfl) (fun _ _ _ h => h) (Or.inr ⟨by rfl, rfl⟩) (by assumption) ?_
    try simp only [Act.put, Rg.s]
    refine Rg.takeL (i := 7) (v := undef) rfl (by kernel_rfl) (by kernel_rfl) (by kernel_rfl) (fun _ _ _ h => h) (Or.inr ⟨by rfl, rfl⟩) (by assumption) ?_
    try simp only [Act.put, Rg.s]
    refine Rg.tk (i := 8) rfl ?_
    try simp only [Act.put, Rg.s]
    refine Rg.rd (i := 9) rfl fun K hK => ?_
    obtain ⟨cs, hcs, hOr⟩ := hld.res
    refine Rg.meetStore (by rfl) hOr 58 (ndC (brN x.xs) none 0 0) ⟨_, _, rfl, rfl, rfl⟩ (info_ndC _ _ _ _ hNl) (by rw [hcs, ndC_size _ _ _ _ hNl]) (ndC_one _ _ _ _) ?_
    rintro wz hn hu
    refine hK.out _ _ ?_ (fun hld => ?_)
    ·exact hld.put (ndC_size _ _ _ _ hNl) hn hu (Nat.le_refl _)
    clear hK K
    try simp only [Act.put]
    refine Rg.tk (i := 10) rfl ?_
    try simp only [Act.put, Rg.s]
    refine wpAnyH_done (by kernel_rfl) ?_ _
    refine NoPanic.normal ?_
    go_wp2
    exact bodyPost_ret (res_nd1 rfl _ rfl hn hNl) rfl ⟨brN x.xs, none, 0, 0, false, rfl, .inr ⟨rfl, HG.out.trans (if_neg (fun h => absurd (hM.symm.trans h.1) (by decide)))⟩, hld.bs.weak (by omega), hNl, hld.be⟩
   | true =>
    have HPut := hid (hPut hM)
    clear hPut
    refine wp_region_noPanic ?_
    refine wp_region_held_drew (S := fun w' => SG w.heap.size (w3.heap.size + 1) (brN x.xs) none 0 0 w w') (by kernel_rfl) (⟨Nat.lt_succ_of_lt hlt3, HN8.out.drew, ⟨_, rfl, HOr.out.drew⟩, BsF.nil _ _, HBr.out.drew⟩) (fun hld => ?_)
    refine Rg.tk (i := 0) rfl ?_ (hy := by intro wz hSw; (refine op_load_nd hSw.nd hNl ?_; exact ⟨_, rfl, rfl⟩))
    try simp only [Act.put, Rg.s]
    refine Rg.tk (i := 1) rfl ?_ (hy := by intro wz hSw; (refine op_load_nd hSw.nd hNl ?_; exact ⟨_, rfl, rfl⟩))
    try simp only [Act.put, Rg.s]
    refine Rg.rd (i := 2) rfl fun K hK => ?_
    have hbs := hld.bs.1
    go_simp
    go_at_call 51
    (with_reducible refine (HMay.out _ hbs).mono ?_)
    rintro e wx0 ⟨rfl, hbx⟩
    refine hK.out _ _ ?_ (fun hld => ?_)
    ·exact hld.keep hbx
    clear hK K hbx
    try simp only [Act.put, Rg.s]
    refine Rg.tk (i := 3) rfl ?_
    try simp only [Act.put, Rg.s]
    refine Rg.tk (i := 4) rfl ?_ (hy := by intro wz hSw; (refine op_load_nd hSw.nd hNl ?_; exact ⟨_, rfl, rfl⟩))
    try simp only [Act.put, Rg.s]
    refine Rg.tk (i := 6) rfl ?_
    try simp only [Act.put, Rg.s]
    refine Rg.rd (i := 5) rfl fun K hK => ?_
    have hbs := hld.bs.1
    go_simp
    go_at_call 41
    (with_reducible refine (HPut.out _ hbs).mono ?_)
    rintro e wx1 ⟨rfl, hbx⟩
    refine hK.out _ _ ?_ (fun hld => ?_)
    ·exact hld.keep hbx
    clear hK K hbx
    try simp only [Act.put, Rg.s]
    refine Rg.tk (i := 7) rfl ?_ (hy := by intro wz hSw; (refine op_eq_st T s ?_; exact ⟨_, _, rfl, rfl, rfl⟩))
    try simp only [Act.put, Rg.s]
    refine Rg.tk (i := 8) rfl ?_
    try simp only [Act.put, Rg.s]
    refine Rg.rd (i := 9) rfl fun K hK => ?_
    obtain ⟨cs, hcs, hOr⟩ := hld.res
    refine Rg.meetStore (by rfl) hOr 58 (ndC (brN x.xs) none 0 0) ⟨_, _, rfl, rfl, rfl⟩ (info_ndC _ _ _ _ hNl) (by rw [hcs, ndC_size _ _ _ _ hNl]) (ndC_one _ _ _ _) ?_
    rintro wz hn hu
    refine hK.out _ _ ?_ (fun hld => ?_)
    ·exact hld.put (ndC_size _ _ _ _ hNl) hn hu (Nat.le_refl _)
    clear hK K
    try simp only [Act.put]
    refine Rg.tk (i := 10) rfl ?_
    try simp only [Act.put, Rg.s]
    refine wpAnyH_done (by kernel_rfl) ?_ _
    refine NoPanic.normal ?_
    go_wp2
    refine bodyPost_ret (res_nd1 rfl _ rfl hn hNl) rfl ⟨brN x.xs, none, 0, 0, decide (T = s), rfl, ?_, hld.bs.weak (by omega), hNl, hld.be⟩
    by_cases he : T = s
    ·exact .inl ⟨decide_eq_true he, HG.out.trans (if_pos ⟨hM, HT.out.1 he⟩)⟩
    ·exact .inr ⟨decide_eq_false he, HG.out.trans (if_neg (fun h => he (HT.out.2 h.2)))⟩
theorem rget_step (s : ByteArray) (hs : s.size ≤ 1000000) (ih : ∀ k : ByteArray, k.size < 32 → k.size < s.size → RGetC k) : RGetC s := by
 intro w
 have hR : ∀ k : ByteArray, k.size ≤ 1000000 → (k.size < 32 → k.size < s.size) → RRefC k := fun k hk h => rref_of k (by omega) (fun h32 => ih k h32 (h h32))
 cases hr : readL s.data.toList 0 0 with
 | error c => exact rget_err s hs c hr w
 | ok q =>
  obtain ⟨x, n, k⟩ := q
  obtain ⟨p1, p2, _, _⟩ := (props s.data.toList.length).1 _ _ _ _ _ _ (Nat.le_refl _) hr
  rw [len_s] at p2
  by_cases hn : n < s.size
  ·exact rget_long s hs x n k hr hn w
  ·obtain rfl : n = s.size := by omega
   have hw := whole_is hr (by rw [len_s]; omega)
   by_cases h2 : x.xs.length = 2
   ·by_cases hb : (x.xs.getD 0 it0).s.size = 0 ∨ Bad (x.xs.getD 0 it0).s
    ·exact rget_bad s hs x k hr hw h2 hb w
    ·cases hlf : leafB (x.xs.getD 0 it0).s with
     | true => exact rget_leaf s hs x k hr hw h2 hb hlf (by omega) hR w
     | false => exact rget_ext s hs x k hr hw h2 hb hlf (by omega) hR w
   ·by_cases h17 : x.xs.length = 17
    ·exact rget_branch s hs x k hr hw h17 hR w
    ·exact rget_few s hs x k hr hw h2 h17 w
theorem rget_upto (N : Nat) (hN : N ≤ 1000000) : ∀ s : ByteArray, s.size ≤ N → RGetC s := by
 induction N using Nat.strongRecOn with
 | ind N ih => exact fun s hs => rget_step s (by omega) (fun k _ hk => ih k.size (by omega) (by omega) k (Nat.le_refl _))
theorem rget_any (s : ByteArray) (hs : s.size ≤ 1000000) : RGetC s := rget_upto s.size hs s (Nat.le_refl _)
end No
end
section
open Go.RowKit
namespace Tm
open Tr Ni Pk Ky No Rf Rl
open Sm (Tab)
theorem mem_kidsOf {ks : Fin 16 → T} {s : T} (h : s ∈ (kidsOf ks).map ks) : ∃ i, s = ks i ∧ ks i ≠ .nil := by
 obtain ⟨i, hi, rfl⟩ := List.mem_map.1 h
 refine ⟨i, rfl, fun e => ?_⟩
 have := (List.mem_filter.1 hi).2
 rw [isNil_iff.2 e] at this
 cases this
theorem kids_good {t : T} {L : Nat} (g : Tr.Good t L) (f : Fine t) : ∀ s ∈ kidsT t, s ≠ .nil ∧ Fine s ∧ (Tr.Full t → Tr.Full s) ∧ ∃ L', L' < L ∧ Tr.Good s L' := by
 intro s hs
 cases t with
 | nil => cases hs
 | leaf p v => cases hs
 | stub r => cases hs
 | ext q u =>
  obtain rfl : s = u := by
   have : s ∈ [u] := hs
   simpa using this
  obtain ⟨g1, _, g3, g4, g5⟩ := g
  have hq : 0 < q.length := List.length_pos_iff.2 g1
  exact ⟨isBr_ne g4, f, fun h => h, L - q.length, by omega, g5⟩
 | br ks =>
  obtain ⟨i, rfl, hn⟩ := mem_kidsOf hs
  obtain ⟨g1, _, g3⟩ := g
  exact ⟨hn, f i, fun h => h i, L - 1, by omega, g3 i⟩
theorem kind_node {t : T} (hs : ¬ IsStub t) : kindT t = (nodeT t).kd ∧ valT t = (nodeT t).v ∧ pathT t = (nodeT t).p := by
 cases t with
 | stub r => exact absurd trivial hs
 | _ => exact ⟨rfl, rfl, rfl⟩
theorem mk_of {t : T} {L : Nat} (g : Tr.Good t L) (hL : L ≤ 64) (f : Fine t) (hn : t ≠ .nil) (hs : ¬ IsStub t) {ts : List T} (hr : ts.map ref = (kidsT t).map ref) (hf : ∀ s ∈ ts, ∃ L, Tr.Good s L ∧ L ≤ 64 ∧ Fine s)
  (hk : ∀ q s, t = .ext q s → ∀ u ∈ ts, kindT u ≠ 1 ∧ kindT u ≠ 2) {t' : T} (hm : makeT (nodeT t) ts = t') (hx : nodeT t' = nodeT t) (hs' : ¬ IsStub t') (hn' : t' ≠ .nil) : Mk (nodeT t) ts := by
 obtain ⟨h1, _, _, h4, h5, h6⟩ := tree_node g hL f hn hs
 have hrf : kidsL (nodeT t).ks = ts.map ref := by rw [hr]; exact kids_refs g hL f
 have hlen : ts.length = (kidsT t).length := by have := congrArg List.length hr; simpa using this
 obtain ⟨k1, k2, k3⟩ := kind_node hs'
 refine ⟨nodeT_length t, h1, h4, h5, h6, hf, hrf, ?_, by rw [hm, k1, hx], by rw [hm, k2, hx], by rw [hm, k3, hx], by rw [hm]; exact hs', by rw [hm]; exact hn'⟩
 cases t with
 | nil => exact absurd rfl hn
 | stub r => exact absurd trivial hs
 | leaf p v => exact .inl ⟨rfl, List.eq_nil_of_length_eq_zero hlen⟩
 | ext q u =>
  have h1 : ts.length = 1 := hlen
  obtain ⟨s, rfl⟩ := List.length_eq_one_iff.1 h1
  exact .inr (.inl ⟨rfl, s, rfl, hk q u rfl s (by simp)⟩)
 | br ks => exact .inr (.inr ⟨rfl, by rw [hrf, List.length_map]⟩)
theorem mk_tree {t : T} {L : Nat} (g : Tr.Good t L) (hL : L ≤ 64) (f : Fine t) (hn : t ≠ .nil) (hs : ¬ IsStub t) : Mk (nodeT t) (kidsT t) :=
 mk_of g hL f hn hs rfl (fun s h => by
  obtain ⟨_, hf, _, L', hl, hg⟩ := kids_good g f s h
  exact ⟨L', hg, by omega, hf⟩) (fun q s e u hu => by
  subst e
  obtain rfl : u = s := by
   have : u ∈ [s] := hu
   simpa using this
  have := g.2.2.2.1
  cases u with
  | br ks => exact ⟨by show (3 : Int) ≠ 1; decide, by show (3 : Int) ≠ 2; decide⟩
  | stub r => exact ⟨by show (-1 : Int) ≠ 1; decide, by show (-1 : Int) ≠ 2; decide⟩
  | _ => exact absurd this (fun h => h)) (make_open g hL f hn hs) rfl hs hn
theorem kids_len (t : T) : (kidsT t).length ≤ 16 := by
 cases t with
 | ext q s => show 1 ≤ 16; omega
 | br ks =>
  show ((kidsOf ks).map ks).length ≤ 16
  rw [List.length_map]
  exact Nat.le_trans (List.length_filter_le _ _) (by simp)
 | _ => exact Nat.zero_le _
theorem leaf_of {t : T} {L : Nat} (g : Tr.Good t L) (hn : t ≠ .nil) (hs : ¬ IsStub t) (h : (kidsT t).length = 0) : (nodeT t).kd = 1 := by
 cases t with
 | nil => exact absurd rfl hn
 | stub r => exact absurd trivial hs
 | leaf p v => rfl
 | ext q s => exact absurd h (by show (1 : Nat) ≠ 0; omega)
 | br ks =>
  obtain ⟨_, ⟨i, _, _, hi, _⟩, _⟩ := g
  have h1 : ((kidsOf ks).map ks).length = 0 := h
  rw [List.length_map] at h1
  have := rank_lt hi
  omega
theorem get_enc {t : T} {L : Nat} (g : Tr.Good t L) (hL : L ≤ 64) (f : Fine t) (hn : t ≠ .nil) (hs : ¬ IsStub t) (w : World) :
  Calls Tryz.prog 23 #[.string (encT t)] w fun e w' => ∃ a n c, e = .returned (.tuple #[.agg (ndC (nodeT t) a n c), .bool true]) ∧ IsBs w' a n c (nodeT t).p ∧ Below w.heap.size w w' := by
 obtain ⟨h1, h2, h3, _⟩ := tree_node g hL f hn hs
 refine (rget_any (encT t) (by omega) w).mono ?_
 rintro e w' ⟨N, a, n, c, b, rfl, hb, hB, hl, hw⟩
 have e1 : (encT t).data.toList = putP (nodeT t) := by rw [h2]
 rw [e1, get_put (nodeT_length t) h1] at hb
 rcases hb with ⟨rfl, hN⟩ | ⟨_, hN⟩
 ·obtain rfl := Option.some.inj hN
  exact ⟨a, n, c, rfl, hB.1, hw⟩
 ·cases hN
structure Op1 (w0 : World) (M : Mp) (w : World) (bk bt : Nat) (K : List UInt8) (p : Option Addr) (t : T) : Prop where
 l : Lw w0 M w
 u : IsT M p t
 x : Bx M w bt #[.pointer p] 25
 kb : Rg.Own w bk (kc K) 28
 kl : K.length = 32
 gt : w0.heap.size ≤ bt
 ne : bk ≠ bt
namespace Op1
variable {w0 : World} {M M' : Mp} {w w' : World} {bk bt : Nat} {K : List UInt8} {p p' : Option Addr} {t t' : T}
theorem below (h : Op1 w0 M w bk bt K p t) (hb : Below w.heap.size w w') : Op1 w0 M w' bk bt K p t := ⟨h.l.below hb, h.u, h.x.below hb, h.kb.below hb, h.kl, h.gt, h.ne⟩
theorem fr (h : Op1 w0 M w bk bt K p t) (hl : Lw w0 M' w') (f : Fr M M' w w') : Op1 w0 M' w' bk bt K p t := ⟨hl, h.u.mono f.mono, h.x.frm h.l.i f, own_byte_fr h.kb (kc_byte h.kl) h.l.i f, h.kl, h.gt, h.ne⟩
theorem set (h : Op1 w0 M w bk bt K p t) (hu : Rg.Upd w bt w') (ho : Rg.Own w' bt #[.pointer p'] 25) (ht : IsT M p' t') : Op1 w0 M w' bk bt K p' t' :=
 ⟨h.l.upd hu h.gt h.x.n, ht, ⟨ho, h.x.n, one_no _⟩, h.kb.upd hu h.ne, h.kl, h.gt, h.ne⟩
end Op1
structure Op2 (w0 : World) (M : Mp) (w : World) (bk bt : Nat) (K : List UInt8) (p : Option Addr) (t : T) (bn : Nat) (N : Nd) (a : Option Addr) (n c : Nat) (ka : Option Addr) (kc' : Nat) (ps : List (Option Addr)) : Prop where
 o : Op1 w0 M w bk bt K p t
 nb : Bx M w bn (ndC N a n c) 58
 pb : IsBs w a n c N.p
 ks : Ptrs w ka ps.length kc' ps
 are : Are M ps (kidsT t)
namespace Op2
variable {w0 : World} {M M' : Mp} {w w' : World} {bk bt : Nat} {K : List UInt8} {p : Option Addr} {t : T} {bn : Nat} {N : Nd} {a : Option Addr} {n c : Nat} {ka : Option Addr} {kc' : Nat} {ps : List (Option Addr)}
theorem below (h : Op2 w0 M w bk bt K p t bn N a n c ka kc' ps) (hb : Below w.heap.size w w') : Op2 w0 M w' bk bt K p t bn N a n c ka kc' ps := ⟨h.o.below hb, h.nb.below hb, h.pb.below hb, h.ks.below hb, h.are⟩
theorem fr (h : Op2 w0 M w bk bt K p t bn N a n c ka kc' ps) (hl : Lw w0 M' w') (f : Fr M M' w w') : Op2 w0 M' w' bk bt K p t bn N a n c ka kc' ps := ⟨h.o.fr hl f, h.nb.frm h.o.l.i f, isBs_fr h.o.l.i h.pb f, h.ks.frm h.o.l.i f, h.are.mono f.mono⟩
end Op2
end Tm
end
section
open Go.RowKit
namespace Tm
open Tr Ni Pk Ky No Rf Rl
open Sm (Tab)
theorem make_any (M : Mp) (N : Nd) (ts : List T) (hM : Mk N ts) (pa : Option Addr) (pn pc : Nat) (ps : List (Option Addr)) (hA : Are M ps ts) (ka : Option Addr) (kn kc : Nat) (hn : kn ≤ 1000000) (w : World) (hi : Inv M w) (hT : Tab w) (hB : IsBs w pa pn pc N.p) (hP : Ptrs w ka kn kc ps) :
  Calls Tryz.prog 24 #[.agg (ndC N pa pn pc), .slice ka kn kc] w (MakeP M w (makeT N ts) 0) := by
 obtain ⟨w2, hw2, hN, hX, hb2⟩ : ∃ w2, w2 = (w.alloc (.cells (ndC N pa pn pc) 58)).alloc (.cells #[.pointer none] 25) ∧ OwnN w2 w.heap.size N pa pn pc ∧ Rg.Own w2 (w.heap.size + 1) #[.pointer none] 25 ∧ Below w.heap.size w w2 := by
  refine ⟨_, rfl, (Rg.Own.new _ _ _).below (al1 _ _), ?_, al2 _ _ _⟩
  have := Rg.Own.new (w.alloc (.cells (ndC N pa pn pc) 58)) #[.pointer none] 25
  simpa using this
 have hkn : (kidsL N.ks).length = kn := by rw [hM.refs, List.length_map, ← hA.1]; exact hP.2.2.1
 have hpn : pn ≤ 1000000 := by have := hB.len; have := hM.pl; omega
 have HN := hid hN
 have HX := hid hX
 have HB := hid hb2
 have HBs := hid (hB.below hb2)
 have HP := hid (hP.below hb2)
 have HI := hid (hi.below hb2)
 have HIz := HI
 have HTb := hid (hT.below hb2 hT.pos)
 have HL := hid hM.ks
 have HW : Hid (_ = _) := hid hw2
 have HKd := hid (kids_new N pa pn pc hM.ks w2)
 have HCk := hid (fun wz hz => check_may hM.ks hM.may hM.v hM.few pa pn pc wz hz)
 have HEnd : Hid (∀ w5 w8 e, Fr M M w2 w5 → Tab w5 → GotT M w5 (makeT N ts) e w8 → ∃ p, e = .returned (tv p) ∧ ∀ w9, Rg.Upd w8 (w.heap.size + 1) w9 → MakeP M w (makeT N ts) 0 (.returned (.tuple #[tv p, .int .i64 0])) w9) := hid (fun w5 w8 e f t g => make_end hi hT.pos hb2 hX (Nat.le_succ _) f t g)
 have HPl : Hid (∀ w5, Ptrs w5 ka kn kc ps → ∀ wz, Below w5.heap.size w5 wz → Calls Tryz.prog 58 #[.agg (ndC N pa pn pc), .slice ka kn kc] wz fun e w' => ∃ va vn vc, e = .returned (.slice va vn vc) ∧ Ks0 M w5.heap.size w' va vn vc (partsT (makeT N ts)) ∧ Below wz.heap.size wz w') := hid (fun w5 hp wz hb => by
  refine (placed_any M N hM.ks pa pn pc ps ts hA hM.kd' ka kn kc wz (hp.below hb) hn).mono ?_
  rintro e w' ⟨va, vn, vc, he, hk, hb'⟩
  exact ⟨va, vn, vc, he, hk.lo hb.size, hb'⟩)
 have HBu := hid (built_make (makeT N ts) N.kd N.v hM.k hM.mv hM.ms)
 have HPt := hid hM.mp
 have HNe := hid hM.mn
 have HAt : Hid (M.at_ w.heap.size = none ∧ M.at_ (w.heap.size + 1) = none) := hid ⟨hi.out (Nat.le_refl _), hi.out (by omega)⟩
 have HM := hid hM
 have HA := hid hA
 obtain ⟨TT, hTT⟩ : ∃ TT, makeT N ts = TT := ⟨_, rfl⟩
 rw [hTT] at HEnd HPl HBu HPt HNe ⊢
 obtain ⟨gN, hgN⟩ : ∃ g, w.heap.size = g := ⟨_, rfl⟩
 obtain ⟨gT, hgT⟩ : ∃ g, w.heap.size + 1 = g := ⟨_, rfl⟩
 have hgg : gN ≠ gT := by omega
 have HGT : Hid (gT = w.heap.size + 1) := hid hgT.symm
 rw [hgT] at HX HEnd HAt
 rw [hgN] at HN HAt
 have HGN : Hid (_ = _) := hid hgN
 have HKn := hid hkn
 clear hN hX hb2 hB hP hi hT hM hA hw2 hTT hkn hgT hgN
 have hgo : Calls Tryz.prog 24 #[.agg (ndC N pa pn pc), .slice ka kn kc] w (MakeP M w TT 0) := by
  go_enter Tryz.func24, Tryz.ntmps24
  go_wp2_with (first
   | (refine Rg.run rfl _ _ (run_alloc_tree _ _ _ gT (by rw [HGT.out]; simp) rfl) ?_; rw [← HW.out, HGN.out])
   | (refine Rg.run rfl _ _ (op_load_nd HN.out HL.out ⟨_, rfl, rfl⟩) ?_))
  refine HKd.out.mono ?_
  rintro e w3 ⟨a3, n3, c3, rfl, hS3, hn3, hb3⟩
  obtain rfl : kn = n3 := by rw [← hS3.2.2.1]; exact HKn.out.symm
  have HN3 := hid (HN.out.below hb3)
  have HX3 := hid (HX.out.below hb3)
  have HB3 := hid (hb3)
  have HBs3 := hid (HBs.out.below hb3)
  have HS3 := hid hS3
  have HN3' : Hid (∀ b off, a3 = some ⟨b, off, none⟩ → M.at_ b = none) := hid (fun b off e => HI.out.out (hn3 b off e))
  clear hS3 hn3 hb3 HKd HX HBs HW
  go_wp2_with (first
   | (refine Rg.run rfl _ _ (op_load_nd HN3.out HL.out ⟨_, rfl, rfl⟩) ?_))
  refine (HCk.out w3 HBs3.out).mono ?_
  rintro e w4 ⟨rfl, hb4⟩
  have HN4 := hid (HN3.out.below hb4)
  have HX4 := hid (HX3.out.below hb4)
  have HBs4 := hid (HBs3.out.below hb4)
  have HB4 := hid (bst HB3.out hb4)
  have HS4 := hid (HS3.out.below hb4)
  have HP4 := hid (HP.out.below HB4.out)
  have HI4 := hid (HI.out.below HB4.out)
  have HT4 := hid (HTb.out.below HB4.out HTb.out.pos)
  have c0 := (nd_cells HN4.out).1
  clear hb4 HN3 HX3 HB3 HBs3 HS3 HCk HP HI HTb
  go_upto_region 4 with fail
  go_cut [36] (fun v wx => v = .bool false ∧ Hid (Below w4.heap.size w4 wx))
  case first =>
   rcases HM.out.kd with ⟨h1, h2⟩ | ⟨h1, s, hts, hs1, hs2⟩ | ⟨h1, h2⟩
   ·rw [h1] at c0
    clear h1 h2
    go_wp2_with fail
    go_meet
    exact ⟨rfl, hid (Below.refl _ _)⟩
   ·rw [h1] at c0
    have hps : ps.length = 1 := by rw [HA.out.1, hts]; rfl
    have hk1 : kn = 1 := by rw [← HP4.out.2.2.1]; exact hps
    obtain ⟨b, off, hka, hlt, hc⟩ := HP4.out.2.2.2.2 0 (by omega)
    have ht := HA.out.2 0 (by omega)
    rw [hts] at ht
    have ht' : IsT M (ps.getD 0 none) s := ht
    have hKd := fun wz (hb : Below w4.heap.size w4 wz) => Tm.kind_any M (ps.getD 0 none) s wz (HI4.out.below hb) ht'
    obtain ⟨p, hp⟩ : ∃ p, ps.getD 0 none = p := ⟨_, rfl⟩
    rw [hp] at hc hKd
    have HKd := hid hKd
    obtain ⟨K, hK⟩ : ∃ K, kindT s = K := ⟨_, rfl⟩
    rw [hK] at HKd hs1 hs2
    have k1 : (K == 1) = false := by rw [beq_eq_false_iff_ne]; exact hs1
    have k2 : (K == 2) = false := by rw [beq_eq_false_iff_ne]; exact hs2
    have k1' : decide (K = 1) = false := decide_eq_false hs1
    have k2' : decide (K = 2) = false := decide_eq_false hs2
    rw [Nat.add_zero] at hc
    have HC := hid hc
    clear h1 hps ht ht' hKd hp hK hts
    subst hk1
    subst hka
    go_wp2_with (first
     | (refine Rg.run rfl _ _ (op_load_tree HC.out ⟨_, rfl, rfl⟩) ?_)
     | (refine Rg.runW ?hw _ _ (op_load_tree HC.out ⟨_, rfl, rfl⟩) ?_; case hw => rfl))
    refine (HKd.out w4 (Below.refl _ _)).mono ?_
    rintro e w5 ⟨rfl, hb5⟩
    have HC5 := hid ((Below.cell (p := ⟨b, off, none⟩) hb5 hlt).trans HC.out)
    have HB5 := hid hb5
    clear hb5
    go_wp2_with (first
     | (refine Rg.run rfl _ _ (op_load_tree HC5.out ⟨_, rfl, rfl⟩) ?_)
     | (refine Rg.runW ?hw _ _ (op_load_tree HC5.out ⟨_, rfl, rfl⟩) ?_; case hw => rfl))
    refine (HKd.out w5 HB5.out).mono ?_
    rintro e w6 ⟨rfl, hb6⟩
    have HB6 := hid (bst HB5.out hb6)
    clear hb6
    go_wp2_with fail
    go_meet
    exact ⟨rfl, HB6⟩
   ·rw [h1] at c0
    clear h1 h2
    go_wp2_with fail
    go_meet
    exact ⟨rfl, hid (Below.refl _ _)⟩
  case rest =>
  obtain ⟨rfl, HB5⟩ := hcut
  obtain ⟨wd, hwd⟩ : ∃ wd, wd = wc := ⟨_, rfl⟩
  subst hwd
  have HNd := hid (HN4.out.below HB5.out)
  have HXd := hid (HX4.out.below HB5.out)
  have HBsd := hid (HBs4.out.below HB5.out)
  have HSd := hid (HS4.out.below HB5.out)
  have HPd := hid (HP4.out.below HB5.out)
  have HId := hid (HI4.out.below HB5.out)
  have HTd := hid (HT4.out.below HB5.out HT4.out.pos)
  have HF2d : Hid (Fr M M w2 wd) := hid (Fr.below M (bst HB4.out HB5.out))
  have HEq := hid (equal_any M ps ts ka kn kc a3 kn c3 wd HPd.out HA.out HM.out.fine (by rw [← HM.out.refs]; exact HSd.out) HN3'.out hn HId.out HTd.out)
  clear HN4 HX4 HBs4 HS4 HP4 HI4 HT4 HB5 HB4 HSd c0
  go_wp2_with fail
  refine HEq.out.mono ?_
  rintro e w5 ⟨rfl, hf5, hi5, hT5⟩
  have HN5 : Hid (OwnN w5 gN N pa pn pc) := hid (own_fr HNd.out hf5 HAt.out.1)
  have HX5 := hid (own_fr HXd.out hf5 HAt.out.2)
  have HBs5 := hid (isBs_fr HId.out HBsd.out hf5)
  have HP5 := hid (HPd.out.frm HId.out hf5)
  have HI5 := hid hi5
  replace HEnd := hid (fun w8 e g => HEnd.out w5 w8 e (HF2d.out.trans HIz.out hf5) hT5 g)
  replace HPl := hid (HPl.out w5 HP5.out)
  have HCl : Hid (∀ wz, Below w5.heap.size w5 wz → Calls Tryz.prog 57 #[.slice pa pn pc] wz (GotBsF wz N.p)) := hid (fun wz hb => cloneB_any pa pn pc N.p hpn wz (HBs5.out.below hb))
  clear hf5 hi5 hT5 HEq HNd HXd HBsd HPd HId HTd HF2d
  go_wp2_with fail
  have HBel : Hid (Below w5.heap.size w5 w5.drew) := hid (Below.refl _ _).drew
  refine wp_region_noPanic ?_
  refine wp_region_held_drew (S := fun w' => OwnN w' gN N pa pn pc) (by kernel_rfl) (HN5.out.drew) (fun hld => ?_)
  refine Rg.tk (i := 0) rfl ?_
  try simp only [Act.put, Rg.s]
  refine Rg.tk (i := 1) rfl ?_ (hy := by intro wz hSw; (have q0 := (nd_cells hSw).1; go_simp <;> with_reducible rfl))
  try simp only [Act.put, Rg.s]
  refine Rg.tk (i := 2) rfl ?_
  try simp only [Act.put, Rg.s]
  refine Rg.tk (i := 3) rfl ?_ (hy := by intro wz hSw; (have q0 := (nd_cells hSw).2.1; go_simp <;> with_reducible rfl))
  try simp only [Act.put, Rg.s]
  refine Rg.tk (i := 5) rfl ?_
  try simp only [Act.put, Rg.s]
  refine Rg.tk (i := 6) rfl ?_ (hy := by intro wz hSw; (have q0 := (nd_cells hSw).2.2; go_simp <;> with_reducible rfl))
  try simp only [Act.put, Rg.s]
  refine Rg.tk (i := 7) rfl ?_ (hy := by intro wz hSw; (refine op_load_nd hSw HL.out ?_; exact ⟨_, rfl, rfl⟩))
  try simp only [Act.put, Rg.s]
  refine Rg.tk (i := 8) rfl ?_
  try simp only [Act.put, Rg.s]
  refine Rg.rd (i := 4) rfl fun K hK => ?_
  go_simp
  go_at_call 57
  (with_reducible refine (HCl.out _ HBel.out).mono ?_)
  rintro e wv0 ⟨a7, n7, c7, rfl, hB7, hbx⟩
  have HB7 := hid (hB7.weak HBel.out.size)
  replace HBel := hid (bst HBel.out hbx)
  clear hB7
  refine hK.out _ _ ?_ (fun hld => ?_)
  ·exact hld.below hbx
  clear hK K hbx
  try simp only [Act.put, Rg.s]
  refine Rg.rd (i := 9) rfl fun K hK => ?_
  go_simp
  go_at_call 58
  (with_reducible refine (HPl.out _ HBel.out).mono ?_)
  rintro e wv1 ⟨va, vn, vc, rfl, hks, hbx⟩
  have HKs := hid hks
  replace HB7 := hid (HB7.out.below hbx)
  replace HBel := hid (bst HBel.out hbx)
  clear hks
  refine hK.out _ _ ?_ (fun hld => ?_)
  ·exact hld.below hbx
  clear hK K hbx
  try simp only [Act.put, Rg.s]
  refine Rg.tk (i := 10) rfl ?_ (hy := by intro wz hSw; (refine op_build (HBu.out a7 n7 c7 va vn vc) ?_; exact ⟨_, rfl, rfl⟩))
  try simp only [Act.put, Rg.s]
  refine Rg.rd (i := 11) rfl fun K hK => ?_
  refine Rg.meetAlloc (by rfl) (op_box_part (t := TT) ⟨_, rfl, rfl⟩) ?_
  rintro wv2 b11 he11 h11 hbx
  have ge11 : w5.heap.size ≤ b11 := by rw [he11]; exact HBel.out.size
  replace HB7 := hid (HB7.out.below hbx)
  replace HKs := hid (HKs.out.below hbx)
  replace HBel := hid (bst HBel.out hbx)
  obtain ⟨p11, he12, hE⟩ := HEnd.out _ _ (got_part HI5.out HBel.out ge11 HNe.out h11.2 (by rw [HPt.out]; exact HB7.out.1) (fun ad e _ => Or.inr (HB7.out.2 ad e)) HKs.out)
  obtain rfl : p11 = some ⟨b11, 0, none⟩ := by cases he12; rfl
  have HE := hid hE
  clear hE he12 he11
  refine hK.out _ _ ?_ (fun hld => ?_)
  ·exact hld.below hbx
  clear hK K hbx
  try simp only [Act.put, Rg.s]
  refine Rg.tk (i := 12) rfl ?_
  try simp only [Act.put, Rg.s]
  refine Rg.rd (i := 13) rfl fun K hK => ?_
  refine meet_store_tree (by rfl) (HX5.out.below HBel.out) (off := 0) (by simp) (some ⟨b11, 0, none⟩) ⟨_, _, rfl, rfl, rfl⟩ ?_
  rintro wv3 hn hu
  have HX9 : Hid (Rg.Own wv3 gT #[.pointer (some ⟨b11, 0, none⟩)] 25) := hid hn
  have HP9 := hid (HE.out _ hu)
  refine hK.out _ _ ?_ (fun hld => ?_)
  ·exact hld.upd hu hgg
  clear hK K hn hu
  try simp only [Act.put, Rg.s]
  refine Rg.tk (i := 14) rfl ?_
  try simp only [Act.put, Rg.s]
  refine wpAnyH_done (by kernel_rfl) ?_ _
  refine NoPanic.normal ?_
  clear hld
  go_wp2
  exact bodyPost_ret (res_tree1 (q := 4) (u := 5) rfl _ rfl HX9.out) rfl HP9.out
 exact hgo
end Tm
end
section
open Go.RowKit
namespace Tm
open Tr Ni Pk Ky No Rf Rl
open Sm (Tab)
theorem make_arg (N : Nd) (hl : N.ks.length = 16) (hmay : mayW refP N = true) (hv : N.v.size ≤ maxLen) (hks : ∀ k ∈ N.ks, k.size ≤ 100) (pa : Option Addr) (pn pc : Nat) (ka : Option Addr) (kn kc : Nat) (hkn : kn ≠ (kidsL N.ks).length) (w : World) (hB : IsBs w pa pn pc N.p) :
  Calls Tryz.prog 24 #[.agg (ndC N pa pn pc), .slice ka kn kc] w fun e w' => e = .returned (.tuple #[tv none, .int .i64 2]) ∧ Below w.heap.size w w' := by
 obtain ⟨w2, hw2, hN, hX, hb2⟩ : ∃ w2, w2 = (w.alloc (.cells (ndC N pa pn pc) 58)).alloc (.cells #[.pointer none] 25) ∧ OwnN w2 w.heap.size N pa pn pc ∧ Rg.Own w2 (w.heap.size + 1) #[.pointer none] 25 ∧ Below w.heap.size w w2 := by
  refine ⟨_, rfl, (Rg.Own.new _ _ _).below (al1 _ _), ?_, al2 _ _ _⟩
  have := Rg.Own.new (w.alloc (.cells (ndC N pa pn pc) 58)) #[.pointer none] 25
  simpa using this
 have HN := hid hN
 have HX := hid hX
 have HB := hid hb2
 have HBs := hid (hB.below hb2)
 have HL := hid hl
 have HW : Hid (_ = _) := hid hw2
 have HKd := hid (kids_new N pa pn pc hl w2)
 have HCk := hid (fun wz hz => check_may hl hmay hv hks pa pn pc wz hz)
 obtain ⟨q, hq⟩ : ∃ q, (kidsL N.ks).length = q := ⟨_, rfl⟩
 have HQ := hid hq
 rw [hq] at hkn
 have i1 : ((kn : Int) == (q : Int)) = false := by rw [beq_eq_false_iff_ne]; omega
 clear hN hX hb2 hB hl hw2 hmay hv hks hq
 go_enter Tryz.func24, Tryz.ntmps24
 go_wp2_with (first
  | (refine Rg.run rfl _ _ (run_alloc_tree _ _ _ (w.heap.size + 1) (by simp) rfl) ?_; rw [← HW.out])
  | (refine Rg.run rfl _ _ (op_load_nd HN.out HL.out ⟨_, rfl, rfl⟩) ?_))
 refine HKd.out.mono ?_
 rintro e w3 ⟨a3, n3, c3, rfl, hS3, hn3, hb3⟩
 obtain rfl : n3 = q := by rw [← hS3.2.2.1]; exact HQ.out
 have HN3 := hid (HN.out.below hb3)
 have HX3 := hid (HX.out.below hb3)
 have HB3 := hid (bst HB.out hb3)
 have HBs3 := hid (HBs.out.below hb3)
 clear hS3 hn3 hb3 HKd HN HX HB HBs HW
 go_wp2_with (first
  | (refine Rg.run rfl _ _ (op_load_nd HN3.out HL.out ⟨_, rfl, rfl⟩) ?_))
 refine (HCk.out w3 HBs3.out).mono ?_
 rintro e w4 ⟨rfl, hb4⟩
 have HX4 := hid (HX3.out.below hb4)
 have HB4 := hid (bst HB3.out hb4)
 clear hb4 HN3 HX3 HB3 HBs3 HCk
 go_wp2_with (first
  | (refine Rg.run rfl _ _ (op_build built_nil ⟨_, rfl, rfl⟩) ?_)
  | (refine wpl_store_tree HX4.out (by decide) none rfl _ _ rfl rfl rfl ?_; intro w6 hO6 hu6; have HO6 := hid hO6; have HU6 := hid hu6; clear hO6 hu6))
 exact bodyPost_ret (res_tree1 (q := 4) (u := 5) rfl _ rfl HO6.out) rfl ⟨rfl, HU6.out.below HB4.out (by omega)⟩
end Tm
end
end Go.Proofs.YtgolhnfkmmajpaaGreatDoor
