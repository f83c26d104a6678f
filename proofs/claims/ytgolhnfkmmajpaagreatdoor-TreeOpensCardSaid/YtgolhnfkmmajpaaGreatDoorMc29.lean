/-
 The plain answer's Get: two items, an extension.
-/
import Derived.Test.YtgolhnfkmmajpaaGreatDoorMc28
import Derived.Deep.DeepCutAuto
open Go.Lib (hid)
set_option linter.unusedSimpArgs false
set_option linter.unusedVariables false
set_option maxHeartbeats 40000000
set_option maxRecDepth 100000
namespace Go.Proofs.YtgolhnfkmmajpaaGreatDoor
section
open Go.RowKit
namespace No
open Rl Ni
theorem ndC_one16 (p : List UInt8) (a : Option Addr) (n c : Nat) (k : ByteArray) : (ndC ⟨2, p, eB, zks⟩ a n c).setIfInBounds 3 (.string k) = ndC ⟨2, p, eB, one16 k⟩ a n c := by
 simp [ndC, zks, one16, List.replicate]
theorem el_less {s : ByteArray} (hs : s.size ≤ 1000000) {x y : It} (hw : wholeL s.data.toList = .ok x) (hy : y ∈ x.xs) : y.bytes.length < s.size ∧ y.s.size ≤ y.bytes.length := by
 obtain ⟨g1, g2, _⟩ := whole_back (by rw [len_s]; omega) hw
 have h1 := in_less g2 (by rw [g1, len_s]; omega) hy
 rw [g1, len_s] at h1
 have h5 := inner_le y
 have h6 : y.s.size ≤ y.inner.length := by
  unfold It.inner
  rw [List.length_append, len_s]
  omega
 exact ⟨h1, by omega⟩
theorem kidR_size {x : It} (h : x.s.size ≤ x.bytes.length) : (kidR x).1.size ≤ x.bytes.length := by
 unfold kidR
 split
 ·split
  ·exact Nat.le_of_eq (ba_size _)
  ·exact Nat.zero_le _
 ·exact h
theorem put_is {L : Nd} {s : ByteArray} : (⟨(putP L).toArray⟩ : ByteArray) = s ↔ putP L = s.data.toList := by
 constructor
 ·rintro rfl
  simp
 ·intro h
  rw [h, ba_self]
theorem rget_ext (s : ByteArray) (hs : s.size ≤ 1000000) (x : It) (k : Nat) (hr : readL s.data.toList 0 0 = .ok (x, s.size, k)) (hw : wholeL s.data.toList = .ok x) (h2 : x.xs.length = 2) (hbad : ¬ ((x.xs.getD 0 it0).s.size = 0 ∨ Bad (x.xs.getD 0 it0).s)) (hlf : leafB (x.xs.getD 0 it0).s = false) (hs0 : 0 < s.size) (hR : ∀ k : ByteArray, k.size ≤ 1000000 → (k.size < 32 → k.size < s.size) → RRefC k) (w : World) : Calls Tryz.prog 23 #[.string s] w (ReadPost w (getP s.data.toList)) := by
 have hsl : s.data.toList.length ≤ 1000000 := by rw [len_s]; omega
 have hm := get_ext hsl hw h2 hbad hlf
 have HG : Hid (getP s.data.toList = if mayW refP (extN (x.xs.getD 0 it0) (x.xs.getD 1 it0)) = true ∧ putP (extN (x.xs.getD 0 it0) (x.xs.getD 1 it0)) = s.data.toList then some (extN (x.xs.getD 0 it0) (x.xs.getD 1 it0)) else none) := hid (get_if hsl (extN_length _ _) (fun M h => (hm M h).2))
 have HF : Hid ((kidR (x.xs.getD 1 it0)).2 = false → getP s.data.toList = none) := hid (fun hf => by
  cases hg : getP s.data.toList with
  | none => rfl
  | some M => exact absurd ((hm M hg).1.symm.trans hf) (by decide))
 clear hm
 obtain ⟨G, hGG⟩ : ∃ G, getP s.data.toList = G := ⟨_, rfl⟩
 rw [hGG] at HG HF ⊢
 clear hGG
 obtain ⟨y, hy⟩ : ∃ y, x.xs.getD 0 it0 = y := ⟨_, rfl⟩
 obtain ⟨z, hz⟩ : ∃ z, x.xs.getD 1 it0 = z := ⟨_, rfl⟩
 have hy1 : x.xs[0]? = some y := by rw [← hy]; exact getD_at (by omega)
 have hz1 : x.xs[1]? = some z := by rw [← hz]; exact getD_at (by omega)
 have hGy := good_of hsl hw y (List.mem_of_getElem? hy1)
 have hGz := good_of hsl hw z (List.mem_of_getElem? hz1)
 rw [hy] at hbad hlf HG
 rw [hz] at HG HF
 have hlz := el_less hs hw (List.mem_of_getElem? hz1)
 have hksz := kidR_size hlz.2
 have hKd : ∀ (w' : World) (A : Option Addr) (N C : Nat), IsIts w' z.xs A N C → Calls Tryz.prog 52 #[.agg #[.bool z.l, .string z.s, .slice A N C]] w' fun e w'' => e = .returned (.tuple #[.string (kidR z).1, .bool (kidR z).2]) ∧ Below w'.heap.size w' w'' := fun w' A N C h =>
  rkid_any z w' A N C h hGz (fun _ hlt => hR _ (by rw [ba_size]; omega) (fun _ => by rw [ba_size]; omega)) (fun _ => hR _ hGz.2.2.2 (fun _ => by omega))
 obtain ⟨w2, hw2⟩ : ∃ w2, w2 = w.alloc (.cells (ndC nd0 none 0 0) 58) := ⟨_, rfl⟩
 have hs2 : w2.heap.size = w.heap.size + 1 := by rw [hw2]; simp
 have HO : Hid (OwnN w2 w.heap.size nd0 none 0 0) := hid (by rw [hw2]; exact Rg.Own.new _ _ _)
 have HB2 : Hid (Below w.heap.size w w2) := hid (by rw [hw2]; exact al1 _ _)
 have HW := hid (rread_ok hs hr w2)
 have Hy := hid hy1
 have Hz := hid hz1
 have HPth := hid (fun w => rpath_any y.s hGy.2.2.2 w)
 clear hr hw hy hz hy1 hz1
 subst hw2
 go_enter Tryz.func23, Tryz.ntmps23
 go_wp2_with (refine Rg.run rfl _ _ (run_alloc_nd _ _ _ w.heap.size rfl rfl) ?_)
 with_reducible refine HW.out.mono ?_
 rintro e w3 ⟨a3, n3, c3, lI, rfl, hI3, hb3⟩
 rw [hs2] at hI3
 obtain ⟨hN45, hC4, hO4, hB4, hall⟩ := get_boxes w w3 (HO.out.below hb3) (bst HB2.out hb3) x a3 n3 c3
 have hn3 : n3 = x.xs.length := hI3.len.symm
 obtain rfl : n3 = 2 := by omega
 have hm := hI3.max
 have hnc := hI3.le
 unfold maxLen at hm
 obtain ⟨y', b, off, A0, N0, C0, hy, rfl, hBb, hblt, hL, _⟩ := its_at hI3 0 (by omega)
 obtain rfl : y' = y := Option.some.inj (hy.symm.trans Hy.out)
 obtain ⟨z', b', off', A, N, C, hz, e, _, hblt2, hLz, hIz⟩ := its_at hI3 1 (by omega)
 obtain ⟨rfl, rfl, _⟩ : b = b' ∧ off = off' ∧ True := by cases e; exact ⟨rfl, rfl, trivial⟩
 obtain rfl : z' = z := Option.some.inj (hz.symm.trans Hz.out)
 rw [Nat.zero_mul, Nat.add_zero] at hL
 rw [Nat.one_mul] at hLz
 have HN45 := hid hN45
 have hW3 : Below w3.heap.size w3 (((w3.alloc (.cells #[.bool x.l, .string x.s, .slice (some ⟨b, off, none⟩) 2 c3] 101)).alloc (.cells (ndC nd0 none 0 0) 58)).setRow (w3.heap.size + 1) (ndC ⟨3, [], eB, zks⟩ none 0 0)) := (hall _ rfl).2.2.2.1
 obtain ⟨e0, e1, e2⟩ := hL.stays hW3 hblt
 have hC5 := (hall _ rfl).2.1
 have HA := hid hall
 have HLy := hid hL
 have HLz := hid hLz
 have HIz := hid hIz
 have HB3 := hid (bst HB2.out hb3)
 have HR3 : Hid (w.heap.size < w3.heap.size) := hid (HO.out.below hb3).1
 clear hb3 HW hI3 hN45 hall hO4 hB4 hn3 hs2 hy hz e hL hLz hIz hW3 HO HB2
 go_wp2_with (first
  | (refine Rg.run rfl _ _ (run_alloc_nd _ _ _ (w3.heap.size + 1) (by simp) rfl) ?_)
  | (refine Rg.run rfl _ _ (op_build (built_kd 3) ?_) ?_; · exact ⟨_, rfl, rfl⟩)
  | (refine wpl_store_nd HN45.out rfl ⟨3, [], eB, zks⟩ none 0 0 rfl rfl _ _ rfl rfl rfl rfl ?_))
 obtain ⟨w5, hw5⟩ : ∃ w5, w5 = ((w3.alloc (.cells #[.bool x.l, .string x.s, .slice (some ⟨b, off, none⟩) 2 c3] 101)).alloc (.cells (ndC nd0 none 0 0) 58)).setRow (w3.heap.size + 1) (ndC ⟨3, [], eB, zks⟩ none 0 0) := ⟨_, rfl⟩
 obtain ⟨hO5, hc5, hN5, hb5, hs5⟩ := HA.out w5 hw5
 rw [← hw5]
 rw [← hw5] at e0 e1 e2 hC5
 clear HA HN45 hw5 hC4
 refine (HPth.out w5).mono ?_
 rintro e w6 ⟨a6, n6, c6, l6, lf6, ok6, rfl, hx6, hd6, hb6⟩
 have HO6 := hid (hO5.below hb6)
 have HN6 := hid (hN5.below hb6)
 have hB35 := bst hb5 hb6
 have HB6 := hid (bst HB3.out hB35)
 have hLy6 := HLy.out.stays hB35 hblt
 obtain ⟨e0, e1, e2⟩ := hLy6
 have hLz6 := HLz.out.stays hB35 hblt2
 obtain ⟨f0, f1, f2⟩ := hLz6
 have hc6 : w6.cell? ⟨w3.heap.size, 2, none⟩ = some (.slice (some ⟨b, off, none⟩) 2 c3) := (Below.cell (p := ⟨w3.heap.size, 2, none⟩) hb6 (by show w3.heap.size < _; omega)).trans hc5
 have HX6 : Hid (BsF (w3.heap.size + 2) w6 a6 n6 c6 l6) := hid (hx6.weak (by omega))
 have HIz6 := hid (HIz.out.stays hB35)
 have hsz6 := hb6.size
 obtain ⟨rfl, rfl, rfl⟩ : ok6 = true ∧ l6 = pathL y'.s ∧ lf6 = false := by
  rcases hd6 with ⟨h, _, _, h1, h3⟩ | ⟨_, h⟩
  ·exact ⟨h, h1, h3.trans hlf⟩
  ·exact absurd h hbad
 have hyl : y'.l = false := congrArg It.l (text_of hGy.1 (fun h => hbad (.inl h)))
 rw [hyl] at e0
 have hyf : (!true) = false := rfl
 have hp6 := HX6.out.1.len
 clear hx6 hb6 hB35 hO5 hN5 hb5 hd6 hc5 HPth hbad hlf
 unfold extN at HG
 obtain ⟨kk, hkk⟩ : ∃ kk, (kidR z').1 = kk := ⟨_, rfl⟩
 obtain ⟨is, his⟩ : ∃ is, (kidR z').2 = is := ⟨_, rfl⟩
 rw [hkk] at HG hKd hksz
 rw [his] at hKd
 have HKd := hid (hKd w6 A N C HIz6.out)
 have hNl : (⟨2, pathL y'.s, eB, one16 kk⟩ : Nd).ks.length = 16 := one16_length kk
 have hRk : ∀ k ∈ (⟨2, pathL y'.s, eB, one16 kk⟩ : Nd).ks, RRefC k := fun k hk => by
  rcases List.mem_cons.1 (show k ∈ kk :: List.replicate 15 eB from hk) with e | e
  ·rw [e]; exact hR kk (by omega) (fun _ => by omega)
  ·rw [List.eq_of_mem_replicate e]; exact hR eB (by decide) (fun _ => hs0)
 have hMay := fun w' (h : IsBs w' a6 n6 c6 (⟨2, pathL y'.s, eB, one16 kk⟩ : Nd).p) => rmay_any (⟨2, pathL y'.s, eB, one16 kk⟩ : Nd) a6 n6 c6 hNl w' h (Nat.zero_le _) hRk
 have hPut := fun (hm : mayW refP (⟨2, pathL y'.s, eB, one16 kk⟩ : Nd) = true) w' (h : IsBs w' a6 n6 c6 (⟨2, pathL y'.s, eB, one16 kk⟩ : Nd).p) => rput_of (⟨2, pathL y'.s, eB, one16 kk⟩ : Nd) a6 n6 c6 hNl w' h hm
 have hT : (⟨(putP (⟨2, pathL y'.s, eB, one16 kk⟩ : Nd)).toArray⟩ : ByteArray) = s ↔ putP (⟨2, pathL y'.s, eB, one16 kk⟩ : Nd) = s.data.toList := put_is
 obtain ⟨T, hTT⟩ : ∃ T, (⟨(putP (⟨2, pathL y'.s, eB, one16 kk⟩ : Nd)).toArray⟩ : ByteArray) = T := ⟨_, rfl⟩
 rw [hTT] at hT hPut
 have HT := hid hT
 clear hTT hT
 have hlt3 := HR3.out
 clear hKd hyf hR hRk hkk hksz hlz
 go_wp2_with fail
 refine HKd.out.mono ?_
 rintro e w7 ⟨rfl, hb7⟩
 have HN7 := hid (HN6.out.below hb7)
 have HO7 := hid (HO6.out.below hb7)
 have HB7 := hid (bst HB6.out hb7)
 have HX7 := hid (HX6.out.below hb7)
 have HNr : Hid (OwnN (w7.setRow (w3.heap.size + 1) (ndC ⟨2, pathL y'.s, eB, zks⟩ a6 n6 c6)) (w3.heap.size + 1) ⟨2, pathL y'.s, eB, zks⟩ a6 n6 c6) := hid (own_rowN HN7.out)
 have c83 : (w7.setRow (w3.heap.size + 1) (ndC ⟨2, pathL y'.s, eB, zks⟩ a6 n6 c6)).cell? ⟨w3.heap.size + 1, 3, none⟩ = some (.string eB) := nd_kid HNr.out rfl 0 (by decide)
 have f83 : (w7.setRow (w3.heap.size + 1) (ndC ⟨2, pathL y'.s, eB, zks⟩ a6 n6 c6)).frozen? ⟨w3.heap.size + 1, 3, none⟩ = false := own_free HNr.out
 obtain ⟨w8, hw8⟩ : ∃ w8, w8 = (w7.setRow (w3.heap.size + 1) (ndC ⟨2, pathL y'.s, eB, zks⟩ a6 n6 c6)).setCell ⟨w3.heap.size + 1, 3, none⟩ (.string kk) := ⟨_, rfl⟩
 have hu8 : Rg.Upd w7 (w3.heap.size + 1) w8 := by rw [hw8]; exact upd_trans (Rg.Upd.set _ _ _) (upd_cell _ _ _ _)
 have HN8 : Hid (OwnN w8 (w3.heap.size + 1) ⟨2, pathL y'.s, eB, one16 kk⟩ a6 n6 c6) := hid (by
  rw [hw8]
  have h := own_cell (o := 3) HNr.out (.string kk)
  rw [ndC_one16] at h
  exact h)
 have HO8 := hid (HO7.out.upd hu8 (by omega))
 have HB8 := hid (hu8.below HB7.out (by omega))
 have HX8 := hid (HX7.out.upd hu8 (by omega))
 clear hb7 HKd hu8 HNr HIz6 f0 f1 f2 e0 e1 e2 hc6
 go_wp2_with (first
  | (refine Rg.run rfl _ _ (op_build (built_path 2 a6 n6 c6 (pathL y'.s)) ?_) ?_; · exact ⟨_, rfl, rfl⟩)
  | (refine wpl_store_nd HN7.out rfl ⟨2, pathL y'.s, eB, zks⟩ a6 n6 c6 rfl rfl _ _ rfl rfl rfl rfl ?_))
 rw [← hw8]
 clear hw8 c83 f83
 cases is with
 | false =>
  refine wp_region_noPanic ?_
  refine wp_region_held_drew (S := fun w' => SG w.heap.size (w3.heap.size + 1) (⟨2, pathL y'.s, eB, one16 kk⟩ : Nd) a6 n6 c6 w w') (by kernel_rfl) (⟨Nat.lt_succ_of_lt HR3.out, HN8.out.drew, ⟨_, rfl, HO8.out.drew⟩, HX8.out.below (below_drewN (Below.refl _ _) 1), HB8.out.drew⟩) (fun hld => ?_)
  refine Rg.tk (i := 0) rfl ?_ (hy := by intro wz hSw; (refine op_load_nd hSw.nd hNl ?_; exact ⟨_, rfl, rfl⟩))
  try simp only [Act.put, Rg.s]
  refine Rg.tk (i := 1) rfl ?_
  try simp only [Act.put, Rg.s]
  refine Rg.tk (i := 2) rfl ?_
  try simp only [Act.put, Rg.s]
  refine Rg.takeL (i := 3) (v := undef) rfl (by kernel_rfl) (by kernel_rfl) (by kernel_rfl) (fun _ _ _ h => h) (Or.inr ⟨by rfl, rfl⟩) (by assumption) ?_
  try simp only [Act.put, Rg.s]
  refine Rg.takeL (i := 4) (v := undef) rfl (by kernel_rfl) (by kernel_rfl) (by kernel_rfl) (fun _ _ _ h => h) (Or.inr ⟨by rfl, rfl⟩) (by assumption) ?_
  try simp only [Act.put, Rg.s]
  refine Rg.tk (i := 5) rfl ?_
  try simp only [Act.put, Rg.s]
  refine Rg.tk (i := 6) rfl ?_
  try simp only [Act.put, Rg.s]
  refine Rg.takeL (i := 7) (v := undef) rfl (by kernel_rfl) (by kernel_rfl) (by kernel_rfl) (fun _ _ _ h => h) (Or.inr ⟨by rfl, rfl⟩) (by assumption) ?_
  try simp only [Act.put, Rg.s]
  refine Rg.takeL (i := 8) (v := undef) rfl (by kernel_rfl) (by kernel_rfl) (by kernel_rfl) (fun _ _ _ h => h) (Or.inr ⟨by rfl, rfl⟩) (by assumption) ?_
  try simp only [Act.put, Rg.s]
  refine Rg.takeL (i := 9) (v := undef) rfl (by kernel_rfl) (by kernel_rfl) (by kernel_rfl) (fun _ _ _ h => h) (Or.inr ⟨by rfl, rfl⟩) (by assumption) ?_
  try simp only [Act.put, Rg.s]
  refine Rg.takeL (i := 10) (v := undef) rfl (by kernel_rfl) (by kernel_rfl) (by kernel_rfl) (fun _ _ _ h => h) (Or.inr ⟨by rfl, rfl⟩) (by assumption) ?_
  try simp only [Act.put, Rg.s]
  refine Rg.tk (i := 11) rfl ?_
  try simp only [Act.put, Rg.s]
  refine Rg.rd (i := 12) rfl fun K hK => ?_
  obtain ⟨cs, hcs, hOr⟩ := hld.res
  refine Rg.meetStore (by rfl) hOr 58 (ndC (⟨2, pathL y'.s, eB, one16 kk⟩ : Nd) a6 n6 c6) ⟨_, _, rfl, rfl, rfl⟩ (info_ndC _ _ _ _ hNl) (by rw [hcs, ndC_size _ _ _ _ hNl]) (ndC_one _ _ _ _) ?_
  rintro wz hn hu
  refine hK.out _ _ ?_ (fun hld => ?_)
  ·exact hld.put (ndC_size _ _ _ _ hNl) hn hu (Nat.le_refl _)
  clear hK K
  try simp only [Act.put]
  refine Rg.tk (i := 13) rfl ?_
  try simp only [Act.put, Rg.s]
  refine wpAnyH_done (by kernel_rfl) ?_ _
  refine NoPanic.normal ?_
  go_wp2
  exact bodyPost_ret (res_nd1 rfl _ rfl hn hNl) rfl ⟨(⟨2, pathL y'.s, eB, one16 kk⟩ : Nd), a6, n6, c6, false, rfl, .inr ⟨rfl, HF.out his⟩, hld.bs.weak (by omega), hNl, hld.be⟩
 | true =>
  obtain ⟨M, hM⟩ : ∃ M, mayW refP (⟨2, pathL y'.s, eB, one16 kk⟩ : Nd) = M := ⟨_, rfl⟩
  rw [hM] at hMay
  have HMay := hid hMay
  clear hMay
  cases M with
  | false =>
   refine wp_region_noPanic ?_
   refine wp_region_held_drew (S := fun w' => SG w.heap.size (w3.heap.size + 1) (⟨2, pathL y'.s, eB, one16 kk⟩ : Nd) a6 n6 c6 w w') (by kernel_rfl) (⟨Nat.lt_succ_of_lt HR3.out, HN8.out.drew, ⟨_, rfl, HO8.out.drew⟩, HX8.out.below (below_drewN (Below.refl _ _) 1), HB8.out.drew⟩) (fun hld => ?_)
   refine Rg.tk (i := 0) rfl ?_ (hy := by intro wz hSw; (refine op_load_nd hSw.nd hNl ?_; exact ⟨_, rfl, rfl⟩))
   try simp only [Act.put, Rg.s]
   refine Rg.tk (i := 1) rfl ?_
   try simp only [Act.put, Rg.s]
   refine Rg.tk (i := 2) rfl ?_
   try simp only [Act.put, Rg.s]
   refine Rg.tk (i := 3) rfl ?_ (hy := by intro wz hSw; (refine op_load_nd hSw.nd hNl ?_; exact ⟨_, rfl, rfl⟩))
   try simp only [Act.put, Rg.s]
   refine Rg.rd (i := 4) rfl fun K hK => ?_
   have hbs := hld.bs.1
   go_simp
   go_at_call 51
   (with_reducible refine (HMay.out _ hbs).mono ?_)
   rintro e wx0 ⟨rfl, hbx⟩
   refine hK.out _ _ ?_ (fun hld => ?_)
   ·exact hld.keep hbx
   clear hK K hbx
   try simp only [Act.put, Rg.s]
   refine Rg.tk (i := 5) rfl ?_
   try simp only [Act.put, Rg.s]
   refine Rg.tk (i := 6) rfl ?_
   try simp only [Act.put, Rg.s]
   refine Rg.takeL (i := 7) (v := undef) rfl (by kernel_rfl) (by kernel_rfl) (by kernel_rfl) (fun _ _ _ h => h) (Or.inr ⟨by rfl, rfl⟩) (by assumption) ?_
   try simp only [Act.put, Rg.s]
   refine Rg.takeL (i := 8) (v := undef) rfl (by kernel_rfl) (by kernel_rfl) (by kernel_rfl) (fun _ _ _ h => h) (Or.inr ⟨by rfl, rfl⟩) (by assumption) ?_
   try simp only [Act.put, Rg.s]
   refine Rg.takeL (i := 9) (v := undef) rfl (by kernel_rfl) (by kernel_rfl) (by kernel_rfl) (fun _ _ _ h => h) (Or.inr ⟨by rfl, rfl⟩) (by assumption) ?_
   try simp only [Act.put, Rg.s]
   refine Rg.takeL (i := 10) (v := undef) rfl (by kernel_rfl) (by kernel_rfl) (by kernel_rfl) (fun _ _ _ h => h) (Or.inr ⟨by rfl, rfl⟩) (by assumption) ?_
   try simp only [Act.put, Rg.s]
   refine Rg.tk (i := 11) rfl ?_
   try simp only [Act.put, Rg.s]
   refine Rg.rd (i := 12) rfl fun K hK => ?_
   obtain ⟨cs, hcs, hOr⟩ := hld.res
   refine Rg.meetStore (by rfl) hOr 58 (ndC (⟨2, pathL y'.s, eB, one16 kk⟩ : Nd) a6 n6 c6) ⟨_, _, rfl, rfl, rfl⟩ (info_ndC _ _ _ _ hNl) (by rw [hcs, ndC_size _ _ _ _ hNl]) (ndC_one _ _ _ _) ?_
   rintro wz hn hu
   refine hK.out _ _ ?_ (fun hld => ?_)
   ·exact hld.put (ndC_size _ _ _ _ hNl) hn hu (Nat.le_refl _)
   clear hK K
   try simp only [Act.put]
   refine Rg.tk (i := 13) rfl ?_
   try simp only [Act.put, Rg.s]
   refine wpAnyH_done (by kernel_rfl) ?_ _
   refine NoPanic.normal ?_
   go_wp2
   exact bodyPost_ret (res_nd1 rfl _ rfl hn hNl) rfl ⟨(⟨2, pathL y'.s, eB, one16 kk⟩ : Nd), a6, n6, c6, false, rfl, .inr ⟨rfl, HG.out.trans (if_neg (fun h => absurd (hM.symm.trans h.1) (by decide)))⟩, hld.bs.weak (by omega), hNl, hld.be⟩
  | true =>
   have HPut := hid (hPut hM)
   clear hPut
   refine wp_region_noPanic ?_
   refine wp_region_held_drew (S := fun w' => SG w.heap.size (w3.heap.size + 1) (⟨2, pathL y'.s, eB, one16 kk⟩ : Nd) a6 n6 c6 w w') (by kernel_rfl) (⟨Nat.lt_succ_of_lt HR3.out, HN8.out.drew, ⟨_, rfl, HO8.out.drew⟩, HX8.out.below (below_drewN (Below.refl _ _) 1), HB8.out.drew⟩) (fun hld => ?_)
   refine Rg.tk (i := 0) rfl ?_ (hy := by intro wz hSw; (refine op_load_nd hSw.nd hNl ?_; exact ⟨_, rfl, rfl⟩))
   try simp only [Act.put, Rg.s]
   refine Rg.tk (i := 1) rfl ?_
   try simp only [Act.put, Rg.s]
   refine Rg.tk (i := 2) rfl ?_
   try simp only [Act.put, Rg.s]
   refine Rg.tk (i := 3) rfl ?_ (hy := by intro wz hSw; (refine op_load_nd hSw.nd hNl ?_; exact ⟨_, rfl, rfl⟩))
   try simp only [Act.put, Rg.s]
   refine Rg.rd (i := 4) rfl fun K hK => ?_
   have hbs := hld.bs.1
   go_simp
   go_at_call 51
   (with_reducible refine (HMay.out _ hbs).mono ?_)
   rintro e wx0 ⟨rfl, hbx⟩
   refine hK.out _ _ ?_ (fun hld => ?_)
   ·exact hld.keep hbx
   clear hK K hbx
   try simp only [Act.put, Rg.s]
   refine Rg.tk (i := 5) rfl ?_
   try simp only [Act.put, Rg.s]
   refine Rg.tk (i := 6) rfl ?_
   try simp only [Act.put, Rg.s]
   refine Rg.tk (i := 7) rfl ?_ (hy := by intro wz hSw; (refine op_load_nd hSw.nd hNl ?_; exact ⟨_, rfl, rfl⟩))
   try simp only [Act.put, Rg.s]
   refine Rg.tk (i := 9) rfl ?_
   try simp only [Act.put, Rg.s]
   refine Rg.rd (i := 8) rfl fun K hK => ?_
   have hbs := hld.bs.1
   go_simp
   go_at_call 41
   (with_reducible refine (HPut.out _ hbs).mono ?_)
   rintro e wx1 ⟨rfl, hbx⟩
   refine hK.out _ _ ?_ (fun hld => ?_)
   ·exact hld.keep hbx
   clear hK K hbx
   try simp only [Act.put, Rg.s]
   refine Rg.tk (i := 10) rfl ?_ (hy := by intro wz hSw; (refine op_eq_st T s ?_; exact ⟨_, _, rfl, rfl, rfl⟩))
   try simp only [Act.put, Rg.s]
   refine Rg.tk (i := 11) rfl ?_
   try simp only [Act.put, Rg.s]
   refine Rg.rd (i := 12) rfl fun K hK => ?_
   obtain ⟨cs, hcs, hOr⟩ := hld.res
   refine Rg.meetStore (by rfl) hOr 58 (ndC (⟨2, pathL y'.s, eB, one16 kk⟩ : Nd) a6 n6 c6) ⟨_, _, rfl, rfl, rfl⟩ (info_ndC _ _ _ _ hNl) (by rw [hcs, ndC_size _ _ _ _ hNl]) (ndC_one _ _ _ _) ?_
   rintro wz hn hu
   refine hK.out _ _ ?_ (fun hld => ?_)
   ·exact hld.put (ndC_size _ _ _ _ hNl) hn hu (Nat.le_refl _)
   clear hK K
   try simp only [Act.put]
   refine Rg.tk (i := 13) rfl ?_
   try simp only [Act.put, Rg.s]
   refine wpAnyH_done (by kernel_rfl) ?_ _
   refine NoPanic.normal ?_
   go_wp2
   refine bodyPost_ret (res_nd1 rfl _ rfl hn hNl) rfl ⟨(⟨2, pathL y'.s, eB, one16 kk⟩ : Nd), a6, n6, c6, decide (T = s), rfl, ?_, hld.bs.weak (by omega), hNl, hld.be⟩
   by_cases he : T = s
   ·exact .inl ⟨decide_eq_true he, HG.out.trans (if_pos ⟨hM, HT.out.1 he⟩)⟩
   ·exact .inr ⟨decide_eq_false he, HG.out.trans (if_neg (fun h => he (HT.out.2 h.2)))⟩
end No
end
end Go.Proofs.YtgolhnfkmmajpaaGreatDoor
