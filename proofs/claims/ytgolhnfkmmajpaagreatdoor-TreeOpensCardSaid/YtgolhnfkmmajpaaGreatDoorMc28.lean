/-
 The plain answer's Get: two items, a path or a leaf.
-/
import Derived.Test.YtgolhnfkmmajpaaGreatDoorMc27
import Derived.Deep.DeepCutAuto
open Go.Lib (hid)
set_option linter.unusedSimpArgs false
set_option linter.unusedVariables false
set_option maxHeartbeats 40000000
set_option maxRecDepth 100000
namespace Go.Proofs.YtgolhnfkmmajpaaGreatDoor
section
open Go.RowKit
namespace No
open Rl Ni
theorem rget_bad (s : ByteArray) (hs : s.size ≤ 1000000) (x : It) (k : Nat) (hr : readL s.data.toList 0 0 = .ok (x, s.size, k)) (hw : wholeL s.data.toList = .ok x) (h2 : x.xs.length = 2) (hbad : (x.xs.getD 0 it0).s.size = 0 ∨ Bad (x.xs.getD 0 it0).s) (w : World) : Calls Tryz.prog 23 #[.string s] w (ReadPost w (getP s.data.toList)) := by
 have hsl : s.data.toList.length ≤ 1000000 := by rw [len_s]; omega
 rw [get_bad hsl hw h2 hbad]
 obtain ⟨y, hy⟩ : ∃ y, x.xs.getD 0 it0 = y := ⟨_, rfl⟩
 obtain ⟨z, hz⟩ : ∃ z, x.xs.getD 1 it0 = z := ⟨_, rfl⟩
 have hy1 : x.xs[0]? = some y := by rw [← hy]; exact getD_at (by omega)
 have hz1 : x.xs[1]? = some z := by rw [← hz]; exact getD_at (by omega)
 have hGy := good_of hsl hw y (List.mem_of_getElem? hy1)
 have hGz := good_of hsl hw z (List.mem_of_getElem? hz1)
 rw [hy] at hbad
 obtain ⟨w2, hw2⟩ : ∃ w2, w2 = w.alloc (.cells (ndC nd0 none 0 0) 58) := ⟨_, rfl⟩
 have hs2 : w2.heap.size = w.heap.size + 1 := by rw [hw2]; simp
 have HO : Hid (OwnN w2 w.heap.size nd0 none 0 0) := hid (by rw [hw2]; exact Rg.Own.new _ _ _)
 have HB2 : Hid (Below w.heap.size w w2) := hid (by rw [hw2]; exact al1 _ _)
 have HW := hid (rread_ok hs hr w2)
 have Hy := hid hy1
 have Hz := hid hz1
 have HPth := hid (fun w => rpath_any y.s hGy.2.2.2 w)
 clear hr hw hy hz hy1 hz1
 subst hw2
 go_enter Tryz.func23, Tryz.ntmps23
 go_wp2_with (refine Rg.run rfl _ _ (run_alloc_nd _ _ _ w.heap.size rfl rfl) ?_)
 with_reducible refine HW.out.mono ?_
 rintro e w3 ⟨a3, n3, c3, lI, rfl, hI3, hb3⟩
 rw [hs2] at hI3
 obtain ⟨hN45, hC4, hO4, hB4, hall⟩ := get_boxes w w3 (HO.out.below hb3) (bst HB2.out hb3) x a3 n3 c3
 have hn3 : n3 = x.xs.length := hI3.len.symm
 obtain rfl : n3 = 2 := by omega
 have hm := hI3.max
 have hnc := hI3.le
 unfold maxLen at hm
 obtain ⟨y', b, off, A0, N0, C0, hy, rfl, hBb, hblt, hL, _⟩ := its_at hI3 0 (by omega)
 obtain rfl : y' = y := Option.some.inj (hy.symm.trans Hy.out)
 obtain ⟨z', b', off', A, N, C, hz, e, _, hblt2, hLz, hIz⟩ := its_at hI3 1 (by omega)
 obtain ⟨rfl, rfl, _⟩ : b = b' ∧ off = off' ∧ True := by cases e; exact ⟨rfl, rfl, trivial⟩
 obtain rfl : z' = z := Option.some.inj (hz.symm.trans Hz.out)
 rw [Nat.zero_mul, Nat.add_zero] at hL
 rw [Nat.one_mul] at hLz
 have HN45 := hid hN45
 have hW3 : Below w3.heap.size w3 (((w3.alloc (.cells #[.bool x.l, .string x.s, .slice (some ⟨b, off, none⟩) 2 c3] 101)).alloc (.cells (ndC nd0 none 0 0) 58)).setRow (w3.heap.size + 1) (ndC ⟨3, [], eB, zks⟩ none 0 0)) := (hall _ rfl).2.2.2.1
 obtain ⟨e0, e1, e2⟩ := hL.stays hW3 hblt
 have hC5 := (hall _ rfl).2.1
 have HA := hid hall
 have HLy := hid hL
 have HLz := hid hLz
 have HIz := hid hIz
 have HB3 := hid (bst HB2.out hb3)
 have HR3 : Hid (w.heap.size < w3.heap.size) := hid (HO.out.below hb3).1
 clear hb3 HW hI3 hN45 hall hO4 hB4 hn3 hs2 hy hz e hL hLz hIz hW3 HO HB2
 go_wp2_with (first
  | (refine Rg.run rfl _ _ (run_alloc_nd _ _ _ (w3.heap.size + 1) (by simp) rfl) ?_)
  | (refine Rg.run rfl _ _ (op_build (built_kd 3) ?_) ?_; · exact ⟨_, rfl, rfl⟩)
  | (refine wpl_store_nd HN45.out rfl ⟨3, [], eB, zks⟩ none 0 0 rfl rfl _ _ rfl rfl rfl rfl ?_))
 obtain ⟨w5, hw5⟩ : ∃ w5, w5 = ((w3.alloc (.cells #[.bool x.l, .string x.s, .slice (some ⟨b, off, none⟩) 2 c3] 101)).alloc (.cells (ndC nd0 none 0 0) 58)).setRow (w3.heap.size + 1) (ndC ⟨3, [], eB, zks⟩ none 0 0) := ⟨_, rfl⟩
 obtain ⟨hO5, hc5, hN5, hb5, hs5⟩ := HA.out w5 hw5
 rw [← hw5]
 rw [← hw5] at e0 e1 e2 hC5
 clear HA HN45 hw5 hC4
 refine (HPth.out w5).mono ?_
 rintro e w6 ⟨a6, n6, c6, l6, lf6, ok6, rfl, hx6, hd6, hb6⟩
 have HO6 := hid (hO5.below hb6)
 have HN6 := hid (hN5.below hb6)
 have hB35 := bst hb5 hb6
 have HB6 := hid (bst HB3.out hB35)
 have hLy6 := HLy.out.stays hB35 hblt
 obtain ⟨e0, e1, e2⟩ := hLy6
 have hLz6 := HLz.out.stays hB35 hblt2
 obtain ⟨f0, f1, f2⟩ := hLz6
 have hc6 : w6.cell? ⟨w3.heap.size, 2, none⟩ = some (.slice (some ⟨b, off, none⟩) 2 c3) := (Below.cell (p := ⟨w3.heap.size, 2, none⟩) hb6 (by show w3.heap.size < _; omega)).trans hc5
 have HX6 : Hid (BsF (w3.heap.size + 2) w6 a6 n6 c6 l6) := hid (hx6.weak (by omega))
 have HIz6 := hid (HIz.out.stays hB35)
 have hsz6 := hb6.size
 obtain rfl : ok6 = false := by
  rcases hd6 with ⟨_, h0, hB, _⟩ | ⟨h, _⟩
  ·exact absurd hbad (fun h => h.elim h0 hB)
  ·exact h
 clear hx6 hb6 hB35 hO5 hN5 hb5 hd6 hc5 HPth
 go_wp2_with (first
  | (refine Rg.run rfl _ _ (op_build built0 ?_) ?_; · exact ⟨_, rfl, rfl⟩)
  | (refine wpl_store_nd HO6.out rfl nd0 none 0 0 rfl rfl _ _ rfl rfl rfl rfl ?_))
 exact bodyPost_ret (res_nd1 rfl _ rfl (own_rowN HO6.out) rfl) rfl ⟨nd0, none, 0, 0, false, rfl, .inr ⟨rfl, rfl⟩, BsF.nil _ _, rfl, below_rowN HB6.out (Nat.le_refl _) _⟩
theorem rget_leaf (s : ByteArray) (hs : s.size ≤ 1000000) (x : It) (k : Nat) (hr : readL s.data.toList 0 0 = .ok (x, s.size, k)) (hw : wholeL s.data.toList = .ok x) (h2 : x.xs.length = 2) (hbad : ¬ ((x.xs.getD 0 it0).s.size = 0 ∨ Bad (x.xs.getD 0 it0).s)) (hlf : leafB (x.xs.getD 0 it0).s = true) (hs0 : 0 < s.size) (hR : ∀ k : ByteArray, k.size ≤ 1000000 → (k.size < 32 → k.size < s.size) → RRefC k) (w : World) : Calls Tryz.prog 23 #[.string s] w (ReadPost w (getP s.data.toList)) := by
 have hsl : s.data.toList.length ≤ 1000000 := by rw [len_s]; omega
 have HG := hid (get_leaf hsl hw h2 hbad hlf)
 obtain ⟨G, hGG⟩ : ∃ G, getP s.data.toList = G := ⟨_, rfl⟩
 rw [hGG] at HG ⊢
 clear hGG
 obtain ⟨y, hy⟩ : ∃ y, x.xs.getD 0 it0 = y := ⟨_, rfl⟩
 obtain ⟨z, hz⟩ : ∃ z, x.xs.getD 1 it0 = z := ⟨_, rfl⟩
 have hy1 : x.xs[0]? = some y := by rw [← hy]; exact getD_at (by omega)
 have hz1 : x.xs[1]? = some z := by rw [← hz]; exact getD_at (by omega)
 have hGy := good_of hsl hw y (List.mem_of_getElem? hy1)
 have hGz := good_of hsl hw z (List.mem_of_getElem? hz1)
 rw [hy] at hbad hlf HG
 rw [hz] at HG
 obtain ⟨w2, hw2⟩ : ∃ w2, w2 = w.alloc (.cells (ndC nd0 none 0 0) 58) := ⟨_, rfl⟩
 have hs2 : w2.heap.size = w.heap.size + 1 := by rw [hw2]; simp
 have HO : Hid (OwnN w2 w.heap.size nd0 none 0 0) := hid (by rw [hw2]; exact Rg.Own.new _ _ _)
 have HB2 : Hid (Below w.heap.size w w2) := hid (by rw [hw2]; exact al1 _ _)
 have HW := hid (rread_ok hs hr w2)
 have Hy := hid hy1
 have Hz := hid hz1
 have HPth := hid (fun w => rpath_any y.s hGy.2.2.2 w)
 clear hr hw hy hz hy1 hz1
 subst hw2
 go_enter Tryz.func23, Tryz.ntmps23
 go_wp2_with (refine Rg.run rfl _ _ (run_alloc_nd _ _ _ w.heap.size rfl rfl) ?_)
 with_reducible refine HW.out.mono ?_
 rintro e w3 ⟨a3, n3, c3, lI, rfl, hI3, hb3⟩
 rw [hs2] at hI3
 obtain ⟨hN45, hC4, hO4, hB4, hall⟩ := get_boxes w w3 (HO.out.below hb3) (bst HB2.out hb3) x a3 n3 c3
 have hn3 : n3 = x.xs.length := hI3.len.symm
 obtain rfl : n3 = 2 := by omega
 have hm := hI3.max
 have hnc := hI3.le
 unfold maxLen at hm
 obtain ⟨y', b, off, A0, N0, C0, hy, rfl, hBb, hblt, hL, _⟩ := its_at hI3 0 (by omega)
 obtain rfl : y' = y := Option.some.inj (hy.symm.trans Hy.out)
 obtain ⟨z', b', off', A, N, C, hz, e, _, hblt2, hLz, hIz⟩ := its_at hI3 1 (by omega)
 obtain ⟨rfl, rfl, _⟩ : b = b' ∧ off = off' ∧ True := by cases e; exact ⟨rfl, rfl, trivial⟩
 obtain rfl : z' = z := Option.some.inj (hz.symm.trans Hz.out)
 rw [Nat.zero_mul, Nat.add_zero] at hL
 rw [Nat.one_mul] at hLz
 have HN45 := hid hN45
 have hW3 : Below w3.heap.size w3 (((w3.alloc (.cells #[.bool x.l, .string x.s, .slice (some ⟨b, off, none⟩) 2 c3] 101)).alloc (.cells (ndC nd0 none 0 0) 58)).setRow (w3.heap.size + 1) (ndC ⟨3, [], eB, zks⟩ none 0 0)) := (hall _ rfl).2.2.2.1
 obtain ⟨e0, e1, e2⟩ := hL.stays hW3 hblt
 have hC5 := (hall _ rfl).2.1
 have HA := hid hall
 have HLy := hid hL
 have HLz := hid hLz
 have HIz := hid hIz
 have HB3 := hid (bst HB2.out hb3)
 have HR3 : Hid (w.heap.size < w3.heap.size) := hid (HO.out.below hb3).1
 clear hb3 HW hI3 hN45 hall hO4 hB4 hn3 hs2 hy hz e hL hLz hIz hW3 HO HB2
 go_wp2_with (first
  | (refine Rg.run rfl _ _ (run_alloc_nd _ _ _ (w3.heap.size + 1) (by simp) rfl) ?_)
  | (refine Rg.run rfl _ _ (op_build (built_kd 3) ?_) ?_; · exact ⟨_, rfl, rfl⟩)
  | (refine wpl_store_nd HN45.out rfl ⟨3, [], eB, zks⟩ none 0 0 rfl rfl _ _ rfl rfl rfl rfl ?_))
 obtain ⟨w5, hw5⟩ : ∃ w5, w5 = ((w3.alloc (.cells #[.bool x.l, .string x.s, .slice (some ⟨b, off, none⟩) 2 c3] 101)).alloc (.cells (ndC nd0 none 0 0) 58)).setRow (w3.heap.size + 1) (ndC ⟨3, [], eB, zks⟩ none 0 0) := ⟨_, rfl⟩
 obtain ⟨hO5, hc5, hN5, hb5, hs5⟩ := HA.out w5 hw5
 rw [← hw5]
 rw [← hw5] at e0 e1 e2 hC5
 clear HA HN45 hw5 hC4
 refine (HPth.out w5).mono ?_
 rintro e w6 ⟨a6, n6, c6, l6, lf6, ok6, rfl, hx6, hd6, hb6⟩
 have HO6 := hid (hO5.below hb6)
 have HN6 := hid (hN5.below hb6)
 have hB35 := bst hb5 hb6
 have HB6 := hid (bst HB3.out hB35)
 have hLy6 := HLy.out.stays hB35 hblt
 obtain ⟨e0, e1, e2⟩ := hLy6
 have hLz6 := HLz.out.stays hB35 hblt2
 obtain ⟨f0, f1, f2⟩ := hLz6
 have hc6 : w6.cell? ⟨w3.heap.size, 2, none⟩ = some (.slice (some ⟨b, off, none⟩) 2 c3) := (Below.cell (p := ⟨w3.heap.size, 2, none⟩) hb6 (by show w3.heap.size < _; omega)).trans hc5
 have HX6 : Hid (BsF (w3.heap.size + 2) w6 a6 n6 c6 l6) := hid (hx6.weak (by omega))
 have HIz6 := hid (HIz.out.stays hB35)
 have hsz6 := hb6.size
 obtain ⟨rfl, rfl, rfl⟩ : ok6 = true ∧ l6 = pathL y'.s ∧ lf6 = true := by
  rcases hd6 with ⟨h, _, _, h1, h3⟩ | ⟨_, h⟩
  ·exact ⟨h, h1, h3.trans hlf⟩
  ·exact absurd h hbad
 have hyl : y'.l = false := congrArg It.l (text_of hGy.1 (fun h => hbad (.inl h)))
 rw [hyl] at e0
 have hyf : (!true) = false := rfl
 have hp6 := HX6.out.1.len
 clear hx6 hb6 hB35 hO5 hN5 hb5 hd6 hc5 HPth hbad hlf
 have hlt := @leaf_text y' z' 0 hGz.1
 have hNl : (leafN y' z').ks.length = 16 := zks_length
 have hMay := fun w' (h : IsBs w' a6 n6 c6 (leafN y' z').p) => rmay_any (leafN y' z') a6 n6 c6 zks_length w' h (Nat.le_trans hGz.2.2.2 (by unfold maxLen; omega)) (fun k hk => by
  have e : k = eB := List.eq_of_mem_replicate (show k ∈ List.replicate 16 eB from hk)
  rw [e]
  exact hR eB (by decide) (fun _ => hs0))
 obtain ⟨M, hM⟩ : ∃ M, mayW refP (leafN y' z') = M := ⟨_, rfl⟩
 rw [hM] at hMay hlt
 have HMay := hid hMay
 have HF := hid hyf
 clear hMay hyf hR
 obtain ⟨w7, hw7⟩ : ∃ w7, w7 = w6.setRow (w3.heap.size + 1) (ndC (leafN y' z') a6 n6 c6) := ⟨_, rfl⟩
 have HN7 : Hid (OwnN w7 (w3.heap.size + 1) (leafN y' z') a6 n6 c6) := hid (by rw [hw7]; exact own_rowN HN6.out)
 have hu7 : Rg.Upd w6 (w3.heap.size + 1) w7 := by rw [hw7]; exact Rg.Upd.set _ _ _
 have HO7 := hid (HO6.out.upd hu7 (by have := HR3.out; omega))
 have HB7 := hid (hu7.below HB6.out (by have := HR3.out; omega))
 have HX7 := hid (HX6.out.upd hu7 (by omega))
 have g6 := (World.cell?_of_block (a := ⟨w3.heap.size, 2, none⟩) (hu7.block w3.heap.size (by omega))).trans hc6
 have f7 := (World.cell?_of_block (a := ⟨b, off + 3, none⟩) (hu7.block b (by omega))).trans f0
 have hlt3 := HR3.out
 clear hu7 f0
 go_wp2_with (first
  | (refine Rg.run rfl _ _ (op_build (built_leaf a6 n6 c6 (pathL y'.s) z'.s) ?_) ?_; · exact ⟨_, rfl, rfl⟩)
  | (refine wpl_store_nd HN6.out rfl (leafN y' z') a6 n6 c6 rfl rfl _ _ rfl rfl rfl rfl ?_))
 rw [← hw7]
 clear hw7
 have f0 := f7
 clear f7
 cases hzl : z'.l with
 | true =>
  have hM : mayW refP (leafN y' z') = false := by
   cases M with
   | false => exact hM
   | true => exact absurd ((hlt rfl).symm.trans hzl) (by decide)
  rw [hzl] at f0
  refine wp_region_noPanic ?_
  refine wp_region_held_drew (S := fun w' => SG w.heap.size (w3.heap.size + 1) (leafN y' z') a6 n6 c6 w w' ∧ w'.cell? ⟨w3.heap.size, 2, none⟩ = some (.slice (some ⟨b, off, none⟩) 2 c3) ∧ w'.cell? ⟨b, off + 3, none⟩ = some (.bool true)) (by kernel_rfl) (⟨⟨Nat.lt_succ_of_lt HR3.out, HN7.out.drew, ⟨_, rfl, HO7.out.drew⟩, HX7.out.below (below_drewN (Below.refl _ _) 1), HB7.out.drew⟩, g6, f0⟩) (fun hld => ?_)
  refine Rg.tk (i := 0) rfl ?_ (hy := by intro wz hSw; (refine op_load_nd hSw.1.nd hNl ?_; exact ⟨_, rfl, rfl⟩))
  try simp only [Act.put, Rg.s]
  refine Rg.tk (i := 1) rfl ?_
  try simp only [Act.put, Rg.s]
  refine Rg.tk (i := 2) rfl ?_ (hy := by intro wz hSw; (have q0 := hSw.2.1; go_simp <;> with_reducible rfl))
  try simp only [Act.put, Rg.s]
  refine Rg.tk (i := 3) rfl ?_
  try simp only [Act.put, Rg.s]
  refine Rg.tk (i := 4) rfl ?_
  try simp only [Act.put, Rg.s]
  refine Rg.tk (i := 5) rfl ?_ (hy := by intro wz hSw; (have q0 := hSw.2.2; go_simp <;> with_reducible rfl))
  try simp only [Act.put, Rg.s]
  refine Rg.tk (i := 6) rfl ?_
  try simp only [Act.put, Rg.s]
  refine Rg.tk (i := 7) rfl ?_
  try simp only [Act.put, Rg.s]
  refine Rg.takeL (i := 8) (v := undef) rfl (by kernel_rfl) (by kernel_rfl) (by kernel_rfl) (fun _ _ _ h => h) (Or.inr ⟨by rfl, rfl⟩) (by assumption) ?_
  try simp only [Act.put, Rg.s]
  refine Rg.takeL (i := 9) (v := undef) rfl (by kernel_rfl) (by kernel_rfl) (by kernel_rfl) (fun _ _ _ h => h) (Or.inr ⟨by rfl, rfl⟩) (by assumption) ?_
  try simp only [Act.put, Rg.s]
  refine Rg.tk (i := 10) rfl ?_
  try simp only [Act.put, Rg.s]
  refine Rg.rd (i := 11) rfl fun K hK => ?_
  obtain ⟨cs, hcs, hOr⟩ := hld.1.res
  refine Rg.meetStore (by rfl) hOr 58 (ndC (leafN y' z') a6 n6 c6) ⟨_, _, rfl, rfl, rfl⟩ (info_ndC _ _ _ _ hNl) (by rw [hcs, ndC_size _ _ _ _ hNl]) (ndC_one _ _ _ _) ?_
  rintro wz hn hu
  refine hK.out _ _ ?_ (fun hld => ?_)
  ·exact ⟨hld.1.put (ndC_size _ _ _ _ hNl) hn hu (Nat.le_refl _), (World.cell?_of_block (hu.block w3.heap.size (by omega))).trans hld.2.1, (World.cell?_of_block (hu.block b (by omega))).trans hld.2.2⟩
  clear hK K
  try simp only [Act.put]
  refine Rg.tk (i := 12) rfl ?_
  try simp only [Act.put, Rg.s]
  refine wpAnyH_done (by kernel_rfl) ?_ _
  refine NoPanic.normal ?_
  go_wp2
  exact bodyPost_ret (res_nd1 rfl _ rfl hn hNl) rfl ⟨leafN y' z', a6, n6, c6, false, rfl, .inr ⟨rfl, HG.out.trans (if_neg (by rw [hM]; exact Bool.false_ne_true))⟩, hld.1.bs.weak (by omega), zks_length, hld.1.be⟩
 | false =>
  rw [hzl] at f0
  refine wp_region_noPanic ?_
  refine wp_region_held_drew (S := fun w' => SG w.heap.size (w3.heap.size + 1) (leafN y' z') a6 n6 c6 w w' ∧ w'.cell? ⟨w3.heap.size, 2, none⟩ = some (.slice (some ⟨b, off, none⟩) 2 c3) ∧ w'.cell? ⟨b, off + 3, none⟩ = some (.bool false)) (by kernel_rfl) (⟨⟨Nat.lt_succ_of_lt HR3.out, HN7.out.drew, ⟨_, rfl, HO7.out.drew⟩, HX7.out.below (below_drewN (Below.refl _ _) 1), HB7.out.drew⟩, g6, f0⟩) (fun hld => ?_)
  refine Rg.tk (i := 0) rfl ?_ (hy := by intro wz hSw; (refine op_load_nd hSw.1.nd hNl ?_; exact ⟨_, rfl, rfl⟩))
  try simp only [Act.put, Rg.s]
  refine Rg.tk (i := 1) rfl ?_
  try simp only [Act.put, Rg.s]
  refine Rg.tk (i := 2) rfl ?_ (hy := by intro wz hSw; (have q0 := hSw.2.1; go_simp <;> with_reducible rfl))
  try simp only [Act.put, Rg.s]
  refine Rg.tk (i := 3) rfl ?_
  try simp only [Act.put, Rg.s]
  refine Rg.tk (i := 4) rfl ?_
  try simp only [Act.put, Rg.s]
  refine Rg.tk (i := 5) rfl ?_ (hy := by intro wz hSw; (have q0 := hSw.2.2; go_simp <;> with_reducible rfl))
  try simp only [Act.put, Rg.s]
  refine Rg.tk (i := 6) rfl ?_
  try simp only [Act.put, Rg.s]
  refine Rg.tk (i := 7) rfl ?_
  try simp only [Act.put, Rg.s]
  refine Rg.tk (i := 8) rfl ?_ (hy := by intro wz hSw; (refine op_load_nd hSw.1.nd hNl ?_; exact ⟨_, rfl, rfl⟩))
  try simp only [Act.put, Rg.s]
  refine Rg.rd (i := 9) rfl fun K hK => ?_
  have hbs := hld.1.bs.1
  go_simp
  go_at_call 51
  (with_reducible refine (HMay.out _ hbs).mono ?_)
  rintro e wx0 ⟨rfl, hbx⟩
  refine hK.out _ _ ?_ (fun hld => ?_)
  ·exact ⟨hld.1.keep hbx, (Below.cell (p := ⟨w3.heap.size, 2, none⟩) hbx (World.block_lt_of_cell? _ _ hld.2.1)).trans hld.2.1, (Below.cell (p := ⟨b, off + 3, none⟩) hbx (World.block_lt_of_cell? _ _ hld.2.2)).trans hld.2.2⟩
  clear hK K hbx
  try simp only [Act.put, Rg.s]
  refine Rg.tk (i := 10) rfl ?_
  try simp only [Act.put, Rg.s]
  refine Rg.rd (i := 11) rfl fun K hK => ?_
  obtain ⟨cs, hcs, hOr⟩ := hld.1.res
  refine Rg.meetStore (by rfl) hOr 58 (ndC (leafN y' z') a6 n6 c6) ⟨_, _, rfl, rfl, rfl⟩ (info_ndC _ _ _ _ hNl) (by rw [hcs, ndC_size _ _ _ _ hNl]) (ndC_one _ _ _ _) ?_
  rintro wz hn hu
  refine hK.out _ _ ?_ (fun hld => ?_)
  ·exact ⟨hld.1.put (ndC_size _ _ _ _ hNl) hn hu (Nat.le_refl _), (World.cell?_of_block (hu.block w3.heap.size (by omega))).trans hld.2.1, (World.cell?_of_block (hu.block b (by omega))).trans hld.2.2⟩
  clear hK K
  try simp only [Act.put]
  refine Rg.tk (i := 12) rfl ?_
  try simp only [Act.put, Rg.s]
  refine wpAnyH_done (by kernel_rfl) ?_ _
  refine NoPanic.normal ?_
  go_wp2
  refine bodyPost_ret (res_nd1 rfl _ rfl hn hNl) rfl ⟨leafN y' z', a6, n6, c6, M, rfl, ?_, hld.1.bs.weak (by omega), zks_length, hld.1.be⟩
  cases M
  ·exact .inr ⟨rfl, HG.out.trans (if_neg (by rw [hM]; exact Bool.false_ne_true))⟩
  ·exact .inl ⟨rfl, HG.out.trans (if_pos hM)⟩
end No
end
end Go.Proofs.YtgolhnfkmmajpaaGreatDoor
