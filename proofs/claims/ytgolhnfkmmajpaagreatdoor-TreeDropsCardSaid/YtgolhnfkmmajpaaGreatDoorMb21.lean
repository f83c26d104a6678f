/-
 The contract of withAlong: a leaf, or an extension, that has a value at the end of a way.
-/
import Derived.Test.YtgolhnfkmmajpaaGreatDoorMb20
import Derived.Test.YtgolhnfkmmajpaaGreatDoorMb16
open Go.Lib (hid)
set_option linter.unusedSimpArgs false
set_option linter.unusedVariables false
set_option maxHeartbeats 40000000
set_option maxRecDepth 100000
namespace Go.Proofs.YtgolhnfkmmajpaaGreatDoor
section
open Go.RowKit
namespace Tm
open Tr Ni Pk
theorem parted {q p : Pa} (hl : q.length ≤ p.length) (h : ¬ q <+: p) : cp q p < q.length ∧ q.getD (cp q p) 0 ≠ p.getD (cp q p) 0 := by
 refine ⟨cp_not h, ?_⟩
 have h2 : ¬ p <+: q := fun g => h (by rw [g.eq_of_length (Nat.le_antisymm g.length_le hl)]; exact List.prefix_rfl)
 obtain ⟨s, a, b, q', p', e1, e2, hab, hc⟩ := cp_parts q p h h2
 rw [hc, e1, e2]
 have hg : ∀ (x : UInt8) (r : Pa), (s ++ x :: r).getD s.length 0 = x := fun x r => by simp [List.getD]
 rw [hg, hg]
 exact hab
structure Ahead (M : Mp) (w w2 : World) (b : Nat) (t : T) (pa : Option Addr) (pn pc : Nat) : Prop where
 b2 : Below w.heap.size w w2
 i2 : Inv M w2
 x2 : Bx M w2 (w.heap.size + 1) #[.pointer none] 25
 c0 : w2.cell? ⟨w.heap.size, 0, none⟩ = some (.pointer (some ⟨b, 0, none⟩))
 c1 : w2.cell? ⟨b, 1, none⟩ = some (.slice pa pn pc)
 p : Bs M w2 pa pn pc (pathT t)
theorem ahead (M : Mp) (b : Nat) (t : T) (hm : M.at_ b = some t) (w : World) (hi : Inv M w) : ∃ w2 pa pn pc, w2 = (w.alloc (.cells #[.pointer (some ⟨b, 0, none⟩)] 25)).alloc (.cells #[.pointer none] 25) ∧ Ahead M w w2 b t pa pn pc ∧ w2.heap.size = w.heap.size + 2 := by
 obtain ⟨w2, hw2, hO0, hO1, hb2, hs2⟩ := enter2 w (some ⟨b, 0, none⟩)
 have hi2 := hi.below hb2
 obtain ⟨pa, pn, pc, c1, hP⟩ := hi2.path hm
 exact ⟨w2, pa, pn, pc, hw2, ⟨hb2, hi2, ⟨hO1, hi.free (by omega), one_no _⟩, own_cell (j := 0) hO0 rfl, c1, hP⟩, hs2⟩
theorem along_split (M : Mp) (b : Nat) (t : T) (hm : M.at_ b = some (t)) (w : World) (hi : Inv M w) (wa : Option Addr) (wn wc : Nat) (way : Pa) (v : ByteArray) (hW : Bs M w wa wn wc way) (hw64 : way.length ≤ 64) (hle : (pathT (t)).length ≤ way.length) (h : ¬ pathT t <+: way) (hn : Nib (pathT t)) (hwn : Nib way) (A : T)
  (hcut : ∀ wx M', Inv M' wx → M'.at_ b = some t → Calls Tryz.prog 131 #[.agg #[.pointer (some ⟨b, 0, none⟩)], .int .i64 (cp (pathT t) way + 1 : Nat)] wx (GotT M' wx A)) :
  Calls Tryz.prog 68 #[.agg #[.pointer (some ⟨b, 0, none⟩)], .slice wa wn wc, .string v] w (GotT M w (wrap (way.take (cp (pathT t) way)) (two (nb ((pathT t).getD (cp (pathT t) way) 0)) (nb (way.getD (cp (pathT t) way) 0)) A (.leaf (way.drop (cp (pathT t) way + 1)) v)))) := by
 obtain ⟨w2, pa, pn, pc, hw2, hA, hs2⟩ := ahead M b _ hm w hi
 have hpn := hA.p.1.len
 have hwl : way.length = wn := hW.1.len
 have hpcap := hA.p.1.1
 have hpm := hA.p.1.2.1
 have hwcap := hW.1.1
 have hwm := hW.1.2.1
 unfold maxLen at hpm hwm
 obtain ⟨hk1, hk2⟩ := parted hle h
 have HAl := hid (along_any pa wa pn wn pc wc (pathT t) way (by omega) (by omega) (by omega) w2 hA.p.1 (isBs_fr hi hW.1 (Fr.below M hA.b2)))
 obtain ⟨R, hR⟩ : ∃ R, (wrap (way.take (cp (pathT t) way)) (two (nb ((pathT t).getD (cp (pathT t) way) 0)) (nb (way.getD (cp (pathT t) way) 0)) A (.leaf (way.drop (cp (pathT t) way + 1)) v))) = R := ⟨_, rfl⟩
 rw [hR]
 have HS : Hid (∀ w3, Below w2.heap.size w2 w3 → w3.cell? ⟨w.heap.size, 0, none⟩ = some (.pointer (some ⟨b, 0, none⟩)) ∧ Calls Tryz.prog 101 #[.agg #[.pointer (some ⟨b, 0, none⟩)], .int .i64 (cp (pathT t) way : Nat), .slice wa wn wc, .string v] w3 (GotT M w3 R) ∧
   ∀ e w9, GotT M w3 R e w9 → ∃ p, e = .returned (tv p) ∧ Rg.Own w9 (w.heap.size + 1) #[.pointer none] 25 ∧ ∀ w10, Rg.Upd w9 (w.heap.size + 1) w10 → GotT M w R (.returned (tv p)) w10) := hid (fun w3 hb3 =>
  ⟨cell_on hb3 hA.c0, by rw [← hR]; exact split_any M b t hm (cp (pathT t) way) A hk1 (by omega) hn w3 (hA.i2.below hb3) hcut wa wn wc way v (hW.fr hi (Fr.below M (bst hA.b2 hb3))) (by omega) hwn (by omega) hk2,
   fun e w9 hG => finish hi (Fr.below M (bst hA.b2 hb3)) (bst hA.b2 hb3) hG (hA.x2.o.below hb3) (one_no _) (by omega) hA.x2.n⟩)
 have hlt : decide (((cp (pathT t) way : Nat) : Int) < (pn : Int)) = true := by simp; omega
 obtain ⟨k, hk⟩ : ∃ k, cp (pathT t) way = k := ⟨_, rfl⟩
 rw [hk] at HAl HS hlt
 have hlt2 : (k : Int) < (pn : Int) := by have := of_decide_eq_true hlt; exact this
 have hlt3 : k < pn := by omega
 have h0 := hA.c0
 have c1 := hA.c1
 clear hR hk hA hW hi hm hle h hn hwn hcut hk1 hk2 hpn hwl
 subst hw2
 go_enter Tryz.func68, Tryz.ntmps68
 go_wp2_with (refine Rg.run rfl _ _ (run_alloc_tree _ _ _ (w.heap.size + 1) (by simp) rfl) ?_)
 refine HAl.out.mono ?_
 rintro e w3 ⟨rfl, hb3⟩
 obtain ⟨d0, HC, HF⟩ := HS.out w3 hb3
 replace HC := hid HC
 replace HF := hid HF
 clear hb3 HS HAl h0 c1
 go_wp2_with (refine Rg.run rfl _ _ (op_load_tree d0 ⟨_, rfl, rfl⟩) ?_)
 refine HC.out.mono ?_
 intro e w9 hG
 obtain ⟨p9, rfl, hO9, hE⟩ := HF.out e w9 hG
 have HO9 := hid hO9
 have HE := hid hE
 clear hG hO9 hE
 go_wp2_with (refine wpl_store_tree HO9.out (by decide) p9 rfl _ _ rfl rfl rfl ?_; intro w10 hO10 hu10; have HO10 := hid hO10; have HU10 := hid hu10; clear hO10 hu10)
 exact bodyPost_ret (res_tree rfl _ rfl HO10.out) rfl (HE.out w10 HU10.out)
theorem along_leaf (M : Mp) (b : Nat) (u : ByteArray) (q : Pa) (hm : M.at_ b = some (.leaf q u)) (w : World) (hi : Inv M w) (wa : Option Addr) (wn wc : Nat) (way : Pa) (v : ByteArray) (hW : Bs M w wa wn wc way) (hw64 : way.length ≤ 64) (hle : (pathT (.leaf q u)).length ≤ way.length) (h : q = way) :
  Calls Tryz.prog 68 #[.agg #[.pointer (some ⟨b, 0, none⟩)], .slice wa wn wc, .string v] w (GotT M w (.leaf q v)) := by
 obtain ⟨w2, pa, pn, pc, hw2, hA, hs2⟩ := ahead M b _ hm w hi
 have hpn := hA.p.1.len
 have hwl : way.length = wn := hW.1.len
 have hpcap := hA.p.1.1
 have hpm := hA.p.1.2.1
 have hwcap := hW.1.1
 have hwm := hW.1.2.1
 unfold maxLen at hpm hwm
 have hpn' : q.length = pn := hpn
 subst h
 obtain rfl : pn = wn := by omega
 have HAl := hid (along_any pa wa pn pn pc wc q q (by omega) (by omega) (by omega) w2 hA.p.1 (isBs_fr hi hW.1 (Fr.below M hA.b2)))
 rw [cp_pre (List.prefix_rfl), hpn'] at HAl
 have HS : Hid (∀ w3, Below w2.heap.size w2 w3 → w3.cell? ⟨w.heap.size, 0, none⟩ = some (.pointer (some ⟨b, 0, none⟩)) ∧ Calls Tryz.prog 42 #[.agg #[.pointer (some ⟨b, 0, none⟩)]] w3 (fun e w' => e = .returned (.int .i64 1) ∧ Below w3.heap.size w3 w') ∧
   ∀ w4, Below w3.heap.size w3 w4 → Calls Tryz.prog 69 #[.slice pa pn pc, .string v] w4 (GotT M w4 (.leaf q v)) ∧
   ∀ e w9, GotT M w4 (.leaf q v) e w9 → ∃ p, e = .returned (tv p) ∧ Rg.Own w9 (w.heap.size + 1) #[.pointer none] 25 ∧ ∀ w10, Rg.Upd w9 (w.heap.size + 1) w10 → GotT M w (.leaf q v) (.returned (tv p)) w10) := hid (fun w3 hb3 =>
  ⟨cell_on hb3 hA.c0, kind_any M _ _ w3 (hA.i2.below hb3) (isT_at (hA.i2.below hb3) hm), fun w4 hb4 => ⟨leaf_any M _ _ _ _ _ w4 (hA.i2.below (bst hb3 hb4)) (hA.p.fr hA.i2 (Fr.below M (bst hb3 hb4))),
   fun e w9 hG => finish hi (Fr.below M (bst hA.b2 (bst hb3 hb4))) (bst hA.b2 (bst hb3 hb4)) hG (hA.x2.o.below (bst hb3 hb4)) (one_no _) (by omega) hA.x2.n⟩⟩)
 have hlt : decide ((pn : Int) < (pn : Int)) = false := by simp
 have h0 := hA.c0
 have c1 := hA.c1
 clear hA hW hi hm hle hpn hpn' hwl
 subst hw2
 go_enter Tryz.func68, Tryz.ntmps68
 go_wp2_with (refine Rg.run rfl _ _ (run_alloc_tree _ _ _ (w.heap.size + 1) (by simp) rfl) ?_)
 refine HAl.out.mono ?_
 rintro e w3 ⟨rfl, hb3⟩
 obtain ⟨d0, HK, H4⟩ := HS.out w3 hb3
 replace HK := hid HK
 replace H4 := hid H4
 clear hb3 HS HAl h0 c1
 go_wp2_with (refine Rg.run rfl _ _ (op_load_tree d0 ⟨_, rfl, rfl⟩) ?_)
 refine HK.out.mono ?_
 rintro e w4 ⟨rfl, hb4⟩
 obtain ⟨HC, HF⟩ := H4.out w4 hb4
 replace HC := hid HC
 replace HF := hid HF
 clear hb4 H4 HK
 go_wp2_with fail
 refine HC.out.mono ?_
 intro e w9 hG
 obtain ⟨p9, rfl, hO9, hE⟩ := HF.out e w9 hG
 have HO9 := hid hO9
 have HE := hid hE
 clear hG hO9 hE
 go_wp2_with (refine wpl_store_tree HO9.out (by decide) p9 rfl _ _ rfl rfl rfl ?_; intro w10 hO10 hu10; have HO10 := hid hO10; have HU10 := hid hu10; clear hO10 hu10)
 exact bodyPost_ret (res_tree rfl _ rfl HO10.out) rfl (HE.out w10 HU10.out)
theorem along_ext (M : Mp) (b : Nat) (q : Pa) (s : T) (hm : M.at_ b = some (.ext q s)) (w : World) (hi : Inv M w) (wa : Option Addr) (wn wc : Nat) (way : Pa) (v : ByteArray) (hW : Bs M w wa wn wc way) (hw64 : way.length ≤ 64) (hle : (pathT (.ext q s)).length ≤ way.length) (h : q <+: way) (hq : q ≠ []) (hg : Tr.get s (way.drop q.length) ≠ none)
  (hS : ∀ M' w' p a n c, Inv M' w' → IsT M' p s → Bs M' w' a n c (way.drop q.length) → Calls Tryz.prog 37 #[.agg #[.pointer p], .slice a n c, .string v] w' (GotT M' w' (put s (way.drop q.length) v))) :
  Calls Tryz.prog 68 #[.agg #[.pointer (some ⟨b, 0, none⟩)], .slice wa wn wc, .string v] w (GotT M w (.ext q (put s (way.drop q.length) v))) := by
 obtain ⟨w2, pa, pn, pc, hw2, hA, hs2⟩ := ahead M b _ hm w hi
 have hpn := hA.p.1.len
 have hwl : way.length = wn := hW.1.len
 have hpcap := hA.p.1.1
 have hpm := hA.p.1.2.1
 have hwcap := hW.1.1
 have hwm := hW.1.2.1
 unfold maxLen at hpm hwm
 have hpn' : q.length = pn := hpn
 have HAl := hid (along_any pa wa pn wn pc wc q way (by omega) (by omega) (by omega) w2 hA.p.1 (isBs_fr hi hW.1 (Fr.below M hA.b2)))
 rw [cp_pre h, hpn'] at HAl
 have hpw : pn ≤ wn := by rw [← hpn', ← hwl]; exact hle
 rw [hpn'] at hS ⊢
 obtain ⟨ka, kn, kc, c3, hK⟩ := hA.i2.kids hm
 obtain ⟨kb, ko, p0, rfl, hklt, hkf, hk0, hT0⟩ := hK.at' 0 (by rw [← hK.len]; exact Nat.one_pos)
 have hkn : kn = 1 := hK.len.symm
 have hkc := hK.1
 have hkm := hK.2.1
 unfold maxLen at hkm
 rw [Nat.add_zero] at hk0
 have hT0' : IsT M p0 s := hT0
 have hbl := hi.lt hm
 have hkbl := hi.lt_ kb hkf
 have HS : Hid (∀ w3, Below w2.heap.size w2 w3 → w3.cell? ⟨w.heap.size, 0, none⟩ = some (.pointer (some ⟨b, 0, none⟩)) ∧ Calls Tryz.prog 42 #[.agg #[.pointer (some ⟨b, 0, none⟩)]] w3 (fun e w' => e = .returned (.int .i64 2) ∧ Below w3.heap.size w3 w') ∧
   ∀ w4, Below w3.heap.size w3 w4 → (w4.cell? ⟨w.heap.size, 0, none⟩ = some (.pointer (some ⟨b, 0, none⟩)) ∧ w4.cell? ⟨b, 3, none⟩ = some (.slice (some ⟨kb, ko, none⟩) kn kc) ∧ w4.cell? ⟨kb, ko, none⟩ = some (.pointer p0)) ∧
   (∀ wx, Below w4.heap.size w4 wx → Calls Tryz.prog 37 #[.agg #[.pointer p0], .slice (fromA wa wc pn) (wn - pn) (wc - pn), .string v] wx (GotT M wx (put s (way.drop pn) v))) ∧ ∀ wx, Below w4.heap.size w4 wx → ∀ e w5, GotT M wx (put s (way.drop pn) v) e w5 → ∃ p5 M5, e = .returned (tv p5) ∧ Below w4.heap.size w4 w5 ∧ Calls Tryz.prog 98 #[.slice pa pn pc, .agg #[.pointer p5]] w5 (GotT M5 w5 (.ext q (put s (way.drop pn) v))) ∧
    ∀ e w9, GotT M5 w5 (.ext q (put s (way.drop pn) v)) e w9 → ∃ p9, e = .returned (tv p9) ∧ Below w4.heap.size w4 w9 ∧ Rg.Own w9 (w.heap.size + 1) #[.pointer none] 25 ∧ ∀ w10, Rg.Upd w9 (w.heap.size + 1) w10 → True ∧ GotT M w (.ext q (put s (way.drop pn) v)) (.returned (tv p9)) w10) := hid (fun w3 hb3 =>
  ⟨cell_on hb3 hA.c0, kind_any M _ _ w3 (hA.i2.below hb3) (isT_at (hA.i2.below hb3) hm), fun w4 hb4 => ⟨⟨cell_on hb4 (cell_on hb3 hA.c0), cell_on hb4 (cell_on hb3 c3), cell_on hb4 (cell_on hb3 hk0)⟩, fun wx hbx => by
   have hB := bst hA.b2 (bst (bst hb3 hb4) hbx)
   refine hS M wx p0 _ _ _ (hi.below hB) hT0' ?_
   have := (hW.fr hi (Fr.below M hB)).from' pn hpw
   exact this, fun wx hbx e w5 hG => by
   have hB := bst (bst hb3 hb4) hbx
   have hs2x : St M w M wx := ⟨Fr.below M (bst hA.b2 hB), hi.below (bst hA.b2 hB), bst hA.b2 hB, hi⟩
   obtain ⟨p5, M5, rfl, hT5, hS5, hf5, hb5⟩ := hs2x.got hG
   have hX5 := (hA.x2.below hB).got hf5 hb5
   have hwr : wrap q (put s (way.drop pn) v) = .ext q (put s (way.drop pn) v) := if_neg hq
   have hbe := behind_any M5 pa pn pc q p5 (put s (way.drop pn) v) w5 hS5.i ((hA.p.fr hA.i2 (Fr.below M hB)).fr (hA.i2.below hB) hf5) hT5
   rw [hwr] at hbe
   refine ⟨p5, M5, rfl, bst hbx hb5, hbe, fun e w9 hG9 => ?_⟩
   obtain ⟨p9, M9, rfl, hT9, hS9, hf9, hb9⟩ := hS5.got hG9
   have hX9 := hX5.got hf9 hb9
   refine ⟨p9, rfl, bst (bst hbx hb5) hb9, hX9.o, fun w10 hu => ?_⟩
   have hS10 := hS9.upd hu (by omega) hX9.n
   exact ⟨trivial, p9, M9, rfl, hT9, hS10.f, hS10.i, hS10.b⟩⟩⟩)
 have hlt : decide ((pn : Int) < (pn : Int)) = false := by simp
 have h0 := hA.c0
 have c1 := hA.c1
 clear hA hW hi hm hle hpn hpn' hwl hK hT0 hT0' c3 hk0 hS
 subst hw2
 go_enter Tryz.func68, Tryz.ntmps68
 go_wp2_with (refine Rg.run rfl _ _ (run_alloc_tree _ _ _ (w.heap.size + 1) (by simp) rfl) ?_)
 refine HAl.out.mono ?_
 rintro e w3 ⟨rfl, hb3⟩
 obtain ⟨d0', HK, H4⟩ := HS.out w3 hb3
 replace HK := hid HK
 replace H4 := hid H4
 clear hb3 HS HAl h0 c1
 go_wp2_with (refine Rg.run rfl _ _ (op_load_tree d0' ⟨_, rfl, rfl⟩) ?_)
 refine HK.out.mono ?_
 rintro e w4 ⟨rfl, hb4⟩
 obtain ⟨⟨d0, d3, dk⟩, HC, HF⟩ := H4.out w4 hb4
 replace HC := hid HC
 replace HF := hid HF
 clear hb4 H4 HK d0'
 go_wp2_with fail
 refine wp_region_noPanic ?_
 refine wp_region_held_drew (S := fun w' => Bo (w.heap.size + 1) w4 w') (by kernel_rfl) (Bo.of (below_drewN (Below.refl _ _) 1)) (fun hld => ?_)
 refine Rg.tk (i := 0) rfl ?_
 try simp only [Act.put, Rg.s]
 refine Rg.tk (i := 1) rfl ?_
 try simp only [Act.put, Rg.s]
 refine Rg.tk (i := 2) rfl ?_ (hy := by intro wz hSw; have hcc := cell_bo hSw (by omega) d0; (try dsimp only at hSw); go_simp <;> with_reducible rfl)
 try simp only [Act.put, Rg.s]
 refine Rg.tk (i := 3) rfl ?_
 try simp only [Act.put, Rg.s]
 refine Rg.tk (i := 4) rfl ?_
 try simp only [Act.put, Rg.s]
 refine Rg.tk (i := 5) rfl ?_ (hy := by intro wz hSw; have hcc := cell_bo hSw (by omega) d3; (try dsimp only at hSw); go_simp <;> with_reducible rfl)
 try simp only [Act.put, Rg.s]
 refine Rg.tk (i := 6) rfl ?_
 try simp only [Act.put, Rg.s]
 refine Rg.tk (i := 7) rfl ?_ (hy := by intro wz hSw; (refine op_load_tree (cell_bo hSw (by omega) dk) ?_; exact ⟨_, rfl, rfl⟩))
 try simp only [Act.put, Rg.s]
 refine Rg.tk (i := 8) rfl ?_
 try simp only [Act.put, Rg.s]
 refine Rg.tk (i := 9) rfl ?_
 try simp only [Act.put, Rg.s]
 refine Rg.tk (i := 10) rfl ?_ (hy := by intro wz hSw; (refine op_from (a := wa) (n := wn) (c := wc) (i := pn) under_u8 size_u8 hpw ?_; exact ⟨_, _, rfl, rfl, rfl⟩))
 try simp only [Act.put, Rg.s]
 refine Rg.tk (i := 11) rfl ?_
 try simp only [Act.put, Rg.s]
 refine Rg.rd (i := 12) rfl fun K hK => ?_
 go_simp
 go_at_call 37
 (with_reducible refine (HC.out w4.drew (below_drewN (Below.refl _ _) 1)).mono ?_)
 intro e w5 hG
 obtain ⟨p5, M5, rfl, hB5, H5⟩ := HF.out w4.drew (below_drewN (Below.refl _ _) 1) e w5 hG
 replace H5 := hid H5
 clear hG
 refine hK.out _ _ ?_ (fun hld => ?_)
 ·exact Bo.of hB5
 clear hK K
 try simp only [Act.put, Rg.s]
 refine Rg.rd (i := 13) rfl fun K hK => ?_
 go_simp
 go_at_call 98
 (with_reducible refine (H5.out.1).mono ?_)
 intro e w9 hG
 obtain ⟨p9, rfl, hB9, H9⟩ := H5.out.2 e w9 hG
 replace H9 := hid H9
 clear hG
 refine hK.out _ _ ?_ (fun hld => ?_)
 ·exact Bo.of hB9
 clear hK K
 try simp only [Act.put, Rg.s]
 refine Rg.rd (i := 14) rfl fun K hK => ?_
 refine meet_store_tree (by rfl) H9.out.1 (off := 0) (by decide) p9 ⟨_, _, rfl, rfl, rfl⟩ ?_
 intro w10 hO10 hu10
 have HO10 := hid hO10
 have H10 := hid (H9.out.2 w10 hu10)
 clear hO10
 refine hK.out _ _ ?_ (fun hld => ?_)
 ·exact (Bo.of hB9).upd hu10
 clear hK K
 try simp only [Act.put, Rg.s]
 refine wpAnyH_done (by kernel_rfl) ?_ _
 refine NoPanic.normal ?_
 go_wp2
 exact bodyPost_ret (res_tree rfl _ rfl HO10.out) rfl H10.out.2
theorem along_stub (M : Mp) (b : Nat) (q : Pa) (s : T) (hm : M.at_ b = some (.ext q s)) (w : World) (hi : Inv M w) (wa : Option Addr) (wn wc : Nat) (way : Pa) (v : ByteArray) (hW : Bs M w wa wn wc way) (hw64 : way.length ≤ 64) (hle : (pathT (.ext q s)).length ≤ way.length) (h : q <+: way)
  (hS : ∀ M' w' p a n c, Inv M' w' → IsT M' p s → Bs M' w' a n c (way.drop q.length) → Calls Tryz.prog 37 #[.agg #[.pointer p], .slice a n c, .string v] w' fun e w'' => e = .panicked [errP 8] ∧ Below w'.heap.size w' w'') :
  Calls Tryz.prog 68 #[.agg #[.pointer (some ⟨b, 0, none⟩)], .slice wa wn wc, .string v] w (fun e w' => e = .panicked [errP 8] ∧ Below w.heap.size w w') := by
 obtain ⟨w2, pa, pn, pc, hw2, hA, hs2⟩ := ahead M b _ hm w hi
 have hpn := hA.p.1.len
 have hwl : way.length = wn := hW.1.len
 have hpcap := hA.p.1.1
 have hpm := hA.p.1.2.1
 have hwcap := hW.1.1
 have hwm := hW.1.2.1
 unfold maxLen at hpm hwm
 have hpn' : q.length = pn := hpn
 have HAl := hid (along_any pa wa pn wn pc wc q way (by omega) (by omega) (by omega) w2 hA.p.1 (isBs_fr hi hW.1 (Fr.below M hA.b2)))
 rw [cp_pre h, hpn'] at HAl
 have hpw : pn ≤ wn := by rw [← hpn', ← hwl]; exact hle
 rw [hpn'] at hS 
 obtain ⟨ka, kn, kc, c3, hK⟩ := hA.i2.kids hm
 obtain ⟨kb, ko, p0, rfl, hklt, hkf, hk0, hT0⟩ := hK.at' 0 (by rw [← hK.len]; exact Nat.one_pos)
 have hkn : kn = 1 := hK.len.symm
 have hkc := hK.1
 have hkm := hK.2.1
 unfold maxLen at hkm
 rw [Nat.add_zero] at hk0
 have hT0' : IsT M p0 s := hT0
 have hbl := hi.lt hm
 have hkbl := hi.lt_ kb hkf
 have HS : Hid (∀ w3, Below w2.heap.size w2 w3 → w3.cell? ⟨w.heap.size, 0, none⟩ = some (.pointer (some ⟨b, 0, none⟩)) ∧ Calls Tryz.prog 42 #[.agg #[.pointer (some ⟨b, 0, none⟩)]] w3 (fun e w' => e = .returned (.int .i64 2) ∧ Below w3.heap.size w3 w') ∧
   ∀ w4, Below w3.heap.size w3 w4 → (w4.cell? ⟨w.heap.size, 0, none⟩ = some (.pointer (some ⟨b, 0, none⟩)) ∧ w4.cell? ⟨b, 3, none⟩ = some (.slice (some ⟨kb, ko, none⟩) kn kc) ∧ w4.cell? ⟨kb, ko, none⟩ = some (.pointer p0)) ∧
   (∀ wx, Below w4.heap.size w4 wx → Calls Tryz.prog 37 #[.agg #[.pointer p0], .slice (fromA wa wc pn) (wn - pn) (wc - pn), .string v] wx (fun e w'' => e = .panicked [errP 8] ∧ Below wx.heap.size wx w'')) ∧ ∀ wx, Below w4.heap.size w4 wx → Below w.heap.size w wx) := hid (fun w3 hb3 =>
  ⟨cell_on hb3 hA.c0, kind_any M _ _ w3 (hA.i2.below hb3) (isT_at (hA.i2.below hb3) hm), fun w4 hb4 => ⟨⟨cell_on hb4 (cell_on hb3 hA.c0), cell_on hb4 (cell_on hb3 c3), cell_on hb4 (cell_on hb3 hk0)⟩, fun wx hbx => by
   have hB := bst hA.b2 (bst (bst hb3 hb4) hbx)
   refine hS M wx p0 _ _ _ (hi.below hB) hT0' ?_
   have := (hW.fr hi (Fr.below M hB)).from' pn hpw
   exact this, fun wx hbx => bst hA.b2 (bst (bst hb3 hb4) hbx)⟩⟩)
 have hlt : decide ((pn : Int) < (pn : Int)) = false := by simp
 have h0 := hA.c0
 have c1 := hA.c1
 clear hA hW hi hm hle hpn hpn' hwl hK hT0 hT0' c3 hk0 hS
 subst hw2
 go_enter Tryz.func68, Tryz.ntmps68
 go_wp2_with (refine Rg.run rfl _ _ (run_alloc_tree _ _ _ (w.heap.size + 1) (by simp) rfl) ?_)
 refine HAl.out.mono ?_
 rintro e w3 ⟨rfl, hb3⟩
 obtain ⟨d0', HK, H4⟩ := HS.out w3 hb3
 replace HK := hid HK
 replace H4 := hid H4
 clear hb3 HS HAl h0 c1
 go_wp2_with (refine Rg.run rfl _ _ (op_load_tree d0' ⟨_, rfl, rfl⟩) ?_)
 refine HK.out.mono ?_
 rintro e w4 ⟨rfl, hb4⟩
 obtain ⟨⟨d0, d3, dk⟩, HC, HF⟩ := H4.out w4 hb4
 replace HC := hid HC
 replace HF := hid HF
 clear hb4 H4 HK d0'
 go_wp2_with fail
 refine wp_region_held_drew (S := fun w' => Bo (w.heap.size + 1) w4 w') (by kernel_rfl) (Bo.of (below_drewN (Below.refl _ _) 1)) (fun hld => ?_)
 refine Rg.tk (i := 0) rfl ?_
 try simp only [Act.put, Rg.s]
 refine Rg.tk (i := 1) rfl ?_
 try simp only [Act.put, Rg.s]
 refine Rg.tk (i := 2) rfl ?_ (hy := by intro wz hSw; have hcc := cell_bo hSw (by omega) d0; (try dsimp only at hSw); go_simp <;> with_reducible rfl)
 try simp only [Act.put, Rg.s]
 refine Rg.tk (i := 3) rfl ?_
 try simp only [Act.put, Rg.s]
 refine Rg.tk (i := 4) rfl ?_
 try simp only [Act.put, Rg.s]
 refine Rg.tk (i := 5) rfl ?_ (hy := by intro wz hSw; have hcc := cell_bo hSw (by omega) d3; (try dsimp only at hSw); go_simp <;> with_reducible rfl)
 try simp only [Act.put, Rg.s]
 refine Rg.tk (i := 6) rfl ?_
 try simp only [Act.put, Rg.s]
 refine Rg.tk (i := 7) rfl ?_ (hy := by intro wz hSw; (refine op_load_tree (cell_bo hSw (by omega) dk) ?_; exact ⟨_, rfl, rfl⟩))
 try simp only [Act.put, Rg.s]
 refine Rg.tk (i := 8) rfl ?_
 try simp only [Act.put, Rg.s]
 refine Rg.tk (i := 9) rfl ?_
 try simp only [Act.put, Rg.s]
 refine Rg.tk (i := 10) rfl ?_ (hy := by intro wz hSw; (refine op_from (a := wa) (n := wn) (c := wc) (i := pn) under_u8 size_u8 hpw ?_; exact ⟨_, _, rfl, rfl, rfl⟩))
 try simp only [Act.put, Rg.s]
 refine Rg.tk (i := 11) rfl ?_
 try simp only [Act.put, Rg.s]
 refine Rg.rd (i := 12) rfl fun K hK => ?_
 go_simp
 go_at_call 37
 (with_reducible refine (HC.out w4.drew (below_drewN (Below.refl _ _) 1)).mono ?_)
 rintro e w5 ⟨rfl, hb5⟩
 simp +zetaDelta [bodyPost, Exit.then]
 exact bst (HF.out w4.drew (below_drewN (Below.refl _ _) 1)) hb5
end Tm
end
section
open Go.RowKit
namespace Tm
open Tr Ni Pk
theorem with_br (ks : Fin 16 → T) (M : Mp) (b : Nat) (hm : M.at_ b = some (.br ks)) (w : World) (hi : Inv M w) (wa : Option Addr) (wn wc : Nat) (c0 : UInt8) (r : Pa) (v : ByteArray) (hW : Bs M w wa wn wc (c0 :: r)) (hc0 : c0.toNat < 16) (hlen : (c0 :: r).length ≤ 64)
  (ih : ∀ M' w' p a n c, Inv M' w' → IsT M' p (ks (nb c0)) → Bs M' w' a n c r → Calls Tryz.prog 37 #[.agg #[.pointer p], .slice a n c, .string v] w' (GotT M' w' (put (ks (nb c0)) r v))) :
  Calls Tryz.prog 37 #[.agg #[.pointer (some ⟨b, 0, none⟩)], .slice wa wn wc, .string v] w (GotT M w (.br fun j => if j = nb c0 then put (ks (nb c0)) r v else ks j)) := by
  obtain ⟨w2, hw2, hO0, hO1, hb2, hs2⟩ := enter2 w (some ⟨b, 0, none⟩)
  have hi2 := hi.below hb2
  have hX2 : Bx M w2 (w.heap.size + 1) #[.pointer none] 25 := ⟨hO1, hi.free (by omega), one_no _⟩
  have hwl : (c0 :: r).length = wn := hW.1.len
  have hwl' : r.length + 1 = wn := by rw [← hwl]; rfl
  have h0 := own_cell (j := 0) hO0 rfl
  have HK := hid (kind_any M _ _ w2 hi2 (isT_at hi2 hm))
  obtain ⟨ka, kn, kc, c3, hKs⟩ := hi2.kids hm
  have hkn : kn = 16 := by rw [← hKs.len]; exact parts_br_len ks
  subst hkn
  have hnx : ((nb c0).val : Nat) = c0.toNat := Nat.mod_eq_of_lt hc0
  obtain ⟨kb, ko, p0, rfl, hklt, hkf, hk0, hT0⟩ := hKs.at' c0.toNat hc0
  have hT0' : IsT M p0 (ks (nb c0)) := by
   rw [← hnx, parts_br_at] at hT0
   exact hT0
  have hbl := hi.lt hm
  have hkbl := hi.lt_ kb hkf
  have hkc := hKs.1
  have hkm := hKs.2.1
  unfold maxLen at hkm
  have hx16 : c0.toNat < 16 := hc0
  have hxi : ((c0.toNat : Nat) : Int) < 16 := by omega
  have HT : Hid (∀ w3, Below w2.heap.size w2 w3 → w3.cell? ⟨w.heap.size, 0, none⟩ = some (.pointer (some ⟨b, 0, none⟩)) ∧ Calls Tryz.prog 61 #[.slice wa wn wc] w3 (fun e w' => e = .returned (.tuple #[.int .u8 c0.toNat, .slice (fromA wa wc 1) (wn - 1) (wc - 1)]) ∧ Below w3.heap.size w3 w') ∧
    ∀ w4, Below w3.heap.size w3 w4 → (w4.cell? ⟨w.heap.size, 0, none⟩ = some (.pointer (some ⟨b, 0, none⟩)) ∧ w4.cell? ⟨b, 3, none⟩ = some (.slice (some ⟨kb, ko, none⟩) 16 kc) ∧ w4.cell? ⟨kb, ko + c0.toNat, none⟩ = some (.pointer p0)) ∧
    (∀ wx, Below w4.heap.size w4 wx → Calls Tryz.prog 37 #[.agg #[.pointer p0], .slice (fromA wa wc 1) (wn - 1) (wc - 1), .string v] wx (GotT M wx (put (ks (nb c0)) r v))) ∧ ∀ wx, Below w4.heap.size w4 wx → ∀ e w5, GotT M wx (put (ks (nb c0)) r v) e w5 → ∃ p5 M5, e = .returned (tv p5) ∧ Below w4.heap.size w4 w5 ∧ Calls Tryz.prog 62 #[.agg #[.pointer (some ⟨b, 0, none⟩)], .int .u8 c0.toNat, .agg #[.pointer p5]] w5 (GotT M5 w5 (.br fun j => if j = nb c0 then put (ks (nb c0)) r v else ks j)) ∧
     ∀ e w9, GotT M5 w5 (.br fun j => if j = nb c0 then put (ks (nb c0)) r v else ks j) e w9 → ∃ p9, e = .returned (tv p9) ∧ Below w4.heap.size w4 w9 ∧ Rg.Own w9 (w.heap.size + 1) #[.pointer none] 25 ∧ ∀ w10, Rg.Upd w9 (w.heap.size + 1) w10 → GotT M w (.br fun j => if j = nb c0 then put (ks (nb c0)) r v else ks j) (.returned (tv p9)) w10) := hid (fun w3 hb3 =>
   ⟨cell_on hb3 h0, turn_any wa wn wc (c0 :: r) (by omega) w3 (isBs_fr hi hW.1 (Fr.below M (bst hb2 hb3))), fun w4 hb4 => ⟨⟨cell_on hb4 (cell_on hb3 h0), cell_on hb4 (cell_on hb3 c3), cell_on hb4 (cell_on hb3 hk0)⟩, fun wx hbx => by
    have hB := bst hb2 (bst (bst hb3 hb4) hbx)
    refine ih M wx p0 _ _ _ (hi.below hB) hT0' ?_
    exact (hW.fr hi (Fr.below M hB)).from' 1 (by omega), fun wx hbx e w5 hG => by
    have hB := bst (bst hb3 hb4) hbx
    have hs2x : St M w M wx := ⟨Fr.below M (bst hb2 hB), hi.below (bst hb2 hB), bst hb2 hB, hi⟩
    obtain ⟨p5, M5, rfl, hT5, hS5, hf5, hb5⟩ := hs2x.got hG
    have hX5 := (hX2.below hB).got hf5 hb5
    have hbe := turned_any M5 b ks (hf5.mono b _ hm) (nb c0) p5 _ hT5 w5 hS5.i
    rw [hnx] at hbe
    refine ⟨p5, M5, rfl, bst hbx hb5, hbe, fun e w9 hG9 => ?_⟩
    obtain ⟨p9, M9, rfl, hT9, hS9, hf9, hb9⟩ := hS5.got hG9
    have hX9 := hX5.got hf9 hb9
    refine ⟨p9, rfl, bst (bst hbx hb5) hb9, hX9.o, fun w10 hu => ?_⟩
    have hS10 := hS9.upd hu (by omega) hX9.n
    exact ⟨p9, M9, rfl, hT9, hS10.f, hS10.i, hS10.b⟩⟩⟩)
  have H0 := hid hO0
  clear hO0 hO1 hb2 hi hi2 hm hW hX2 hwl hKs hT0 hT0' c3 hk0 ih h0
  subst hw2
  clear hs2
  go_enter Tryz.func37, Tryz.ntmps37
  go_wp2_with (first | (refine Rg.run rfl _ _ (run_alloc_tree _ _ _ (w.heap.size + 1) (by simp) rfl) ?_) | (refine Rg.run rfl _ _ (op_load_tree (own_cell (j := 0) H0.out rfl) ⟨_, rfl, rfl⟩) ?_))
  refine HK.out.mono ?_
  rintro e w3 ⟨rfl, hb3⟩
  obtain ⟨d0', HC3, H4⟩ := HT.out w3 hb3
  replace HC3 := hid HC3
  replace H4 := hid H4
  clear hb3 HT HK H0 d0'
  unfold kindT
  go_wp2_with fail
  refine HC3.out.mono ?_
  rintro e w4 ⟨rfl, hb4⟩
  obtain ⟨⟨d0, d3, dk⟩, HC, HF⟩ := H4.out w4 hb4
  replace HC := hid HC
  replace HF := hid HF
  clear hb4 H4 HC3
  go_wp2_with fail
  refine wp_region_noPanic ?_
  refine wp_region_held_drew (S := fun w' => Bo (w.heap.size + 1) w4 w') (by kernel_rfl) (Bo.of (below_drewN (Below.refl _ _) 1)) (fun hld => ?_)
  refine Rg.tk (i := 0) rfl ?_ (hy := by intro wz hSw; (refine op_load_tree (cell_bo hSw (by omega) d0) ?_; exact ⟨_, rfl, rfl⟩))
  try simp only [Act.put, Rg.s]
  refine Rg.tk (i := 1) rfl ?_
  try simp only [Act.put, Rg.s]
  refine Rg.tk (i := 2) rfl ?_
  try simp only [Act.put, Rg.s]
  refine Rg.tk (i := 3) rfl ?_ (hy := by intro wz hSw; have hcc := cell_bo hSw (by omega) d0; (try dsimp only at hSw); go_simp <;> with_reducible rfl)
  try simp only [Act.put, Rg.s]
  refine Rg.tk (i := 4) rfl ?_
  try simp only [Act.put, Rg.s]
  refine Rg.tk (i := 5) rfl ?_
  try simp only [Act.put, Rg.s]
  refine Rg.tk (i := 6) rfl ?_ (hy := by intro wz hSw; have hcc := cell_bo hSw (by omega) d3; (try dsimp only at hSw); go_simp <;> with_reducible rfl)
  try simp only [Act.put, Rg.s]
  refine Rg.tk (i := 7) rfl ?_
  try simp only [Act.put, Rg.s]
  refine Rg.tk (i := 8) rfl ?_ (hy := by intro wz hSw; (have q0 := hxi; have q1 := hx16; go_simp <;> with_reducible rfl))
  try simp only [Act.put, Rg.s]
  refine Rg.tk (i := 9) rfl ?_ (hy := by intro wz hSw; (refine op_load_tree (cell_bo hSw (by omega) dk) ?_; exact ⟨_, rfl, rfl⟩))
  try simp only [Act.put, Rg.s]
  refine Rg.tk (i := 10) rfl ?_
  try simp only [Act.put, Rg.s]
  refine Rg.tk (i := 11) rfl ?_
  try simp only [Act.put, Rg.s]
  refine Rg.rd (i := 12) rfl fun K hK => ?_
  go_simp
  go_at_call 37
  (with_reducible refine (HC.out w4.drew (below_drewN (Below.refl _ _) 1)).mono ?_)
  intro e w5 hG
  obtain ⟨p5, M5, rfl, hB5, H5⟩ := HF.out w4.drew (below_drewN (Below.refl _ _) 1) e w5 hG
  replace H5 := hid H5
  clear hG
  refine hK.out _ _ ?_ (fun hld => ?_)
  ·exact Bo.of hB5
  clear hK K
  try simp only [Act.put, Rg.s]
  refine Rg.rd (i := 13) rfl fun K hK => ?_
  go_simp
  go_at_call 62
  (with_reducible refine (H5.out.1).mono ?_)
  intro e w9 hG
  obtain ⟨p9, rfl, hB9, H9⟩ := H5.out.2 e w9 hG
  replace H9 := hid H9
  clear hG
  refine hK.out _ _ ?_ (fun hld => ?_)
  ·exact Bo.of hB9
  clear hK K
  try simp only [Act.put, Rg.s]
  refine Rg.rd (i := 14) rfl fun K hK => ?_
  refine meet_store_tree (by rfl) H9.out.1 (off := 0) (by decide) p9 ⟨_, _, rfl, rfl, rfl⟩ ?_
  intro w10 hO10 hu10
  have HO10 := hid hO10
  have H10 := hid (H9.out.2 w10 hu10)
  clear hO10
  refine hK.out _ _ ?_ (fun hld => ?_)
  ·exact (Bo.of hB9).upd hu10
  clear hK K
  try simp only [Act.put, Rg.s]
  refine wpAnyH_done (by kernel_rfl) ?_ _
  refine NoPanic.normal ?_
  go_wp2
  exact bodyPost_ret (res_tree rfl _ rfl HO10.out) rfl H10.out
theorem with_br_stub (ks : Fin 16 → T) (M : Mp) (b : Nat) (hm : M.at_ b = some (.br ks)) (w : World) (hi : Inv M w) (wa : Option Addr) (wn wc : Nat) (c0 : UInt8) (r : Pa) (v : ByteArray) (hW : Bs M w wa wn wc (c0 :: r)) (hc0 : c0.toNat < 16) (hlen : (c0 :: r).length ≤ 64)
  (ih : ∀ M' w' p a n c, Inv M' w' → IsT M' p (ks (nb c0)) → Bs M' w' a n c r → Calls Tryz.prog 37 #[.agg #[.pointer p], .slice a n c, .string v] w' (fun e w'' => e = .panicked [errP 8] ∧ Below w'.heap.size w' w'')) :
  Calls Tryz.prog 37 #[.agg #[.pointer (some ⟨b, 0, none⟩)], .slice wa wn wc, .string v] w (fun e w'' => e = .panicked [errP 8] ∧ Below w.heap.size w w'') := by
  obtain ⟨w2, hw2, hO0, hO1, hb2, hs2⟩ := enter2 w (some ⟨b, 0, none⟩)
  have hi2 := hi.below hb2
  have hX2 : Bx M w2 (w.heap.size + 1) #[.pointer none] 25 := ⟨hO1, hi.free (by omega), one_no _⟩
  have hwl : (c0 :: r).length = wn := hW.1.len
  have hwl' : r.length + 1 = wn := by rw [← hwl]; rfl
  have h0 := own_cell (j := 0) hO0 rfl
  have HK := hid (kind_any M _ _ w2 hi2 (isT_at hi2 hm))
  obtain ⟨ka, kn, kc, c3, hKs⟩ := hi2.kids hm
  have hkn : kn = 16 := by rw [← hKs.len]; exact parts_br_len ks
  subst hkn
  have hnx : ((nb c0).val : Nat) = c0.toNat := Nat.mod_eq_of_lt hc0
  obtain ⟨kb, ko, p0, rfl, hklt, hkf, hk0, hT0⟩ := hKs.at' c0.toNat hc0
  have hT0' : IsT M p0 (ks (nb c0)) := by
   rw [← hnx, parts_br_at] at hT0
   exact hT0
  have hbl := hi.lt hm
  have hkbl := hi.lt_ kb hkf
  have hkc := hKs.1
  have hkm := hKs.2.1
  unfold maxLen at hkm
  have hx16 : c0.toNat < 16 := hc0
  have hxi : ((c0.toNat : Nat) : Int) < 16 := by omega
  have HT : Hid (∀ w3, Below w2.heap.size w2 w3 → w3.cell? ⟨w.heap.size, 0, none⟩ = some (.pointer (some ⟨b, 0, none⟩)) ∧ Calls Tryz.prog 61 #[.slice wa wn wc] w3 (fun e w' => e = .returned (.tuple #[.int .u8 c0.toNat, .slice (fromA wa wc 1) (wn - 1) (wc - 1)]) ∧ Below w3.heap.size w3 w') ∧
    ∀ w4, Below w3.heap.size w3 w4 → (w4.cell? ⟨w.heap.size, 0, none⟩ = some (.pointer (some ⟨b, 0, none⟩)) ∧ w4.cell? ⟨b, 3, none⟩ = some (.slice (some ⟨kb, ko, none⟩) 16 kc) ∧ w4.cell? ⟨kb, ko + c0.toNat, none⟩ = some (.pointer p0)) ∧
    (∀ wx, Below w4.heap.size w4 wx → Calls Tryz.prog 37 #[.agg #[.pointer p0], .slice (fromA wa wc 1) (wn - 1) (wc - 1), .string v] wx (fun e w'' => e = .panicked [errP 8] ∧ Below wx.heap.size wx w'')) ∧ ∀ wx, Below w4.heap.size w4 wx → Below w.heap.size w wx) := hid (fun w3 hb3 =>
   ⟨cell_on hb3 h0, turn_any wa wn wc (c0 :: r) (by omega) w3 (isBs_fr hi hW.1 (Fr.below M (bst hb2 hb3))), fun w4 hb4 => ⟨⟨cell_on hb4 (cell_on hb3 h0), cell_on hb4 (cell_on hb3 c3), cell_on hb4 (cell_on hb3 hk0)⟩, fun wx hbx => by
    have hB := bst hb2 (bst (bst hb3 hb4) hbx)
    refine ih M wx p0 _ _ _ (hi.below hB) hT0' ?_
    exact (hW.fr hi (Fr.below M hB)).from' 1 (by omega), fun wx hbx => bst hb2 (bst (bst hb3 hb4) hbx)⟩⟩)
  have H0 := hid hO0
  clear hO0 hO1 hb2 hi hi2 hm hW hX2 hwl hKs hT0 hT0' c3 hk0 ih h0
  subst hw2
  clear hs2
  go_enter Tryz.func37, Tryz.ntmps37
  go_wp2_with (first | (refine Rg.run rfl _ _ (run_alloc_tree _ _ _ (w.heap.size + 1) (by simp) rfl) ?_) | (refine Rg.run rfl _ _ (op_load_tree (own_cell (j := 0) H0.out rfl) ⟨_, rfl, rfl⟩) ?_))
  refine HK.out.mono ?_
  rintro e w3 ⟨rfl, hb3⟩
  obtain ⟨d0', HC3, H4⟩ := HT.out w3 hb3
  replace HC3 := hid HC3
  replace H4 := hid H4
  clear hb3 HT HK H0 d0'
  unfold kindT
  go_wp2_with fail
  refine HC3.out.mono ?_
  rintro e w4 ⟨rfl, hb4⟩
  obtain ⟨⟨d0, d3, dk⟩, HC, HF⟩ := H4.out w4 hb4
  replace HC := hid HC
  replace HF := hid HF
  clear hb4 H4 HC3
  go_wp2_with fail
  refine wp_region_held_drew (S := fun w' => Bo (w.heap.size + 1) w4 w') (by kernel_rfl) (Bo.of (below_drewN (Below.refl _ _) 1)) (fun hld => ?_)
  refine Rg.tk (i := 0) rfl ?_ (hy := by intro wz hSw; (refine op_load_tree (cell_bo hSw (by omega) d0) ?_; exact ⟨_, rfl, rfl⟩))
  try simp only [Act.put, Rg.s]
  refine Rg.tk (i := 1) rfl ?_
  try simp only [Act.put, Rg.s]
  refine Rg.tk (i := 2) rfl ?_
  try simp only [Act.put, Rg.s]
  refine Rg.tk (i := 3) rfl ?_ (hy := by intro wz hSw; have hcc := cell_bo hSw (by omega) d0; (try dsimp only at hSw); go_simp <;> with_reducible rfl)
  try simp only [Act.put, Rg.s]
  refine Rg.tk (i := 4) rfl ?_
  try simp only [Act.put, Rg.s]
  refine Rg.tk (i := 5) rfl ?_
  try simp only [Act.put, Rg.s]
  refine Rg.tk (i := 6) rfl ?_ (hy := by intro wz hSw; have hcc := cell_bo hSw (by omega) d3; (try dsimp only at hSw); go_simp <;> with_reducible rfl)
  try simp only [Act.put, Rg.s]
  refine Rg.tk (i := 7) rfl ?_
  try simp only [Act.put, Rg.s]
  refine Rg.tk (i := 8) rfl ?_ (hy := by intro wz hSw; (have q0 := hxi; have q1 := hx16; go_simp <;> with_reducible rfl))
  try simp only [Act.put, Rg.s]
  refine Rg.tk (i := 9) rfl ?_ (hy := by intro wz hSw; (refine op_load_tree (cell_bo hSw (by omega) dk) ?_; exact ⟨_, rfl, rfl⟩))
  try simp only [Act.put, Rg.s]
  refine Rg.tk (i := 10) rfl ?_
  try simp only [Act.put, Rg.s]
  refine Rg.tk (i := 11) rfl ?_
  try simp only [Act.put, Rg.s]
  refine Rg.rd (i := 12) rfl fun K hK => ?_
  go_simp
  go_at_call 37
  (with_reducible refine (HC.out w4.drew (below_drewN (Below.refl _ _) 1)).mono ?_)
  rintro e w5 ⟨rfl, hb5⟩
  simp +zetaDelta [bodyPost, Exit.then]
  exact bst (HF.out w4.drew (below_drewN (Below.refl _ _) 1)) hb5
theorem with_nil (M : Mp) (a : Option Addr) (n c : Nat) (way : Pa) (v : ByteArray) (w : World) (hi : Inv M w) (hW : Bs M w a n c way) : Calls Tryz.prog 37 #[.agg #[.pointer none], .slice a n c, .string v] w (GotT M w (.leaf way v)) := by
 obtain ⟨w2, hw2, hO0, hO1, hb2, hs2⟩ := enter2 w none
 have hi2 := hi.below hb2
 have HK := hid (kind_any M none .nil w2 hi2 rfl)
 have HT : Hid (∀ w3, Below w2.heap.size w2 w3 → Calls Tryz.prog 69 #[.slice a n c, .string v] w3 (GotT M w3 (.leaf way v)) ∧ ∀ e w9, GotT M w3 (.leaf way v) e w9 → ∃ p, e = .returned (tv p) ∧ Rg.Own w9 (w.heap.size + 1) #[.pointer none] 25 ∧ ∀ w10, Rg.Upd w9 (w.heap.size + 1) w10 → GotT M w (.leaf way v) (.returned (tv p)) w10) := hid (fun w3 hb3 =>
  ⟨leaf_any M _ _ _ _ _ w3 (hi2.below hb3) (hW.fr hi (Fr.below M (bst hb2 hb3))), fun e w9 hG => finish hi (Fr.below M (bst hb2 hb3)) (bst hb2 hb3) hG (hO1.below hb3) (one_no _) (by omega) (hi.free (by omega))⟩)
 have H0 := hid hO0
 clear hO0 hO1 hb2 hs2 hi hi2 hW
 subst hw2
 go_enter Tryz.func37, Tryz.ntmps37
 go_wp2_with (first | (refine Rg.run rfl _ _ (run_alloc_tree _ _ _ (w.heap.size + 1) (by simp) rfl) ?_) | (refine Rg.run rfl _ _ (op_load_tree (own_cell (j := 0) H0.out rfl) ⟨_, rfl, rfl⟩) ?_))
 refine HK.out.mono ?_
 rintro e w3 ⟨rfl, hb3⟩
 obtain ⟨HC, HF⟩ := HT.out w3 hb3
 replace HC := hid HC
 replace HF := hid HF
 clear hb3 HT HK H0
 unfold kindT
 go_wp2_with fail
 refine HC.out.mono ?_
 intro e w9 hG
 obtain ⟨p9, rfl, hO9, hE⟩ := HF.out e w9 hG
 have HO9 := hid hO9
 have HE := hid hE
 clear hG hO9 hE
 go_wp2_with (refine wpl_store_tree HO9.out (by decide) p9 rfl _ _ rfl rfl rfl ?_; intro w10 hO10 hu10; have HO10 := hid hO10; have HU10 := hid hu10; clear hO10 hu10)
 exact bodyPost_ret (res_tree rfl _ rfl HO10.out) rfl (HE.out w10 HU10.out)
theorem with_stub (M : Mp) (b : Nat) (r : ByteArray) (hm : M.at_ b = some (.stub r)) (a : Option Addr) (n c : Nat) (v : ByteArray) (w : World) (hi : Inv M w) : Calls Tryz.prog 37 #[.agg #[.pointer (some ⟨b, 0, none⟩)], .slice a n c, .string v] w (fun e w' => e = .panicked [errP 8] ∧ Below w.heap.size w w') := by
 obtain ⟨w2, hw2, hO0, hO1, hb2, hs2⟩ := enter2 w (some ⟨b, 0, none⟩)
 have hi2 := hi.below hb2
 have HK := hid (kind_any M _ _ w2 hi2 (isT_at hi2 hm))
 have H0 := hid hO0
 have HB : Hid (∀ w3, Below w2.heap.size w2 w3 → Below w.heap.size w w3) := hid (fun w3 hb3 => bst hb2 hb3)
 clear hO0 hO1 hb2 hs2 hi hi2 hm
 subst hw2
 go_enter Tryz.func37, Tryz.ntmps37
 go_wp2_with (first | (refine Rg.run rfl _ _ (run_alloc_tree _ _ _ (w.heap.size + 1) (by simp) rfl) ?_) | (refine Rg.run rfl _ _ (op_load_tree (own_cell (j := 0) H0.out rfl) ⟨_, rfl, rfl⟩) ?_))
 refine HK.out.mono ?_
 rintro e w3 ⟨rfl, hb3⟩
 have HB3 := hid (HB.out w3 hb3)
 clear hb3 HB HK H0
 unfold kindT
 go_wp2
 simp +zetaDelta [bodyPost, Exit.then, errP]
 exact HB3.out
theorem with_along (M : Mp) (b : Nat) (t : T) (hm : M.at_ b = some t) (hk : kindT t = 1 ∨ kindT t = 2) (a : Option Addr) (n c : Nat) (v : ByteArray) (R : T) (w : World) (hi : Inv M w)
  (hal : ∀ w3, Below w.heap.size w w3 → Calls Tryz.prog 68 #[.agg #[.pointer (some ⟨b, 0, none⟩)], .slice a n c, .string v] w3 (GotT M w3 R)) :
  Calls Tryz.prog 37 #[.agg #[.pointer (some ⟨b, 0, none⟩)], .slice a n c, .string v] w (GotT M w R) := by
 obtain ⟨w2, hw2, hO0, hO1, hb2, hs2⟩ := enter2 w (some ⟨b, 0, none⟩)
 have hi2 := hi.below hb2
 have HK := hid (kind_any M _ _ w2 hi2 (isT_at hi2 hm))
 have h0 := own_cell (j := 0) hO0 rfl
 have HT : Hid (∀ w3, Below w2.heap.size w2 w3 → w3.cell? ⟨w.heap.size, 0, none⟩ = some (.pointer (some ⟨b, 0, none⟩)) ∧ Calls Tryz.prog 68 #[.agg #[.pointer (some ⟨b, 0, none⟩)], .slice a n c, .string v] w3 (GotT M w3 R) ∧ ∀ e w9, GotT M w3 R e w9 → ∃ p, e = .returned (tv p) ∧ Rg.Own w9 (w.heap.size + 1) #[.pointer none] 25 ∧ ∀ w10, Rg.Upd w9 (w.heap.size + 1) w10 → GotT M w R (.returned (tv p)) w10) := hid (fun w3 hb3 =>
  ⟨cell_on hb3 h0, hal w3 (bst hb2 hb3), fun e w9 hG => finish hi (Fr.below M (bst hb2 hb3)) (bst hb2 hb3) hG (hO1.below hb3) (one_no _) (by omega) (hi.free (by omega))⟩)
 have H0 := hid hO0
 obtain ⟨k, hkk⟩ : ∃ k, kindT t = k := ⟨_, rfl⟩
 rw [hkk] at HK hk
 clear hO0 hO1 hb2 hs2 hi hi2 hal hm hkk h0
 subst hw2
 rcases hk with rfl | rfl
 all_goals
  go_enter Tryz.func37, Tryz.ntmps37
  go_wp2_with (first | (refine Rg.run rfl _ _ (run_alloc_tree _ _ _ (w.heap.size + 1) (by simp) rfl) ?_) | (refine Rg.run rfl _ _ (op_load_tree (own_cell (j := 0) H0.out rfl) ⟨_, rfl, rfl⟩) ?_))
  refine HK.out.mono ?_
  rintro e w3 ⟨rfl, hb3⟩
  obtain ⟨d0, HC, HF⟩ := HT.out w3 hb3
  replace HC := hid HC
  replace HF := hid HF
  clear hb3 HT HK H0
  go_wp2_with (refine Rg.run rfl _ _ (op_load_tree d0 ⟨_, rfl, rfl⟩) ?_)
  refine HC.out.mono ?_
  intro e w9 hG
  obtain ⟨p9, rfl, hO9, hE⟩ := HF.out e w9 hG
  have HO9 := hid hO9
  have HE := hid hE
  clear hG hO9 hE
  go_wp2_with (refine wpl_store_tree HO9.out (by decide) p9 rfl _ _ rfl rfl rfl ?_; intro w10 hO10 hu10; have HO10 := hid hO10; have HU10 := hid hu10; clear hO10 hu10)
  exact bodyPost_ret (res_tree rfl _ rfl HO10.out) rfl (HE.out w10 HU10.out)
theorem with_along_stub (M : Mp) (b : Nat) (t : T) (hm : M.at_ b = some t) (hk : kindT t = 2) (a : Option Addr) (n c : Nat) (v : ByteArray) (w : World) (hi : Inv M w)
  (hal : ∀ w3, Below w.heap.size w w3 → Calls Tryz.prog 68 #[.agg #[.pointer (some ⟨b, 0, none⟩)], .slice a n c, .string v] w3 (fun e w' => e = .panicked [errP 8] ∧ Below w3.heap.size w3 w')) :
  Calls Tryz.prog 37 #[.agg #[.pointer (some ⟨b, 0, none⟩)], .slice a n c, .string v] w (fun e w' => e = .panicked [errP 8] ∧ Below w.heap.size w w') := by
 obtain ⟨w2, hw2, hO0, hO1, hb2, hs2⟩ := enter2 w (some ⟨b, 0, none⟩)
 have hi2 := hi.below hb2
 have HK := hid (kind_any M _ _ w2 hi2 (isT_at hi2 hm))
 rw [hk] at HK
 have h0 := own_cell (j := 0) hO0 rfl
 have HT : Hid (∀ w3, Below w2.heap.size w2 w3 → w3.cell? ⟨w.heap.size, 0, none⟩ = some (.pointer (some ⟨b, 0, none⟩)) ∧ Calls Tryz.prog 68 #[.agg #[.pointer (some ⟨b, 0, none⟩)], .slice a n c, .string v] w3 (fun e w' => e = .panicked [errP 8] ∧ Below w3.heap.size w3 w') ∧ Below w.heap.size w w3) := hid (fun w3 hb3 =>
  ⟨cell_on hb3 h0, hal w3 (bst hb2 hb3), bst hb2 hb3⟩)
 have H0 := hid hO0
 clear hO0 hO1 hb2 hs2 hi hi2 hal hm hk h0
 subst hw2
 go_enter Tryz.func37, Tryz.ntmps37
 go_wp2_with (first | (refine Rg.run rfl _ _ (run_alloc_tree _ _ _ (w.heap.size + 1) (by simp) rfl) ?_) | (refine Rg.run rfl _ _ (op_load_tree (own_cell (j := 0) H0.out rfl) ⟨_, rfl, rfl⟩) ?_))
 refine HK.out.mono ?_
 rintro e w3 ⟨rfl, hb3⟩
 obtain ⟨d0, HC, HB⟩ := HT.out w3 hb3
 replace HC := hid HC
 replace HB := hid HB
 clear hb3 HT HK H0
 go_wp2_with (refine Rg.run rfl _ _ (op_load_tree d0 ⟨_, rfl, rfl⟩) ?_)
 refine HC.out.mono ?_
 rintro e w9 ⟨rfl, hb9⟩
 have HB9 := hid (bst HB.out hb9)
 clear hb9 HB
 go_wp2
 simp +zetaDelta [bodyPost, Exit.then]
 exact HB9.out
theorem fork_as (q way : Pa) (f : Pa → T) (v : ByteArray) : fork q f way v = wrap (way.take (cp q way)) (two (nb (q.getD (cp q way) 0)) (nb (way.getD (cp q way) 0)) (f (q.drop (cp q way + 1))) (.leaf (way.drop (cp q way + 1)) v)) := by
 unfold fork
 rw [cp_take _ _ _ (Nat.le_refl _)]
def WithC (t : T) : Prop := ∀ (M : Mp) (w : World) (p : Option Addr) (a : Option Addr) (n c : Nat) (way : Pa) (v : ByteArray), Inv M w → IsT M p t → Bs M w a n c way → Tr.Good t way.length → Nib way → way.length ≤ 64 →
 (Tr.get t way = none → Calls Tryz.prog 37 #[.agg #[.pointer p], .slice a n c, .string v] w fun e w' => e = .panicked [errP 8] ∧ Below w.heap.size w w') ∧
 (Tr.get t way ≠ none → Calls Tryz.prog 37 #[.agg #[.pointer p], .slice a n c, .string v] w (GotT M w (put t way v)))
theorem with_any (t : T) : WithC t := by
 induction t with
 | nil =>
  intro M w p a n c way v hi ht hW hg hn hl
  refine ⟨fun h => (by cases h), fun _ => ?_⟩
  obtain rfl : p = none := ht.nil_iff.2 rfl
  exact with_nil M a n c way v w hi hW
 | stub r =>
  intro M w p a n c way v hi ht hW hg hn hl
  refine ⟨fun _ => ?_, fun h => absurd rfl h⟩
  obtain ⟨b, rfl, hm⟩ := ht.at_ (fun e => by cases e)
  exact with_stub M b r hm a n c v w hi
 | leaf q u =>
  intro M w p a n c way v hi ht hW hg hn hl
  refine ⟨fun h => (by cases h), fun _ => ?_⟩
  obtain ⟨b, rfl, hm⟩ := ht.at_ (fun e => by cases e)
  refine with_along M b _ hm (Or.inl rfl) a n c v _ w hi (fun w3 hb3 => ?_)
  have hi3 := hi.below hb3
  have hW3 := hW.fr hi (Fr.below M hb3)
  by_cases e : q = way
  ·have : put (.leaf q u) way v = .leaf q v := by
    unfold put
    rw [if_pos e, e]
   rw [this]
   exact along_leaf M b u q hm w3 hi3 a n c way v hW3 hl (Nat.le_of_eq hg.1) e
  ·have : put (.leaf q u) way v = fork q (fun r => .leaf r u) way v := by
    unfold put
    rw [if_neg e]
   rw [this, fork_as]
   have hpre : ¬ q <+: way := fun h => e (h.eq_of_length hg.1)
   exact along_split M b _ hm w3 hi3 a n c way v hW3 hl (Nat.le_of_eq hg.1) hpre hg.2 hn _ (fun wx M' hix hmx => cut_leaf M' b q u hmx _ (Nat.succ_le_of_lt (cp_not hpre)) wx hix)
 | ext q s ih =>
  intro M w p a n c way v hi ht hW hg hn hl
  obtain ⟨b, rfl, hm⟩ := ht.at_ (fun e => by cases e)
  obtain ⟨g1, g2, g3, g4, g5⟩ := hg
  by_cases e : q <+: way
  ·have hgs : Tr.Good s (way.drop q.length).length := by rw [List.length_drop]; exact g5
   have hget : Tr.get (.ext q s) way = Tr.get s (way.drop q.length) := by
    show (if q <+: way then Tr.get s (way.drop q.length) else some none) = _
    rw [if_pos e]
   rw [hget]
   have hld : (way.drop q.length).length ≤ 64 := by rw [List.length_drop]; omega
   refine ⟨fun h => ?_, fun h => ?_⟩
   ·refine with_along_stub M b _ hm rfl a n c v w hi (fun w3 hb3 => ?_)
    exact along_stub M b q s hm w3 (hi.below hb3) a n c way v (hW.fr hi (Fr.below M hb3)) hl g3 e (fun M' w' p' a' n' c' hi' ht' hW' => (ih M' w' p' a' n' c' _ v hi' ht' hW' hgs (hn.drop _) hld).1 h)
   ·have hput : put (.ext q s) way v = .ext q (put s (way.drop q.length) v) := by
     show (if q <+: way then _ else _) = _
     rw [if_pos e]
    rw [hput]
    refine with_along M b _ hm (Or.inr rfl) a n c v _ w hi (fun w3 hb3 => ?_)
    exact along_ext M b q s hm w3 (hi.below hb3) a n c way v (hW.fr hi (Fr.below M hb3)) hl g3 e g1 h (fun M' w' p' a' n' c' hi' ht' hW' => (ih M' w' p' a' n' c' _ v hi' ht' hW' hgs (hn.drop _) hld).2 h)
  ·have hget : Tr.get (.ext q s) way = some none := by
    show (if q <+: way then Tr.get s (way.drop q.length) else some none) = _
    rw [if_neg e]
   rw [hget]
   refine ⟨fun h => (by cases h), fun _ => ?_⟩
   have hput : put (.ext q s) way v = fork q (fun r => wrap r s) way v := by
    show (if q <+: way then _ else _) = _
    rw [if_neg e]
   rw [hput, fork_as]
   refine with_along M b _ hm (Or.inr rfl) a n c v _ w hi (fun w3 hb3 => ?_)
   exact along_split M b _ hm w3 (hi.below hb3) a n c way v (hW.fr hi (Fr.below M hb3)) hl g3 e g2 hn _ (fun wx M' hix hmx => cut_ext M' b q s hmx _ (Nat.succ_le_of_lt (cp_not e)) wx hix)
 | br ks ih =>
  intro M w p a n c way v hi ht hW hg hn hl
  obtain ⟨b, rfl, hm⟩ := ht.at_ (fun e => by cases e)
  cases way with
  | nil => exact absurd hg.1 (Nat.lt_irrefl 0)
  | cons c0 r =>
   have hl' : r.length ≤ 64 := by simp at hl; omega
   have hgi : Tr.Good (ks (nb c0)) r.length := hg.2.2 (nb c0)
   refine ⟨fun h => ?_, fun h => ?_⟩
   ·exact with_br_stub ks M b hm w hi a n c c0 r v hW hn.head hl (fun M' w' p' a' n' c' hi' ht' hW' => (ih (nb c0) M' w' p' a' n' c' r v hi' ht' hW' hgi hn.tail hl').1 h)
   ·have hput : put (.br ks) (c0 :: r) v = .br fun j => if j = nb c0 then put (ks (nb c0)) r v else ks j := by
     show T.br _ = T.br _
     congr 1
     funext j
     by_cases e : j = nb c0
     ·subst e; rfl
     ·rw [if_neg e, if_neg e]
    rw [hput]
    exact with_br ks M b hm w hi a n c c0 r v hW hn.head hl (fun M' w' p' a' n' c' hi' ht' hW' => (ih (nb c0) M' w' p' a' n' c' r v hi' ht' hW' hgi hn.tail hl').2 h)
end Tm
end
section
open Go.RowKit
namespace Tm
open Tr Ni Pk
def foundE : Option (Option ByteArray) → Ending
 | none => .panicked [errP 8]
 | some none => .panicked [errP 7]
 | some (some v) => .returned (.string v)
def FindC (t : T) : Prop := ∀ (M : Mp) (w : World) (p : Option Addr) (a : Option Addr) (n c : Nat) (way : Pa), Inv M w → IsT M p t → IsBs w a n c way → Tr.Good t way.length → Nib way → way.length ≤ 64 →
 Calls Tryz.prog 35 #[.agg #[.pointer p], .slice a n c] w fun e w' => e = foundE (Tr.get t way) ∧ Below w.heap.size w w'
theorem find_nil (M : Mp) (a : Option Addr) (n c : Nat) (w : World) (hi : Inv M w) : Calls Tryz.prog 35 #[.agg #[.pointer none], .slice a n c] w fun e w' => e = .panicked [errP 7] ∧ Below w.heap.size w w' := by
 have h0 := box_tree w none
 have HK := hid (kind_any M none .nil (w.alloc (.cells #[.pointer none] 25)) (hi.below (al1 _ _)) rfl)
 clear hi
 go_enter Tryz.func35, Tryz.ntmps35
 go_wp2_with (refine Rg.run rfl _ _ (op_load_tree h0 ⟨_, rfl, rfl⟩) ?_)
 refine HK.out.mono ?_
 rintro e w3 ⟨rfl, hb3⟩
 have HB := hid (bst (al1 _ _) hb3)
 unfold kindT
 clear h0 hb3 HK
 go_wp2
 simp +zetaDelta [bodyPost, Exit.then, errP]
 exact HB.out
theorem find_stub (M : Mp) (b : Nat) (r : ByteArray) (hm : M.at_ b = some (.stub r)) (a : Option Addr) (n c : Nat) (w : World) (hi : Inv M w) : Calls Tryz.prog 35 #[.agg #[.pointer (some ⟨b, 0, none⟩)], .slice a n c] w fun e w' => e = .panicked [errP 8] ∧ Below w.heap.size w w' := by
 have h0 := box_tree w (some ⟨b, 0, none⟩)
 have HK := hid (kind_any M _ _ (w.alloc (.cells #[.pointer (some ⟨b, 0, none⟩)] 25)) (hi.below (al1 _ _)) (isT_at (w := w) hi hm))
 clear hi hm
 go_enter Tryz.func35, Tryz.ntmps35
 go_wp2_with (refine Rg.run rfl _ _ (op_load_tree h0 ⟨_, rfl, rfl⟩) ?_)
 refine HK.out.mono ?_
 rintro e w3 ⟨rfl, hb3⟩
 have HB := hid (bst (al1 _ _) hb3)
 unfold kindT
 clear h0 hb3 HK
 go_wp2
 simp +zetaDelta [bodyPost, Exit.then, errP]
 exact HB.out
theorem find_leaf (M : Mp) (b : Nat) (q : Pa) (u : ByteArray) (hm : M.at_ b = some (.leaf q u)) (a : Option Addr) (n c : Nat) (way : Pa) (w : World) (hi : Inv M w) (hB : IsBs w a n c way) (hl : q.length = way.length) (h64 : way.length ≤ 64) :
  Calls Tryz.prog 35 #[.agg #[.pointer (some ⟨b, 0, none⟩)], .slice a n c] w fun e w' => e = foundE (Tr.get (.leaf q u) way) ∧ Below w.heap.size w w' := by
 have h0 := box_tree w (some ⟨b, 0, none⟩)
 obtain ⟨w1, hw1⟩ : ∃ w1, w1 = w.alloc (.cells #[.pointer (some ⟨b, 0, none⟩)] 25) := ⟨_, rfl⟩
 have hb1 : Below w.heap.size w w1 := by rw [hw1]; exact al1 _ _
 have hi1 := hi.below hb1
 have hn := hB.len
 rw [← hw1] at h0
 have HK := hid (kind_any M _ _ w1 hi1 (isT_at hi1 hm))
 have c2 : w1.cell? ⟨b, 2, none⟩ = some (.string u) := hi1.val hm
 have H3 : Hid (∀ w3, Below w1.heap.size w1 w3 → w3.cell? ⟨w.heap.size, 0, none⟩ = some (.pointer (some ⟨b, 0, none⟩)) ∧ Calls Tryz.prog 66 #[.agg #[.pointer (some ⟨b, 0, none⟩)], .slice a n c] w3 (fun e w' => e = (if q = way then .returned (.tuple #[]) else .panicked [errP 7]) ∧ Below w3.heap.size w3 w') ∧
   ∀ w4, Below w3.heap.size w3 w4 → w4.cell? ⟨w.heap.size, 0, none⟩ = some (.pointer (some ⟨b, 0, none⟩)) ∧ w4.cell? ⟨b, 2, none⟩ = some (.string u) ∧ Below w.heap.size w w4) := hid (fun w3 hb3 =>
  ⟨cell_on hb3 h0, end_any M b _ hm a n c way w3 (hi1.below hb3) (hB.below (bst hb1 hb3)) (by rw [← hn]; exact hl) (by omega), fun w4 hb4 => ⟨cell_on hb4 (cell_on hb3 h0), cell_on hb4 (cell_on hb3 c2), bst (bst hb1 hb3) hb4⟩⟩)
 have hg : Tr.get (.leaf q u) way = some (if q = way then some u else none) := rfl
 rw [hg]
 clear hg hi hi1 hb1 hn c2 hl hm hB
 subst hw1
 by_cases e : q = way
 ·simp only [if_pos e] at H3 ⊢
  clear e
  go_enter Tryz.func35, Tryz.ntmps35
  go_wp2_with (refine Rg.run rfl _ _ (op_load_tree h0 ⟨_, rfl, rfl⟩) ?_)
  refine HK.out.mono ?_
  rintro e w3 ⟨rfl, hb3⟩
  obtain ⟨d0, HC, H4⟩ := H3.out w3 hb3
  replace HC := hid HC
  replace H4 := hid H4
  unfold kindT
  clear h0 hb3 HK H3
  go_wp2_with (refine Rg.run rfl _ _ (op_load_tree d0 ⟨_, rfl, rfl⟩) ?_)
  refine HC.out.mono ?_
  rintro e w4 ⟨rfl, hb4⟩
  obtain ⟨e0, e2, HB⟩ := H4.out w4 hb4
  replace HB := hid HB
  clear hb4 H4 d0 HC
  go_wp2
  go_ret
  exact ⟨rfl, HB.out⟩
 ·simp only [if_neg e] at H3 ⊢
  clear e
  go_enter Tryz.func35, Tryz.ntmps35
  go_wp2_with (refine Rg.run rfl _ _ (op_load_tree h0 ⟨_, rfl, rfl⟩) ?_)
  refine HK.out.mono ?_
  rintro e w3 ⟨rfl, hb3⟩
  obtain ⟨d0, HC, H4⟩ := H3.out w3 hb3
  replace HC := hid HC
  replace H4 := hid H4
  unfold kindT
  clear h0 hb3 HK H3
  go_wp2_with (refine Rg.run rfl _ _ (op_load_tree d0 ⟨_, rfl, rfl⟩) ?_)
  refine HC.out.mono ?_
  rintro e w4 ⟨rfl, hb4⟩
  obtain ⟨e0, e2, HB⟩ := H4.out w4 hb4
  replace HB := hid HB
  clear hb4 H4 d0 HC
  go_wp2
  simp +zetaDelta [bodyPost, Exit.then, errP, foundE]
  exact HB.out
theorem find_br (ks : Fin 16 → T) (M : Mp) (b : Nat) (hm : M.at_ b = some (.br ks)) (w : World) (hi : Inv M w) (wa : Option Addr) (wn wc : Nat) (c0 : UInt8) (r : Pa) (hW : IsBs w wa wn wc (c0 :: r)) (hc0 : c0.toNat < 16) (hlen : (c0 :: r).length ≤ 64) (g : Option (Option ByteArray))
  (ih : ∀ w' p a n c, Inv M w' → IsT M p (ks (nb c0)) → IsBs w' a n c r → Calls Tryz.prog 35 #[.agg #[.pointer p], .slice a n c] w' (fun e w'' => e = foundE g ∧ Below w'.heap.size w' w'')) :
  Calls Tryz.prog 35 #[.agg #[.pointer (some ⟨b, 0, none⟩)], .slice wa wn wc] w (fun e w' => e = foundE g ∧ Below w.heap.size w w') := by
 have h0 := box_tree w (some ⟨b, 0, none⟩)
 obtain ⟨w1, hw1⟩ : ∃ w1, w1 = w.alloc (.cells #[.pointer (some ⟨b, 0, none⟩)] 25) := ⟨_, rfl⟩
 have hb1 : Below w.heap.size w w1 := by rw [hw1]; exact al1 _ _
 have hi1 := hi.below hb1
 rw [← hw1] at h0
 have hwl : (c0 :: r).length = wn := hW.len
 have hwl' : r.length + 1 = wn := by rw [← hwl]; rfl
 have HK := hid (kind_any M _ _ w1 hi1 (isT_at hi1 hm))
 obtain ⟨ka, kn, kc, c3, hKs⟩ := hi1.kids hm
 have hkn : kn = 16 := by rw [← hKs.len]; exact parts_br_len ks
 subst hkn
 have hnx : ((nb c0).val : Nat) = c0.toNat := Nat.mod_eq_of_lt hc0
 obtain ⟨kb, ko, p0, rfl, hklt, hkf, hk0, hT0⟩ := hKs.at' c0.toNat hc0
 have hT0' : IsT M p0 (ks (nb c0)) := by
  rw [← hnx, parts_br_at] at hT0
  exact hT0
 have hkc := hKs.1
 have hkm := hKs.2.1
 unfold maxLen at hkm
 have hx16 : c0.toNat < 16 := hc0
 have hxi : ((c0.toNat : Nat) : Int) < 16 := by omega
 have HT : Hid (∀ w3, Below w1.heap.size w1 w3 → w3.cell? ⟨w.heap.size, 0, none⟩ = some (.pointer (some ⟨b, 0, none⟩)) ∧ Calls Tryz.prog 61 #[.slice wa wn wc] w3 (fun e w' => e = .returned (.tuple #[.int .u8 c0.toNat, .slice (fromA wa wc 1) (wn - 1) (wc - 1)]) ∧ Below w3.heap.size w3 w') ∧
   ∀ w4, Below w3.heap.size w3 w4 → (w4.cell? ⟨w.heap.size, 0, none⟩ = some (.pointer (some ⟨b, 0, none⟩)) ∧ w4.cell? ⟨b, 3, none⟩ = some (.slice (some ⟨kb, ko, none⟩) 16 kc) ∧ w4.cell? ⟨kb, ko + c0.toNat, none⟩ = some (.pointer p0)) ∧
   Calls Tryz.prog 35 #[.agg #[.pointer p0], .slice (fromA wa wc 1) (wn - 1) (wc - 1)] w4 (fun e w'' => e = foundE g ∧ Below w4.heap.size w4 w'') ∧ ∀ w5, Below w4.heap.size w4 w5 → Below w.heap.size w w5) := hid (fun w3 hb3 =>
  ⟨cell_on hb3 h0, turn_any wa wn wc (c0 :: r) (by omega) w3 (hW.below (bst hb1 hb3)), fun w4 hb4 => ⟨⟨cell_on hb4 (cell_on hb3 h0), cell_on hb4 (cell_on hb3 c3), cell_on hb4 (cell_on hb3 hk0)⟩, (by
   have hB := bst hb1 (bst hb3 hb4)
   refine ih w4 p0 _ _ _ (hi.below hB) hT0' ?_
   exact bs_from (hW.below hB) 1 (by omega)), fun w5 hb5 => bst (bst (bst hb1 hb3) hb4) hb5⟩⟩)
 clear hi hi1 hb1 hm hW hwl hKs hT0 hT0' c3 hk0 ih
 subst hw1
 match g with
 | none | some none =>
  go_enter Tryz.func35, Tryz.ntmps35
  go_wp2_with (refine Rg.run rfl _ _ (op_load_tree h0 ⟨_, rfl, rfl⟩) ?_)
  refine HK.out.mono ?_
  rintro e w3 ⟨rfl, hb3⟩
  obtain ⟨d0', HC3, H4⟩ := HT.out w3 hb3
  replace HC3 := hid HC3
  replace H4 := hid H4
  unfold kindT
  clear hb3 HT HK h0 d0'
  go_wp2_with fail
  refine HC3.out.mono ?_
  rintro e w4 ⟨rfl, hb4⟩
  obtain ⟨⟨d0, d3, dk⟩, HC, HB⟩ := H4.out w4 hb4
  replace HC := hid HC
  replace HB := hid HB
  clear hb4 H4 HC3
  go_wp2_with (refine Rg.run rfl _ _ (op_load_tree dk ⟨_, rfl, rfl⟩) ?_)
  refine HC.out.mono ?_
  rintro e w5 ⟨rfl, hb5⟩
  have HB5 := hid (HB.out w5 hb5)
  clear hb5 HB HC
  unfold foundE
  go_wp2
  simp +zetaDelta [bodyPost, Exit.then]
  exact ⟨rfl, HB5.out⟩
 | some (some v) =>
  go_enter Tryz.func35, Tryz.ntmps35
  go_wp2_with (refine Rg.run rfl _ _ (op_load_tree h0 ⟨_, rfl, rfl⟩) ?_)
  refine HK.out.mono ?_
  rintro e w3 ⟨rfl, hb3⟩
  obtain ⟨d0', HC3, H4⟩ := HT.out w3 hb3
  replace HC3 := hid HC3
  replace H4 := hid H4
  unfold kindT
  clear hb3 HT HK h0 d0'
  go_wp2_with fail
  refine HC3.out.mono ?_
  rintro e w4 ⟨rfl, hb4⟩
  obtain ⟨⟨d0, d3, dk⟩, HC, HB⟩ := H4.out w4 hb4
  replace HC := hid HC
  replace HB := hid HB
  clear hb4 H4 HC3
  go_wp2_with (refine Rg.run rfl _ _ (op_load_tree dk ⟨_, rfl, rfl⟩) ?_)
  refine HC.out.mono ?_
  rintro e w5 ⟨rfl, hb5⟩
  have HB5 := hid (HB.out w5 hb5)
  clear hb5 HB HC
  unfold foundE
  go_wp2
  go_ret
  exact ⟨rfl, HB5.out⟩
theorem find_ext (q : Pa) (s : T) (M : Mp) (b : Nat) (hm : M.at_ b = some (.ext q s)) (w : World) (hi : Inv M w) (wa : Option Addr) (wn wc : Nat) (way : Pa) (hW : IsBs w wa wn wc way) (hlen : way.length ≤ 64) (hle : q.length ≤ way.length) (h : q <+: way) (g : Option (Option ByteArray))
  (ih : ∀ w' p a n c, Inv M w' → IsT M p s → IsBs w' a n c (way.drop q.length) → Calls Tryz.prog 35 #[.agg #[.pointer p], .slice a n c] w' (fun e w'' => e = foundE g ∧ Below w'.heap.size w' w'')) :
  Calls Tryz.prog 35 #[.agg #[.pointer (some ⟨b, 0, none⟩)], .slice wa wn wc] w (fun e w' => e = foundE g ∧ Below w.heap.size w w') := by
  have h0 := box_tree w (some ⟨b, 0, none⟩)
  obtain ⟨w1, hw1⟩ : ∃ w1, w1 = w.alloc (.cells #[.pointer (some ⟨b, 0, none⟩)] 25) := ⟨_, rfl⟩
  have hb1 : Below w.heap.size w w1 := by rw [hw1]; exact al1 _ _
  have hi1 := hi.below hb1
  rw [← hw1] at h0
  have hwl : way.length = wn := hW.len
  have HK := hid (kind_any M _ _ w1 hi1 (isT_at hi1 hm))
  obtain ⟨ka, kn, kc, c3, hKs⟩ := hi1.kids hm
  obtain ⟨kb, ko, p0, rfl, hklt, hkf, hk0, hT0⟩ := hKs.at' 0 (by rw [← hKs.len]; exact Nat.one_pos)
  have hkn : kn = 1 := hKs.len.symm
  have hkc := hKs.1
  have hkm := hKs.2.1
  unfold maxLen at hkm
  rw [Nat.add_zero] at hk0
  have hT0' : IsT M p0 s := hT0
  have HT : Hid (∀ w3, Below w1.heap.size w1 w3 → (w3.cell? ⟨w.heap.size, 0, none⟩ = some (.pointer (some ⟨b, 0, none⟩)) ∧ w3.cell? ⟨b, 3, none⟩ = some (.slice (some ⟨kb, ko, none⟩) kn kc) ∧ w3.cell? ⟨kb, ko, none⟩ = some (.pointer p0)) ∧
    (∀ wx, Below w3.heap.size w3 wx → Calls Tryz.prog 64 #[.agg #[.pointer (some ⟨b, 0, none⟩)], .slice wa wn wc] wx (fun e w' => e = .returned (.slice (fromA wa wc q.length) (wn - q.length) (wc - q.length)) ∧ Below wx.heap.size wx w')) ∧ (∀ wx, Below w3.heap.size w3 wx → Calls Tryz.prog 35 #[.agg #[.pointer p0], .slice (fromA wa wc q.length) (wn - q.length) (wc - q.length)] wx (fun e w'' => e = foundE g ∧ Below wx.heap.size wx w'')) ∧ ∀ wx, Below w3.heap.size w3 wx → Below w.heap.size w wx) := hid (fun w3 hb3 =>
   ⟨⟨cell_on hb3 h0, cell_on hb3 c3, cell_on hb3 hk0⟩, fun wx hbx => (by
    have := pass_any M b _ hm wa wn wc way wx (hi1.below (bst hb3 hbx)) (hW.below (bst (bst hb1 hb3) hbx)) (by rw [← hwl]; exact hle) (by omega)
    rw [show (pathT (.ext q s)) = q from rfl, if_pos h] at this
    exact this), fun wx hbx => (by
     have hB := bst (bst hb1 hb3) hbx
     exact ih wx p0 _ _ _ (hi.below hB) hT0' (bs_from (hW.below hB) _ (by rw [← hwl]; exact hle))), fun wx hbx => bst (bst hb1 hb3) hbx⟩)
  clear hi hi1 hb1 hm hW hwl hKs hT0 hT0' c3 hk0 ih
  subst hw1
  match g with
  | none | some none =>
  go_enter Tryz.func35, Tryz.ntmps35
  go_wp2_with (refine Rg.run rfl _ _ (op_load_tree h0 ⟨_, rfl, rfl⟩) ?_)
  refine HK.out.mono ?_
  rintro e w3 ⟨rfl, hb3⟩
  obtain ⟨⟨d0, d3, dk⟩, HP, HFi, HBw⟩ := HT.out w3 hb3
  replace HP := hid HP
  replace HFi := hid HFi
  replace HBw := hid HBw
  unfold kindT
  clear hb3 HT HK h0
  go_wp2_with fail
  refine wp_region_held_drew (S := fun w' => Below w3.heap.size w3 w') (by kernel_rfl) ((below_drewN (Below.refl _ _) 1)) (fun hld => ?_)
  refine Rg.tk (i := 0) rfl ?_
  try simp only [Act.put, Rg.s]
  refine Rg.tk (i := 1) rfl ?_ (hy := by intro wz hSw; have hcc := cell_on hSw d0; (try dsimp only at hSw); go_simp <;> with_reducible rfl)
  try simp only [Act.put, Rg.s]
  refine Rg.tk (i := 2) rfl ?_
  try simp only [Act.put, Rg.s]
  refine Rg.tk (i := 3) rfl ?_
  try simp only [Act.put, Rg.s]
  refine Rg.tk (i := 4) rfl ?_ (hy := by intro wz hSw; have hcc := cell_on hSw d3; (try dsimp only at hSw); go_simp <;> with_reducible rfl)
  try simp only [Act.put, Rg.s]
  refine Rg.tk (i := 5) rfl ?_
  try simp only [Act.put, Rg.s]
  refine Rg.tk (i := 6) rfl ?_ (hy := by intro wz hSw; (refine op_load_tree (cell_on hSw dk) ?_; exact ⟨_, rfl, rfl⟩))
  try simp only [Act.put, Rg.s]
  refine Rg.tk (i := 7) rfl ?_ (hy := by intro wz hSw; (refine op_load_tree (cell_on hSw d0) ?_; exact ⟨_, rfl, rfl⟩))
  try simp only [Act.put, Rg.s]
  refine Rg.tk (i := 8) rfl ?_
  try simp only [Act.put, Rg.s]
  refine Rg.rd (i := 9) rfl fun K hK => ?_
  go_simp
  go_at_call 64
  (with_reducible refine (HP.out w3.drew (below_drewN (Below.refl _ _) 1)).mono ?_)
  rintro e w5 ⟨rfl, hb5⟩
  have HB5 : Hid (Below w3.heap.size w3 w5) := hid (bst (below_drewN (Below.refl _ _) 1) hb5)
  clear hb5
  refine hK.out _ _ ?_ (fun hld => ?_)
  ·exact HB5.out
  clear hK K
  try simp only [Act.put, Rg.s]
  refine Rg.rd (i := 10) rfl fun K hK => ?_
  go_simp
  go_at_call 35
  (with_reducible refine (HFi.out w5 HB5.out).mono ?_)
  rintro e w6 ⟨rfl, hb6⟩
  have HB6 : Hid (Below w3.heap.size w3 w6) := hid (bst HB5.out hb6)
  clear hb6
  simp +zetaDelta [bodyPost, Exit.then, foundE]
  exact HBw.out w6 HB6.out
  | some (some v) =>
  go_enter Tryz.func35, Tryz.ntmps35
  go_wp2_with (refine Rg.run rfl _ _ (op_load_tree h0 ⟨_, rfl, rfl⟩) ?_)
  refine HK.out.mono ?_
  rintro e w3 ⟨rfl, hb3⟩
  obtain ⟨⟨d0, d3, dk⟩, HP, HFi, HBw⟩ := HT.out w3 hb3
  replace HP := hid HP
  replace HFi := hid HFi
  replace HBw := hid HBw
  unfold kindT
  clear hb3 HT HK h0
  go_wp2_with fail
  refine wp_region_noPanic ?_
  refine wp_region_held_drew (S := fun w' => Below w3.heap.size w3 w') (by kernel_rfl) ((below_drewN (Below.refl _ _) 1)) (fun hld => ?_)
  refine Rg.tk (i := 0) rfl ?_
  try simp only [Act.put, Rg.s]
  refine Rg.tk (i := 1) rfl ?_ (hy := by intro wz hSw; have hcc := cell_on hSw d0; (try dsimp only at hSw); go_simp <;> with_reducible rfl)
  try simp only [Act.put, Rg.s]
  refine Rg.tk (i := 2) rfl ?_
  try simp only [Act.put, Rg.s]
  refine Rg.tk (i := 3) rfl ?_
  try simp only [Act.put, Rg.s]
  refine Rg.tk (i := 4) rfl ?_ (hy := by intro wz hSw; have hcc := cell_on hSw d3; (try dsimp only at hSw); go_simp <;> with_reducible rfl)
  try simp only [Act.put, Rg.s]
  refine Rg.tk (i := 5) rfl ?_
  try simp only [Act.put, Rg.s]
  refine Rg.tk (i := 6) rfl ?_ (hy := by intro wz hSw; (refine op_load_tree (cell_on hSw dk) ?_; exact ⟨_, rfl, rfl⟩))
  try simp only [Act.put, Rg.s]
  refine Rg.tk (i := 7) rfl ?_ (hy := by intro wz hSw; (refine op_load_tree (cell_on hSw d0) ?_; exact ⟨_, rfl, rfl⟩))
  try simp only [Act.put, Rg.s]
  refine Rg.tk (i := 8) rfl ?_
  try simp only [Act.put, Rg.s]
  refine Rg.rd (i := 9) rfl fun K hK => ?_
  go_simp
  go_at_call 64
  (with_reducible refine (HP.out w3.drew (below_drewN (Below.refl _ _) 1)).mono ?_)
  rintro e w5 ⟨rfl, hb5⟩
  have HB5 : Hid (Below w3.heap.size w3 w5) := hid (bst (below_drewN (Below.refl _ _) 1) hb5)
  clear hb5
  refine hK.out _ _ ?_ (fun hld => ?_)
  ·exact HB5.out
  clear hK K
  try simp only [Act.put, Rg.s]
  refine Rg.rd (i := 10) rfl fun K hK => ?_
  go_simp
  go_at_call 35
  (with_reducible refine (HFi.out w5 HB5.out).mono ?_)
  rintro e w6 ⟨rfl, hb6⟩
  have HB6 : Hid (Below w3.heap.size w3 w6) := hid (bst HB5.out hb6)
  clear hb6
  refine hK.out _ _ ?_ (fun hld => ?_)
  ·exact HB6.out
  clear hK K
  try simp only [Act.put, Rg.s]
  refine Rg.tk (i := 11) rfl ?_
  try simp only [Act.put, Rg.s]
  refine wpAnyH_done (by kernel_rfl) ?_ _
  refine NoPanic.normal ?_
  go_wp2
  go_ret
  exact ⟨rfl, HBw.out w6 HB6.out⟩
theorem find_ext_no (q : Pa) (s : T) (M : Mp) (b : Nat) (hm : M.at_ b = some (.ext q s)) (w : World) (hi : Inv M w) (wa : Option Addr) (wn wc : Nat) (way : Pa) (hW : IsBs w wa wn wc way) (hlen : way.length ≤ 64) (hle : q.length ≤ way.length) (h : ¬ q <+: way) :
  Calls Tryz.prog 35 #[.agg #[.pointer (some ⟨b, 0, none⟩)], .slice wa wn wc] w (fun e w' => e = .panicked [errP 7] ∧ Below w.heap.size w w') := by
  have h0 := box_tree w (some ⟨b, 0, none⟩)
  obtain ⟨w1, hw1⟩ : ∃ w1, w1 = w.alloc (.cells #[.pointer (some ⟨b, 0, none⟩)] 25) := ⟨_, rfl⟩
  have hb1 : Below w.heap.size w w1 := by rw [hw1]; exact al1 _ _
  have hi1 := hi.below hb1
  rw [← hw1] at h0
  have hwl : way.length = wn := hW.len
  have HK := hid (kind_any M _ _ w1 hi1 (isT_at hi1 hm))
  obtain ⟨ka, kn, kc, c3, hKs⟩ := hi1.kids hm
  obtain ⟨kb, ko, p0, rfl, hklt, hkf, hk0, hT0⟩ := hKs.at' 0 (by rw [← hKs.len]; exact Nat.one_pos)
  have hkn : kn = 1 := hKs.len.symm
  have hkc := hKs.1
  have hkm := hKs.2.1
  unfold maxLen at hkm
  rw [Nat.add_zero] at hk0
  have hT0' : IsT M p0 s := hT0
  have HT : Hid (∀ w3, Below w1.heap.size w1 w3 → (w3.cell? ⟨w.heap.size, 0, none⟩ = some (.pointer (some ⟨b, 0, none⟩)) ∧ w3.cell? ⟨b, 3, none⟩ = some (.slice (some ⟨kb, ko, none⟩) kn kc) ∧ w3.cell? ⟨kb, ko, none⟩ = some (.pointer p0)) ∧
    (∀ wx, Below w3.heap.size w3 wx → Calls Tryz.prog 64 #[.agg #[.pointer (some ⟨b, 0, none⟩)], .slice wa wn wc] wx (fun e w' => e = .panicked [errP 7] ∧ Below wx.heap.size wx w')) ∧ (∀ wx, Below w3.heap.size w3 wx → True) ∧ ∀ wx, Below w3.heap.size w3 wx → Below w.heap.size w wx) := hid (fun w3 hb3 =>
   ⟨⟨cell_on hb3 h0, cell_on hb3 c3, cell_on hb3 hk0⟩, fun wx hbx => (by
    have := pass_any M b _ hm wa wn wc way wx (hi1.below (bst hb3 hbx)) (hW.below (bst (bst hb1 hb3) hbx)) (by rw [← hwl]; exact hle) (by omega)
    rw [show (pathT (.ext q s)) = q from rfl, if_neg h] at this
    exact this), fun wx hbx => trivial, fun wx hbx => bst (bst hb1 hb3) hbx⟩)
  clear hi hi1 hb1 hm hW hwl hKs hT0 hT0' c3 hk0 
  subst hw1
  go_enter Tryz.func35, Tryz.ntmps35
  go_wp2_with (refine Rg.run rfl _ _ (op_load_tree h0 ⟨_, rfl, rfl⟩) ?_)
  refine HK.out.mono ?_
  rintro e w3 ⟨rfl, hb3⟩
  obtain ⟨⟨d0, d3, dk⟩, HP, HFi, HBw⟩ := HT.out w3 hb3
  replace HP := hid HP
  replace HFi := hid HFi
  replace HBw := hid HBw
  unfold kindT
  clear hb3 HT HK h0
  go_wp2_with fail
  refine wp_region_held_drew (S := fun w' => Below w3.heap.size w3 w') (by kernel_rfl) ((below_drewN (Below.refl _ _) 1)) (fun hld => ?_)
  refine Rg.tk (i := 0) rfl ?_
  try simp only [Act.put, Rg.s]
  refine Rg.tk (i := 1) rfl ?_ (hy := by intro wz hSw; have hcc := cell_on hSw d0; (try dsimp only at hSw); go_simp <;> with_reducible rfl)
  try simp only [Act.put, Rg.s]
  refine Rg.tk (i := 2) rfl ?_
  try simp only [Act.put, Rg.s]
  refine Rg.tk (i := 3) rfl ?_
  try simp only [Act.put, Rg.s]
  refine Rg.tk (i := 4) rfl ?_ (hy := by intro wz hSw; have hcc := cell_on hSw d3; (try dsimp only at hSw); go_simp <;> with_reducible rfl)
  try simp only [Act.put, Rg.s]
  refine Rg.tk (i := 5) rfl ?_
  try simp only [Act.put, Rg.s]
  refine Rg.tk (i := 6) rfl ?_ (hy := by intro wz hSw; (refine op_load_tree (cell_on hSw dk) ?_; exact ⟨_, rfl, rfl⟩))
  try simp only [Act.put, Rg.s]
  refine Rg.tk (i := 7) rfl ?_ (hy := by intro wz hSw; (refine op_load_tree (cell_on hSw d0) ?_; exact ⟨_, rfl, rfl⟩))
  try simp only [Act.put, Rg.s]
  refine Rg.tk (i := 8) rfl ?_
  try simp only [Act.put, Rg.s]
  refine Rg.rd (i := 9) rfl fun K hK => ?_
  go_simp
  go_at_call 64
  (with_reducible refine (HP.out w3.drew (below_drewN (Below.refl _ _) 1)).mono ?_)
  rintro e w5 ⟨rfl, hb5⟩
  have HB5 : Hid (Below w3.heap.size w3 w5) := hid (bst (below_drewN (Below.refl _ _) 1) hb5)
  clear hb5
  simp +zetaDelta [bodyPost, Exit.then]
  exact HBw.out w5 HB5.out
theorem find_any (t : T) : FindC t := by
 induction t with
 | nil =>
  intro M w p a n c way hi ht hW hg hn hl
  obtain rfl : p = none := ht.nil_iff.2 rfl
  exact find_nil M a n c w hi
 | stub r =>
  intro M w p a n c way hi ht hW hg hn hl
  obtain ⟨b, rfl, hm⟩ := ht.at_ (fun e => by cases e)
  exact find_stub M b r hm a n c w hi
 | leaf q u =>
  intro M w p a n c way hi ht hW hg hn hl
  obtain ⟨b, rfl, hm⟩ := ht.at_ (fun e => by cases e)
  exact find_leaf M b q u hm a n c way w hi hW hg.1 hl
 | ext q s ih =>
  intro M w p a n c way hi ht hW hg hn hl
  obtain ⟨b, rfl, hm⟩ := ht.at_ (fun e => by cases e)
  obtain ⟨g1, g2, g3, g4, g5⟩ := hg
  by_cases e : q <+: way
  ·have hgs : Tr.Good s (way.drop q.length).length := by rw [List.length_drop]; exact g5
   have hget : Tr.get (.ext q s) way = Tr.get s (way.drop q.length) := by
    show (if q <+: way then Tr.get s (way.drop q.length) else some none) = _
    rw [if_pos e]
   rw [hget]
   exact find_ext q s M b hm w hi a n c way hW hl g3 e _ (fun w' p' a' n' c' hi' ht' hW' => ih M w' p' a' n' c' _ hi' ht' hW' hgs (hn.drop _) (by rw [List.length_drop]; omega))
  ·have hget : Tr.get (.ext q s) way = some none := by
    show (if q <+: way then Tr.get s (way.drop q.length) else some none) = _
    rw [if_neg e]
   rw [hget]
   exact find_ext_no q s M b hm w hi a n c way hW hl g3 e
 | br ks ih =>
  intro M w p a n c way hi ht hW hg hn hl
  obtain ⟨b, rfl, hm⟩ := ht.at_ (fun e => by cases e)
  cases way with
  | nil => exact absurd hg.1 (Nat.lt_irrefl 0)
  | cons c0 r =>
   exact find_br ks M b hm w hi a n c c0 r hW hn.head hl _ (fun w' p' a' n' c' hi' ht' hW' => ih (nb c0) M w' p' a' n' c' r hi' ht' hW' (hg.2.2 (nb c0)) hn.tail (by simp at hl; omega))
end Tm
end
end Go.Proofs.YtgolhnfkmmajpaaGreatDoor
