/-
 TreeOne: its walk.
-/
import Derived.Test.YtgolhnfkmmajpaaGreatDoorMa29
import Derived.Test.YtgolhnfkmmajpaaGreatDoorMa22
import Derived.Deep.CutBlock
open Go.Lib (hid)
set_option linter.unusedSimpArgs false
set_option linter.unusedVariables false
set_option maxHeartbeats 40000000
set_option maxRecDepth 100000
namespace Go.Proofs.YtgolhnfkmmajpaaGreatDoor
section
open Go.RowKit
namespace Tm
open Tr Ni Pk Ky No Rf Rl
open Sm (Tab)
theorem one_walk (l : List Tr.Pair) (a : Option Addr) (n c : Nat) (o : List UInt8) (oa : Option Addr) (on oc : Nat) (w : World) (h : IsPs w a n c l) (ho : IsBs w oa on oc o) (hT : Tab w) :
  Calls Tryz.prog 4 #[.slice a n c, .slice oa on oc] w fun e w' => e = .returned (.bool true) ∧ Below w.heap.size w w' := by
 have hmx := ho.2.1
 have hcap := ho.1
 unfold maxLen at hmx
 have HP := hid (pairs_any l a n c w h)
 have HOut := hid ho
 have HL0 := hid (Lw.start hT)
 have HOk : Hid (OkPs (pairsL l)) := hid (pairs_ok h.keys)
 have hlen := pairs_len l
 have HAl := hid run_alloc_key'
 have HZl : Hid (zk.length = 32) := hid rfl
 have HZf : Hid (∀ k, kfill k 0 = zk) := hid (fun _ => kfill_zero)
 obtain ⟨Z, hZ⟩ : ∃ Z, zk = Z := ⟨_, rfl⟩
 rw [hZ] at HAl HZl HZf
 obtain ⟨L, hL⟩ : ∃ L, pairsL l = L := ⟨_, rfl⟩
 rw [hL] at HP HOk hlen
 clear h ho hT hL hZ
 go_enter Tryz.func4, Tryz.ntmps4
 go_wp2_with fail
 refine HP.out.mono ?_
 rintro e w1 ⟨la, ln, lc, rfl, hps, hb1⟩
 obtain rfl := hps.len
 have HL1 := hid (HL0.out.below hb1)
 have HPs := hid hps
 clear hps hb1 HL0 HP
 go_wp2_with fail
 refine (of_any M0 la L.length lc L HOk.out w1 HL1.out.i HPs.out (by omega)).mono ?_
 intro e w2 hG
 obtain ⟨p2, M2, rfl, hT2, hL2, hf2, hb2⟩ := HL1.out.got hG
 obtain ⟨w3, hw3, hO0, hO1, hb3, hs3⟩ := enter2 w2 none
 have HO0 := hid hO0
 have HO1 := hid hO1
 have HB3 := hid hb3
 have HS3 := hid hs3
 have HT2 := hid hT2
 have HL2 := hid hL2
 have HP2 := hid (HPs.out.below hb2)
 have HW3 : Hid (_ = _) := hid hw3
 have HHas := hid HOk.out.has
 clear hG hT2 hL2 hf2 hb2 hw3 hO0 hO1 hb3 hs3 HPs HL1
 obtain ⟨t2, ht2⟩ : ∃ t2, putAll .nil L = t2 := ⟨_, rfl⟩
 rw [ht2] at HT2 HHas
 clear ht2
 have hne1 : w2.heap.size + 1 ≠ w2.heap.size := by omega
 go_upto_block 0 with (first
  | (refine Rg.run rfl _ _ (run_alloc_tree _ _ _ w2.heap.size rfl rfl) ?_)
  | (refine Rg.run rfl _ _ (run_alloc_tree _ _ _ (w2.heap.size + 1) (by simp) rfl) ?_; rw [← HW3.out])
  | (refine Rg.run rfl _ _ (op_build built_nil ⟨_, rfl, rfl⟩) ?_)
  | (refine wpl_store_tree HO0.out (by decide) _ rfl _ _ rfl rfl rfl ?_; intro w4 hO4 hu4; have HO4 : Hid (Rg.Own w4 w2.heap.size #[.pointer p2] 25) := hid hO4; have HU4 := hid hu4; have HO14 := hid (HO1.out.upd hu4 hne1); clear hO4 hu4)
  | (refine wpl_store_tree HO14.out (by decide) _ rfl _ _ rfl rfl rfl ?_; intro w5 hO5 hu5; have HO5 : Hid (Rg.Own w5 (w2.heap.size + 1) #[.pointer none] 25) := hid hO5; have HU5 := hid hu5; clear hO5 hu5))
 obtain ⟨hS5, hb5⟩ := On1.start HL2.out HT2.out HB3.out HS3.out HO4.out HU4.out HO5.out HU5.out
 have HS5 := hid hS5
 have HL5 := hid (HP2.out.below hb5)
 obtain ⟨b0, hb0⟩ : ∃ b0, w2.heap.size = b0 := ⟨_, rfl⟩
 rw [hb0] at HS5
 rw [hb0]
 clear hS5 hb5 HL2 HT2 HB3 HS3 HO4 HU4 HO5 HU5 HO0 HO1 HO14 HW3 HP2 hne1 hb0
 obtain ⟨b1, hb1⟩ : ∃ b1, b0 + 1 = b1 := ⟨_, rfl⟩
 rw [hb1] at HS5
 rw [hb1]
 clear hb1
 go_cut [7] (fun v wx => ∃ (M : Mp) (p : Option Addr) (t : T) (W : List Tr.Pair) (wa : Option Addr) (cw : Nat), v = .slice wa W.length cw ∧ W.length ≤ 24 ∧ Hid (On1 w M wx b0 b1 p none t .nil) ∧ Hid (IsPs wx wa W.length cw W) ∧ Hid (Has t (lastL W)) ∧ Hid (OkPs W))
 case first =>
  go_wp2_with fail
  go_loopw [7, 8] (fun v i wr => ∃ (j : Nat) (M : Mp) (p : Option Addr) (t : T) (W : List Tr.Pair) (wa : Option Addr) (cw : Nat), j ≤ 24 ∧ j ≤ on ∧ i = .int .i64 j ∧ v = .slice wa W.length cw ∧ W.length ≤ 24 ∧ Hid (On1 w M wr b0 b1 p none t .nil) ∧ Hid (IsPs wr wa W.length cw W) ∧ Hid (IsPs wr la L.length lc L) ∧ Hid (Has t (lastL W)) ∧ Hid (OkPs W)) (fun _ i _ => on - (intOf i).toNat)
  case atStart => exact ⟨0, M2, p2, t2, L, la, lc, Nat.zero_le _, Nat.zero_le _, rfl, rfl, hlen, HS5, HL5, HL5, HHas, HOk⟩
  case round =>
   obtain ⟨j, M, p, t, W, wa, cw, hj24, hjn, rfl, rfl, hW24, HS, HPs, HLs, HH, HOw⟩ := hrel
   clear HS5 HL5 HHas
   by_cases hlt : j < on ∧ j < 24 ∧ 0 < L.length
   ·obtain ⟨h1, h2, h3⟩ := hlt
    have i1 : (j : Int) < on := by omega
    have i2 : (j : Int) < 24 := by omega
    have i3 : (0 : Int) < (L.length : Int) := by omega
    obtain ⟨bo, oo, rfl, hblt, hcell⟩ := HOut.out.at' j h1
    have hc0 := cell_on HS.out.l.b hcell
    have hx255 := UInt8.toNat_lt (o.getD j 0)
    obtain ⟨X, hX⟩ : ∃ X, (o.getD j 0).toNat = X := ⟨_, rfl⟩
    rw [hX] at hc0 hx255
    have hrem : (X : Int).tmod (L.length : Int) = ((X % L.length : Nat) : Int) := by rw [Int.tmod_eq_emod_of_nonneg (by omega)]; rfl
    have hmlt : X % L.length < L.length := Nat.mod_lt _ h3
    obtain ⟨m, hm⟩ : ∃ m, X % L.length = m := ⟨_, rfl⟩
    rw [hm] at hrem hmlt
    have i4 : (m : Int) < (L.length : Int) := by omega
    obtain ⟨bl, ol, rfl, hbl, hpa, hk⟩ := HLs.out.at' m hmlt
    have hkey := hpa.key
    obtain ⟨k, hkx⟩ : ∃ k, (L.getD m ([], eB)).1 = k := ⟨_, rfl⟩
    rw [hkx] at hkey hk
    have HKm := hid hkey
    have HK := hid hk
    have hnz : ¬ ((L.length : Int) = 0) := by omega
    have hkb : wr.heap.size ≠ b0 := by have := HS.out.x.o.1; omega
    have hNew := Rg.Own.new wr (kc Z) 28
    have HN := hid hNew
    clear hcell hblt hX hm hbl hpa hkey hkx hk hNew
    go_wp2_with (first
     | (refine Rg.run rfl _ _ (op_load_key_mid HK.out HKm.out ⟨_, rfl, rfl⟩) ?_)
     | (refine Rg.run rfl _ _ (HAl.out _ _ _ wr.heap.size rfl rfl) ?_)
     | (refine wpl_store_key HN.out HZl.out k HK.out rfl _ _ rfl rfl rfl rfl ?_; intro w6 hO6 hu6; have HO6 := hid hO6; have HB6 : Hid (Below wr.heap.size wr w6) := hid (hu6.below (al1 _ _) (Nat.le_refl _)); have HS6 := hid (HS.out.below HB6.out); clear hO6 hu6)
     | (refine Rg.run rfl _ _ (op_load_tree (own_cell (j := 0) HS6.out.x.o rfl) ⟨_, rfl, rfl⟩) ?_)
     | (refine Rg.run rfl _ _ (op_load_key HK.out HO6.out.2 ⟨_, rfl, rfl⟩) ?_))
    have HPs6 := hid (HPs.out.below HB6.out)
    have HLs6 := hid (HLs.out.below HB6.out)
    have hget := HH.out.get k HK.out
    clear HPs HLs HKm HS HN HB6 hc0
    by_cases hnone : lastL W k = none
    ·rw [hnone] at hget
     refine ((del_any M p t k HK.out w6 HS6.out.l.i HS6.out.u HH.out.good HH.out.full).1 hget).mono ?_
     intro e w7 hG
     obtain ⟨p7, M7, rfl, hT7, hL7, hf7, hb7⟩ := HS6.out.l.te hG
     have HS7 := hid (HS6.out.fr hL7 hf7)
     have HA7 := hid (HO6.out.below hb7)
     have HPs7 := hid (HPs6.out.below hb7)
     have HLs7 := hid (HLs6.out.below hb7)
     have HT7 := hid hT7
     have hNew := Rg.Own.new w7 #[.pointer none] 25
     have HN7 := hid hNew
     clear hG hT7 hL7 hf7 hb7 HS6 HO6 HPs6 HLs6 hNew
     obtain rfl : p7 = none := HT7.out.nil_iff.2 rfl
     go_wp2_with (first
      | (refine Rg.run rfl _ _ (run_alloc_tree _ _ _ w7.heap.size rfl rfl) ?_)
      | (refine wpl_store_tree HN7.out (by decide) _ rfl _ _ rfl rfl rfl ?_; intro w8 hO8 hu8; have HO8 := hid hO8; have HB8 : Hid (Below w7.heap.size w7 w8) := hid (hu8.below (al1 _ _) (Nat.le_refl _)); have HS8 := hid (HS7.out.below HB8.out); have HA8 := hid (HA7.out.below HB8.out); have HPs8 := hid (HPs7.out.below HB8.out); have HLs8 := hid (HLs7.out.below HB8.out); clear hO8 hu8)
      | (refine Rg.run rfl _ _ (op_load_key HK.out HA8.out.2 ⟨_, rfl, rfl⟩) ?_))
     refine (rwithout_own W wa W.length cw k HK.out w8 HPs8.out (by omega)).mono ?_
     intro e wb hG
     obtain ⟨a2, n2, c2, rfl, hps2, hb2⟩ := hG.ps (fun x hx => HOw.out.1 x (mem_without hx))
     obtain rfl := hps2.len
     have HSx := hid (HS8.out.below hb2)
     have HLx := hid (HLs8.out.below hb2)
     have HPx := hid hps2
     have HHx : Hid (Has t (lastL (withoutL W k))) := hid (HH.out.less hnone)
     have HOx := hid (HOw.out.without k)
     have hWx : (withoutL W k).length ≤ 24 := Nat.le_trans (len_without W k) hW24
     obtain ⟨W', hW'⟩ : ∃ x, withoutL W k = x := ⟨_, rfl⟩
     rw [hW'] at HPx HHx HOx hWx
     rw [hW']
     clear hG hps2 hb2 hW'
     go_wp2_with fail
     go_roundw
     case rel => exact ⟨j + 1, M7, p, t, W', a2, c2, by omega, by omega, by go_num, rfl, hWx, HSx, HPx, HLx, HHx, HOx⟩
     case measure => simp [intOf]; omega
    ·have hsome : ∃ u, Tr.get t (path k) = some (some u) := by
      cases hx : lastL W k with
      | none => exact absurd hx hnone
      | some u => exact ⟨u, by rw [hget, hx]⟩
     refine ((del_any M p t k HK.out w6 HS6.out.l.i HS6.out.u HH.out.good HH.out.full).2 hsome).mono ?_
     intro e w7 hG
     obtain ⟨p7, M7, rfl, hT7, hL7, hf7, hb7⟩ := HS6.out.l.te hG
     have HS7 := hid (HS6.out.fr hL7 hf7)
     have HA7 := hid (HO6.out.below hb7)
     have HPs7 := hid (HPs6.out.below hb7)
     have HLs7 := hid (HLs6.out.below hb7)
     have HT7 := hid hT7
     have hNew := Rg.Own.new w7 #[.pointer none] 25
     have HN7 := hid hNew
     clear hG hT7 hL7 hf7 hb7 HS6 HO6 HPs6 HLs6 hNew
     obtain ⟨t', ht'⟩ : ∃ x, del t (path k) = x := ⟨_, rfl⟩
     have HHd := hid (has_without HH.out HK.out)
     rw [ht'] at HT7 HHd
     go_wp2_with (first
      | (refine Rg.run rfl _ _ (run_alloc_tree _ _ _ w7.heap.size rfl rfl) ?_)
      | (refine wpl_store_tree HN7.out (by decide) _ rfl _ _ rfl rfl rfl ?_; intro w8 hO8 hu8; have HO8 := hid hO8; have HB8 : Hid (Below w7.heap.size w7 w8) := hid (hu8.below (al1 _ _) (Nat.le_refl _)); have HS8 := hid (HS7.out.below HB8.out); have HA8 := hid (HA7.out.below HB8.out); have HPs8 := hid (HPs7.out.below HB8.out); have HLs8 := hid (HLs7.out.below HB8.out); clear hO8 hu8)
      | (refine Rg.run rfl _ _ (op_load_tree (own_cell (j := 0) HO8.out rfl) ⟨_, rfl, rfl⟩) ?_)
      | (refine wpl_store_tree HS8.out.x.o (by simp) _ rfl _ _ rfl rfl rfl ?_; intro w9 hO9 hu9; have HS9 : Hid (On1 w M7 w9 b0 b1 p7 none t' .nil) := hid (HS8.out.set0 hu9 hO9 HT7.out); have HA9 := hid (HA8.out.upd hu9 hkb); have HPs9 := hid (HS8.out.psu0 hu9 HPs8.out); have HLs9 := hid (HS8.out.psu0 hu9 HLs8.out); clear hO9 hu9)
      | (refine Rg.run rfl _ _ (op_load_key HK.out HA9.out.2 ⟨_, rfl, rfl⟩) ?_))
     refine (rwithout_own W wa W.length cw k HK.out w9 HPs9.out (by omega)).mono ?_
     intro e wb hG
     obtain ⟨a2, n2, c2, rfl, hps2, hb2⟩ := hG.ps (fun x hx => HOw.out.1 x (mem_without hx))
     obtain rfl := hps2.len
     have HSx := hid (HS9.out.below hb2)
     have HLx := hid (HLs9.out.below hb2)
     have HPx := hid hps2
     have HHx : Hid (Has t' (lastL (withoutL W k))) := hid (HHd.out)
     have HOx := hid (HOw.out.without k)
     have hWx : (withoutL W k).length ≤ 24 := Nat.le_trans (len_without W k) hW24
     obtain ⟨W', hW'⟩ : ∃ x, withoutL W k = x := ⟨_, rfl⟩
     rw [hW'] at HPx HHx HOx hWx
     rw [hW']
     clear hG hps2 hb2 hW'
     go_wp2_with fail
     go_roundw
     case rel => exact ⟨j + 1, M7, p7, t', W', a2, c2, by omega, by omega, by go_num, rfl, hWx, HSx, HPx, HLx, HHx, HOx⟩
     case measure => simp [intOf]; omega
   ·rcases (show (on ≤ j) ∨ (j < on ∧ 24 ≤ j) ∨ (j < on ∧ j < 24 ∧ L.length = 0) by omega) with h1 | ⟨h1, h2⟩ | ⟨h1, h2, h3⟩
    ·have i1 : ¬ ((j : Int) < on) := by omega
     go_wp2_with fail
     go_meet
     exact ⟨M, p, t, W, wa, cw, rfl, hW24, HS, HPs, HH, HOw⟩
    ·have i1 : (j : Int) < on := by omega
     have i2 : ¬ ((j : Int) < 24) := by omega
     go_wp2_with fail
     go_meet
     exact ⟨M, p, t, W, wa, cw, rfl, hW24, HS, HPs, HH, HOw⟩
    ·have i1 : (j : Int) < on := by omega
     have i2 : (j : Int) < 24 := by omega
     have i3 : ¬ ((0 : Int) < (L.length : Int)) := by omega
     clear h3
     go_wp2_with fail
     go_meet
     exact ⟨M, p, t, W, wa, cw, rfl, hW24, HS, HPs, HH, HOw⟩
 case rest =>
  obtain ⟨M, p, t, W, wa, cw, rfl, hW24, HS, HPs, HH, HOw⟩ := hcut
  clear HS5 HL5 HHas HOk HOut hmx hcap hlen
  go_wp2_with fail
  refine (ins_any W wa W.length cw _ HPs.out (by omega)).mono ?_
  rintro e xb ⟨ia, in_, ic, rfl, hI, hbb⟩
  obtain rfl := hI.len
  have hil : (insL W).length ≤ 24 := Nat.le_trans (ins_len _) hW24
  have HIk : Hid (∀ i, i < (insL W).length → ∃ k : Tr.Key, k.length = 32 ∧ path k = ((insL W).getD i ([], eB)).1) := hid (fun i hi => ins_key HOw.out.1 (in_mem hi))
  have HIf : Hid (∀ i, i < (insL W).length → ((insL W).getD i ([], eB)).2.size ≠ 0 ∧ ((insL W).getD i ([], eB)).2.size ≤ 65552) := hid (fun i hi => fine_ins HOw.out.2 _ (in_mem hi))
  have HBk : Hid (∀ s, Has s (backM (insL W) 0) → s = t) := hid (fun s hs => (back_end HOw.out.1 hs).one HH.out)
  have HEn : Hid (encT t = encT (build 64 (insL W)) ∧ ofP (encT t) = ref t ∧ (encT t).size ≤ 900000) := hid (by
   rw [HH.out.built HOw.out.1 HOw.out.2]
   exact ⟨rfl, enc_ref, enc_few (Nat.le_refl _) (ok_ins HOw.out.1) (fine_ins HOw.out.2)⟩)
  have HRe := hid (fun ia in_ ic wz hI hn => renc_any 64 (Nat.le_refl _) (insL W) (ok_ins HOw.out.1) (fine_ins HOw.out.2) ia in_ ic wz hI hn)
  have HS0 := hid (HS.out.below hbb)
  have HI0 := hid hI
  obtain ⟨I, hIe⟩ : ∃ I, insL W = I := ⟨_, rfl⟩
  obtain ⟨E, hE⟩ : ∃ E, encT t = E := ⟨_, rfl⟩
  rw [← HEn.out.1] at HRe
  rw [hIe] at HIk HIf HBk HI0 HRe hil
  rw [hE] at HRe
  replace HEn : Hid (ofP E = ref t ∧ E.size ≤ 900000) := hid (by rw [← hE]; exact HEn.out.2)
  have HE : Hid (encT t = E) := hid hE
  rw [hIe]
  clear hI hbb HS HPs HOw hIe hE
  go_wp2_with fail
  go_loopw [13] (fun i wr => ∃ (j : Nat) (z : Int) (M : Mp) (q : Option Addr) (s : T), j ≤ I.length ∧ z + 1 = j ∧ i = .int .i64 z ∧ Hid (On1 w M wr b0 b1 p q t s) ∧ Hid (IsIns wr ia I.length ic I) ∧ Hid (Has s (backM I j))) (fun i _ => (intOf i + 1).toNat)
  case atStart => exact ⟨I.length, _, M, none, .nil, Nat.le_refl _, by omega, rfl, HS0, HI0, hid (back_start I)⟩
  case round =>
   obtain ⟨j, z, Mr, q, s, hjI, hz, rfl, HSr, HIr, HHr⟩ := hrel
   clear HS0 HI0
   by_cases hj0 : 0 < j
   ·obtain ⟨r, rfl⟩ : ∃ r, j = r + 1 := ⟨j - 1, by omega⟩
    obtain rfl : z = (r : Int) := by omega
    have i1 : (r : Int) < (I.length : Int) := by omega
    have i2 : (0 : Int) ≤ (r : Int) := by omega
    obtain ⟨wu, hwu⟩ : ∃ wu, wu = wr := ⟨_, rfl⟩
    subst hwu
    go_wp2_with (refine Rg.run rfl _ _ (HAl.out _ _ _ wu.heap.size rfl rfl) ?_)
    obtain ⟨wk, hwk⟩ : ∃ wk, wk = wu.alloc (.cells (kc Z) 28) := ⟨_, rfl⟩
    rw [← hwk]
    have hOk : Rg.Own wk wu.heap.size (kc Z) 28 := by rw [hwk]; exact Rg.Own.new _ _ _
    have hBk : Below wu.heap.size wu wk := by rw [hwk]; exact al1 _ _
    obtain ⟨k, hk, hpk⟩ := HIk.out r (by omega)
    have hvr := HIf.out r (by omega)
    rw [← HZf.out k] at hOk
    have HOk := hid hOk
    have HBk2 := hid hBk
    obtain ⟨bi, oi, ⟨pa, pn, pc⟩, rfl, hblt, hin, hbs⟩ := HIr.out.at' r (by omega)
    dsimp only at hbs hin
    rw [← hpk] at hbs
    obtain rfl : 64 = pn := by rw [← hbs.len, Tr.path_length, hk]
    have HK := hid hk
    have HBs := hid hbs
    have HIn := hid hin
    have HC : Hid (∀ wz, Below wu.heap.size wu wz → wz.cell? ⟨bi, oi + r * 2, none⟩ = some (.slice pa 64 pc)) := hid (fun wz hb => cell_on hb hin.1)
    have HV : Hid (∀ wz, Below wu.heap.size wu wz → wz.cell? ⟨bi, oi + r * 2 + 1, none⟩ = some (.string (I.getD r ([], eB)).2)) := hid (fun wz hb => cell_on hb hin.2)
    have HStep : Hid (Has (put s (path k) (I.getD r ([], eB)).2) (backM I r)) := hid (back_step (by omega) HHr.out hk hpk hvr.1 hvr.2)
    have hlx : I.length < 1000 := by omega
    obtain ⟨V, hVe⟩ : ∃ V, (I.getD r ([], eB)).2 = V := ⟨_, rfl⟩
    rw [hVe] at HV HStep hvr
    clear hVe
    clear hOk hBk hbs hin hblt hwk hpk hk
    go_wp2_with fail
    go_loopw [15] (fun y wy => ∃ m : Nat, m ≤ 32 ∧ y = .int .i64 m ∧ Hid (Rg.Own wy wu.heap.size (kc (kfill k m)) 28) ∧ Hid (Below wu.heap.size wu wy)) (fun y _ => 32 - (intOf y).toNat)
    case atStart => exact ⟨0, Nat.zero_le _, rfl, HOk, HBk2⟩
    case round =>
     obtain ⟨m, hm, rfl, HOi, HBi⟩ := hrel
     clear HOk HBk2
     by_cases hm32 : m < 32
     ·have k0 : (m : Int) < 32 := by omega
      have k1 : ((2 * m : Nat) : Int) < ((64 : Nat) : Int) := by omega
      have k2 : ((2 * m + 1 : Nat) : Int) < ((64 : Nat) : Int) := by omega
      obtain ⟨bp, op, rfl, hbp, hcA⟩ := HBs.out.at' (2 * m) (by omega)
      obtain ⟨bp', op', hbq, hbp2, hcB⟩ := HBs.out.at' (2 * m + 1) (by omega)
      obtain ⟨rfl, rfl⟩ : bp = bp' ∧ op = op' := by cases hbq; exact ⟨rfl, rfl⟩
      have hsum := path_at HK.out hm32
      have hA16 : ((path k).getD (2 * m) 0).toNat < 16 := nib_at (path_nib k) (by rw [Tr.path_length, HK.out]; omega)
      have hkb := UInt8.toNat_lt (k.getD m 0)
      have HSt := hid (kc_fill HK.out hm32)
      obtain ⟨A, hA⟩ : ∃ A, ((path k).getD (2 * m) 0).toNat = A := ⟨_, rfl⟩
      obtain ⟨B, hB⟩ : ∃ B, ((path k).getD (2 * m + 1) 0).toNat = B := ⟨_, rfl⟩
      rw [hA] at hsum hA16 hcA
      rw [hB] at hsum hcB
      have hAB : 16 * A + B < 256 := by omega
      have HSum := hid hsum
      have HE0 : Hid (∀ wz, Below wu.heap.size wu wz → wz.cell? ⟨bp, op + 2 * m, none⟩ = some (.int .u8 A)) := hid (fun wz hb => cell_on hb hcA)
      have HE1 : Hid (∀ wz, Below wu.heap.size wu wz → wz.cell? ⟨bp, op + (2 * m + 1), none⟩ = some (.int .u8 B)) := hid (fun wz hb => cell_on hb hcB)
      have HFl := hid (kfill_len HK.out (show m ≤ 32 by omega))
      clear hcA hcB hA hB hsum hbq hkb hbp hbp2
      go_wp2_with fail
      have h0 := HOi.out
      refine wp_region_noPanic ?_
      refine wp_region_held_drew (S := fun w' => Below wu.heap.size wu w') (by kernel_rfl) (HBi.out.drew) (fun hld => ?_)
      replace h0 := h0.drew
      refine Rg.tk (i := 0) rfl ?_
      try simp only [Act.put, Rg.s]
      refine Rg.tk (i := 1) rfl ?_
      try simp only [Act.put, Rg.s]
      refine Rg.tk (i := 2) rfl ?_
      try simp only [Act.put, Rg.s]
      refine Rg.tk (i := 3) rfl ?_ (hy := by intro wz hSw; (have q0 := i1; have q1 := i2; go_simp <;> with_reducible rfl))
      try simp only [Act.put, Rg.s]
      refine Rg.tk (i := 4) rfl ?_
      try simp only [Act.put, Rg.s]
      refine Rg.tk (i := 5) rfl ?_ (hy := by intro wz hSw; (have q0 := HC.out wz hSw; go_simp <;> with_reducible rfl))
      try simp only [Act.put, Rg.s]
      refine Rg.tk (i := 6) rfl ?_
      try simp only [Act.put, Rg.s]
      refine Rg.tk (i := 7) rfl ?_ (hy := by intro wz hSw; (refine op_dbl hm32 ?_; exact ⟨_, _, rfl, rfl, rfl⟩))
      try simp only [Act.put, Rg.s]
      refine Rg.tk (i := 8) rfl ?_ (hy := by intro wz hSw; (refine op_index_u8 (bp := bp) (op := op) (c := pc) (n := 64) (i := 2 * m) (by omega) ?_; exact ⟨_, _, rfl, rfl, rfl⟩))
      try simp only [Act.put, Rg.s]
      refine Rg.tk (i := 9) rfl ?_ (hy := by intro wz hSw; (refine op_load_u8 (HE0.out wz hSw) ?_; exact ⟨_, rfl, rfl⟩))
      try simp only [Act.put, Rg.s]
      refine Rg.tk (i := 10) rfl ?_ (hy := by intro wz hSw; (refine op_mul16 hA16 ?_; exact ⟨_, _, rfl, rfl, rfl⟩))
      try simp only [Act.put, Rg.s]
      refine Rg.tk (i := 11) rfl ?_
      try simp only [Act.put, Rg.s]
      refine Rg.tk (i := 12) rfl ?_
      try simp only [Act.put, Rg.s]
      refine Rg.tk (i := 13) rfl ?_ (hy := by intro wz hSw; (have q0 := i1; have q1 := i2; go_simp <;> with_reducible rfl))
      try simp only [Act.put, Rg.s]
      refine Rg.tk (i := 14) rfl ?_
      try simp only [Act.put, Rg.s]
      refine Rg.tk (i := 15) rfl ?_ (hy := by intro wz hSw; (have q0 := HC.out wz hSw; go_simp <;> with_reducible rfl))
      try simp only [Act.put, Rg.s]
      refine Rg.tk (i := 16) rfl ?_
      try simp only [Act.put, Rg.s]
      refine Rg.tk (i := 17) rfl ?_ (hy := by intro wz hSw; (refine op_dbl hm32 ?_; exact ⟨_, _, rfl, rfl, rfl⟩))
      try simp only [Act.put, Rg.s]
      refine Rg.tk (i := 18) rfl ?_ (hy := by intro wz hSw; (refine op_inc (m := 2 * m) (by omega) ?_; exact ⟨_, _, rfl, rfl, rfl⟩))
      try simp only [Act.put, Rg.s]
      refine Rg.tk (i := 19) rfl ?_ (hy := by intro wz hSw; (refine op_index_u8 (bp := bp) (op := op) (c := pc) (n := 64) (i := 2 * m + 1) (by omega) ?_; exact ⟨_, _, rfl, rfl, rfl⟩))
      try simp only [Act.put, Rg.s]
      refine Rg.tk (i := 20) rfl ?_ (hy := by intro wz hSw; (refine op_load_u8 (HE1.out wz hSw) ?_; exact ⟨_, rfl, rfl⟩))
      try simp only [Act.put, Rg.s]
      refine Rg.tk (i := 21) rfl ?_ (hy := by intro wz hSw; (refine op_add8 hAB ?_; exact ⟨_, _, rfl, rfl, rfl⟩))
      try simp only [Act.put, Rg.s]
      refine Rg.tk (i := 22) rfl ?_ (hy := by intro wz hSw; (have q0 := k0; go_simp <;> with_reducible rfl))
      try simp only [Act.put, Rg.s]
      refine Rg.rd (i := 23) rfl fun K hK => ?_
      refine meet_store_u8 (by rfl) h0 (off := m) (by rw [kc_size, HFl.out]; exact hm32) _ ⟨_, _, rfl, rfl, rfl⟩ ?_
      rintro w6 hn hu
      have HB6 : Hid (Below wu.heap.size wu w6) := hid (hu.below hld (Nat.le_refl _))
      rw [HSum.out, HSt.out] at hn
      replace h0 := hn
      clear hn hu
      refine hK.out _ _ ?_ (fun hld => ?_)
      ·exact HB6.out
      clear hK K
      try simp only [Act.put, Rg.s]
      refine wpAnyH_done (by kernel_rfl) ?_ _
      refine NoPanic.normal ?_
      have HO6 := hid h0
      clear h0 hld
      go_wp2
      go_roundw
      case rel => exact ⟨m + 1, by omega, by go_num, HO6, HB6⟩
      case measure => simp [intOf]; omega
     ·obtain rfl : m = 32 := by omega
      have HOi' : Hid (Rg.Own wr wu.heap.size (kc k) 28) := hid (by rw [← kfill_all HK.out]; exact HOi.out)
      obtain ⟨wi, hwi⟩ : ∃ wi, wi = wr := ⟨_, rfl⟩
      subst hwi
      clear HOi
      have HSi := hid (HSr.out.below HBi.out)
      have HIi := hid (HIr.out.below HBi.out)
      have HPut : Hid (∀ wz, Below wi.heap.size wi wz → Calls Tryz.prog 13 #[tv q, .agg (kc k), .string V] wz (GotTE Mr wz (put s (path k) V) 0)) := hid (fun wz hb => (put_any Mr q s k HK.out V hvr.1 hvr.2 wz (HSi.out.l.i.below hb) HSi.out.v HHr.out.good).2 (has_get HHr.out HK.out))
      clear HSr HIr HHr hvr
      go_wp2_with fail
      refine wp_region_noPanic ?_
      refine wp_region_held_drew (S := fun w' => Below wi.heap.size wi w') (by kernel_rfl) ((Below.refl _ _).drew) (fun hld => ?_)
      refine Rg.tk (i := 0) rfl ?_ (hy := by intro wz hSw; (refine op_load_tree (own_cell (j := 0) (HSi.out.y.o.below hSw) rfl) ?_; exact ⟨_, rfl, rfl⟩))
      try simp only [Act.put, Rg.s]
      refine Rg.tk (i := 1) rfl ?_ (hy := by intro wz hSw; (refine op_load_key HK.out (HOi'.out.below hSw).2 ?_; exact ⟨_, rfl, rfl⟩))
      try simp only [Act.put, Rg.s]
      refine Rg.tk (i := 2) rfl ?_
      try simp only [Act.put, Rg.s]
      refine Rg.tk (i := 3) rfl ?_
      try simp only [Act.put, Rg.s]
      refine Rg.tk (i := 4) rfl ?_ (hy := by intro wz hSw; (have q0 := i1; have q1 := i2; go_simp <;> with_reducible rfl))
      try simp only [Act.put, Rg.s]
      refine Rg.tk (i := 5) rfl ?_
      try simp only [Act.put, Rg.s]
      refine Rg.tk (i := 6) rfl ?_ (hy := by intro wz hSw; (have q0 := HV.out wz (bst HBi.out hSw); go_simp <;> with_reducible rfl))
      try simp only [Act.put, Rg.s]
      refine wpAnyH_ready (rs := [7, 11]) (by kernel_rfl) (by simp) ?_
      refine Rg.readyC (i := 7) rfl (fun K hK => ?_) (Rg.readyL (i := 11) rfl (fun K hK => ?_))
      ·go_simp
       go_at_call 13
       (with_reducible refine (HPut.out _ hld).mono ?_)
       intro e wv0 hG
       obtain ⟨p7, M7, rfl, hT7, hL7, hf7, hbx⟩ := (HSi.out.below hld).l.te hG
       have HS7 := hid ((HSi.out.below hld).fr hL7 hf7)
       have HT7 := hid hT7
       have HIn7 := hid (HIi.out.below (bst hld hbx))
       refine hK.out _ _ ?_ (fun hld => ?_)
       ·exact Below.trans hld (hbx.mono hld.size)
       clear hK K hG hT7 hL7 hf7 hbx
       try simp only [Act.put, Rg.s]
       refine Rg.tk (i := 8) rfl ?_
       try simp only [Act.put, Rg.s]
       refine Rg.tk (i := 9) rfl ?_
       try simp only [Act.put, Rg.s]
       refine Rg.tk (i := 10) rfl ?_
       try simp only [Act.put, Rg.s]
       refine Rg.rd (i := 11) rfl fun K hK => ?_
       refine Rg.meetAlloc (by rfl) (run_alloc_tree2 _ _ rfl _) ?_
       rintro wv1 b11 he11 h11 hbx
       have ge11 : wi.heap.size ≤ b11 := by rw [he11]; exact Below.size hld
       have hn11 : ¬ M7.ft b11 := HS7.out.l.i.free (by rw [he11]; exact Nat.le_refl _)
       replace HS7 := hid (HS7.out.below hbx)
       replace HIn7 := hid (HIn7.out.below hbx)
       refine hK.out _ _ ?_ (fun hld => ?_)
       ·exact Below.trans hld (hbx.mono hld.size)
       clear hK K hbx he11
       try simp only [Act.put, Rg.s]
       refine Rg.rd (i := 12) rfl fun K hK => ?_
       refine meet_store_tree (by rfl) h11 (off := 0) (by simp) p7 ⟨_, _, rfl, rfl, rfl⟩ ?_
       rintro wv2 hn hu
       have hq0 := HSi.out.x.o.1
       have hq1 := HSi.out.y.o.1
       have hq2 := HSi.out.l.b.size
       have HS8 := hid (HS7.out.updB hu (by omega) hn11 (by omega) (by omega))
       have HIn8 := hid (HIn7.out.upd hu h11)
       have HO8 : Hid (Rg.Own wv2 b11 #[.pointer p7] 25) := hid hn
       refine hK.out _ _ ?_ (fun hld => ?_)
       ·exact hu.below hld ge11
       clear hK K hn hu h11 hq0 hq1 hq2 HS7 HIn7
       try simp only [Act.put, Rg.s]
       refine Rg.tk (i := 13) rfl ?_
       try simp only [Act.put, Rg.s]
       refine wpAnyH_done (by kernel_rfl) ?_ _
       refine NoPanic.normal ?_
       clear hld HSi HIi HPut
       go_wp2_with (first
        | (refine Rg.run rfl _ _ (op_load_tree (own_cell (j := 0) HO8.out rfl) ⟨_, rfl, rfl⟩) ?_)
        | (refine wpl_store_tree HS8.out.y.o (by simp) p7 rfl _ _ rfl rfl rfl ?_; intro w9 hO9 hu9; have HS9 := hid (HS8.out.set1 hu9 hO9 HT7.out); have HI9 := hid (HIn8.out.upd hu9 HS8.out.y.o); clear hO9 hu9))
       go_roundw
       case rel => exact ⟨r, (r : Int) - 1, M7, p7, _, by omega, by omega, by go_num, HS9, HI9, HStep⟩
       case measure => simp [intOf]
      ·refine Rg.meetAlloc (by rfl) (run_alloc_tree2 _ _ rfl _) ?_
       rintro wv0 b11 he11 h11 hbx
       have ge11 : wi.heap.size ≤ b11 := by rw [he11]; exact Below.size hld
       refine hK.out _ _ ?_ (fun hld => ?_)
       ·exact Below.trans hld (hbx.mono hld.size)
       clear hK K hbx he11
       try simp only [Act.put, Rg.s]
       refine Rg.rd (i := 7) rfl fun K hK => ?_
       go_simp
       go_at_call 13
       (with_reducible refine (HPut.out _ hld).mono ?_)
       intro e wv1 hG
       obtain ⟨p7, M7, rfl, hT7, hL7, hf7, hbx⟩ := (HSi.out.below hld).l.te hG
       have HS7 := hid ((HSi.out.below hld).fr hL7 hf7)
       have HT7 := hid hT7
       have HIn7 := hid (HIi.out.below (bst hld hbx))
       have hn11 : ¬ M7.ft b11 := hf7.box (HSi.out.l.i.free ge11) h11.1 (no_byte h11 (one_no _))
       replace h11 := h11.below hbx
       refine hK.out _ _ ?_ (fun hld => ?_)
       ·exact Below.trans hld (hbx.mono hld.size)
       clear hK K hG hT7 hL7 hf7 hbx
       try simp only [Act.put, Rg.s]
       refine Rg.tk (i := 8) rfl ?_
       try simp only [Act.put, Rg.s]
       refine Rg.tk (i := 9) rfl ?_
       try simp only [Act.put, Rg.s]
       refine Rg.tk (i := 10) rfl ?_
       try simp only [Act.put, Rg.s]
       refine Rg.rd (i := 12) rfl fun K hK => ?_
       refine meet_store_tree (by rfl) h11 (off := 0) (by simp) p7 ⟨_, _, rfl, rfl, rfl⟩ ?_
       rintro wv2 hn hu
       have hq0 := HSi.out.x.o.1
       have hq1 := HSi.out.y.o.1
       have hq2 := HSi.out.l.b.size
       have HS8 := hid (HS7.out.updB hu (by omega) hn11 (by omega) (by omega))
       have HIn8 := hid (HIn7.out.upd hu h11)
       have HO8 : Hid (Rg.Own wv2 b11 #[.pointer p7] 25) := hid hn
       refine hK.out _ _ ?_ (fun hld => ?_)
       ·exact hu.below hld ge11
       clear hK K hn hu h11 hq0 hq1 hq2 HS7 HIn7
       try simp only [Act.put, Rg.s]
       refine Rg.tk (i := 13) rfl ?_
       try simp only [Act.put, Rg.s]
       refine wpAnyH_done (by kernel_rfl) ?_ _
       refine NoPanic.normal ?_
       clear hld HSi HIi HPut
       go_wp2_with (first
        | (refine Rg.run rfl _ _ (op_load_tree (own_cell (j := 0) HO8.out rfl) ⟨_, rfl, rfl⟩) ?_)
        | (refine wpl_store_tree HS8.out.y.o (by simp) p7 rfl _ _ rfl rfl rfl ?_; intro w9 hO9 hu9; have HS9 := hid (HS8.out.set1 hu9 hO9 HT7.out); have HI9 := hid (HIn8.out.upd hu9 HS8.out.y.o); clear hO9 hu9))
       go_roundw
       case rel => exact ⟨r, (r : Int) - 1, M7, p7, _, by omega, by omega, by go_num, HS9, HI9, HStep⟩
       case measure => simp [intOf]
   ·obtain rfl : j = 0 := by omega
    have i2 : ¬ ((0 : Int) ≤ z) := by omega
    have hst : s = t := HBk.out s HHr.out
    subst hst
    have HTe : Hid (∀ M p x, Inv M x → IsT M p s → Tab x → Calls Tryz.prog 15 #[tv p] x (TellP M x E)) := hid (fun M p x hi ht hT => by
     have := tree_enc M p s 64 HH.out.good (Nat.le_refl _) HH.out.fine x hi ht hT
     rw [HE.out] at this
     exact this)
    have HTr : Hid (∀ M p x, Inv M x → IsT M p s → Tab x → Calls Tryz.prog 20 #[tv p] x (TellP M x (ofP E))) := hid (fun M p x hi ht hT => by
     have := tree_ref M p s 64 HH.out.good (Nat.le_refl _) HH.out.fine x hi ht hT
     rw [HEn.out.1]
     exact this)
    have HR7 := hid (fun x => r7of_any E HEn.out.2 x)
    obtain ⟨RR, hRR⟩ : ∃ RR, ofP E = RR := ⟨_, rfl⟩
    rw [hRR] at HTr HR7
    clear hRR
    go_wp2_with fail
    refine (HRe.out ia I.length ic wr HIr.out (by omega)).mono ?_
    rintro e x1 ⟨rfl, hb1⟩
    have HS1 := hid (HSr.out.below hb1)
    clear hb1 HSr HIr HRe
    go_wp2_with fail
    refine (awake_any x1 HS1.out.l.t).mono ?_
    rintro e x2 ⟨rfl, hb2⟩
    have HS2 := hid (HS1.out.below hb2)
    clear hb2 HS1
    go_wp2_with (first | (refine Rg.run rfl _ _ (op_load_tree (own_cell (j := 0) HS2.out.x.o rfl) ⟨_, rfl, rfl⟩) ?_) | (refine Rg.runW ?hw _ _ (op_load_tree (own_cell (j := 0) HS2.out.x.o rfl) ⟨_, rfl, rfl⟩) ?_; case hw => rfl))
    refine (HTe.out Mr p x2 HS2.out.l.i HS2.out.u HS2.out.l.t).mono ?_
    intro e x3 hG
    obtain ⟨rfl, hL3, hf3⟩ := HS2.out.l.tell hG
    have HS3 := hid (HS2.out.fr hL3 hf3)
    clear hG hL3 hf3 HS2
    go_wp2_with (first | (refine Rg.run rfl _ _ (op_load_tree (own_cell (j := 0) HS3.out.y.o rfl) ⟨_, rfl, rfl⟩) ?_) | (refine Rg.runW ?hw _ _ (op_load_tree (own_cell (j := 0) HS3.out.y.o rfl) ⟨_, rfl, rfl⟩) ?_; case hw => rfl))
    refine (HTe.out Mr q x3 HS3.out.l.i HS3.out.v HS3.out.l.t).mono ?_
    intro e x4 hG
    obtain ⟨rfl, hL4, hf4⟩ := HS3.out.l.tell hG
    have HS4 := hid (HS3.out.fr hL4 hf4)
    clear hG hL4 hf4 HS3
    go_wp2_with (first | (refine Rg.run rfl _ _ (op_load_tree (own_cell (j := 0) HS4.out.x.o rfl) ⟨_, rfl, rfl⟩) ?_) | (refine Rg.runW ?hw _ _ (op_load_tree (own_cell (j := 0) HS4.out.x.o rfl) ⟨_, rfl, rfl⟩) ?_; case hw => rfl))
    refine (HTr.out Mr p x4 HS4.out.l.i HS4.out.u HS4.out.l.t).mono ?_
    intro e x5 hG
    obtain ⟨rfl, hL5, hf5⟩ := HS4.out.l.tell hG
    have HS5 := hid (HS4.out.fr hL5 hf5)
    clear hG hL5 hf5 HS4
    go_wp2_with fail
    refine (HR7.out x5).mono ?_
    rintro e x6 ⟨rfl, hb6⟩
    have HS6 := hid (HS5.out.below hb6)
    clear hb6 HS5
    go_wp2_with fail
    go_ret
    exact ⟨rfl, HS6.out.l.b⟩
end Tm
end
end Go.Proofs.YtgolhnfkmmajpaaGreatDoor
