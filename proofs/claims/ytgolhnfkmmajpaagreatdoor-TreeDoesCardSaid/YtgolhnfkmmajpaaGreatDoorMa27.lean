/-
 TreeDoes.
-/
import Derived.Test.YtgolhnfkmmajpaaGreatDoorMa26
open Go.Lib (hid)
set_option linter.unusedSimpArgs false
set_option linter.unusedVariables false
set_option maxHeartbeats 40000000
set_option maxRecDepth 100000
namespace Go.Proofs.YtgolhnfkmmajpaaGreatDoor
section
open Go.RowKit
namespace Tm
open Tr Ni Pk Ky No Rf Rl
open Sm (Tab)
theorem does_walk (l : List Act) (a : Option Addr) (n c : Nat) (w : World) (h : IsActs w a n c l) (hT : Tab w) :
  Calls Tryz.prog 3 #[.slice a n c] w fun e w' => e = .returned (.bool true) ∧ Below w.heap.size w w' := by
 have hcap := h.1
 have hmx := h.2.1
 unfold maxLen at hmx
 obtain ⟨w1, hw1⟩ : ∃ w1, w1 = w.alloc (.cells #[.pointer none] 25) := ⟨_, rfl⟩
 have hb1 : Below w.heap.size w w1 := by rw [hw1]; exact al1 _ _
 have hO1 : Rg.Own w1 w.heap.size #[.pointer none] 25 := by rw [hw1]; exact Rg.Own.new _ _ _
 have HD1 : Hid (Do w M0 w1 none .nil [] none 0 0) := hid ⟨(Lw.start hT).below hb1, rfl, ⟨hO1, fun h => h, one_no _⟩, IsPs.nil _, Has.nil.congr fun _ _ => rfl, List.Pairwise.nil, ⟨fun _ h => (by cases h), fun _ h => (by cases h)⟩, Nat.zero_le _⟩
 have H := hid h
 have HW : Hid (_ = _) := hid hw1
 clear h hT hb1 hO1 hw1
 go_enter Tryz.func3, Tryz.ntmps3
 go_wp2_with (refine Rg.run rfl _ _ (run_alloc_tree _ _ _ w.heap.size rfl rfl) ?_)
 rw [← HW.out]
 clear HW
 go_loopw [4, 5] (fun v i wr => ∃ (j : Nat) (M : Mp) (p : Option Addr) (t : T) (W : List Tr.Pair) (b : Option Addr) (d : Nat), j ≤ 30 ∧ j ≤ n ∧ i = .int .i64 j ∧ v = .slice b W.length d ∧ Hid (Do w M wr p t W b d j)) (fun _ i _ => n - (intOf i).toNat)
 case atStart => exact ⟨0, M0, none, .nil, [], none, 0, Nat.zero_le _, Nat.zero_le _, rfl, rfl, HD1⟩
 case round =>
  obtain ⟨j, M, p, t, W, wa, wc, hj30, hjn, rfl, rfl, HD⟩ := hrel
  clear HD1
  by_cases hlt : j < n ∧ j < 30
  ·obtain ⟨hl1, hl2⟩ := hlt
   have i1 : (j : Int) < n := by omega
   have i2 : (j : Int) < 30 := by omega
   obtain ⟨b, off, rfl, hblt, hat⟩ := H.out.2.2.2.2.2 j hl1
   have hkx := H.out.2.2.2.2.1 (l.getD j default) (by
    have hjl : j < l.length := by rw [H.out.2.2.1]; exact hl1
    rw [List.getD_eq_getElem?_getD, List.getElem?_eq_getElem hjl]
    exact List.getElem_mem _)
   obtain ⟨x, hx⟩ : ∃ x, l.getD j default = x := ⟨_, rfl⟩
   rw [hx] at hat hkx
   have HAt := hid (hat.below HD.out.l.b)
   have HK := hid hkx
   have hNew := Rg.Own.new wr (actA act0) 30
   have HN := hid hNew
   have HZ : Hid (act0.key.length = 32) := hid rfl
   obtain ⟨A0, hA0⟩ : ∃ A, act0 = A := ⟨_, rfl⟩
   have HAl := hid run_alloc_act
   rw [hA0] at HN HZ HAl
   have hwl := HD.out.few
   have hkb : wr.heap.size ≠ w.heap.size := by have := HD.out.bx.o.1; omega
   clear hx hat hkx hNew hA0
   obtain ⟨K, k, v⟩ := x
   dsimp only at HK
   have HC0 : ∀ w5, Rg.Own w5 wr.heap.size (actA ⟨K, k, v⟩) 30 → w5.cell? ⟨wr.heap.size, 0, none⟩ = some (.int .i64 K) ∧ w5.cell? ⟨wr.heap.size, 33, none⟩ = some (.string v) := fun w5 h5 => ⟨(ActAt.own h5).kind, by have := (ActAt.own h5).val HK.out; simpa using this⟩
   replace HC0 := hid HC0
   by_cases hv : v.size ≤ 200
   ·have hd1 : decide ((200 : Int) < (v.size : Int)) = false := decide_eq_false (by omega)
    have hd2 : decide (200 < v.size) = false := decide_eq_false (by omega)
    go_wp2_with (first
     | (refine Rg.run rfl _ _ (op_load_act (x := ⟨K, k, v⟩) HK.out HAt.out ⟨_, rfl, rfl⟩) ?_)
     | (refine Rg.run rfl _ _ (HAl.out _ _ _ wr.heap.size rfl rfl) ?_)
     | (refine wpl_store_act HN.out HZ.out ⟨K, k, v⟩ HK.out rfl _ _ rfl rfl rfl rfl ?_; intro w5 hO5 hu5; have HO5 := hid hO5; have HB5 : Hid (Below wr.heap.size wr w5) := hid (hu5.below (al1 _ _) (Nat.le_refl _)); obtain ⟨c0, c33⟩ := HC0.out w5 hO5; clear hO5 hu5)
     | (refine Rg.run rfl _ _ (op_load_key_mid HK.out (ActAt.own HO5.out).key ⟨_, rfl, rfl⟩) ?_))
    refine (rfind_any W wa W.length wc k HK.out w5 (HD.out.ps.below HB5.out) (by omega)).mono ?_
    rintro e w6 ⟨rfl, hb6⟩
    have HD6 := hid ((HD.out.below HB5.out).below hb6)
    have HO6 := hid (HO5.out.below hb6)
    have hO6' := HO5.out.below hb6
    obtain ⟨c0, c33⟩ := HC0.out w6 hO6'
    have hgt := HD6.out.get HK.out
    obtain ⟨r, hr⟩ : ∃ r, firstL W k = r := ⟨_, rfl⟩
    rw [hr] at hgt ⊢
    have HC0' := HC0
    clear hb6 HO5 HB5 HD HN HZ HAl HC0 HAt hO6' hr
    by_cases hK2 : K = 2
    ·subst hK2
     cases r with
     | none =>
      rw [show findV none = .tuple #[.string eB, .bool false] from rfl]
      go_wp2_with (first
       | (first | (refine Rg.run rfl _ _ (op_load_tree (own_cell (j := 0) HD6.out.bx.o rfl) ⟨_, rfl, rfl⟩) ?_) | (refine Rg.runW ?hw _ _ (op_load_tree (own_cell (j := 0) HD6.out.bx.o rfl) ⟨_, rfl, rfl⟩) ?_; case hw => rfl))
       | (refine Rg.run rfl _ _ (op_load_key_mid HK.out (ActAt.own HO6.out).key ⟨_, rfl, rfl⟩) ?_))
      refine ((del_any M p t k HK.out w6 HD6.out.l.i HD6.out.u HD6.out.has.good HD6.out.has.full).1 hgt).mono ?_
      intro e w7 hG
      obtain ⟨p7, M7, rfl, hT7, hL7, hf7, hb7⟩ := HD6.out.l.te hG
      have HD7 := hid (HD6.out.fr hL7 hf7)
      have HO7 := hid (HO6.out.below hb7)
      have HT7 := hid hT7
      have hNew := Rg.Own.new w7 #[.pointer none] 25
      have HN7 := hid hNew
      clear hG hT7 hL7 hf7 hb7 HD6 HO6 hNew c0 c33
      obtain rfl : p7 = none := HT7.out.nil_iff.2 rfl
      go_wp2_with (first
       | (refine Rg.run rfl _ _ (run_alloc_tree _ _ _ w7.heap.size rfl rfl) ?_)
       | (refine wpl_store_tree HN7.out (by decide) _ rfl _ _ rfl rfl rfl ?_; intro w8 hO8 hu8; have HO8 := hid hO8; have HB8 : Hid (Below w7.heap.size w7 w8) := hid (hu8.below (al1 _ _) (Nat.le_refl _)); have HD8 := hid (HD7.out.below HB8.out); have HA8 := hid (HO7.out.below HB8.out); have c8 := (HC0'.out w8 (HO7.out.below HB8.out)).2; clear hO8 hu8)
       | (refine Rg.run rfl _ _ (op_load_tree (own_cell (j := 0) HO8.out rfl) ⟨_, rfl, rfl⟩) ?_)
       | (refine Rg.runW ?hw _ _ (op_load_tree (own_cell (j := 0) HO8.out rfl) ⟨_, rfl, rfl⟩) ?_; case hw => rfl)
      )
      refine (empty_any none w8).mono ?_
      rintro e w9 ⟨rfl, hb9⟩
      have HDx := hid ((HD8.out.below hb9).next)
      clear hb9 HD8 HD7 HA8 HO8 HO7 HN7
      go_wp2_with (first | (refine Rg.run rfl _ _ (op_load_tree (own_cell (j := 0) HDx.out.bx.o rfl) ⟨_, rfl, rfl⟩) ?_) | (refine Rg.runW ?hw _ _ (op_load_tree (own_cell (j := 0) HDx.out.bx.o rfl) ⟨_, rfl, rfl⟩) ?_; case hw => rfl))
      have HTl := hid (tree_enc M7 p t 64 HDx.out.has.good (Nat.le_refl _) HDx.out.has.fine w9 HDx.out.l.i HDx.out.u HDx.out.l.t)
      have hee := HDx.out.enc
      obtain ⟨E, hE⟩ : ∃ E, encT (build 64 (insL W)) = E := ⟨_, rfl⟩
      rw [hee, hE] at HTl
      have HEn := hid (fun ia in_ ic wz hI hn => renc_any 64 (Nat.le_refl _) (insL W) (ok_ins HDx.out.ok.1) (fine_ins HDx.out.ok.2) ia in_ ic wz hI hn)
      rw [hE] at HEn
      have hil : (insL W).length ≤ 1000000 := Nat.le_trans (ins_len _) (by have := HDx.out.few; omega)
      clear hee hE
      refine HTl.out.mono ?_
      intro e xa hG
      obtain ⟨rfl, hLa, hfa⟩ := HDx.out.l.tell hG
      replace HDx := hid (HDx.out.fr hLa hfa)
      clear hG hLa hfa HTl
      go_wp2_with fail
      refine (ins_any W wa W.length wc xa HDx.out.ps (by have := HDx.out.few; omega)).mono ?_
      rintro e xb ⟨ia, in_, ic, rfl, hI, hbb⟩
      have hin : in_ ≤ 1000000 := by rw [← hI.len]; exact hil
      have HI := hid hI
      replace HDx := hid (HDx.out.below hbb)
      clear hI hbb
      go_wp2_with fail
      refine (HEn.out ia in_ ic xb HI.out hin).mono ?_
      rintro e xc ⟨rfl, hbc⟩
      replace HDx := hid (HDx.out.below hbc)
      clear hbc HI HEn
      go_wp2_with (first | (refine Rg.run rfl _ _ (op_load_tree (own_cell (j := 0) HDx.out.bx.o rfl) ⟨_, rfl, rfl⟩) ?_) | (refine Rg.runW ?hw _ _ (op_load_tree (own_cell (j := 0) HDx.out.bx.o rfl) ⟨_, rfl, rfl⟩) ?_; case hw => rfl))
      refine (empty_any p xc).mono ?_
      rintro e xd ⟨rfl, hbd⟩
      replace HDx := hid (HDx.out.below hbd)
      have hem := HDx.out.empty
      clear hbd
      rw [hem]
      by_cases hz : W.length = 0
      ·have z1 : ((W.length : Int) == 0) = true := by rw [hz]; rfl
       have z2 : decide ((W.length : Int) = 0) = true := decide_eq_true (by omega)
       rw [decide_eq_true hz]
       go_wp2_with fail
       go_roundw
       case rel => exact ⟨j + 1, _, _, _, W, _, _, by omega, by omega, by go_num, by rw [hz], HDx⟩
       case measure => simp [intOf]; omega
      ·have z1 : ((W.length : Int) == 0) = false := by rw [beq_eq_false_iff_ne]; omega
       have z2 : decide ((W.length : Int) = 0) = false := decide_eq_false (by omega)
       rw [decide_eq_false hz]
       go_wp2_with fail
       go_roundw
       case rel => exact ⟨j + 1, _, _, _, W, _, _, by omega, by omega, by go_num, rfl, HDx⟩
       case measure => simp [intOf]; omega
     | some s =>
      rw [show findV (some s) = .tuple #[.string s, .bool true] from rfl]
      go_wp2_with (first
       | (first | (refine Rg.run rfl _ _ (op_load_tree (own_cell (j := 0) HD6.out.bx.o rfl) ⟨_, rfl, rfl⟩) ?_) | (refine Rg.runW ?hw _ _ (op_load_tree (own_cell (j := 0) HD6.out.bx.o rfl) ⟨_, rfl, rfl⟩) ?_; case hw => rfl))
       | (refine Rg.run rfl _ _ (op_load_key_mid HK.out (ActAt.own HO6.out).key ⟨_, rfl, rfl⟩) ?_))
      refine ((del_any M p t k HK.out w6 HD6.out.l.i HD6.out.u HD6.out.has.good HD6.out.has.full).2 ⟨_, hgt⟩).mono ?_
      intro e w7 hG
      obtain ⟨p7, M7, rfl, hT7, hL7, hf7, hb7⟩ := HD6.out.l.te hG
      have HD7 := hid (HD6.out.fr hL7 hf7)
      have HO7 := hid (HO6.out.below hb7)
      have HT7 := hid hT7
      have hNew := Rg.Own.new w7 #[.pointer none] 25
      have HN7 := hid hNew
      clear hG hT7 hL7 hf7 hb7 HD6 HO6 hNew c0 c33
      go_wp2_with (first
       | (refine Rg.run rfl _ _ (run_alloc_tree _ _ _ w7.heap.size rfl rfl) ?_)
       | (refine wpl_store_tree HN7.out (by decide) _ rfl _ _ rfl rfl rfl ?_; intro w8 hO8 hu8; have HO8 := hid hO8; have HB8 : Hid (Below w7.heap.size w7 w8) := hid (hu8.below (al1 _ _) (Nat.le_refl _)); have HD8 := hid (HD7.out.below HB8.out); have HA8 := hid (HO7.out.below HB8.out); have c8 := (HC0'.out w8 (HO7.out.below HB8.out)).2; clear hO8 hu8)
       | (refine Rg.run rfl _ _ (op_load_tree (own_cell (j := 0) HO8.out rfl) ⟨_, rfl, rfl⟩) ?_)
       | (refine Rg.runW ?hw _ _ (op_load_tree (own_cell (j := 0) HO8.out rfl) ⟨_, rfl, rfl⟩) ?_; case hw => rfl)
       | (refine wpl_store_tree HD8.out.bx.o (by simp) _ rfl _ _ rfl rfl rfl ?_; intro w9 hO9 hu9; have HO9 : Hid (Rg.Own w9 w.heap.size #[.pointer p7] 25) := hid hO9; have HU9 := hid hu9; have HA9 := hid (HA8.out.upd hu9 hkb); have c9 := (HC0'.out w9 (HA8.out.upd hu9 hkb)).2; clear hO9 hu9)
       | (refine Rg.run rfl _ _ (op_load_key_mid HK.out (ActAt.own HA9.out).key ⟨_, rfl, rfl⟩) ?_))
      refine (rwithout_own W wa W.length wc k HK.out w9 (HD8.out.psu HU9.out) (by omega)).mono ?_
      intro e wb hG
      obtain ⟨a2, n2, c2, rfl, hps2, hb2⟩ := hG.ps (fun x hx => HD8.out.ok.1 x (mem_without hx))
      obtain rfl := hps2.len
      have HDx := hid (HD8.out.set2 HU9.out HO9.out hb2 HT7.out hps2 (has_without HD8.out.has HK.out) (apart_without HD8.out.ap k) (HD8.out.ok.without k) (by have := len_without W k; have := HD8.out.few; omega))
      obtain ⟨t', ht'⟩ : ∃ x, del t (path k) = x := ⟨_, rfl⟩
      obtain ⟨W', hW'⟩ : ∃ x, withoutL W k = x := ⟨_, rfl⟩
      rw [ht', hW'] at HDx
      rw [hW']
      clear ht' hW'
      clear hG hb2 hps2 HD8 HD7 HA8 HO8 HO7 HN7 HA9 HU9 HO9 HT7 hgt
      go_wp2_with (first | (refine Rg.run rfl _ _ (op_load_tree (own_cell (j := 0) HDx.out.bx.o rfl) ⟨_, rfl, rfl⟩) ?_) | (refine Rg.runW ?hw _ _ (op_load_tree (own_cell (j := 0) HDx.out.bx.o rfl) ⟨_, rfl, rfl⟩) ?_; case hw => rfl))
      have HTl := hid (tree_enc M7 p7 t' 64 HDx.out.has.good (Nat.le_refl _) HDx.out.has.fine wb HDx.out.l.i HDx.out.u HDx.out.l.t)
      have hee := HDx.out.enc
      obtain ⟨E, hE⟩ : ∃ E, encT (build 64 (insL W')) = E := ⟨_, rfl⟩
      rw [hee, hE] at HTl
      have HEn := hid (fun ia in_ ic wz hI hn => renc_any 64 (Nat.le_refl _) (insL W') (ok_ins HDx.out.ok.1) (fine_ins HDx.out.ok.2) ia in_ ic wz hI hn)
      rw [hE] at HEn
      have hil : (insL W').length ≤ 1000000 := Nat.le_trans (ins_len _) (by have := HDx.out.few; omega)
      clear hee hE
      refine HTl.out.mono ?_
      intro e xa hG
      obtain ⟨rfl, hLa, hfa⟩ := HDx.out.l.tell hG
      replace HDx := hid (HDx.out.fr hLa hfa)
      clear hG hLa hfa HTl
      go_wp2_with fail
      refine (ins_any W' a2 W'.length c2 xa HDx.out.ps (by have := HDx.out.few; omega)).mono ?_
      rintro e xb ⟨ia, in_, ic, rfl, hI, hbb⟩
      have hin : in_ ≤ 1000000 := by rw [← hI.len]; exact hil
      have HI := hid hI
      replace HDx := hid (HDx.out.below hbb)
      clear hI hbb
      go_wp2_with fail
      refine (HEn.out ia in_ ic xb HI.out hin).mono ?_
      rintro e xc ⟨rfl, hbc⟩
      replace HDx := hid (HDx.out.below hbc)
      clear hbc HI HEn
      go_wp2_with (first | (refine Rg.run rfl _ _ (op_load_tree (own_cell (j := 0) HDx.out.bx.o rfl) ⟨_, rfl, rfl⟩) ?_) | (refine Rg.runW ?hw _ _ (op_load_tree (own_cell (j := 0) HDx.out.bx.o rfl) ⟨_, rfl, rfl⟩) ?_; case hw => rfl))
      refine (empty_any p7 xc).mono ?_
      rintro e xd ⟨rfl, hbd⟩
      replace HDx := hid (HDx.out.below hbd)
      have hem := HDx.out.empty
      clear hbd
      rw [hem]
      by_cases hz : W'.length = 0
      ·have z1 : ((W'.length : Int) == 0) = true := by rw [hz]; rfl
       have z2 : decide ((W'.length : Int) = 0) = true := decide_eq_true (by omega)
       rw [decide_eq_true hz]
       go_wp2_with fail
       go_roundw
       case rel => exact ⟨j + 1, _, _, _, W', _, _, by omega, by omega, by go_num, by rw [hz], HDx⟩
       case measure => simp [intOf]; omega
      ·have z1 : ((W'.length : Int) == 0) = false := by rw [beq_eq_false_iff_ne]; omega
       have z2 : decide ((W'.length : Int) = 0) = false := decide_eq_false (by omega)
       rw [decide_eq_false hz]
       go_wp2_with fail
       go_roundw
       case rel => exact ⟨j + 1, _, _, _, W', _, _, by omega, by omega, by go_num, rfl, HDx⟩
       case measure => simp [intOf]; omega
    ·have k21 : (K == 2) = false := by rw [beq_eq_false_iff_ne]; exact hK2
     have k22 : decide (K = 2) = false := decide_eq_false hK2
     by_cases hK3 : K = 3
     ·subst hK3
      cases r with
      | none =>
       rw [show findV none = .tuple #[.string eB, .bool false] from rfl]
       go_wp2_with (first
        | (first | (refine Rg.run rfl _ _ (op_load_tree (own_cell (j := 0) HD6.out.bx.o rfl) ⟨_, rfl, rfl⟩) ?_) | (refine Rg.runW ?hw _ _ (op_load_tree (own_cell (j := 0) HD6.out.bx.o rfl) ⟨_, rfl, rfl⟩) ?_; case hw => rfl))
        | (refine Rg.run rfl _ _ (op_load_key_mid HK.out (ActAt.own HO6.out).key ⟨_, rfl, rfl⟩) ?_))
       refine (get_any M p t k HK.out w6 HD6.out.l.i HD6.out.u HD6.out.has.good).mono ?_
       rintro e w7 ⟨rfl, hb7⟩
       rw [hgt, show getV (some none) = .tuple #[.string eB, .int .i64 7] from rfl]
       have HDx := hid ((HD6.out.below hb7).next)
       clear hb7 HD6 hgt HO6
       go_wp2_with (first | (refine Rg.run rfl _ _ (op_load_tree (own_cell (j := 0) HDx.out.bx.o rfl) ⟨_, rfl, rfl⟩) ?_) | (refine Rg.runW ?hw _ _ (op_load_tree (own_cell (j := 0) HDx.out.bx.o rfl) ⟨_, rfl, rfl⟩) ?_; case hw => rfl))
       have HTl := hid (tree_enc M p t 64 HDx.out.has.good (Nat.le_refl _) HDx.out.has.fine w7 HDx.out.l.i HDx.out.u HDx.out.l.t)
       have hee := HDx.out.enc
       obtain ⟨E, hE⟩ : ∃ E, encT (build 64 (insL W)) = E := ⟨_, rfl⟩
       rw [hee, hE] at HTl
       have HEn := hid (fun ia in_ ic wz hI hn => renc_any 64 (Nat.le_refl _) (insL W) (ok_ins HDx.out.ok.1) (fine_ins HDx.out.ok.2) ia in_ ic wz hI hn)
       rw [hE] at HEn
       have hil : (insL W).length ≤ 1000000 := Nat.le_trans (ins_len _) (by have := HDx.out.few; omega)
       clear hee hE
       refine HTl.out.mono ?_
       intro e xa hG
       obtain ⟨rfl, hLa, hfa⟩ := HDx.out.l.tell hG
       replace HDx := hid (HDx.out.fr hLa hfa)
       clear hG hLa hfa HTl
       go_wp2_with fail
       refine (ins_any W wa W.length wc xa HDx.out.ps (by have := HDx.out.few; omega)).mono ?_
       rintro e xb ⟨ia, in_, ic, rfl, hI, hbb⟩
       have hin : in_ ≤ 1000000 := by rw [← hI.len]; exact hil
       have HI := hid hI
       replace HDx := hid (HDx.out.below hbb)
       clear hI hbb
       go_wp2_with fail
       refine (HEn.out ia in_ ic xb HI.out hin).mono ?_
       rintro e xc ⟨rfl, hbc⟩
       replace HDx := hid (HDx.out.below hbc)
       clear hbc HI HEn
       go_wp2_with (first | (refine Rg.run rfl _ _ (op_load_tree (own_cell (j := 0) HDx.out.bx.o rfl) ⟨_, rfl, rfl⟩) ?_) | (refine Rg.runW ?hw _ _ (op_load_tree (own_cell (j := 0) HDx.out.bx.o rfl) ⟨_, rfl, rfl⟩) ?_; case hw => rfl))
       refine (empty_any p xc).mono ?_
       rintro e xd ⟨rfl, hbd⟩
       replace HDx := hid (HDx.out.below hbd)
       have hem := HDx.out.empty
       clear hbd
       rw [hem]
       by_cases hz : W.length = 0
       ·have z1 : ((W.length : Int) == 0) = true := by rw [hz]; rfl
        have z2 : decide ((W.length : Int) = 0) = true := decide_eq_true (by omega)
        rw [decide_eq_true hz]
        go_wp2_with fail
        go_roundw
        case rel => exact ⟨j + 1, _, _, _, W, _, _, by omega, by omega, by go_num, by rw [hz], HDx⟩
        case measure => simp [intOf]; omega
       ·have z1 : ((W.length : Int) == 0) = false := by rw [beq_eq_false_iff_ne]; omega
        have z2 : decide ((W.length : Int) = 0) = false := decide_eq_false (by omega)
        rw [decide_eq_false hz]
        go_wp2_with fail
        go_roundw
        case rel => exact ⟨j + 1, _, _, _, W, _, _, by omega, by omega, by go_num, rfl, HDx⟩
        case measure => simp [intOf]; omega
      | some s =>
       rw [show findV (some s) = .tuple #[.string s, .bool true] from rfl]
       go_wp2_with (first
        | (first | (refine Rg.run rfl _ _ (op_load_tree (own_cell (j := 0) HD6.out.bx.o rfl) ⟨_, rfl, rfl⟩) ?_) | (refine Rg.runW ?hw _ _ (op_load_tree (own_cell (j := 0) HD6.out.bx.o rfl) ⟨_, rfl, rfl⟩) ?_; case hw => rfl))
        | (refine Rg.run rfl _ _ (op_load_key_mid HK.out (ActAt.own HO6.out).key ⟨_, rfl, rfl⟩) ?_))
       refine (get_any M p t k HK.out w6 HD6.out.l.i HD6.out.u HD6.out.has.good).mono ?_
       rintro e w7 ⟨rfl, hb7⟩
       rw [hgt, show getV (some (some s)) = .tuple #[.string s, .int .i64 0] from rfl]
       have HDx := hid ((HD6.out.below hb7).next)
       clear hb7 HD6 hgt HO6
       go_wp2_with (first | (refine Rg.run rfl _ _ (op_load_tree (own_cell (j := 0) HDx.out.bx.o rfl) ⟨_, rfl, rfl⟩) ?_) | (refine Rg.runW ?hw _ _ (op_load_tree (own_cell (j := 0) HDx.out.bx.o rfl) ⟨_, rfl, rfl⟩) ?_; case hw => rfl))
       have HTl := hid (tree_enc M p t 64 HDx.out.has.good (Nat.le_refl _) HDx.out.has.fine w7 HDx.out.l.i HDx.out.u HDx.out.l.t)
       have hee := HDx.out.enc
       obtain ⟨E, hE⟩ : ∃ E, encT (build 64 (insL W)) = E := ⟨_, rfl⟩
       rw [hee, hE] at HTl
       have HEn := hid (fun ia in_ ic wz hI hn => renc_any 64 (Nat.le_refl _) (insL W) (ok_ins HDx.out.ok.1) (fine_ins HDx.out.ok.2) ia in_ ic wz hI hn)
       rw [hE] at HEn
       have hil : (insL W).length ≤ 1000000 := Nat.le_trans (ins_len _) (by have := HDx.out.few; omega)
       clear hee hE
       refine HTl.out.mono ?_
       intro e xa hG
       obtain ⟨rfl, hLa, hfa⟩ := HDx.out.l.tell hG
       replace HDx := hid (HDx.out.fr hLa hfa)
       clear hG hLa hfa HTl
       go_wp2_with fail
       refine (ins_any W wa W.length wc xa HDx.out.ps (by have := HDx.out.few; omega)).mono ?_
       rintro e xb ⟨ia, in_, ic, rfl, hI, hbb⟩
       have hin : in_ ≤ 1000000 := by rw [← hI.len]; exact hil
       have HI := hid hI
       replace HDx := hid (HDx.out.below hbb)
       clear hI hbb
       go_wp2_with fail
       refine (HEn.out ia in_ ic xb HI.out hin).mono ?_
       rintro e xc ⟨rfl, hbc⟩
       replace HDx := hid (HDx.out.below hbc)
       clear hbc HI HEn
       go_wp2_with (first | (refine Rg.run rfl _ _ (op_load_tree (own_cell (j := 0) HDx.out.bx.o rfl) ⟨_, rfl, rfl⟩) ?_) | (refine Rg.runW ?hw _ _ (op_load_tree (own_cell (j := 0) HDx.out.bx.o rfl) ⟨_, rfl, rfl⟩) ?_; case hw => rfl))
       refine (empty_any p xc).mono ?_
       rintro e xd ⟨rfl, hbd⟩
       replace HDx := hid (HDx.out.below hbd)
       have hem := HDx.out.empty
       clear hbd
       rw [hem]
       by_cases hz : W.length = 0
       ·have z1 : ((W.length : Int) == 0) = true := by rw [hz]; rfl
        have z2 : decide ((W.length : Int) = 0) = true := decide_eq_true (by omega)
        rw [decide_eq_true hz]
        go_wp2_with fail
        go_roundw
        case rel => exact ⟨j + 1, _, _, _, W, _, _, by omega, by omega, by go_num, by rw [hz], HDx⟩
        case measure => simp [intOf]; omega
       ·have z1 : ((W.length : Int) == 0) = false := by rw [beq_eq_false_iff_ne]; omega
        have z2 : decide ((W.length : Int) = 0) = false := decide_eq_false (by omega)
        rw [decide_eq_false hz]
        go_wp2_with fail
        go_roundw
        case rel => exact ⟨j + 1, _, _, _, W, _, _, by omega, by omega, by go_num, rfl, HDx⟩
        case measure => simp [intOf]; omega
     ·have k31 : (K == 3) = false := by rw [beq_eq_false_iff_ne]; exact hK3
      have k32 : decide (K = 3) = false := decide_eq_false hK3
      obtain ⟨fv, fb, hfv⟩ : ∃ fv fb, findV r = .tuple #[.string fv, .bool fb] := by cases r <;> exact ⟨_, _, rfl⟩
      rw [hfv]
      clear hfv
      by_cases hv0 : v.size = 0
      ·clear hd1 hd2
       obtain rfl := size_zero hv0
       go_wp2_with (first
        | (first | (refine Rg.run rfl _ _ (op_load_tree (own_cell (j := 0) HD6.out.bx.o rfl) ⟨_, rfl, rfl⟩) ?_) | (refine Rg.runW ?hw _ _ (op_load_tree (own_cell (j := 0) HD6.out.bx.o rfl) ⟨_, rfl, rfl⟩) ?_; case hw => rfl))
        | (refine Rg.run rfl _ _ (op_load_key_mid HK.out (ActAt.own HO6.out).key ⟨_, rfl, rfl⟩) ?_))
       refine (put_empty M p k w6 HD6.out.l.i).mono ?_
       intro e w7 hG
       obtain ⟨p7, M7, rfl, hT7, hL7, hf7, hb7⟩ := HD6.out.l.te hG
       have HD7 := hid (HD6.out.fr hL7 hf7)
       have HO7 := hid (HO6.out.below hb7)
       have HT7 := hid hT7
       have hNew := Rg.Own.new w7 #[.pointer none] 25
       have HN7 := hid hNew
       clear hG hT7 hL7 hf7 hb7 HD6 HO6 hNew c0 c33
       go_wp2_with (first
        | (refine Rg.run rfl _ _ (run_alloc_tree _ _ _ w7.heap.size rfl rfl) ?_)
        | (refine wpl_store_tree HN7.out (by decide) _ rfl _ _ rfl rfl rfl ?_; intro w8 hO8 hu8; have HO8 := hid hO8; have HB8 : Hid (Below w7.heap.size w7 w8) := hid (hu8.below (al1 _ _) (Nat.le_refl _)); have HD8 := hid (HD7.out.below HB8.out); have HA8 := hid (HO7.out.below HB8.out); have c8 := (HC0'.out w8 (HO7.out.below HB8.out)).2; clear hO8 hu8)
        | (refine Rg.run rfl _ _ (op_load_tree (own_cell (j := 0) HO8.out rfl) ⟨_, rfl, rfl⟩) ?_)
        | (refine Rg.runW ?hw _ _ (op_load_tree (own_cell (j := 0) HO8.out rfl) ⟨_, rfl, rfl⟩) ?_; case hw => rfl)
       )
       go_roundw
       case rel => exact ⟨j + 1, _, _, _, W, _, _, by omega, by omega, by go_num, rfl, hid HD8.out.next⟩
       case measure => simp [intOf]; omega
      ·have hne := Ni.not_empty (s := v) (by omega)
       go_wp2_with (first
        | (first | (refine Rg.run rfl _ _ (op_load_tree (own_cell (j := 0) HD6.out.bx.o rfl) ⟨_, rfl, rfl⟩) ?_) | (refine Rg.runW ?hw _ _ (op_load_tree (own_cell (j := 0) HD6.out.bx.o rfl) ⟨_, rfl, rfl⟩) ?_; case hw => rfl))
        | (refine Rg.run rfl _ _ (op_load_key_mid HK.out (ActAt.own HO6.out).key ⟨_, rfl, rfl⟩) ?_))
       refine ((put_any M p t k HK.out v hv0 (by omega) w6 HD6.out.l.i HD6.out.u HD6.out.has.good).2 (by rw [hgt]; intro e; cases e)).mono ?_
       intro e w7 hG
       obtain ⟨p7, M7, rfl, hT7, hL7, hf7, hb7⟩ := HD6.out.l.te hG
       have HD7 := hid (HD6.out.fr hL7 hf7)
       have HO7 := hid (HO6.out.below hb7)
       have HT7 := hid hT7
       have hNew := Rg.Own.new w7 #[.pointer none] 25
       have HN7 := hid hNew
       clear hG hT7 hL7 hf7 hb7 HD6 HO6 hNew c0 c33
       go_wp2_with (first
        | (refine Rg.run rfl _ _ (run_alloc_tree _ _ _ w7.heap.size rfl rfl) ?_)
        | (refine wpl_store_tree HN7.out (by decide) _ rfl _ _ rfl rfl rfl ?_; intro w8 hO8 hu8; have HO8 := hid hO8; have HB8 : Hid (Below w7.heap.size w7 w8) := hid (hu8.below (al1 _ _) (Nat.le_refl _)); have HD8 := hid (HD7.out.below HB8.out); have HA8 := hid (HO7.out.below HB8.out); have c8 := (HC0'.out w8 (HO7.out.below HB8.out)).2; clear hO8 hu8)
        | (refine Rg.run rfl _ _ (op_load_tree (own_cell (j := 0) HO8.out rfl) ⟨_, rfl, rfl⟩) ?_)
        | (refine Rg.runW ?hw _ _ (op_load_tree (own_cell (j := 0) HO8.out rfl) ⟨_, rfl, rfl⟩) ?_; case hw => rfl)
        | (refine wpl_store_tree HD8.out.bx.o (by simp) _ rfl _ _ rfl rfl rfl ?_; intro w9 hO9 hu9; have HO9 : Hid (Rg.Own w9 w.heap.size #[.pointer p7] 25) := hid hO9; have HU9 := hid hu9; have HA9 := hid (HA8.out.upd hu9 hkb); have c9 := (HC0'.out w9 (HA8.out.upd hu9 hkb)).2; clear hO9 hu9)
        | (refine Rg.run rfl _ _ (op_load_key_mid HK.out (ActAt.own HA9.out).key ⟨_, rfl, rfl⟩) ?_)
        | (refine Rg.run rfl _ _ (op_build (built_pair k v HK.out) ⟨_, rfl, rfl⟩) ?_))
       refine (with_own W wa W.length wc (k, v) HK.out w9 (HD8.out.psu HU9.out) (by omega)).mono ?_
       intro e wb hG
       rw [show withoutL W (k, v).1 ++ [(k, v)] = withL W (k, v) from rfl] at hG
       have hok2 := HD8.out.ok.with_ (x := (k, v)) HK.out ⟨hv0, by show v.size ≤ 65552; omega⟩
       obtain ⟨a2, n2, c2, rfl, hps2, hb2⟩ := hG.ps hok2.1
       obtain rfl := hps2.len
       have HDx := hid (HD8.out.set2 HU9.out HO9.out hb2 HT7.out hps2 (has_with (x := (k, v)) HD8.out.has HK.out hv0 (by show v.size ≤ 65552; omega)) (apart_with HD8.out.ap (k, v)) hok2 (by have := len_with W (k, v); have := HD8.out.few; omega))
       obtain ⟨t', ht'⟩ : ∃ x, put t (path k) v = x := ⟨_, rfl⟩
       obtain ⟨W', hW'⟩ : ∃ x, withL W (k, v) = x := ⟨_, rfl⟩
       rw [ht', hW'] at HDx
       rw [hW']
       clear ht' hW'
       clear hG hb2 hps2 hok2 HD8 HD7 HA8 HO8 HO7 HN7 HA9 HU9 HO9 HT7 hgt
       go_wp2_with (first | (refine Rg.run rfl _ _ (op_load_tree (own_cell (j := 0) HDx.out.bx.o rfl) ⟨_, rfl, rfl⟩) ?_) | (refine Rg.runW ?hw _ _ (op_load_tree (own_cell (j := 0) HDx.out.bx.o rfl) ⟨_, rfl, rfl⟩) ?_; case hw => rfl))
       have HTl := hid (tree_enc M7 p7 t' 64 HDx.out.has.good (Nat.le_refl _) HDx.out.has.fine wb HDx.out.l.i HDx.out.u HDx.out.l.t)
       have hee := HDx.out.enc
       obtain ⟨E, hE⟩ : ∃ E, encT (build 64 (insL W')) = E := ⟨_, rfl⟩
       rw [hee, hE] at HTl
       have HEn := hid (fun ia in_ ic wz hI hn => renc_any 64 (Nat.le_refl _) (insL W') (ok_ins HDx.out.ok.1) (fine_ins HDx.out.ok.2) ia in_ ic wz hI hn)
       rw [hE] at HEn
       have hil : (insL W').length ≤ 1000000 := Nat.le_trans (ins_len _) (by have := HDx.out.few; omega)
       clear hee hE
       refine HTl.out.mono ?_
       intro e xa hG
       obtain ⟨rfl, hLa, hfa⟩ := HDx.out.l.tell hG
       replace HDx := hid (HDx.out.fr hLa hfa)
       clear hG hLa hfa HTl
       go_wp2_with fail
       refine (ins_any W' a2 W'.length c2 xa HDx.out.ps (by have := HDx.out.few; omega)).mono ?_
       rintro e xb ⟨ia, in_, ic, rfl, hI, hbb⟩
       have hin : in_ ≤ 1000000 := by rw [← hI.len]; exact hil
       have HI := hid hI
       replace HDx := hid (HDx.out.below hbb)
       clear hI hbb
       go_wp2_with fail
       refine (HEn.out ia in_ ic xb HI.out hin).mono ?_
       rintro e xc ⟨rfl, hbc⟩
       replace HDx := hid (HDx.out.below hbc)
       clear hbc HI HEn
       go_wp2_with (first | (refine Rg.run rfl _ _ (op_load_tree (own_cell (j := 0) HDx.out.bx.o rfl) ⟨_, rfl, rfl⟩) ?_) | (refine Rg.runW ?hw _ _ (op_load_tree (own_cell (j := 0) HDx.out.bx.o rfl) ⟨_, rfl, rfl⟩) ?_; case hw => rfl))
       refine (empty_any p7 xc).mono ?_
       rintro e xd ⟨rfl, hbd⟩
       replace HDx := hid (HDx.out.below hbd)
       have hem := HDx.out.empty
       clear hbd
       rw [hem]
       by_cases hz : W'.length = 0
       ·have z1 : ((W'.length : Int) == 0) = true := by rw [hz]; rfl
        have z2 : decide ((W'.length : Int) = 0) = true := decide_eq_true (by omega)
        rw [decide_eq_true hz]
        go_wp2_with fail
        go_roundw
        case rel => exact ⟨j + 1, _, _, _, W', _, _, by omega, by omega, by go_num, by rw [hz], HDx⟩
        case measure => simp [intOf]; omega
       ·have z1 : ((W'.length : Int) == 0) = false := by rw [beq_eq_false_iff_ne]; omega
        have z2 : decide ((W'.length : Int) = 0) = false := decide_eq_false (by omega)
        rw [decide_eq_false hz]
        go_wp2_with fail
        go_roundw
        case rel => exact ⟨j + 1, _, _, _, W', _, _, by omega, by omega, by go_num, rfl, HDx⟩
        case measure => simp [intOf]; omega
   ·have hd1 : decide ((200 : Int) < (v.size : Int)) = true := decide_eq_true (by omega)
    have hd2 : decide (200 < v.size) = true := decide_eq_true (by omega)
    go_wp2_with (first
     | (refine Rg.run rfl _ _ (op_load_act (x := ⟨K, k, v⟩) HK.out HAt.out ⟨_, rfl, rfl⟩) ?_)
     | (refine Rg.run rfl _ _ (HAl.out _ _ _ wr.heap.size rfl rfl) ?_)
     | (refine wpl_store_act HN.out HZ.out ⟨K, k, v⟩ HK.out rfl _ _ rfl rfl rfl rfl ?_; intro w5 hO5 hu5; have HO5 := hid hO5; have HB5 : Hid (Below wr.heap.size wr w5) := hid (hu5.below (al1 _ _) (Nat.le_refl _)); obtain ⟨c0, c33⟩ := HC0.out w5 hO5; clear hO5 hu5)
     | (refine Rg.run rfl _ _ (op_load_key_mid HK.out (ActAt.own HO5.out).key ⟨_, rfl, rfl⟩) ?_))
    refine (awake_any w5 (HD.out.below HB5.out).l.t).mono ?_
    rintro e w9 ⟨rfl, hb9⟩
    have HB9 := hid (bst (HD.out.below HB5.out).l.b hb9)
    clear hb9
    go_wp2
    go_ret
    exact ⟨rfl, HB9.out⟩
  ·rcases Nat.lt_or_ge j n with h1 | h1
   ·obtain rfl : j = 30 := by omega
    have i1 : ((30 : Nat) : Int) < n := by omega
    go_wp2_with fail
    refine (awake_any wr HD.out.l.t).mono ?_
    rintro e w9 ⟨rfl, hb9⟩
    have HB9 := hid (bst HD.out.l.b hb9)
    clear hb9
    go_wp2
    go_ret
    exact ⟨rfl, HB9.out⟩
   ·obtain rfl : j = n := by omega
    go_wp2_with fail
    refine (awake_any wr HD.out.l.t).mono ?_
    rintro e w9 ⟨rfl, hb9⟩
    have HB9 := hid (bst HD.out.l.b hb9)
    clear hb9
    go_wp2
    go_ret
    exact ⟨rfl, HB9.out⟩
end Tm
end
end Go.Proofs.YtgolhnfkmmajpaaGreatDoor
