/-
 The contract of without: a tree without the value at the end of a way.
-/
import Derived.Test.YtgolhnfkmmajpaaGreatDoorMb16
import Derived.Test.YtgolhnfkmmajpaaGreatDoorMb17
import Derived.Test.YtgolhnfkmmajpaaGreatDoorMb1
import Derived.Defers
import Derived.Recover
import Derived.Laws.Pointers
import Derived.Test.YtgolhnfkmmajpaaGreatDoorMb21
open Go.Lib (hid)
set_option linter.unusedSimpArgs false
set_option linter.unusedVariables false
set_option maxHeartbeats 40000000
set_option maxRecDepth 100000
namespace Go.Proofs.YtgolhnfkmmajpaaGreatDoor
section
open Go.RowKit
namespace Tm
open Tr Ni Pk
theorem built_nil : Tryz.prog.built 25 [] = some #[.pointer none] := by kernel_rfl
theorem glue_ne {q : Pa} {t : T} (h : t ≠ .nil) : glue q t ≠ .nil := by
 cases t with
 | nil => exact absurd rfl h
 | leaf p v => intro e; cases e
 | ext p s => intro e; cases e
 | br ks => exact wrap_ne (fun e => by cases e)
 | stub r => exact wrap_ne (fun e => by cases e)
theorem kids_left {ks : Fin 16 → T} {L : Nat} (g : Tr.Good (.br ks) L) (x : Fin 16) (t : T) : kidsOf (fun j => if j = x then t else ks j) ≠ [] := by
 obtain ⟨_, ⟨i, j, hij, hi, hj⟩, _⟩ := g
 by_cases e : i = x
 ·have hjx : j ≠ x := fun h => hij (e.trans h.symm)
  have h : j ∈ kidsOf (fun j => if j = x then t else ks j) := mem_kidsOf.2 (by rw [if_neg hjx]; exact hj)
  exact List.ne_nil_of_mem h
 ·have h : i ∈ kidsOf (fun j => if j = x then t else ks j) := mem_kidsOf.2 (by rw [if_neg e]; exact hi)
  exact List.ne_nil_of_mem h
theorem collapse_ne {ks : Fin 16 → T} (h : kidsOf ks ≠ []) : collapse ks ≠ .nil := by
 unfold collapse
 split
 ·rename_i e; exact absurd e h
 ·rename_i i e
  exact glue_ne (mem_kidsOf.1 (by rw [e]; exact List.mem_cons_self))
 ·intro e; cases e
theorem del_br_ne {ks : Fin 16 → T} {L : Nat} (g : Tr.Good (.br ks) L) (c : UInt8) (r : Pa) : del (.br ks) (c :: r) ≠ .nil := by
 have e : del (.br ks) (c :: r) = collapse (fun j => if j = nb c then del (ks (nb c)) r else ks j) := by
  show collapse _ = collapse _
  congr 1
  funext j
  by_cases h : j = nb c
  ·subst h; rfl
  ·rw [if_neg h, if_neg h]
 rw [e]
 exact collapse_ne (kids_left g _ _)
theorem without_nil (M : Mp) (a : Option Addr) (n c : Nat) (w : World) (hi : Inv M w) : Calls Tryz.prog 32 #[.agg #[.pointer none], .slice a n c] w (fun e w' => e = .panicked [errP 7] ∧ Below w.heap.size w w') := by
 obtain ⟨w2, hw2, hO0, hO1, hb2, hs2⟩ := enter2 w none
 have HK := hid (kind_any M none .nil w2 (hi.below hb2) rfl)
 have H0 := hid hO0
 have HB : Hid (∀ w3, Below w2.heap.size w2 w3 → Below w.heap.size w w3) := hid (fun w3 hb3 => bst hb2 hb3)
 clear hO0 hO1 hb2 hs2 hi
 subst hw2
 go_enter Tryz.func32, Tryz.ntmps32
 go_wp2_with (first | (refine Rg.run rfl _ _ (run_alloc_tree _ _ _ (w.heap.size + 1) (by simp) rfl) ?_) | (refine Rg.run rfl _ _ (op_load_tree (own_cell (j := 0) H0.out rfl) ⟨_, rfl, rfl⟩) ?_))
 refine HK.out.mono ?_
 rintro e w3 ⟨rfl, hb3⟩
 have HB3 := hid (HB.out w3 hb3)
 clear hb3 HB HK H0
 unfold kindT
 go_wp2
 simp +zetaDelta [bodyPost, Exit.then, errP]
 exact HB3.out
theorem without_leaf (M : Mp) (b : Nat) (q : Pa) (u : ByteArray) (hm : M.at_ b = some (.leaf q u)) (a : Option Addr) (n c : Nat) (way : Pa) (w : World) (hi : Inv M w) (hB : IsBs w a n c way) (hl : q.length = way.length) (h64 : way.length ≤ 64) :
  (q ≠ way → Calls Tryz.prog 32 #[.agg #[.pointer (some ⟨b, 0, none⟩)], .slice a n c] w (fun e w' => e = .panicked [errP 7] ∧ Below w.heap.size w w')) ∧
  (q = way → Calls Tryz.prog 32 #[.agg #[.pointer (some ⟨b, 0, none⟩)], .slice a n c] w (GotT M w .nil)) := by
 obtain ⟨w2, hw2, hO0, hO1, hb2, hs2⟩ := enter2 w (some ⟨b, 0, none⟩)
 have hi2 := hi.below hb2
 have hn := hB.len
 have h0 := own_cell (j := 0) hO0 rfl
 have HK := hid (kind_any M _ _ w2 hi2 (isT_at hi2 hm))
 have H3 : Hid (∀ w3, Below w2.heap.size w2 w3 → w3.cell? ⟨w.heap.size, 0, none⟩ = some (.pointer (some ⟨b, 0, none⟩)) ∧ Calls Tryz.prog 66 #[.agg #[.pointer (some ⟨b, 0, none⟩)], .slice a n c] w3 (fun e w' => e = (if q = way then .returned (.tuple #[]) else .panicked [errP 7]) ∧ Below w3.heap.size w3 w') ∧
   ∀ w4, Below w3.heap.size w3 w4 → Below w.heap.size w w4 ∧ Rg.Own w4 (w.heap.size + 1) #[.pointer none] 25 ∧ ∀ w10, Rg.Upd w4 (w.heap.size + 1) w10 → GotT M w .nil (.returned (tv none)) w10) := hid (fun w3 hb3 =>
  ⟨cell_on hb3 h0, end_any M b _ hm a n c way w3 (hi2.below hb3) (hB.below (bst hb2 hb3)) (by rw [← hn]; exact hl) (by omega), fun w4 hb4 => ⟨bst (bst hb2 hb3) hb4, hO1.below (bst hb3 hb4),
   fun w10 hu => got_old hi (IsT.zero M) (hu.below (bst (bst hb2 hb3) hb4) (by omega))⟩⟩)
 have H0 := hid hO0
 clear hi hi2 hb2 hn hl hm hB hO0 hO1 hs2 h0
 subst hw2
 refine ⟨fun e => ?_, fun e => ?_⟩
 ·simp only [if_neg e] at H3
  clear e
  go_enter Tryz.func32, Tryz.ntmps32
  go_wp2_with (first | (refine Rg.run rfl _ _ (run_alloc_tree _ _ _ (w.heap.size + 1) (by simp) rfl) ?_) | (refine Rg.run rfl _ _ (op_load_tree (own_cell (j := 0) H0.out rfl) ⟨_, rfl, rfl⟩) ?_))
  refine HK.out.mono ?_
  rintro e w3 ⟨rfl, hb3⟩
  obtain ⟨d0, HC, H4⟩ := H3.out w3 hb3
  replace HC := hid HC
  replace H4 := hid H4
  unfold kindT
  clear H0 hb3 HK H3
  go_wp2_with (refine Rg.run rfl _ _ (op_load_tree d0 ⟨_, rfl, rfl⟩) ?_)
  refine HC.out.mono ?_
  rintro e w4 ⟨rfl, hb4⟩
  have HB := hid (H4.out w4 hb4).1
  clear hb4 H4 d0 HC
  go_wp2
  simp +zetaDelta [bodyPost, Exit.then]
  exact HB.out
 ·simp only [if_pos e] at H3
  clear e
  go_enter Tryz.func32, Tryz.ntmps32
  go_wp2_with (first | (refine Rg.run rfl _ _ (run_alloc_tree _ _ _ (w.heap.size + 1) (by simp) rfl) ?_) | (refine Rg.run rfl _ _ (op_load_tree (own_cell (j := 0) H0.out rfl) ⟨_, rfl, rfl⟩) ?_))
  refine HK.out.mono ?_
  rintro e w3 ⟨rfl, hb3⟩
  obtain ⟨d0, HC, H4⟩ := H3.out w3 hb3
  replace HC := hid HC
  replace H4 := hid H4
  unfold kindT
  clear H0 hb3 HK H3
  go_wp2_with (refine Rg.run rfl _ _ (op_load_tree d0 ⟨_, rfl, rfl⟩) ?_)
  refine HC.out.mono ?_
  rintro e w4 ⟨rfl, hb4⟩
  obtain ⟨_, hO4, hE⟩ := H4.out w4 hb4
  have HO4 := hid hO4
  have HE := hid hE
  clear hb4 H4 d0 HC hO4 hE
  go_wp2_with (first
   | (refine Rg.run rfl _ _ (op_build built_nil ⟨_, rfl, rfl⟩) ?_)
   | (refine wpl_store_tree HO4.out (by decide) none rfl _ _ rfl rfl rfl ?_; intro w10 hO10 hu10; have HO10 := hid hO10; have HU10 := hid hu10; clear hO10 hu10))
  exact bodyPost_ret (res_tree rfl _ rfl HO10.out) rfl (HE.out w10 HU10.out)
theorem without_br (ks : Fin 16 → T) (M : Mp) (b : Nat) (hm : M.at_ b = some (.br ks)) (w : World) (hi : Inv M w) (wa : Option Addr) (wn wc : Nat) (c0 : UInt8) (r : Pa) (hW : Bs M w wa wn wc (c0 :: r)) (hc0 : c0.toNat < 16) (hlen : (c0 :: r).length ≤ 64) (hg : Tr.Good (.br ks) (c0 :: r).length) (hfull : Tr.Full (.br ks)) (hnr : Nib r)
  (ih : ∀ M' w' p a n c, Inv M' w' → IsT M' p (ks (nb c0)) → Bs M' w' a n c r → Calls Tryz.prog 32 #[.agg #[.pointer p], .slice a n c] w' (GotT M' w' (del (ks (nb c0)) r))) :
  Calls Tryz.prog 32 #[.agg #[.pointer (some ⟨b, 0, none⟩)], .slice wa wn wc] w (GotT M w (collapse (fun j => if j = nb c0 then del (ks (nb c0)) r else ks j))) := by
  obtain ⟨w2, hw2, hO0, hO1, hb2, hs2⟩ := enter2 w (some ⟨b, 0, none⟩)
  have hi2 := hi.below hb2
  have hX2 : Bx M w2 (w.heap.size + 1) #[.pointer none] 25 := ⟨hO1, hi.free (by omega), one_no _⟩
  have hwl : (c0 :: r).length = wn := hW.1.len
  have hwl' : r.length + 1 = wn := by rw [← hwl]; rfl
  have h0 := own_cell (j := 0) hO0 rfl
  have HK := hid (kind_any M _ _ w2 hi2 (isT_at hi2 hm))
  obtain ⟨ka, kn, kc, c3, hKs⟩ := hi2.kids hm
  have hkn : kn = 16 := by rw [← hKs.len]; exact parts_br_len ks
  subst hkn
  have hnx : ((nb c0).val : Nat) = c0.toNat := Nat.mod_eq_of_lt hc0
  obtain ⟨kb, ko, p0, rfl, hklt, hkf, hk0, hT0⟩ := hKs.at' c0.toNat hc0
  have hT0' : IsT M p0 (ks (nb c0)) := by
   rw [← hnx, parts_br_at] at hT0
   exact hT0
  have hbl := hi.lt hm
  have hkbl := hi.lt_ kb hkf
  have hkc := hKs.1
  have hkm := hKs.2.1
  unfold maxLen at hkm
  have hx16 : c0.toNat < 16 := hc0
  have hxi : ((c0.toNat : Nat) : Int) < 16 := by omega
  have HT : Hid (∀ w3, Below w2.heap.size w2 w3 → w3.cell? ⟨w.heap.size, 0, none⟩ = some (.pointer (some ⟨b, 0, none⟩)) ∧ Calls Tryz.prog 61 #[.slice wa wn wc] w3 (fun e w' => e = .returned (.tuple #[.int .u8 c0.toNat, .slice (fromA wa wc 1) (wn - 1) (wc - 1)]) ∧ Below w3.heap.size w3 w') ∧
    ∀ w4, Below w3.heap.size w3 w4 → (w4.cell? ⟨w.heap.size, 0, none⟩ = some (.pointer (some ⟨b, 0, none⟩)) ∧ w4.cell? ⟨b, 3, none⟩ = some (.slice (some ⟨kb, ko, none⟩) 16 kc) ∧ w4.cell? ⟨kb, ko + c0.toNat, none⟩ = some (.pointer p0)) ∧
    (∀ wx, Below w4.heap.size w4 wx → Calls Tryz.prog 32 #[.agg #[.pointer p0], .slice (fromA wa wc 1) (wn - 1) (wc - 1)] wx (GotT M wx (del (ks (nb c0)) r))) ∧ ∀ wx, Below w4.heap.size w4 wx → ∀ e w5, GotT M wx (del (ks (nb c0)) r) e w5 → ∃ p5 M5, e = .returned (tv p5) ∧ Below w4.heap.size w4 w5 ∧ Calls Tryz.prog 62 #[.agg #[.pointer (some ⟨b, 0, none⟩)], .int .u8 c0.toNat, .agg #[.pointer p5]] w5 (GotT M5 w5 (.br fun j => if j = nb c0 then del (ks (nb c0)) r else ks j)) ∧
     ∀ e w6, GotT M5 w5 (.br fun j => if j = nb c0 then del (ks (nb c0)) r else ks j) e w6 → ∃ p6, e = .returned (tv p6) ∧ Below w4.heap.size w4 w6 ∧ ∃ M6, Calls Tryz.prog 63 #[.agg #[.pointer p6]] w6 (GotT M6 w6 (collapse (fun j => if j = nb c0 then del (ks (nb c0)) r else ks j))) ∧
     ∀ e w9, GotT M6 w6 (collapse (fun j => if j = nb c0 then del (ks (nb c0)) r else ks j)) e w9 → ∃ p9, e = .returned (tv p9) ∧ Below w4.heap.size w4 w9 ∧ Rg.Own w9 (w.heap.size + 1) #[.pointer none] 25 ∧ ∀ w10, Rg.Upd w9 (w.heap.size + 1) w10 → GotT M w (collapse (fun j => if j = nb c0 then del (ks (nb c0)) r else ks j)) (.returned (tv p9)) w10) := hid (fun w3 hb3 =>
   ⟨cell_on hb3 h0, turn_any wa wn wc (c0 :: r) (by omega) w3 (isBs_fr hi hW.1 (Fr.below M (bst hb2 hb3))), fun w4 hb4 => ⟨⟨cell_on hb4 (cell_on hb3 h0), cell_on hb4 (cell_on hb3 c3), cell_on hb4 (cell_on hb3 hk0)⟩, fun wx hbx => by
    have hB := bst hb2 (bst (bst hb3 hb4) hbx)
    refine ih M wx p0 _ _ _ (hi.below hB) hT0' ?_
    exact (hW.fr hi (Fr.below M hB)).from' 1 (by omega), fun wx hbx e w5 hG => by
    have hB := bst (bst hb3 hb4) hbx
    have hs2x : St M w M wx := ⟨Fr.below M (bst hb2 hB), hi.below (bst hb2 hB), bst hb2 hB, hi⟩
    obtain ⟨p5, M5, rfl, hT5, hS5, hf5, hb5⟩ := hs2x.got hG
    have hX5 := (hX2.below hB).got hf5 hb5
    have hbe := turned_any M5 b ks (hf5.mono b _ hm) (nb c0) p5 _ hT5 w5 hS5.i
    rw [hnx] at hbe
    refine ⟨p5, M5, rfl, bst hbx hb5, hbe, fun e w6 hG6 => ?_⟩
    obtain ⟨p6, M6, rfl, hT6, hS6, hf6, hb6⟩ := hS5.got hG6
    have hX6 := hX5.got hf6 hb6
    obtain ⟨b6, rfl, hm6⟩ := hT6.at_ (fun e => by cases e)
    refine ⟨_, rfl, bst (bst hbx hb5) hb6, M6, closed_any M6 b6 _ hm6 (kids_left hg _ _) r.length (by simp at hlen; omega) (fun i => ?_) (fun i => ?_) w6 hS6.i, fun e w9 hG9 => ?_⟩
    ·by_cases e : i = nb c0
     ·subst e
      rw [if_pos rfl]
      exact good_del _ _ (hg.2.2 _) r rfl hnr
     ·rw [if_neg e]
      exact hg.2.2 i
    ·by_cases e : i = nb c0
     ·subst e
      rw [if_pos rfl]
      exact full_stub (full_del _ (hfull _) r)
     ·rw [if_neg e]
      exact full_stub (hfull i)
    ·obtain ⟨p9, M9, rfl, hT9, hS9, hf9, hb9⟩ := hS6.got hG9
     have hX9 := hX6.got hf9 hb9
     refine ⟨p9, rfl, bst (bst (bst hbx hb5) hb6) hb9, hX9.o, fun w10 hu => ?_⟩
     have hS10 := hS9.upd hu (by omega) hX9.n
     exact ⟨p9, M9, rfl, hT9, hS10.f, hS10.i, hS10.b⟩⟩⟩)
  have H0 := hid hO0
  clear hO0 hO1 hb2 hi hi2 hm hW hX2 hwl hKs hT0 hT0' c3 hk0 ih h0 hg hfull hnr
  subst hw2
  clear hs2
  go_enter Tryz.func32, Tryz.ntmps32
  go_wp2_with (first | (refine Rg.run rfl _ _ (run_alloc_tree _ _ _ (w.heap.size + 1) (by simp) rfl) ?_) | (refine Rg.run rfl _ _ (op_load_tree (own_cell (j := 0) H0.out rfl) ⟨_, rfl, rfl⟩) ?_))
  refine HK.out.mono ?_
  rintro e w3 ⟨rfl, hb3⟩
  obtain ⟨d0', HC3, H4⟩ := HT.out w3 hb3
  replace HC3 := hid HC3
  replace H4 := hid H4
  clear hb3 HT HK H0 d0'
  unfold kindT
  go_wp2_with fail
  refine HC3.out.mono ?_
  rintro e w4 ⟨rfl, hb4⟩
  obtain ⟨⟨d0, d3, dk⟩, HC, HF⟩ := H4.out w4 hb4
  replace HC := hid HC
  replace HF := hid HF
  clear hb4 H4 HC3
  go_wp2_with fail
  refine wp_region_noPanic ?_
  refine wp_region_held_drew (S := fun w' => Bo (w.heap.size + 1) w4 w') (by kernel_rfl) (Bo.of (below_drewN (Below.refl _ _) 1)) (fun hld => ?_)
  refine Rg.tk (i := 0) rfl ?_ (hy := by intro wz hSw; (refine op_load_tree (cell_bo hSw (by omega) d0) ?_; exact ⟨_, rfl, rfl⟩))
  try simp only [Act.put, Rg.s]
  refine Rg.tk (i := 1) rfl ?_
  try simp only [Act.put, Rg.s]
  refine Rg.tk (i := 2) rfl ?_
  try simp only [Act.put, Rg.s]
  refine Rg.tk (i := 3) rfl ?_ (hy := by intro wz hSw; have hcc := cell_bo hSw (by omega) d0; (try dsimp only at hSw); go_simp <;> with_reducible rfl)
  try simp only [Act.put, Rg.s]
  refine Rg.tk (i := 4) rfl ?_
  try simp only [Act.put, Rg.s]
  refine Rg.tk (i := 5) rfl ?_
  try simp only [Act.put, Rg.s]
  refine Rg.tk (i := 6) rfl ?_ (hy := by intro wz hSw; have hcc := cell_bo hSw (by omega) d3; (try dsimp only at hSw); go_simp <;> with_reducible rfl)
  try simp only [Act.put, Rg.s]
  refine Rg.tk (i := 7) rfl ?_
  try simp only [Act.put, Rg.s]
  refine Rg.tk (i := 8) rfl ?_ (hy := by intro wz hSw; (have q0 := hxi; have q1 := hx16; go_simp <;> with_reducible rfl))
  try simp only [Act.put, Rg.s]
  refine Rg.tk (i := 9) rfl ?_ (hy := by intro wz hSw; (refine op_load_tree (cell_bo hSw (by omega) dk) ?_; exact ⟨_, rfl, rfl⟩))
  try simp only [Act.put, Rg.s]
  refine Rg.tk (i := 10) rfl ?_
  try simp only [Act.put, Rg.s]
  refine Rg.rd (i := 11) rfl fun K hK => ?_
  go_simp
  go_at_call 32
  (with_reducible refine (HC.out w4.drew (below_drewN (Below.refl _ _) 1)).mono ?_)
  intro e w5 hG
  obtain ⟨p5, M5, rfl, hB5, H5⟩ := HF.out w4.drew (below_drewN (Below.refl _ _) 1) e w5 hG
  replace H5 := hid H5
  clear hG
  refine hK.out _ _ ?_ (fun hld => ?_)
  ·exact Bo.of hB5
  clear hK K
  try simp only [Act.put, Rg.s]
  refine Rg.rd (i := 12) rfl fun K hK => ?_
  go_simp
  go_at_call 62
  (with_reducible refine (H5.out.1).mono ?_)
  intro e w6 hG
  obtain ⟨p6, rfl, hB6, M6, H6⟩ := H5.out.2 e w6 hG
  replace H6 := hid H6
  clear hG
  refine hK.out _ _ ?_ (fun hld => ?_)
  ·exact Bo.of hB6
  clear hK K
  try simp only [Act.put, Rg.s]
  refine Rg.rd (i := 13) rfl fun K hK => ?_
  go_simp
  go_at_call 63
  (with_reducible refine (H6.out.1).mono ?_)
  intro e w9 hG
  obtain ⟨p9, rfl, hB9, H9⟩ := H6.out.2 e w9 hG
  replace H9 := hid H9
  clear hG
  refine hK.out _ _ ?_ (fun hld => ?_)
  ·exact Bo.of hB9
  clear hK K
  try simp only [Act.put, Rg.s]
  refine Rg.rd (i := 14) rfl fun K hK => ?_
  refine meet_store_tree (by rfl) H9.out.1 (off := 0) (by decide) p9 ⟨_, _, rfl, rfl, rfl⟩ ?_
  intro w10 hO10 hu10
  have HO10 := hid hO10
  have H10 := hid (H9.out.2 w10 hu10)
  clear hO10
  refine hK.out _ _ ?_ (fun hld => ?_)
  ·exact (Bo.of hB9).upd hu10
  clear hK K
  try simp only [Act.put, Rg.s]
  refine wpAnyH_done (by kernel_rfl) ?_ _
  refine NoPanic.normal ?_
  go_wp2
  exact bodyPost_ret (res_tree rfl _ rfl HO10.out) rfl H10.out
theorem without_br_no (ks : Fin 16 → T) (M : Mp) (b : Nat) (hm : M.at_ b = some (.br ks)) (w : World) (hi : Inv M w) (wa : Option Addr) (wn wc : Nat) (c0 : UInt8) (r : Pa) (hW : Bs M w wa wn wc (c0 :: r)) (hc0 : c0.toNat < 16) (hlen : (c0 :: r).length ≤ 64) 
  (ih : ∀ M' w' p a n c, Inv M' w' → IsT M' p (ks (nb c0)) → Bs M' w' a n c r → Calls Tryz.prog 32 #[.agg #[.pointer p], .slice a n c] w' (fun e w'' => e = .panicked [errP 7] ∧ Below w'.heap.size w' w'')) :
  Calls Tryz.prog 32 #[.agg #[.pointer (some ⟨b, 0, none⟩)], .slice wa wn wc] w (fun e w'' => e = .panicked [errP 7] ∧ Below w.heap.size w w'') := by
  obtain ⟨w2, hw2, hO0, hO1, hb2, hs2⟩ := enter2 w (some ⟨b, 0, none⟩)
  have hi2 := hi.below hb2
  have hX2 : Bx M w2 (w.heap.size + 1) #[.pointer none] 25 := ⟨hO1, hi.free (by omega), one_no _⟩
  have hwl : (c0 :: r).length = wn := hW.1.len
  have hwl' : r.length + 1 = wn := by rw [← hwl]; rfl
  have h0 := own_cell (j := 0) hO0 rfl
  have HK := hid (kind_any M _ _ w2 hi2 (isT_at hi2 hm))
  obtain ⟨ka, kn, kc, c3, hKs⟩ := hi2.kids hm
  have hkn : kn = 16 := by rw [← hKs.len]; exact parts_br_len ks
  subst hkn
  have hnx : ((nb c0).val : Nat) = c0.toNat := Nat.mod_eq_of_lt hc0
  obtain ⟨kb, ko, p0, rfl, hklt, hkf, hk0, hT0⟩ := hKs.at' c0.toNat hc0
  have hT0' : IsT M p0 (ks (nb c0)) := by
   rw [← hnx, parts_br_at] at hT0
   exact hT0
  have hbl := hi.lt hm
  have hkbl := hi.lt_ kb hkf
  have hkc := hKs.1
  have hkm := hKs.2.1
  unfold maxLen at hkm
  have hx16 : c0.toNat < 16 := hc0
  have hxi : ((c0.toNat : Nat) : Int) < 16 := by omega
  have HT : Hid (∀ w3, Below w2.heap.size w2 w3 → w3.cell? ⟨w.heap.size, 0, none⟩ = some (.pointer (some ⟨b, 0, none⟩)) ∧ Calls Tryz.prog 61 #[.slice wa wn wc] w3 (fun e w' => e = .returned (.tuple #[.int .u8 c0.toNat, .slice (fromA wa wc 1) (wn - 1) (wc - 1)]) ∧ Below w3.heap.size w3 w') ∧
    ∀ w4, Below w3.heap.size w3 w4 → (w4.cell? ⟨w.heap.size, 0, none⟩ = some (.pointer (some ⟨b, 0, none⟩)) ∧ w4.cell? ⟨b, 3, none⟩ = some (.slice (some ⟨kb, ko, none⟩) 16 kc) ∧ w4.cell? ⟨kb, ko + c0.toNat, none⟩ = some (.pointer p0)) ∧
    (∀ wx, Below w4.heap.size w4 wx → Calls Tryz.prog 32 #[.agg #[.pointer p0], .slice (fromA wa wc 1) (wn - 1) (wc - 1)] wx (fun e w'' => e = .panicked [errP 7] ∧ Below wx.heap.size wx w'')) ∧ ∀ wx, Below w4.heap.size w4 wx → Below w.heap.size w wx) := hid (fun w3 hb3 =>
   ⟨cell_on hb3 h0, turn_any wa wn wc (c0 :: r) (by omega) w3 (isBs_fr hi hW.1 (Fr.below M (bst hb2 hb3))), fun w4 hb4 => ⟨⟨cell_on hb4 (cell_on hb3 h0), cell_on hb4 (cell_on hb3 c3), cell_on hb4 (cell_on hb3 hk0)⟩, fun wx hbx => by
    have hB := bst hb2 (bst (bst hb3 hb4) hbx)
    refine ih M wx p0 _ _ _ (hi.below hB) hT0' ?_
    exact (hW.fr hi (Fr.below M hB)).from' 1 (by omega), fun wx hbx => bst hb2 (bst (bst hb3 hb4) hbx)⟩⟩)
  have H0 := hid hO0
  clear hO0 hO1 hb2 hi hi2 hm hW hX2 hwl hKs hT0 hT0' c3 hk0 ih h0 
  subst hw2
  clear hs2
  go_enter Tryz.func32, Tryz.ntmps32
  go_wp2_with (first | (refine Rg.run rfl _ _ (run_alloc_tree _ _ _ (w.heap.size + 1) (by simp) rfl) ?_) | (refine Rg.run rfl _ _ (op_load_tree (own_cell (j := 0) H0.out rfl) ⟨_, rfl, rfl⟩) ?_))
  refine HK.out.mono ?_
  rintro e w3 ⟨rfl, hb3⟩
  obtain ⟨d0', HC3, H4⟩ := HT.out w3 hb3
  replace HC3 := hid HC3
  replace H4 := hid H4
  clear hb3 HT HK H0 d0'
  unfold kindT
  go_wp2_with fail
  refine HC3.out.mono ?_
  rintro e w4 ⟨rfl, hb4⟩
  obtain ⟨⟨d0, d3, dk⟩, HC, HF⟩ := H4.out w4 hb4
  replace HC := hid HC
  replace HF := hid HF
  clear hb4 H4 HC3
  go_wp2_with fail
  refine wp_region_held_drew (S := fun w' => Bo (w.heap.size + 1) w4 w') (by kernel_rfl) (Bo.of (below_drewN (Below.refl _ _) 1)) (fun hld => ?_)
  refine Rg.tk (i := 0) rfl ?_ (hy := by intro wz hSw; (refine op_load_tree (cell_bo hSw (by omega) d0) ?_; exact ⟨_, rfl, rfl⟩))
  try simp only [Act.put, Rg.s]
  refine Rg.tk (i := 1) rfl ?_
  try simp only [Act.put, Rg.s]
  refine Rg.tk (i := 2) rfl ?_
  try simp only [Act.put, Rg.s]
  refine Rg.tk (i := 3) rfl ?_ (hy := by intro wz hSw; have hcc := cell_bo hSw (by omega) d0; (try dsimp only at hSw); go_simp <;> with_reducible rfl)
  try simp only [Act.put, Rg.s]
  refine Rg.tk (i := 4) rfl ?_
  try simp only [Act.put, Rg.s]
  refine Rg.tk (i := 5) rfl ?_
  try simp only [Act.put, Rg.s]
  refine Rg.tk (i := 6) rfl ?_ (hy := by intro wz hSw; have hcc := cell_bo hSw (by omega) d3; (try dsimp only at hSw); go_simp <;> with_reducible rfl)
  try simp only [Act.put, Rg.s]
  refine Rg.tk (i := 7) rfl ?_
  try simp only [Act.put, Rg.s]
  refine Rg.tk (i := 8) rfl ?_ (hy := by intro wz hSw; (have q0 := hxi; have q1 := hx16; go_simp <;> with_reducible rfl))
  try simp only [Act.put, Rg.s]
  refine Rg.tk (i := 9) rfl ?_ (hy := by intro wz hSw; (refine op_load_tree (cell_bo hSw (by omega) dk) ?_; exact ⟨_, rfl, rfl⟩))
  try simp only [Act.put, Rg.s]
  refine Rg.tk (i := 10) rfl ?_
  try simp only [Act.put, Rg.s]
  refine Rg.rd (i := 11) rfl fun K hK => ?_
  go_simp
  go_at_call 32
  (with_reducible refine (HC.out w4.drew (below_drewN (Below.refl _ _) 1)).mono ?_)
  rintro e w5 ⟨rfl, hb5⟩
  simp +zetaDelta [bodyPost, Exit.then]
  exact bst (HF.out w4.drew (below_drewN (Below.refl _ _) 1)) hb5
theorem without_ext (q : Pa) (s : T) (M : Mp) (b : Nat) (hm : M.at_ b = some (.ext q s)) (w : World) (hi : Inv M w) (wa : Option Addr) (wn wc : Nat) (way : Pa) (hW : Bs M w wa wn wc way) (hlen : way.length ≤ 64) (hle : q.length ≤ way.length) (h : q <+: way) (hfs : Tr.Full s) (hgd : Tr.Good (del s (way.drop q.length)) (way.drop q.length).length) (hdn : del s (way.drop q.length) ≠ .nil)
  (ih : ∀ M' w' p a n c, Inv M' w' → IsT M' p s → Bs M' w' a n c (way.drop q.length) → Calls Tryz.prog 32 #[.agg #[.pointer p], .slice a n c] w' (GotT M' w' (del s (way.drop q.length)))) :
  Calls Tryz.prog 32 #[.agg #[.pointer (some ⟨b, 0, none⟩)], .slice wa wn wc] w (GotT M w (glue q (del s (way.drop q.length)))) := by
  obtain ⟨w2, hw2, hO0, hO1, hb2, hs2⟩ := enter2 w (some ⟨b, 0, none⟩)
  have hi2 := hi.below hb2
  have hX2 : Bx M w2 (w.heap.size + 1) #[.pointer none] 25 := ⟨hO1, hi.free (by omega), one_no _⟩
  have h0 := own_cell (j := 0) hO0 rfl
  have hwl : way.length = wn := hW.1.len
  have HK := hid (kind_any M _ _ w2 hi2 (isT_at hi2 hm))
  obtain ⟨pa, pn, pc, c1, hPq⟩ := hi2.path hm
  obtain ⟨ka, kn, kc, c3, hKs⟩ := hi2.kids hm
  obtain ⟨kb, ko, p0, rfl, hklt, hkf, hk0, hT0⟩ := hKs.at' 0 (by rw [← hKs.len]; exact Nat.one_pos)
  have hkn : kn = 1 := hKs.len.symm
  have hkc := hKs.1
  have hkm := hKs.2.1
  unfold maxLen at hkm
  rw [Nat.add_zero] at hk0
  have hT0' : IsT M p0 s := hT0
  have hbl := hi.lt hm
  have hkbl := hi.lt_ kb hkf
  have HT : Hid (∀ w3, Below w2.heap.size w2 w3 → (w3.cell? ⟨w.heap.size, 0, none⟩ = some (.pointer (some ⟨b, 0, none⟩)) ∧ w3.cell? ⟨b, 3, none⟩ = some (.slice (some ⟨kb, ko, none⟩) kn kc) ∧ w3.cell? ⟨kb, ko, none⟩ = some (.pointer p0) ∧ w3.cell? ⟨b, 1, none⟩ = some (.slice pa pn pc)) ∧
    (∀ wx, Below w3.heap.size w3 wx → Calls Tryz.prog 64 #[.agg #[.pointer (some ⟨b, 0, none⟩)], .slice wa wn wc] wx (fun e w' => e = .returned (.slice (fromA wa wc q.length) (wn - q.length) (wc - q.length)) ∧ Below wx.heap.size wx w')) ∧ (∀ wx, Below w3.heap.size w3 wx → Calls Tryz.prog 32 #[.agg #[.pointer p0], .slice (fromA wa wc q.length) (wn - q.length) (wc - q.length)] wx (GotT M wx (del s (way.drop q.length)))) ∧ ∀ wx, Below w3.heap.size w3 wx → ∀ e w6, GotT M wx (del s (way.drop q.length)) e w6 → ∃ p6 M6, e = .returned (tv p6) ∧ Below w3.heap.size w3 w6 ∧ Calls Tryz.prog 65 #[.agg #[.pointer p6], .slice pa pn pc] w6 (GotT M6 w6 (glue q (del s (way.drop q.length)))) ∧
     ∀ e w9, GotT M6 w6 (glue q (del s (way.drop q.length))) e w9 → ∃ p9, e = .returned (tv p9) ∧ Below w3.heap.size w3 w9 ∧ Rg.Own w9 (w.heap.size + 1) #[.pointer none] 25 ∧ ∀ w10, Rg.Upd w9 (w.heap.size + 1) w10 → GotT M w (glue q (del s (way.drop q.length))) (.returned (tv p9)) w10) := hid (fun w3 hb3 =>
   ⟨⟨cell_on hb3 h0, cell_on hb3 c3, cell_on hb3 hk0, cell_on hb3 c1⟩, fun wx hbx => (by
    have := pass_any M b _ hm wa wn wc way wx (hi2.below (bst hb3 hbx)) (hW.1.below (bst (bst hb2 hb3) hbx)) (by rw [← hwl]; exact hle) (by omega)
    rw [show (pathT (.ext q s)) = q from rfl, if_pos h] at this
    exact this), fun wx hbx => (by
     have hB := bst (bst hb2 hb3) hbx
     exact ih M wx p0 _ _ _ (hi.below hB) hT0' ((hW.fr hi (Fr.below M hB)).from' _ (by rw [← hwl]; exact hle))), fun wx hbx e w6 hG => by
    have hB := bst hb3 hbx
    have hs2x : St M w M wx := ⟨Fr.below M (bst hb2 hB), hi.below (bst hb2 hB), bst hb2 hB, hi⟩
    obtain ⟨p6, M6, rfl, hT6, hS6, hf6, hb6⟩ := hs2x.got hG
    have hX6 := (hX2.below hB).got hf6 hb6
    obtain ⟨b6, rfl, hm6⟩ := hT6.at_ hdn
    refine ⟨_, M6, rfl, bst hbx hb6, lifted_any M6 b6 _ hm6 (full_stub (full_del s hfs _)) _ hgd pa pn pc q (by rw [List.length_drop]; omega) w6 hS6.i ((hPq.fr hi2 (Fr.below M hB)).fr (hi2.below hB) hf6), fun e w9 hG9 => ?_⟩
    obtain ⟨p9, M9, rfl, hT9, hS9, hf9, hb9⟩ := hS6.got hG9
    have hX9 := hX6.got hf9 hb9
    refine ⟨p9, rfl, bst (bst hbx hb6) hb9, hX9.o, fun w10 hu => ?_⟩
    have hS10 := hS9.upd hu (by omega) hX9.n
    exact ⟨p9, M9, rfl, hT9, hS10.f, hS10.i, hS10.b⟩⟩)
  have H0 := hid hO0
  clear hO0 hO1 hb2 hi hi2 hm hW hX2 hwl hKs hT0 hT0' c3 hk0 h0 hPq c1 ih hfs hgd hdn
  subst hw2
  clear hs2
  go_enter Tryz.func32, Tryz.ntmps32
  go_wp2_with (first | (refine Rg.run rfl _ _ (run_alloc_tree _ _ _ (w.heap.size + 1) (by simp) rfl) ?_) | (refine Rg.run rfl _ _ (op_load_tree (own_cell (j := 0) H0.out rfl) ⟨_, rfl, rfl⟩) ?_))
  refine HK.out.mono ?_
  rintro e w3 ⟨rfl, hb3⟩
  obtain ⟨⟨d0, d3, dk, d1⟩, HP, HC, HF⟩ := HT.out w3 hb3
  replace HP := hid HP
  replace HC := hid HC
  replace HF := hid HF
  unfold kindT
  clear hb3 HT HK H0
  go_wp2_with fail
  refine wp_region_noPanic ?_
  refine wp_region_held_drew (S := fun w' => Bo (w.heap.size + 1) w3 w') (by kernel_rfl) (Bo.of (below_drewN (Below.refl _ _) 1)) (fun hld => ?_)
  refine Rg.tk (i := 0) rfl ?_
  try simp only [Act.put, Rg.s]
  refine Rg.tk (i := 1) rfl ?_ (hy := by intro wz hSw; have hcc := cell_bo hSw (by omega) d0; (try dsimp only at hSw); go_simp <;> with_reducible rfl)
  try simp only [Act.put, Rg.s]
  refine Rg.tk (i := 2) rfl ?_
  try simp only [Act.put, Rg.s]
  refine Rg.tk (i := 3) rfl ?_
  try simp only [Act.put, Rg.s]
  refine Rg.tk (i := 4) rfl ?_ (hy := by intro wz hSw; have hcc := cell_bo hSw (by omega) d3; (try dsimp only at hSw); go_simp <;> with_reducible rfl)
  try simp only [Act.put, Rg.s]
  refine Rg.tk (i := 5) rfl ?_
  try simp only [Act.put, Rg.s]
  refine Rg.tk (i := 6) rfl ?_ (hy := by intro wz hSw; (refine op_load_tree (cell_bo hSw (by omega) dk) ?_; exact ⟨_, rfl, rfl⟩))
  try simp only [Act.put, Rg.s]
  refine Rg.tk (i := 7) rfl ?_ (hy := by intro wz hSw; (refine op_load_tree (cell_bo hSw (by omega) d0) ?_; exact ⟨_, rfl, rfl⟩))
  try simp only [Act.put, Rg.s]
  refine Rg.tk (i := 8) rfl ?_
  try simp only [Act.put, Rg.s]
  refine Rg.tk (i := 11) rfl ?_
  try simp only [Act.put, Rg.s]
  refine Rg.tk (i := 12) rfl ?_ (hy := by intro wz hSw; have hcc := cell_bo hSw (by omega) d0; (try dsimp only at hSw); go_simp <;> with_reducible rfl)
  try simp only [Act.put, Rg.s]
  refine Rg.tk (i := 13) rfl ?_
  try simp only [Act.put, Rg.s]
  refine Rg.tk (i := 14) rfl ?_
  try simp only [Act.put, Rg.s]
  refine Rg.tk (i := 15) rfl ?_ (hy := by intro wz hSw; have hcc := cell_bo hSw (by omega) d1; (try dsimp only at hSw); go_simp <;> with_reducible rfl)
  try simp only [Act.put, Rg.s]
  refine Rg.rd (i := 9) rfl fun K hK => ?_
  go_simp
  go_at_call 64
  (with_reducible refine (HP.out w3.drew (below_drewN (Below.refl _ _) 1)).mono ?_)
  rintro e w5 ⟨rfl, hb5⟩
  have HB5 : Hid (Below w3.heap.size w3 w5) := hid (bst (below_drewN (Below.refl _ _) 1) hb5)
  clear hb5
  refine hK.out _ _ ?_ (fun hld => ?_)
  ·exact Bo.of HB5.out
  clear hK K
  try simp only [Act.put, Rg.s]
  refine Rg.rd (i := 10) rfl fun K hK => ?_
  go_simp
  go_at_call 32
  (with_reducible refine (HC.out w5 HB5.out).mono ?_)
  intro e w6 hG
  obtain ⟨p6, M6, rfl, hB6, H6⟩ := HF.out w5 HB5.out e w6 hG
  replace H6 := hid H6
  clear hG
  refine hK.out _ _ ?_ (fun hld => ?_)
  ·exact Bo.of hB6
  clear hK K
  try simp only [Act.put, Rg.s]
  refine Rg.rd (i := 16) rfl fun K hK => ?_
  go_simp
  go_at_call 65
  (with_reducible refine (H6.out.1).mono ?_)
  intro e w9 hG
  obtain ⟨p9, rfl, hB9, H9⟩ := H6.out.2 e w9 hG
  replace H9 := hid H9
  clear hG
  refine hK.out _ _ ?_ (fun hld => ?_)
  ·exact Bo.of hB9
  clear hK K
  try simp only [Act.put, Rg.s]
  refine Rg.rd (i := 17) rfl fun K hK => ?_
  refine meet_store_tree (by rfl) H9.out.1 (off := 0) (by decide) p9 ⟨_, _, rfl, rfl, rfl⟩ ?_
  intro w10 hO10 hu10
  have HO10 := hid hO10
  have H10 := hid (H9.out.2 w10 hu10)
  clear hO10
  refine hK.out _ _ ?_ (fun hld => ?_)
  ·exact (Bo.of hB9).upd hu10
  clear hK K
  try simp only [Act.put, Rg.s]
  refine wpAnyH_done (by kernel_rfl) ?_ _
  refine NoPanic.normal ?_
  go_wp2
  exact bodyPost_ret (res_tree rfl _ rfl HO10.out) rfl H10.out
theorem without_ext_in (q : Pa) (s : T) (M : Mp) (b : Nat) (hm : M.at_ b = some (.ext q s)) (w : World) (hi : Inv M w) (wa : Option Addr) (wn wc : Nat) (way : Pa) (hW : Bs M w wa wn wc way) (hlen : way.length ≤ 64) (hle : q.length ≤ way.length) (h : q <+: way)
  (ih : ∀ M' w' p a n c, Inv M' w' → IsT M' p s → Bs M' w' a n c (way.drop q.length) → Calls Tryz.prog 32 #[.agg #[.pointer p], .slice a n c] w' (fun e w'' => e = .panicked [errP 7] ∧ Below w'.heap.size w' w'')) :
  Calls Tryz.prog 32 #[.agg #[.pointer (some ⟨b, 0, none⟩)], .slice wa wn wc] w (fun e w'' => e = .panicked [errP 7] ∧ Below w.heap.size w w'') := by
  obtain ⟨w2, hw2, hO0, hO1, hb2, hs2⟩ := enter2 w (some ⟨b, 0, none⟩)
  have hi2 := hi.below hb2
  have hX2 : Bx M w2 (w.heap.size + 1) #[.pointer none] 25 := ⟨hO1, hi.free (by omega), one_no _⟩
  have h0 := own_cell (j := 0) hO0 rfl
  have hwl : way.length = wn := hW.1.len
  have HK := hid (kind_any M _ _ w2 hi2 (isT_at hi2 hm))
  obtain ⟨pa, pn, pc, c1, hPq⟩ := hi2.path hm
  obtain ⟨ka, kn, kc, c3, hKs⟩ := hi2.kids hm
  obtain ⟨kb, ko, p0, rfl, hklt, hkf, hk0, hT0⟩ := hKs.at' 0 (by rw [← hKs.len]; exact Nat.one_pos)
  have hkn : kn = 1 := hKs.len.symm
  have hkc := hKs.1
  have hkm := hKs.2.1
  unfold maxLen at hkm
  rw [Nat.add_zero] at hk0
  have hT0' : IsT M p0 s := hT0
  have hbl := hi.lt hm
  have hkbl := hi.lt_ kb hkf
  have HT : Hid (∀ w3, Below w2.heap.size w2 w3 → (w3.cell? ⟨w.heap.size, 0, none⟩ = some (.pointer (some ⟨b, 0, none⟩)) ∧ w3.cell? ⟨b, 3, none⟩ = some (.slice (some ⟨kb, ko, none⟩) kn kc) ∧ w3.cell? ⟨kb, ko, none⟩ = some (.pointer p0) ∧ w3.cell? ⟨b, 1, none⟩ = some (.slice pa pn pc)) ∧
    (∀ wx, Below w3.heap.size w3 wx → Calls Tryz.prog 64 #[.agg #[.pointer (some ⟨b, 0, none⟩)], .slice wa wn wc] wx (fun e w' => e = .returned (.slice (fromA wa wc q.length) (wn - q.length) (wc - q.length)) ∧ Below wx.heap.size wx w')) ∧ (∀ wx, Below w3.heap.size w3 wx → Calls Tryz.prog 32 #[.agg #[.pointer p0], .slice (fromA wa wc q.length) (wn - q.length) (wc - q.length)] wx (fun e w'' => e = .panicked [errP 7] ∧ Below wx.heap.size wx w'')) ∧ ∀ wx, Below w3.heap.size w3 wx → Below w.heap.size w wx) := hid (fun w3 hb3 =>
   ⟨⟨cell_on hb3 h0, cell_on hb3 c3, cell_on hb3 hk0, cell_on hb3 c1⟩, fun wx hbx => (by
    have := pass_any M b _ hm wa wn wc way wx (hi2.below (bst hb3 hbx)) (hW.1.below (bst (bst hb2 hb3) hbx)) (by rw [← hwl]; exact hle) (by omega)
    rw [show (pathT (.ext q s)) = q from rfl, if_pos h] at this
    exact this), fun wx hbx => (by
     have hB := bst (bst hb2 hb3) hbx
     exact ih M wx p0 _ _ _ (hi.below hB) hT0' ((hW.fr hi (Fr.below M hB)).from' _ (by rw [← hwl]; exact hle))), fun wx hbx => bst (bst hb2 hb3) hbx⟩)
  have H0 := hid hO0
  clear hO0 hO1 hb2 hi hi2 hm hW hX2 hwl hKs hT0 hT0' c3 hk0 h0 hPq c1 ih
  subst hw2
  clear hs2
  go_enter Tryz.func32, Tryz.ntmps32
  go_wp2_with (first | (refine Rg.run rfl _ _ (run_alloc_tree _ _ _ (w.heap.size + 1) (by simp) rfl) ?_) | (refine Rg.run rfl _ _ (op_load_tree (own_cell (j := 0) H0.out rfl) ⟨_, rfl, rfl⟩) ?_))
  refine HK.out.mono ?_
  rintro e w3 ⟨rfl, hb3⟩
  obtain ⟨⟨d0, d3, dk, d1⟩, HP, HC, HF⟩ := HT.out w3 hb3
  replace HP := hid HP
  replace HC := hid HC
  replace HF := hid HF
  unfold kindT
  clear hb3 HT HK H0
  go_wp2_with fail
  refine wp_region_held_drew (S := fun w' => Bo (w.heap.size + 1) w3 w') (by kernel_rfl) (Bo.of (below_drewN (Below.refl _ _) 1)) (fun hld => ?_)
  refine Rg.tk (i := 0) rfl ?_
  try simp only [Act.put, Rg.s]
  refine Rg.tk (i := 1) rfl ?_ (hy := by intro wz hSw; have hcc := cell_bo hSw (by omega) d0; (try dsimp only at hSw); go_simp <;> with_reducible rfl)
  try simp only [Act.put, Rg.s]
  refine Rg.tk (i := 2) rfl ?_
  try simp only [Act.put, Rg.s]
  refine Rg.tk (i := 3) rfl ?_
  try simp only [Act.put, Rg.s]
  refine Rg.tk (i := 4) rfl ?_ (hy := by intro wz hSw; have hcc := cell_bo hSw (by omega) d3; (try dsimp only at hSw); go_simp <;> with_reducible rfl)
  try simp only [Act.put, Rg.s]
  refine Rg.tk (i := 5) rfl ?_
  try simp only [Act.put, Rg.s]
  refine Rg.tk (i := 6) rfl ?_ (hy := by intro wz hSw; (refine op_load_tree (cell_bo hSw (by omega) dk) ?_; exact ⟨_, rfl, rfl⟩))
  try simp only [Act.put, Rg.s]
  refine Rg.tk (i := 7) rfl ?_ (hy := by intro wz hSw; (refine op_load_tree (cell_bo hSw (by omega) d0) ?_; exact ⟨_, rfl, rfl⟩))
  try simp only [Act.put, Rg.s]
  refine Rg.tk (i := 8) rfl ?_
  try simp only [Act.put, Rg.s]
  refine Rg.tk (i := 11) rfl ?_
  try simp only [Act.put, Rg.s]
  refine Rg.tk (i := 12) rfl ?_ (hy := by intro wz hSw; have hcc := cell_bo hSw (by omega) d0; (try dsimp only at hSw); go_simp <;> with_reducible rfl)
  try simp only [Act.put, Rg.s]
  refine Rg.tk (i := 13) rfl ?_
  try simp only [Act.put, Rg.s]
  refine Rg.tk (i := 14) rfl ?_
  try simp only [Act.put, Rg.s]
  refine Rg.tk (i := 15) rfl ?_ (hy := by intro wz hSw; have hcc := cell_bo hSw (by omega) d1; (try dsimp only at hSw); go_simp <;> with_reducible rfl)
  try simp only [Act.put, Rg.s]
  refine Rg.rd (i := 9) rfl fun K hK => ?_
  go_simp
  go_at_call 64
  (with_reducible refine (HP.out w3.drew (below_drewN (Below.refl _ _) 1)).mono ?_)
  rintro e w5 ⟨rfl, hb5⟩
  have HB5 : Hid (Below w3.heap.size w3 w5) := hid (bst (below_drewN (Below.refl _ _) 1) hb5)
  clear hb5
  refine hK.out _ _ ?_ (fun hld => ?_)
  ·exact Bo.of HB5.out
  clear hK K
  try simp only [Act.put, Rg.s]
  refine Rg.rd (i := 10) rfl fun K hK => ?_
  go_simp
  go_at_call 32
  (with_reducible refine (HC.out w5 HB5.out).mono ?_)
  rintro e w6 ⟨rfl, hb6⟩
  simp +zetaDelta [bodyPost, Exit.then]
  exact bst (HF.out w5 HB5.out) hb6
theorem without_ext_no (q : Pa) (s : T) (M : Mp) (b : Nat) (hm : M.at_ b = some (.ext q s)) (w : World) (hi : Inv M w) (wa : Option Addr) (wn wc : Nat) (way : Pa) (hW : Bs M w wa wn wc way) (hlen : way.length ≤ 64) (hle : q.length ≤ way.length) (h : ¬ q <+: way) :
  Calls Tryz.prog 32 #[.agg #[.pointer (some ⟨b, 0, none⟩)], .slice wa wn wc] w (fun e w'' => e = .panicked [errP 7] ∧ Below w.heap.size w w'') := by
  obtain ⟨w2, hw2, hO0, hO1, hb2, hs2⟩ := enter2 w (some ⟨b, 0, none⟩)
  have hi2 := hi.below hb2
  have hX2 : Bx M w2 (w.heap.size + 1) #[.pointer none] 25 := ⟨hO1, hi.free (by omega), one_no _⟩
  have h0 := own_cell (j := 0) hO0 rfl
  have hwl : way.length = wn := hW.1.len
  have HK := hid (kind_any M _ _ w2 hi2 (isT_at hi2 hm))
  obtain ⟨pa, pn, pc, c1, hPq⟩ := hi2.path hm
  obtain ⟨ka, kn, kc, c3, hKs⟩ := hi2.kids hm
  obtain ⟨kb, ko, p0, rfl, hklt, hkf, hk0, hT0⟩ := hKs.at' 0 (by rw [← hKs.len]; exact Nat.one_pos)
  have hkn : kn = 1 := hKs.len.symm
  have hkc := hKs.1
  have hkm := hKs.2.1
  unfold maxLen at hkm
  rw [Nat.add_zero] at hk0
  have hT0' : IsT M p0 s := hT0
  have hbl := hi.lt hm
  have hkbl := hi.lt_ kb hkf
  have HT : Hid (∀ w3, Below w2.heap.size w2 w3 → (w3.cell? ⟨w.heap.size, 0, none⟩ = some (.pointer (some ⟨b, 0, none⟩)) ∧ w3.cell? ⟨b, 3, none⟩ = some (.slice (some ⟨kb, ko, none⟩) kn kc) ∧ w3.cell? ⟨kb, ko, none⟩ = some (.pointer p0) ∧ w3.cell? ⟨b, 1, none⟩ = some (.slice pa pn pc)) ∧
    (∀ wx, Below w3.heap.size w3 wx → Calls Tryz.prog 64 #[.agg #[.pointer (some ⟨b, 0, none⟩)], .slice wa wn wc] wx (fun e w' => e = .panicked [errP 7] ∧ Below wx.heap.size wx w')) ∧ (∀ wx, Below w3.heap.size w3 wx → True) ∧ ∀ wx, Below w3.heap.size w3 wx → Below w.heap.size w wx) := hid (fun w3 hb3 =>
   ⟨⟨cell_on hb3 h0, cell_on hb3 c3, cell_on hb3 hk0, cell_on hb3 c1⟩, fun wx hbx => (by
    have := pass_any M b _ hm wa wn wc way wx (hi2.below (bst hb3 hbx)) (hW.1.below (bst (bst hb2 hb3) hbx)) (by rw [← hwl]; exact hle) (by omega)
    rw [show (pathT (.ext q s)) = q from rfl, if_neg h] at this
    exact this), fun wx hbx => trivial, fun wx hbx => bst (bst hb2 hb3) hbx⟩)
  have H0 := hid hO0
  clear hO0 hO1 hb2 hi hi2 hm hW hX2 hwl hKs hT0 hT0' c3 hk0 h0 hPq c1 
  subst hw2
  clear hs2
  go_enter Tryz.func32, Tryz.ntmps32
  go_wp2_with (first | (refine Rg.run rfl _ _ (run_alloc_tree _ _ _ (w.heap.size + 1) (by simp) rfl) ?_) | (refine Rg.run rfl _ _ (op_load_tree (own_cell (j := 0) H0.out rfl) ⟨_, rfl, rfl⟩) ?_))
  refine HK.out.mono ?_
  rintro e w3 ⟨rfl, hb3⟩
  obtain ⟨⟨d0, d3, dk, d1⟩, HP, HC, HF⟩ := HT.out w3 hb3
  replace HP := hid HP
  replace HC := hid HC
  replace HF := hid HF
  unfold kindT
  clear hb3 HT HK H0
  go_wp2_with fail
  refine wp_region_held_drew (S := fun w' => Bo (w.heap.size + 1) w3 w') (by kernel_rfl) (Bo.of (below_drewN (Below.refl _ _) 1)) (fun hld => ?_)
  refine Rg.tk (i := 0) rfl ?_
  try simp only [Act.put, Rg.s]
  refine Rg.tk (i := 1) rfl ?_ (hy := by intro wz hSw; have hcc := cell_bo hSw (by omega) d0; (try dsimp only at hSw); go_simp <;> with_reducible rfl)
  try simp only [Act.put, Rg.s]
  refine Rg.tk (i := 2) rfl ?_
  try simp only [Act.put, Rg.s]
  refine Rg.tk (i := 3) rfl ?_
  try simp only [Act.put, Rg.s]
  refine Rg.tk (i := 4) rfl ?_ (hy := by intro wz hSw; have hcc := cell_bo hSw (by omega) d3; (try dsimp only at hSw); go_simp <;> with_reducible rfl)
  try simp only [Act.put, Rg.s]
  refine Rg.tk (i := 5) rfl ?_
  try simp only [Act.put, Rg.s]
  refine Rg.tk (i := 6) rfl ?_ (hy := by intro wz hSw; (refine op_load_tree (cell_bo hSw (by omega) dk) ?_; exact ⟨_, rfl, rfl⟩))
  try simp only [Act.put, Rg.s]
  refine Rg.tk (i := 7) rfl ?_ (hy := by intro wz hSw; (refine op_load_tree (cell_bo hSw (by omega) d0) ?_; exact ⟨_, rfl, rfl⟩))
  try simp only [Act.put, Rg.s]
  refine Rg.tk (i := 8) rfl ?_
  try simp only [Act.put, Rg.s]
  refine Rg.tk (i := 11) rfl ?_
  try simp only [Act.put, Rg.s]
  refine Rg.tk (i := 12) rfl ?_ (hy := by intro wz hSw; have hcc := cell_bo hSw (by omega) d0; (try dsimp only at hSw); go_simp <;> with_reducible rfl)
  try simp only [Act.put, Rg.s]
  refine Rg.tk (i := 13) rfl ?_
  try simp only [Act.put, Rg.s]
  refine Rg.tk (i := 14) rfl ?_
  try simp only [Act.put, Rg.s]
  refine Rg.tk (i := 15) rfl ?_ (hy := by intro wz hSw; have hcc := cell_bo hSw (by omega) d1; (try dsimp only at hSw); go_simp <;> with_reducible rfl)
  try simp only [Act.put, Rg.s]
  refine Rg.rd (i := 9) rfl fun K hK => ?_
  go_simp
  go_at_call 64
  (with_reducible refine (HP.out w3.drew (below_drewN (Below.refl _ _) 1)).mono ?_)
  rintro e w5 ⟨rfl, hb5⟩
  have HB5 : Hid (Below w3.heap.size w3 w5) := hid (bst (below_drewN (Below.refl _ _) 1) hb5)
  clear hb5
  simp +zetaDelta [bodyPost, Exit.then]
  exact HF.out w5 HB5.out
def WithoutC (t : T) : Prop := ∀ (M : Mp) (w : World) (p : Option Addr) (a : Option Addr) (n c : Nat) (way : Pa), Inv M w → IsT M p t → Bs M w a n c way → Tr.Good t way.length → Tr.Full t → Nib way → way.length ≤ 64 →
 (Tr.get t way = some none → Calls Tryz.prog 32 #[.agg #[.pointer p], .slice a n c] w fun e w' => e = .panicked [errP 7] ∧ Below w.heap.size w w') ∧
 (∀ u, Tr.get t way = some (some u) → Calls Tryz.prog 32 #[.agg #[.pointer p], .slice a n c] w (GotT M w (del t way)))
theorem without_any (t : T) : WithoutC t := by
 induction t with
 | nil =>
  intro M w p a n c way hi ht hW hg hf hn hl
  obtain rfl : p = none := ht.nil_iff.2 rfl
  exact ⟨fun _ => without_nil M a n c w hi, fun u h => (by cases h)⟩
 | stub r =>
  intro M w p a n c way hi ht hW hg hf hn hl
  exact hf.elim
 | leaf q u =>
  intro M w p a n c way hi ht hW hg hf hn hl
  obtain ⟨b, rfl, hm⟩ := ht.at_ (fun e => by cases e)
  obtain ⟨h1, h2⟩ := without_leaf M b q u hm a n c way w hi hW.1 hg.1 hl
  by_cases e : q = way
  ·refine ⟨fun h => ?_, fun v _ => ?_⟩
   ·have : Tr.get (.leaf q u) way = some (some u) := by
     show some (if q = way then some u else none) = _
     rw [if_pos e]
    rw [this] at h
    cases h
   ·have : del (.leaf q u) way = .nil := by
     show (if q = way then T.nil else T.leaf q u) = _
     rw [if_pos e]
    rw [this]
    exact h2 e
  ·refine ⟨fun _ => h1 e, fun v h => ?_⟩
   have : Tr.get (.leaf q u) way = some none := by
    show some (if q = way then some u else none) = _
    rw [if_neg e]
   rw [this] at h
   cases h
 | ext q s ih =>
  intro M w p a n c way hi ht hW hg hf hn hl
  obtain ⟨b, rfl, hm⟩ := ht.at_ (fun e => by cases e)
  obtain ⟨g1, g2, g3, g4, g5⟩ := hg
  by_cases e : q <+: way
  ·have hgs : Tr.Good s (way.drop q.length).length := by rw [List.length_drop]; exact g5
   have hget : Tr.get (.ext q s) way = Tr.get s (way.drop q.length) := by
    show (if q <+: way then Tr.get s (way.drop q.length) else some none) = _
    rw [if_pos e]
   have hdel : del (.ext q s) way = glue q (del s (way.drop q.length)) := by
    show (if q <+: way then _ else _) = _
    rw [if_pos e]
   have hl' : (way.drop q.length).length ≤ 64 := by rw [List.length_drop]; omega
   rw [hget, hdel]
   refine ⟨fun h => ?_, fun v h => ?_⟩
   ·exact without_ext_in q s M b hm w hi a n c way hW hl g3 e (fun M' w' p' a' n' c' hi' ht' hW' => (ih M' w' p' a' n' c' _ hi' ht' hW' hgs hf (hn.drop _) hl').1 h)
   ·have hdn : del s (way.drop q.length) ≠ .nil := by
     obtain ⟨ks, rfl⟩ := isBr_br g4 hf
     cases hr : way.drop q.length with
     | nil => rw [hr] at hgs; exact absurd hgs.1 (Nat.lt_irrefl 0)
     | cons c0 r => exact del_br_ne hgs c0 r
    exact without_ext q s M b hm w hi a n c way hW hl g3 e hf (good_del s _ hgs _ rfl (hn.drop _)) hdn (fun M' w' p' a' n' c' hi' ht' hW' => (ih M' w' p' a' n' c' _ hi' ht' hW' hgs hf (hn.drop _) hl').2 v h)
  ·have hget : Tr.get (.ext q s) way = some none := by
    show (if q <+: way then Tr.get s (way.drop q.length) else some none) = _
    rw [if_neg e]
   rw [hget]
   exact ⟨fun _ => without_ext_no q s M b hm w hi a n c way hW hl g3 e, fun v h => (by cases h)⟩
 | br ks ih =>
  intro M w p a n c way hi ht hW hg hf hn hl
  obtain ⟨b, rfl, hm⟩ := ht.at_ (fun e => by cases e)
  cases way with
  | nil => exact absurd hg.1 (Nat.lt_irrefl 0)
  | cons c0 r =>
   have hl' : r.length ≤ 64 := by simp at hl; omega
   have hgi : Tr.Good (ks (nb c0)) r.length := hg.2.2 (nb c0)
   have hdel : del (.br ks) (c0 :: r) = collapse (fun j => if j = nb c0 then del (ks (nb c0)) r else ks j) := by
    show collapse _ = collapse _
    congr 1
    funext j
    by_cases e : j = nb c0
    ·subst e; rfl
    ·rw [if_neg e, if_neg e]
   rw [hdel]
   refine ⟨fun h => ?_, fun v h => ?_⟩
   ·exact without_br_no ks M b hm w hi a n c c0 r hW hn.head hl (fun M' w' p' a' n' c' hi' ht' hW' => (ih (nb c0) M' w' p' a' n' c' r hi' ht' hW' hgi (hf _) hn.tail hl').1 h)
   ·exact without_br ks M b hm w hi a n c c0 r hW hn.head hl hg hf hn.tail (fun M' w' p' a' n' c' hi' ht' hW' => (ih (nb c0) M' w' p' a' n' c' r hi' ht' hW' hgi (hf _) hn.tail hl').2 v h)
end Tm
end
section
open Go.RowKit
namespace Tk
open Pk
theorem catch_panicking (p : Addr) (x c : Int) (older : List PanicEntry) (w : World) (hc : w.cell? p = some (.int .i64 x)) (hz : w.frozen? p = false) :
  CallsD Tryz.prog 60 #[.pointer (some p)] (.panicking (errP c :: older)) w fun e u' w' =>
   e = .returned (.tuple #[]) ∧ u' = .panicking ({ errP c with recovered := true } :: older) ∧ w' = w.setCell p (.int .i64 c) := by
 refine callsD_of_wpS Tryz.func60 rfl fun c₀ cs hu => ?_
 apply wpS_seq
 apply wpS_region
 simp [wpOpsS, go_sem, recoverD, hu, errP, Tryz.ntmps60, Exit.thenS]
 apply wpS_seq
 apply wpS_region
 simp [wpOpsS, go_sem, Exit.thenS]
 refine wpS_cond (t := true) (by simp [Act.eval, Array.replicate]) ?_
 simp only [if_true]
 apply wpS_region
 have hta : (Instr.typeAssert (.iface 34 (.int .i64 c)) 20 34 false).run Tryz.prog w = .ok (.int .i64 c) w := by kernel_rfl
 simp [wpOpsS, go_sem, hta, hc, hz, bodyPostS, results, Tryz.results60]
theorem catch_idle (p : Addr) (w : World) :
  CallsD Tryz.prog 60 #[.pointer (some p)] .returning w fun e u' w' => e = .returned (.tuple #[]) ∧ u' = .returning ∧ w' = w := by
 refine callsD_of_wpS Tryz.func60 rfl fun c₀ cs hu => ?_
 apply wpS_seq
 apply wpS_region
 simp [wpOpsS, go_sem, recoverD, hu, Tryz.ntmps60, Exit.thenS]
 apply wpS_seq
 apply wpS_region
 simp [wpOpsS, go_sem, Exit.thenS]
 refine wpS_cond (t := false) (by simp [Act.eval, Array.replicate]) ?_
 simp only [Bool.false_eq_true, if_false]
 refine wpS_of_wp (wp_skip ?_)
 cases c₀
 simp_all [bodyPostS, results, Tryz.results60]
theorem caught_ok (D : FuncId) (caps : Array Value) (hD : ∀ w, (callFunc D caps).run Tryz.prog w = .ok (.enter D caps) w) (w : World) (R : World → Prop)
  (h : Calls Tryz.prog D caps (w.alloc (.cells #[.int .i64 0] 34)) fun e w' => e = .returned (.tuple #[]) ∧ (w'.cell? ⟨w.heap.size, 0, none⟩ = some (.int .i64 0) ∧ w'.frozen? ⟨w.heap.size, 0, none⟩ = false) ∧ R w') :
  Calls Tryz.prog 30 #[.func (.func D) #[] caps] w fun e w' => e = .returned (.int .i64 0) ∧ ∃ w1, R w1 ∧ w' = w1.setCell ⟨w.heap.size, 0, none⟩ (.int .i64 0) := by
 have hmf : ∀ (fn : Fn) (first cap : Array Value) (w : World), (Instr.makeFunc fn first cap).run Tryz.prog w = .ok (.func fn first cap) w := fun _ _ _ _ => rfl
 have H := hid h
 clear h
 go_enter_defers Tryz.func30, Tryz.ntmps30
 go_wp2_with fail
 refine H.out.mono ?_
 rintro e w1 ⟨rfl, ⟨hc, hz⟩, hR⟩
 have HR := hid hR
 clear hR H
 go_wp2
 refine leaves_cons (f := 60) (args := #[.pointer (some ⟨w.heap.size, 0, none⟩)]) (by simp) (by simp [go_sem]) ?_
 refine (catch_idle ⟨w.heap.size, 0, none⟩ _).mono ?_
 rintro e u' w'' ⟨rfl, rfl, rfl⟩
 simp [Leaves, settle, results, Tryz.results30, go_sem, hc]
 exact ⟨w1, HR.out, rfl⟩
theorem caught_err (D : FuncId) (caps : Array Value) (hD : ∀ w, (callFunc D caps).run Tryz.prog w = .ok (.enter D caps) w) (w : World) (c : Int) (R : World → Prop)
  (h : Calls Tryz.prog D caps (w.alloc (.cells #[.int .i64 0] 34)) fun e w' => e = .panicked [errP c] ∧ (w'.cell? ⟨w.heap.size, 0, none⟩ = some (.int .i64 0) ∧ w'.frozen? ⟨w.heap.size, 0, none⟩ = false) ∧ R w') :
  Calls Tryz.prog 30 #[.func (.func D) #[] caps] w fun e w' => e = .returned (.int .i64 c) ∧ ∃ w1, R w1 ∧ w' = w1.setCell ⟨w.heap.size, 0, none⟩ (.int .i64 c) := by
 have hmf : ∀ (fn : Fn) (first cap : Array Value) (w : World), (Instr.makeFunc fn first cap).run Tryz.prog w = .ok (.func fn first cap) w := fun _ _ _ _ => rfl
 have H := hid h
 clear h
 go_enter_defers Tryz.func30, Tryz.ntmps30
 go_wp2_with fail
 refine H.out.mono ?_
 rintro e w1 ⟨rfl, ⟨hc, hz⟩, hR⟩
 have HR := hid hR
 clear hR H
 go_wp2
 refine leaves_cons (f := 60) (args := #[.pointer (some ⟨w.heap.size, 0, none⟩)]) (by simp) (by simp [go_sem]) ?_
 refine (catch_panicking ⟨w.heap.size, 0, none⟩ 0 c [] _ hc hz).mono ?_
 rintro e u' w'' ⟨rfl, rfl, rfl⟩
 simp [Leaves, settle, results, Tryz.results30, go_sem, hc]
 exact ⟨w1, HR.out, rfl⟩
end Tk
end
section
open Go.RowKit
namespace Tm
open Tr Ni Pk
theorem get1_ok (p : Option Addr) (k : List UInt8) (hk : k.length = 32) (bt bk br : Nat) (v : ByteArray) (w : World) (hOt : Rg.Own w bt #[.pointer p] 25) (hOk : Rg.Own w bk (Ky.kc k) 28) (h1 : bt ≠ br) (h2 : bk ≠ br)
  (hOr : Rg.Own w br #[.string eB] 9) (hC : ∀ w5, Below w.heap.size w w5 → ∀ a5 n5 c5, IsBs w5 a5 n5 c5 (Ky.pathK k) → Calls Tryz.prog 35 #[.agg #[.pointer p], .slice a5 n5 c5] w5 (fun e w' => e = .returned (.string v) ∧ Below w5.heap.size w5 w')) :
  Calls Tryz.prog 34 #[.pointer (some ⟨bt, 0, none⟩), .pointer (some ⟨bk, 0, none⟩), .pointer (some ⟨br, 0, none⟩)] w (fun e w' => e = .returned (.tuple #[]) ∧ Rg.Own w' br #[.string v] 9 ∧ Bo br w w') := by
 have HPa := hid (fun wx => Ky.path_any k hk wx)
 have HOt := hid hOt
 have HOk := hid hOk
 have HOr := hid hOr
 have HC := hid hC
 clear hOr hC
 clear hOt hOk
 go_enter Tryz.func34, Tryz.ntmps34
 go_wp2_with fail
 refine wp_region_noPanic ?_
 refine wp_region_held_drew (S := fun w' => Bo br w w') (by kernel_rfl) (Bo.of (below_drewN (Below.refl _ _) 1)) (fun hld => ?_)
 refine Rg.tk (i := 0) rfl ?_ (hy := by intro wz hSw; (refine op_load_tree (own_cell (j := 0) (own_bo hSw HOt.out (by omega)) rfl) ?_; exact ⟨_, rfl, rfl⟩))
 try simp only [Act.put, Rg.s]
 refine Rg.tk (i := 1) rfl ?_ (hy := by intro wz hSw; (refine op_load_key hk (own_bo hSw HOk.out (by omega)).2 ?_; exact ⟨_, rfl, rfl⟩))
 try simp only [Act.put, Rg.s]
 refine Rg.rd (i := 2) rfl fun K hK => ?_
 go_simp
 go_at_call 33
 (with_reducible refine (HPa.out w.drew).mono ?_)
 rintro e w5 ⟨a5, n5, c5, rfl, hx5, hb5⟩
 have HB5 : Hid (Below w.heap.size w w5) := hid (bst (below_drewN (Below.refl _ _) 1) hb5)
 have HX5 := hid hx5
 clear hb5 hx5
 refine hK.out _ _ ?_ (fun hld => ?_)
 ·exact Bo.of HB5.out
 clear hK K
 try simp only [Act.put, Rg.s]
 refine Rg.rd (i := 3) rfl fun K hK => ?_
 go_simp
 go_at_call 35
 (with_reducible refine (HC.out w5 HB5.out a5 n5 c5 HX5.out).mono ?_)
 rintro e w6 ⟨rfl, hb6⟩
 have hB6 : Below w.heap.size w w6 := bst HB5.out hb6
 have HO6 := hid (HOr.out.below hB6)
 refine hK.out _ _ ?_ (fun hld => ?_)
 ·exact Bo.of hB6
 clear hK K
 try simp only [Act.put, Rg.s]
 refine Rg.rd (i := 4) rfl fun K hK => ?_
 refine meet_store_str (by rfl) HO6.out v ⟨_, _, rfl, rfl, rfl⟩ ?_
 intro w10 hO10 hu10
 refine hK.out _ _ ?_ (fun hld => ?_)
 ·exact (Bo.of hB6).upd hu10
 clear hK K
 try simp only [Act.put, Rg.s]
 refine wpAnyH_done (by kernel_rfl) ?_ _
 refine NoPanic.normal ?_
 go_wp2
 go_end0
 exact ⟨rfl, hO10, (Bo.of hB6).upd hu10⟩
theorem get1_err (p : Option Addr) (k : List UInt8) (hk : k.length = 32) (bt bk br : Nat) (c : Int) (w : World) (hOt : Rg.Own w bt #[.pointer p] 25) (hOk : Rg.Own w bk (Ky.kc k) 28) (h1 : bt ≠ br) (h2 : bk ≠ br)
  (hC : ∀ w5, Below w.heap.size w w5 → ∀ a5 n5 c5, IsBs w5 a5 n5 c5 (Ky.pathK k) → Calls Tryz.prog 35 #[.agg #[.pointer p], .slice a5 n5 c5] w5 (fun e w' => e = .panicked [errP c] ∧ Below w5.heap.size w5 w')) :
  Calls Tryz.prog 34 #[.pointer (some ⟨bt, 0, none⟩), .pointer (some ⟨bk, 0, none⟩), .pointer (some ⟨br, 0, none⟩)] w (fun e w' => e = .panicked [errP c] ∧ Below w.heap.size w w') := by
 have HPa := hid (fun wx => Ky.path_any k hk wx)
 have HOt := hid hOt
 have HOk := hid hOk
 have HC := hid hC
 clear hC
 clear hOt hOk
 go_enter Tryz.func34, Tryz.ntmps34
 go_wp2_with fail
 refine wp_region_held_drew (S := fun w' => Bo br w w') (by kernel_rfl) (Bo.of (below_drewN (Below.refl _ _) 1)) (fun hld => ?_)
 refine Rg.tk (i := 0) rfl ?_ (hy := by intro wz hSw; (refine op_load_tree (own_cell (j := 0) (own_bo hSw HOt.out (by omega)) rfl) ?_; exact ⟨_, rfl, rfl⟩))
 try simp only [Act.put, Rg.s]
 refine Rg.tk (i := 1) rfl ?_ (hy := by intro wz hSw; (refine op_load_key hk (own_bo hSw HOk.out (by omega)).2 ?_; exact ⟨_, rfl, rfl⟩))
 try simp only [Act.put, Rg.s]
 refine Rg.rd (i := 2) rfl fun K hK => ?_
 go_simp
 go_at_call 33
 (with_reducible refine (HPa.out w.drew).mono ?_)
 rintro e w5 ⟨a5, n5, c5, rfl, hx5, hb5⟩
 have HB5 : Hid (Below w.heap.size w w5) := hid (bst (below_drewN (Below.refl _ _) 1) hb5)
 have HX5 := hid hx5
 clear hb5 hx5
 refine hK.out _ _ ?_ (fun hld => ?_)
 ·exact Bo.of HB5.out
 clear hK K
 try simp only [Act.put, Rg.s]
 refine Rg.rd (i := 3) rfl fun K hK => ?_
 go_simp
 go_at_call 35
 (with_reducible refine (HC.out w5 HB5.out a5 n5 c5 HX5.out).mono ?_)
 rintro e w6 ⟨rfl, hb6⟩
 simp +zetaDelta [bodyPost, Exit.then]
 exact bst HB5.out hb6
theorem put1_ok (p : Option Addr) (k : List UInt8) (hk : k.length = 32) (bt bk br : Nat) (bs : Nat) (v : ByteArray) (w : World) (hOt : Rg.Own w bt #[.pointer p] 25) (hOk : Rg.Own w bk (Ky.kc k) 28) (h1 : bt ≠ br) (h2 : bk ≠ br)
  (hOr : Rg.Own w br #[.pointer none] 25) (M : Mp) (hi : Inv M w) (R : T) (hC : ∀ w5, Below w.heap.size w w5 → ∀ a5 n5 c5, IsBs w5 a5 n5 c5 (Ky.pathK k) → Calls Tryz.prog 37 #[.agg #[.pointer p], .slice a5 n5 c5, .string v] w5 (GotT (plus M (inS a5 n5)) w5 R)) (hOs : Rg.Own w bs #[.string v] 9) (h3 : bs ≠ br) :
  Calls Tryz.prog 36 #[.pointer (some ⟨bt, 0, none⟩), .pointer (some ⟨bk, 0, none⟩), .pointer (some ⟨bs, 0, none⟩), .pointer (some ⟨br, 0, none⟩)] w (fun e w' => e = .returned (.tuple #[]) ∧ ∃ p' M' w6, IsT M' p' R ∧ St M w M' w6 ∧ Rg.Upd w6 br w' ∧ Rg.Own w' br #[.pointer p'] 25) := by
 have HPa := hid (fun wx => Ky.path_any k hk wx)
 have HOt := hid hOt
 have HOk := hid hOk
 have HF : Hid (∀ w5, Below w.heap.size w w5 → ∀ a5 n5 c5, IsBs w5 a5 n5 c5 (Ky.pathK k) → ∀ e w6, GotT (plus M (inS a5 n5)) w5 R e w6 → ∃ p6, e = .returned (tv p6) ∧ Below w.heap.size w w6 ∧ Rg.Own w6 br #[.pointer none] 25 ∧ ∀ w10, Rg.Own w10 br #[.pointer p6] 25 → Rg.Upd w6 br w10 → ∃ p' M' w6, IsT M' p' R ∧ St M w M' w6 ∧ Rg.Upd w6 br w10 ∧ Rg.Own w10 br #[.pointer p'] 25) := hid (fun w5 hb5 a5 n5 c5 hx e w6 hG => by
  have hs : St M w (plus M (inS a5 n5)) w5 := ((St.refl hi).below hb5).bytes hx
  obtain ⟨p6, M6, he, hT, hS, _, hb6⟩ := hs.got hG
  exact ⟨p6, he, hS.b, hOr.below hS.b, fun w10 hO hu => ⟨p6, M6, w6, hT, hS, hu, hO⟩⟩)
 have HC := hid hC
 have HOs := hid hOs
 clear hOs
 clear hOr hC hi
 clear hOt hOk
 go_enter Tryz.func36, Tryz.ntmps36
 go_wp2_with fail
 refine wp_region_noPanic ?_
 refine wp_region_held_drew (S := fun w' => Bo br w w') (by kernel_rfl) (Bo.of (below_drewN (Below.refl _ _) 1)) (fun hld => ?_)
 refine Rg.tk (i := 0) rfl ?_ (hy := by intro wz hSw; (refine op_load_tree (own_cell (j := 0) (own_bo hSw HOt.out (by omega)) rfl) ?_; exact ⟨_, rfl, rfl⟩))
 try simp only [Act.put, Rg.s]
 refine Rg.tk (i := 1) rfl ?_ (hy := by intro wz hSw; (refine op_load_key hk (own_bo hSw HOk.out (by omega)).2 ?_; exact ⟨_, rfl, rfl⟩))
 try simp only [Act.put, Rg.s]
 refine Rg.tk (i := 3) rfl ?_ (hy := by intro wz hSw; (refine op_load_str (own_cell (j := 0) (own_bo hSw HOs.out (by omega)) rfl) ?_; exact ⟨_, rfl, rfl⟩))
 try simp only [Act.put, Rg.s]
 refine Rg.rd (i := 2) rfl fun K hK => ?_
 go_simp
 go_at_call 33
 (with_reducible refine (HPa.out w.drew).mono ?_)
 rintro e w5 ⟨a5, n5, c5, rfl, hx5, hb5⟩
 have HB5 : Hid (Below w.heap.size w w5) := hid (bst (below_drewN (Below.refl _ _) 1) hb5)
 have HX5 := hid hx5
 clear hb5 hx5
 refine hK.out _ _ ?_ (fun hld => ?_)
 ·exact Bo.of HB5.out
 clear hK K
 try simp only [Act.put, Rg.s]
 refine Rg.rd (i := 4) rfl fun K hK => ?_
 go_simp
 go_at_call 37
 (with_reducible refine (HC.out w5 HB5.out a5 n5 c5 HX5.out).mono ?_)
 intro e w6 hG
 obtain ⟨p6, rfl, hB6, H6⟩ := HF.out w5 HB5.out a5 n5 c5 HX5.out e w6 hG
 replace H6 := hid H6
 clear hG
 refine hK.out _ _ ?_ (fun hld => ?_)
 ·exact Bo.of hB6
 clear hK K
 try simp only [Act.put, Rg.s]
 refine Rg.rd (i := 5) rfl fun K hK => ?_
 refine meet_store_tree (by rfl) H6.out.1 (off := 0) (by decide) p6 ⟨_, _, rfl, rfl, rfl⟩ ?_
 intro w10 hO10 hu10
 have H10 := hid (H6.out.2 w10 hO10 hu10)
 clear hO10
 refine hK.out _ _ ?_ (fun hld => ?_)
 ·exact (Bo.of hB6).upd hu10
 clear hK K
 try simp only [Act.put, Rg.s]
 refine wpAnyH_done (by kernel_rfl) ?_ _
 refine NoPanic.normal ?_
 go_wp2
 go_end0
 exact ⟨rfl, H10.out⟩
theorem del1_ok (p : Option Addr) (k : List UInt8) (hk : k.length = 32) (bt bk br : Nat)  (w : World) (hOt : Rg.Own w bt #[.pointer p] 25) (hOk : Rg.Own w bk (Ky.kc k) 28) (h1 : bt ≠ br) (h2 : bk ≠ br)
  (hOr : Rg.Own w br #[.pointer none] 25) (M : Mp) (hi : Inv M w) (R : T) (hC : ∀ w5, Below w.heap.size w w5 → ∀ a5 n5 c5, IsBs w5 a5 n5 c5 (Ky.pathK k) → Calls Tryz.prog 32 #[.agg #[.pointer p], .slice a5 n5 c5] w5 (GotT (plus M (inS a5 n5)) w5 R))  :
  Calls Tryz.prog 31 #[.pointer (some ⟨bt, 0, none⟩), .pointer (some ⟨bk, 0, none⟩), .pointer (some ⟨br, 0, none⟩)] w (fun e w' => e = .returned (.tuple #[]) ∧ ∃ p' M' w6, IsT M' p' R ∧ St M w M' w6 ∧ Rg.Upd w6 br w' ∧ Rg.Own w' br #[.pointer p'] 25) := by
 have HPa := hid (fun wx => Ky.path_any k hk wx)
 have HOt := hid hOt
 have HOk := hid hOk
 have HF : Hid (∀ w5, Below w.heap.size w w5 → ∀ a5 n5 c5, IsBs w5 a5 n5 c5 (Ky.pathK k) → ∀ e w6, GotT (plus M (inS a5 n5)) w5 R e w6 → ∃ p6, e = .returned (tv p6) ∧ Below w.heap.size w w6 ∧ Rg.Own w6 br #[.pointer none] 25 ∧ ∀ w10, Rg.Own w10 br #[.pointer p6] 25 → Rg.Upd w6 br w10 → ∃ p' M' w6, IsT M' p' R ∧ St M w M' w6 ∧ Rg.Upd w6 br w10 ∧ Rg.Own w10 br #[.pointer p'] 25) := hid (fun w5 hb5 a5 n5 c5 hx e w6 hG => by
  have hs : St M w (plus M (inS a5 n5)) w5 := ((St.refl hi).below hb5).bytes hx
  obtain ⟨p6, M6, he, hT, hS, _, hb6⟩ := hs.got hG
  exact ⟨p6, he, hS.b, hOr.below hS.b, fun w10 hO hu => ⟨p6, M6, w6, hT, hS, hu, hO⟩⟩)
 have HC := hid hC
 clear hOr hC hi
 clear hOt hOk
 go_enter Tryz.func31, Tryz.ntmps31
 go_wp2_with fail
 refine wp_region_noPanic ?_
 refine wp_region_held_drew (S := fun w' => Bo br w w') (by kernel_rfl) (Bo.of (below_drewN (Below.refl _ _) 1)) (fun hld => ?_)
 refine Rg.tk (i := 0) rfl ?_ (hy := by intro wz hSw; (refine op_load_tree (own_cell (j := 0) (own_bo hSw HOt.out (by omega)) rfl) ?_; exact ⟨_, rfl, rfl⟩))
 try simp only [Act.put, Rg.s]
 refine Rg.tk (i := 1) rfl ?_ (hy := by intro wz hSw; (refine op_load_key hk (own_bo hSw HOk.out (by omega)).2 ?_; exact ⟨_, rfl, rfl⟩))
 try simp only [Act.put, Rg.s]
 refine Rg.rd (i := 2) rfl fun K hK => ?_
 go_simp
 go_at_call 33
 (with_reducible refine (HPa.out w.drew).mono ?_)
 rintro e w5 ⟨a5, n5, c5, rfl, hx5, hb5⟩
 have HB5 : Hid (Below w.heap.size w w5) := hid (bst (below_drewN (Below.refl _ _) 1) hb5)
 have HX5 := hid hx5
 clear hb5 hx5
 refine hK.out _ _ ?_ (fun hld => ?_)
 ·exact Bo.of HB5.out
 clear hK K
 try simp only [Act.put, Rg.s]
 refine Rg.rd (i := 3) rfl fun K hK => ?_
 go_simp
 go_at_call 32
 (with_reducible refine (HC.out w5 HB5.out a5 n5 c5 HX5.out).mono ?_)
 intro e w6 hG
 obtain ⟨p6, rfl, hB6, H6⟩ := HF.out w5 HB5.out a5 n5 c5 HX5.out e w6 hG
 replace H6 := hid H6
 clear hG
 refine hK.out _ _ ?_ (fun hld => ?_)
 ·exact Bo.of hB6
 clear hK K
 try simp only [Act.put, Rg.s]
 refine Rg.rd (i := 4) rfl fun K hK => ?_
 refine meet_store_tree (by rfl) H6.out.1 (off := 0) (by decide) p6 ⟨_, _, rfl, rfl, rfl⟩ ?_
 intro w10 hO10 hu10
 have H10 := hid (H6.out.2 w10 hO10 hu10)
 clear hO10
 refine hK.out _ _ ?_ (fun hld => ?_)
 ·exact (Bo.of hB6).upd hu10
 clear hK K
 try simp only [Act.put, Rg.s]
 refine wpAnyH_done (by kernel_rfl) ?_ _
 refine NoPanic.normal ?_
 go_wp2
 go_end0
 exact ⟨rfl, H10.out⟩
theorem put1_err (p : Option Addr) (k : List UInt8) (hk : k.length = 32) (bt bk br : Nat) (bs : Nat) (v : ByteArray) (c : Int) (w : World) (hOt : Rg.Own w bt #[.pointer p] 25) (hOk : Rg.Own w bk (Ky.kc k) 28) (h1 : bt ≠ br) (h2 : bk ≠ br)
  (hOs : Rg.Own w bs #[.string v] 9) (h3 : bs ≠ br) (hC : ∀ w5, Below w.heap.size w w5 → ∀ a5 n5 c5, IsBs w5 a5 n5 c5 (Ky.pathK k) → Calls Tryz.prog 37 #[.agg #[.pointer p], .slice a5 n5 c5, .string v] w5 (fun e w' => e = .panicked [errP c] ∧ Below w5.heap.size w5 w')) :
  Calls Tryz.prog 36 #[.pointer (some ⟨bt, 0, none⟩), .pointer (some ⟨bk, 0, none⟩), .pointer (some ⟨bs, 0, none⟩), .pointer (some ⟨br, 0, none⟩)] w (fun e w' => e = .panicked [errP c] ∧ Below w.heap.size w w') := by
 have HPa := hid (fun wx => Ky.path_any k hk wx)
 have HOt := hid hOt
 have HOk := hid hOk
 have HC := hid hC
 have HOs := hid hOs
 clear hC hOs
 clear hOt hOk
 go_enter Tryz.func36, Tryz.ntmps36
 go_wp2_with fail
 refine wp_region_held_drew (S := fun w' => Bo br w w') (by kernel_rfl) (Bo.of (below_drewN (Below.refl _ _) 1)) (fun hld => ?_)
 refine Rg.tk (i := 0) rfl ?_ (hy := by intro wz hSw; (refine op_load_tree (own_cell (j := 0) (own_bo hSw HOt.out (by omega)) rfl) ?_; exact ⟨_, rfl, rfl⟩))
 try simp only [Act.put, Rg.s]
 refine Rg.tk (i := 1) rfl ?_ (hy := by intro wz hSw; (refine op_load_key hk (own_bo hSw HOk.out (by omega)).2 ?_; exact ⟨_, rfl, rfl⟩))
 try simp only [Act.put, Rg.s]
 refine Rg.tk (i := 3) rfl ?_ (hy := by intro wz hSw; (refine op_load_str (own_cell (j := 0) (own_bo hSw HOs.out (by omega)) rfl) ?_; exact ⟨_, rfl, rfl⟩))
 try simp only [Act.put, Rg.s]
 refine Rg.rd (i := 2) rfl fun K hK => ?_
 go_simp
 go_at_call 33
 (with_reducible refine (HPa.out w.drew).mono ?_)
 rintro e w5 ⟨a5, n5, c5, rfl, hx5, hb5⟩
 have HB5 : Hid (Below w.heap.size w w5) := hid (bst (below_drewN (Below.refl _ _) 1) hb5)
 have HX5 := hid hx5
 clear hb5 hx5
 refine hK.out _ _ ?_ (fun hld => ?_)
 ·exact Bo.of HB5.out
 clear hK K
 try simp only [Act.put, Rg.s]
 refine Rg.rd (i := 4) rfl fun K hK => ?_
 go_simp
 go_at_call 37
 (with_reducible refine (HC.out w5 HB5.out a5 n5 c5 HX5.out).mono ?_)
 rintro e w6 ⟨rfl, hb6⟩
 simp +zetaDelta [bodyPost, Exit.then]
 exact bst HB5.out hb6
theorem del1_err (p : Option Addr) (k : List UInt8) (hk : k.length = 32) (bt bk br : Nat) (c : Int) (w : World) (hOt : Rg.Own w bt #[.pointer p] 25) (hOk : Rg.Own w bk (Ky.kc k) 28) (h1 : bt ≠ br) (h2 : bk ≠ br)
  (hC : ∀ w5, Below w.heap.size w w5 → ∀ a5 n5 c5, IsBs w5 a5 n5 c5 (Ky.pathK k) → Calls Tryz.prog 32 #[.agg #[.pointer p], .slice a5 n5 c5] w5 (fun e w' => e = .panicked [errP c] ∧ Below w5.heap.size w5 w')) :
  Calls Tryz.prog 31 #[.pointer (some ⟨bt, 0, none⟩), .pointer (some ⟨bk, 0, none⟩), .pointer (some ⟨br, 0, none⟩)] w (fun e w' => e = .panicked [errP c] ∧ Below w.heap.size w w') := by
 have HPa := hid (fun wx => Ky.path_any k hk wx)
 have HOt := hid hOt
 have HOk := hid hOk
 have HC := hid hC
 clear hC
 clear hOt hOk
 go_enter Tryz.func31, Tryz.ntmps31
 go_wp2_with fail
 refine wp_region_held_drew (S := fun w' => Bo br w w') (by kernel_rfl) (Bo.of (below_drewN (Below.refl _ _) 1)) (fun hld => ?_)
 refine Rg.tk (i := 0) rfl ?_ (hy := by intro wz hSw; (refine op_load_tree (own_cell (j := 0) (own_bo hSw HOt.out (by omega)) rfl) ?_; exact ⟨_, rfl, rfl⟩))
 try simp only [Act.put, Rg.s]
 refine Rg.tk (i := 1) rfl ?_ (hy := by intro wz hSw; (refine op_load_key hk (own_bo hSw HOk.out (by omega)).2 ?_; exact ⟨_, rfl, rfl⟩))
 try simp only [Act.put, Rg.s]
 refine Rg.rd (i := 2) rfl fun K hK => ?_
 go_simp
 go_at_call 33
 (with_reducible refine (HPa.out w.drew).mono ?_)
 rintro e w5 ⟨a5, n5, c5, rfl, hx5, hb5⟩
 have HB5 : Hid (Below w.heap.size w w5) := hid (bst (below_drewN (Below.refl _ _) 1) hb5)
 have HX5 := hid hx5
 clear hb5 hx5
 refine hK.out _ _ ?_ (fun hld => ?_)
 ·exact Bo.of HB5.out
 clear hK K
 try simp only [Act.put, Rg.s]
 refine Rg.rd (i := 3) rfl fun K hK => ?_
 go_simp
 go_at_call 32
 (with_reducible refine (HC.out w5 HB5.out a5 n5 c5 HX5.out).mono ?_)
 rintro e w6 ⟨rfl, hb6⟩
 simp +zetaDelta [bodyPost, Exit.then]
 exact bst HB5.out hb6
end Tm
end
section
open Go.RowKit
namespace Tm
open Tr Ni Pk Ky
theorem enterG (w : World) (p : Option Addr) (C : Array Value) (cs : Array Value) (T : TypeId) : ∃ w4, w4 = ((w.alloc (.cells #[.pointer p] 25)).alloc (.cells C 28)).alloc (.cells cs T) ∧ Rg.Own w4 w.heap.size #[.pointer p] 25 ∧ Rg.Own w4 (w.heap.size + 1) C 28 ∧ Rg.Own w4 (w.heap.size + 2) cs T ∧ Below w.heap.size w w4 ∧ w4.heap.size = w.heap.size + 3 := by
 have h2 := Rg.Own.new (w.alloc (.cells #[.pointer p] 25)) C 28
 have h3 := Rg.Own.new ((w.alloc (.cells #[.pointer p] 25)).alloc (.cells C 28)) cs T
 rw [show (w.alloc (.cells #[.pointer p] 25)).heap.size = w.heap.size + 1 by simp] at h2
 rw [show ((w.alloc (.cells #[.pointer p] 25)).alloc (.cells C 28)).heap.size = w.heap.size + 2 by simp] at h3
 exact ⟨_, rfl, ((Rg.Own.new _ _ _).below (al1 _ _)).below (al1 _ _), h2.below (al1 _ _), h3, (al2 _ _ _).alloc (by simp; omega) _, by simp⟩
theorem one_int (x : Int) : ∀ (j : Nat) (y : Int), (#[Value.int .i64 x] : Array Value)[j]? ≠ some (Value.int .u8 y) := fun j y h => by
 match j, h with
 | 0, h => simp at h
 | j + 1, h => simp at h
theorem own_one' {w : World} {b : Nat} {v : Value} {t : TypeId} (h : Rg.Own w b #[v] t) : w.cell? ⟨b, 0, none⟩ = some v ∧ w.frozen? ⟨b, 0, none⟩ = false := ⟨own_cell (j := 0) h rfl, own_free h⟩
def getV : Option (Option ByteArray) → Value
 | none => .tuple #[.string eB, .int .i64 8]
 | some none => .tuple #[.string eB, .int .i64 7]
 | some (some v) => .tuple #[.string v, .int .i64 0]
theorem get_core (p : Option Addr) (k : List UInt8) (x : ByteArray) (c : Int) (w w4 : World) (hw4 : w4 = ((w.alloc (.cells #[.pointer p] 25)).alloc (.cells (kc k) 28)).alloc (.cells #[.string eB] 9))
  (h : Calls Tryz.prog 30 #[.func (.func 34) #[] #[.pointer (some ⟨w.heap.size, 0, none⟩), .pointer (some ⟨w.heap.size + 1, 0, none⟩), .pointer (some ⟨w.heap.size + 2, 0, none⟩)]] w4 fun e w' => e = .returned (.int .i64 c) ∧ Rg.Own w' (w.heap.size + 2) #[.string x] 9 ∧ Below w.heap.size w w') :
  Calls Tryz.prog 12 #[.agg #[.pointer p], .agg (kc k)] w fun e w' => e = .returned (.tuple #[.string x, .int .i64 c]) ∧ Below w.heap.size w w' := by
 have hmf : ∀ (fn : Fn) (first cap : Array Value) (w : World), (Instr.makeFunc fn first cap).run Tryz.prog w = .ok (.func fn first cap) w := fun _ _ _ _ => rfl
 obtain ⟨C, hC⟩ : ∃ C, kc k = C := ⟨_, rfl⟩
 have HH := hid h
 have HW := hid hw4
 rw [hC] at HW ⊢
 clear h hw4 hC
 go_enter Tryz.func12, Tryz.ntmps12
 go_wp2_with fail
 rw [← HW.out]
 refine HH.out.mono ?_
 rintro e w5 ⟨rfl, hO5, hB5⟩
 have HO5 := hid hO5
 have HB5 := hid hB5
 clear hO5 hB5 HH HW hmf
 go_wp2_with (first
  | (refine Rg.run rfl _ _ (op_load_str (own_cell (j := 0) HO5.out rfl) ⟨_, rfl, rfl⟩) ?_)
  | (refine wpl_store_str HO5.out x rfl _ _ rfl rfl rfl ?_; intro w6 hO6 hu6; have HO6 := hid hO6; have HB6 : Hid (Below w.heap.size w w6) := hid (hu6.below HB5.out (by omega)); clear hO6 hu6))
 exact bodyPost_ret (res_str1 rfl _ rfl HO6.out) rfl ⟨rfl, HB6.out⟩
theorem get_any (M : Mp) (p : Option Addr) (t : T) (k : List UInt8) (hk : k.length = 32) (w : World) (hi : Inv M w) (ht : IsT M p t) (hg : Tr.Good t 64) :
  Calls Tryz.prog 12 #[.agg #[.pointer p], .agg (kc k)] w fun e w' => e = .returned (getV (Tr.get t (path k))) ∧ Below w.heap.size w w' := by
 obtain ⟨w4, hw4, hO0, hO1, hO2, hb4, hs4⟩ := enterG w p (kc k) #[.string eB] 9
 have hE : Rg.Own (w4.alloc (.cells #[.int .i64 0] 34)) w4.heap.size #[.int .i64 0] 34 := Rg.Own.new _ _ _
 have hA := al1 w4 (.cells #[.int .i64 0] 34)
 obtain ⟨wc, hwc⟩ : ∃ wc, w4.alloc (.cells #[.int .i64 0] 34) = wc := ⟨_, rfl⟩
 rw [hwc] at hE hA
 have hbc := bst hb4 hA
 have hic := hi.below hbc
 have hpl : (path k).length = 64 := by rw [Tr.path_length, hk]
 have hfind : ∀ w5, Below wc.heap.size wc w5 → ∀ a5 n5 c5, IsBs w5 a5 n5 c5 (pathK k) → Calls Tryz.prog 35 #[.agg #[.pointer p], .slice a5 n5 c5] w5 (fun e w' => e = foundE (Tr.get t (path k)) ∧ Below w5.heap.size w5 w') := fun w5 hb5 a5 n5 c5 hx =>
  find_any t M w5 p a5 n5 c5 (path k) (hic.below hb5) ht hx (by rw [hpl]; exact hg) (path_nib k) (by omega)
 have hD : ∀ wx, (callFunc 34 #[.pointer (some ⟨w.heap.size, 0, none⟩), .pointer (some ⟨w.heap.size + 1, 0, none⟩), .pointer (some ⟨w.heap.size + 2, 0, none⟩)]).run Tryz.prog wx = .ok (.enter 34 #[.pointer (some ⟨w.heap.size, 0, none⟩), .pointer (some ⟨w.heap.size + 1, 0, none⟩), .pointer (some ⟨w.heap.size + 2, 0, none⟩)]) wx := by intro wx; kernel_rfl
 have herr : ∀ c : Int, foundE (Tr.get t (path k)) = .panicked [errP c] → getV (Tr.get t (path k)) = .tuple #[.string eB, .int .i64 c] → Calls Tryz.prog 12 #[.agg #[.pointer p], .agg (kc k)] w fun e w' => e = .returned (getV (Tr.get t (path k))) ∧ Below w.heap.size w w' := fun c hc hv => by
  rw [hv]
  refine get_core p k eB c w w4 hw4 ((Tk.caught_err 34 _ hD w4 c (fun w' => Below wc.heap.size wc w') (by
   rw [hwc]
   refine (get1_err p k hk _ _ _ c wc (hO0.below hA) (hO1.below hA) (by omega) (by omega) (fun w5 hb5 a5 n5 c5 hx => by rw [← hc]; exact hfind w5 hb5 a5 n5 c5 hx)).mono ?_
   rintro e w' ⟨rfl, hb⟩
   exact ⟨rfl, own_one' (hE.below hb), hb⟩)).mono ?_)
  rintro e w' ⟨rfl, w1, hb, rfl⟩
  exact ⟨rfl, ((hO2.below hA).below hb).upd (upd_setCell _ _ _ _) (by omega), (upd_setCell w1 w4.heap.size 0 (.int .i64 c)).below (bst hbc hb) (by omega)⟩
 match hget : Tr.get t (path k), hfind, herr with
 | none, _, herr => exact herr 8 rfl rfl
 | some none, _, herr => exact herr 7 rfl rfl
 | some (some v), hfind, _ =>
  refine get_core p k v 0 w w4 hw4 ((Tk.caught_ok 34 _ hD w4 (fun w' => Rg.Own w' (w.heap.size + 2) #[.string v] 9 ∧ Bo (w.heap.size + 2) wc w' ∧ Below w.heap.size w w') (by
   rw [hwc]
   refine ((get1_ok p k hk w.heap.size (w.heap.size + 1) (w.heap.size + 2) v wc (hO0.below hA) (hO1.below hA) (by omega) (by omega) (hO2.below hA) (fun w5 hb5 a5 n5 c5 hx => hfind w5 hb5 a5 n5 c5 hx))).mono ?_
   rintro e w' ⟨rfl, hO, hb⟩
   have hbw : Below w.heap.size w w' := hb.below hbc (by have := hbc.size; omega) (by omega)
   exact ⟨rfl, own_one' (own_bo hb hE (by omega)), hO, hb, hbw⟩)).mono ?_)
  rintro e w' ⟨rfl, w1, ⟨hO, hb, hB⟩, rfl⟩
  exact ⟨rfl, hO.upd (upd_setCell _ _ _ _) (by omega), (upd_setCell w1 w4.heap.size 0 (.int .i64 0)).below hB (by omega)⟩
end Tm
end
section
open Go.RowKit
namespace Tm
open Tr Ni Pk Ky
def GotTE (M : Mp) (w : World) (t : T) (c : Int) (e : Ending) (w' : World) : Prop := ∃ p M', e = .returned (.tuple #[tv p, .int .i64 c]) ∧ IsT M' p t ∧ Fr M M' w w' ∧ Inv M' w' ∧ Below w.heap.size w w'
def InBox (M : Mp) (w : World) (br : Nat) (t : T) (w' : World) : Prop := ∃ p M', Rg.Own w' br #[.pointer p] 25 ∧ IsT M' p t ∧ Fr M M' w w' ∧ Inv M' w' ∧ Below w.heap.size w w' ∧ ¬ M'.ft br
theorem InBox.end_ {M : Mp} {w w5 w6 : World} {br : Nat} {t : T} {c : Int} (h : InBox M w br t w5) (hg : w.heap.size ≤ br) : ∃ p, Rg.Own w5 br #[.pointer p] 25 ∧ ∀ w6, Rg.Upd w5 br w6 → GotTE M w t c (.returned (.tuple #[tv p, .int .i64 c])) w6 := by
 obtain ⟨p, M', hO, hT, f, i, b, hn⟩ := h
 exact ⟨p, hO, fun w6 hu => ⟨p, M', rfl, hT, f.upd hu hg, i.upd hu hn, hu.below b hg⟩⟩
theorem in_box {M M' : Mp} {w wc w6 w1 : World} {br be : Nat} {p : Option Addr} {t : T} {T' : TypeId} {cs : Array Value} {te : TypeId} (hi : Inv M w) (hbc : Below w.heap.size w wc) (hT : IsT M' p t) (hS : St M wc M' w6) (hu : Rg.Upd w6 br w1) (hO : Rg.Own w1 br #[.pointer p] T')
  (hOr : Rg.Own wc br #[.pointer none] 25) (hOe : Rg.Own wc be cs te) (hne : ∀ (j : Nat) (x : Int), cs[j]? ≠ some (Value.int .u8 x)) (hgr : w.heap.size ≤ br) (hge : w.heap.size ≤ be) (hre : br ≠ be) (hTT : T' = 25) (x : Value) : InBox M w br t (w1.setCell ⟨be, 0, none⟩ x) := by
 subst hTT
 have hu2 := upd_setCell w1 be 0 x
 have nr : ¬ M'.ft br := hS.f.box (hi.free hgr) hOr.1 (no_byte hOr (one_no _))
 have ne : ¬ M'.ft be := hS.f.box (hi.free hge) hOe.1 (no_byte hOe hne)
 have hf := (((Fr.below M hbc).trans hi hS.f).upd hu hgr).upd hu2 hge
 exact ⟨p, M', hO.upd hu2 hre, hT, hf, (hS.i.upd hu nr).upd hu2 ne, hu2.below (hu.below (bst hbc hS.b) hgr) hge, nr⟩
theorem del_core (M : Mp) (p : Option Addr) (k : List UInt8)  (R : T) (c : Int) (w w4 : World) (hw4 : w4 = ((w.alloc (.cells #[.pointer p] 25)).alloc (.cells (kc k) 28)).alloc (.cells #[.pointer none] 25))
  (h : Calls Tryz.prog 30 #[.func (.func 31) #[] #[.pointer (some ⟨w.heap.size, 0, none⟩), .pointer (some ⟨w.heap.size + 1, 0, none⟩), .pointer (some ⟨w.heap.size + 2, 0, none⟩)]] w4 fun e w' => e = .returned (.int .i64 c) ∧ InBox M w (w.heap.size + 2) R w') :
  Calls Tryz.prog 9 #[.agg #[.pointer p], .agg (kc k)] w (GotTE M w R c) := by
 have hmf : ∀ (fn : Fn) (first cap : Array Value) (w : World), (Instr.makeFunc fn first cap).run Tryz.prog w = .ok (.func fn first cap) w := fun _ _ _ _ => rfl
 obtain ⟨C, hC⟩ : ∃ C, kc k = C := ⟨_, rfl⟩
 have HH := hid h
 have HW := hid hw4
 rw [hC] at HW ⊢
 clear h hw4 hC
 go_enter Tryz.func9, Tryz.ntmps9
 go_wp2_with (refine Rg.run rfl _ _ (run_alloc_tree _ _ _ (w.heap.size + 2) (by simp) rfl) ?_)
 rw [← HW.out]
 refine HH.out.mono ?_
 rintro e w5 ⟨rfl, hB⟩
 obtain ⟨p5, hO5, hE5⟩ := hB.end_ (w6 := w5) (c := c) (by omega)
 have HO5 := hid hO5
 have HE5 := hid hE5
 clear hB hO5 hE5 HH HW hmf
 go_wp2_with (first
  | (refine Rg.run rfl _ _ (op_load_tree (own_cell (j := 0) HO5.out rfl) ⟨_, rfl, rfl⟩) ?_)
  | (refine wpl_store_tree HO5.out (by simp) p5 rfl _ _ rfl rfl rfl ?_; intro w6 hO6 hu6; have HO6 := hid hO6; have HU6 := hid hu6; clear hO6 hu6))
 exact bodyPost_ret (res_tree1 (q := 4) (u := 5) rfl _ rfl HO6.out) rfl (HE5.out w6 HU6.out)
theorem put_core (M : Mp) (p : Option Addr) (k : List UInt8) (v : ByteArray) (hv0 : v.size ≠ 0) (hv1 : v.size ≤ 65552) (R : T) (c : Int) (w w4 : World) (hw4 : w4 = (((w.alloc (.cells #[.pointer p] 25)).alloc (.cells (kc k) 28)).alloc (.cells #[.string v] 9)).alloc (.cells #[.pointer none] 25))
  (h : Calls Tryz.prog 30 #[.func (.func 36) #[] #[.pointer (some ⟨w.heap.size, 0, none⟩), .pointer (some ⟨w.heap.size + 1, 0, none⟩), .pointer (some ⟨w.heap.size + 2, 0, none⟩), .pointer (some ⟨w.heap.size + 3, 0, none⟩)]] w4 fun e w' => e = .returned (.int .i64 c) ∧ InBox M w (w.heap.size + 3) R w') :
  Calls Tryz.prog 13 #[.agg #[.pointer p], .agg (kc k), .string v] w (GotTE M w R c) := by
 have hmf : ∀ (fn : Fn) (first cap : Array Value) (w : World), (Instr.makeFunc fn first cap).run Tryz.prog w = .ok (.func fn first cap) w := fun _ _ _ _ => rfl
 have hne := Ni.not_empty (s := v) (by omega)
 have hd : decide ((65552 : Int) < (v.size : Int)) = false := by simp; omega
 obtain ⟨C, hC⟩ : ∃ C, kc k = C := ⟨_, rfl⟩
 have HH := hid h
 have HW := hid hw4
 rw [hC] at HW ⊢
 clear h hw4 hC
 go_enter Tryz.func13, Tryz.ntmps13
 go_wp2_with (first
  | (refine Rg.run rfl _ _ (run_alloc_tree _ _ _ (w.heap.size + 3) (by simp) rfl) ?_)
  | (refine Rg.run rfl _ _ (op_load_str (s := v) (by simp) ⟨_, rfl, rfl⟩) ?_)
  | (refine Rg.runW (by rfl) _ _ (op_load_str (s := v) (by simp) ⟨_, rfl, rfl⟩) ?_))
 rw [← HW.out]
 refine HH.out.mono ?_
 rintro e w5 ⟨rfl, hB⟩
 obtain ⟨p5, hO5, hE5⟩ := hB.end_ (w6 := w5) (c := c) (by omega)
 have HO5 := hid hO5
 have HE5 := hid hE5
 clear hB hO5 hE5 HH HW hmf
 go_wp2_with (first
  | (refine Rg.run rfl _ _ (op_load_tree (own_cell (j := 0) HO5.out rfl) ⟨_, rfl, rfl⟩) ?_)
  | (refine wpl_store_tree HO5.out (by simp) p5 rfl _ _ rfl rfl rfl ?_; intro w6 hO6 hu6; have HO6 := hid hO6; have HU6 := hid hu6; clear hO6 hu6))
 exact bodyPost_ret (res_tree1 (q := 6) (u := 7) rfl _ rfl HO6.out) rfl (HE5.out w6 HU6.out)
theorem del_any (M : Mp) (p : Option Addr) (t : T) (k : List UInt8) (hk : k.length = 32) (w : World) (hi : Inv M w) (ht : IsT M p t) (hg : Tr.Good t 64) (hfull : Tr.Full t) :
  (Tr.get t (path k) = some none → Calls Tryz.prog 9 #[.agg #[.pointer p], .agg (kc k)] w (GotTE M w .nil 7)) ∧
  ((∃ u, Tr.get t (path k) = some (some u)) → Calls Tryz.prog 9 #[.agg #[.pointer p], .agg (kc k)] w (GotTE M w (del t (path k)) 0)) := by
 obtain ⟨w4, hw4', hO0, hO1, hOr, hb4, hs4⟩ := enterG w p (kc k) #[.pointer none] 25
 have hE : Rg.Own (w4.alloc (.cells #[.int .i64 0] 34)) w4.heap.size #[.int .i64 0] 34 := Rg.Own.new _ _ _
 have hA := al1 w4 (.cells #[.int .i64 0] 34)
 obtain ⟨wc, hwc⟩ : ∃ wc, w4.alloc (.cells #[.int .i64 0] 34) = wc := ⟨_, rfl⟩
 rw [hwc] at hE hA
 have hbc := bst hb4 hA
 have hic := hi.below hbc
 have hpl : (path k).length = 64 := by rw [Tr.path_length, hk]
 have hD : ∀ wx, (callFunc 31 #[.pointer (some ⟨w.heap.size, 0, none⟩), .pointer (some ⟨w.heap.size + 1, 0, none⟩), .pointer (some ⟨w.heap.size + 2, 0, none⟩)]).run Tryz.prog wx = .ok (.enter 31 #[.pointer (some ⟨w.heap.size, 0, none⟩), .pointer (some ⟨w.heap.size + 1, 0, none⟩), .pointer (some ⟨w.heap.size + 2, 0, none⟩)]) wx := by intro wx; kernel_rfl
 refine ⟨fun hget => ?_, fun ⟨u, hget⟩ => ?_⟩
 ·refine del_core M p k .nil 7 w w4 hw4' ((Tk.caught_err 31 _ hD w4 7 (fun w' => Below wc.heap.size wc w') (by
   rw [hwc]
   refine (del1_err p k hk _ _ (w.heap.size + 2) 7 wc (hO0.below hA) (hO1.below hA) (by omega) (by omega) (fun w5 hb5 a5 n5 c5 hx => ?_)).mono ?_
   ·exact (without_any t (plus M (inS a5 n5)) w5 p a5 n5 c5 (path k) ((hic.below hb5).plus (fun k hk => (inS_byte hx hk).2)) (isT_plus ht) (Bs.in_ hx) (by rw [hpl]; exact hg) hfull (path_nib k) (by omega)).1 hget
   rintro e w' ⟨rfl, hb⟩
   exact ⟨rfl, own_one' (hE.below hb), hb⟩)).mono ?_)
  rintro e w' ⟨rfl, w1, hb, rfl⟩
  have hu2 := upd_setCell w1 w4.heap.size 0 (.int .i64 7)
  have hbw := hu2.below (bst hbc hb) (by omega)
  exact ⟨rfl, none, M, ((hOr.below hA).below hb).upd hu2 (by omega), rfl, Fr.below M hbw, hi.below hbw, hbw, hi.free (by omega)⟩
 ·refine del_core M p k (del t (path k)) 0 w w4 hw4' ((Tk.caught_ok 31 _ hD w4 (fun w' => ∃ p' M' w6, IsT M' p' (del t (path k)) ∧ St M wc M' w6 ∧ Rg.Upd w6 (w.heap.size + 2) w' ∧ Rg.Own w' (w.heap.size + 2) #[.pointer p'] 25) (by
   rw [hwc]
   refine (del1_ok p k hk _ _ (w.heap.size + 2) wc (hO0.below hA) (hO1.below hA) (by omega) (by omega) (hOr.below hA) M hic (del t (path k)) (fun w5 hb5 a5 n5 c5 hx => ?_)).mono ?_
   ·exact (without_any t (plus M (inS a5 n5)) w5 p a5 n5 c5 (path k) ((hic.below hb5).plus (fun k hk => (inS_byte hx hk).2)) (isT_plus ht) (Bs.in_ hx) (by rw [hpl]; exact hg) hfull (path_nib k) (by omega)).2 u hget
   rintro e w' ⟨rfl, p', M', w6, h1, h2, h3, h4⟩
   exact ⟨rfl, own_one' ((hE.below h2.b).upd h3 (by omega)), p', M', w6, h1, h2, h3, h4⟩)).mono ?_)
  rintro e w' ⟨rfl, w1, ⟨p', M', w6, h1, h2, h3, h4⟩, rfl⟩
  exact ⟨rfl, in_box hi hbc h1 h2 h3 h4 (hOr.below hA) hE (one_int _) (by omega) (by omega) (by omega) rfl _⟩
theorem put_any (M : Mp) (p : Option Addr) (t : T) (k : List UInt8) (hk : k.length = 32) (v : ByteArray) (hv0 : v.size ≠ 0) (hv1 : v.size ≤ 65552) (w : World) (hi : Inv M w) (ht : IsT M p t) (hg : Tr.Good t 64) :
  (Tr.get t (path k) = none → Calls Tryz.prog 13 #[.agg #[.pointer p], .agg (kc k), .string v] w (GotTE M w .nil 8)) ∧
  (Tr.get t (path k) ≠ none → Calls Tryz.prog 13 #[.agg #[.pointer p], .agg (kc k), .string v] w (GotTE M w (put t (path k) v) 0)) := by
 obtain ⟨w3, hw3, hO0, hO1, hO2, hb3, hs3⟩ := enterG w p (kc k) #[.string v] 9
 obtain ⟨w4, hw4⟩ : ∃ w4, w4 = w3.alloc (.cells #[.pointer none] 25) := ⟨_, rfl⟩
 have hb34 : Below w3.heap.size w3 w4 := by rw [hw4]; exact al1 _ _
 have hOr : Rg.Own w4 (w.heap.size + 3) #[.pointer none] 25 := by rw [hw4, ← hs3]; exact Rg.Own.new _ _ _
 have hs4 : w4.heap.size = w.heap.size + 4 := by rw [hw4]; simp [hs3]
 have hb4 := bst hb3 hb34
 replace hO0 := hO0.below hb34
 replace hO1 := hO1.below hb34
 replace hO2 := hO2.below hb34
 have hw4' := hw4
 rw [hw3] at hw4'
 have hE : Rg.Own (w4.alloc (.cells #[.int .i64 0] 34)) w4.heap.size #[.int .i64 0] 34 := Rg.Own.new _ _ _
 have hA := al1 w4 (.cells #[.int .i64 0] 34)
 obtain ⟨wc, hwc⟩ : ∃ wc, w4.alloc (.cells #[.int .i64 0] 34) = wc := ⟨_, rfl⟩
 rw [hwc] at hE hA
 have hbc := bst hb4 hA
 have hic := hi.below hbc
 have hpl : (path k).length = 64 := by rw [Tr.path_length, hk]
 have hD : ∀ wx, (callFunc 36 #[.pointer (some ⟨w.heap.size, 0, none⟩), .pointer (some ⟨w.heap.size + 1, 0, none⟩), .pointer (some ⟨w.heap.size + 2, 0, none⟩), .pointer (some ⟨w.heap.size + 3, 0, none⟩)]).run Tryz.prog wx = .ok (.enter 36 #[.pointer (some ⟨w.heap.size, 0, none⟩), .pointer (some ⟨w.heap.size + 1, 0, none⟩), .pointer (some ⟨w.heap.size + 2, 0, none⟩), .pointer (some ⟨w.heap.size + 3, 0, none⟩)]) wx := by intro wx; kernel_rfl
 refine ⟨fun hget => ?_, fun hget => ?_⟩
 ·refine put_core M p k v hv0 hv1 .nil 8 w w4 hw4' ((Tk.caught_err 36 _ hD w4 8 (fun w' => Below wc.heap.size wc w') (by
   rw [hwc]
   refine (put1_err p k hk _ _ (w.heap.size + 3) _ v 8 wc (hO0.below hA) (hO1.below hA) (by omega) (by omega) (hO2.below hA) (by omega) (fun w5 hb5 a5 n5 c5 hx => ?_)).mono ?_
   ·exact (with_any t (plus M (inS a5 n5)) w5 p a5 n5 c5 (path k) v ((hic.below hb5).plus (fun k hk => (inS_byte hx hk).2)) (isT_plus ht) (Bs.in_ hx) (by rw [hpl]; exact hg) (path_nib k) (by omega)).1 hget
   rintro e w' ⟨rfl, hb⟩
   exact ⟨rfl, own_one' (hE.below hb), hb⟩)).mono ?_)
  rintro e w' ⟨rfl, w1, hb, rfl⟩
  have hu2 := upd_setCell w1 w4.heap.size 0 (.int .i64 8)
  have hbw := hu2.below (bst hbc hb) (by omega)
  exact ⟨rfl, none, M, ((hOr.below hA).below hb).upd hu2 (by omega), rfl, Fr.below M hbw, hi.below hbw, hbw, hi.free (by omega)⟩
 ·refine put_core M p k v hv0 hv1 (put t (path k) v) 0 w w4 hw4' ((Tk.caught_ok 36 _ hD w4 (fun w' => ∃ p' M' w6, IsT M' p' (put t (path k) v) ∧ St M wc M' w6 ∧ Rg.Upd w6 (w.heap.size + 3) w' ∧ Rg.Own w' (w.heap.size + 3) #[.pointer p'] 25) (by
   rw [hwc]
   refine (put1_ok p k hk _ _ (w.heap.size + 3) _ v wc (hO0.below hA) (hO1.below hA) (by omega) (by omega) (hOr.below hA) M hic (put t (path k) v) (fun w5 hb5 a5 n5 c5 hx => ?_) (hO2.below hA) (by omega)).mono ?_
   ·exact (with_any t (plus M (inS a5 n5)) w5 p a5 n5 c5 (path k) v ((hic.below hb5).plus (fun k hk => (inS_byte hx hk).2)) (isT_plus ht) (Bs.in_ hx) (by rw [hpl]; exact hg) (path_nib k) (by omega)).2 hget
   rintro e w' ⟨rfl, p', M', w6, h1, h2, h3, h4⟩
   exact ⟨rfl, own_one' ((hE.below h2.b).upd h3 (by omega)), p', M', w6, h1, h2, h3, h4⟩)).mono ?_)
  rintro e w' ⟨rfl, w1, ⟨p', M', w6, h1, h2, h3, h4⟩, rfl⟩
  exact ⟨rfl, in_box hi hbc h1 h2 h3 h4 (hOr.below hA) hE (one_int _) (by omega) (by omega) (by omega) rfl _⟩
end Tm
end
end Go.Proofs.YtgolhnfkmmajpaaGreatDoor
