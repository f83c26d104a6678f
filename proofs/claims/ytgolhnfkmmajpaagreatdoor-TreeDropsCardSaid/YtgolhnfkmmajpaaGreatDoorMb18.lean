/-
 The contract of top: the node at a tree's root.
-/
import Derived.Test.YtgolhnfkmmajpaaGreatDoorMb17
import Derived.Test.YtgolhnfkmmajpaaGreatDoorMb7
import Derived.Test.YtgolhnfkmmajpaaGreatDoorMb16
import Derived.Test.YtgolhnfkmmajpaaGreatDoorMb4
import Derived.Test.YtgolhnfkmmajpaaGreatDoorRows
import Derived.WalkKit
import Derived.Lib.Hide
import Derived.Below
import Derived.Tactics
import Derived.Tactics2
import Derived.Defers
import Derived.Laws.Pointers
import Derived.Laws.LoneSync
import Derived.RegionTactic
import Derived.RegionCalls
import Derived.ChangeAlike
import Derived.Laws.NewBlocks
import Derived.Test.YtgolhnfkmmajpaaGreatDoorMb3
open Go.Lib (hid)
set_option linter.unusedSimpArgs false
set_option linter.unusedVariables false
set_option maxHeartbeats 40000000
set_option maxRecDepth 100000
namespace Go.Proofs.YtgolhnfkmmajpaaGreatDoor
section
open Go.RowKit
namespace Tm
open Tr Rf Rl Ni No Pk Sm
def TopPost (M : Mp) (t : T) (w : World) (e : Ending) (w' : World) : Prop := ∃ a n c, e = .returned (.agg (ndC (nodeT t) a n c)) ∧ IsBs w' a n c (nodeT t).p ∧ FrN M (sz t) w w' ∧ InvN M (sz t) w'
def RefC (t : T) : Prop := ∀ (M : Mp) (w : World) (p : Option Addr), InvN M (sz t + 1) w → IsT M p t → Tab w → Calls Tryz.prog 20 #[.agg #[.pointer p]] w fun e w' => e = .returned (.string (ref t)) ∧ FrN M (sz t + 1) w w' ∧ InvN M (sz t + 1) w'
theorem nd_no (N : Nd) (a : Option Addr) (n c : Nat) : ∀ (j : Nat) (x : Int), (ndC N a n c)[j]? ≠ some (Value.int .u8 x) := fun j x h => by
 unfold ndC at h
 match j, h with
 | 0, h => simp at h
 | 1, h => simp at h
 | 2, h => simp at h
 | j + 3, h => simp at h
theorem enterT (w : World) (p : Option Addr) : ∃ w2, w2 = (w.alloc (.cells #[.pointer p] 25)).alloc (.cells (ndC nd0 none 0 0) 58) ∧ Rg.Own w2 w.heap.size #[.pointer p] 25 ∧ OwnN w2 (w.heap.size + 1) nd0 none 0 0 ∧ Below w.heap.size w w2 ∧ w2.heap.size = w.heap.size + 2 := by
 refine ⟨_, rfl, (Rg.Own.new _ _ _).below (al1 _ _), ?_, al2 _ _ _, by simp⟩
 have := Rg.Own.new (w.alloc (.cells #[.pointer p] 25)) (ndC nd0 none 0 0) 58
 simpa using this
theorem top_leaf (M : Mp) (b : Nat) (q : Pa) (v : ByteArray) (hm : M.at_ b = some (.leaf q v)) (w : World) (hi : InvN M 1 w) (pa : Option Addr) (pn pc : Nat) (ka : Option Addr) (kn kc : Nat) (hB : Body M w b (.leaf q v) pa pn pc ka kn kc) (hq : q.length ≤ 64) :
  Calls Tryz.prog 39 #[.agg #[.pointer (some ⟨b, 0, none⟩)]] w (TopPost M (.leaf q v) w) := by
 obtain ⟨w2, hw2, hO0, hO1, hb2, hs2⟩ := enterT w (some ⟨b, 0, none⟩)
 have hB2 := hB.below hb2
 have h0 := own_cell (j := 0) hO0 rfl
 have hlb := hi.lt_ b (hi.part_ b _ hm).2.1
 have hpn : q.length = pn := hB.hb.len
 have HK := hid (kind_cell b 1 w2 hB2.c0)
 have HC' : Hid (∀ w3, Below w2.heap.size w2 w3 → (w3.cell? ⟨w.heap.size, 0, none⟩ = some (.pointer (some ⟨b, 0, none⟩)) ∧ w3.cell? ⟨b, 1, none⟩ = some (.slice pa pn pc) ∧ w3.cell? ⟨b, 2, none⟩ = some (.string v)) ∧
   (∀ wx, Below w3.heap.size w3 wx → Calls Tryz.prog 72 #[.slice pa pn pc, .string v] wx (GotNd wx ⟨1, q, v, zks⟩)) ∧
   (∀ w6, Below w3.heap.size w3 w6 → ∀ a6 n6 c6, IsBs w6 a6 n6 c6 q → OwnN w6 (w.heap.size + 1) nd0 none 0 0 ∧ ∀ w10, Rg.Upd w6 (w.heap.size + 1) w10 → TopPost M (.leaf q v) w (.returned (.agg (ndC ⟨1, q, v, zks⟩ a6 n6 c6))) w10)) := hid (fun w3 hb3 =>
  ⟨⟨cell_on hb3 h0, cell_on hb3 hB2.c1, cell_on hb3 hB2.c2⟩, fun wx hbx => No.leaf_any pa pn pc q (by omega) v wx (hB2.hb.below (bst hb3 hbx)), fun w6 hb6 a6 n6 c6 hx => by
   have hO6 := hO1.below (bst hb3 hb6)
   have hbw := bst hb2 (bst hb3 hb6)
   refine ⟨hO6, fun w10 hu => ⟨a6, n6, c6, rfl, isBs_upd hx (no_byte hO6 (nd_no _ _ _ _)) hu, (FrN.below M _ hbw).upd hu (by omega), (hi.below hbw).upd hu (fun e => by have := hi.lt_ _ e; omega)⟩⟩⟩)
 have H0 := hid hO0
 clear hO0 hO1 hb2 hs2 hB hB2 h0 hi hm hpn hq
 subst hw2
 go_enter Tryz.func39, Tryz.ntmps39
 go_wp2_with (first | (refine Rg.run rfl _ _ (run_alloc_nd _ _ _ (w.heap.size + 1) (by simp) rfl) ?_) | (refine Rg.run rfl _ _ (op_load_tree (own_cell (j := 0) H0.out rfl) ⟨_, rfl, rfl⟩) ?_))
 refine HK.out.mono ?_
 rintro e w3 ⟨rfl, hb3⟩
 obtain ⟨⟨d0, d1, d2⟩, HC, HF⟩ := HC'.out w3 hb3
 replace HC := hid HC
 replace HF := hid HF
 clear hb3 HC' HK H0
 go_wp2_with fail
 refine wp_region_noPanic ?_
 refine wp_region_held_drew (S := fun w' => Bo (w.heap.size + 1) w3 w') (by kernel_rfl) (Bo.of (below_drewN (Below.refl _ _) 1)) (fun hld => ?_)
 refine Rg.tk (i := 0) rfl ?_
 try simp only [Act.put, Rg.s]
 refine Rg.tk (i := 1) rfl ?_ (hy := by intro wz hSw; have hcc := cell_bo hSw (by omega) d0; (try dsimp only at hSw); go_simp <;> with_reducible rfl)
 try simp only [Act.put, Rg.s]
 refine Rg.tk (i := 2) rfl ?_
 try simp only [Act.put, Rg.s]
 refine Rg.tk (i := 3) rfl ?_
 try simp only [Act.put, Rg.s]
 refine Rg.tk (i := 4) rfl ?_ (hy := by intro wz hSw; have hcc := cell_bo hSw (by omega) d1; (try dsimp only at hSw); go_simp <;> with_reducible rfl)
 try simp only [Act.put, Rg.s]
 refine Rg.tk (i := 5) rfl ?_
 try simp only [Act.put, Rg.s]
 refine Rg.tk (i := 6) rfl ?_ (hy := by intro wz hSw; have hcc := cell_bo hSw (by omega) d0; (try dsimp only at hSw); go_simp <;> with_reducible rfl)
 try simp only [Act.put, Rg.s]
 refine Rg.tk (i := 7) rfl ?_
 try simp only [Act.put, Rg.s]
 refine Rg.tk (i := 8) rfl ?_
 try simp only [Act.put, Rg.s]
 refine Rg.tk (i := 9) rfl ?_ (hy := by intro wz hSw; have hcc := cell_bo hSw (by omega) d2; (try dsimp only at hSw); go_simp <;> with_reducible rfl)
 try simp only [Act.put, Rg.s]
 refine Rg.rd (i := 10) rfl fun K hK => ?_
 go_simp
 go_at_call 72
 (with_reducible refine (HC.out w3.drew (below_drewN (Below.refl _ _) 1)).mono ?_)
 intro e w6 hG
 obtain ⟨a6, n6, c6, rfl, hB6, hl6, hb6⟩ := hG
 have HL6 := hid hl6
 have H6 := hid (HF.out w6 (bst (below_drewN (Below.refl _ _) 1) hb6) a6 n6 c6 hB6.1)
 have hB36 : Below w3.heap.size w3 w6 := bst (below_drewN (Below.refl _ _) 1) hb6
 have HO6 := hid H6.out.1
 clear hl6 hb6 hB6
 refine hK.out _ _ ?_ (fun hld => ?_)
 ·exact Bo.of hB36
 clear hK K
 try simp only [Act.put, Rg.s]
 refine Rg.rd (i := 11) rfl fun K hK => ?_
 refine Rg.meetStore (by rfl) HO6.out 58 (ndC ⟨1, q, v, zks⟩ a6 n6 c6) ⟨_, _, rfl, rfl, rfl⟩ (info_ndC _ _ _ _ HL6.out) (by rw [ndC_size _ _ _ _ zks_length, ndC_size _ _ _ _ HL6.out]) (ndC_one _ _ _ _) ?_
 intro w10 hO10 hu10
 have HO10 := hid hO10
 have H10 := hid (H6.out.2 w10 hu10)
 clear hO10
 refine hK.out _ _ ?_ (fun hld => ?_)
 ·exact (Bo.of hB36).upd hu10
 clear hK K
 try simp only [Act.put, Rg.s]
 refine wpAnyH_done (by kernel_rfl) ?_ _
 refine NoPanic.normal ?_
 go_wp2
 exact bodyPost_ret (res_nd rfl _ rfl HO10.out HL6.out) rfl H10.out
theorem top_ext (M : Mp) (b : Nat) (q : Pa) (s : T) (hm : M.at_ b = some (.ext q s)) (w : World) (hi : InvN M (sz s + 1) w) (pa : Option Addr) (pn pc : Nat) (ka : Option Addr) (kn kc : Nat) (hB : Body M w b (.ext q s) pa pn pc ka kn kc) (hq : q.length ≤ 64) (hT : Tab w) (hR : RefC s) :
  Calls Tryz.prog 39 #[.agg #[.pointer (some ⟨b, 0, none⟩)]] w (TopPost M (.ext q s) w) := by
 obtain ⟨w2, hw2, hO0, hO1, hb2, hs2⟩ := enterT w (some ⟨b, 0, none⟩)
 have hB2 := hB.below hb2
 have hi2 := hi.below hb2
 have h0 := own_cell (j := 0) hO0 rfl
 have hlb := hi.lt_ b (hi.part_ b _ hm).2.1
 have hpn : q.length = pn := hB.hb.len
 obtain ⟨kb, ko, p0, rfl, hklt, hkf, hk0, hT0⟩ := hB2.hk.at' 0 (by rw [← hB2.hk.len]; exact Nat.one_pos)
 have hkn : kn = 1 := hB2.hk.len.symm
 have hkc := hB2.hk.1
 have hkm := hB2.hk.2.1
 unfold maxLen at hkm
 rw [Nat.add_zero] at hk0
 have hT0' : IsT M p0 s := hT0
 have hkbl := hi.lt_ kb hkf
 have HK := hid (kind_cell b 2 w2 hB2.c0)
 have h0w := hT.pos
 have HC' : Hid (∀ w3, Below w2.heap.size w2 w3 → (w3.cell? ⟨w.heap.size, 0, none⟩ = some (.pointer (some ⟨b, 0, none⟩)) ∧ w3.cell? ⟨b, 1, none⟩ = some (.slice pa pn pc) ∧ w3.cell? ⟨b, 3, none⟩ = some (.slice (some ⟨kb, ko, none⟩) kn kc) ∧ w3.cell? ⟨kb, ko, none⟩ = some (.pointer p0)) ∧
   Calls Tryz.prog 20 #[.agg #[.pointer p0]] w3.drew (fun e w' => e = .returned (.string (ref s)) ∧ FrN M (sz s + 1) w3.drew w' ∧ InvN M (sz s + 1) w') ∧
   ∀ w5, FrN M (sz s + 1) w3.drew w5 → InvN M (sz s + 1) w5 → (((w5.cell? ⟨w.heap.size, 0, none⟩ = some (.pointer (some ⟨b, 0, none⟩)) ∧ w5.cell? ⟨b, 1, none⟩ = some (.slice pa pn pc)) ∧ w5.cell? ⟨b, 3, none⟩ = some (.slice (some ⟨kb, ko, none⟩) kn kc)) ∧ w5.cell? ⟨kb, ko, none⟩ = some (.pointer p0)) ∧
    Calls Tryz.prog 73 #[.slice pa pn pc, .string (ref s)] w5 (GotNd w5 ⟨2, q, eB, ref s :: List.replicate 15 eB⟩) ∧
    ∀ w6, Below w5.heap.size w5 w6 → ∀ a6 n6 c6, IsBs w6 a6 n6 c6 q → (((w6.cell? ⟨w.heap.size, 0, none⟩ = some (.pointer (some ⟨b, 0, none⟩)) ∧ w6.cell? ⟨b, 1, none⟩ = some (.slice pa pn pc)) ∧ w6.cell? ⟨b, 3, none⟩ = some (.slice (some ⟨kb, ko, none⟩) kn kc)) ∧ w6.cell? ⟨kb, ko, none⟩ = some (.pointer p0)) ∧ OwnN w6 (w.heap.size + 1) nd0 none 0 0 ∧
     ∀ w10, Rg.Upd w6 (w.heap.size + 1) w10 → (((w10.cell? ⟨w.heap.size, 0, none⟩ = some (.pointer (some ⟨b, 0, none⟩)) ∧ w10.cell? ⟨b, 1, none⟩ = some (.slice pa pn pc)) ∧ w10.cell? ⟨b, 3, none⟩ = some (.slice (some ⟨kb, ko, none⟩) kn kc)) ∧ w10.cell? ⟨kb, ko, none⟩ = some (.pointer p0)) ∧ TopPost M (.ext q s) w (.returned (.agg (ndC ⟨2, q, eB, one16 (ref s)⟩ a6 n6 c6))) w10) := hid (fun w3 hb3 => by
  have hb3d : Below w2.heap.size w2 w3.drew := hb3.drew
  have hi3 : InvN M (sz s + 1) w3.drew := hi2.below hb3d
  have e0 := cell_on hb3d h0
  have e1 := cell_on hb3d hB2.c1
  have e3 := cell_on hb3d hB2.c3
  have ek := cell_on hb3d hk0
  have ne : M.at_ b = none ∨ ∃ t, M.at_ b = some t ∧ sz s + 1 ≤ sz t := Or.inr ⟨_, hm, Nat.le_refl _⟩
  have hT3 : Tab w3.drew := hT.below (bst hb2 hb3d) h0w
  refine ⟨⟨e0, e1, e3, ek⟩, hR M _ p0 hi3 hT0' hT3, fun w5 hf5 hi5 => ?_⟩
  have g0 := hf5.cell e0 (Or.inl (hi3.no_ptr e0))
  have g1 := hf5.cell e1 ne
  have g3 := hf5.cell e3 ne
  have gk := hf5.cell ek (Or.inl (hi3.no_ptr ek))
  have hP5 := isBs_frN hi3 (hB2.hb.below hb3d) hf5
  have hg1 : M.at_ (w.heap.size + 1) = none := by
   cases hmm : M.at_ (w.heap.size + 1) with
   | none => rfl
   | some t => exact absurd (hi.lt_ _ (hi.part_ _ t hmm).2.1) (by omega)
  have hO5 : OwnN w5 (w.heap.size + 1) nd0 none 0 0 := ⟨Nat.lt_of_lt_of_le (hO1.below hb3d).1 hf5.size, (hf5.block _ (hO1.below hb3d).1 (Or.inl hg1)).trans (hO1.below hb3d).2⟩
  refine ⟨⟨⟨⟨g0, g1⟩, g3⟩, gk⟩, No.ext_any pa pn pc q (by omega) (ref s) w5 hP5, fun w6 hb6 a6 n6 c6 hx => ?_⟩
  have hO6 := hO5.below hb6
  refine ⟨⟨⟨⟨cell_on hb6 g0, cell_on hb6 g1⟩, cell_on hb6 g3⟩, cell_on hb6 gk⟩, hO6, fun w10 hu => ?_⟩
  have hc : ∀ (b' o : Nat) (v : Value), b' ≠ w.heap.size + 1 → w6.cell? ⟨b', o, none⟩ = some v → w10.cell? ⟨b', o, none⟩ = some v := fun b' o v hne h => by
   rw [← h]; exact World.cell?_of_block (w := w6) (hu.block b' hne)
  have hfw : FrN M (sz s + 1) w w6 := ((FrN.below M _ (bst hb2 hb3d)).trans hf5).trans (FrN.below M _ hb6)
  exact ⟨⟨⟨⟨hc _ _ _ (by omega) (cell_on hb6 g0), hc _ _ _ (by omega) (cell_on hb6 g1)⟩, hc _ _ _ (by omega) (cell_on hb6 g3)⟩, hc _ _ _ (by omega) (cell_on hb6 gk)⟩,
   a6, n6, c6, rfl, isBs_upd hx (no_byte hO6 (nd_no _ _ _ _)) hu, hfw.upd hu (by omega), (hi5.below hb6).upd hu (fun e => by have := hi.lt_ _ e; omega)⟩)
 have H0 := hid hO0
 clear hO0 hO1 hb2 hs2 hB hB2 h0 hi hi2 hm hpn hq hT hR h0w hk0 hT0 hT0' hkf hklt
 subst hw2
 go_enter Tryz.func39, Tryz.ntmps39
 go_wp2_with (first | (refine Rg.run rfl _ _ (run_alloc_nd _ _ _ (w.heap.size + 1) (by simp) rfl) ?_) | (refine Rg.run rfl _ _ (op_load_tree (own_cell (j := 0) H0.out rfl) ⟨_, rfl, rfl⟩) ?_))
 refine HK.out.mono ?_
 rintro e w3 ⟨rfl, hb3⟩
 obtain ⟨⟨d0, d1, d3, dk⟩, HC, HF⟩ := HC'.out w3 hb3
 replace HC := hid HC
 replace HF := hid HF
 clear hb3 HC' HK H0
 go_wp2_with fail
 refine wp_region_noPanic ?_
 refine wp_region_held_drew (S := fun w' => ((w'.cell? ⟨w.heap.size, 0, none⟩ = some (.pointer (some ⟨b, 0, none⟩)) ∧ w'.cell? ⟨b, 1, none⟩ = some (.slice pa pn pc)) ∧ w'.cell? ⟨b, 3, none⟩ = some (.slice (some ⟨kb, ko, none⟩) kn kc)) ∧ w'.cell? ⟨kb, ko, none⟩ = some (.pointer p0)) (by kernel_rfl) (⟨⟨⟨d0, d1⟩, d3⟩, dk⟩) (fun hld => ?_)
 refine Rg.tk (i := 0) rfl ?_
 try simp only [Act.put, Rg.s]
 refine Rg.tk (i := 1) rfl ?_ (hy := by intro wz hSw; have hcc := hSw.1.1.1; (try dsimp only at hSw); go_simp <;> with_reducible rfl)
 try simp only [Act.put, Rg.s]
 refine Rg.tk (i := 2) rfl ?_
 try simp only [Act.put, Rg.s]
 refine Rg.tk (i := 3) rfl ?_
 try simp only [Act.put, Rg.s]
 refine Rg.tk (i := 4) rfl ?_ (hy := by intro wz hSw; have hcc := hSw.1.1.2; (try dsimp only at hSw); go_simp <;> with_reducible rfl)
 try simp only [Act.put, Rg.s]
 refine Rg.tk (i := 5) rfl ?_
 try simp only [Act.put, Rg.s]
 refine Rg.tk (i := 6) rfl ?_ (hy := by intro wz hSw; have hcc := hSw.1.1.1; (try dsimp only at hSw); go_simp <;> with_reducible rfl)
 try simp only [Act.put, Rg.s]
 refine Rg.tk (i := 7) rfl ?_
 try simp only [Act.put, Rg.s]
 refine Rg.tk (i := 8) rfl ?_
 try simp only [Act.put, Rg.s]
 refine Rg.tk (i := 9) rfl ?_ (hy := by intro wz hSw; have hcc := hSw.1.2; (try dsimp only at hSw); go_simp <;> with_reducible rfl)
 try simp only [Act.put, Rg.s]
 refine Rg.tk (i := 10) rfl ?_
 try simp only [Act.put, Rg.s]
 refine Rg.tk (i := 11) rfl ?_ (hy := by intro wz hSw; (refine op_load_tree hSw.2 ?_; exact ⟨_, rfl, rfl⟩))
 try simp only [Act.put, Rg.s]
 refine Rg.rd (i := 12) rfl fun K hK => ?_
 go_simp
 go_at_call 20
 (with_reducible refine HC.out.mono ?_)
 rintro e w5 ⟨rfl, hf5, hi5⟩
 obtain ⟨hS5, H5⟩ := HF.out w5 hf5 hi5
 replace H5 := hid H5
 clear hf5 hi5
 refine hK.out _ _ ?_ (fun hld => ?_)
 ·exact hS5
 clear hK K
 try simp only [Act.put, Rg.s]
 refine Rg.rd (i := 13) rfl fun K hK => ?_
 go_simp
 go_at_call 73
 (with_reducible refine (H5.out.1).mono ?_)
 intro e w6 hG
 obtain ⟨a6, n6, c6, rfl, hB6, hl6, hb6⟩ := hG
 have HL6 := hid hl6
 obtain ⟨hS6, hO6, H6'⟩ := H5.out.2 w6 hb6 a6 n6 c6 hB6.1
 have H6 := hid H6'
 have HO6 := hid hO6
 clear hl6 hb6 hB6 H6' hO6
 refine hK.out _ _ ?_ (fun hld => ?_)
 ·exact hS6
 clear hK K
 try simp only [Act.put, Rg.s]
 refine Rg.rd (i := 14) rfl fun K hK => ?_
 refine Rg.meetStore (by rfl) HO6.out 58 (ndC ⟨2, q, eB, ref s :: List.replicate 15 eB⟩ a6 n6 c6) ⟨_, _, rfl, rfl, rfl⟩ (info_ndC _ _ _ _ HL6.out) (by rw [ndC_size _ _ _ _ zks_length, ndC_size _ _ _ _ HL6.out]) (ndC_one _ _ _ _) ?_
 intro w10 hO10 hu10
 have HO10 := hid hO10
 obtain ⟨hS10, H10'⟩ := H6.out w10 hu10
 have H10 := hid H10'
 clear hO10 H10'
 refine hK.out _ _ ?_ (fun hld => ?_)
 ·exact hS10
 clear hK K
 try simp only [Act.put, Rg.s]
 refine wpAnyH_done (by kernel_rfl) ?_ _
 refine NoPanic.normal ?_
 go_wp2
 exact bodyPost_ret (res_nd rfl _ rfl HO10.out HL6.out) rfl H10.out
theorem top_none (p : Option Addr) (k : Int) (h1 : k ≠ 1) (h2 : k ≠ 2) (h3 : k ≠ 3) (w : World)
  (hK : ∀ wx, Below w.heap.size w wx → Calls Tryz.prog 42 #[.agg #[.pointer p]] wx fun e w' => e = .returned (.int .i64 k) ∧ Below wx.heap.size wx w') :
  Calls Tryz.prog 39 #[.agg #[.pointer p]] w fun e w' => e = .returned (.agg (ndC nd0 none 0 0)) ∧ Below w.heap.size w w' := by
 obtain ⟨w2, hw2, hO0, hO1, hb2, hs2⟩ := enterT w p
 have HK := hid (hK w2 hb2)
 have H3 : Hid (∀ w3, Below w2.heap.size w2 w3 → OwnN w3 (w.heap.size + 1) nd0 none 0 0 ∧ Below w.heap.size w w3) := hid (fun w3 hb3 => ⟨hO1.below hb3, bst hb2 hb3⟩)
 have H0 := hid hO0
 have e1 : (k == 1) = false := by simp [h1]
 have e2 : (k == 2) = false := by simp [h2]
 have e3 : (k == 3) = false := by simp [h3]
 clear hO0 hO1 hb2 hs2 hK h1 h2 h3
 subst hw2
 go_enter Tryz.func39, Tryz.ntmps39
 go_wp2_with (first | (refine Rg.run rfl _ _ (run_alloc_nd _ _ _ (w.heap.size + 1) (by simp) rfl) ?_) | (refine Rg.run rfl _ _ (op_load_tree (own_cell (j := 0) H0.out rfl) ⟨_, rfl, rfl⟩) ?_))
 refine HK.out.mono ?_
 rintro e w3 ⟨rfl, hb3⟩
 obtain ⟨hO3, hB3⟩ := H3.out w3 hb3
 have HO3 := hid hO3
 have HB3 := hid hB3
 clear hb3 H3 HK H0 hO3 hB3
 go_wp2_with (first
  | (refine Rg.run rfl _ _ (op_build built0 ⟨_, rfl, rfl⟩) ?_)
  | (refine wpl_store_nd HO3.out zks_length nd0 none 0 0 zks_length rfl _ _ rfl rfl rfl rfl ?_))
 exact bodyPost_ret (res_nd rfl _ rfl (own_rowN HO3.out) zks_length) rfl ⟨rfl, below_rowN HB3.out (by omega) _⟩
end Tm
end
section
open Go.RowKit
namespace Tm
open Tr Rf Rl Ni No Pk Sm
theorem store_str_at {w : World} {b o : Nat} {cs : Array Value} {t : TypeId} (h : Rg.Own w b cs t) (ho : o < cs.size) (s : ByteArray) : (Instr.storeAt 9 (.pointer (some ⟨b, o, none⟩)) (.string s)).run Tryz.prog w = .ok () (w.setCell ⟨b, o, none⟩ (.string s)) := by
 have hc : w.cell? ⟨b, o, none⟩ = some cs[o] := own_cell h (Array.getElem?_eq_getElem ho)
 have hz : w.frozen? ⟨b, o, none⟩ = false := own_free h
 simp [go_sem, hc, hz]
theorem kidC_set (ks : List ByteArray) (i : Nat) (x : ByteArray) : (kidC ks).setIfInBounds i (.string x) = kidC (ks.set i x) := by
 unfold kidC
 rw [List.map_set]
 simp
theorem wpl_store_kid {ops : Array Oper} {rest : List Oper} {o : Oper} {act : Act} {w : World} {Q : Exit → Act → World → Prop} {b i : Nat} {ks : List ByteArray} (h : OwnK w b ks) (hl : ks.length = 16) (hi : i < 16) (s : ByteArray)
  (hgd : o.guard = none) (x y : Operand) (ho : o.op = .store 9 x y) (hx : act.eval x = .pointer (some ⟨b, i, none⟩)) (hy : act.eval y = .string s)
  (hQ : ∀ w', OwnK w' b (ks.set i s) → Rg.Upd w b w' → wpList Tryz.prog ops Q rest (act.put o.dst undef) w') : wpList Tryz.prog ops Q (o :: rest) act w :=
 wpList_plain hgd fun K hK => by
  unfold Oper.wp execOp
  simp only [ho, hx, hy, Sem.run_bind, Sem.run_pure, Result.andThen_ok, store_str_at h (o := i) (by rw [kidC_size, hl]; exact hi) s]
  refine hK _ _ (hQ _ ?_ (upd_setCell _ _ _ _))
  have := own_setCell (o := i) h (.string s)
  rwa [kidC_set] at this
def firstR (l : List ByteArray) (j : Nat) : List ByteArray := l.take j ++ List.replicate (16 - j) eB
theorem firstR_length {l : List ByteArray} (hl : l.length = 16) {j : Nat} (hj : j ≤ 16) : (firstR l j).length = 16 := by
 unfold firstR
 rw [List.length_append, List.length_take, List.length_replicate, hl]
 omega
theorem firstR_set {l : List ByteArray} (hl : l.length = 16) {j : Nat} (hj : j < 16) : (firstR l j).set j (l.getD j eB) = firstR l (j + 1) := by
 unfold firstR
 have h1 : (l.take j).length = j := by rw [List.length_take, hl]; omega
 have h2 : List.replicate (16 - j) eB = eB :: List.replicate (16 - (j + 1)) eB := by
  rw [show 16 - j = (16 - (j + 1)) + 1 by omega, List.replicate_succ]
 have h3 : l.take (j + 1) = l.take j ++ [l.getD j eB] := by
  have e : l.getD j eB = l[j]'(by omega) := by simp [List.getD, hl, hj]
  rw [e, List.take_succ_eq_append_getElem (by omega)]
 rw [h2, h3, List.set_append_right _ _ (by omega), h1, Nat.sub_self, List.set_cons_zero, List.append_assoc]
 rfl
theorem firstR_all {l : List ByteArray} (hl : l.length = 16) : firstR l 16 = l := by
 unfold firstR
 rw [List.take_of_length_le (by omega)]
 simp
theorem firstR_none (l : List ByteArray) : firstR l 0 = zks := by
 unfold firstR
 simp [zks]
theorem InvN.none_at {M : Mp} {n : Nat} {w : World} (h : InvN M n w) {b : Nat} (hb : w.heap.size ≤ b) : M.at_ b = none := by
 cases hm : M.at_ b with
 | none => rfl
 | some t => exact absurd (h.lt_ b (h.part_ b t hm).2.1) (by omega)
theorem own_frN {M : Mp} {n : Nat} {w w' : World} {b : Nat} {cs : Array Value} {t : TypeId} (h : Rg.Own w b cs t) (f : FrN M n w w') (hb : M.at_ b = none) : Rg.Own w' b cs t := ⟨Nat.lt_of_lt_of_le h.1 f.size, (f.block b h.1 (Or.inl hb)).trans h.2⟩
theorem top_br (M : Mp) (b : Nat) (ks : Fin 16 → T) (hm : M.at_ b = some (.br ks)) (w : World) (hi : InvN M (sz (.br ks)) w) (pa : Option Addr) (pn pc : Nat) (ka : Option Addr) (kn kc : Nat) (hB : Body M w b (.br ks) pa pn pc ka kn kc) (hT : Tab w) (hR : ∀ i, RefC (ks i)) :
  Calls Tryz.prog 39 #[.agg #[.pointer (some ⟨b, 0, none⟩)]] w (TopPost M (.br ks) w) := by
 obtain ⟨w2, hw2, hO0, hO1, hb2, hs2⟩ := enterT w (some ⟨b, 0, none⟩)
 have hB2 := hB.below hb2
 have hi2 := hi.below hb2
 have h0 := own_cell (j := 0) hO0 rfl
 have hlb := hi.lt_ b (hi.part_ b _ hm).2.1
 have hkn : kn = 16 := by rw [← hB2.hk.len]; exact parts_br_len ks
 subst hkn
 obtain ⟨kb, ko, p0, rfl, hklt, hkf, hzz⟩ := hB2.hk.at' 0 (by omega)
 clear hzz
 have hkid : ∀ j (hj : j < 16), ∃ p, w2.cell? ⟨kb, ko + j, none⟩ = some (.pointer p) ∧ IsT M p (ks ⟨j, hj⟩) := fun j hj => by
  obtain ⟨b', o', p, e, _, _, hc, ht⟩ := hB2.hk.at' j hj
  obtain ⟨rfl, rfl⟩ : kb = b' ∧ ko = o' := by simpa using e
  refine ⟨p, hc, ?_⟩
  have := parts_br_at ks ⟨j, hj⟩
  rw [this] at ht
  exact ht
 have hkc := hB2.hk.1
 have hkm := hB2.hk.2.1
 unfold maxLen at hkm
 have hkbl := hi.lt_ kb hkf
 have h0w := hT.pos
 have hT2 := hT.below hb2 h0w
 have HK := hid (kind_cell b 3 w2 hB2.c0)
 obtain ⟨L, hL⟩ : ∃ L, (kids16 fun i => ref (ks i)) = L := ⟨_, rfl⟩
 have hLl : L.length = 16 := by rw [← hL]; exact kids16_length _
 have hLi : ∀ j (hj : j < 16), L.getD j eB = ref (ks ⟨j, hj⟩) := fun j hj => by
  rw [← hL]; exact kids16_getD (fun i => ref (ks i)) ⟨j, hj⟩
 have hg1 : M.at_ (w.heap.size + 1) = none := hi.none_at (by omega)
 have HA : Hid (∀ w3, Below w2.heap.size w2 w3 → (w3.cell? ⟨w.heap.size, 0, none⟩ = some (.pointer (some ⟨b, 0, none⟩)) ∧ w3.cell? ⟨b, 3, none⟩ = some (.slice (some ⟨kb, ko, none⟩) 16 kc)) ∧
   ((w3.alloc (.cells (kidC zks) 56)).cell? ⟨w.heap.size, 0, none⟩ = some (.pointer (some ⟨b, 0, none⟩)) ∧ (w3.alloc (.cells (kidC zks) 56)).cell? ⟨b, 3, none⟩ = some (.slice (some ⟨kb, ko, none⟩) 16 kc)) ∧
   M.at_ w3.heap.size = none ∧ w.heap.size + 1 < w3.heap.size ∧ OwnK (w3.alloc (.cells (kidC zks) 56)) w3.heap.size (firstR L 0) ∧ FrN M (sz (.br ks)) w2 (w3.alloc (.cells (kidC zks) 56)) ∧ InvN M (sz (.br ks)) (w3.alloc (.cells (kidC zks) 56))) := hid (fun w3 hb3 => by
  have hb4 := bst hb3 (al1 w3 (.cells (kidC zks) 56))
  have hsz := hb3.size
  refine ⟨⟨cell_on hb3 h0, cell_on hb3 hB2.c3⟩, ⟨cell_on hb4 h0, cell_on hb4 hB2.c3⟩, hi2.none_at (by omega), by omega, ?_, FrN.below M _ hb4, hi2.below hb4⟩
  rw [firstR_none]
  exact Rg.Own.new _ _ _)
 have HRd : Hid (∀ (bl : Nat) (wr : World), w2.heap.size ≤ bl → FrN M (sz (.br ks)) w2 wr → InvN M (sz (.br ks)) wr → ∀ j (hj : j < 16), OwnK wr bl (firstR L j) → ∃ p, wr.cell? ⟨kb, ko + j, none⟩ = some (.pointer p) ∧
   ∀ w5, Below wr.heap.size wr w5 → Calls Tryz.prog 20 #[.agg #[.pointer p]] w5 (fun e w' => e = .returned (.string (L.getD j eB)) ∧ FrN M (sz (.br ks)) w5 w' ∧ InvN M (sz (.br ks)) w') ∧
   ∀ w6, FrN M (sz (.br ks)) w5 w6 → InvN M (sz (.br ks)) w6 → OwnK w6 bl (firstR L j) ∧
   ∀ w7, OwnK w7 bl ((firstR L j).set j (L.getD j eB)) → Rg.Upd w6 bl w7 → OwnK w7 bl (firstR L (j + 1)) ∧ FrN M (sz (.br ks)) w2 w7 ∧ InvN M (sz (.br ks)) w7) := hid (fun bl wr hbl hf hir j hj hOK => by
  obtain ⟨p, hcp, htp⟩ := hkid j hj
  have hszk := sz_kid ks ⟨j, hj⟩
  refine ⟨p, hf.cell hcp (Or.inl (hi2.no_ptr hcp)), fun w5 hb5 => ?_⟩
  have hi5 := hir.below hb5
  have hTr := tab_frN hi2 hf hT2
  have hT5 := hTr.below hb5 hTr.pos
  refine ⟨(hR ⟨j, hj⟩ M w5 p (hi5.mono hszk) htp hT5).mono ?_, fun w6 hf6 hi6 => ?_⟩
  ·rintro e w' ⟨rfl, hfe, hie⟩
   exact ⟨by rw [hLi j hj], hfe.mono hszk, hi5.after hfe hie⟩
  ·have hOK6 : OwnK w6 bl (firstR L j) := own_frN (hOK.below hb5) hf6 (hi2.none_at hbl)
   refine ⟨hOK6, fun w7 hO7 hu => ⟨by rw [← firstR_set hLl hj]; exact hO7, ((hf.trans (FrN.below M _ hb5)).trans hf6).upd hu hbl, hi6.upd hu (fun e => by have := hi2.lt_ _ e; omega)⟩⟩)
 have HEnd : Hid (∀ (bl : Nat) (wr : World), FrN M (sz (.br ks)) w2 wr → InvN M (sz (.br ks)) wr → OwnK wr bl (firstR L 16) → OwnK wr bl L ∧ ∀ w6, Below wr.heap.size wr w6 → ∀ a6 n6 c6, IsBs w6 a6 n6 c6 [] → OwnN w6 (w.heap.size + 1) nd0 none 0 0 ∧
   ∀ w10, Rg.Upd w6 (w.heap.size + 1) w10 → TopPost M (.br ks) w (.returned (.agg (ndC ⟨3, [], eB, L⟩ a6 n6 c6))) w10) := hid (fun bl wr hf hir hOK => by
  rw [firstR_all hLl] at hOK
  refine ⟨hOK, fun w6 hb6 a6 n6 c6 hx => ?_⟩
  have hO6 := (own_frN hO1 hf hg1).below hb6
  refine ⟨hO6, fun w10 hu => ⟨a6, n6, c6, by rw [← hL]; rfl, isBs_upd hx (no_byte hO6 (nd_no _ _ _ _)) hu, ?_, (hir.below hb6).upd hu (fun e => by have := hi.lt_ _ e; omega)⟩⟩
  exact (((FrN.below M _ hb2).trans hf).trans (FrN.below M _ hb6)).upd hu (by omega))
 have HLl := hid hLl
 have H0 := hid hO0
 have hs2' := hs2
 obtain ⟨N, hN⟩ : ∃ N, sz (.br ks) = N := ⟨_, rfl⟩
 rw [hN] at HA HRd HEnd
 clear hO0 hO1 hb2 hB hB2 h0 hi hi2 hm hT hR h0w hT2 hkid hkf hklt hL hLi hg1 hN hLl hs2
 have HW2 : Hid (_ = _) := hid hw2
 clear hw2
 go_enter Tryz.func39, Tryz.ntmps39
 have H0' := H0
 rw [HW2.out] at H0'
 go_wp2_with (first | (refine Rg.run rfl _ _ (run_alloc_nd _ _ _ (w.heap.size + 1) (by simp) rfl) ?_) | (refine Rg.run rfl _ _ (op_load_tree (own_cell (j := 0) H0'.out rfl) ⟨_, rfl, rfl⟩) ?_))
 rw [← HW2.out]
 refine HK.out.mono ?_
 rintro e w3 ⟨rfl, hb3⟩
 obtain ⟨⟨d0, d3⟩, ⟨e0, e3⟩, hnb, hsz3, hOK, hf4, hi4⟩ := HA.out w3 hb3
 have HOK := hid hOK
 have HF4 := hid hf4
 have HI4 := hid hi4
 have hsz2 := hb3.size
 clear hb3 HA HK H0 H0' HW2 hOK hf4 hi4
 go_wp2_with (refine Rg.run rfl _ _ (run_alloc_ks _ _ _ w3.heap.size rfl rfl) ?_)
 clear d0 d3 e0 e3
 go_loopw [45] (fun i wr => ∃ j : Nat, j ≤ 16 ∧ i = .int .i64 j ∧ Hid (OwnK wr w3.heap.size (firstR L j)) ∧ Hid (FrN M N w2 wr) ∧ Hid (InvN M N wr)) (fun i _ => 16 - (intOf i).toNat)
 case atStart => exact ⟨0, Nat.zero_le _, rfl, HOK, HF4, HI4⟩
 case round =>
  obtain ⟨j, hj, rfl, HO, HF, HI⟩ := hrel
  clear HOK HF4 HI4
  by_cases hlt : j < 16
  ·obtain ⟨p, hkp, H5⟩ := HRd.out w3.heap.size wr hsz2 HF.out HI.out j hlt HO.out
   replace H5 := hid H5
   have hNew := Rg.Own.new wr #[.pointer none] 25
   have HN := hid hNew
   obtain ⟨R, hR⟩ : ∃ R, L.getD j eB = R := ⟨_, rfl⟩
   rw [hR] at H5
   clear hNew HO HF HI HRd HEnd hR
   go_wp2_with (first
    | (refine Rg.run rfl _ _ (op_load_tree hkp ⟨_, rfl, rfl⟩) ?_)
    | (refine Rg.run rfl _ _ (run_alloc_tree _ _ _ wr.heap.size rfl rfl) ?_)
    | (refine wpl_store_tree HN.out (by decide) p rfl _ _ rfl rfl rfl ?_; intro w5 hO5 hu5; have HO5 := hid hO5; have HB5 : Hid (Below wr.heap.size wr w5) := hid (hu5.below (al1 _ _) (Nat.le_refl _)); clear hO5 hu5)
    | (refine Rg.run rfl _ _ (op_load_tree (own_cell (j := 0) HO5.out rfl) ⟨_, rfl, rfl⟩) ?_))
   obtain ⟨HC, H6⟩ := H5.out w5 HB5.out
   replace HC := hid HC
   replace H6 := hid H6
   clear H5 HB5 HO5 HN hkp
   refine HC.out.mono ?_
   rintro e w6 ⟨rfl, hf6, hi6⟩
   obtain ⟨hO6, H7⟩ := H6.out w6 hf6 hi6
   replace H7 := hid H7
   have HO6 := hid hO6
   clear hf6 hi6 H6 HC hO6
   have hji : (j : Int) < 16 := by omega
   go_wp2_with (refine wpl_store_kid HO6.out (firstR_length HLl.out (by omega)) hlt R rfl _ _ rfl rfl rfl ?_; intro w7 hO7 hu7; obtain ⟨g1, g2, g3⟩ := H7.out w7 hO7 hu7; have G1 := hid g1; have G2 := hid g2; have G3 := hid g3; clear g1 g2 g3 hO7 hu7)
   go_roundw
   case rel => exact ⟨j + 1, by omega, by go_num, G1, G2, G3⟩
   case measure => simp [intOf]; omega
  ·obtain rfl : j = 16 := by omega
   obtain ⟨hOL, H6⟩ := HEnd.out w3.heap.size wr HF.out HI.out HO.out
   have HOL := hid hOL
   replace H6 := hid H6
   have HBr := hid (No.branch_any L HLl.out wr)
   clear HO HF HI HRd HEnd hOL
   go_wp2_with (refine Rg.run rfl _ _ (op_load_kc HOL.out HLl.out ⟨_, rfl, rfl⟩) ?_)
   refine HBr.out.mono ?_
   rintro e w6 ⟨a6, n6, c6, rfl, hB6, hl6, hb6⟩
   obtain ⟨hO6, H10⟩ := H6.out w6 hb6 a6 n6 c6 hB6.1
   have HO6 := hid hO6
   replace H10 := hid H10
   clear hB6 hl6 hb6 hO6 H6 HBr HOL
   go_wp2_with (refine wpl_store_nd HO6.out zks_length ⟨3, [], eB, L⟩ a6 n6 c6 HLl.out rfl _ _ rfl rfl rfl rfl ?_)
   exact bodyPost_ret (res_nd rfl _ rfl (own_rowN HO6.out) HLl.out) rfl (H10.out _ (Rg.Upd.set _ _ _))
end Tm
end
section
open Go.RowKit
namespace On
theorem disable (w : World) : (callFunc 156 #[]).run Tryz.prog w = .ok (.value (.tuple #[])) w := run_call_mark0 Tryz.func156 (by kernel_rfl) (by kernel_rfl) (by kernel_rfl) .disable (by kernel_rfl) w
theorem enable (w : World) : (callFunc 158 #[]).run Tryz.prog w = .ok (.value (.tuple #[])) w := run_call_mark0 Tryz.func158 (by kernel_rfl) (by kernel_rfl) (by kernel_rfl) .enable (by kernel_rfl) w
theorem acquire (a : Addr) (w : World) : (callFunc 159 #[.pointer (some a)]).run Tryz.prog w = .ok (.value (.tuple #[])) w := run_call_marked Tryz.func159 (by kernel_rfl) (by kernel_rfl) (by kernel_rfl) .acquire (by kernel_rfl) a w
theorem releaseMerge (a : Addr) (w : World) : (callFunc 161 #[.pointer (some a)]).run Tryz.prog w = .ok (.value (.tuple #[])) w := run_call_marked Tryz.func161 (by kernel_rfl) (by kernel_rfl) (by kernel_rfl) .releaseMerge (by kernel_rfl) a w
theorem store_deferred (a : Addr) (x : Value) (u : FrameMode) (w : World) (hc : w.cell? a = some x) (hz : w.frozen? a = false) :
  CallsD Tryz.prog 116 #[.pointer (some a), .bool true] u w fun e u' w' => u' = u ∧ (e = .returned (.tuple #[]) ∧ w' = w.drew.setCell a (.int .u32 1)) := by
 have hc' : w.drew.cell? a = some x := by go_simp
 have hz' : w.drew.frozen? a = false := by go_simp
 have hst := run_call_store (P := Tryz.prog) Tryz.func144 (by kernel_rfl) (by kernel_rfl) (by kernel_rfl) (by kernel_rfl) (k := .u32) (y := 1) hc' hz'
 go_enter_d Tryz.func116, Tryz.ntmps116
 go_wp2
 go_region_calls
 all_goals (go_end0; exact ⟨rfl, rfl⟩)
theorem unlock_deferred (a : Addr) (u : FrameMode) (w : World) (hc : w.cell? a = some (.int .i32 1)) (hz : w.frozen? a = false) :
  CallsD Tryz.prog 115 #[.pointer (some a)] u w fun e u' w' => u' = u ∧ (e = .returned (.tuple #[]) ∧ w' = w.setCell a (.int .i32 0)) := by
 have hd := disable
 have he := enable
 have hr := releaseMerge
 have hadd := run_call_add (P := Tryz.prog) Tryz.func162 (by kernel_rfl) (by kernel_rfl) (by kernel_rfl) .i32 (by kernel_rfl) (y := -1) (s := 0) hc hz (by simp [go_sem]; rfl)
 have hcv := run_convert_to_unsafe (P := Tryz.prog) (src := 204) (dst := 208) Tryz.underlying204 Tryz.underlying208 (by kernel_rfl) hc
 go_enter_d Tryz.func115, Tryz.ntmps115
 go_wp2
 go_end0
 all_goals (try go_wp2)
 all_goals (try go_end0)
 all_goals exact ⟨rfl, rfl⟩
theorem lock_free (a : Addr) (w : World) (hc : w.cell? a = some (.int .i32 0)) (hz : w.frozen? a = false) :
  Calls Tryz.prog 114 #[.pointer (some a)] w fun e w' => e = .returned (.tuple #[]) ∧ w' = w.setCell a (.int .i32 1) := by
 have hd := disable
 have he := enable
 have ha := acquire
 have hcas := run_call_cas_hit (P := Tryz.prog) Tryz.func157 (by kernel_rfl) (by kernel_rfl) (by kernel_rfl) .i32 (by kernel_rfl) (y := 1) hc hz
 have hc' : (w.setCell a (.int .i32 1)).cell? a = some (.int .i32 1) := World.cell?_setCell_same w a _ hc
 have hcv := run_convert_to_unsafe (P := Tryz.prog) (src := 204) (dst := 208) Tryz.underlying204 Tryz.underlying208 (by kernel_rfl) hc'
 go_enter Tryz.func114, Tryz.ntmps114
 go_wp2
 first | go_end0 | (simp only [Exit.inBlock, Exit.then]; refine bodyPost_ret (results_none rfl _ _ _) rfl ?_) | refine bodyPost_ret (results_none rfl _ _ _) rfl ?_
 all_goals (try go_wp2)
 all_goals (try go_end0)
 all_goals exact ⟨rfl, rfl⟩
def Held (w : World) (b off : Nat) : Prop := (w.cell? ⟨b, off, none⟩ = some (.int .u32 0) ∧ w.frozen? ⟨b, off, none⟩ = false) ∧ w.cell? ⟨b, off + 1, none⟩ = some (.int .i32 1) ∧ w.frozen? ⟨b, off + 1, none⟩ = false
theorem slow_any (D : FuncId) (caps : Array Value) (hD : ∀ w, (callFunc D caps).run Tryz.prog w = .ok (.enter D caps) w) (b off : Nat) (w : World) (R : World → Prop)
  (h0 : w.cell? ⟨b, off, none⟩ = some (.int .u32 0)) (h1 : w.cell? ⟨b, off + 1, none⟩ = some (.int .i32 0)) (f1 : w.frozen? ⟨b, off + 1, none⟩ = false)
  (h : Calls Tryz.prog D caps (w.setCell ⟨b, off + 1, none⟩ (.int .i32 1)) fun e w' => e = .returned (.tuple #[]) ∧ Held w' b off ∧ R w') :
  Calls Tryz.prog 83 #[.pointer (some ⟨b, off, none⟩), .func (.func D) #[] caps] w fun e w' => e = .returned (.tuple #[]) ∧ ∃ w1, R w1 ∧ w' = (w1.drew.setCell ⟨b, off, none⟩ (.int .u32 1)).setCell ⟨b, off + 1, none⟩ (.int .i32 0) := by
 have hl := run_call_load (P := Tryz.prog) Tryz.func113 (by kernel_rfl) (by kernel_rfl) (by kernel_rfl) .u32 (by kernel_rfl) (w := w.setCell ⟨b, off + 1, none⟩ (.int .i32 1)) (a := ⟨b, off, none⟩) (x := 0) ((World.cell?_setCell_other _ ⟨b, off + 1, none⟩ ⟨b, off, none⟩ _ (by simp)).trans h0)
 have hnot : ∀ (x : Bool) (w : World), (Op.unary .not (.bool x)).run Tryz.prog w = .ok (.bool (!x)) w := fun _ _ => rfl
 have H := hid h
 clear h
 go_enter_defers Tryz.func83, Tryz.ntmps83
 go_wp2_with (first | (go_at_call 114; refine (lock_free ⟨b, off + 1, none⟩ _ h1 f1).mono ?_; rintro e w' ⟨rfl, rfl⟩) | (go_at_call 82; go_in))
 refine H.out.mono ?_
 rintro e w1 ⟨rfl, ⟨⟨g0, z0⟩, g1, z1⟩, hR⟩
 have HR := hid hR
 clear hR H
 go_wp2
 refine leaves_cons (f := 116) (args := #[.pointer (some ⟨b, off, none⟩), .bool true]) (by simp) (by simp [go_sem]) ?_
 refine (store_deferred ⟨b, off, none⟩ (.int .u32 0) .returning _ g0 z0).mono ?_
 rintro e u' w'' ⟨rfl, rfl, rfl⟩
 refine leaves_cons (f := 115) (args := #[.pointer (some ⟨b, off + 1, none⟩)]) (by simp [settle]) (by simp [go_sem]) ?_
 refine (unlock_deferred ⟨b, off + 1, none⟩ _ _ ?_ (by simp [z1])).mono ?_
 ·refine (World.cell?_setCell_other _ ⟨b, off, none⟩ ⟨b, off + 1, none⟩ _ (by simp)).trans ?_
  rw [World.cell?_drew]
  exact g1
 rintro e u' w'' ⟨rfl, rfl, rfl⟩
 have hR := HR.out
 simp [Leaves, settle, results, Tryz.results83]
 exact ⟨w1, hR, rfl⟩
theorem do_first (D : FuncId) (caps : Array Value) (hD : ∀ w, (callFunc D caps).run Tryz.prog w = .ok (.enter D caps) w) (b off : Nat) (w : World) (R : World → Prop)
  (h0 : w.cell? ⟨b, off, none⟩ = some (.int .u32 0)) (h1 : w.cell? ⟨b, off + 1, none⟩ = some (.int .i32 0)) (f1 : w.frozen? ⟨b, off + 1, none⟩ = false)
  (h : Calls Tryz.prog D caps (w.setCell ⟨b, off + 1, none⟩ (.int .i32 1)) fun e w' => e = .returned (.tuple #[]) ∧ Held w' b off ∧ R w') :
  Calls Tryz.prog 43 #[.pointer (some ⟨b, off, none⟩), .func (.func D) #[] caps] w fun e w' => e = .returned (.tuple #[]) ∧ ∃ w1, R w1 ∧ w' = (w1.drew.setCell ⟨b, off, none⟩ (.int .u32 1)).setCell ⟨b, off + 1, none⟩ (.int .i32 0) := by
 have hl := run_call_load (P := Tryz.prog) Tryz.func113 (by kernel_rfl) (by kernel_rfl) (by kernel_rfl) .u32 (by kernel_rfl) h0
 have hnot : ∀ (x : Bool) (w : World), (Op.unary .not (.bool x)).run Tryz.prog w = .ok (.bool (!x)) w := fun _ _ => rfl
 have HS := hid (slow_any D caps hD b off w R h0 h1 f1 h)
 clear h hD
 go_enter Tryz.func43, Tryz.ntmps43
 go_wp2_with (first | (go_at_call 83; refine HS.out.mono ?_; rintro e w' ⟨rfl, hw'⟩; have HW := hid hw'; clear hw') | (go_at_call 82; go_in))
 go_end0
 exact ⟨rfl, HW.out⟩
theorem do_done (a : Addr) (fv : Value) (w : World) (h0 : w.cell? a = some (.int .u32 1)) :
  Calls Tryz.prog 43 #[.pointer (some a), fv] w fun e w' => e = .returned (.tuple #[]) ∧ w' = w := by
 have hl := run_call_load (P := Tryz.prog) Tryz.func113 (by kernel_rfl) (by kernel_rfl) (by kernel_rfl) .u32 (by kernel_rfl) h0
 have hnot : ∀ (x : Bool) (w : World), (Op.unary .not (.bool x)).run Tryz.prog w = .ok (.bool (!x)) w := fun _ _ => rfl
 go_enter Tryz.func43, Tryz.ntmps43
 go_wp2
 go_end0
 all_goals exact ⟨rfl, rfl⟩
end On
end
section
open Go.RowKit
namespace Rl
open Pk
theorem two_its {w : World} {g : Nat} {x y : It} {A A2 : Option Addr} {N C N2 C2 : Nat} (hO : Rg.Own w g #[.bool x.l, .string x.s, .slice A N C, .bool y.l, .string y.s, .slice A2 N2 C2] 101)
  (hx : IsIts w x.xs A N C) (hy : IsIts w y.xs A2 N2 C2) : IsIts w [x, y] (some ⟨g, 0, none⟩) 2 2 := by
 have hc : ∀ i, w.cell? ⟨g, i, none⟩ = (#[.bool x.l, .string x.s, .slice A N C, .bool y.l, .string y.s, .slice A2 N2 C2] : Array Value)[i]? := fun i => by simp [World.cell?, hO.2]
 refine ItsP.mk (fun j => if j = 0 then A else A2) (fun j => if j = 0 then N else N2) (fun j => if j = 0 then C else C2) rfl (by omega) (by unfold maxLen; omega) (by omega) (fun e => by cases e) (fun j z hz => ?_) (fun j z hz => ?_)
 ·match j, hz with
  | 0, hz =>
   cases hz
   exact ⟨g, 0, rfl, Nat.zero_le _, hO.1, (hc 0), (hc 1), (hc 2)⟩
  | 1, hz =>
   cases hz
   exact ⟨g, 0, rfl, Nat.zero_le _, hO.1, (hc 3), (hc 4), (hc 5)⟩
 ·match j, hz with
  | 0, hz => cases hz; exact hx
  | 1, hz => cases hz; exact hy
theorem its_nil (w : World) (x : It) (h : x.xs = []) : IsIts w x.xs none 0 0 := by rw [h]; exact ItsIn.nil _ _
end Rl
end
end Go.Proofs.YtgolhnfkmmajpaaGreatDoor
