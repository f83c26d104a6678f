/-
  What comes at any rate (the law's awake of layer 3): it is so.
-/
import Derived.Test.YtgpnhdnncfpbcaaDoorSumI
namespace Go.Proofs.YtgpnhdnncfpbcaaDoor
open Go.RowKit

namespace Sm
open Sh
theorem less_self : ∀ l : List UInt8, Op.bytesLess l l = false
  | [] => by simp [Op.bytesLess]
  | a :: l => by
    have h : ¬ a < a := by simp
    simp [Op.bytesLess, less_self l]
/-- a sum, put into a block of its own -/
theorem box {w w1 : World} (h : Below w.heap.size w w1) (k : List UInt8) :
    Rg.Own ((w1.alloc (.cells (kc zk) 27)).setRow w1.heap.size (kc k)) w1.heap.size (kc k) 27 ∧ Below w.heap.size w ((w1.alloc (.cells (kc zk) 27)).setRow w1.heap.size (kc k)) ∧ Below w1.heap.size w1 ((w1.alloc (.cells (kc zk) 27)).setRow w1.heap.size (kc k)) :=
  ⟨⟨by simp, setRow_heap _ _ _ _ _ _ (heap_alloc_new _ _)⟩, below_row (h.alloc h.size _) h.size _, below_row ((Below.refl _ _).alloc (Nat.le_refl _) _) (Nat.le_refl _) _⟩
theorem box_cells (w1 : World) : (w1.alloc (.cells (kc zk) 27)).heap[w1.heap.size]? = some (.cells (kc zk) 27 (0, 0)) := heap_alloc_new _ _

set_option maxHeartbeats 8000000 in
theorem awake_any (w : World) (hT : Tab w) :
    Calls Tryd.prog 5 #[] w fun e w' => e = .returned (.bool true) ∧ Below w.heap.size w w' := by
  have h0 := hT.pos
  have HT := Lib.hid hT
  have HOf := Lib.hid (fun W (h : Tab W) => of_any ⟨#[97, 98, 99]⟩ (by decide) W h)
  rw [show (⟨#[97, 98, 99]⟩ : ByteArray).data.toList = [97, 98, 99] from rfl, sum_abc] at HOf
  have HOe := Lib.hid (fun W (h : Tab W) => of_any ⟨#[]⟩ (by decide) W h)
  rw [show (⟨#[]⟩ : ByteArray).data.toList = [] from rfl] at HOe
  have HP := Lib.hid (fun W (h : Tab W) => parts_any none 0 0 [] W rfl (by decide) (fun j hj => by omega) (fun j hj => by omega) (by decide) h)
  rw [show Tx.textsL [] = [] from rfl] at HP
  have HR := Lib.hid (fun W => read_64 abcH rfl W)
  have eD : abcH.data.toList = hexK abcL 32 := by rw [← abc_hex]
  rw [eD, readE_ok (hex_ok abcL rfl)] at HR
  unfold readOk at HR
  rw [hex_unhex abcL rfl] at HR
  have HH := Lib.hid (fun W => hex_any abcL rfl W)
  rw [abc_hex] at HH
  have HTx := Lib.hid (fun W => text_any abcL rfl W)
  have HFr := Lib.hid (fun W => from_ok ⟨abcL.toArray⟩ rfl W)
  rw [show (⟨abcL.toArray⟩ : ByteArray).data.toList = abcL from rfl] at HFr
  have HLs := Lib.hid (fun W => less_any abcL abcL rfl rfl W)
  rw [less_self] at HLs
  have HL := Lib.hid (show abcL.length = 32 from rfl)
  have HZ := Lib.hid (sumL_length [])
  obtain ⟨T, hTt⟩ : ∃ T, (⟨abcL.toArray⟩ : ByteArray) = T := ⟨_, rfl⟩
  rw [hTt] at HTx HFr
  obtain ⟨L, hL⟩ : ∃ L, abcL = L := ⟨_, rfl⟩
  rw [hL] at HOf HR HH HTx HFr HLs HL
  obtain ⟨Z, hZ⟩ : ∃ Z, sumL [] = Z := ⟨_, rfl⟩
  rw [hZ] at HOe HP HZ
  unfold abcH at HH HR
  clear hTt hL hZ eD hT
  go_enter Tryd.func5, Tryd.ntmps5
  go_wp2_with fail
  refine (HOf.out _ HT.out).mono ?_
  rintro e w1 ⟨rfl, hb1⟩
  obtain ⟨hn1, hB1, hx1⟩ := box hb1 L
  have hT1 := HT.out.below hB1 h0
  go_wp2_with (first | (refine wpList_run rfl _ _ (run_alloc_sum _ _ rfl _ _ rfl) ?_) | (refine wpList_store_rowTo rfl 27 _ _ rfl rfl _ (kc L) rfl rfl 27 (kc zk) (box_cells _) (info_kc L HL.out) (by rw [kc_size, kc_size, HL.out]; rfl) (kc_one _) ?_))
  generalize ((w1.alloc (.cells (kc zk) 27)).setRow w1.heap.size (kc L)) = W1 at hn1 hB1 hx1 hT1 ⊢
  generalize w1.heap.size = b1 at hn1 hx1 ⊢
  clear hb1 hx1
  refine (HR.out _).mono ?_
  rintro e w2 ⟨rfl, hb2⟩
  obtain ⟨hn2, hB2, hx2⟩ := box (hB1.trans (hb2.mono hB1.size)) L
  have hn12 := (hn1.below hb2).below hx2
  have hT2 := HT.out.below hB2 h0
  go_wp2_with (first | (refine wpList_run rfl _ _ (run_alloc_sum _ _ rfl _ _ rfl) ?_) | (refine wpList_store_rowTo rfl 27 _ _ rfl rfl _ (kc L) rfl rfl 27 (kc zk) (box_cells _) (info_kc L HL.out) (by rw [kc_size, kc_size, HL.out]; rfl) (kc_one _) ?_) | (refine Rg.runW (by rfl) _ _ (run_load_sum _ _ _ b1 L HL.out ⟨_, rfl, rfl⟩ hn12) ?_))
  generalize ((w2.alloc (.cells (kc zk) 27)).setRow w2.heap.size (kc L)) = W2 at hn2 hB2 hx2 hn12 hT2 ⊢
  generalize w2.heap.size = b2 at hn2 hx2 ⊢
  clear hb2 hx2 hn1 hT1 hB1 W1 w1
  refine (HTx.out _).mono ?_
  rintro e w3 ⟨rfl, hb3⟩
  have hB3 := hB2.trans (hb3.mono hB2.size)
  have h13 := hn12.below hb3
  have h23 := hn2.below hb3
  clear hb3 hn12 hn2 hB2 hT2 W2 w2
  go_wp2_with fail
  refine (HFr.out _).mono ?_
  rintro e w4 ⟨rfl, hb4⟩
  obtain ⟨hn4, hB4, hx4⟩ := box (hB3.trans (hb4.mono hB3.size)) L
  have h14 := (h13.below hb4).below hx4
  have h24 := (h23.below hb4).below hx4
  go_wp2_with (first | (refine wpList_run rfl _ _ (run_alloc_sum _ _ rfl _ _ rfl) ?_) | (refine wpList_store_rowTo rfl 27 _ _ rfl rfl _ (kc L) rfl rfl 27 (kc zk) (box_cells _) (info_kc L HL.out) (by rw [kc_size, kc_size, HL.out]; rfl) (kc_one _) ?_) | (refine Rg.runW (by rfl) _ _ (run_load_sum _ _ _ b1 L HL.out ⟨_, rfl, rfl⟩ h14) ?_))
  generalize ((w4.alloc (.cells (kc zk) 27)).setRow w4.heap.size (kc L)) = W4 at hn4 hB4 hx4 h14 h24 ⊢
  generalize w4.heap.size = b4 at hn4 hx4 ⊢
  clear hb4 hx4 h13 h23 hB3 w3 w4
  refine (HH.out _).mono ?_
  rintro e w5 ⟨rfl, hb5⟩
  have hB5 := hB4.trans (hb5.mono hB4.size)
  have h15 := h14.below hb5
  have h25 := h24.below hb5
  have h45 := hn4.below hb5
  have hT5 := HT.out.below hB5 h0
  clear hb5 h14 h24 hn4 hB4 W4
  go_wp2_with (first | (refine Rg.runW (by rfl) _ _ (run_load_sum _ _ _ b1 L HL.out ⟨_, rfl, rfl⟩ h15) ?_) | (refine Rg.runW (by rfl) _ _ (run_load_sum _ _ _ b2 L HL.out ⟨_, rfl, rfl⟩ h25) ?_) | (refine Rg.runW (by rfl) _ _ (run_load_sum _ _ _ b4 L HL.out ⟨_, rfl, rfl⟩ h45) ?_) | (refine Rg.runW (by rfl) _ _ (run_eql_op _ _ L HL.out _ ⟨_, _, rfl, rfl, rfl⟩) ?_))
  refine (HP.out _ hT5).mono ?_
  rintro e w6 ⟨rfl, hb6⟩
  have hB6 := hB5.trans (hb6.mono hB5.size)
  have h16 := h15.below hb6
  have hT6 := HT.out.below hB6 h0
  clear hb6 h15 h25 h45 hB5 hT5
  go_wp2_with fail
  refine (HOe.out _ hT6).mono ?_
  rintro e w7 ⟨rfl, hb7⟩
  have hB7 := hB6.trans (hb7.mono hB6.size)
  have h17 := h16.below hb7
  clear hb7 h16 hB6 hT6
  go_wp2_with (first | (refine Rg.runW (by rfl) _ _ (run_load_sum _ _ _ b1 L HL.out ⟨_, rfl, rfl⟩ h17) ?_) | (refine Rg.runW (by rfl) _ _ (run_eql_op _ _ Z HZ.out _ ⟨_, _, rfl, rfl, rfl⟩) ?_))
  refine (HLs.out _).mono ?_
  rintro e w8 ⟨rfl, hb8⟩
  have hB8 := hB7.trans (hb8.mono hB7.size)
  go_wp2
  go_ret
  exact ⟨rfl, hB8⟩
end Sm
end Go.Proofs.YtgpnhdnncfpbcaaDoor
