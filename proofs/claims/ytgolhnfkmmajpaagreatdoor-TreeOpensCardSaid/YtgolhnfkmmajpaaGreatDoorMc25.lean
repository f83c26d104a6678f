/-
 The contract of the laws' own Pairs.
-/
import Derived.Test.YtgolhnfkmmajpaaGreatDoorMc17
import Derived.Test.YtgolhnfkmmajpaaGreatDoorMc23
import Derived.Test.YtgolhnfkmmajpaaGreatDoorMc24
import Derived.Test.YtgolhnfkmmajpaaGreatDoorMc16
import Derived.Deep.DeepCutAuto
import Derived.Test.YtgolhnfkmmajpaaGreatDoorMc15
import Derived.Test.YtgolhnfkmmajpaaGreatDoorMc20
open Go.Lib (hid)
set_option linter.unusedSimpArgs false
set_option linter.unusedVariables false
set_option maxHeartbeats 40000000
set_option maxRecDepth 100000
namespace Go.Proofs.YtgolhnfkmmajpaaGreatDoor
section
open Go.RowKit
namespace Tm
open Tr Ni Pk Ky
theorem pairs_snoc {l : List Tr.Pair} {j : Nat} (hj : j < l.length) (h24 : j < 24) : pairsL (l.take (j + 1)) = pairsL (l.take j) ++ [fixP (l.getD j ([], eB))] := by
 unfold pairsL
 rw [List.take_take, List.take_take, show min 24 (j + 1) = j + 1 by omega, show min 24 j = j by omega, take_at hj, List.map_append]
 rfl
theorem pairs_cut {l : List Tr.Pair} : pairsL (l.take 24) = pairsL l := by
 unfold pairsL
 rw [List.take_take, Nat.min_self]
theorem pairs_any (l : List Tr.Pair) (a : Option Addr) (n c : Nat) (w : World) (h : IsPs w a n c l) :
  Calls Tryz.prog 18 #[.slice a n c] w (GotPs w (pairsL l)) := by
 obtain ⟨i0, z0, hi, hz, hsz, hby, hzc⟩ := info_pair_parts
 have HI : Hid (_ ∧ _ ∧ _ ∧ _ ∧ _) := hid ⟨hi, hz, hsz, hby, hzc⟩
 have hcap := h.1
 have hmx := h.2.1
 unfold maxLen at hmx
 have H := hid h
 have HL := hid h.len
 clear h hi hz hsz hby hzc
 go_enter Tryz.func18, Tryz.ntmps18
 go_wp2_with fail
 go_loopw [3, 4] (fun v i wr => ∃ j : Nat, j ≤ n ∧ j ≤ 24 ∧ i = .int .i64 j ∧ Hid (wr.ownsRow w.heap.size 43 33 v (pairsL (l.take j)).length (rowP (pairsL (l.take j)))) ∧ Hid (Below w.heap.size w wr)) (fun _ i _ => n - (intOf i).toNat)
 case atStart => exact ⟨0, Nat.zero_le _, Nat.zero_le _, rfl, hid (World.ownsRow_nil _ _ _ _), hid (Below.refl _ _)⟩
 case round =>
  obtain ⟨j, hjn, hj24', rfl, HR, HB⟩ := hrel
  have hlen : (pairsL (l.take j)).length ≤ 24 := pairs_len _
  by_cases hlt : j < n ∧ j < 24
  ·obtain ⟨hlt, hj24⟩ := hlt
   have i1 : (j : Int) < n := by omega
   have i2 : (j : Int) < 24 := by omega
   have HJ : Hid (j < l.length) := hid (by rw [HL.out]; exact hlt)
   obtain ⟨b, off, rfl, hblt, hpa, hk⟩ := H.out.at' j hlt
   obtain ⟨x, hx⟩ : ∃ x, l.getD j ([], eB) = x := ⟨_, rfl⟩
   rw [hx] at hpa hk
   have HX := hid hx
   have HPr := hid (hpa.below HB.out)
   have hNew := Rg.Own.new wr (pairA (List.replicate 32 0, eB)) 43
   have HN := hid hNew
   have HZ : Hid (((List.replicate 32 0, eB) : Tr.Pair).1.length = 32) := hid rfl
   obtain ⟨k, v⟩ := x
   have HKx : Hid (k.length = 32) := hid hk
   clear hx hpa hk hNew hblt
   by_cases hv0 : v.size = 0
   ·obtain rfl := No.size_zero hv0
    have s1 : decide ((100 : Int) < (sv.size : Int)) = false := rfl
    have HF : Hid (pairsL (l.take (j + 1)) = pairsL (l.take j) ++ [(k, sv)]) := hid (by rw [pairs_snoc HJ.out hj24, HX.out]; unfold fixP; simp [hv0])
    go_wp2_with (first
     | (refine Rg.run rfl _ _ (op_load_pair (x := (k, eB)) HKx.out HPr.out ⟨_, rfl, rfl⟩) ?_)
     | (refine Rg.run rfl _ _ (run_alloc_pair _ _ _ wr.heap.size rfl rfl) ?_)
     | (refine wpl_store_pair HN.out HZ.out (k, eB) HKx.out rfl _ _ rfl rfl rfl rfl ?_; intro w5 hO5 hu5; have HO5 := hid hO5; have HB5 : Hid (Below wr.heap.size wr w5) := hid (hu5.below (al1 _ _) (Nat.le_refl _)); have c32 : w5.cell? ⟨wr.heap.size, 32, none⟩ = some (.string _) := (PairAt.own hO5).val HKx.out; clear hO5 hu5)
     | (refine Rg.run rfl _ _ (op_load_str c32 ⟨_, rfl, rfl⟩) ?_)
     | (refine Rg.run rfl _ _ (op_load_key_mid HKx.out (PairAt.own HO5.out).key ⟨_, rfl, rfl⟩) ?_)
     | (refine Rg.run rfl _ _ (op_build (built_pair k sv HKx.out) ⟨_, rfl, rfl⟩) ?_)
     | (refine wpl_store_pair HO5.out HKx.out (k, sv) HKx.out rfl _ _ rfl rfl rfl rfl ?_; intro w6 hO6 hu6; have HO6 := hid hO6; have HB6 : Hid (Below wr.heap.size wr w6) := hid (hu6.below HB5.out (Nat.le_refl _)); have HR5 := hid (own_keepN HR.out HB6.out); have d32 : w6.cell? ⟨wr.heap.size, 32, none⟩ = some (.string _) := (PairAt.own hO6).val HKx.out; clear hO6 hu6)
     | (refine Rg.run rfl _ _ (op_load_str d32 ⟨_, rfl, rfl⟩) ?_)
     | (refine Rg.run rfl _ _ (op_load_pair (x := (k, sv)) HKx.out (PairAt.own HO6.out) ⟨_, rfl, rfl⟩) ?_)
     | (refine Rg.run rfl _ _ (op_lit_pair (x := (k, sv)) HKx.out _ rfl ⟨_, rfl, rfl⟩) ?_)
     | (at_builtin; refine wpList_append_own _ rfl _ _ 26 rfl w.heap.size 43 i0 z0 33 48 Tryz.underlying26 HI.out.1 HI.out.2.1 HI.out.2.2.1 HI.out.2.2.2.1 HI.out.2.2.2.2 (by decide) _ _ _ rfl (HR5.out.alloc _) ⟨_, 0, none⟩ 1 1 (pairC (k, sv)) rfl (pairC_len (x := (k, sv)) HKx.out) ?d1 (pairC_one _) ?d3 ?d4 ?d5 ?_))
    case d1 =>
     intro q u hu
     first | (simpa [pairA] using hu) | (rw [Addr.add_mid]; exact (PairAt.own (Rg.Own.new _ (pairA (k, sv)) 43)) q u hu)
    case d3 => unfold maxLen; omega
    case d4 => omega
    case d5 => have := HB.out.size; have := HB6.out.size; simp; omega
    intro v' w7 hown7 hgrow _
    have hlt' := HR5.out.lt
    have HB7 : Hid (Below w.heap.size w w7) := hid (((bst HB.out HB6.out).alloc (by have := HB.out.size; have := HB6.out.size; omega) _).grown hgrow (by have := HB.out.size; have := HB6.out.size; simp; omega) (fun g hg => (hlt' g hg).1))
    go_wp2
    go_roundw
    case rel => exact ⟨j + 1, by omega, by omega, by go_num, hid (by rw [HF.out, rowP_snoc, List.length_append]; exact hown7), HB7⟩
    case measure => simp [intOf]; omega
   ·by_cases hv2 : 100 < v.size
    ·have hv1 := Ni.not_empty (s := v) (by omega)
     have hv100 : (100 : Int) ≤ (v.size : Int) := by omega
     have s1 : decide ((100 : Int) < (v.size : Int)) = true := decide_eq_true (by omega)
     go_wp2_with (first
 | (refine Rg.run rfl _ _ (op_load_pair (x := (k, v)) HKx.out HPr.out ⟨_, rfl, rfl⟩) ?_)
      | (refine Rg.run rfl _ _ (run_alloc_pair _ _ _ wr.heap.size rfl rfl) ?_)
      | (refine wpl_store_pair HN.out HZ.out (k, v) HKx.out rfl _ _ rfl rfl rfl rfl ?_; intro w5 hO5 hu5; have HO5 := hid hO5; have HB5 : Hid (Below wr.heap.size wr w5) := hid (hu5.below (al1 _ _) (Nat.le_refl _)); have c32 : w5.cell? ⟨wr.heap.size, 32, none⟩ = some (.string _) := (PairAt.own hO5).val HKx.out; clear hO5 hu5)
      | (refine Rg.run rfl _ _ (op_load_str c32 ⟨_, rfl, rfl⟩) ?_)
     )
     have ge0 : wr.heap.size ≤ wr.heap.size := Nat.le_refl _
     have h0 := HO5.out
     refine wp_region_noPanic ?_
     refine wp_region_held_drew (S := fun w' => Below wr.heap.size wr w') (by kernel_rfl) (HB5.out.drew) (fun hld => ?_)
     replace h0 := h0.drew
     refine Rg.tk (i := 0) rfl ?_
     try simp only [Act.put, Rg.s]
     refine Rg.tk (i := 2) rfl ?_
     try simp only [Act.put, Rg.s]
     refine wpAnyH_ready (rs := [1, 3]) (by kernel_rfl) (by simp) ?_
     refine Rg.readyC (i := 1) rfl (fun K hK => ?_) (Rg.readyL (i := 3) rfl (fun K hK => ?_))
     ·refine Rg.meet (by rfl) _ _ (op_load_key_mid HKx.out (PairAt.own h0).key ?_) ?_
      ·exact ⟨_, rfl, rfl⟩
      refine hK.out _ _ ?_ (fun hld => ?_)
      ·exact hld
      clear hK K
      try simp only [Act.put, Rg.s]
      refine Rg.rd (i := 3) rfl fun K hK => ?_
      refine Rg.meet (by rfl) _ _ (op_load_str (PairAt.val (PairAt.own h0) HKx.out) ?_) ?_
      ·exact ⟨_, rfl, rfl⟩
      refine hK.out _ _ ?_ (fun hld => ?_)
      ·exact hld
      clear hK K
      try simp only [Act.put, Rg.s]
      refine Rg.tk (i := 4) rfl ?_ (hy := by intro wz hSw; (have q0 := hv100; go_simp <;> with_reducible rfl))
      try simp only [Act.put, Rg.s]
      refine Rg.tk (i := 5) rfl ?_ (hy := by intro wz hSw; (refine op_build (built_pair k (v.extract 0 100) HKx.out) ?_; exact ⟨_, rfl, rfl⟩))
      try simp only [Act.put, Rg.s]
      refine Rg.rd (i := 6) rfl fun K hK => ?_
      refine Rg.meetStore (by rfl) h0 43 (pairA (k, v.extract 0 100)) ⟨_, _, rfl, rfl, rfl⟩ (info_pairA HKx.out) (by rw [pairA_size HKx.out, pairA_size HKx.out]) (pairA_one _) ?_
      rintro wv0 hn hu
      refine hK.out _ _ ?_ (fun hld => ?_)
      ·exact hu.below hld ge0
      replace h0 := hn
      clear hK K hn hu
      try simp only [Act.put]
      refine wpAnyH_done (by kernel_rfl) ?_ _
      refine NoPanic.normal ?_
      have HO5 := hid h0
      have HB5' : Hid (Below wr.heap.size wr _) := hid hld
      clear h0 hld
      have HF : Hid (pairsL (l.take (j + 1)) = pairsL (l.take j) ++ [(k, v.extract 0 100)]) := hid (by rw [pairs_snoc HJ.out hj24, HX.out]; unfold fixP; simp [hv0, hv2])
      have HR5 := hid (own_keepN HR.out HB5'.out)
      go_wp2_with (first
       | (refine Rg.run rfl _ _ (op_load_pair (x := (k, v.extract 0 100)) HKx.out (PairAt.own HO5.out) ⟨_, rfl, rfl⟩) ?_)
       | (refine Rg.run rfl _ _ (op_lit_pair (x := (k, v.extract 0 100)) HKx.out _ rfl ⟨_, rfl, rfl⟩) ?_)
       | (at_builtin; refine wpList_append_own _ rfl _ _ 26 rfl w.heap.size 43 i0 z0 33 48 Tryz.underlying26 HI.out.1 HI.out.2.1 HI.out.2.2.1 HI.out.2.2.2.1 HI.out.2.2.2.2 (by decide) _ _ _ rfl (HR5.out.alloc _) ⟨_, 0, none⟩ 1 1 (pairC (k, v.extract 0 100)) rfl (pairC_len (x := (k, v.extract 0 100)) HKx.out) ?d1 (pairC_one _) ?d3 ?d4 ?d5 ?_))
      case d1 =>
       intro q u hu
       first | (simpa [pairA] using hu) | (rw [Addr.add_mid]; exact (PairAt.own (Rg.Own.new _ (pairA (k, v.extract 0 100)) 43)) q u hu)
      case d3 => unfold maxLen; omega
      case d4 => omega
      case d5 => have := HB.out.size; have := HB5'.out.size; simp; omega
      intro v' w7 hown7 hgrow _
      have hlt' := HR5.out.lt
      have HB7 : Hid (Below w.heap.size w w7) := hid (((bst HB.out HB5'.out).alloc (by have := HB.out.size; have := HB5'.out.size; omega) _).grown hgrow (by have := HB.out.size; have := HB5'.out.size; simp; omega) (fun g hg => (hlt' g hg).1))
      go_wp2
      go_roundw
      case rel => exact ⟨j + 1, by omega, by omega, by go_num, hid (by rw [HF.out, rowP_snoc, List.length_append]; exact hown7), HB7⟩
      case measure => simp [intOf]; omega
     ·refine Rg.meet (by rfl) _ _ (op_load_str (PairAt.val (PairAt.own h0) HKx.out) ?_) ?_
      ·exact ⟨_, rfl, rfl⟩
      refine hK.out _ _ ?_ (fun hld => ?_)
      ·exact hld
      clear hK K
      try simp only [Act.put, Rg.s]
      refine Rg.tk (i := 4) rfl ?_ (hy := by intro wz hSw; (have q0 := hv100; go_simp <;> with_reducible rfl))
      try simp only [Act.put, Rg.s]
      refine Rg.rd (i := 1) rfl fun K hK => ?_
      refine Rg.meet (by rfl) _ _ (op_load_key_mid HKx.out (PairAt.own h0).key ?_) ?_
      ·exact ⟨_, rfl, rfl⟩
      refine hK.out _ _ ?_ (fun hld => ?_)
      ·exact hld
      clear hK K
      try simp only [Act.put, Rg.s]
      refine Rg.tk (i := 5) rfl ?_ (hy := by intro wz hSw; (refine op_build (built_pair k (v.extract 0 100) HKx.out) ?_; exact ⟨_, rfl, rfl⟩))
      try simp only [Act.put, Rg.s]
      refine Rg.rd (i := 6) rfl fun K hK => ?_
      refine Rg.meetStore (by rfl) h0 43 (pairA (k, v.extract 0 100)) ⟨_, _, rfl, rfl, rfl⟩ (info_pairA HKx.out) (by rw [pairA_size HKx.out, pairA_size HKx.out]) (pairA_one _) ?_
      rintro wv0 hn hu
      refine hK.out _ _ ?_ (fun hld => ?_)
      ·exact hu.below hld ge0
      replace h0 := hn
      clear hK K hn hu
      try simp only [Act.put]
      refine wpAnyH_done (by kernel_rfl) ?_ _
      refine NoPanic.normal ?_
      have HO5 := hid h0
      have HB5' : Hid (Below wr.heap.size wr _) := hid hld
      clear h0 hld
      have HF : Hid (pairsL (l.take (j + 1)) = pairsL (l.take j) ++ [(k, v.extract 0 100)]) := hid (by rw [pairs_snoc HJ.out hj24, HX.out]; unfold fixP; simp [hv0, hv2])
      have HR5 := hid (own_keepN HR.out HB5'.out)
      go_wp2_with (first
       | (refine Rg.run rfl _ _ (op_load_pair (x := (k, v.extract 0 100)) HKx.out (PairAt.own HO5.out) ⟨_, rfl, rfl⟩) ?_)
       | (refine Rg.run rfl _ _ (op_lit_pair (x := (k, v.extract 0 100)) HKx.out _ rfl ⟨_, rfl, rfl⟩) ?_)
       | (at_builtin; refine wpList_append_own _ rfl _ _ 26 rfl w.heap.size 43 i0 z0 33 48 Tryz.underlying26 HI.out.1 HI.out.2.1 HI.out.2.2.1 HI.out.2.2.2.1 HI.out.2.2.2.2 (by decide) _ _ _ rfl (HR5.out.alloc _) ⟨_, 0, none⟩ 1 1 (pairC (k, v.extract 0 100)) rfl (pairC_len (x := (k, v.extract 0 100)) HKx.out) ?d1 (pairC_one _) ?d3 ?d4 ?d5 ?_))
      case d1 =>
       intro q u hu
       first | (simpa [pairA] using hu) | (rw [Addr.add_mid]; exact (PairAt.own (Rg.Own.new _ (pairA (k, v.extract 0 100)) 43)) q u hu)
      case d3 => unfold maxLen; omega
      case d4 => omega
      case d5 => have := HB.out.size; have := HB5'.out.size; simp; omega
      intro v' w7 hown7 hgrow _
      have hlt' := HR5.out.lt
      have HB7 : Hid (Below w.heap.size w w7) := hid (((bst HB.out HB5'.out).alloc (by have := HB.out.size; have := HB5'.out.size; omega) _).grown hgrow (by have := HB.out.size; have := HB5'.out.size; simp; omega) (fun g hg => (hlt' g hg).1))
      go_wp2
      go_roundw
      case rel => exact ⟨j + 1, by omega, by omega, by go_num, hid (by rw [HF.out, rowP_snoc, List.length_append]; exact hown7), HB7⟩
      case measure => simp [intOf]; omega
    ·have hv1 := Ni.not_empty (s := v) (by omega)
     have s1 : decide ((100 : Int) < (v.size : Int)) = false := decide_eq_false (by omega)
     have HF : Hid (pairsL (l.take (j + 1)) = pairsL (l.take j) ++ [(k, v)]) := hid (by rw [pairs_snoc HJ.out hj24, HX.out]; unfold fixP; simp [hv0, hv2])
     go_wp2_with (first
      | (refine Rg.run rfl _ _ (op_load_pair (x := (k, v)) HKx.out HPr.out ⟨_, rfl, rfl⟩) ?_)
      | (refine Rg.run rfl _ _ (run_alloc_pair _ _ _ wr.heap.size rfl rfl) ?_)
      | (refine wpl_store_pair HN.out HZ.out (k, v) HKx.out rfl _ _ rfl rfl rfl rfl ?_; intro w5 hO5 hu5; have HO5 := hid hO5; have HB5 : Hid (Below wr.heap.size wr w5) := hid (hu5.below (al1 _ _) (Nat.le_refl _)); have HR5 := hid (own_keepN HR.out HB5.out); have c32 : w5.cell? ⟨wr.heap.size, 32, none⟩ = some (.string _) := (PairAt.own hO5).val HKx.out; clear hO5 hu5)
      | (refine Rg.run rfl _ _ (op_load_str c32 ⟨_, rfl, rfl⟩) ?_)
      | (refine Rg.run rfl _ _ (op_load_pair (x := (k, v)) HKx.out (PairAt.own HO5.out) ⟨_, rfl, rfl⟩) ?_)
      | (refine Rg.run rfl _ _ (op_lit_pair (x := (k, v)) HKx.out _ rfl ⟨_, rfl, rfl⟩) ?_)
      | (at_builtin; refine wpList_append_own _ rfl _ _ 26 rfl w.heap.size 43 i0 z0 33 48 Tryz.underlying26 HI.out.1 HI.out.2.1 HI.out.2.2.1 HI.out.2.2.2.1 HI.out.2.2.2.2 (by decide) _ _ _ rfl (HR5.out.alloc _) ⟨_, 0, none⟩ 1 1 (pairC (k, v)) rfl (pairC_len (x := (k, v)) HKx.out) ?d1 (pairC_one _) ?d3 ?d4 ?d5 ?_))
     case d1 =>
      intro q u hu
      first | (simpa [pairA] using hu) | (rw [Addr.add_mid]; exact (PairAt.own (Rg.Own.new _ (pairA (k, v)) 43)) q u hu)
     case d3 => unfold maxLen; omega
     case d4 => omega
     case d5 => have := HB.out.size; have := HB5.out.size; simp; omega
     intro v' w7 hown7 hgrow _
     have hlt' := HR5.out.lt
     have HB7 : Hid (Below w.heap.size w w7) := hid (((bst HB.out HB5.out).alloc (by have := HB.out.size; have := HB5.out.size; omega) _).grown hgrow (by have := HB.out.size; have := HB5.out.size; simp; omega) (fun g hg => (hlt' g hg).1))
     go_wp2
     go_roundw
     case rel => exact ⟨j + 1, by omega, by omega, by go_num, hid (by rw [HF.out, rowP_snoc, List.length_append]; exact hown7), HB7⟩
     case measure => simp [intOf]; omega
  ·have HEnd : Hid (pairsL (l.take j) = pairsL l) := hid (by
    rcases Nat.lt_or_ge j n with h1 | h1
    ·obtain rfl : j = 24 := by omega
     exact pairs_cut
    ·obtain rfl : j = n := by omega
     rw [List.take_of_length_le (by rw [HL.out]; exact Nat.le_refl _)])
   have HK := hid (pairs_ok H.out.keys)
   have hf : ¬ ((j : Int) < n ∧ (j : Int) < 24) := by omega
   rw [HEnd.out] at HR
   rcases Nat.lt_or_ge j n with h1 | h1
   ·obtain rfl : j = 24 := by omega
    have i1 : ((24 : Nat) : Int) < n := by omega
    go_wp2_with fail
    go_ret
    exact GotOwnP.ps HK.out.1 ⟨_, rfl, HR.out, HB.out⟩
   ·obtain rfl : j = n := by omega
    go_wp2_with fail
    go_ret
    exact GotOwnP.ps HK.out.1 ⟨_, rfl, HR.out, HB.out⟩
end Tm
end
section
open Go.RowKit
namespace Tm
open Tr Ni Pk Ky No Rf Rl
open Sm (Tab)
section
variable {k : List UInt8} {j : Nat}
end
theorem run_alloc_tree2 (ev : Operand → Value) (o : Oper) (ho : o.op = .alloc 25) (w : World) : (execOp ev o).run Tryz.prog w = .ok (.value (.pointer (some ⟨w.heap.size, 0, none⟩))) (w.alloc (.cells #[.pointer none] 25)) := run_alloc_tree ev o w w.heap.size rfl ho
end Tm
end
section
open Go.RowKit
namespace Tm
open Tr Ni Pk Ky No Rf Rl
open Sm (Tab)
theorem Ks0.below {M : Mp} {lo : Nat} {w w' : World} {a : Option Addr} {n c : Nat} {l : List T} (h : Ks0 M lo w a n c l) (hb : Below w.heap.size w w') : Ks0 M lo w' a n c l :=
 ⟨h.1, h.2.1, h.2.2.1, h.2.2.2.1, fun j hj => by
  obtain ⟨b, off, p, e, hlt, hf, hc, ht⟩ := h.2.2.2.2 j hj
  exact ⟨b, off, p, e, Nat.lt_of_lt_of_le hlt hb.size, hf, cell_on hb hc, ht⟩⟩
theorem Ks0.lo {M : Mp} {lo lo' : Nat} {w : World} {a : Option Addr} {n c : Nat} {l : List T} (h : Ks0 M lo w a n c l) (hl : lo' ≤ lo) : Ks0 M lo' w a n c l :=
 ⟨h.1, h.2.1, h.2.2.1, h.2.2.2.1, fun j hj => by
  obtain ⟨b, off, p, e, hlt, hf, hc, ht⟩ := h.2.2.2.2 j hj
  exact ⟨b, off, p, e, hlt, hf.elim Or.inl (fun h => Or.inr (Nat.le_trans hl h)), hc, ht⟩⟩
theorem Ptrs.ks0 {M : Mp} {lo : Nat} {w : World} {a : Option Addr} {n c : Nat} {ps : List (Option Addr)} {ts : List T} (h : Ptrs w a n c ps) (hA : Are M ps ts) (hlo : ∀ ad, a = some ad → lo ≤ ad.block) : Ks0 M lo w a n c ts :=
 ⟨h.1, h.2.1, by rw [← hA.1]; exact h.2.2.1, h.2.2.2.1, fun j hj => by
  obtain ⟨b, off, e, hlt, hc⟩ := h.2.2.2.2 j hj
  exact ⟨b, off, _, e, hlt, Or.inr (hlo _ e), hc, hA.2 j (by rw [h.2.2.1]; exact hj)⟩⟩
theorem parts_br (f : Fin 16 → T) (j : Nat) (hj : j < 16) : (partsT (.br f)).getD j .nil = f ⟨j, hj⟩ := by
 show ((List.finRange 16).map f).getD j .nil = _
 rw [List.getD_eq_getElem?_getD, List.getElem?_map, List.getElem?_eq_getElem (by simpa using hj)]
 simp
theorem placed_any (M : Mp) (N : Nd) (hl : N.ks.length = 16) (pa : Option Addr) (pn pc : Nat) (ps : List (Option Addr)) (ts : List T) (hA : Are M ps ts)
  (hkd : N.kd = 1 ∧ ts = [] ∨ N.kd = 2 ∧ (∃ s, ts = [s]) ∨ N.kd = 3 ∧ ts.length = (kidsL N.ks).length) (ka : Option Addr) (kn kc : Nat) (w : World) (h : Ptrs w ka kn kc ps) (hn : kn ≤ 1000000) :
  Calls Tryz.prog 58 #[.agg (ndC N pa pn pc), .slice ka kn kc] w fun e w' => ∃ va vn vc, e = .returned (.slice va vn vc) ∧ Ks0 M w.heap.size w' va vn vc (partsT (makeT N ts)) ∧ Below w.heap.size w w' := by
 by_cases hk : N.kd = 3
 ·have hlen : ts.length = (kidsL N.ks).length := by rcases hkd with ⟨h1, _⟩ | ⟨h1, _⟩ | ⟨_, h2⟩; omega; omega; exact h2
  have hpl : ps.length = kn := h.2.2.1
  refine (placed_br N hk hl pa pn pc ps ka kn kc w h (by rw [← hlen, ← hA.1, hpl])).mono ?_
  rintro e w' ⟨g, rfl, hg, hO, hb⟩
  have hm : makeT N ts = .br (fillT N.ks ts) := by unfold makeT; rw [if_neg (by omega), if_neg (by omega)]
  have h16 : (fillRow N.ks ps 16).length = 16 := fillRow_len
  have hks := Ks0.row (M := M) (lo := w.heap.size) (l := partsT (makeT N ts)) hg hO (by rw [h16, hm]; simp [partsT]) (by rw [h16]; unfold maxLen; omega) (fun j hj => by
   rw [h16] at hj
   rw [fillRow_at j hj, hm, parts_br _ j hj]
   unfold fillP fillT
   by_cases h0 : (N.ks.getD j eB).size = 0
   ·rw [if_pos h0, if_pos h0]; rfl
   ·rw [if_neg h0, if_neg h0]
    by_cases hx : (kidsL (N.ks.take j)).length < ps.length
    ·exact hA.2 _ hx
    ·have e1 : ps.getD (kidsL (N.ks.take j)).length none = none := by rw [List.getD_eq_getElem?_getD, List.getElem?_eq_none (by omega)]; rfl
     have e2 : ts.getD (kidsL (N.ks.take j)).length .nil = .nil := by rw [List.getD_eq_getElem?_getD, List.getElem?_eq_none (by rw [← hA.1]; omega)]; rfl
     rw [e1, e2]
     rfl)
  rw [h16] at hks
  exact ⟨_, _, _, rfl, hks, hb⟩
 ·refine (placed_other N hk hl pa pn pc ps ka kn kc w h hn).mono ?_
  rintro e w' ⟨v, rfl, hR, hb⟩
  obtain ⟨a, c, rfl, hP, hlo⟩ := hR.ptrs
  refine ⟨_, _, _, rfl, ?_, hb⟩
  have hm : partsT (makeT N ts) = ts := by
   unfold makeT
   rcases hkd with ⟨h1, rfl⟩ | ⟨h1, s, rfl⟩ | ⟨h1, _⟩
   ·rw [if_pos h1]; rfl
   ·rw [if_neg (by omega), if_pos h1]; rfl
   ·exact absurd h1 hk
  rw [hm]
  exact hP.ks0 hA hlo
def MakeP (M : Mp) (w : World) (t : T) (c : Int) (e : Ending) (w' : World) : Prop := ∃ p M', e = .returned (.tuple #[tv p, .int .i64 c]) ∧ IsT M' p t ∧ Fr M M' w w' ∧ Inv M' w' ∧ Tab w'
theorem built_make (t : T) (k : Int) (v : ByteArray) (hk : kindT t = k) (hv : valT t = v) (hs : ¬ IsStub t) (a : Option Addr) (n c : Nat) (ka : Option Addr) (kn kc : Nat) :
  Tryz.prog.built 94 [(0, .int .i64 k), (1, .slice a n c), (2, .string v), (3, .slice ka kn kc)] = some (partC t a n c ka kn kc 0 (memo0 t)) := by
 subst hk hv
 rw [memo_eB hs]
 unfold partC
 generalize kindT t = k
 generalize valT t = v
 kernel_rfl
theorem make_end {M : Mp} {w w2 w5 w8 : World} {t : T} {e : Ending} {g : Nat} (hi : Inv M w) (hz : 0 < w.heap.size) (hb2 : Below w.heap.size w w2) (hO2 : Rg.Own w2 g #[.pointer none] 25) (hg : w.heap.size ≤ g) (f5 : Fr M M w2 w5) (t5 : Tab w5) (hG : GotT M w5 t e w8) :
  ∃ p, e = .returned (tv p) ∧ ∀ w9, Rg.Upd w8 g w9 → MakeP M w t 0 (.returned (.tuple #[tv p, .int .i64 0])) w9 := by
 obtain ⟨p, M', he, ht, f, i, b⟩ := hG
 have f28 := f5.trans (hi.below hb2) f
 have hn : ¬ M'.ft g := f28.box (hi.free hg) hO2.1 (no_byte hO2 (one_no _))
 have f8 := (Fr.below M hb2).trans hi f28
 exact ⟨p, he, fun w9 hu => ⟨p, M', rfl, ht, f8.upd hu hg, i.upd hu hn, fun i hi => by rw [World.cell?_of_block (hu.block 0 (by omega))]; exact (t5.below b t5.pos) i hi⟩⟩
structure Mk (N : Nd) (ts : List T) : Prop where
 ks : N.ks.length = 16
 may : mayW refP N = true
 v : N.v.size ≤ maxLen
 pl : N.p.length ≤ 64
 few : ∀ k ∈ N.ks, k.size ≤ 100
 fine : ∀ s ∈ ts, ∃ L, Tr.Good s L ∧ L ≤ 64 ∧ Fine s
 refs : kidsL N.ks = ts.map ref
 kd : N.kd = 1 ∧ ts = [] ∨ N.kd = 2 ∧ (∃ s, ts = [s] ∧ kindT s ≠ 1 ∧ kindT s ≠ 2) ∨ N.kd = 3 ∧ ts.length = (kidsL N.ks).length
 k : kindT (makeT N ts) = N.kd
 mv : valT (makeT N ts) = N.v
 mp : pathT (makeT N ts) = N.p
 ms : ¬ IsStub (makeT N ts)
 mn : makeT N ts ≠ .nil
theorem Mk.kd' {N : Nd} {ts : List T} (h : Mk N ts) : N.kd = 1 ∧ ts = [] ∨ N.kd = 2 ∧ (∃ s, ts = [s]) ∨ N.kd = 3 ∧ ts.length = (kidsL N.ks).length := by
 rcases h.kd with h | ⟨h, s, e, _⟩ | h
 ·exact .inl h
 ·exact .inr (.inl ⟨h, s, e⟩)
 ·exact .inr (.inr h)
theorem check_may {N : Nd} (hl : N.ks.length = 16) (hmay : mayW refP N = true) (hv : N.v.size ≤ maxLen) (hks : ∀ k ∈ N.ks, k.size ≤ 100) (a : Option Addr) (n c : Nat) (w : World) (hB : IsBs w a n c N.p) :
  Calls Tryz.prog 54 #[.agg (ndC N a n c)] w fun e w' => e = .returned (.int .i64 0) ∧ Below w.heap.size w w' := by
 have := check_any N a n c hl w hB hv (fun k hk => No.ref_any k (by have := hks k hk; omega))
 rw [hmay] at this
 exact this
end Tm
end
section
open Go.RowKit
namespace No
open Rl Ni
def RRefC (k : ByteArray) : Prop := ∀ w : World, Calls Tryz.prog 90 #[.string k] w fun e w' => e = .returned (.bool (refP k)) ∧ Below w.heap.size w w'
def RGetC (s : ByteArray) : Prop := ∀ w : World, Calls Tryz.prog 23 #[.string s] w (ReadPost w (getP s.data.toList))
theorem rref_of (k : ByteArray) (hk : k.size ≤ 9223372036854775807) (h : k.size < 32 → RGetC k) : RRefC k := by
 intro w
 by_cases h0 : k.size = 0
 ·obtain rfl := size_zero h0
  have HF : Hid (refP eB = true) := hid (by unfold refP; rw [eB_plain]; rfl)
  rw [HF.out]
  clear h
  go_enter Tryz.func90, Tryz.ntmps90
  go_wp2
  go_ret
  exact ⟨rfl, Below.refl _ _⟩
 ·have hne := Ni.not_empty (s := k) (by omega)
  by_cases h32 : k.size = 32
  ·have hq : ((k.size : Int) == 32) = true := by simp; omega
   have HF : Hid (refP k = true) := hid (by unfold refP plainB; simp [h32])
   rw [HF.out]
   clear h
   go_enter Tryz.func90, Tryz.ntmps90
   go_wp2
   go_ret
   exact ⟨rfl, Below.refl _ _⟩
  ·have hq : ((k.size : Int) == 32) = false := by simp; omega
   by_cases hlt : k.size < 32
   ·have HF : Hid (refP k = (getP k.data.toList).isSome) := hid (by unfold refP plainB; simp [h32, h0, hlt])
    have HG := hid (h hlt w)
    rw [HF.out]
    obtain ⟨r, hr⟩ : ∃ r, getP k.data.toList = r := ⟨_, rfl⟩
    rw [hr] at HG ⊢
    have d31 : decide (31 < (k.size : Int)) = false := by simp; omega
    clear h hr HF
    go_enter Tryz.func90, Tryz.ntmps90
    go_wp2_with fail
    refine HG.out.mono ?_
    rintro e w3 ⟨N, a3, n3, c3, b, rfl, hr3, hx3, hl3, hb3⟩
    have HO : Hid (OwnN (w3.alloc (.cells (ndC nd0 none 0 0) 58)) w3.heap.size nd0 none 0 0) := hid (Rg.Own.new _ _ _)
    have HB := hid (bst hb3 (al1 w3 (.cells (ndC nd0 none 0 0) 58)))
    have HL := hid hl3
    have hge := hb3.size
    clear hx3 hl3 hb3 HG
    go_wp2_with (first
     | (refine Rg.run rfl _ _ (run_alloc_nd _ _ _ w3.heap.size rfl rfl) ?_)
     | (refine wpl_store_nd HO.out rfl N a3 n3 c3 HL.out rfl _ _ rfl rfl rfl rfl ?_))
    go_ret
    rcases hr3 with ⟨rfl, rfl⟩ | ⟨rfl, rfl⟩
    ·exact ⟨rfl, below_rowN HB.out hge _⟩
    ·exact ⟨rfl, below_rowN HB.out hge _⟩
   ·have HF : Hid (refP k = false) := hid (by unfold refP plainB; simp [h32, h0, hlt])
    rw [HF.out]
    have d31 : decide (31 < (k.size : Int)) = true := by simp; omega
    clear h
    go_enter Tryz.func90, Tryz.ntmps90
    go_wp2
    go_ret
    exact ⟨rfl, Below.refl _ _⟩
theorem may_refs {n : Nd} (hl : n.ks.length = 16) (h : mayW refP n = true) : ∀ k ∈ n.ks, refP k = true := by
 have hz : ∀ k : ByteArray, k.size = 0 → refP k = true := fun k hk => by unfold refP plainB; simp [hk]
 rcases may_kinds hl h with ⟨_, _, _, k3⟩ | ⟨_, _, _, k3, k4, k5⟩ | ⟨_, _, _, _, k5⟩
 ·intro k hk
  rw [kidsL_nil k3] at hk
  rw [List.eq_of_mem_replicate hk]
  exact hz _ rfl
 ·intro k hk
  rw [kids_one hl k3 k4] at hk
  unfold one16 at hk
  rcases List.mem_cons.1 hk with e | e
  ·rw [e]; exact k5
  ·rw [List.eq_of_mem_replicate e]; exact hz _ rfl
 ·exact k5
theorem may_all {n : Nd} (hl : n.ks.length = 16) (h : ∀ k ∈ n.ks, refP k = true) : mayW refP n = (decide (n.p.length ≤ 64) && rightB n.p &&
  (if n.kd = 1 then decide (n.v.size ≠ 0) && decide (n.v.size ≤ 65552) && decide ((kidsL n.ks).length = 0) else
   if n.kd = 2 then decide (n.v.size = 0) && decide (0 < n.p.length) && decide ((n.ks.getD 0 eB).size ≠ 0) && decide ((kidsL n.ks).length = 1) else
   if n.kd = 3 then decide (n.v.size = 0) && decide (n.p.length = 0) && decide (2 ≤ (kidsL n.ks).length) else false)) := by
 have h0 : refP (n.ks.getD 0 eB) = true := h _ (by rw [List.getD_eq_getElem?_getD, List.getElem?_eq_getElem (by omega)]; exact List.getElem_mem _)
 have h1 : (kidsL n.ks).all refP = true := List.all_eq_true.2 fun k hk => h k (List.mem_filter.1 hk).1
 unfold mayW fitsW
 rw [h0, h1]
 congr 1
 split
 ·rfl
 ·split
  ·rw [Bool.and_true]
   generalize decide (0 < n.p.length) = A
   generalize decide (n.v.size = 0) = B
   generalize decide ((kidsL n.ks).length = 1) = C
   generalize decide ((n.ks.getD 0 eB).size ≠ 0) = D
   cases A <;> cases B <;> cases C <;> cases D <;> rfl
  ·split
   ·rw [Bool.and_true]
    generalize decide (n.p.length = 0) = A
    generalize decide (n.v.size = 0) = B
    cases A <;> cases B <;> rfl
   ·rfl
theorem may_long {n : Nd} (h : ¬ n.p.length ≤ 64) : mayW refP n = false := by unfold mayW; simp [h]
theorem may_bad {n : Nd} (h : rightB n.p = false) : mayW refP n = false := by unfold mayW; simp [h]
theorem rmay_any (N : Nd) (a : Option Addr) (n c : Nat) (hl : N.ks.length = 16) (w : World) (hB : IsBs w a n c N.p) (hv : N.v.size ≤ maxLen) (hR : ∀ k ∈ N.ks, RRefC k) :
  Calls Tryz.prog 51 #[.agg (ndC N a n c)] w fun e w' => e = .returned (.bool (mayW refP N)) ∧ Below w.heap.size w w' := by
 have hp := hB.len
 have hm := hB.2.1
 have hnc := hB.1
 have HO : Hid (OwnN (w.alloc (.cells (ndC N a n c) 58)) w.heap.size N a n c) := hid (Rg.Own.new _ _ _)
 have HBe := hid (al1 w (.cells (ndC N a n c) 58))
 have HRi := hid (rright_any a n c N.p (w.alloc (.cells (ndC N a n c) 58)) (hB.below (al1 _ _)))
 obtain ⟨c0, c1, c2⟩ := nd_cells HO.out
 have HL := hid hl
 have HP := hid hp
 have HRR := hid hR
 unfold maxLen at hm hv
 have HA := hid (fun h => may_all (n := N) hl h)
 have HM := hid (fun h => may_refs (n := N) hl h)
 have HG := hid (fun h => may_long (n := N) h)
 have HD := hid (fun h => may_bad (n := N) h)
 rw [hp] at HA HG
 obtain ⟨F, hF⟩ : ∃ F, mayW refP N = F := ⟨_, rfl⟩
 rw [hF] at HA HM HG HD ⊢
 obtain ⟨R, hRb⟩ : ∃ R, rightB N.p = R := ⟨_, rfl⟩
 rw [hRb] at HRi HA HD
 clear hB hp hl hR hF hRb
 cases R with
 | false =>
  obtain rfl := HD.out rfl
  go_enter Tryz.func51, Tryz.ntmps51
  go_wp2_with fail
  refine HRi.out.mono ?_
  rintro e w3 ⟨rfl, rfl⟩
  go_wp2
  go_ret
  exact ⟨rfl, HBe.out⟩
 | true =>
  by_cases h64 : n ≤ 64
  ·have d64 : decide (64 < (n : Int)) = false := by simp; omega
   go_enter Tryz.func51, Tryz.ntmps51
   go_wp2_with fail
   refine HRi.out.mono ?_
   rintro e w3 ⟨rfl, rfl⟩
   clear HRi
   go_wp2
   clear c0 c1 c2
   go_loopw [3] (fun i wr => ∃ j : Nat, j ≤ 16 ∧ i = .int .i64 j ∧ Hid (∀ k ∈ N.ks.take j, refP k = true) ∧ Hid (Below (w.heap.size + 1) (w.alloc (.cells (ndC N a n c) 58)) wr)) (fun i _ => 16 - (intOf i).toNat)
   case atStart => exact ⟨0, Nat.zero_le _, rfl, hid (fun k hk => by simp at hk), hid (Below.refl _ _)⟩
   case round =>
    obtain ⟨j, hj, rfl, HJ, HB⟩ := hrel
    have HOr := hid (HO.out.below (HB.out.mono (by simp)))
    have HBr := hid (of_al HB.out)
    by_cases hlt : j < 16
    ·have hck := nd_kid HOr.out HL.out j hlt
     have HMem : Hid (N.ks.getD j eB ∈ N.ks) := hid (by rw [List.getD_eq_getElem?_getD, List.getElem?_eq_getElem (by rw [HL.out]; exact hlt)]; exact List.getElem_mem _)
     have HC := hid (HRR.out _ HMem.out wr)
     have HT : Hid (refP (N.ks.getD j eB) = true → ∀ k ∈ N.ks.take (j + 1), refP k = true) := hid (fun h k hk => by
      rw [List.take_succ_eq_append_getElem (by rw [HL.out]; exact hlt)] at hk
      rcases List.mem_append.1 hk with e | e
      ·exact HJ.out k e
      ·rw [List.mem_singleton.1 e]
       rw [List.getD_eq_getElem?_getD, List.getElem?_eq_getElem (by rw [HL.out]; exact hlt)] at h
       exact h)
     have HN : Hid (refP (N.ks.getD j eB) = false → F = false) := hid (fun h => by
      cases F with
      | false => rfl
      | true => exact absurd (HM.out rfl _ HMem.out) (by rw [h]; decide))
     obtain ⟨K, hK⟩ : ∃ K, N.ks.getD j eB = K := ⟨_, rfl⟩
     rw [hK] at hck HC HT HN
     obtain ⟨RK, hRK⟩ : ∃ RK, refP K = RK := ⟨_, rfl⟩
     rw [hRK] at HC HT HN
     clear hK hRK HMem HJ
     go_wp2_with fail
     refine HC.out.mono ?_
     rintro e w5 ⟨rfl, hb5⟩
     have HB5 := hid (al_step HB.out hb5)
     have HB5' := hid (of_al HB5.out)
     clear hb5 HC HB hck HOr HBr
     cases RK with
     | true =>
      go_wp2
      go_roundw
      case rel => exact ⟨j + 1, by omega, by go_num, hid (HT.out (by first | rfl | trivial)), HB5⟩
      case measure => simp [intOf]; omega
     | false =>
      obtain rfl := HN.out (by first | rfl | trivial)
      go_wp2
      go_ret
      exact ⟨rfl, HB5'.out⟩
    ·obtain rfl : j = 16 := by omega
     have e : N.ks.take 16 = N.ks := List.take_of_length_le (by rw [HL.out]; exact Nat.le_refl _)
     have HE := hid (HA.out (fun k hk => HJ.out k (by rw [e]; exact hk)))
     have HRk := hid (fun w => rkids_any N a n c HL.out w)
     obtain ⟨c0, c1, c2⟩ := nd_cells HOr.out
     have ck := nd_kid HOr.out HL.out 0 (by decide)
     have hkl := kidsL_len N.ks 16
     rw [e] at hkl
     obtain ⟨Q, hQ⟩ : ∃ Q, (kidsL N.ks).length = Q := ⟨_, rfl⟩
     obtain ⟨K, hK⟩ : ∃ K, N.ks.getD 0 eB = K := ⟨_, rfl⟩
     obtain ⟨V, hV⟩ : ∃ V, N.v = V := ⟨_, rfl⟩
     rw [hQ] at HE HRk hkl
     rw [hK] at HE ck
     rw [hV] at HE c2 hv
     clear e HJ HM HA HG HD hQ hK hV HB
     by_cases hkd : N.kd = 1
     ·rw [hkd] at c0
      rw [if_pos hkd] at HE
      by_cases hv0 : V.size = 0
      ·have d1 : decide (1 ≤ (V.size : Int)) = false := by simp; omega
       go_wp2
       go_ret
       exact ⟨by rw [HE.out]; simp [hv0], HBr.out⟩
      ·have d1 : decide (1 ≤ (V.size : Int)) = true := by simp; omega
       by_cases hv2 : V.size ≤ 65552
       ·have d2 : decide ((V.size : Int) ≤ 65552) = true := by simp; omega
        go_wp2_with (refine Rg.runW (by rfl) _ _ (op_load_nd HOr.out HL.out ?_) ?_; · exact ⟨_, rfl, rfl⟩)
        refine (HRk.out _).mono ?_
        rintro e w6 ⟨rfl, hb6⟩
        have HB6 := hid (bst HBr.out hb6)
        clear hb6
        by_cases hq : Q = 0
        ·subst hq
         go_wp2
         go_ret
         exact ⟨by rw [HE.out]; simp [hv0, hv2, h64], HB6.out⟩
        ·have dq : ((Q : Int) == 0) = false := by simp; omega
         go_wp2
         go_ret
         exact ⟨by rw [HE.out]; simp [hq], HB6.out⟩
       ·have d2 : decide ((V.size : Int) ≤ 65552) = false := by simp; omega
        go_wp2
        go_ret
        exact ⟨by rw [HE.out]; simp [hv2], HBr.out⟩
     ·rw [if_neg hkd] at HE
      have hk1 : (N.kd == 1) = false := by simp; exact hkd
      clear hkd
      by_cases hkd : N.kd = 2
      ·rw [hkd] at c0
       rw [if_pos hkd] at HE
       by_cases hv0 : V.size = 0
       ·obtain rfl := size_zero hv0
        by_cases hn0 : 0 < n
        ·have dn : decide (0 < (n : Int)) = true := by simp; omega
         by_cases hz : K.size = 0
         ·obtain rfl := size_zero hz
          go_wp2
          go_ret
          exact ⟨by rw [HE.out]; rw [show decide (eB.size ≠ 0) = false from rfl, Bool.and_false, Bool.false_and, Bool.and_false]; rfl, HBr.out⟩
         ·have hkn := Ni.not_empty (s := K) (by omega)
          go_wp2_with (refine Rg.runW (by rfl) _ _ (op_load_nd HOr.out HL.out ?_) ?_; · exact ⟨_, rfl, rfl⟩)
          refine (HRk.out _).mono ?_
          rintro e w6 ⟨rfl, hb6⟩
          have HB6 := hid (bst HBr.out hb6)
          clear hb6
          by_cases hq : Q = 1
          ·subst hq
           go_wp2
           go_ret
           exact ⟨by rw [HE.out]; simp [hn0, hz, h64]; rfl, HB6.out⟩
          ·have dq : ((Q : Int) == 1) = false := by simp; omega
           go_wp2
           go_ret
           exact ⟨by rw [HE.out]; simp [hq], HB6.out⟩
        ·obtain rfl : n = 0 := by omega
         go_wp2
         go_ret
         exact ⟨by rw [HE.out]; simp, HBr.out⟩
       ·have hvn := Ni.not_empty (s := V) (by omega)
        go_wp2
        go_ret
        exact ⟨by rw [HE.out]; simp [hv0], HBr.out⟩
      ·rw [if_neg hkd] at HE
       have hk2 : (N.kd == 2) = false := by simp; exact hkd
       clear hkd
       by_cases hkd : N.kd = 3
       ·rw [hkd] at c0
        rw [if_pos hkd] at HE
        by_cases hv0 : V.size = 0
        ·obtain rfl := size_zero hv0
         by_cases hn0 : n = 0
         ·subst hn0
          go_wp2_with (refine Rg.runW (by rfl) _ _ (op_load_nd HOr.out HL.out ?_) ?_; · exact ⟨_, rfl, rfl⟩)
          refine (HRk.out _).mono ?_
          rintro e w6 ⟨rfl, hb6⟩
          have HB6 := hid (bst HBr.out hb6)
          clear hb6
          by_cases hq : 2 ≤ Q
          ·have dq : decide (2 ≤ (Q : Int)) = true := by simp; omega
           go_wp2
           go_ret
           exact ⟨by rw [HE.out]; simp [hq]; rfl, HB6.out⟩
          ·have dq : decide (2 ≤ (Q : Int)) = false := by simp; omega
           go_wp2
           go_ret
           exact ⟨by rw [HE.out]; simp [hq], HB6.out⟩
         ·have dn : ((n : Int) == 0) = false := by simp; omega
          go_wp2
          go_ret
          exact ⟨by rw [HE.out]; simp [hn0], HBr.out⟩
        ·have hvn := Ni.not_empty (s := V) (by omega)
         go_wp2
         go_ret
         exact ⟨by rw [HE.out]; simp [hv0], HBr.out⟩
       ·rw [if_neg hkd] at HE
        have hk3 : (N.kd == 3) = false := by simp; exact hkd
        go_wp2
        go_ret
        exact ⟨by rw [HE.out]; simp, HBr.out⟩
  ·have d64 : decide (64 < (n : Int)) = true := by simp; omega
   obtain rfl := HG.out h64
   go_enter Tryz.func51, Tryz.ntmps51
   go_wp2_with fail
   refine HRi.out.mono ?_
   rintro e w3 ⟨rfl, rfl⟩
   go_wp2
   go_ret
   exact ⟨rfl, HBe.out⟩
def kidR (x : It) : ByteArray × Bool := if x.l then (if x.bytes.length < 32 then (⟨x.bytes.toArray⟩, refP ⟨x.bytes.toArray⟩) else (eB, false)) else (x.s, refP x.s)
theorem rkid_text (s : ByteArray) (w : World) (a : Option Addr) (n c : Nat) (hR : RRefC s) (_hs : s.size ≤ 1000000) :
  Calls Tryz.prog 52 #[.agg #[.bool false, .string s, .slice a n c]] w fun e w' => e = .returned (.tuple #[.string s, .bool (refP s)]) ∧ Below w.heap.size w w' := by
 have hO : Rg.Own (w.alloc (.cells #[.bool false, .string s, .slice a n c] 101)) w.heap.size (itC (.mk false s []) a n c) 101 := Rg.Own.new _ _ _
 obtain ⟨c0, c1, c2⟩ := lies_row hO.2
 have HB := hid (al1 w (.cells #[.bool false, .string s, .slice a n c] 101))
 have HR := hid (fun w => hR w)
 obtain ⟨RK, hRK⟩ : ∃ RK, refP s = RK := ⟨_, rfl⟩
 rw [hRK] at HR ⊢
 dsimp only [It.l, It.s] at c0 c1
 clear hO hRK hR
 go_enter Tryz.func52, Tryz.ntmps52
 go_wp2_with fail
 refine (HR.out _).mono ?_
 rintro e w3 ⟨rfl, hb3⟩
 have HB3 := hid (bst HB.out hb3)
 clear hb3
 go_wp2
 go_ret2
 exact ⟨rfl, HB3.out⟩
theorem rkid_list (s : ByteArray) (xs : List It) (w : World) (a : Option Addr) (n c : Nat) (hv : IsIts w xs a n c) (hG : Good (.mk true s xs)) (h1 : (It.mk true s xs).bytes.length < 32 → RRefC ⟨(It.mk true s xs).bytes.toArray⟩) :
  Calls Tryz.prog 52 #[.agg #[.bool true, .string s, .slice a n c]] w fun e w' => e = .returned (.tuple #[.string (kidR (.mk true s xs)).1, .bool (kidR (.mk true s xs)).2]) ∧ Below w.heap.size w w' := by
 obtain ⟨w1, hw1⟩ : ∃ w1, w1 = w.alloc (.cells #[.bool true, .string s, .slice a n c] 101) := ⟨_, rfl⟩
 have hb1 : Below w.heap.size w w1 := by rw [hw1]; exact al1 _ _
 have hO : Rg.Own w1 w.heap.size (itC (.mk true s xs) a n c) 101 := by rw [hw1]; exact Rg.Own.new _ _ _
 obtain ⟨c0, c1, c2⟩ := lies_row hO.2
 have HB := hid hb1
 have HO := hid hO
 have hP : Calls Tryz.prog 92 #[.agg (itC (.mk true s xs) a n c)] w1 _ := rput_any (.mk true s xs) 0 w1 (itV (.mk true s xs) a n c) ⟨a, n, c, rfl, hv.stays hb1⟩ hG.1 hG.2.2.1
 have hsz := hG.2.2.1
 have hbs : (⟨(It.mk true s xs).bytes.toArray⟩ : ByteArray).size = (It.mk true s xs).bytes.length := ba_size _
 unfold kidR
 rw [if_pos (show (It.mk true s xs).l = true from rfl)]
 dsimp only [It.l, It.s] at c0 c1
 by_cases hlt : (It.mk true s xs).bytes.length < 32
 ·have hR := h1 hlt
  rw [if_pos hlt]
  dsimp only
  obtain ⟨S, hS⟩ : ∃ S, (⟨(It.mk true s xs).bytes.toArray⟩ : ByteArray) = S := ⟨_, rfl⟩
  obtain ⟨RK, hRK⟩ : ∃ RK, refP S = RK := ⟨_, rfl⟩
  unfold RRefC at hR
  rw [hS] at hR hP hbs
  rw [hS, hRK]
  rw [hRK] at hR
  have HR := hid (fun w => hR w)
  have HP := hid hP
  have d31 : decide (31 < (S.size : Int)) = false := by simp; omega
  clear h1 hv hG hb1 hO hP hsz hRK hS hR
  subst hw1
  go_enter Tryz.func52, Tryz.ntmps52
  go_wp2_with (refine Rg.run rfl _ _ (op_load_it HO.out ⟨_, rfl, rfl⟩) ?_)
  with_reducible refine HP.out.mono ?_
  rintro e w3 ⟨rfl, hb3⟩
  have HB3 := hid (bst HB.out hb3)
  clear hb3 HP
  go_wp2_with fail
  refine (HR.out _).mono ?_
  rintro e w4 ⟨rfl, hb4⟩
  have HB4 := hid (bst HB3.out hb4)
  clear hb4
  go_wp2
  go_ret2
  exact ⟨rfl, HB4.out⟩
 ·rw [if_neg hlt]
  dsimp only
  obtain ⟨S, hS⟩ : ∃ S, (⟨(It.mk true s xs).bytes.toArray⟩ : ByteArray) = S := ⟨_, rfl⟩
  rw [hS] at hP hbs
  have HP := hid hP
  have d31 : decide (31 < (S.size : Int)) = true := by simp; omega
  clear h1 hv hG hb1 hO hS hP
  subst hw1
  go_enter Tryz.func52, Tryz.ntmps52
  go_wp2_with (refine Rg.run rfl _ _ (op_load_it HO.out ⟨_, rfl, rfl⟩) ?_)
  with_reducible refine HP.out.mono ?_
  rintro e w3 ⟨rfl, hb3⟩
  have HB3 := hid (bst HB.out hb3)
  clear hb3 HP
  go_wp2
  go_ret2
  exact ⟨rfl, HB3.out⟩
theorem rkid_any (x : It) (w : World) (a : Option Addr) (n c : Nat) (hv : IsIts w x.xs a n c) (hG : Good x) (h1 : x.l = true → x.bytes.length < 32 → RRefC ⟨x.bytes.toArray⟩) (h2 : x.l = false → RRefC x.s) :
  Calls Tryz.prog 52 #[itV x a n c] w fun e w' => e = .returned (.tuple #[.string (kidR x).1, .bool (kidR x).2]) ∧ Below w.heap.size w w' := by
 cases x with
 | mk l s xs =>
  cases l with
  | true => exact rkid_list s xs w a n c hv hG (h1 rfl)
  | false =>
   obtain rfl : xs = [] := by
    have := text_of' hG.1 rfl
    exact congrArg It.xs this
   have hk : kidR (.mk false s []) = (s, refP s) := rfl
   rw [hk]
   exact rkid_text s w a n c (h2 rfl) hG.2.2.2
end No
end
section
open Go.RowKit
namespace No
open Rl Ni
theorem kidR_of {x : It} {k : ByteArray} (h : kidP x = some k) (hr : refP k = true) : kidR x = (k, true) := by
 unfold kidP at h
 unfold kidR
 split at h
 ·rename_i hl
  rw [if_pos hl]
  split at h
  ·rename_i hb
   obtain rfl := Option.some.inj h
   rw [if_pos hb, hr]
  ·cases h
 ·rename_i hl
  rw [if_neg hl]
  split at h
  ·obtain rfl := Option.some.inj h
   rw [hr]
  ·cases h
theorem allK_kidR : ∀ {l : List It} {ks : List ByteArray}, allK l = some ks → (∀ k ∈ ks, refP k = true) → l.map kidR = ks.map fun k => (k, true)
 | [], ks, h, _ => by obtain rfl := Option.some.inj h; rfl
 | x :: l, ks, h, hr => by
  unfold allK at h
  cases hk : kidP x with
  | none => rw [hk] at h; cases h
  | some k =>
   rw [hk] at h
   dsimp only at h
   cases ha : allK l with
   | none => rw [ha] at h; cases h
   | some ks' =>
    rw [ha] at h
    obtain rfl := Option.some.inj h
    rw [List.map_cons, List.map_cons, kidR_of hk (hr k List.mem_cons_self), allK_kidR ha (fun q hq => hr q (List.mem_cons_of_mem _ hq))]
theorem get_if {s : List UInt8} (hs : s.length ≤ 1000000) {N : Nd} (hl : N.ks.length = 16) (h : ∀ M, getP s = some M → M = N) : getP s = if mayW refP N = true ∧ putP N = s then some N else none := by
 by_cases hc : mayW refP N = true ∧ putP N = s
 ·rw [if_pos hc]
  have := get_put hl hc.1
  rw [hc.2] at this
  exact this
 ·rw [if_neg hc]
  cases hg : getP s with
  | none => rfl
  | some M =>
   obtain rfl := h M hg
   obtain ⟨_, h2, h3, _⟩ := whole_get hs hg
   exact absurd ⟨h3, h2⟩ hc
theorem whole_err {s : List UInt8} {c : Int} (h : readL s 0 0 = .error c) : wholeL s = .error c := by
 unfold wholeL
 rw [h]
theorem whole_long {s : List UInt8} {x : It} {n k : Nat} (h : readL s 0 0 = .ok (x, n, k)) (hn : n < s.length) : wholeL s = .error 6 := by
 unfold wholeL
 rw [h]
 exact if_pos hn
theorem whole_is {s : List UInt8} {x : It} {n k : Nat} (h : readL s 0 0 = .ok (x, n, k)) (hn : ¬ n < s.length) : wholeL s = .ok x := by
 unfold wholeL
 rw [h]
 exact if_neg hn
theorem get_err {s : List UInt8} (hs : s.length ≤ 1000000) {c : Int} (hw : wholeL s = .error c) : getP s = none := by rw [getP_eq s (by omega), hw]
theorem get_few {s : List UInt8} (hs : s.length ≤ 1000000) {x : It} (hw : wholeL s = .ok x) (h2 : x.xs.length ≠ 2) (h17 : x.xs.length ≠ 17) : getP s = none := by
 rw [getP_eq s (by omega), hw]
 dsimp only
 rw [show readP x.xs = none by unfold readP; rw [if_neg h2, if_neg h17]]
theorem get_bad {s : List UInt8} (hs : s.length ≤ 1000000) {x : It} (hw : wholeL s = .ok x) (h2 : x.xs.length = 2) (hb : (x.xs.getD 0 it0).s.size = 0 ∨ Bad (x.xs.getD 0 it0).s) : getP s = none := by
 rw [getP_eq s (by omega), hw]
 dsimp only
 rw [show readP x.xs = none by unfold readP readPathP; rw [if_pos h2, if_pos hb]]
def leafN (y z : It) : Nd := ⟨1, pathL y.s, z.s, zks⟩
theorem get_leaf {s : List UInt8} (hs : s.length ≤ 1000000) {x : It} (hw : wholeL s = .ok x) (h2 : x.xs.length = 2) (hb : ¬ ((x.xs.getD 0 it0).s.size = 0 ∨ Bad (x.xs.getD 0 it0).s)) (hlf : leafB (x.xs.getD 0 it0).s = true) :
  getP s = if mayW refP (leafN (x.xs.getD 0 it0) (x.xs.getD 1 it0)) = true then some (leafN (x.xs.getD 0 it0) (x.xs.getD 1 it0)) else none := by
 rw [getP_eq s (by omega), hw]
 dsimp only
 rw [show readP x.xs = some (leafN (x.xs.getD 0 it0) (x.xs.getD 1 it0)) by unfold readP readPathP; rw [if_pos h2, if_neg hb, if_pos hlf]; rfl]
theorem leaf_text {y z : It} {d : Nat} (hf : Fits d z) (hm : mayW refP (leafN y z) = true) : z.l = false := by
 rcases may_kinds (n := leafN y z) zks_length hm with ⟨_, h, _⟩ | ⟨h, _⟩ | ⟨h, _⟩
 ·exact congrArg It.l (text_of hf h)
 ·exact absurd (show (1 : Int) = 2 from h) (by decide)
 ·exact absurd (show (1 : Int) = 3 from h) (by decide)
def extN (y z : It) : Nd := ⟨2, pathL y.s, eB, one16 (kidR z).1⟩
theorem extN_length (y z : It) : (extN y z).ks.length = 16 := one16_length _
theorem get_ext {s : List UInt8} (hs : s.length ≤ 1000000) {x : It} (hw : wholeL s = .ok x) (h2 : x.xs.length = 2) (hb : ¬ ((x.xs.getD 0 it0).s.size = 0 ∨ Bad (x.xs.getD 0 it0).s)) (hlf : leafB (x.xs.getD 0 it0).s = false) :
  ∀ M, getP s = some M → (kidR (x.xs.getD 1 it0)).2 = true ∧ M = extN (x.xs.getD 0 it0) (x.xs.getD 1 it0) := by
 intro M hM
 obtain ⟨x', hw', hr, hm⟩ := getP_some (by omega) hM
 obtain rfl := ok_inj (hw.symm.trans hw')
 unfold readP readPathP at hr
 rw [if_pos h2, if_neg hb, if_neg (by rw [hlf]; decide)] at hr
 obtain ⟨k, hk, rfl⟩ := Option.map_eq_some_iff.1 hr
 have := kidR_of hk (may_refs (one16_length k) hm k List.mem_cons_self)
 unfold extN
 rw [this]
 exact ⟨rfl, rfl⟩
def brN (xs : List It) : Nd := ⟨3, [], eB, (xs.take 16).map fun x => (kidR x).1⟩
theorem brN_length {xs : List It} (h : xs.length = 17) : (brN xs).ks.length = 16 := by simp [brN, h]
theorem get_branch {s : List UInt8} (hs : s.length ≤ 1000000) {x : It} (hw : wholeL s = .ok x) (h17 : x.xs.length = 17) :
  ∀ M, getP s = some M → (∀ y ∈ x.xs.take 16, (kidR y).2 = true) ∧ M = brN x.xs := by
 intro M hM
 obtain ⟨x', hw', hr, hm⟩ := getP_some (by omega) hM
 obtain rfl := ok_inj (hw.symm.trans hw')
 unfold readP readBranchP at hr
 rw [if_neg (by omega), if_pos h17] at hr
 cases ha : allK (x.xs.take 16) with
 | none => rw [ha] at hr; cases hr
 | some ks =>
  rw [ha] at hr
  dsimp only at hr
  split at hr
  ·obtain rfl := Option.some.inj hr
   have hkl : ks.length = 16 := by rw [allK_len ha]; simp [h17]
   have hrf := may_refs hkl hm
   have hmap := allK_kidR ha hrf
   refine ⟨fun y hy => ?_, ?_⟩
   ·have h1 : kidR y ∈ (x.xs.take 16).map kidR := List.mem_map_of_mem hy
    rw [hmap] at h1
    obtain ⟨k, _, h1⟩ := List.mem_map.1 h1
    rw [← h1]
   ·have h1 := congrArg (List.map Prod.fst) hmap
    rw [List.map_map, List.map_map] at h1
    unfold brN
    have h2 : ((x.xs.take 16).map fun x => (kidR x).1) = ks := by
     have e1 : (Prod.fst ∘ kidR) = fun x => (kidR x).1 := rfl
     have e2 : (Prod.fst ∘ fun k : ByteArray => (k, true)) = id := rfl
     rw [e1, e2, List.map_id] at h1
     exact h1
    rw [h2]
  ·cases hr
end No
end
end Go.Proofs.YtgolhnfkmmajpaaGreatDoor
