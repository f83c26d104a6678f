/-
 The contract of the laws' own Pairs.
-/
import Derived.Test.YtgolhnfkmmajpaaGreatDoorMb17
import Derived.Test.YtgolhnfkmmajpaaGreatDoorMb23
import Derived.Test.YtgolhnfkmmajpaaGreatDoorMb24
import Derived.Test.YtgolhnfkmmajpaaGreatDoorMb16
import Derived.Deep.DeepCutAuto
import Derived.Test.YtgolhnfkmmajpaaGreatDoorMb15
import Derived.Test.YtgolhnfkmmajpaaGreatDoorMb20
open Go.Lib (hid)
set_option linter.unusedSimpArgs false
set_option linter.unusedVariables false
set_option maxHeartbeats 40000000
set_option maxRecDepth 100000
namespace Go.Proofs.YtgolhnfkmmajpaaGreatDoor
section
open Go.RowKit
namespace Tm
open Tr Ni Pk Ky
theorem pairs_snoc {l : List Tr.Pair} {j : Nat} (hj : j < l.length) (h24 : j < 24) : pairsL (l.take (j + 1)) = pairsL (l.take j) ++ [fixP (l.getD j ([], eB))] := by
 unfold pairsL
 rw [List.take_take, List.take_take, show min 24 (j + 1) = j + 1 by omega, show min 24 j = j by omega, take_at hj, List.map_append]
 rfl
theorem pairs_cut {l : List Tr.Pair} : pairsL (l.take 24) = pairsL l := by
 unfold pairsL
 rw [List.take_take, Nat.min_self]
theorem pairs_any (l : List Tr.Pair) (a : Option Addr) (n c : Nat) (w : World) (h : IsPs w a n c l) :
  Calls Tryz.prog 18 #[.slice a n c] w (GotPs w (pairsL l)) := by
 obtain ⟨i0, z0, hi, hz, hsz, hby, hzc⟩ := info_pair_parts
 have HI : Hid (_ ∧ _ ∧ _ ∧ _ ∧ _) := hid ⟨hi, hz, hsz, hby, hzc⟩
 have hcap := h.1
 have hmx := h.2.1
 unfold maxLen at hmx
 have H := hid h
 have HL := hid h.len
 clear h hi hz hsz hby hzc
 go_enter Tryz.func18, Tryz.ntmps18
 go_wp2_with fail
 go_loopw [3, 4] (fun v i wr => ∃ j : Nat, j ≤ n ∧ j ≤ 24 ∧ i = .int .i64 j ∧ Hid (wr.ownsRow w.heap.size 43 33 v (pairsL (l.take j)).length (rowP (pairsL (l.take j)))) ∧ Hid (Below w.heap.size w wr)) (fun _ i _ => n - (intOf i).toNat)
 case atStart => exact ⟨0, Nat.zero_le _, Nat.zero_le _, rfl, hid (World.ownsRow_nil _ _ _ _), hid (Below.refl _ _)⟩
 case round =>
  obtain ⟨j, hjn, hj24', rfl, HR, HB⟩ := hrel
  have hlen : (pairsL (l.take j)).length ≤ 24 := pairs_len _
  by_cases hlt : j < n ∧ j < 24
  ·obtain ⟨hlt, hj24⟩ := hlt
   have i1 : (j : Int) < n := by omega
   have i2 : (j : Int) < 24 := by omega
   have HJ : Hid (j < l.length) := hid (by rw [HL.out]; exact hlt)
   obtain ⟨b, off, rfl, hblt, hpa, hk⟩ := H.out.at' j hlt
   obtain ⟨x, hx⟩ : ∃ x, l.getD j ([], eB) = x := ⟨_, rfl⟩
   rw [hx] at hpa hk
   have HX := hid hx
   have HPr := hid (hpa.below HB.out)
   have hNew := Rg.Own.new wr (pairA (List.replicate 32 0, eB)) 43
   have HN := hid hNew
   have HZ : Hid (((List.replicate 32 0, eB) : Tr.Pair).1.length = 32) := hid rfl
   obtain ⟨k, v⟩ := x
   have HKx : Hid (k.length = 32) := hid hk
   clear hx hpa hk hNew hblt
   by_cases hv0 : v.size = 0
   ·obtain rfl := No.size_zero hv0
    have s1 : decide ((100 : Int) < (sv.size : Int)) = false := rfl
    have HF : Hid (pairsL (l.take (j + 1)) = pairsL (l.take j) ++ [(k, sv)]) := hid (by rw [pairs_snoc HJ.out hj24, HX.out]; unfold fixP; simp [hv0])
    go_wp2_with (first
     | (refine Rg.run rfl _ _ (op_load_pair (x := (k, eB)) HKx.out HPr.out ⟨_, rfl, rfl⟩) ?_)
     | (refine Rg.run rfl _ _ (run_alloc_pair _ _ _ wr.heap.size rfl rfl) ?_)
     | (refine wpl_store_pair HN.out HZ.out (k, eB) HKx.out rfl _ _ rfl rfl rfl rfl ?_; intro w5 hO5 hu5; have HO5 := hid hO5; have HB5 : Hid (Below wr.heap.size wr w5) := hid (hu5.below (al1 _ _) (Nat.le_refl _)); have c32 : w5.cell? ⟨wr.heap.size, 32, none⟩ = some (.string _) := (PairAt.own hO5).val HKx.out; clear hO5 hu5)
     | (refine Rg.run rfl _ _ (op_load_str c32 ⟨_, rfl, rfl⟩) ?_)
     | (refine Rg.run rfl _ _ (op_load_key_mid HKx.out (PairAt.own HO5.out).key ⟨_, rfl, rfl⟩) ?_)
     | (refine Rg.run rfl _ _ (op_build (built_pair k sv HKx.out) ⟨_, rfl, rfl⟩) ?_)
     | (refine wpl_store_pair HO5.out HKx.out (k, sv) HKx.out rfl _ _ rfl rfl rfl rfl ?_; intro w6 hO6 hu6; have HO6 := hid hO6; have HB6 : Hid (Below wr.heap.size wr w6) := hid (hu6.below HB5.out (Nat.le_refl _)); have HR5 := hid (own_keepN HR.out HB6.out); have d32 : w6.cell? ⟨wr.heap.size, 32, none⟩ = some (.string _) := (PairAt.own hO6).val HKx.out; clear hO6 hu6)
     | (refine Rg.run rfl _ _ (op_load_str d32 ⟨_, rfl, rfl⟩) ?_)
     | (refine Rg.run rfl _ _ (op_load_pair (x := (k, sv)) HKx.out (PairAt.own HO6.out) ⟨_, rfl, rfl⟩) ?_)
     | (refine Rg.run rfl _ _ (op_lit_pair (x := (k, sv)) HKx.out _ rfl ⟨_, rfl, rfl⟩) ?_)
     | (at_builtin; refine wpList_append_own _ rfl _ _ 26 rfl w.heap.size 43 i0 z0 33 48 Tryz.underlying26 HI.out.1 HI.out.2.1 HI.out.2.2.1 HI.out.2.2.2.1 HI.out.2.2.2.2 (by decide) _ _ _ rfl (HR5.out.alloc _) ⟨_, 0, none⟩ 1 1 (pairC (k, sv)) rfl (pairC_len (x := (k, sv)) HKx.out) ?d1 (pairC_one _) ?d3 ?d4 ?d5 ?_))
    case d1 =>
     intro q u hu
     first | (simpa [pairA] using hu) | (rw [Addr.add_mid]; exact (PairAt.own (Rg.Own.new _ (pairA (k, sv)) 43)) q u hu)
    case d3 => unfold maxLen; omega
    case d4 => omega
    case d5 => have := HB.out.size; have := HB6.out.size; simp; omega
    intro v' w7 hown7 hgrow _
    have hlt' := HR5.out.lt
    have HB7 : Hid (Below w.heap.size w w7) := hid (((bst HB.out HB6.out).alloc (by have := HB.out.size; have := HB6.out.size; omega) _).grown hgrow (by have := HB.out.size; have := HB6.out.size; simp; omega) (fun g hg => (hlt' g hg).1))
    go_wp2
    go_roundw
    case rel => exact ⟨j + 1, by omega, by omega, by go_num, hid (by rw [HF.out, rowP_snoc, List.length_append]; exact hown7), HB7⟩
    case measure => simp [intOf]; omega
   ·by_cases hv2 : 100 < v.size
    ·have hv1 := Ni.not_empty (s := v) (by omega)
     have hv100 : (100 : Int) ≤ (v.size : Int) := by omega
     have s1 : decide ((100 : Int) < (v.size : Int)) = true := decide_eq_true (by omega)
     go_wp2_with (first
 | (refine Rg.run rfl _ _ (op_load_pair (x := (k, v)) HKx.out HPr.out ⟨_, rfl, rfl⟩) ?_)
      | (refine Rg.run rfl _ _ (run_alloc_pair _ _ _ wr.heap.size rfl rfl) ?_)
      | (refine wpl_store_pair HN.out HZ.out (k, v) HKx.out rfl _ _ rfl rfl rfl rfl ?_; intro w5 hO5 hu5; have HO5 := hid hO5; have HB5 : Hid (Below wr.heap.size wr w5) := hid (hu5.below (al1 _ _) (Nat.le_refl _)); have c32 : w5.cell? ⟨wr.heap.size, 32, none⟩ = some (.string _) := (PairAt.own hO5).val HKx.out; clear hO5 hu5)
      | (refine Rg.run rfl _ _ (op_load_str c32 ⟨_, rfl, rfl⟩) ?_)
     )
     have ge0 : wr.heap.size ≤ wr.heap.size := Nat.le_refl _
     have h0 := HO5.out
     refine wp_region_noPanic ?_
     refine wp_region_held_drew (S := fun w' => Below wr.heap.size wr w') (by kernel_rfl) (HB5.out.drew) (fun hld => ?_)
     replace h0 := h0.drew
     refine Rg.tk (i := 0) rfl ?_
     try simp only [Act.put, Rg.s]
     refine Rg.tk (i := 2) rfl ?_
     try simp only [Act.put, Rg.s]
     refine wpAnyH_ready (rs := [1, 3]) (by kernel_rfl) (by simp) ?_
     refine Rg.readyC (i := 1) rfl (fun K hK => ?_) (Rg.readyL (i := 3) rfl (fun K hK => ?_))
     ·refine Rg.meet (by rfl) _ _ (op_load_key_mid HKx.out (PairAt.own h0).key ?_) ?_
      ·exact ⟨_, rfl, rfl⟩
      refine hK.out _ _ ?_ (fun hld => ?_)
      ·exact hld
      clear hK K
      try simp only [Act.put, Rg.s]
      refine Rg.rd (i := 3) rfl fun K hK => ?_
      refine Rg.meet (by rfl) _ _ (op_load_str (PairAt.val (PairAt.own h0) HKx.out) ?_) ?_
      ·exact ⟨_, rfl, rfl⟩
      refine hK.out _ _ ?_ (fun hld => ?_)
      ·exact hld
      clear hK K
      try simp only [Act.put, Rg.s]
      refine Rg.tk (i := 4) rfl ?_ (hy := by intro wz hSw; (have q0 := hv100; go_simp <;> with_reducible rfl))
      try simp only [Act.put, Rg.s]
      refine Rg.tk (i := 5) rfl ?_ (hy := by intro wz hSw; (refine op_build (built_pair k (v.extract 0 100) HKx.out) ?_; exact ⟨_, rfl, rfl⟩))
      try simp only [Act.put, Rg.s]
      refine Rg.rd (i := 6) rfl fun K hK => ?_
      refine Rg.meetStore (by rfl) h0 43 (pairA (k, v.extract 0 100)) ⟨_, _, rfl, rfl, rfl⟩ (info_pairA HKx.out) (by rw [pairA_size HKx.out, pairA_size HKx.out]) (pairA_one _) ?_
      rintro wv0 hn hu
      refine hK.out _ _ ?_ (fun hld => ?_)
      ·exact hu.below hld ge0
      replace h0 := hn
      clear hK K hn hu
      try simp only [Act.put]
      refine wpAnyH_done (by kernel_rfl) ?_ _
      refine NoPanic.normal ?_
      have HO5 := hid h0
      have HB5' : Hid (Below wr.heap.size wr _) := hid hld
      clear h0 hld
      have HF : Hid (pairsL (l.take (j + 1)) = pairsL (l.take j) ++ [(k, v.extract 0 100)]) := hid (by rw [pairs_snoc HJ.out hj24, HX.out]; unfold fixP; simp [hv0, hv2])
      have HR5 := hid (own_keepN HR.out HB5'.out)
      go_wp2_with (first
       | (refine Rg.run rfl _ _ (op_load_pair (x := (k, v.extract 0 100)) HKx.out (PairAt.own HO5.out) ⟨_, rfl, rfl⟩) ?_)
       | (refine Rg.run rfl _ _ (op_lit_pair (x := (k, v.extract 0 100)) HKx.out _ rfl ⟨_, rfl, rfl⟩) ?_)
       | (at_builtin; refine wpList_append_own _ rfl _ _ 26 rfl w.heap.size 43 i0 z0 33 48 Tryz.underlying26 HI.out.1 HI.out.2.1 HI.out.2.2.1 HI.out.2.2.2.1 HI.out.2.2.2.2 (by decide) _ _ _ rfl (HR5.out.alloc _) ⟨_, 0, none⟩ 1 1 (pairC (k, v.extract 0 100)) rfl (pairC_len (x := (k, v.extract 0 100)) HKx.out) ?d1 (pairC_one _) ?d3 ?d4 ?d5 ?_))
      case d1 =>
       intro q u hu
       first | (simpa [pairA] using hu) | (rw [Addr.add_mid]; exact (PairAt.own (Rg.Own.new _ (pairA (k, v.extract 0 100)) 43)) q u hu)
      case d3 => unfold maxLen; omega
      case d4 => omega
      case d5 => have := HB.out.size; have := HB5'.out.size; simp; omega
      intro v' w7 hown7 hgrow _
      have hlt' := HR5.out.lt
      have HB7 : Hid (Below w.heap.size w w7) := hid (((bst HB.out HB5'.out).alloc (by have := HB.out.size; have := HB5'.out.size; omega) _).grown hgrow (by have := HB.out.size; have := HB5'.out.size; simp; omega) (fun g hg => (hlt' g hg).1))
      go_wp2
      go_roundw
      case rel => exact ⟨j + 1, by omega, by omega, by go_num, hid (by rw [HF.out, rowP_snoc, List.length_append]; exact hown7), HB7⟩
      case measure => simp [intOf]; omega
     ·refine Rg.meet (by rfl) _ _ (op_load_str (PairAt.val (PairAt.own h0) HKx.out) ?_) ?_
      ·exact ⟨_, rfl, rfl⟩
      refine hK.out _ _ ?_ (fun hld => ?_)
      ·exact hld
      clear hK K
      try simp only [Act.put, Rg.s]
      refine Rg.tk (i := 4) rfl ?_ (hy := by intro wz hSw; (have q0 := hv100; go_simp <;> with_reducible rfl))
      try simp only [Act.put, Rg.s]
      refine Rg.rd (i := 1) rfl fun K hK => ?_
      refine Rg.meet (by rfl) _ _ (op_load_key_mid HKx.out (PairAt.own h0).key ?_) ?_
      ·exact ⟨_, rfl, rfl⟩
      refine hK.out _ _ ?_ (fun hld => ?_)
      ·exact hld
      clear hK K
      try simp only [Act.put, Rg.s]
      refine Rg.tk (i := 5) rfl ?_ (hy := by intro wz hSw; (refine op_build (built_pair k (v.extract 0 100) HKx.out) ?_; exact ⟨_, rfl, rfl⟩))
      try simp only [Act.put, Rg.s]
      refine Rg.rd (i := 6) rfl fun K hK => ?_
      refine Rg.meetStore (by rfl) h0 43 (pairA (k, v.extract 0 100)) ⟨_, _, rfl, rfl, rfl⟩ (info_pairA HKx.out) (by rw [pairA_size HKx.out, pairA_size HKx.out]) (pairA_one _) ?_
      rintro wv0 hn hu
      refine hK.out _ _ ?_ (fun hld => ?_)
      ·exact hu.below hld ge0
      replace h0 := hn
      clear hK K hn hu
      try simp only [Act.put]
      refine wpAnyH_done (by kernel_rfl) ?_ _
      refine NoPanic.normal ?_
      have HO5 := hid h0
      have HB5' : Hid (Below wr.heap.size wr _) := hid hld
      clear h0 hld
      have HF : Hid (pairsL (l.take (j + 1)) = pairsL (l.take j) ++ [(k, v.extract 0 100)]) := hid (by rw [pairs_snoc HJ.out hj24, HX.out]; unfold fixP; simp [hv0, hv2])
      have HR5 := hid (own_keepN HR.out HB5'.out)
      go_wp2_with (first
       | (refine Rg.run rfl _ _ (op_load_pair (x := (k, v.extract 0 100)) HKx.out (PairAt.own HO5.out) ⟨_, rfl, rfl⟩) ?_)
       | (refine Rg.run rfl _ _ (op_lit_pair (x := (k, v.extract 0 100)) HKx.out _ rfl ⟨_, rfl, rfl⟩) ?_)
       | (at_builtin; refine wpList_append_own _ rfl _ _ 26 rfl w.heap.size 43 i0 z0 33 48 Tryz.underlying26 HI.out.1 HI.out.2.1 HI.out.2.2.1 HI.out.2.2.2.1 HI.out.2.2.2.2 (by decide) _ _ _ rfl (HR5.out.alloc _) ⟨_, 0, none⟩ 1 1 (pairC (k, v.extract 0 100)) rfl (pairC_len (x := (k, v.extract 0 100)) HKx.out) ?d1 (pairC_one _) ?d3 ?d4 ?d5 ?_))
      case d1 =>
       intro q u hu
       first | (simpa [pairA] using hu) | (rw [Addr.add_mid]; exact (PairAt.own (Rg.Own.new _ (pairA (k, v.extract 0 100)) 43)) q u hu)
      case d3 => unfold maxLen; omega
      case d4 => omega
      case d5 => have := HB.out.size; have := HB5'.out.size; simp; omega
      intro v' w7 hown7 hgrow _
      have hlt' := HR5.out.lt
      have HB7 : Hid (Below w.heap.size w w7) := hid (((bst HB.out HB5'.out).alloc (by have := HB.out.size; have := HB5'.out.size; omega) _).grown hgrow (by have := HB.out.size; have := HB5'.out.size; simp; omega) (fun g hg => (hlt' g hg).1))
      go_wp2
      go_roundw
      case rel => exact ⟨j + 1, by omega, by omega, by go_num, hid (by rw [HF.out, rowP_snoc, List.length_append]; exact hown7), HB7⟩
      case measure => simp [intOf]; omega
    ·have hv1 := Ni.not_empty (s := v) (by omega)
     have s1 : decide ((100 : Int) < (v.size : Int)) = false := decide_eq_false (by omega)
     have HF : Hid (pairsL (l.take (j + 1)) = pairsL (l.take j) ++ [(k, v)]) := hid (by rw [pairs_snoc HJ.out hj24, HX.out]; unfold fixP; simp [hv0, hv2])
     go_wp2_with (first
      | (refine Rg.run rfl _ _ (op_load_pair (x := (k, v)) HKx.out HPr.out ⟨_, rfl, rfl⟩) ?_)
      | (refine Rg.run rfl _ _ (run_alloc_pair _ _ _ wr.heap.size rfl rfl) ?_)
      | (refine wpl_store_pair HN.out HZ.out (k, v) HKx.out rfl _ _ rfl rfl rfl rfl ?_; intro w5 hO5 hu5; have HO5 := hid hO5; have HB5 : Hid (Below wr.heap.size wr w5) := hid (hu5.below (al1 _ _) (Nat.le_refl _)); have HR5 := hid (own_keepN HR.out HB5.out); have c32 : w5.cell? ⟨wr.heap.size, 32, none⟩ = some (.string _) := (PairAt.own hO5).val HKx.out; clear hO5 hu5)
      | (refine Rg.run rfl _ _ (op_load_str c32 ⟨_, rfl, rfl⟩) ?_)
      | (refine Rg.run rfl _ _ (op_load_pair (x := (k, v)) HKx.out (PairAt.own HO5.out) ⟨_, rfl, rfl⟩) ?_)
      | (refine Rg.run rfl _ _ (op_lit_pair (x := (k, v)) HKx.out _ rfl ⟨_, rfl, rfl⟩) ?_)
      | (at_builtin; refine wpList_append_own _ rfl _ _ 26 rfl w.heap.size 43 i0 z0 33 48 Tryz.underlying26 HI.out.1 HI.out.2.1 HI.out.2.2.1 HI.out.2.2.2.1 HI.out.2.2.2.2 (by decide) _ _ _ rfl (HR5.out.alloc _) ⟨_, 0, none⟩ 1 1 (pairC (k, v)) rfl (pairC_len (x := (k, v)) HKx.out) ?d1 (pairC_one _) ?d3 ?d4 ?d5 ?_))
     case d1 =>
      intro q u hu
      first | (simpa [pairA] using hu) | (rw [Addr.add_mid]; exact (PairAt.own (Rg.Own.new _ (pairA (k, v)) 43)) q u hu)
     case d3 => unfold maxLen; omega
     case d4 => omega
     case d5 => have := HB.out.size; have := HB5.out.size; simp; omega
     intro v' w7 hown7 hgrow _
     have hlt' := HR5.out.lt
     have HB7 : Hid (Below w.heap.size w w7) := hid (((bst HB.out HB5.out).alloc (by have := HB.out.size; have := HB5.out.size; omega) _).grown hgrow (by have := HB.out.size; have := HB5.out.size; simp; omega) (fun g hg => (hlt' g hg).1))
     go_wp2
     go_roundw
     case rel => exact ⟨j + 1, by omega, by omega, by go_num, hid (by rw [HF.out, rowP_snoc, List.length_append]; exact hown7), HB7⟩
     case measure => simp [intOf]; omega
  ·have HEnd : Hid (pairsL (l.take j) = pairsL l) := hid (by
    rcases Nat.lt_or_ge j n with h1 | h1
    ·obtain rfl : j = 24 := by omega
     exact pairs_cut
    ·obtain rfl : j = n := by omega
     rw [List.take_of_length_le (by rw [HL.out]; exact Nat.le_refl _)])
   have HK := hid (pairs_ok H.out.keys)
   have hf : ¬ ((j : Int) < n ∧ (j : Int) < 24) := by omega
   rw [HEnd.out] at HR
   rcases Nat.lt_or_ge j n with h1 | h1
   ·obtain rfl : j = 24 := by omega
    have i1 : ((24 : Nat) : Int) < n := by omega
    go_wp2_with fail
    go_ret
    exact GotOwnP.ps HK.out.1 ⟨_, rfl, HR.out, HB.out⟩
   ·obtain rfl : j = n := by omega
    go_wp2_with fail
    go_ret
    exact GotOwnP.ps HK.out.1 ⟨_, rfl, HR.out, HB.out⟩
end Tm
end
section
open Go.RowKit
namespace Tm
open Tr Ni Pk Ky No Rf Rl
open Sm (Tab)
section
variable {k : List UInt8} {j : Nat}
end
theorem op_load_u8 {ev : Operand → Value} {o : Oper} {w : World} {b off : Nat} {z : Int} (hc : w.cell? ⟨b, off, none⟩ = some (.int .u8 z)) (h : ∃ x, o.op = .load 5 x ∧ ev x = .pointer (some ⟨b, off, none⟩)) :
  (execOp ev o).run Tryz.prog w = .ok (.value (.int .u8 z)) w := by
 obtain ⟨x, ho, hx⟩ := h
 unfold execOp
 simp [ho, hx, go_sem, hc]
end Tm
end
section
open Go.RowKit
namespace Tm
open Tr Ni Pk Ky No Rf Rl
open Sm (Tab)
theorem Ks0.below {M : Mp} {lo : Nat} {w w' : World} {a : Option Addr} {n c : Nat} {l : List T} (h : Ks0 M lo w a n c l) (hb : Below w.heap.size w w') : Ks0 M lo w' a n c l :=
 ⟨h.1, h.2.1, h.2.2.1, h.2.2.2.1, fun j hj => by
  obtain ⟨b, off, p, e, hlt, hf, hc, ht⟩ := h.2.2.2.2 j hj
  exact ⟨b, off, p, e, Nat.lt_of_lt_of_le hlt hb.size, hf, cell_on hb hc, ht⟩⟩
theorem Ks0.lo {M : Mp} {lo lo' : Nat} {w : World} {a : Option Addr} {n c : Nat} {l : List T} (h : Ks0 M lo w a n c l) (hl : lo' ≤ lo) : Ks0 M lo' w a n c l :=
 ⟨h.1, h.2.1, h.2.2.1, h.2.2.2.1, fun j hj => by
  obtain ⟨b, off, p, e, hlt, hf, hc, ht⟩ := h.2.2.2.2 j hj
  exact ⟨b, off, p, e, hlt, hf.elim Or.inl (fun h => Or.inr (Nat.le_trans hl h)), hc, ht⟩⟩
theorem Ptrs.ks0 {M : Mp} {lo : Nat} {w : World} {a : Option Addr} {n c : Nat} {ps : List (Option Addr)} {ts : List T} (h : Ptrs w a n c ps) (hA : Are M ps ts) (hlo : ∀ ad, a = some ad → lo ≤ ad.block) : Ks0 M lo w a n c ts :=
 ⟨h.1, h.2.1, by rw [← hA.1]; exact h.2.2.1, h.2.2.2.1, fun j hj => by
  obtain ⟨b, off, e, hlt, hc⟩ := h.2.2.2.2 j hj
  exact ⟨b, off, _, e, hlt, Or.inr (hlo _ e), hc, hA.2 j (by rw [h.2.2.1]; exact hj)⟩⟩
theorem parts_br (f : Fin 16 → T) (j : Nat) (hj : j < 16) : (partsT (.br f)).getD j .nil = f ⟨j, hj⟩ := by
 show ((List.finRange 16).map f).getD j .nil = _
 rw [List.getD_eq_getElem?_getD, List.getElem?_map, List.getElem?_eq_getElem (by simpa using hj)]
 simp
theorem placed_any (M : Mp) (N : Nd) (hl : N.ks.length = 16) (pa : Option Addr) (pn pc : Nat) (ps : List (Option Addr)) (ts : List T) (hA : Are M ps ts)
  (hkd : N.kd = 1 ∧ ts = [] ∨ N.kd = 2 ∧ (∃ s, ts = [s]) ∨ N.kd = 3 ∧ ts.length = (kidsL N.ks).length) (ka : Option Addr) (kn kc : Nat) (w : World) (h : Ptrs w ka kn kc ps) (hn : kn ≤ 1000000) :
  Calls Tryz.prog 58 #[.agg (ndC N pa pn pc), .slice ka kn kc] w fun e w' => ∃ va vn vc, e = .returned (.slice va vn vc) ∧ Ks0 M w.heap.size w' va vn vc (partsT (makeT N ts)) ∧ Below w.heap.size w w' := by
 by_cases hk : N.kd = 3
 ·have hlen : ts.length = (kidsL N.ks).length := by rcases hkd with ⟨h1, _⟩ | ⟨h1, _⟩ | ⟨_, h2⟩; omega; omega; exact h2
  have hpl : ps.length = kn := h.2.2.1
  refine (placed_br N hk hl pa pn pc ps ka kn kc w h (by rw [← hlen, ← hA.1, hpl])).mono ?_
  rintro e w' ⟨g, rfl, hg, hO, hb⟩
  have hm : makeT N ts = .br (fillT N.ks ts) := by unfold makeT; rw [if_neg (by omega), if_neg (by omega)]
  have h16 : (fillRow N.ks ps 16).length = 16 := fillRow_len
  have hks := Ks0.row (M := M) (lo := w.heap.size) (l := partsT (makeT N ts)) hg hO (by rw [h16, hm]; simp [partsT]) (by rw [h16]; unfold maxLen; omega) (fun j hj => by
   rw [h16] at hj
   rw [fillRow_at j hj, hm, parts_br _ j hj]
   unfold fillP fillT
   by_cases h0 : (N.ks.getD j eB).size = 0
   ·rw [if_pos h0, if_pos h0]; rfl
   ·rw [if_neg h0, if_neg h0]
    by_cases hx : (kidsL (N.ks.take j)).length < ps.length
    ·exact hA.2 _ hx
    ·have e1 : ps.getD (kidsL (N.ks.take j)).length none = none := by rw [List.getD_eq_getElem?_getD, List.getElem?_eq_none (by omega)]; rfl
     have e2 : ts.getD (kidsL (N.ks.take j)).length .nil = .nil := by rw [List.getD_eq_getElem?_getD, List.getElem?_eq_none (by rw [← hA.1]; omega)]; rfl
     rw [e1, e2]
     rfl)
  rw [h16] at hks
  exact ⟨_, _, _, rfl, hks, hb⟩
 ·refine (placed_other N hk hl pa pn pc ps ka kn kc w h hn).mono ?_
  rintro e w' ⟨v, rfl, hR, hb⟩
  obtain ⟨a, c, rfl, hP, hlo⟩ := hR.ptrs
  refine ⟨_, _, _, rfl, ?_, hb⟩
  have hm : partsT (makeT N ts) = ts := by
   unfold makeT
   rcases hkd with ⟨h1, rfl⟩ | ⟨h1, s, rfl⟩ | ⟨h1, _⟩
   ·rw [if_pos h1]; rfl
   ·rw [if_neg (by omega), if_pos h1]; rfl
   ·exact absurd h1 hk
  rw [hm]
  exact hP.ks0 hA hlo
def MakeP (M : Mp) (w : World) (t : T) (c : Int) (e : Ending) (w' : World) : Prop := ∃ p M', e = .returned (.tuple #[tv p, .int .i64 c]) ∧ IsT M' p t ∧ Fr M M' w w' ∧ Inv M' w' ∧ Tab w'
theorem built_make (t : T) (k : Int) (v : ByteArray) (hk : kindT t = k) (hv : valT t = v) (hs : ¬ IsStub t) (a : Option Addr) (n c : Nat) (ka : Option Addr) (kn kc : Nat) :
  Tryz.prog.built 94 [(0, .int .i64 k), (1, .slice a n c), (2, .string v), (3, .slice ka kn kc)] = some (partC t a n c ka kn kc 0 (memo0 t)) := by
 subst hk hv
 rw [memo_eB hs]
 unfold partC
 generalize kindT t = k
 generalize valT t = v
 kernel_rfl
theorem make_end {M : Mp} {w w2 w5 w8 : World} {t : T} {e : Ending} {g : Nat} (hi : Inv M w) (hz : 0 < w.heap.size) (hb2 : Below w.heap.size w w2) (hO2 : Rg.Own w2 g #[.pointer none] 25) (hg : w.heap.size ≤ g) (f5 : Fr M M w2 w5) (t5 : Tab w5) (hG : GotT M w5 t e w8) :
  ∃ p, e = .returned (tv p) ∧ ∀ w9, Rg.Upd w8 g w9 → MakeP M w t 0 (.returned (.tuple #[tv p, .int .i64 0])) w9 := by
 obtain ⟨p, M', he, ht, f, i, b⟩ := hG
 have f28 := f5.trans (hi.below hb2) f
 have hn : ¬ M'.ft g := f28.box (hi.free hg) hO2.1 (no_byte hO2 (one_no _))
 have f8 := (Fr.below M hb2).trans hi f28
 exact ⟨p, he, fun w9 hu => ⟨p, M', rfl, ht, f8.upd hu hg, i.upd hu hn, fun i hi => by rw [World.cell?_of_block (hu.block 0 (by omega))]; exact (t5.below b t5.pos) i hi⟩⟩
structure Mk (N : Nd) (ts : List T) : Prop where
 ks : N.ks.length = 16
 may : mayW refP N = true
 v : N.v.size ≤ maxLen
 pl : N.p.length ≤ 64
 few : ∀ k ∈ N.ks, k.size ≤ 100
 fine : ∀ s ∈ ts, ∃ L, Tr.Good s L ∧ L ≤ 64 ∧ Fine s
 refs : kidsL N.ks = ts.map ref
 kd : N.kd = 1 ∧ ts = [] ∨ N.kd = 2 ∧ (∃ s, ts = [s] ∧ kindT s ≠ 1 ∧ kindT s ≠ 2) ∨ N.kd = 3 ∧ ts.length = (kidsL N.ks).length
 k : kindT (makeT N ts) = N.kd
 mv : valT (makeT N ts) = N.v
 mp : pathT (makeT N ts) = N.p
 ms : ¬ IsStub (makeT N ts)
 mn : makeT N ts ≠ .nil
theorem Mk.kd' {N : Nd} {ts : List T} (h : Mk N ts) : N.kd = 1 ∧ ts = [] ∨ N.kd = 2 ∧ (∃ s, ts = [s]) ∨ N.kd = 3 ∧ ts.length = (kidsL N.ks).length := by
 rcases h.kd with h | ⟨h, s, e, _⟩ | h
 ·exact .inl h
 ·exact .inr (.inl ⟨h, s, e⟩)
 ·exact .inr (.inr h)
theorem check_may {N : Nd} (hl : N.ks.length = 16) (hmay : mayW refP N = true) (hv : N.v.size ≤ maxLen) (hks : ∀ k ∈ N.ks, k.size ≤ 100) (a : Option Addr) (n c : Nat) (w : World) (hB : IsBs w a n c N.p) :
  Calls Tryz.prog 54 #[.agg (ndC N a n c)] w fun e w' => e = .returned (.int .i64 0) ∧ Below w.heap.size w w' := by
 have := check_any N a n c hl w hB hv (fun k hk => No.ref_any k (by have := hks k hk; omega))
 rw [hmay] at this
 exact this
end Tm
end
section
open Go.RowKit
namespace No
open Rl Ni
end No
end
section
open Go.RowKit
namespace No
open Rl Ni
theorem whole_is {s : List UInt8} {x : It} {n k : Nat} (h : readL s 0 0 = .ok (x, n, k)) (hn : ¬ n < s.length) : wholeL s = .ok x := by
 unfold wholeL
 rw [h]
 exact if_neg hn
theorem get_err {s : List UInt8} (hs : s.length ≤ 1000000) {c : Int} (hw : wholeL s = .error c) : getP s = none := by rw [getP_eq s (by omega), hw]
theorem get_few {s : List UInt8} (hs : s.length ≤ 1000000) {x : It} (hw : wholeL s = .ok x) (h2 : x.xs.length ≠ 2) (h17 : x.xs.length ≠ 17) : getP s = none := by
 rw [getP_eq s (by omega), hw]
 dsimp only
 rw [show readP x.xs = none by unfold readP; rw [if_neg h2, if_neg h17]]
end No
end
end Go.Proofs.YtgolhnfkmmajpaaGreatDoor
