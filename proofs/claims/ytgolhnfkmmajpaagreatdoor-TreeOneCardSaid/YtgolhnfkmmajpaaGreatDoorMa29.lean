/-
 Plain: a key out of its path; putting what was built back, from the last to the first; pairs that may be.
-/
import Derived.Test.YtgolhnfkmmajpaaGreatDoorMa17
import Derived.Test.YtgolhnfkmmajpaaGreatDoorMa7
import Derived.Test.YtgolhnfkmmajpaaGreatDoorMa19
import Derived.Test.YtgolhnfkmmajpaaGreatDoorMa26
import Derived.Test.YtgolhnfkmmajpaaGreatDoorMa18
import Derived.Deep.DeepCutAuto
open Go.Lib (hid)
set_option linter.unusedSimpArgs false
set_option linter.unusedVariables false
set_option maxHeartbeats 40000000
set_option maxRecDepth 100000
namespace Go.Proofs.YtgolhnfkmmajpaaGreatDoor
section
namespace Tr
open Rf Rl Ni No
theorem path_at {k : Key} (hk : k.length = 32) {j : Nat} (hj : j < 32) : 16 * ((path k).getD (2 * j) 0).toNat + ((path k).getD (2 * j + 1) 0).toNat = (k.getD j 0).toNat := by
 unfold path
 have hs : (⟨k.toArray⟩ : ByteArray).size = 32 := by show k.toArray.size = 32; simpa using hk
 have h := pairs_nibs ⟨k.toArray⟩
 have h2 := pairsK_getD (nibsL ⟨k.toArray⟩) (nibsL_right _) 32 j hj
 rw [hs] at h
 rw [h] at h2
 have e : (⟨k.toArray⟩ : ByteArray).data.toList = k := by simp
 rw [e] at h2
 exact h2.symm
theorem find_cons (x : In) (r : List In) (p : Pa) : findL (x :: r) p = if x.1 = p then some x.2 else findL r p := by
 unfold findL
 rw [List.find?_cons]
 by_cases h : x.1 = p
 ·rw [if_pos h]
  simp [h]
 ·rw [if_neg h]
  simp [h]
def backM (I : List In) (i : Nat) : Key → Option ByteArray := fun k => findL (I.drop i) (path k)
theorem drop_get {I : List In} {i : Nat} (hi : i < I.length) : I.drop i = I.getD i ([], eB) :: I.drop (i + 1) := by
 have e : I.getD i ([], eB) = I[i] := by simp [List.getD, hi]
 rw [e]
 exact (List.getElem_cons_drop hi).symm
theorem in_mem {I : List In} {i : Nat} (hi : i < I.length) : I.getD i ([], eB) ∈ I := by
 rw [List.getD_eq_getElem?_getD, List.getElem?_eq_getElem hi]
 exact List.getElem_mem _
theorem back_step {t : T} {I : List In} {i : Nat} (hi : i < I.length) (h : Has t (backM I (i + 1))) {k : Key} (hk : k.length = 32) (he : path k = (I.getD i ([], eB)).1) (h1 : (I.getD i ([], eB)).2.size ≠ 0) (h2 : (I.getD i ([], eB)).2.size ≤ 65552) :
  Has (put t (path k) (I.getD i ([], eB)).2) (backM I i) :=
 (h.put hk h1 h2).congr fun x hx => by
  show (if x = k then some (I.getD i ([], eB)).2 else findL (I.drop (i + 1)) (path x)) = findL (I.drop i) (path x)
  rw [drop_get hi, find_cons, ← he]
  by_cases e : x = k
  ·rw [if_pos e, if_pos (by rw [e])]
  ·rw [if_neg e, if_neg (fun g => e (path_inj (by rw [hx, hk]) g.symm))]
theorem back_start (I : List In) : Has .nil (backM I I.length) := Has.nil.congr fun x _ => by
 show none = findL (I.drop I.length) (path x)
 rw [List.drop_length]
 rfl
theorem back_end {t : T} {l : List Pair} (h : ∀ x ∈ l, x.1.length = 32) (g : Has t (backM (insL l) 0)) : Has t (lastL l) := g.congr fun k hk => by
 show findL ((insL l).drop 0) (path k) = _
 rw [List.drop_zero, find_ins h k hk]
theorem ins_key {l : List Pair} (h : ∀ x ∈ l, x.1.length = 32) {y : In} (hy : y ∈ insL l) : ∃ k : Key, k.length = 32 ∧ path k = y.1 := by
 obtain ⟨x, hx, rfl⟩ := mem_ins hy
 exact ⟨x.1, h x hx, rfl⟩
theorem Has.less {t : T} {l : List Pair} (h : Has t (lastL l)) {k : Key} (hn : lastL l k = none) : Has t (lastL (withoutL l k)) := h.congr fun x _ => by
 rw [last_without]
 by_cases e : x = k
 ·rw [if_pos e, e, hn]
 ·rw [if_neg e]
def sv : ByteArray := ⟨#[118]⟩
def fixP (x : Pair) : Pair := (x.1, if x.2.size = 0 then sv else if 100 < x.2.size then x.2.extract 0 100 else x.2)
def pairsL (l : List Pair) : List Pair := (l.take 24).map fixP
theorem fix_size (x : Pair) : (fixP x).2.size ≠ 0 ∧ (fixP x).2.size ≤ 65552 := by
 unfold fixP
 dsimp only
 split
 ·exact ⟨by decide, by decide⟩
 ·split
  ·rw [ByteArray.size_extract]; omega
  ·omega
theorem pairs_len (l : List Pair) : (pairsL l).length ≤ 24 := by
 unfold pairsL
 rw [List.length_map, List.length_take]
 omega
theorem pairs_ok {l : List Pair} (h : ∀ x ∈ l, x.1.length = 32) : (∀ x ∈ pairsL l, x.1.length = 32) ∧ ∀ x ∈ pairsL l, x.2.size ≠ 0 ∧ x.2.size ≤ 65552 := by
 constructor
 ·intro x hx
  obtain ⟨y, hy, rfl⟩ := List.mem_map.1 hx
  exact h y (List.mem_of_mem_take hy)
 ·intro x hx
  obtain ⟨y, _, rfl⟩ := List.mem_map.1 hx
  exact fix_size y
end Tr
end
section
open Go.RowKit
namespace Tm
open Tr Ni Pk Ky
theorem pairs_snoc {l : List Tr.Pair} {j : Nat} (hj : j < l.length) (h24 : j < 24) : pairsL (l.take (j + 1)) = pairsL (l.take j) ++ [fixP (l.getD j ([], eB))] := by
 unfold pairsL
 rw [List.take_take, List.take_take, show min 24 (j + 1) = j + 1 by omega, show min 24 j = j by omega, take_at hj, List.map_append]
 rfl
theorem pairs_cut {l : List Tr.Pair} : pairsL (l.take 24) = pairsL l := by
 unfold pairsL
 rw [List.take_take, Nat.min_self]
theorem pairs_any (l : List Tr.Pair) (a : Option Addr) (n c : Nat) (w : World) (h : IsPs w a n c l) :
  Calls Tryz.prog 18 #[.slice a n c] w (GotPs w (pairsL l)) := by
 obtain ⟨i0, z0, hi, hz, hsz, hby, hzc⟩ := info_pair_parts
 have HI : Hid (_ ∧ _ ∧ _ ∧ _ ∧ _) := hid ⟨hi, hz, hsz, hby, hzc⟩
 have hcap := h.1
 have hmx := h.2.1
 unfold maxLen at hmx
 have H := hid h
 have HL := hid h.len
 clear h hi hz hsz hby hzc
 go_enter Tryz.func18, Tryz.ntmps18
 go_wp2_with fail
 go_loopw [3, 4] (fun v i wr => ∃ j : Nat, j ≤ n ∧ j ≤ 24 ∧ i = .int .i64 j ∧ Hid (wr.ownsRow w.heap.size 43 33 v (pairsL (l.take j)).length (rowP (pairsL (l.take j)))) ∧ Hid (Below w.heap.size w wr)) (fun _ i _ => n - (intOf i).toNat)
 case atStart => exact ⟨0, Nat.zero_le _, Nat.zero_le _, rfl, hid (World.ownsRow_nil _ _ _ _), hid (Below.refl _ _)⟩
 case round =>
  obtain ⟨j, hjn, hj24', rfl, HR, HB⟩ := hrel
  have hlen : (pairsL (l.take j)).length ≤ 24 := pairs_len _
  by_cases hlt : j < n ∧ j < 24
  ·obtain ⟨hlt, hj24⟩ := hlt
   have i1 : (j : Int) < n := by omega
   have i2 : (j : Int) < 24 := by omega
   have HJ : Hid (j < l.length) := hid (by rw [HL.out]; exact hlt)
   obtain ⟨b, off, rfl, hblt, hpa, hk⟩ := H.out.at' j hlt
   obtain ⟨x, hx⟩ : ∃ x, l.getD j ([], eB) = x := ⟨_, rfl⟩
   rw [hx] at hpa hk
   have HX := hid hx
   have HPr := hid (hpa.below HB.out)
   have hNew := Rg.Own.new wr (pairA (List.replicate 32 0, eB)) 43
   have HN := hid hNew
   have HZ : Hid (((List.replicate 32 0, eB) : Tr.Pair).1.length = 32) := hid rfl
   obtain ⟨k, v⟩ := x
   have HKx : Hid (k.length = 32) := hid hk
   clear hx hpa hk hNew hblt
   by_cases hv0 : v.size = 0
   ·obtain rfl := No.size_zero hv0
    have s1 : decide ((100 : Int) < (sv.size : Int)) = false := rfl
    have HF : Hid (pairsL (l.take (j + 1)) = pairsL (l.take j) ++ [(k, sv)]) := hid (by rw [pairs_snoc HJ.out hj24, HX.out]; unfold fixP; simp [hv0])
    go_wp2_with (first
     | (refine Rg.run rfl _ _ (op_load_pair (x := (k, eB)) HKx.out HPr.out ⟨_, rfl, rfl⟩) ?_)
     | (refine Rg.run rfl _ _ (run_alloc_pair _ _ _ wr.heap.size rfl rfl) ?_)
     | (refine wpl_store_pair HN.out HZ.out (k, eB) HKx.out rfl _ _ rfl rfl rfl rfl ?_; intro w5 hO5 hu5; have HO5 := hid hO5; have HB5 : Hid (Below wr.heap.size wr w5) := hid (hu5.below (al1 _ _) (Nat.le_refl _)); have c32 : w5.cell? ⟨wr.heap.size, 32, none⟩ = some (.string _) := (PairAt.own hO5).val HKx.out; clear hO5 hu5)
     | (refine Rg.run rfl _ _ (op_load_str c32 ⟨_, rfl, rfl⟩) ?_)
     | (refine Rg.run rfl _ _ (op_load_key_mid HKx.out (PairAt.own HO5.out).key ⟨_, rfl, rfl⟩) ?_)
     | (refine Rg.run rfl _ _ (op_build (built_pair k sv HKx.out) ⟨_, rfl, rfl⟩) ?_)
     | (refine wpl_store_pair HO5.out HKx.out (k, sv) HKx.out rfl _ _ rfl rfl rfl rfl ?_; intro w6 hO6 hu6; have HO6 := hid hO6; have HB6 : Hid (Below wr.heap.size wr w6) := hid (hu6.below HB5.out (Nat.le_refl _)); have HR5 := hid (own_keepN HR.out HB6.out); have d32 : w6.cell? ⟨wr.heap.size, 32, none⟩ = some (.string _) := (PairAt.own hO6).val HKx.out; clear hO6 hu6)
     | (refine Rg.run rfl _ _ (op_load_str d32 ⟨_, rfl, rfl⟩) ?_)
     | (refine Rg.run rfl _ _ (op_load_pair (x := (k, sv)) HKx.out (PairAt.own HO6.out) ⟨_, rfl, rfl⟩) ?_)
     | (refine Rg.run rfl _ _ (op_lit_pair (x := (k, sv)) HKx.out _ rfl ⟨_, rfl, rfl⟩) ?_)
     | (at_builtin; refine wpList_append_own _ rfl _ _ 26 rfl w.heap.size 43 i0 z0 33 48 Tryz.underlying26 HI.out.1 HI.out.2.1 HI.out.2.2.1 HI.out.2.2.2.1 HI.out.2.2.2.2 (by decide) _ _ _ rfl (HR5.out.alloc _) ⟨_, 0, none⟩ 1 1 (pairC (k, sv)) rfl (pairC_len (x := (k, sv)) HKx.out) ?d1 (pairC_one _) ?d3 ?d4 ?d5 ?_))
    case d1 =>
     intro q u hu
     first | (simpa [pairA] using hu) | (rw [Addr.add_mid]; exact (PairAt.own (Rg.Own.new _ (pairA (k, sv)) 43)) q u hu)
    case d3 => unfold maxLen; omega
    case d4 => omega
    case d5 => have := HB.out.size; have := HB6.out.size; simp; omega
    intro v' w7 hown7 hgrow _
    have hlt' := HR5.out.lt
    have HB7 : Hid (Below w.heap.size w w7) := hid (((bst HB.out HB6.out).alloc (by have := HB.out.size; have := HB6.out.size; omega) _).grown hgrow (by have := HB.out.size; have := HB6.out.size; simp; omega) (fun g hg => (hlt' g hg).1))
    go_wp2
    go_roundw
    case rel => exact ⟨j + 1, by omega, by omega, by go_num, hid (by rw [HF.out, rowP_snoc, List.length_append]; exact hown7), HB7⟩
    case measure => simp [intOf]; omega
   ·by_cases hv2 : 100 < v.size
    ·have hv1 := Ni.not_empty (s := v) (by omega)
     have hv100 : (100 : Int) ≤ (v.size : Int) := by omega
     have s1 : decide ((100 : Int) < (v.size : Int)) = true := decide_eq_true (by omega)
     go_wp2_with (first
 | (refine Rg.run rfl _ _ (op_load_pair (x := (k, v)) HKx.out HPr.out ⟨_, rfl, rfl⟩) ?_)
      | (refine Rg.run rfl _ _ (run_alloc_pair _ _ _ wr.heap.size rfl rfl) ?_)
      | (refine wpl_store_pair HN.out HZ.out (k, v) HKx.out rfl _ _ rfl rfl rfl rfl ?_; intro w5 hO5 hu5; have HO5 := hid hO5; have HB5 : Hid (Below wr.heap.size wr w5) := hid (hu5.below (al1 _ _) (Nat.le_refl _)); have c32 : w5.cell? ⟨wr.heap.size, 32, none⟩ = some (.string _) := (PairAt.own hO5).val HKx.out; clear hO5 hu5)
      | (refine Rg.run rfl _ _ (op_load_str c32 ⟨_, rfl, rfl⟩) ?_)
     )
     have ge0 : wr.heap.size ≤ wr.heap.size := Nat.le_refl _
     have h0 := HO5.out
     refine wp_region_noPanic ?_
     refine wp_region_held_drew (S := fun w' => Below wr.heap.size wr w') (by kernel_rfl) (HB5.out.drew) (fun hld => ?_)
     replace h0 := h0.drew
     refine Rg.tk (i := 0) rfl ?_
     try simp only [Act.put, Rg.s]
     refine Rg.tk (i := 2) rfl ?_
     try simp only [Act.put, Rg.s]
     refine wpAnyH_ready (rs := [1, 3]) (by kernel_rfl) (by simp) ?_
     refine Rg.readyC (i := 1) rfl (fun K hK => ?_) (Rg.readyL (i := 3) rfl (fun K hK => ?_))
     ·refine Rg.meet (by rfl) _ _ (op_load_key_mid HKx.out (PairAt.own h0).key ?_) ?_
      ·exact ⟨_, rfl, rfl⟩
      refine hK.out _ _ ?_ (fun hld => ?_)
      ·exact hld
      clear hK K
      try simp only [Act.put, Rg.s]
      refine Rg.rd (i := 3) rfl fun K hK => ?_
      refine Rg.meet (by rfl) _ _ (op_load_str (PairAt.val (PairAt.own h0) HKx.out) ?_) ?_
      ·exact ⟨_, rfl, rfl⟩
      refine hK.out _ _ ?_ (fun hld => ?_)
      ·exact hld
      clear hK K
      try simp only [Act.put, Rg.s]
      refine Rg.tk (i := 4) rfl ?_ (hy := by intro wz hSw; (have q0 := hv100; go_simp <;> with_reducible rfl))
      try simp only [Act.put, Rg.s]
      refine Rg.tk (i := 5) rfl ?_ (hy := by intro wz hSw; (refine op_build (built_pair k (v.extract 0 100) HKx.out) ?_; exact ⟨_, rfl, rfl⟩))
      try simp only [Act.put, Rg.s]
      refine Rg.rd (i := 6) rfl fun K hK => ?_
      refine Rg.meetStore (by rfl) h0 43 (pairA (k, v.extract 0 100)) ⟨_, _, rfl, rfl, rfl⟩ (info_pairA HKx.out) (by rw [pairA_size HKx.out, pairA_size HKx.out]) (pairA_one _) ?_
      rintro wv0 hn hu
      refine hK.out _ _ ?_ (fun hld => ?_)
      ·exact hu.below hld ge0
      replace h0 := hn
      clear hK K hn hu
      try simp only [Act.put]
      refine wpAnyH_done (by kernel_rfl) ?_ _
      refine NoPanic.normal ?_
      have HO5 := hid h0
      have HB5' : Hid (Below wr.heap.size wr _) := hid hld
      clear h0 hld
      have HF : Hid (pairsL (l.take (j + 1)) = pairsL (l.take j) ++ [(k, v.extract 0 100)]) := hid (by rw [pairs_snoc HJ.out hj24, HX.out]; unfold fixP; simp [hv0, hv2])
      have HR5 := hid (own_keepN HR.out HB5'.out)
      go_wp2_with (first
       | (refine Rg.run rfl _ _ (op_load_pair (x := (k, v.extract 0 100)) HKx.out (PairAt.own HO5.out) ⟨_, rfl, rfl⟩) ?_)
       | (refine Rg.run rfl _ _ (op_lit_pair (x := (k, v.extract 0 100)) HKx.out _ rfl ⟨_, rfl, rfl⟩) ?_)
       | (at_builtin; refine wpList_append_own _ rfl _ _ 26 rfl w.heap.size 43 i0 z0 33 48 Tryz.underlying26 HI.out.1 HI.out.2.1 HI.out.2.2.1 HI.out.2.2.2.1 HI.out.2.2.2.2 (by decide) _ _ _ rfl (HR5.out.alloc _) ⟨_, 0, none⟩ 1 1 (pairC (k, v.extract 0 100)) rfl (pairC_len (x := (k, v.extract 0 100)) HKx.out) ?d1 (pairC_one _) ?d3 ?d4 ?d5 ?_))
      case d1 =>
       intro q u hu
       first | (simpa [pairA] using hu) | (rw [Addr.add_mid]; exact (PairAt.own (Rg.Own.new _ (pairA (k, v.extract 0 100)) 43)) q u hu)
      case d3 => unfold maxLen; omega
      case d4 => omega
      case d5 => have := HB.out.size; have := HB5'.out.size; simp; omega
      intro v' w7 hown7 hgrow _
      have hlt' := HR5.out.lt
      have HB7 : Hid (Below w.heap.size w w7) := hid (((bst HB.out HB5'.out).alloc (by have := HB.out.size; have := HB5'.out.size; omega) _).grown hgrow (by have := HB.out.size; have := HB5'.out.size; simp; omega) (fun g hg => (hlt' g hg).1))
      go_wp2
      go_roundw
      case rel => exact ⟨j + 1, by omega, by omega, by go_num, hid (by rw [HF.out, rowP_snoc, List.length_append]; exact hown7), HB7⟩
      case measure => simp [intOf]; omega
     ·refine Rg.meet (by rfl) _ _ (op_load_str (PairAt.val (PairAt.own h0) HKx.out) ?_) ?_
      ·exact ⟨_, rfl, rfl⟩
      refine hK.out _ _ ?_ (fun hld => ?_)
      ·exact hld
      clear hK K
      try simp only [Act.put, Rg.s]
      refine Rg.tk (i := 4) rfl ?_ (hy := by intro wz hSw; (have q0 := hv100; go_simp <;> with_reducible rfl))
      try simp only [Act.put, Rg.s]
      refine Rg.rd (i := 1) rfl fun K hK => ?_
      refine Rg.meet (by rfl) _ _ (op_load_key_mid HKx.out (PairAt.own h0).key ?_) ?_
      ·exact ⟨_, rfl, rfl⟩
      refine hK.out _ _ ?_ (fun hld => ?_)
      ·exact hld
      clear hK K
      try simp only [Act.put, Rg.s]
      refine Rg.tk (i := 5) rfl ?_ (hy := by intro wz hSw; (refine op_build (built_pair k (v.extract 0 100) HKx.out) ?_; exact ⟨_, rfl, rfl⟩))
      try simp only [Act.put, Rg.s]
      refine Rg.rd (i := 6) rfl fun K hK => ?_
      refine Rg.meetStore (by rfl) h0 43 (pairA (k, v.extract 0 100)) ⟨_, _, rfl, rfl, rfl⟩ (info_pairA HKx.out) (by rw [pairA_size HKx.out, pairA_size HKx.out]) (pairA_one _) ?_
      rintro wv0 hn hu
      refine hK.out _ _ ?_ (fun hld => ?_)
      ·exact hu.below hld ge0
      replace h0 := hn
      clear hK K hn hu
      try simp only [Act.put]
      refine wpAnyH_done (by kernel_rfl) ?_ _
      refine NoPanic.normal ?_
      have HO5 := hid h0
      have HB5' : Hid (Below wr.heap.size wr _) := hid hld
      clear h0 hld
      have HF : Hid (pairsL (l.take (j + 1)) = pairsL (l.take j) ++ [(k, v.extract 0 100)]) := hid (by rw [pairs_snoc HJ.out hj24, HX.out]; unfold fixP; simp [hv0, hv2])
      have HR5 := hid (own_keepN HR.out HB5'.out)
      go_wp2_with (first
       | (refine Rg.run rfl _ _ (op_load_pair (x := (k, v.extract 0 100)) HKx.out (PairAt.own HO5.out) ⟨_, rfl, rfl⟩) ?_)
       | (refine Rg.run rfl _ _ (op_lit_pair (x := (k, v.extract 0 100)) HKx.out _ rfl ⟨_, rfl, rfl⟩) ?_)
       | (at_builtin; refine wpList_append_own _ rfl _ _ 26 rfl w.heap.size 43 i0 z0 33 48 Tryz.underlying26 HI.out.1 HI.out.2.1 HI.out.2.2.1 HI.out.2.2.2.1 HI.out.2.2.2.2 (by decide) _ _ _ rfl (HR5.out.alloc _) ⟨_, 0, none⟩ 1 1 (pairC (k, v.extract 0 100)) rfl (pairC_len (x := (k, v.extract 0 100)) HKx.out) ?d1 (pairC_one _) ?d3 ?d4 ?d5 ?_))
      case d1 =>
       intro q u hu
       first | (simpa [pairA] using hu) | (rw [Addr.add_mid]; exact (PairAt.own (Rg.Own.new _ (pairA (k, v.extract 0 100)) 43)) q u hu)
      case d3 => unfold maxLen; omega
      case d4 => omega
      case d5 => have := HB.out.size; have := HB5'.out.size; simp; omega
      intro v' w7 hown7 hgrow _
      have hlt' := HR5.out.lt
      have HB7 : Hid (Below w.heap.size w w7) := hid (((bst HB.out HB5'.out).alloc (by have := HB.out.size; have := HB5'.out.size; omega) _).grown hgrow (by have := HB.out.size; have := HB5'.out.size; simp; omega) (fun g hg => (hlt' g hg).1))
      go_wp2
      go_roundw
      case rel => exact ⟨j + 1, by omega, by omega, by go_num, hid (by rw [HF.out, rowP_snoc, List.length_append]; exact hown7), HB7⟩
      case measure => simp [intOf]; omega
    ·have hv1 := Ni.not_empty (s := v) (by omega)
     have s1 : decide ((100 : Int) < (v.size : Int)) = false := decide_eq_false (by omega)
     have HF : Hid (pairsL (l.take (j + 1)) = pairsL (l.take j) ++ [(k, v)]) := hid (by rw [pairs_snoc HJ.out hj24, HX.out]; unfold fixP; simp [hv0, hv2])
     go_wp2_with (first
      | (refine Rg.run rfl _ _ (op_load_pair (x := (k, v)) HKx.out HPr.out ⟨_, rfl, rfl⟩) ?_)
      | (refine Rg.run rfl _ _ (run_alloc_pair _ _ _ wr.heap.size rfl rfl) ?_)
      | (refine wpl_store_pair HN.out HZ.out (k, v) HKx.out rfl _ _ rfl rfl rfl rfl ?_; intro w5 hO5 hu5; have HO5 := hid hO5; have HB5 : Hid (Below wr.heap.size wr w5) := hid (hu5.below (al1 _ _) (Nat.le_refl _)); have HR5 := hid (own_keepN HR.out HB5.out); have c32 : w5.cell? ⟨wr.heap.size, 32, none⟩ = some (.string _) := (PairAt.own hO5).val HKx.out; clear hO5 hu5)
      | (refine Rg.run rfl _ _ (op_load_str c32 ⟨_, rfl, rfl⟩) ?_)
      | (refine Rg.run rfl _ _ (op_load_pair (x := (k, v)) HKx.out (PairAt.own HO5.out) ⟨_, rfl, rfl⟩) ?_)
      | (refine Rg.run rfl _ _ (op_lit_pair (x := (k, v)) HKx.out _ rfl ⟨_, rfl, rfl⟩) ?_)
      | (at_builtin; refine wpList_append_own _ rfl _ _ 26 rfl w.heap.size 43 i0 z0 33 48 Tryz.underlying26 HI.out.1 HI.out.2.1 HI.out.2.2.1 HI.out.2.2.2.1 HI.out.2.2.2.2 (by decide) _ _ _ rfl (HR5.out.alloc _) ⟨_, 0, none⟩ 1 1 (pairC (k, v)) rfl (pairC_len (x := (k, v)) HKx.out) ?d1 (pairC_one _) ?d3 ?d4 ?d5 ?_))
     case d1 =>
      intro q u hu
      first | (simpa [pairA] using hu) | (rw [Addr.add_mid]; exact (PairAt.own (Rg.Own.new _ (pairA (k, v)) 43)) q u hu)
     case d3 => unfold maxLen; omega
     case d4 => omega
     case d5 => have := HB.out.size; have := HB5.out.size; simp; omega
     intro v' w7 hown7 hgrow _
     have hlt' := HR5.out.lt
     have HB7 : Hid (Below w.heap.size w w7) := hid (((bst HB.out HB5.out).alloc (by have := HB.out.size; have := HB5.out.size; omega) _).grown hgrow (by have := HB.out.size; have := HB5.out.size; simp; omega) (fun g hg => (hlt' g hg).1))
     go_wp2
     go_roundw
     case rel => exact ⟨j + 1, by omega, by omega, by go_num, hid (by rw [HF.out, rowP_snoc, List.length_append]; exact hown7), HB7⟩
     case measure => simp [intOf]; omega
  ·have HEnd : Hid (pairsL (l.take j) = pairsL l) := hid (by
    rcases Nat.lt_or_ge j n with h1 | h1
    ·obtain rfl : j = 24 := by omega
     exact pairs_cut
    ·obtain rfl : j = n := by omega
     rw [List.take_of_length_le (by rw [HL.out]; exact Nat.le_refl _)])
   have HK := hid (pairs_ok H.out.keys)
   have hf : ¬ ((j : Int) < n ∧ (j : Int) < 24) := by omega
   rw [HEnd.out] at HR
   rcases Nat.lt_or_ge j n with h1 | h1
   ·obtain rfl : j = 24 := by omega
    have i1 : ((24 : Nat) : Int) < n := by omega
    go_wp2_with fail
    go_ret
    exact GotOwnP.ps HK.out.1 ⟨_, rfl, HR.out, HB.out⟩
   ·obtain rfl : j = n := by omega
    go_wp2_with fail
    go_ret
    exact GotOwnP.ps HK.out.1 ⟨_, rfl, HR.out, HB.out⟩
end Tm
end
section
open Go.RowKit
namespace Tm
open Tr Ni Pk Ky No Rf Rl
open Sm (Tab)
theorem wpl_store_key {ops : Array Oper} {rest : List Oper} {o : Oper} {act : Go.Act} {w : World} {Q : Exit → Go.Act → World → Prop} {b : Nat} {k : List UInt8} (h : Rg.Own w b (kc k) 28) (hk : k.length = 32) (y : List UInt8) (hy : y.length = 32)
  (hgd : o.guard = none) (p q : Operand) (ho : o.op = .store 28 p q) (hp : act.eval p = .pointer (some ⟨b, 0, none⟩)) (hq : act.eval q = .agg (kc y)) (hd : o.dst = none)
  (hQ : ∀ w', Rg.Own w' b (kc y) 28 → Rg.Upd w b w' → wpList Tryz.prog ops Q rest act w') : wpList Tryz.prog ops Q (o :: rest) act w :=
 wpList_store_rowTo hgd 28 p q ho hd b _ hp hq 28 _ h.2 (info_kc y hy) (by rw [kc_size, kc_size, hk, hy]) (kc_one _) (hQ _ ⟨by simp; exact h.1, setRow_heap _ _ _ _ _ _ h.2⟩ (Rg.Upd.set _ _ _))
theorem meet_store_u8 {o : Oper} {a : Go.Act} {w : World} {K : Go.Act → World → Prop} {Q : Exit → Go.Act → World → Prop} {ops : Array Oper} (hw : Region.wanted o (yielded ops a.tmps) = true) {b off : Nat} {cs : Array Value} {t : TypeId} (hg : Rg.Own w b cs t) (hof : off < cs.size) (z : Int)
  (ho : ∃ x y, o.op = .store 5 x y ∧ a.eval x = .pointer (some ⟨b, off, none⟩) ∧ a.eval y = .int .u8 z)
  (h : ∀ w', Rg.Own w' b (cs.setIfInBounds off (.int .u8 z)) t → Rg.Upd w b w' → K (a.put o.dst undef) w') : if Region.wanted o (yielded ops a.tmps) = true then Oper.wp Tryz.prog o a w K Q else K (a.put o.dst undef) w := by
 obtain ⟨x, y, ho, hx, hy⟩ := ho
 refine Rg.want hw ?_
 have hc : w.cell? ⟨b, off, none⟩ = some cs[off] := own_cell hg (Array.getElem?_eq_getElem hof)
 have hz : w.frozen? ⟨b, off, none⟩ = false := own_free hg
 have hst : (Instr.storeAt 5 (.pointer (some ⟨b, off, none⟩)) (.int .u8 z)).run Tryz.prog w = .ok () (w.setCell ⟨b, off, none⟩ (.int .u8 z)) := by
  simp [go_sem, hc, hz]
 unfold Oper.wp execOp
 simp only [ho, hx, hy, Sem.run_bind, Sem.run_pure, Result.andThen_ok, hst]
 exact h _ (own_setCell hg _) (upd_setCell _ _ _ _)
def kfill (k : List UInt8) (j : Nat) : List UInt8 := k.take j ++ List.replicate (32 - j) 0
section
variable {k : List UInt8} {j : Nat}
theorem kfill_len (hk : k.length = 32) (hj : j ≤ 32) : (kfill k j).length = 32 := by
 unfold kfill
 rw [List.length_append, List.length_take, List.length_replicate]
 omega
theorem kfill_zero : kfill k 0 = zk := by
 unfold kfill
 rw [List.take_zero]
 rfl
theorem kfill_all (hk : k.length = 32) : kfill k 32 = k := by
 unfold kfill
 rw [List.take_of_length_le (by omega)]
 simp
theorem kfill_set (hk : k.length = 32) (hj : j < 32) : (kfill k j).set j (k.getD j 0) = kfill k (j + 1) := by
 have hjk : j < k.length := by omega
 unfold kfill
 have e1 : (k.take j).length = j := by rw [List.length_take]; omega
 have e2 : List.replicate (32 - j) (0 : UInt8) = 0 :: List.replicate (32 - (j + 1)) 0 := by
  rw [← List.replicate_succ]
  congr 1
  omega
 rw [e2, List.set_append_right _ _ (by omega), e1, Nat.sub_self, List.set_cons_zero, List.take_succ_eq_append_getElem hjk, List.append_assoc]
 simp [List.getD, hjk]
theorem kc_fill (hk : k.length = 32) (hj : j < 32) : (kc (kfill k j)).setIfInBounds j (.int .u8 (k.getD j 0).toNat) = kc (kfill k (j + 1)) := by
 rw [kc_set, kfill_set hk hj]
end
theorem one_slice (q : Option Addr) (j : Nat) (a : Option Addr) (n c : Nat) : (#[Value.pointer q] : Array Value)[j]? ≠ some (Value.slice a n c) := fun h => by
 match j, h with
 | 0, h => simp at h
 | j + 1, h => simp at h
theorem IsIns.upd {w w' : World} {g : Nat} {q : Option Addr} {t : TypeId} {a : Option Addr} {n c : Nat} {l : List Tr.In} (h : IsIns w a n c l) (hu : Rg.Upd w g w') (ho : Rg.Own w g #[.pointer q] t) : IsIns w' a n c l :=
 ⟨h.1, h.2.1, h.2.2.1, h.2.2.2.1, fun j hj => by
  obtain ⟨b, off, hd, e, hlt, hp, hb⟩ := h.at' j hj
  have hne : b ≠ g := by
   rintro rfl
   exact one_slice q _ _ _ _ (cell_heap ho.2 hp.1)
  exact ⟨b, off, hd, e, by rw [hu.size]; exact hlt, ⟨by rw [World.cell?_of_block (hu.block b hne)]; exact hp.1, by rw [World.cell?_of_block (hu.block b hne)]; exact hp.2⟩, isBs_upd hb (no_byte ho (one_no _)) hu⟩⟩
structure On1 (w0 : World) (M : Mp) (w : World) (b0 b1 : Nat) (p q : Option Addr) (t s : T) : Prop where
 l : Lw w0 M w
 u : IsT M p t
 v : IsT M q s
 x : Bx M w b0 #[.pointer p] 25
 y : Bx M w b1 #[.pointer q] 25
 ne : b0 ≠ b1
 g0 : w0.heap.size ≤ b0
 g1 : w0.heap.size ≤ b1
namespace On1
variable {w0 : World} {M M' : Mp} {w w' : World} {b0 b1 : Nat} {p p' q q' : Option Addr} {t t' s s' : T}
theorem below (h : On1 w0 M w b0 b1 p q t s) (hb : Below w.heap.size w w') : On1 w0 M w' b0 b1 p q t s := ⟨h.l.below hb, h.u, h.v, h.x.below hb, h.y.below hb, h.ne, h.g0, h.g1⟩
theorem fr (h : On1 w0 M w b0 b1 p q t s) (hl : Lw w0 M' w') (f : Fr M M' w w') : On1 w0 M' w' b0 b1 p q t s := ⟨hl, h.u.mono f.mono, h.v.mono f.mono, h.x.frm h.l.i f, h.y.frm h.l.i f, h.ne, h.g0, h.g1⟩
theorem set0 (h : On1 w0 M w b0 b1 p q t s) (hu : Rg.Upd w b0 w') (ho : Rg.Own w' b0 #[.pointer p'] 25) (ht : IsT M p' t') : On1 w0 M w' b0 b1 p' q t' s :=
 ⟨h.l.upd hu h.g0 h.x.n, ht, h.v, ⟨ho, h.x.n, one_no _⟩, h.y.upd hu h.ne.symm, h.ne, h.g0, h.g1⟩
theorem set1 (h : On1 w0 M w b0 b1 p q t s) (hu : Rg.Upd w b1 w') (ho : Rg.Own w' b1 #[.pointer q'] 25) (ht : IsT M q' s') : On1 w0 M w' b0 b1 p q' t s' :=
 ⟨h.l.upd hu h.g1 h.y.n, h.u, ht, h.x.upd hu h.ne, ⟨ho, h.y.n, one_no _⟩, h.ne, h.g0, h.g1⟩
theorem psu0 (h : On1 w0 M w b0 b1 p q t s) (hu : Rg.Upd w b0 w') {a : Option Addr} {n c : Nat} {l : List Tr.Pair} (hp : IsPs w a n c l) : IsPs w' a n c l := hp.upd hu (no_byte h.x.o (one_no _))
theorem start {M : Mp} {w w2 w3 w4 w5 : World} {p : Option Addr} {t : T} (hl : Lw w M w2) (ht : IsT M p t) (hb : Below w2.heap.size w2 w3) (h1 : w3.heap.size = w2.heap.size + 2) (ho0 : Rg.Own w4 w2.heap.size #[.pointer p] 25) (hu0 : Rg.Upd w3 w2.heap.size w4) (ho1 : Rg.Own w5 (w2.heap.size + 1) #[.pointer none] 25) (hu1 : Rg.Upd w4 (w2.heap.size + 1) w5) : On1 w M w5 w2.heap.size (w2.heap.size + 1) p none t .nil ∧ Below w2.heap.size w2 w5 := by
 have hg := hl.b.size
 have hb5 := hu1.below (hu0.below hb (Nat.le_refl _)) (by omega)
 exact ⟨⟨hl.below hb5, ht, rfl, ⟨ho0.upd hu1 (by omega), hl.i.free (Nat.le_refl _), one_no _⟩, ⟨ho1, hl.i.free (by omega), one_no _⟩, by omega, hg, by omega⟩, hb5⟩
end On1
theorem op_dbl {ev : Operand → Value} {o : Oper} {w : World} {m : Nat} (hm : m < 32) (h : ∃ x y, o.op = .binOp .mul 3 x y 3 ∧ ev x = .int .i64 2 ∧ ev y = .int .i64 m) :
  (execOp ev o).run Tryz.prog w = .ok (.value (.int .i64 (2 * m : Nat))) w := by
 obtain ⟨x, y, ho, hx, hy⟩ := h
 unfold execOp
 simp [ho, hx, hy, go_sem]
 rw [IntKind.wrap_i64]
 omega
theorem op_inc {ev : Operand → Value} {o : Oper} {w : World} {m : Nat} (hm : m < 1000) (h : ∃ x y, o.op = .binOp .add 3 x y 3 ∧ ev x = .int .i64 m ∧ ev y = .int .i64 1) :
  (execOp ev o).run Tryz.prog w = .ok (.value (.int .i64 (m + 1 : Nat))) w := by
 obtain ⟨x, y, ho, hx, hy⟩ := h
 unfold execOp
 simp [ho, hx, hy, go_sem]
 rw [IntKind.wrap_i64]
 omega
theorem op_mul16 {ev : Operand → Value} {o : Oper} {w : World} {m : Nat} (hm : m < 16) (h : ∃ x y, o.op = .binOp .mul 5 x y 5 ∧ ev x = .int .u8 16 ∧ ev y = .int .u8 m) :
  (execOp ev o).run Tryz.prog w = .ok (.value (.int .u8 (16 * m : Nat))) w := by
 obtain ⟨x, y, ho, hx, hy⟩ := h
 unfold execOp
 simp [ho, hx, hy, go_sem]
 rw [IntKind.wrap_u8]
 omega
theorem op_add8 {ev : Operand → Value} {o : Oper} {w : World} {m n : Nat} (hm : m + n < 256) (h : ∃ x y, o.op = .binOp .add 5 x y 5 ∧ ev x = .int .u8 m ∧ ev y = .int .u8 n) :
  (execOp ev o).run Tryz.prog w = .ok (.value (.int .u8 (m + n : Nat))) w := by
 obtain ⟨x, y, ho, hx, hy⟩ := h
 unfold execOp
 simp [ho, hx, hy, go_sem]
 rw [IntKind.wrap_u8]
 omega
theorem op_index_u8 {ev : Operand → Value} {o : Oper} {w : World} {bp op n c i : Nat} (hi : i < n) (h : ∃ x y, o.op = .indexAddr 49 x y ∧ ev x = .slice (some ⟨bp, op, none⟩) n c ∧ ev y = .int .i64 i) :
  (execOp ev o).run Tryz.prog w = .ok (.value (.pointer (some ⟨bp, op + i, none⟩))) w := by
 obtain ⟨x, y, ho, hx, hy⟩ := h
 have h1 : (i : Int) < (n : Int) := by omega
 unfold execOp
 simp [ho, hx, hy, go_sem, h1]
theorem op_load_u8 {ev : Operand → Value} {o : Oper} {w : World} {b off : Nat} {z : Int} (hc : w.cell? ⟨b, off, none⟩ = some (.int .u8 z)) (h : ∃ x, o.op = .load 5 x ∧ ev x = .pointer (some ⟨b, off, none⟩)) :
  (execOp ev o).run Tryz.prog w = .ok (.value (.int .u8 z)) w := by
 obtain ⟨x, ho, hx⟩ := h
 unfold execOp
 simp [ho, hx, go_sem, hc]
theorem nib_at {p : Pa} (h : Nib p) {i : Nat} (hi : i < p.length) : (p.getD i 0).toNat < 16 := h _ (by
 rw [List.getD_eq_getElem?_getD, List.getElem?_eq_getElem hi]
 exact List.getElem_mem _)
theorem run_alloc_tree2 (ev : Operand → Value) (o : Oper) (ho : o.op = .alloc 25) (w : World) : (execOp ev o).run Tryz.prog w = .ok (.value (.pointer (some ⟨w.heap.size, 0, none⟩))) (w.alloc (.cells #[.pointer none] 25)) := run_alloc_tree ev o w w.heap.size rfl ho
theorem On1.updB {w0 : World} {M : Mp} {w w' : World} {b0 b1 b : Nat} {p q : Option Addr} {t s : T} (h : On1 w0 M w b0 b1 p q t s) (hu : Rg.Upd w b w') (hb : w0.heap.size ≤ b) (hn : ¬ M.ft b) (h0 : b0 ≠ b) (h1 : b1 ≠ b) : On1 w0 M w' b0 b1 p q t s :=
 ⟨h.l.upd hu hb hn, h.u, h.v, h.x.upd hu h0, h.y.upd hu h1, h.ne, h.g0, h.g1⟩
end Tm
end
end Go.Proofs.YtgolhnfkmmajpaaGreatDoor
