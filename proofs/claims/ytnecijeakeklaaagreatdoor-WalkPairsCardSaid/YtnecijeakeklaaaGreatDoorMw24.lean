/-
 The contract of the plain answer's Sort of pairs.
-/
import Derived.Test.YtnecijeakeklaaaGreatDoorMw23
import Derived.Test.YtnecijeakeklaaaGreatDoorMw20
import Derived.Test.YtnecijeakeklaaaGreatDoorMw14
import Derived.Test.YtnecijeakeklaaaGreatDoorMw2
open Go.Lib (hid)
set_option linter.unusedSimpArgs false
set_option linter.unusedVariables false
set_option maxHeartbeats 40000000
set_option maxRecDepth 100000
namespace Go.Proofs.YtnecijeakeklaaaGreatDoor
section
open Go.RowKit
namespace Tm
open Tr Ni Pk Ky
theorem isPs_one {w : World} {b : Nat} {x : Tr.Pair} {t : TypeId} (hk : x.1.length = 32) (h : Rg.Own w b (pairA x) t) : IsPs w (some ⟨b, 0, none⟩) 1 1 [x] :=
 ⟨Nat.le_refl _, by unfold maxLen; decide, rfl, fun e => (by cases e), fun y hy => by rw [List.mem_singleton.1 hy]; exact hk, fun j hj => by
  obtain rfl : j = 0 := by omega
  exact ⟨b, 0, rfl, h.1, PairAt.own h⟩⟩
theorem take_less {S : List Tr.Pair} {x : Tr.Pair} {q : Nat} (h : ∀ y ∈ S.take q, ltP y.1 x.1 = true) (hq : q < S.length) (hl : ltP (S.getD q ([], eB)).1 x.1 = true) : ∀ y ∈ S.take (q + 1), ltP y.1 x.1 = true := fun y hy => by
 rw [take_at hq, List.mem_append] at hy;rcases hy with hy | hy
 ·exact h y hy
 ·rw [List.mem_singleton.1 hy]; exact hl
theorem rsort_own (l : List Tr.Pair) (a : Option Addr) (n c : Nat) (w : World) (h : IsPs w a n c l) (hn : n ≤ 1000) :
  Calls Tryz.prog 8 #[.slice a n c] w (GotOwnP w (sortL l)) := by
 have H := hid h;have HL := hid h.len;have HKs := hid h.keys;clear h;go_enter Tryz.func8, Tryz.ntmps8;go_wp2_with fail
 go_loopw [3, 4] (fun v i wr => ∃ j : Nat, j ≤ n ∧ i = .int .i64 j ∧ Hid (wr.ownsRow w.heap.size 33 33 v (sortL (l.take j)).length (rowP (sortL (l.take j)))) ∧ Hid (Below w.heap.size w wr)) (fun _ i _ => n - (intOf i).toNat)
 case atStart => exact ⟨0, Nat.zero_le _, rfl, hid (World.ownsRow_nil _ _ _ _), hid (Below.refl _ _)⟩
 case round =>
  obtain ⟨wo, rfl⟩ : ∃ wo, wo = wr := ⟨_, rfl⟩
  obtain ⟨j, hj, rfl, HR, HB⟩ := hrel;by_cases hlt : j < n
  ·obtain ⟨b1, o1, rfl, hb1, hpx, hkx⟩ := H.out.at' j hlt;have hji : (j : Int) < n := by omega
   have hsl := sort_len l j;have hsk := sort_keys HKs.out j;have HF := hid (sort_take (l := l) (j := j) (by rw [HL.out]; exact hlt));have hpxr := hpx.below HB.out;have HKx := hid hkx;generalize l.getD j ([], eB) = x at *
   generalize sortL (l.take j) = S at *
   obtain ⟨m, hm⟩ : ∃ m, S.length = m := ⟨_, rfl⟩
   rw [hm] at HR hsl;obtain ⟨a2, c2, rfl, hps⟩ := IsPs.ofOwn hsk hm HR.out;have hc2 := hps.1;have HP2 := hid hps;have HSm := hid hm;have HSk := hid hsk;clear hpx hkx hb1 hps hsk hm HR;go_wp2_with fail
   go_loopw [5] (fun k wr => ∃ q : Nat, q ≤ m ∧ k = .int .i64 q ∧ Hid (∀ y ∈ S.take q, ltP y.1 x.1 = true) ∧ Hid (Below wo.heap.size wo wr)) (fun k _ => m - (intOf k).toNat)
   case atStart => exact ⟨0, Nat.zero_le _, rfl, hid (fun y hy => by cases hy), hid (Below.refl _ _)⟩
   case round =>
    obtain ⟨q, hq, rfl, HI, HB2⟩ := hrel;have HPx := hid (hpxr.below HB2.out);by_cases hqm : q < m
    ·obtain ⟨b2, o2, rfl, hb2, hpyr, hky⟩ := HP2.out.at' q hqm;have hqi : (q : Int) < m := by omega
     have HKy := hid hky;obtain ⟨y, hyy⟩ : ∃ y, S.getD q ([], eB) = y := ⟨_, rfl⟩
     rw [hyy] at hpyr HKy;have HPy := hid (hpyr.below HB2.out);clear hb2 hky;by_cases hlx : ltP y.1 x.1 = true
     ·have HLs : Hid (∀ w, Calls Tryz.prog 12 #[.agg (kc y.1), .agg (kc x.1)] w fun e w' => e = .returned (.bool true) ∧ Below w.heap.size w w') := hid fun w => (rless_any y.1 x.1 HKy.out HKx.out w).mono fun e w' g => by rw [hlx] at g; exact g
      have HN := hid (take_less HI.out (by rw [HSm.out]; exact hqm) (by rw [hyy]; exact hlx));clear hlx hyy;go_wp2_with fail
      refine wp_region_noPanic ?_;refine wp_region_held_drew (S := fun w' => Below wr.heap.size wr w') (by kernel_rfl) ((below_drewN (Below.refl _ _) 1)) (fun hld => ?_);refine Rg.tk (i := 0) rfl ?_;try simp only [Act.put, Rg.s]
      refine Rg.tk (i := 1) rfl ?_;try simp only [Act.put, Rg.s]
      refine Rg.tk (i := 2) rfl ?_;try simp only [Act.put, Rg.s]
      refine Rg.tk (i := 3) rfl ?_;try simp only [Act.put, Rg.s]
      refine Rg.tk (i := 4) rfl ?_;try simp only [Act.put, Rg.s]
      refine Rg.tk (i := 5) rfl ?_;try simp only [Act.put, Rg.s]
      refine Rg.tk (i := 6) rfl ?_;try simp only [Act.put, Rg.s]
      refine Rg.tk (i := 7) rfl ?_ (hy := by intro wz hSw; (have q0 := hqi; have q1 := hqm; go_simp <;> with_reducible rfl));try simp only [Act.put, Rg.s]
      refine Rg.tk (i := 8) rfl ?_;try simp only [Act.put, Rg.s]
      refine Rg.tk (i := 9) rfl ?_ (hy := by intro wz hSw; (refine op_load_key_mid HKy.out (HPy.out.below hSw).key ?_; exact ⟨_, rfl, rfl⟩));try simp only [Act.put, Rg.s]
      refine Rg.tk (i := 10) rfl ?_;try simp only [Act.put, Rg.s]
      refine Rg.tk (i := 11) rfl ?_;try simp only [Act.put, Rg.s]
      refine Rg.tk (i := 12) rfl ?_ (hy := by intro wz hSw; (have q0 := hji; have q1 := hlt; go_simp <;> with_reducible rfl));try simp only [Act.put, Rg.s]
      refine Rg.tk (i := 13) rfl ?_;try simp only [Act.put, Rg.s]
      refine Rg.tk (i := 14) rfl ?_ (hy := by intro wz hSw; (refine op_load_key_mid HKx.out (HPx.out.below hSw).key ?_; exact ⟨_, rfl, rfl⟩));try simp only [Act.put, Rg.s]
      refine Rg.rd (i := 15) rfl fun K hK => ?_;go_simp;go_at_call 12
      (with_reducible refine (HLs.out _).mono ?_)
      rintro e wv0 ⟨rfl, hbx⟩;refine hK.out _ _ ?_ (fun hld => ?_)
      ·exact Below.trans hld (hbx.mono hld.size)
      clear hK K;try simp only [Act.put, Rg.s]
      refine Rg.tk (i := 16) rfl ?_;try simp only [Act.put, Rg.s]
      refine wpAnyH_done (by kernel_rfl) ?_ _;refine NoPanic.normal ?_;have HBz : Hid (Below wo.heap.size wo wv0) := hid (bst HB2.out hld);clear hld hbx;go_wp2;go_roundw
      case rel => exact ⟨q + 1, by omega, by go_num, HN, HBz⟩
      case measure => simp [intOf]; omega
     ·have HNl : Hid (ltP y.1 x.1 = false) := hid (by simpa using hlx);have HLs : Hid (∀ w, Calls Tryz.prog 12 #[.agg (kc y.1), .agg (kc x.1)] w fun e w' => e = .returned (.bool false) ∧ Below w.heap.size w w') := hid fun w => (rless_any y.1 x.1 HKy.out HKx.out w).mono fun e w' g => by rw [HNl.out] at g; exact g
      clear hlx;by_cases hek : y.1 = x.1
      ·have HEd := hid (decide_eq_true hek);have HEk := hid hek;have HYy := hid hyy;clear hek hyy;go_wp2_with fail
       refine wp_region_noPanic ?_;refine wp_region_held_drew (S := fun w' => Below wr.heap.size wr w') (by kernel_rfl) ((below_drewN (Below.refl _ _) 1)) (fun hld => ?_);refine Rg.tk (i := 0) rfl ?_;try simp only [Act.put, Rg.s]
       refine Rg.tk (i := 1) rfl ?_;try simp only [Act.put, Rg.s]
       refine Rg.tk (i := 2) rfl ?_;try simp only [Act.put, Rg.s]
       refine Rg.tk (i := 3) rfl ?_;try simp only [Act.put, Rg.s]
       refine Rg.tk (i := 4) rfl ?_;try simp only [Act.put, Rg.s]
       refine Rg.tk (i := 5) rfl ?_;try simp only [Act.put, Rg.s]
       refine Rg.tk (i := 6) rfl ?_;try simp only [Act.put, Rg.s]
       refine Rg.tk (i := 7) rfl ?_ (hy := by intro wz hSw; (have q0 := hqi; have q1 := hqm; go_simp <;> with_reducible rfl));try simp only [Act.put, Rg.s]
       refine Rg.tk (i := 8) rfl ?_;try simp only [Act.put, Rg.s]
       refine Rg.tk (i := 9) rfl ?_ (hy := by intro wz hSw; (refine op_load_key_mid HKy.out (HPy.out.below hSw).key ?_; exact ⟨_, rfl, rfl⟩));try simp only [Act.put, Rg.s]
       refine Rg.tk (i := 10) rfl ?_;try simp only [Act.put, Rg.s]
       refine Rg.tk (i := 11) rfl ?_;try simp only [Act.put, Rg.s]
       refine Rg.tk (i := 12) rfl ?_ (hy := by intro wz hSw; (have q0 := hji; have q1 := hlt; go_simp <;> with_reducible rfl));try simp only [Act.put, Rg.s]
       refine Rg.tk (i := 13) rfl ?_;try simp only [Act.put, Rg.s]
       refine Rg.tk (i := 14) rfl ?_ (hy := by intro wz hSw; (refine op_load_key_mid HKx.out (HPx.out.below hSw).key ?_; exact ⟨_, rfl, rfl⟩));try simp only [Act.put, Rg.s]
       refine Rg.rd (i := 15) rfl fun K hK => ?_;go_simp;go_at_call 12
       (with_reducible refine (HLs.out _).mono ?_)
       rintro e wv0 ⟨rfl, hbx⟩;refine hK.out _ _ ?_ (fun hld => ?_)
       ·exact Below.trans hld (hbx.mono hld.size)
       clear hK K;try simp only [Act.put, Rg.s]
       refine Rg.tk (i := 16) rfl ?_;try simp only [Act.put, Rg.s]
       refine wpAnyH_done (by kernel_rfl) ?_ _;refine NoPanic.normal ?_;have HBz : Hid (Below wo.heap.size wo wv0) := hid (bst HB2.out hld);clear hld hbx;have hbz := HBz.out.size;have HP3 := hid (HP2.out.below HBz.out);have HPx3 := hid (hpxr.below HBz.out);have HU3 : Hid (IsPs (wv0.alloc (.cells #[] 33)) _ q c2 (S.take q)) := hid (((HP3.out.below (al1 _ _))).upto q (by omega))
       have HL3 : Hid ((wv0.alloc (.cells #[] 33)).ownsRow wv0.heap.size 33 33 (.slice (some ⟨wv0.heap.size, 0, none⟩) 0 0) 0 (rowP [])) := hid (World.ownsRow_lit (e := 33) (size := 33) (base := wv0.heap.size) wv0 #[] 0 (Nat.le_refl _) (by unfold maxLen; decide) rfl);have hs3 : wv0.heap.size ≤ (wv0.alloc (.cells #[] 33)).heap.size := by simp
       have hq0 : 0 + q ≤ 1000000 := by omega
       have hqc : q ≤ c2 := by omega
       go_wp2_with (first
        | (refine Rg.run rfl _ _ (op_lit_none _ rfl rfl) ?_)
        | (refine Rg.run rfl _ _ (op_uptoB under_pairs size_pair hqc ⟨_, _, rfl, rfl, rfl⟩) ?_)
        | (at_builtin; refine wpl_append_pairs rfl _ _ rfl rfl rfl HL3.out HU3.out hq0 hs3 ?_))
       intro v4 w4 h4 hg4 hn4;have HR4 : Hid (w4.ownsRow wv0.heap.size 33 33 v4 q (rowP (S.take q))) := hid (by simpa using h4);have HB4 : Hid (Below wo.heap.size wo w4) := hid ((HBz.out.alloc HBz.out.size _).grown hg4 (by simp; omega) (fun k hk => by cases hk; exact hbz));have hz4 : wv0.heap.size < w4.heap.size := by
        obtain ⟨_, _, _, hz, _⟩ := hg4;simp at hz;omega
       clear h4 hg4 hn4 HL3 HU3 hs3 hq0 HP3 HPx3;have HPx4 := hid (hpxr.below HB4.out);have HN4 := hid (Rg.Own.new w4 (pairA x) 33);have HU4 : Hid (IsPs (w4.alloc (.cells (pairA x) 33)) (some ⟨w4.heap.size, 0, none⟩) 1 1 [x]) := hid (isPs_one HKx.out HN4.out);have HR4' := hid (HR4.out.alloc (.cells (pairA x) 33));have hq4 : q + 1 ≤ 1000000 := by omega
       have hs4 : wv0.heap.size ≤ (w4.alloc (.cells (pairA x) 33)).heap.size := by simp; omega
       go_wp2_with (first
        | (refine Rg.run rfl _ _ (op_load_pair HKx.out HPx4.out ⟨_, rfl, rfl⟩) ?_)
        | (refine Rg.run rfl _ _ (op_lit_pair HKx.out _ rfl ⟨_, rfl, rfl⟩) ?_)
        | (at_builtin; refine wpl_append_pairs rfl _ _ rfl rfl rfl HR4'.out HU4.out hq4 hs4 ?_))
       intro v5 w5 h5 hg5 hn5;have HR5 : Hid (w5.ownsRow wv0.heap.size 33 33 v5 (q + 1) (rowP (S.take q ++ [x]))) := hid h5;have hlt4 := HR4.out.lt;have HB5 : Hid (Below wo.heap.size wo w5) := hid ((HB4.out.alloc HB4.out.size _).grown hg5 (by have := HB4.out.size; simp; omega) (fun k hk => Nat.le_trans hbz (hlt4 k hk).1));have hz5 : wv0.heap.size ≤ w5.heap.size := by
        obtain ⟨_, _, _, hz, _⟩ := hg5;simp at hz;omega
       clear h5 hg5 hn5 HN4 HU4 HR4' hs4 hq4 HPx4 HR4 HB4 hlt4;have HP5 := hid (HP2.out.below HB5.out);have HPx5 := hid (hpxr.below HB5.out);have HPy5 := hid (hpyr.below HB5.out);go_wp2_with fail
       refine wp_region_noPanic ?_;refine wp_region_held_drew (S := fun w' => Below w5.heap.size w5 w') (by kernel_rfl) ((below_drewN (Below.refl _ _) 1)) (fun hld => ?_);refine Rg.tk (i := 0) rfl ?_;try simp only [Act.put, Rg.s]
       refine Rg.tk (i := 1) rfl ?_;try simp only [Act.put, Rg.s]
       refine Rg.tk (i := 2) rfl ?_;try simp only [Act.put, Rg.s]
       refine Rg.tk (i := 3) rfl ?_;try simp only [Act.put, Rg.s]
       refine Rg.tk (i := 4) rfl ?_;try simp only [Act.put, Rg.s]
       refine Rg.tk (i := 5) rfl ?_;try simp only [Act.put, Rg.s]
       refine Rg.tk (i := 6) rfl ?_;try simp only [Act.put, Rg.s]
       refine Rg.tk (i := 7) rfl ?_ (hy := by intro wz hSw; (have q0 := hqi; have q1 := hqm; go_simp <;> with_reducible rfl));try simp only [Act.put, Rg.s]
       refine Rg.tk (i := 8) rfl ?_;try simp only [Act.put, Rg.s]
       refine Rg.tk (i := 9) rfl ?_ (hy := by intro wz hSw; (refine op_load_key_mid HKy.out (HPy5.out.below hSw).key ?_; exact ⟨_, rfl, rfl⟩));try simp only [Act.put, Rg.s]
       refine Rg.tk (i := 10) rfl ?_;try simp only [Act.put, Rg.s]
       refine Rg.tk (i := 11) rfl ?_;try simp only [Act.put, Rg.s]
       refine Rg.tk (i := 12) rfl ?_ (hy := by intro wz hSw; (have q0 := hji; have q1 := hlt; go_simp <;> with_reducible rfl));try simp only [Act.put, Rg.s]
       refine Rg.tk (i := 13) rfl ?_;try simp only [Act.put, Rg.s]
       refine Rg.tk (i := 14) rfl ?_ (hy := by intro wz hSw; (refine op_load_key_mid HKx.out (HPx5.out.below hSw).key ?_; exact ⟨_, rfl, rfl⟩));try simp only [Act.put, Rg.s]
       refine Rg.tk (i := 15) rfl ?_ (hy := by intro wz hSw; (refine op_eql_keys HKy.out HKx.out ?_; exact ⟨_, _, _, rfl, rfl, rfl⟩));try simp only [Act.put, Rg.s]
       refine Rg.tk (i := 16) rfl ?_;try simp only [Act.put, Rg.s]
       refine wpAnyH_done (by kernel_rfl) ?_ _;refine NoPanic.normal ?_;have HB6 : Hid (Below wo.heap.size wo w5.drew) := hid (HB5.out.drew);have HR6 := hid (own_keepN HR5.out ((Below.refl _ _).drew));clear hld;have HZ6 : Hid (w5.heap.size ≤ w5.drew.heap.size) := hid (Nat.le_refl _);obtain ⟨w6, hw6⟩ : ∃ W, w5.drew = W := ⟨_, rfl⟩
       rw [hw6] at HB6 HR6 HZ6 ⊢;clear hw6;rw [HEd.out];have HP6 := hid (HP2.out.below HB6.out);have HD6 := hid (HP6.out.from' (q + 1) (by omega));have hz6 : wv0.heap.size ≤ w6.heap.size := Nat.le_trans hz5 HZ6.out;have hq6 : q + 1 + (m - (q + 1)) ≤ 1000000 := by omega
       have hkm : q + 1 ≤ m := by omega
       have hlt6 := HR6.out.lt;go_wp2_with (first
        | (refine Rg.run rfl _ _ (op_fromB under_pairs size_pair hkm ⟨_, _, rfl, rfl, rfl⟩) ?_)
        | (at_builtin; refine wpl_append_pairs rfl _ _ rfl rfl rfl HR6.out HD6.out hq6 hz6 ?_))
       intro v7 w7 h7 hg7 hn7;have HR7 : Hid (w7.ownsRow w.heap.size 33 33 v7 (S.take q ++ [x] ++ S.drop (q + 1)).length (rowP (S.take q ++ [x] ++ S.drop (q + 1)))) := hid (by
        rw [show (S.take q ++ [x] ++ S.drop (q + 1)).length = m by simp only [List.length_append, List.length_take, List.length_drop, List.length_singleton, HSm.out]; omega, List.append_assoc];exact own_mono h7 (by have := HB.out.size; omega))
       have HB7 : Hid (Below w.heap.size w w7) := hid (HB.out.trans (((HB6.out.grown hg7 (by have := HB6.out.size; omega) (fun k hk => Nat.le_trans hbz (hlt6 k hk).1))).mono HB.out.size));clear h7 hg7 hn7;go_wp2;go_roundw
       case rel => exact ⟨j + 1, by omega, by go_num, hid (by rw [HF.out, ins_stop S x q (by rw [HSm.out]; omega) HI.out (fun _ => by rw [HYy.out]; exact HNl.out), if_pos ⟨by rw [HSm.out]; omega, by rw [HYy.out]; exact HEk.out⟩]; exact HR7.out), HB7⟩
       case measure => simp [intOf]; omega
      ·have HEd := hid (decide_eq_false hek);have HEk := hid hek;have HYy := hid hyy;clear hek hyy;go_wp2_with fail
       refine wp_region_noPanic ?_;refine wp_region_held_drew (S := fun w' => Below wr.heap.size wr w') (by kernel_rfl) ((below_drewN (Below.refl _ _) 1)) (fun hld => ?_);refine Rg.tk (i := 0) rfl ?_;try simp only [Act.put, Rg.s]
       refine Rg.tk (i := 1) rfl ?_;try simp only [Act.put, Rg.s]
       refine Rg.tk (i := 2) rfl ?_;try simp only [Act.put, Rg.s]
       refine Rg.tk (i := 3) rfl ?_;try simp only [Act.put, Rg.s]
       refine Rg.tk (i := 4) rfl ?_;try simp only [Act.put, Rg.s]
       refine Rg.tk (i := 5) rfl ?_;try simp only [Act.put, Rg.s]
       refine Rg.tk (i := 6) rfl ?_;try simp only [Act.put, Rg.s]
       refine Rg.tk (i := 7) rfl ?_ (hy := by intro wz hSw; (have q0 := hqi; have q1 := hqm; go_simp <;> with_reducible rfl));try simp only [Act.put, Rg.s]
       refine Rg.tk (i := 8) rfl ?_;try simp only [Act.put, Rg.s]
       refine Rg.tk (i := 9) rfl ?_ (hy := by intro wz hSw; (refine op_load_key_mid HKy.out (HPy.out.below hSw).key ?_; exact ⟨_, rfl, rfl⟩));try simp only [Act.put, Rg.s]
       refine Rg.tk (i := 10) rfl ?_;try simp only [Act.put, Rg.s]
       refine Rg.tk (i := 11) rfl ?_;try simp only [Act.put, Rg.s]
       refine Rg.tk (i := 12) rfl ?_ (hy := by intro wz hSw; (have q0 := hji; have q1 := hlt; go_simp <;> with_reducible rfl));try simp only [Act.put, Rg.s]
       refine Rg.tk (i := 13) rfl ?_;try simp only [Act.put, Rg.s]
       refine Rg.tk (i := 14) rfl ?_ (hy := by intro wz hSw; (refine op_load_key_mid HKx.out (HPx.out.below hSw).key ?_; exact ⟨_, rfl, rfl⟩));try simp only [Act.put, Rg.s]
       refine Rg.rd (i := 15) rfl fun K hK => ?_;go_simp;go_at_call 12
       (with_reducible refine (HLs.out _).mono ?_)
       rintro e wv0 ⟨rfl, hbx⟩;refine hK.out _ _ ?_ (fun hld => ?_)
       ·exact Below.trans hld (hbx.mono hld.size)
       clear hK K;try simp only [Act.put, Rg.s]
       refine Rg.tk (i := 16) rfl ?_;try simp only [Act.put, Rg.s]
       refine wpAnyH_done (by kernel_rfl) ?_ _;refine NoPanic.normal ?_;have HBz : Hid (Below wo.heap.size wo wv0) := hid (bst HB2.out hld);clear hld hbx;have hbz := HBz.out.size;have HP3 := hid (HP2.out.below HBz.out);have HPx3 := hid (hpxr.below HBz.out);have HU3 : Hid (IsPs (wv0.alloc (.cells #[] 33)) _ q c2 (S.take q)) := hid (((HP3.out.below (al1 _ _))).upto q (by omega))
       have HL3 : Hid ((wv0.alloc (.cells #[] 33)).ownsRow wv0.heap.size 33 33 (.slice (some ⟨wv0.heap.size, 0, none⟩) 0 0) 0 (rowP [])) := hid (World.ownsRow_lit (e := 33) (size := 33) (base := wv0.heap.size) wv0 #[] 0 (Nat.le_refl _) (by unfold maxLen; decide) rfl);have hs3 : wv0.heap.size ≤ (wv0.alloc (.cells #[] 33)).heap.size := by simp
       have hq0 : 0 + q ≤ 1000000 := by omega
       have hqc : q ≤ c2 := by omega
       go_wp2_with (first
        | (refine Rg.run rfl _ _ (op_lit_none _ rfl rfl) ?_)
        | (refine Rg.run rfl _ _ (op_uptoB under_pairs size_pair hqc ⟨_, _, rfl, rfl, rfl⟩) ?_)
        | (at_builtin; refine wpl_append_pairs rfl _ _ rfl rfl rfl HL3.out HU3.out hq0 hs3 ?_))
       intro v4 w4 h4 hg4 hn4;have HR4 : Hid (w4.ownsRow wv0.heap.size 33 33 v4 q (rowP (S.take q))) := hid (by simpa using h4);have HB4 : Hid (Below wo.heap.size wo w4) := hid ((HBz.out.alloc HBz.out.size _).grown hg4 (by simp; omega) (fun k hk => by cases hk; exact hbz));have hz4 : wv0.heap.size < w4.heap.size := by
        obtain ⟨_, _, _, hz, _⟩ := hg4;simp at hz;omega
       clear h4 hg4 hn4 HL3 HU3 hs3 hq0 HP3 HPx3;have HPx4 := hid (hpxr.below HB4.out);have HN4 := hid (Rg.Own.new w4 (pairA x) 33);have HU4 : Hid (IsPs (w4.alloc (.cells (pairA x) 33)) (some ⟨w4.heap.size, 0, none⟩) 1 1 [x]) := hid (isPs_one HKx.out HN4.out);have HR4' := hid (HR4.out.alloc (.cells (pairA x) 33));have hq4 : q + 1 ≤ 1000000 := by omega
       have hs4 : wv0.heap.size ≤ (w4.alloc (.cells (pairA x) 33)).heap.size := by simp; omega
       go_wp2_with (first
        | (refine Rg.run rfl _ _ (op_load_pair HKx.out HPx4.out ⟨_, rfl, rfl⟩) ?_)
        | (refine Rg.run rfl _ _ (op_lit_pair HKx.out _ rfl ⟨_, rfl, rfl⟩) ?_)
        | (at_builtin; refine wpl_append_pairs rfl _ _ rfl rfl rfl HR4'.out HU4.out hq4 hs4 ?_))
       intro v5 w5 h5 hg5 hn5;have HR5 : Hid (w5.ownsRow wv0.heap.size 33 33 v5 (q + 1) (rowP (S.take q ++ [x]))) := hid h5;have hlt4 := HR4.out.lt;have HB5 : Hid (Below wo.heap.size wo w5) := hid ((HB4.out.alloc HB4.out.size _).grown hg5 (by have := HB4.out.size; simp; omega) (fun k hk => Nat.le_trans hbz (hlt4 k hk).1));have hz5 : wv0.heap.size ≤ w5.heap.size := by
        obtain ⟨_, _, _, hz, _⟩ := hg5;simp at hz;omega
       clear h5 hg5 hn5 HN4 HU4 HR4' hs4 hq4 HPx4 HR4 HB4 hlt4;have HP5 := hid (HP2.out.below HB5.out);have HPx5 := hid (hpxr.below HB5.out);have HPy5 := hid (hpyr.below HB5.out);go_wp2_with fail
       refine wp_region_noPanic ?_;refine wp_region_held_drew (S := fun w' => Below w5.heap.size w5 w') (by kernel_rfl) ((below_drewN (Below.refl _ _) 1)) (fun hld => ?_);refine Rg.tk (i := 0) rfl ?_;try simp only [Act.put, Rg.s]
       refine Rg.tk (i := 1) rfl ?_;try simp only [Act.put, Rg.s]
       refine Rg.tk (i := 2) rfl ?_;try simp only [Act.put, Rg.s]
       refine Rg.tk (i := 3) rfl ?_;try simp only [Act.put, Rg.s]
       refine Rg.tk (i := 4) rfl ?_;try simp only [Act.put, Rg.s]
       refine Rg.tk (i := 5) rfl ?_;try simp only [Act.put, Rg.s]
       refine Rg.tk (i := 6) rfl ?_;try simp only [Act.put, Rg.s]
       refine Rg.tk (i := 7) rfl ?_ (hy := by intro wz hSw; (have q0 := hqi; have q1 := hqm; go_simp <;> with_reducible rfl));try simp only [Act.put, Rg.s]
       refine Rg.tk (i := 8) rfl ?_;try simp only [Act.put, Rg.s]
       refine Rg.tk (i := 9) rfl ?_ (hy := by intro wz hSw; (refine op_load_key_mid HKy.out (HPy5.out.below hSw).key ?_; exact ⟨_, rfl, rfl⟩));try simp only [Act.put, Rg.s]
       refine Rg.tk (i := 10) rfl ?_;try simp only [Act.put, Rg.s]
       refine Rg.tk (i := 11) rfl ?_;try simp only [Act.put, Rg.s]
       refine Rg.tk (i := 12) rfl ?_ (hy := by intro wz hSw; (have q0 := hji; have q1 := hlt; go_simp <;> with_reducible rfl));try simp only [Act.put, Rg.s]
       refine Rg.tk (i := 13) rfl ?_;try simp only [Act.put, Rg.s]
       refine Rg.tk (i := 14) rfl ?_ (hy := by intro wz hSw; (refine op_load_key_mid HKx.out (HPx5.out.below hSw).key ?_; exact ⟨_, rfl, rfl⟩));try simp only [Act.put, Rg.s]
       refine Rg.tk (i := 15) rfl ?_ (hy := by intro wz hSw; (refine op_eql_keys HKy.out HKx.out ?_; exact ⟨_, _, _, rfl, rfl, rfl⟩));try simp only [Act.put, Rg.s]
       refine Rg.tk (i := 16) rfl ?_;try simp only [Act.put, Rg.s]
       refine wpAnyH_done (by kernel_rfl) ?_ _;refine NoPanic.normal ?_;have HB6 : Hid (Below wo.heap.size wo w5.drew) := hid (HB5.out.drew);have HR6 := hid (own_keepN HR5.out ((Below.refl _ _).drew));clear hld;have HZ6 : Hid (w5.heap.size ≤ w5.drew.heap.size) := hid (Nat.le_refl _);obtain ⟨w6, hw6⟩ : ∃ W, w5.drew = W := ⟨_, rfl⟩
       rw [hw6] at HB6 HR6 HZ6 ⊢;clear hw6;rw [HEd.out];have HP6 := hid (HP2.out.below HB6.out);have HD6 := hid (HP6.out.from' (q) (by omega));have hz6 : wv0.heap.size ≤ w6.heap.size := Nat.le_trans hz5 HZ6.out;have hq6 : q + 1 + (m - (q)) ≤ 1000000 := by omega
       have hkm : q ≤ m := by omega
       have hlt6 := HR6.out.lt;go_wp2_with (first
        | (refine Rg.run rfl _ _ (op_fromB under_pairs size_pair hkm ⟨_, _, rfl, rfl, rfl⟩) ?_)
        | (at_builtin; refine wpl_append_pairs rfl _ _ rfl rfl rfl HR6.out HD6.out hq6 hz6 ?_))
       intro v7 w7 h7 hg7 hn7;have HR7 : Hid (w7.ownsRow w.heap.size 33 33 v7 (S.take q ++ [x] ++ S.drop (q)).length (rowP (S.take q ++ [x] ++ S.drop (q)))) := hid (by
        rw [show (S.take q ++ [x] ++ S.drop (q)).length = q + 1 + (m - q) by simp only [List.length_append, List.length_take, List.length_drop, List.length_singleton, HSm.out]; omega, List.append_assoc];exact own_mono h7 (by have := HB.out.size; omega))
       have HB7 : Hid (Below w.heap.size w w7) := hid (HB.out.trans (((HB6.out.grown hg7 (by have := HB6.out.size; omega) (fun k hk => Nat.le_trans hbz (hlt6 k hk).1))).mono HB.out.size));clear h7 hg7 hn7;go_wp2;go_roundw
       case rel => exact ⟨j + 1, by omega, by go_num, hid (by rw [HF.out, ins_stop S x q (by rw [HSm.out]; omega) HI.out (fun _ => by rw [HYy.out]; exact HNl.out), if_neg (fun g => HEk.out (by rw [← HYy.out]; exact g.2))]; exact HR7.out), HB7⟩
       case measure => simp [intOf]; omega
    ·obtain rfl : q = m := by omega
     have hqd : ¬ ((q : Int) < q) := by omega
     go_wp2_with fail
     refine wp_region_noPanic ?_;refine wp_region_held_drew (S := fun w' => Below wr.heap.size wr w') (by kernel_rfl) ((below_drewN (Below.refl _ _) 1)) (fun hld => ?_);refine Rg.tk (i := 0) rfl ?_;try simp only [Act.put, Rg.s]
     refine Rg.tk (i := 1) rfl ?_;try simp only [Act.put, Rg.s]
     refine Rg.tk (i := 2) rfl ?_;try simp only [Act.put, Rg.s]
     refine Rg.tk (i := 3) rfl ?_ (hy := by intro wz hSw; (have q0 := hqd; go_simp <;> with_reducible rfl));try simp only [Act.put, Rg.s]
     refine Rg.tk (i := 4) rfl ?_;try simp only [Act.put, Rg.s]
     refine Rg.takeL (i := 5) (v := undef) rfl (by kernel_rfl) (by kernel_rfl) (by kernel_rfl) (fun _ _ _ h => h) (Or.inr ⟨by rfl, rfl⟩) (by assumption) ?_;try simp only [Act.put, Rg.s]
     refine Rg.takeL (i := 6) (v := undef) rfl (by kernel_rfl) (by kernel_rfl) (by kernel_rfl) (fun _ _ _ h => h) (Or.inr ⟨by rfl, rfl⟩) (by assumption) ?_;try simp only [Act.put, Rg.s]
     refine Rg.takeL (i := 7) (v := undef) rfl (by kernel_rfl) (by kernel_rfl) (by kernel_rfl) (fun _ _ _ h => h) (Or.inr ⟨by rfl, rfl⟩) (by assumption) ?_;try simp only [Act.put, Rg.s]
     refine Rg.takeL (i := 8) (v := undef) rfl (by kernel_rfl) (by kernel_rfl) (by kernel_rfl) (fun _ _ _ h => h) (Or.inr ⟨by rfl, rfl⟩) (by assumption) ?_;try simp only [Act.put, Rg.s]
     refine Rg.takeL (i := 9) (v := undef) rfl (by kernel_rfl) (by kernel_rfl) (by kernel_rfl) (fun _ _ _ h => h) (Or.inr ⟨by rfl, rfl⟩) (by assumption) ?_;try simp only [Act.put, Rg.s]
     refine Rg.takeL (i := 10) (v := undef) rfl (by kernel_rfl) (by kernel_rfl) (by kernel_rfl) (fun _ _ _ h => h) (Or.inr ⟨by rfl, rfl⟩) (by assumption) ?_;try simp only [Act.put, Rg.s]
     refine Rg.takeL (i := 11) (v := undef) rfl (by kernel_rfl) (by kernel_rfl) (by kernel_rfl) (fun _ _ _ h => h) (Or.inr ⟨by rfl, rfl⟩) (by assumption) ?_;try simp only [Act.put, Rg.s]
     refine Rg.takeL (i := 12) (v := undef) rfl (by kernel_rfl) (by kernel_rfl) (by kernel_rfl) (fun _ _ _ h => h) (Or.inr ⟨by rfl, rfl⟩) (by assumption) ?_;try simp only [Act.put, Rg.s]
     refine Rg.takeL (i := 13) (v := undef) rfl (by kernel_rfl) (by kernel_rfl) (by kernel_rfl) (fun _ _ _ h => h) (Or.inr ⟨by rfl, rfl⟩) (by assumption) ?_;try simp only [Act.put, Rg.s]
     refine Rg.takeL (i := 14) (v := undef) rfl (by kernel_rfl) (by kernel_rfl) (by kernel_rfl) (fun _ _ _ h => h) (Or.inr ⟨by rfl, rfl⟩) (by assumption) ?_;try simp only [Act.put, Rg.s]
     refine Rg.takeL (i := 15) (v := undef) rfl (by kernel_rfl) (by kernel_rfl) (by kernel_rfl) (fun _ _ _ h => h) (Or.inr ⟨by rfl, rfl⟩) (by assumption) ?_;try simp only [Act.put, Rg.s]
     refine Rg.tk (i := 16) rfl ?_;try simp only [Act.put, Rg.s]
     refine wpAnyH_done (by kernel_rfl) ?_ _;refine NoPanic.normal ?_;have HBz : Hid (Below wo.heap.size wo wr.drew) := hid (HB2.out.drew);clear hld;obtain ⟨wv0, hwv⟩ : ∃ W, wr.drew = W := ⟨_, rfl⟩
     rw [hwv] at HBz ⊢;clear hwv;have hbz := HBz.out.size;have HP3 := hid (HP2.out.below HBz.out);have HPx3 := hid (hpxr.below HBz.out);have HU3 : Hid (IsPs (wv0.alloc (.cells #[] 33)) _ q c2 (S.take q)) := hid (((HP3.out.below (al1 _ _))).upto q (by omega));have HL3 : Hid ((wv0.alloc (.cells #[] 33)).ownsRow wv0.heap.size 33 33 (.slice (some ⟨wv0.heap.size, 0, none⟩) 0 0) 0 (rowP [])) := hid (World.ownsRow_lit (e := 33) (size := 33) (base := wv0.heap.size) wv0 #[] 0 (Nat.le_refl _) (by unfold maxLen; decide) rfl)
     have hs3 : wv0.heap.size ≤ (wv0.alloc (.cells #[] 33)).heap.size := by simp
     have hq0 : 0 + q ≤ 1000000 := by omega
     have hqc : q ≤ c2 := by omega
     go_wp2_with (first
      | (refine Rg.run rfl _ _ (op_lit_none _ rfl rfl) ?_)
      | (refine Rg.run rfl _ _ (op_uptoB under_pairs size_pair hqc ⟨_, _, rfl, rfl, rfl⟩) ?_)
      | (at_builtin; refine wpl_append_pairs rfl _ _ rfl rfl rfl HL3.out HU3.out hq0 hs3 ?_))
     intro v4 w4 h4 hg4 hn4;have HR4 : Hid (w4.ownsRow wv0.heap.size 33 33 v4 q (rowP (S.take q))) := hid (by simpa using h4);have HB4 : Hid (Below wo.heap.size wo w4) := hid ((HBz.out.alloc HBz.out.size _).grown hg4 (by simp; omega) (fun k hk => by cases hk; exact hbz));have hz4 : wv0.heap.size < w4.heap.size := by
      obtain ⟨_, _, _, hz, _⟩ := hg4;simp at hz;omega
     clear h4 hg4 hn4 HL3 HU3 hs3 hq0 HP3 HPx3;have HPx4 := hid (hpxr.below HB4.out);have HN4 := hid (Rg.Own.new w4 (pairA x) 33);have HU4 : Hid (IsPs (w4.alloc (.cells (pairA x) 33)) (some ⟨w4.heap.size, 0, none⟩) 1 1 [x]) := hid (isPs_one HKx.out HN4.out);have HR4' := hid (HR4.out.alloc (.cells (pairA x) 33));have hq4 : q + 1 ≤ 1000000 := by omega
     have hs4 : wv0.heap.size ≤ (w4.alloc (.cells (pairA x) 33)).heap.size := by simp; omega
     go_wp2_with (first
      | (refine Rg.run rfl _ _ (op_load_pair HKx.out HPx4.out ⟨_, rfl, rfl⟩) ?_)
      | (refine Rg.run rfl _ _ (op_lit_pair HKx.out _ rfl ⟨_, rfl, rfl⟩) ?_)
      | (at_builtin; refine wpl_append_pairs rfl _ _ rfl rfl rfl HR4'.out HU4.out hq4 hs4 ?_))
     intro v5 w5 h5 hg5 hn5;have HR5 : Hid (w5.ownsRow wv0.heap.size 33 33 v5 (q + 1) (rowP (S.take q ++ [x]))) := hid h5;have hlt4 := HR4.out.lt;have HB5 : Hid (Below wo.heap.size wo w5) := hid ((HB4.out.alloc HB4.out.size _).grown hg5 (by have := HB4.out.size; simp; omega) (fun k hk => Nat.le_trans hbz (hlt4 k hk).1));have hz5 : wv0.heap.size ≤ w5.heap.size := by
      obtain ⟨_, _, _, hz, _⟩ := hg5;simp at hz;omega
     clear h5 hg5 hn5 HN4 HU4 HR4' hs4 hq4 HPx4 HR4 HB4 hlt4;have HP5 := hid (HP2.out.below HB5.out);have HPx5 := hid (hpxr.below HB5.out);go_wp2_with fail
     refine wp_region_noPanic ?_;refine wp_region_held_drew (S := fun w' => Below w5.heap.size w5 w') (by kernel_rfl) ((below_drewN (Below.refl _ _) 1)) (fun hld => ?_);refine Rg.tk (i := 0) rfl ?_;try simp only [Act.put, Rg.s]
     refine Rg.tk (i := 1) rfl ?_;try simp only [Act.put, Rg.s]
     refine Rg.tk (i := 2) rfl ?_;try simp only [Act.put, Rg.s]
     refine Rg.tk (i := 3) rfl ?_ (hy := by intro wz hSw; (have q0 := hqd; go_simp <;> with_reducible rfl));try simp only [Act.put, Rg.s]
     refine Rg.tk (i := 4) rfl ?_;try simp only [Act.put, Rg.s]
     refine Rg.takeL (i := 5) (v := undef) rfl (by kernel_rfl) (by kernel_rfl) (by kernel_rfl) (fun _ _ _ h => h) (Or.inr ⟨by rfl, rfl⟩) (by assumption) ?_;try simp only [Act.put, Rg.s]
     refine Rg.takeL (i := 6) (v := undef) rfl (by kernel_rfl) (by kernel_rfl) (by kernel_rfl) (fun _ _ _ h => h) (Or.inr ⟨by rfl, rfl⟩) (by assumption) ?_;try simp only [Act.put, Rg.s]
     refine Rg.takeL (i := 7) (v := undef) rfl (by kernel_rfl) (by kernel_rfl) (by kernel_rfl) (fun _ _ _ h => h) (Or.inr ⟨by rfl, rfl⟩) (by assumption) ?_;try simp only [Act.put, Rg.s]
     refine Rg.takeL (i := 8) (v := undef) rfl (by kernel_rfl) (by kernel_rfl) (by kernel_rfl) (fun _ _ _ h => h) (Or.inr ⟨by rfl, rfl⟩) (by assumption) ?_;try simp only [Act.put, Rg.s]
     refine Rg.takeL (i := 9) (v := undef) rfl (by kernel_rfl) (by kernel_rfl) (by kernel_rfl) (fun _ _ _ h => h) (Or.inr ⟨by rfl, rfl⟩) (by assumption) ?_;try simp only [Act.put, Rg.s]
     refine Rg.takeL (i := 10) (v := undef) rfl (by kernel_rfl) (by kernel_rfl) (by kernel_rfl) (fun _ _ _ h => h) (Or.inr ⟨by rfl, rfl⟩) (by assumption) ?_;try simp only [Act.put, Rg.s]
     refine Rg.takeL (i := 11) (v := undef) rfl (by kernel_rfl) (by kernel_rfl) (by kernel_rfl) (fun _ _ _ h => h) (Or.inr ⟨by rfl, rfl⟩) (by assumption) ?_;try simp only [Act.put, Rg.s]
     refine Rg.takeL (i := 12) (v := undef) rfl (by kernel_rfl) (by kernel_rfl) (by kernel_rfl) (fun _ _ _ h => h) (Or.inr ⟨by rfl, rfl⟩) (by assumption) ?_;try simp only [Act.put, Rg.s]
     refine Rg.takeL (i := 13) (v := undef) rfl (by kernel_rfl) (by kernel_rfl) (by kernel_rfl) (fun _ _ _ h => h) (Or.inr ⟨by rfl, rfl⟩) (by assumption) ?_;try simp only [Act.put, Rg.s]
     refine Rg.takeL (i := 14) (v := undef) rfl (by kernel_rfl) (by kernel_rfl) (by kernel_rfl) (fun _ _ _ h => h) (Or.inr ⟨by rfl, rfl⟩) (by assumption) ?_;try simp only [Act.put, Rg.s]
     refine Rg.takeL (i := 15) (v := undef) rfl (by kernel_rfl) (by kernel_rfl) (by kernel_rfl) (fun _ _ _ h => h) (Or.inr ⟨by rfl, rfl⟩) (by assumption) ?_;try simp only [Act.put, Rg.s]
     refine Rg.tk (i := 16) rfl ?_;try simp only [Act.put, Rg.s]
     refine wpAnyH_done (by kernel_rfl) ?_ _;refine NoPanic.normal ?_;have HB6 : Hid (Below wo.heap.size wo w5.drew) := hid (HB5.out.drew);have HR6 := hid (own_keepN HR5.out ((Below.refl _ _).drew));clear hld;have HZ6 : Hid (w5.heap.size ≤ w5.drew.heap.size) := hid (Nat.le_refl _);obtain ⟨w6, hw6⟩ : ∃ W, w5.drew = W := ⟨_, rfl⟩
     rw [hw6] at HB6 HR6 HZ6 ⊢;clear hw6;have HP6 := hid (HP2.out.below HB6.out);have HD6 := hid (HP6.out.from' (q) (by omega));have hz6 : wv0.heap.size ≤ w6.heap.size := Nat.le_trans hz5 HZ6.out;have hq6 : q + 1 + (q - (q)) ≤ 1000000 := by omega
     have hkm : q ≤ q := by omega
     have hlt6 := HR6.out.lt;go_wp2_with (first
      | (refine Rg.run rfl _ _ (op_fromB under_pairs size_pair hkm ⟨_, _, rfl, rfl, rfl⟩) ?_)
      | (at_builtin; refine wpl_append_pairs rfl _ _ rfl rfl rfl HR6.out HD6.out hq6 hz6 ?_))
     intro v7 w7 h7 hg7 hn7;have HR7 : Hid (w7.ownsRow w.heap.size 33 33 v7 (S.take q ++ [x] ++ S.drop (q)).length (rowP (S.take q ++ [x] ++ S.drop (q)))) := hid (by
      rw [show (S.take q ++ [x] ++ S.drop (q)).length = q + 1 by simp only [List.length_append, List.length_take, List.length_drop, List.length_singleton, HSm.out]; omega, List.append_assoc];exact own_mono h7 (by have := HB.out.size; omega))
     have HB7 : Hid (Below w.heap.size w w7) := hid (HB.out.trans (((HB6.out.grown hg7 (by have := HB6.out.size; omega) (fun k hk => Nat.le_trans hbz (hlt6 k hk).1))).mono HB.out.size));clear h7 hg7 hn7;go_wp2;go_roundw
     case rel => exact ⟨j + 1, by omega, by go_num, hid (by rw [HF.out, ins_stop S x q (by rw [HSm.out]; omega) HI.out (fun g => absurd g (by rw [HSm.out]; omega)), if_neg (fun g => absurd g.1 (by rw [HSm.out]; omega))]; exact HR7.out), HB7⟩
     case measure => simp [intOf]; omega
  ·obtain rfl : j = n := by omega
   have HR' : Hid (wo.ownsRow w.heap.size 33 33 _ (sortL l).length (rowP (sortL l))) := hid (by
    have e := HR.out;rwa [List.take_of_length_le (by rw [HL.out]; exact Nat.le_refl _)] at e)
   clear HR;go_wp2;go_ret;exact ⟨_, rfl, HR'.out, HB.out⟩
end Tm
end
section
open Go.RowKit
namespace Tm
open Tr Ni Pk Ky No
def DepthC (L : Nat) : Prop := ∀ (l : List Tr.In), Ok L l → ∀ (a : Option Addr) (n c : Nat) (w : World), IsIns w a n c l → n ≤ 1000 →
 Calls Tryz.prog 17 #[.slice a n c] w fun e w' => e = .returned (.int .i64 (depthT (build L l) : Nat)) ∧ Below w.heap.size w w'
theorem rdepth_of {L : Nat} (hL : L ≤ 64) (ih : ∀ m, m < L → DepthC m) : DepthC L := fun l ok a n c w h hn => by
 have hnl := h.len;have hall : ∀ z ∈ l, z.1.length = L := fun z hz => (ok.1 z hz).1;rcases depth_kinds ok with ⟨h0, hd⟩ | ⟨h1, hd⟩ | ⟨h2, hp, hcl, hd, ok'⟩ | ⟨h2, hp, hL0, hd⟩
 ·obtain rfl : n = 0 := by omega
  have HD := hid hd;clear h hd ih ok hall h0 hnl;go_enter Tryz.func17, Tryz.ntmps17;go_wp2;go_ret;exact ⟨by rw [HD.out]; rfl, Below.refl _ _⟩
 ·obtain rfl : n = 1 := by omega
  have HD := hid hd;clear h hd ih ok hall h1 hnl;go_enter Tryz.func17, Tryz.ntmps17;go_wp2;go_ret;exact ⟨by rw [HD.out]; rfl, Below.refl _ _⟩
 ·have n0 : ((n : Int) == 0) = false := by simp; omega
  have n1 : ((n : Int) == 1) = false := by simp; omega
  have HC := hid (common_any l a n c (fun z hz => by rw [hall z hz]; omega) (by omega) w h (by omega));have HR := hid (fun wz hb => rest_any l a n c (commonL l) (fun z hz => by rw [hall z hz]; omega) wz (h.below hb) (by omega));have HI := hid (fun a' n' c' wz (hI : IsIns wz a' n' c' (restL l (commonL l))) => ih (L - commonL l) (by omega) _ ok' a' n' c' wz hI (by rw [← hI.len]; unfold restL; rw [List.length_map]; omega));have hle := build_depth ok';obtain ⟨D, hDD⟩ : ∃ D, depthT (build (L - commonL l) (restL l (commonL l))) = D := ⟨_, rfl⟩
  rw [hDD] at HI hd hle;have HD := hid hd;obtain ⟨r, hr⟩ : ∃ r, restL l (commonL l) = r := ⟨_, rfl⟩
  rw [hr] at HR HI;obtain ⟨K, hK⟩ : ∃ K, commonL l = K := ⟨_, rfl⟩
  rw [hK] at HC HR hp;have hk0 : (0 : Int) < (K : Int) := by omega
  have hDl : D ≤ 65 := by omega
  clear h hd ih ok hall hnl ok' hDD hr hK hcl hle h2 hp;go_enter Tryz.func17, Tryz.ntmps17;go_wp2_with fail
  refine HC.out.mono ?_;rintro e w1 ⟨rfl, hb1⟩;go_wp2_with fail
  refine (HR.out w1 hb1).mono ?_;rintro e w2 ⟨a2, n2, c2, rfl, hI2, hb2⟩;go_wp2_with fail
  refine (HI.out a2 n2 c2 w2 hI2).mono ?_;rintro e w3 ⟨rfl, hb3⟩;go_wp2;go_ret;exact ⟨by rw [HD.out]; first | rfl | (congr 2; omega) | (simp; omega), bst (bst hb1 hb2) hb3⟩
 ·have n0 : ((n : Int) == 0) = false := by simp; omega
  have n1 : ((n : Int) == 1) = false := by simp; omega
  have HC := hid (common_any l a n c (fun z hz => by rw [hall z hz]; omega) (by omega) w h (by omega));rw [hp] at HC;have HB := hid (fun (d : Fin 16) wz hb => begin_any l a n c d (fun z hz => by rw [hall z hz]; exact hL0) wz (h.below hb) (by omega));have HR := hid (fun (d : Fin 16) a' n' c' wz (hi : IsIns wz a' n' c' (beginL l d)) => rest_any (beginL l d) a' n' c' 1 (fun z hz => by rw [hall z (mem_begin.1 hz).1]; omega) wz hi (by rw [← hi.len]; exact Nat.le_trans (List.length_filter_le _ _) (by omega)))
  have HI := hid (fun (d : Fin 16) a' n' c' wz (hI : IsIns wz a' n' c' (restL (beginL l d) 1)) => ih (L - 1) (by omega) _ (ok_begin ok hL0 d) a' n' c' wz hI (by
   rw [← hI.len];unfold restL;rw [List.length_map];exact Nat.le_trans (List.length_filter_le _ _) (by omega)))
  have hle : ∀ d : Fin 16, depthT (build (L - 1) (restL (beginL l d) 1)) ≤ 65 := fun d => Nat.le_trans (build_depth (ok_begin ok hL0 d)) (by omega);obtain ⟨ff, hff⟩ : ∃ ff : Fin 16 → Nat, (fun d => depthT (build (L - 1) (restL (beginL l d) 1))) = ff := ⟨_, rfl⟩
  have HFf : ∀ d, depthT (build (L - 1) (restL (beginL l d) 1)) = ff d := fun d => congrFun hff d;rw [hff] at hd;have HI' : Hid (∀ (d : Fin 16) a' n' c' wz, IsIns wz a' n' c' (restL (beginL l d) 1) → Calls Tryz.prog 17 #[.slice a' n' c'] wz fun e w' => e = .returned (.int .i64 (ff d : Nat)) ∧ Below wz.heap.size wz w') := hid (fun d a' n' c' wz hI => by rw [← HFf d]; exact HI.out d a' n' c' wz hI);have hML := maxN_le (f := ff) (L := 65) (fun d => by rw [← HFf d]; exact hle d);have HD := hid hd;have HM := hid hML;clear h hd ih ok hall hnl hff HFf HI hle h2 hp hML
  go_enter Tryz.func17, Tryz.ntmps17;go_wp2_with fail
  refine HC.out.mono ?_;rintro e w1 ⟨rfl, hb1⟩;have HB1 := hid hb1;clear hb1 HC;go_wp2_with fail
  go_loopw [4, 5] (fun v i wr => ∃ j : Nat, j ≤ 16 ∧ v = .int .i64 (maxN ff j : Nat) ∧ i = .int .i64 j ∧ Hid (Below w.heap.size w wr)) (fun _ i _ => 16 - (intOf i).toNat)
  case atStart => exact ⟨0, Nat.zero_le _, rfl, rfl, HB1⟩
  case round =>
   obtain ⟨j, hj, rfl, rfl, HB2⟩ := hrel;by_cases hlt : j < 16
   ·have HS := hid (maxN_step ff hlt);have hmj := HM.out j hj;have hB := HB.out ⟨j, hlt⟩ wr HB2.out;have hfj : ff ⟨j, hlt⟩ ≤ 65 := by
     have := HM.out (j + 1) (by omega);rw [HS.out] at this;exact Nat.le_trans (Nat.le_max_right _ _) this
    have hR := HR.out ⟨j, hlt⟩;have hI := HI'.out ⟨j, hlt⟩;generalize ff ⟨j, hlt⟩ = u at *
    generalize maxN ff j = v at *
    generalize beginL l ⟨j, hlt⟩ = bl at *
    have HBg := hid hB;have HRr := hid hR;have HIi := hid hI;clear hB hR hI HI' HR HB;go_wp2_with fail
    refine HBg.out.mono ?_;rintro e w2 ⟨a2, n2, c2, rfl, hI2, hb2⟩;go_wp2_with fail
    refine (HRr.out a2 n2 c2 w2 hI2).mono ?_;rintro e w3 ⟨a3, n3, c3, rfl, hI3, hb3⟩;go_wp2_with fail
    refine (HIi.out a3 n3 c3 w3 hI3).mono ?_;rintro e w4 ⟨rfl, hb4⟩;go_wp2_with fail
    refine (Lh.high_any _ _ _).mono ?_;rintro e w5 ⟨rfl, rfl⟩;go_wp2;go_roundw
    case rel => exact ⟨j + 1, by omega, by rw [HS.out]; congr 1; split <;> omega, by go_num, hid (bst (bst (bst HB2.out hb2) hb3) hb4)⟩
    case measure => simp [intOf]; omega
   ·obtain rfl : j = 16 := by omega
    have hmj := HM.out 16 (Nat.le_refl _);have HD' : Hid (depthT (build L l) = 1 + maxN ff 16) := HD;generalize maxN ff 16 = v at *
    go_wp2;go_ret;exact ⟨by rw [HD'.out]; first | rfl | (congr 2; omega) | (simp; omega), HB2.out⟩
theorem rdepth_any (L : Nat) : L ≤ 64 → DepthC L := by
 induction L using Nat.strongRecOn with
 | ind L ih => exact fun hL => rdepth_of hL fun m hm => ih m hm (by omega)
end Tm
end
end Go.Proofs.YtnecijeakeklaaaGreatDoor
