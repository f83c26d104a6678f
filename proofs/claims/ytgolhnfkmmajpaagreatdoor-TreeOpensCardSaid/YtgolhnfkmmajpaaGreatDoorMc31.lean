/-
 TreeOpens: its walk.
-/
import Derived.Test.YtgolhnfkmmajpaaGreatDoorMc30
import Derived.Test.YtgolhnfkmmajpaaGreatDoorMc19
import Derived.Test.YtgolhnfkmmajpaaGreatDoorRows
import Derived.WalkKit
import Derived.ProofKit
import Derived.SliceStrings
import Derived.Test.YtgolhnfkmmajpaaGreatDoorMc11
import Derived.Deep.DeepCutAuto
import Derived.LaidMore
import Derived.OpenShut
import Derived.ShutString
import Derived.Stop.Joined
open Go.Lib (hid)
set_option linter.unusedSimpArgs false
set_option linter.unusedVariables false
set_option maxHeartbeats 40000000
set_option maxRecDepth 100000
namespace Go.Proofs.YtgolhnfkmmajpaaGreatDoor
section
open Go.RowKit
namespace Tm
open Tr Ni Pk Ky No Rf Rl
open Sm (Tab)
theorem opens_walk (l : List Tr.Pair) (la : Option Addr) (ln lc : Nat) (K : List UInt8) (w : World) (h : IsPs w la ln lc l) (hK : K.length = 32) (hT : Tab w) :
  Calls Tryz.prog 5 #[.slice la ln lc, .agg (kc K)] w fun e w' => e = .returned (.bool true) ∧ Below w.heap.size w w' := by
 obtain ⟨w1, hw1, hO1, hb1, hs1⟩ := enterK w K
 have HP := hid (pairs_any l la ln lc w1 (h.below hb1))
 have HL0 := hid ((Lw.start hT).below hb1)
 have HOk : Hid (OkPs (pairsL l)) := hid (pairs_ok h.keys)
 have hlen := pairs_len l
 have HKb := hid hO1
 have HKl := hid hK
 have HW1 : Hid (_ = _) := hid hw1
 obtain ⟨P, hP⟩ : ∃ P, pairsL l = P := ⟨_, rfl⟩
 rw [hP] at HP HOk hlen
 clear h hT hP hO1 hb1 hs1 hw1 hK
 obtain ⟨C, hC⟩ : ∃ C, kc K = C := ⟨_, rfl⟩
 have HC : Hid (kc K = C) := hid hC
 rw [hC] at HW1 ⊢
 clear hC
 go_enter Tryz.func5, Tryz.ntmps5
 go_wp2_with fail
 rw [← HW1.out]
 refine HP.out.mono ?_
 rintro e w2 ⟨pa, pn, pc, rfl, hps, hb2⟩
 obtain rfl := hps.len
 have HL2 := hid (HL0.out.below hb2)
 have HPs := hid hps
 have HK2 := hid (HKb.out.below hb2)
 clear hps hb2 HL0 HP HKb HW1
 go_wp2_with fail
 refine (of_any M0 pa P.length pc P HOk.out w2 HL2.out.i HPs.out (by omega)).mono ?_
 intro e w3 hG
 obtain ⟨p3, M3, rfl, hT3, hL3, hf3, hb3⟩ := HL2.out.got hG
 have HK3 := hid (HK2.out.below hb3)
 have HT3 := hid hT3
 have HL3 := hid hL3
 have HHas := hid HOk.out.has
 have hNew := Rg.Own.new w3 #[.pointer none] 25
 have HN3 := hid hNew
 clear hG hT3 hL3 hf3 hb3 HPs HL2 HK2 hNew
 obtain ⟨t3, ht3⟩ : ∃ t3, putAll .nil P = t3 := ⟨_, rfl⟩
 rw [ht3] at HT3 HHas
 clear ht3
 go_wp2_with (first
  | (refine Rg.run rfl _ _ (run_alloc_tree _ _ _ w3.heap.size rfl rfl) ?_)
  | (refine wpl_store_tree HN3.out (by decide) _ rfl _ _ rfl rfl rfl ?_; intro w4 hO4 hu4; have HO4 : Hid (Rg.Own w4 w3.heap.size #[.pointer p3] 25) := hid hO4; have HB4 : Hid (Below w3.heap.size w3 w4) := hid (hu4.below (al1 _ _) (Nat.le_refl _)); clear hO4 hu4))
 have HS4 : Hid (Op1 w M3 w4 w.heap.size w3.heap.size K p3 t3) := hid ⟨HL3.out.below HB4.out, HT3.out, ⟨HO4.out, HL3.out.i.free (Nat.le_refl _), one_no _⟩, HK3.out.below HB4.out, HKl.out, HL3.out.b.size, by have := HK3.out.1; omega⟩
 obtain ⟨bt, hbt⟩ : ∃ b, w3.heap.size = b := ⟨_, rfl⟩
 rw [hbt] at HS4
 rw [hbt]
 clear HL3 HT3 HB4 HO4 HK3 HN3 hbt
 go_loopw [6] (fun i wr => ∃ (j : Nat) (M : Mp) (p : Option Addr) (t : T) (L : Nat), L + j ≤ 64 ∧ i = .int .i64 j ∧ Hid (Op1 w M wr w.heap.size bt K p t) ∧ Hid (Tr.Good t L ∧ Fine t ∧ Tr.Full t ∧ (t = .nil → j = 0))) (fun i _ => 70 - (intOf i).toNat)
 case atStart => exact ⟨0, M3, p3, t3, 64, Nat.le_refl _, rfl, HS4, hid ⟨HHas.out.good, HHas.out.fine, HHas.out.full, fun _ => rfl⟩⟩
 case round =>
  obtain ⟨j, M, p, t, L, hLj, rfl, HS, HG⟩ := hrel
  clear HS4 HHas HOk
  have i1 : (j : Int) < 70 := by omega
  have HNl0 := hid (nodeT_length t)
  have HOpen := hid (open_any M p t L HG.out.1 (by omega) HG.out.2.1 (full_stub HG.out.2.2.1) wr HS.out.l.i HS.out.u HS.out.l.t)
  go_wp2_with (first | (refine Rg.run rfl _ _ (op_load_tree (own_cell (j := 0) HS.out.x.o rfl) ⟨_, rfl, rfl⟩) ?_))
  refine HOpen.out.mono ?_
  rintro e w2 ⟨a, n, c, ka, kc', ps, rfl, hpb, hks, hare, _, hf, hi, hT⟩
  have HS2 := hid (HS.out.fr (HS.out.l.fr hf hi hT) hf)
  have HPb := hid hpb
  have HKs := hid hks
  have HAre := hid hare
  obtain ⟨N, hN⟩ : ∃ N, nodeT t = N := ⟨_, rfl⟩
  rw [hN] at HNl0 HPb
  rw [hN]
  have HN := hid hN
  have HNl : Hid (N.ks.length = 16) := HNl0
  have hNew := Rg.Own.new w2 (ndC nd0 none 0 0) 58
  have HNw := hid hNew
  have hp16 : ps.length ≤ 16 := by rw [hare.1]; exact kids_len t
  have HPl : Hid (ps.length = (kidsT t).length) := hid hare.1
  clear hpb hks hare hf hi hT hN hNew HOpen HS HNl0
  go_wp2_with (first
   | (refine Rg.run rfl _ _ (run_alloc_nd _ _ _ w2.heap.size rfl rfl) ?_)
   | (refine wpl_store_ndL HNw.out rfl N a n c HNl.out rfl _ _ rfl rfl rfl rfl ?_; intro w3 hO3 hu3; have HB3 : Hid (Below w2.heap.size w2 w3) := hid (hu3.below (al1 _ _) (Nat.le_refl _)); have HO3 : Hid (Op2 w M w3 w.heap.size bt K p t w2.heap.size N a n c ka kc' ps) := hid ⟨HS2.out.below HB3.out, ⟨hO3, HS2.out.l.i.free (Nat.le_refl _), nd_no _ _ _ _⟩, HPb.out.below HB3.out, HKs.out.below HB3.out, HAre.out⟩; clear hO3 hu3)
   | (refine Rg.run rfl _ _ (op_load_tree (own_cell (j := 0) HO3.out.o.x.o rfl) ⟨_, rfl, rfl⟩) ?_))
  obtain ⟨bn, hbn⟩ : ∃ b, w2.heap.size = b := ⟨_, rfl⟩
  rw [hbn] at HO3
  rw [hbn]
  clear HS2 HPb HKs HAre HB3 HNw hbn
  refine (empty_any p w3).mono ?_
  rintro e w4 ⟨rfl, hb4⟩
  have HO4 := hid (HO3.out.below hb4)
  clear hb4 HO3
  by_cases hnil : t = .nil
  ·subst hnil
   have hp0 : p = none := HO4.out.o.u.nil_iff.2 rfl
   subst hp0
   obtain rfl : j = 0 := HG.out.2.2.2 rfl
   have hps0 : ps.length = 0 := by rw [HPl.out]; rfl
   have hn0 : N = nd0 := HN.out.symm
   subst hn0
   rw [hps0]
   clear hps0 HPl i1 hLj HN
   go_wp2_with fail
   refine (awake_any w4 HO4.out.o.l.t).mono ?_
   rintro e w5 ⟨rfl, hb5⟩
   have HO5 := hid (HO4.out.below hb5)
   have c0 : w5.cell? ⟨bn, 0, none⟩ = some (.int .i64 0) := (nd_cells HO5.out.nb.o).1
   clear hb5 HO4
   go_wp2_with fail
   go_ret
   exact ⟨rfl, HO5.out.o.l.b⟩
  ·have hpn : p.isNone = false := by
    cases hp : p with
    | none => rw [hp] at HO4; exact absurd (HO4.out.o.u.nil_iff.1 rfl) hnil
    | some ad => rfl
   rw [hpn]
   have hst := full_stub HG.out.2.2.1
   have hE900 := (tree_node HG.out.1 (show L ≤ 64 by omega) HG.out.2.1 hnil hst).2.2.1
   have HRf : Hid (ofP (encT t) = ref t) := hid (ref_enc hst).symm
   have HTe0 : ∀ M p x, Inv M x → IsT M p t → Tab x → Calls Tryz.prog 15 #[tv p] x (TellP M x (encT t)) := fun M p x hi ht hT => tree_enc M p t L HG.out.1 (by omega) HG.out.2.1 x hi ht hT
   have HTr0 : ∀ M p x, Inv M x → IsT M p t → Tab x → Calls Tryz.prog 20 #[tv p] x (TellP M x (ref t)) := fun M p x hi ht hT => tree_ref M p t L HG.out.1 (by omega) HG.out.2.1 x hi ht hT
   have HR0 := fun x => r7of_any (encT t) hE900 x
   have HGet0 := fun x => get_enc HG.out.1 (show L ≤ 64 by omega) HG.out.2.1 hnil hst x
   have HMk0 := mk_tree HG.out.1 (show L ≤ 64 by omega) HG.out.2.1 hnil hst
   have HMe : Hid (makeT N (kidsT t) = t) := hid (by rw [← HN.out]; exact make_open HG.out.1 (by omega) HG.out.2.1 hnil hst)
   have HKg := hid (kids_good HG.out.1 HG.out.2.1)
   have HLf : Hid ((kidsT t).length = 0 → N.kd = 1) := hid (by rw [← HN.out]; exact leaf_of HG.out.1 hnil hst)
   rw [HRf.out] at HR0
   rw [HN.out] at HGet0 HMk0
   have HMk := hid HMk0
   obtain ⟨E, hE⟩ : ∃ E, encT t = E := ⟨_, rfl⟩
   rw [hE] at HTe0 HR0 HGet0
   obtain ⟨R, hR⟩ : ∃ R, ref t = R := ⟨_, rfl⟩
   rw [hR] at HTr0 HR0
   have HTe := hid HTe0
   have HTr := hid HTr0
   have HR7 := hid HR0
   have HGet := hid HGet0
   clear HTe0 HTr0 HR0 HGet0 HMk0 hE hR HRf hE900 hst HN hpn
   go_wp2_with (first | (refine Rg.run rfl _ _ (op_load_tree (own_cell (j := 0) HO4.out.o.x.o rfl) ⟨_, rfl, rfl⟩) ?_))
   refine (HTe.out M p w4 HO4.out.o.l.i HO4.out.o.u HO4.out.o.l.t).mono ?_
   intro e w5 hG
   obtain ⟨rfl, hL5, hf5⟩ := HO4.out.o.l.tell hG
   have HO5 := hid (HO4.out.fr hL5 hf5)
   clear hG hL5 hf5 HO4
   go_wp2_with fail
   refine (HGet.out w5).mono ?_
   rintro e w6 ⟨a6, n6, c6, rfl, hB6, hb6⟩
   have HO6 := hid (HO5.out.below hb6)
   have HB6 := hid hB6
   have hNew := Rg.Own.new w6 (ndC nd0 none 0 0) 58
   have HNw := hid hNew
   clear hb6 hB6 HO5 HGet hNew
   go_wp2_with (first
    | (refine Rg.run rfl _ _ (run_alloc_nd _ _ _ w6.heap.size rfl rfl) ?_)
    | (refine wpl_store_ndL HNw.out rfl N a6 n6 c6 HNl.out rfl _ _ rfl rfl rfl rfl ?_; intro w7 hO7 hu7; have HB7 : Hid (Below w6.heap.size w6 w7) := hid (hu7.below (al1 _ _) (Nat.le_refl _)); have HO7 := hid (HO6.out.below HB7.out); have HM7 : Hid (Bx M w7 w6.heap.size (ndC N a6 n6 c6) 58) := hid ⟨hO7, HO6.out.o.l.i.free (Nat.le_refl _), nd_no _ _ _ _⟩; have HP7 := hid (HB6.out.below HB7.out); clear hO7 hu7)
    | (refine Rg.run rfl _ _ (op_load_nd HO7.out.nb.o HNl.out ⟨_, rfl, rfl⟩) ?_))
   obtain ⟨bm, hbm⟩ : ∃ b, w6.heap.size = b := ⟨_, rfl⟩
   rw [hbm] at HM7
   rw [hbm]
   clear hbm HO6 HB6 HB7 HNw
   have HMake := hid (make_any M N (kidsT t) HMk.out a n c ps HO7.out.are ka ps.length kc' (by omega) w7 HO7.out.o.l.i HO7.out.o.l.t HO7.out.pb HO7.out.ks)
   rw [HMe.out] at HMake
   refine HMake.out.mono ?_
   rintro e w8 ⟨p8, M8, rfl, hT8, hf8, hi8, ht8⟩
   have HO8 := hid (HO7.out.fr (HO7.out.o.l.fr hf8 hi8 ht8) hf8)
   have HM8 := hid (HM7.out.frm HO7.out.o.l.i hf8)
   have HP8 := hid (isBs_fr HO7.out.o.l.i HP7.out hf8)
   have HT8 := hid hT8
   have hNew := Rg.Own.new w8 #[.pointer none] 25
   have HN8 := hid hNew
   clear hT8 hf8 hi8 ht8 HO7 HM7 HP7 HMake hNew HMe
   go_wp2_with (first
    | (refine Rg.run rfl _ _ (run_alloc_tree _ _ _ w8.heap.size rfl rfl) ?_)
    | (refine wpl_store_tree HN8.out (by decide) _ rfl _ _ rfl rfl rfl ?_; intro w9 hO9 hu9; have HB9 : Hid (Below w8.heap.size w8 w9) := hid (hu9.below (al1 _ _) (Nat.le_refl _)); have HO9 := hid (HO8.out.below HB9.out); have HM9 := hid (HM8.out.below HB9.out); have HP9 := hid (HP8.out.below HB9.out); have HX9 : Hid (Bx M8 w9 w8.heap.size #[.pointer p8] 25) := hid ⟨hO9, HO8.out.o.l.i.free (Nat.le_refl _), one_no _⟩; clear hO9 hu9)
    | (refine Rg.run rfl _ _ (op_load_nd HO9.out.nb.o HNl.out ⟨_, rfl, rfl⟩) ?_)
    | (refine Rg.runW ?hw _ _ (op_load_nd HO9.out.nb.o HNl.out ⟨_, rfl, rfl⟩) ?_; case hw => rfl)
    | (refine Rg.run rfl _ _ (op_load_nd HM9.out.o HNl.out ⟨_, rfl, rfl⟩) ?_)
    | (refine Rg.runW ?hw _ _ (op_load_nd HM9.out.o HNl.out ⟨_, rfl, rfl⟩) ?_; case hw => rfl))
   obtain ⟨bu, hbu⟩ : ∃ b, w8.heap.size = b := ⟨_, rfl⟩
   rw [hbu] at HX9
   rw [hbu]
   clear hbu HO8 HM8 HP8 HB9 HN8
   have HSame := hid (No.rsame_any N N _ _ w9 ⟨a, n, c, rfl, HO9.out.pb, HNl.out⟩ ⟨a6, n6, c6, rfl, HP9.out, HNl.out⟩)
   rw [sameB_true rfl] at HSame
   refine HSame.out.mono ?_
   rintro e x1 ⟨rfl, hb⟩
   have HOa := hid (HO9.out.below hb)
   have HXa := hid (HX9.out.below hb)
   clear hb HO9 HM9 HP9 HX9 HSame
   go_wp2_with (first | (refine Rg.run rfl _ _ (op_load_tree (own_cell (j := 0) HXa.out.o rfl) ⟨_, rfl, rfl⟩) ?_) | (refine Rg.runW ?hw _ _ (op_load_tree (own_cell (j := 0) HXa.out.o rfl) ⟨_, rfl, rfl⟩) ?_; case hw => rfl))
   refine (HTe.out M8 p8 x1 HOa.out.o.l.i HT8.out HOa.out.o.l.t).mono ?_
   intro e x2 hG
   obtain ⟨rfl, hL, hf⟩ := HOa.out.o.l.tell hG
   have HOb := hid (HOa.out.fr hL hf)
   clear hG hL hf HOa HXa HT8 HTe
   go_wp2_with (first | (refine Rg.run rfl _ _ (op_load_tree (own_cell (j := 0) HOb.out.o.x.o rfl) ⟨_, rfl, rfl⟩) ?_) | (refine Rg.runW ?hw _ _ (op_load_tree (own_cell (j := 0) HOb.out.o.x.o rfl) ⟨_, rfl, rfl⟩) ?_; case hw => rfl))
   refine (HTr.out M8 p x2 HOb.out.o.l.i HOb.out.o.u HOb.out.o.l.t).mono ?_
   intro e x3 hG
   obtain ⟨rfl, hL, hf⟩ := HOb.out.o.l.tell hG
   have HOc := hid (HOb.out.fr hL hf)
   clear hG hL hf HOb HTr
   go_wp2_with fail
   refine (HR7.out x3).mono ?_
   rintro e x4 ⟨rfl, hb⟩
   have HOd := hid (HOc.out.below hb)
   clear hb HOc HR7
   by_cases hz : ps.length = 0
   ·have z1 : ((ps.length : Int) == 0) = true := by rw [hz]; rfl
    have z2 : decide ((ps.length : Int) = 0) = true := decide_eq_true (by omega)
    have hk1 : N.kd = 1 := HLf.out (by rw [← HPl.out]; exact hz)
    clear hz
    go_wp2_with fail
    refine (awake_any x4 HOd.out.o.l.t).mono ?_
    rintro e x5 ⟨rfl, hb⟩
    have HOe := hid (HOd.out.below hb)
    have c0 := (nd_cells HOe.out.nb.o).1
    rw [hk1] at c0
    clear hb HOd
    go_wp2_with fail
    go_ret
    exact ⟨rfl, HOe.out.o.l.b⟩
   ·have z1 : ((ps.length : Int) == 0) = false := by rw [beq_eq_false_iff_ne]; omega
    have z2 : decide ((ps.length : Int) = 0) = false := decide_eq_false (by omega)
    have HArg : Hid (∀ wz, Below x4.heap.size x4 wz → Calls Tryz.prog 24 #[.agg (ndC N a n c), .slice (fromA ka kc' 1) (ps.length - 1) (kc' - 1)] wz fun e w' => e = .returned (.tuple #[tv none, .int .i64 2]) ∧ Below wz.heap.size wz w') := hid (fun wz hb => make_arg N HNl.out HMk.out.may HMk.out.v HMk.out.few a n c _ _ _ (by rw [HMk.out.refs, List.length_map, ← HPl.out]; omega) wz (HOd.out.pb.below hb))
    have hrem1 : (j : Int).tmod 32 = ((j % 32 : Nat) : Int) := by rw [Int.tmod_eq_emod_of_nonneg (by omega)]; rfl
    have hj32 : j % 32 < 32 := Nat.mod_lt _ (by omega)
    have hkx : (kc K)[j % 32]? = some (.int .u8 (K.getD (j % 32) 0).toNat) := by
     have : j % 32 < K.length := by rw [HKl.out]; exact hj32
     simp [kc, List.getD, this]
    have hx255 := UInt8.toNat_lt (K.getD (j % 32) 0)
    obtain ⟨X, hX⟩ : ∃ X, (K.getD (j % 32) 0).toNat = X := ⟨_, rfl⟩
    rw [hX] at hkx hx255
    have hrem2 : (X : Int).tmod (ps.length : Int) = ((X % ps.length : Nat) : Int) := by rw [Int.tmod_eq_emod_of_nonneg (by omega)]; rfl
    have hmlt : X % ps.length < ps.length := Nat.mod_lt _ (by omega)
    obtain ⟨m, hm⟩ : ∃ m, X % ps.length = m := ⟨_, rfl⟩
    rw [hm] at hrem2 hmlt
    obtain ⟨jm, hjm⟩ : ∃ q, j % 32 = q := ⟨_, rfl⟩
    rw [hjm] at hrem1 hj32 hkx
    have i4 : (m : Int) < (ps.length : Int) := by omega
    have i5 : (jm : Int) < 32 := by omega
    have hnz : ¬ ((ps.length : Int) = 0) := by omega
    clear hX hm hjm
    go_wp2_with fail
    refine wp_region_noPanic ?_
    refine wp_region_held_drew (S := fun w' => Below x4.heap.size x4 w') (by kernel_rfl) ((Below.refl _ _).drew) (fun hld => ?_)
    refine Rg.tk (i := 0) rfl ?_ (hy := by intro wz hSw; (refine op_load_nd (HOd.out.nb.o.below hSw) HNl.out ?_; exact ⟨_, rfl, rfl⟩))
    try simp only [Act.put, Rg.s]
    refine Rg.tk (i := 1) rfl ?_
    try simp only [Act.put, Rg.s]
    refine Rg.tk (i := 2) rfl ?_ (hy := by intro wz hSw; (refine op_from under_trees size_tree (a := ka) (n := ps.length) (c := kc') (i := 1) (by omega : 1 ≤ ps.length) ?_; exact ⟨_, _, rfl, rfl, rfl⟩))
    try simp only [Act.put, Rg.s]
    refine wpAnyH_ready (rs := [3, 7]) (by kernel_rfl) (by simp) ?_
    refine Rg.readyC (i := 3) rfl (fun K hK => ?_) (Rg.readyL (i := 7) rfl (fun K hK => ?_))
    ·go_simp
     go_at_call 24
     (with_reducible refine (HArg.out _ hld).mono ?_)
     rintro e wv0 ⟨rfl, hbx⟩
     refine hK.out _ _ ?_ (fun hld => ?_)
     ·exact Below.trans hld (hbx.mono hld.size)
     clear hK K hbx
     try simp only [Act.put, Rg.s]
     refine Rg.tk (i := 4) rfl ?_
     try simp only [Act.put, Rg.s]
     refine Rg.tk (i := 5) rfl ?_
     try simp only [Act.put, Rg.s]
     refine Rg.tk (i := 6) rfl ?_
     try simp only [Act.put, Rg.s]
     refine Rg.rd (i := 7) rfl fun K hK => ?_
     refine Rg.meetAlloc (by rfl) (run_alloc_tree2 _ _ rfl _) ?_
     rintro wv1 b7 he7 h7 hbx
     have ge7 : x4.heap.size ≤ b7 := by rw [he7]; exact Below.size hld
     refine hK.out _ _ ?_ (fun hld => ?_)
     ·exact Below.trans hld (hbx.mono hld.size)
     clear hK K hbx he7
     try simp only [Act.put, Rg.s]
     refine Rg.rd (i := 8) rfl fun K hK => ?_
     refine meet_store_tree (by rfl) h7 (off := 0) (by simp) none ⟨_, _, rfl, rfl, rfl⟩ ?_
     rintro wv2 hn hu
     refine hK.out _ _ ?_ (fun hld => ?_)
     ·exact hu.below hld ge7
     clear hK K hn hu h7
     try simp only [Act.put, Rg.s]
     refine Rg.tk (i := 9) rfl ?_
     try simp only [Act.put, Rg.s]
     refine wpAnyH_done (by kernel_rfl) ?_ _
     refine NoPanic.normal ?_
     have HOe := hid (HOd.out.below (show Below x4.heap.size x4 _ from hld))
     clear hld HOd HArg
     obtain ⟨bp, op, rfl, hlt, hcp⟩ := HOe.out.ks.2.2.2.2 m hmlt
     have hcK := own_cell HOe.out.o.kb hkx
     have HCp := hid hcp
     have HSt := hid (fun w' hu ho => HOe.out.o.set (w' := w') (p' := ps.getD m none) (t' := (kidsT t).getD m .nil) hu ho (HOe.out.are.2 m hmlt))
     have hmem : (kidsT t).getD m .nil ∈ kidsT t := by
      have h9 : m < (kidsT t).length := by rw [← HPl.out]; exact hmlt
      rw [List.getD_eq_getElem?_getD, List.getElem?_eq_getElem h9]
      exact List.getElem_mem _
     obtain ⟨hsn, hsf, hsF, L', hL', hsg⟩ := HKg.out _ hmem
     have HG' : Hid (Tr.Good ((kidsT t).getD m .nil) L' ∧ Fine ((kidsT t).getD m .nil) ∧ Tr.Full ((kidsT t).getD m .nil) ∧ ((kidsT t).getD m .nil = .nil → j + 1 = 0)) := hid ⟨hsg, hsf, hsF HG.out.2.2.1, fun e => absurd e hsn⟩
     have hXb := HOe.out.o.x.o
     obtain ⟨s, hs⟩ : ∃ s, (kidsT t).getD m .nil = s := ⟨_, rfl⟩
     obtain ⟨p', hp'⟩ : ∃ p', ps.getD m none = p' := ⟨_, rfl⟩
     rw [hs] at HG' HSt
     rw [hp'] at HSt HCp
     have HXb := hid hXb
     clear hmem hcp hlt hsn hsf hsF hsg hs hp' hXb HKg HG HPl
     go_wp2_with (first
      | (refine Rg.run rfl _ _ (op_load_tree HCp.out ⟨_, rfl, rfl⟩) ?_)
      | (refine wpl_store_tree HXb.out (by simp) _ rfl _ _ rfl rfl rfl ?_; intro wf hOf huf; have HSf := hid (HSt.out wf huf hOf); clear hOf huf))
     go_roundw
     case rel => exact ⟨j + 1, M8, p', s, L', by omega, by go_num, HSf, HG'⟩
     case measure => simp [intOf]; omega
    ·refine Rg.meetAlloc (by rfl) (run_alloc_tree2 _ _ rfl _) ?_
     rintro wv0 b7 he7 h7 hbx
     have ge7 : x4.heap.size ≤ b7 := by rw [he7]; exact Below.size hld
     refine hK.out _ _ ?_ (fun hld => ?_)
     ·exact Below.trans hld (hbx.mono hld.size)
     clear hK K hbx he7
     try simp only [Act.put, Rg.s]
     refine Rg.rd (i := 3) rfl fun K hK => ?_
     go_simp
     go_at_call 24
     (with_reducible refine (HArg.out _ hld).mono ?_)
     rintro e wv1 ⟨rfl, hbx⟩
     replace h7 := h7.below hbx
     refine hK.out _ _ ?_ (fun hld => ?_)
     ·exact Below.trans hld (hbx.mono hld.size)
     clear hK K hbx
     try simp only [Act.put, Rg.s]
     refine Rg.tk (i := 4) rfl ?_
     try simp only [Act.put, Rg.s]
     refine Rg.tk (i := 5) rfl ?_
     try simp only [Act.put, Rg.s]
     refine Rg.tk (i := 6) rfl ?_
     try simp only [Act.put, Rg.s]
     refine Rg.rd (i := 8) rfl fun K hK => ?_
     refine meet_store_tree (by rfl) h7 (off := 0) (by simp) none ⟨_, _, rfl, rfl, rfl⟩ ?_
     rintro wv2 hn hu
     refine hK.out _ _ ?_ (fun hld => ?_)
     ·exact hu.below hld ge7
     clear hK K hn hu h7
     try simp only [Act.put, Rg.s]
     refine Rg.tk (i := 9) rfl ?_
     try simp only [Act.put, Rg.s]
     refine wpAnyH_done (by kernel_rfl) ?_ _
     refine NoPanic.normal ?_
     have HOe := hid (HOd.out.below (show Below x4.heap.size x4 _ from hld))
     clear hld HOd HArg
     obtain ⟨bp, op, rfl, hlt, hcp⟩ := HOe.out.ks.2.2.2.2 m hmlt
     have hcK := own_cell HOe.out.o.kb hkx
     have HCp := hid hcp
     have HSt := hid (fun w' hu ho => HOe.out.o.set (w' := w') (p' := ps.getD m none) (t' := (kidsT t).getD m .nil) hu ho (HOe.out.are.2 m hmlt))
     have hmem : (kidsT t).getD m .nil ∈ kidsT t := by
      have h9 : m < (kidsT t).length := by rw [← HPl.out]; exact hmlt
      rw [List.getD_eq_getElem?_getD, List.getElem?_eq_getElem h9]
      exact List.getElem_mem _
     obtain ⟨hsn, hsf, hsF, L', hL', hsg⟩ := HKg.out _ hmem
     have HG' : Hid (Tr.Good ((kidsT t).getD m .nil) L' ∧ Fine ((kidsT t).getD m .nil) ∧ Tr.Full ((kidsT t).getD m .nil) ∧ ((kidsT t).getD m .nil = .nil → j + 1 = 0)) := hid ⟨hsg, hsf, hsF HG.out.2.2.1, fun e => absurd e hsn⟩
     have hXb := HOe.out.o.x.o
     obtain ⟨s, hs⟩ : ∃ s, (kidsT t).getD m .nil = s := ⟨_, rfl⟩
     obtain ⟨p', hp'⟩ : ∃ p', ps.getD m none = p' := ⟨_, rfl⟩
     rw [hs] at HG' HSt
     rw [hp'] at HSt HCp
     have HXb := hid hXb
     clear hmem hcp hlt hsn hsf hsF hsg hs hp' hXb HKg HG HPl
     go_wp2_with (first
      | (refine Rg.run rfl _ _ (op_load_tree HCp.out ⟨_, rfl, rfl⟩) ?_)
      | (refine wpl_store_tree HXb.out (by simp) _ rfl _ _ rfl rfl rfl ?_; intro wf hOf huf; have HSf := hid (HSt.out wf huf hOf); clear hOf huf))
     go_roundw
     case rel => exact ⟨j + 1, M8, p', s, L', by omega, by go_num, HSf, HG'⟩
     case measure => simp [intOf]; omega
end Tm
end
section
open Go.RowKit Go.ChangeShapes Go.WideShapes
end
section
open Go.ChangeShapes Go.WideShapes Go.ChangeAt Go.WideMaps Go.WideElems Go.RowKit
namespace Sm
open Sh
theorem gRounds : Tryz.prog.globalNamed "dormouse/sum.rounds" = some 0 := by kernel_rfl
theorem tRounds : (Tryz.prog.globals[0]?).map (·.type) = some 192 := by kernel_rfl
theorem laid_eq {H : Type} : (Rows.laid_dormouse_sum_rounds : DataW H) = .agg ((List.range 64).map fun i => .lit (.int .u32 (kN i : Nat))) := rfl
theorem cells_u32 : Tryz.prog.cellsOf 84 = 1 := by kernel_rfl
theorem tab_of_laid {W : World} (h : laidMetH Tryz.prog [("dormouse/sum.rounds", Rows.laid_dormouse_sum_rounds)] W) : Tab W := by
 rw [MakeChecks.laidMetH_plain _ _ _ (by kernel_rfl)] at h
 obtain ⟨ps, ⟨g0, t0, cs0, f0, p0, q0, hg0, ht0, hv0, hd0, _⟩, _, _⟩ := h
 obtain rfl := Option.some.inj (gRounds.symm.trans hg0)
 obtain rfl := Option.some.inj (tRounds.symm.trans ht0)
 obtain ⟨xs, m1, rfl, hx1, hlen, hn3, hel⟩ := DataW.trod_array Tryz.underlying192 hd0
 rw [laid_eq] at hx1
 simp only [Prod.mk.injEq, DataW.agg.injEq] at hx1
 intro i hi
 have h1 := hel i hi
 rw [cells_u32, Nat.mul_one] at h1
 have hi2 : i < xs.length := by omega
 rw [List.getElem?_eq_getElem hi2] at h1
 obtain ⟨n, e1, e2, _⟩ := DataW.trod_int Tryz.underlying84 h1
 have e3 := congrArg (fun l => l[i]?) hx1.1
 simp only [List.getElem?_map, List.getElem?_eq_getElem hi2, List.getElem?_range hi, Option.map_some, e2] at e3
 have e4 : n = (kN i : Nat) := by
  have := Option.some.inj e3
  simpa using this.symm
 subst e4
 rw [World.var?_cell hg0 hv0 i]
 obtain ⟨l⟩ := cs0
 have e5 := congrArg (fun l => l[0]?) e1
 simp only [List.getElem?_take, List.getElem?_drop, Nat.add_zero] at e5
 simpa using e5
end Sm
end
end Go.Proofs.YtgolhnfkmmajpaaGreatDoor
