/-
 TreeDrops: its walk.
-/
import Derived.Test.YtgolhnfkmmajpaaGreatDoorMb30
import Derived.Test.YtgolhnfkmmajpaaGreatDoorMb24
import Derived.Deep.CutBlock
open Go.Lib (hid)
set_option linter.unusedSimpArgs false
set_option linter.unusedVariables false
set_option maxHeartbeats 40000000
set_option maxRecDepth 100000
namespace Go.Proofs.YtgolhnfkmmajpaaGreatDoor
section
open Go.RowKit
namespace Tm
open Tr Ni Pk Ky No Rf Rl
open Sm (Tab)
theorem drops_walk (l : List Tr.Pair) (la : Option Addr) (ln lc : Nat) (K : List UInt8) (z : Int) (w : World) (h : IsPs w la ln lc l) (hK : K.length = 32) (hz : (Lit.int .u8 z).wf = true) (hT : Tab w) :
  Calls Tryz.prog 6 #[.slice la ln lc, .agg (kc K), .int .u8 z] w fun e w' => e = .returned (.bool true) ∧ Below w.heap.size w w' := by
 obtain ⟨wh, hwh, rfl⟩ : ∃ wh : Nat, wh < 256 ∧ z = wh := ⟨z.toNat, by have := u8_wf hz; omega, by have := u8_wf hz; omega⟩
 obtain ⟨w1, hw1, hO1, hb1, hs1⟩ := enterK w K
 have HP := hid (pairs_any l la ln lc w1 (h.below hb1))
 have HL0 := hid ((Lw.start hT).below hb1)
 have HOk : Hid (OkPs (pairsL l)) := hid (pairs_ok h.keys)
 have hlen := pairs_len l
 have HKb := hid hO1
 have HKl := hid hK
 have HW1 : Hid (_ = _) := hid hw1
 obtain ⟨P, hP⟩ : ∃ P, pairsL l = P := ⟨_, rfl⟩
 rw [hP] at HP HOk hlen
 clear h hT hP hO1 hb1 hs1 hw1 hK hz
 obtain ⟨C, hC⟩ : ∃ C, kc K = C := ⟨_, rfl⟩
 have HC : Hid (kc K = C) := hid hC
 rw [hC] at HW1 ⊢
 clear hC
 go_enter Tryz.func6, Tryz.ntmps6
 go_wp2_with fail
 rw [← HW1.out]
 refine HP.out.mono ?_
 rintro e w2 ⟨pa, pn, pc, rfl, hps, hb2⟩
 obtain rfl := hps.len
 have HL2 := hid (HL0.out.below hb2)
 have HPs := hid hps
 have HK2 := hid (HKb.out.below hb2)
 clear hps hb2 HL0 HP HKb HW1
 go_wp2_with fail
 refine (of_any M0 pa P.length pc P HOk.out w2 HL2.out.i HPs.out (by omega)).mono ?_
 intro e w3 hG
 obtain ⟨p, M, rfl, hT3, hL3, hf3, hb3⟩ := HL2.out.got hG
 have HK3 := hid (HK2.out.below hb3)
 have HT3 := hid hT3
 have HL3 := hid hL3
 have HHas := hid HOk.out.has
 have hNew := Rg.Own.new w3 #[.pointer none] 25
 have HN3 := hid hNew
 clear hG hT3 hL3 hf3 hb3 HPs HL2 HK2 hNew HOk
 obtain ⟨t, ht⟩ : ∃ t, putAll .nil P = t := ⟨_, rfl⟩
 rw [ht] at HT3 HHas
 clear ht
 go_wp2_with (first
  | (refine Rg.run rfl _ _ (run_alloc_tree _ _ _ w3.heap.size rfl rfl) ?_)
  | (refine wpl_store_tree HN3.out (by decide) _ rfl _ _ rfl rfl rfl ?_; intro w4 hO4 hu4; have HO4 : Hid (Rg.Own w4 w3.heap.size #[.pointer p] 25) := hid hO4; have HB4 : Hid (Below w3.heap.size w3 w4) := hid (hu4.below (al1 _ _) (Nat.le_refl _)); clear hO4 hu4)
  | (refine Rg.run rfl _ _ (op_load_tree (own_cell (j := 0) HO4.out rfl) ⟨_, rfl, rfl⟩) ?_))
 have HS4 : Hid (Op1 w M w4 w.heap.size w3.heap.size K p t) := hid ⟨HL3.out.below HB4.out, HT3.out, ⟨HO4.out, HL3.out.i.free (Nat.le_refl _), one_no _⟩, HK3.out.below HB4.out, HKl.out, HL3.out.b.size, by have := HK3.out.1; omega⟩
 obtain ⟨bt, hbt⟩ : ∃ b, w3.heap.size = b := ⟨_, rfl⟩
 rw [hbt] at HS4
 rw [hbt]
 clear HL3 HT3 HB4 HO4 HK3 HN3 hbt
 have HNl0 := hid (nodeT_length t)
 refine (open_any M p t 64 HHas.out.good (Nat.le_refl _) HHas.out.fine (full_stub HHas.out.full) w4 HS4.out.l.i HS4.out.u HS4.out.l.t).mono ?_
 rintro e w2 ⟨a, n, c, ka, kc', ps, rfl, hpb, hks, hare, _, hf, hi, hT⟩
 have HS2 := hid (HS4.out.fr (HS4.out.l.fr hf hi hT) hf)
 have HPb := hid hpb
 have HKs := hid hks
 have HAre := hid hare
 obtain ⟨N, hN⟩ : ∃ N, nodeT t = N := ⟨_, rfl⟩
 rw [hN] at HNl0 HPb
 rw [hN]
 have HN := hid hN
 have HNl : Hid (N.ks.length = 16) := HNl0
 have hNew := Rg.Own.new w2 (ndC nd0 none 0 0) 58
 have HNw := hid hNew
 have hp16 : ps.length ≤ 16 := by rw [hare.1]; exact kids_len t
 have HPl : Hid (ps.length = (kidsT t).length) := hid hare.1
 clear hpb hks hare hf hi hT hN hNew HS4 HNl0
 go_upto_region 4 with (first
  | (refine Rg.run rfl _ _ (run_alloc_nd _ _ _ w2.heap.size rfl rfl) ?_)
  | (refine wpl_store_ndL HNw.out rfl N a n c HNl.out rfl _ _ rfl rfl rfl rfl ?_; intro w3 hO3 hu3; have HB3 : Hid (Below w2.heap.size w2 w3) := hid (hu3.below (al1 _ _) (Nat.le_refl _)); have HO3 : Hid (Op2 w M w3 w.heap.size bt K p t w2.heap.size N a n c ka kc' ps) := hid ⟨HS2.out.below HB3.out, ⟨hO3, HS2.out.l.i.free (Nat.le_refl _), nd_no _ _ _ _⟩, HPb.out.below HB3.out, HKs.out.below HB3.out, HAre.out⟩; clear hO3 hu3))
 obtain ⟨bn, hbn⟩ : ∃ b, w2.heap.size = b := ⟨_, rfl⟩
 rw [hbn] at HO3
 rw [hbn]
 clear HS2 HPb HKs HAre HB3 HNw hbn
 by_cases hz : ps.length = 0
 ·have z1 : ((ps.length : Int) == 0) = true := by rw [hz]; rfl
  have z2 : decide ((ps.length : Int) = 0) = true := decide_eq_true (by omega)
  clear hz
  go_wp2_with fail
  refine (awake_any w3 HO3.out.o.l.t).mono ?_
  rintro e w5 ⟨rfl, hb5⟩
  have HO5 := hid (HO3.out.below hb5)
  clear hb5 HO3
  go_wp2_with fail
  refine (drop_nil M eB (by unfold maxLen; decide) (.inl kind_e) w5 HO5.out.o.l.i).mono ?_
  intro e w6 hG
  obtain ⟨p6, M6, rfl, hT6, hL6, hf6, hb6⟩ := HO5.out.o.l.got hG
  obtain rfl : p6 = none := hT6.nil_iff.2 rfl
  have HL6 := hid hL6
  clear hG hT6 hL6 hf6 hb6 HO5
  go_wp2_with fail
  refine (empty_any none w6).mono ?_
  rintro e w7 ⟨rfl, hb7⟩
  have HL7 := hid (HL6.out.below hb7)
  clear hb7 HL6
  go_wp2_with fail
  refine (drop_nil M6 sx (by unfold maxLen; decide) (.inr kind_x) w7 HL7.out.i).mono ?_
  intro e w8 hG
  obtain ⟨p8, M8, rfl, hT8, hL8, hf8, hb8⟩ := HL7.out.got hG
  obtain rfl : p8 = none := hT8.nil_iff.2 rfl
  have HL8 := hid hL8
  clear hG hT8 hL8 hf8 hb8 HL7
  go_wp2_with fail
  refine (empty_any none w8).mono ?_
  rintro e w9 ⟨rfl, hb9⟩
  have HL9 := hid (HL8.out.below hb9)
  clear hb9 HL8
  go_wp2_with fail
  go_ret
  exact ⟨rfl, HL9.out.b⟩
 ·have z1 : ((ps.length : Int) == 0) = false := by rw [beq_eq_false_iff_ne]; omega
  have z2 : decide ((ps.length : Int) = 0) = false := decide_eq_false (by omega)
  have hst := full_stub HHas.out.full
  have hnil : t ≠ .nil := fun e => hz (by rw [HPl.out, e]; rfl)
  have hrem : (wh : Int).tmod (ps.length : Int) = ((wh % ps.length : Nat) : Int) := by rw [Int.tmod_eq_emod_of_nonneg (by omega)]; rfl
  have hilt : wh % ps.length < ps.length := Nat.mod_lt _ (by omega)
  obtain ⟨i, hie⟩ : ∃ i, wh % ps.length = i := ⟨_, rfl⟩
  rw [hie] at hrem hilt
  have i4 : (i : Int) < (ps.length : Int) := by omega
  have i6 : (i : Int) < ((ps.length : Nat) : Int) := i4
  have hnz : ¬ ((ps.length : Int) = 0) := by omega
  clear hie
  have HI : Hid (i < ps.length) := hid hilt
  have hik : i < (kidsT t).length := by rw [← HPl.out]; exact hilt
  have hmem : (kidsT t).getD i .nil ∈ kidsT t := by
   rw [List.getD_eq_getElem?_getD, List.getElem?_eq_getElem hik]
   exact List.getElem_mem _
  obtain ⟨hsn, hsf, _, L', hL', hsg⟩ := kids_good HHas.out.good HHas.out.fine _ hmem
  have HMk0 := mk_drop HHas.out.good (Nat.le_refl _) HHas.out.fine hnil hst i hik
  have HMe0 := make_drop HHas.out.good (Nat.le_refl _) HHas.out.fine i hik
  have HUg : Hid (Tr.Good (dropT t i) 64 ∧ Fine (dropT t i) ∧ encT (dropT t i) = encT t) := hid ⟨good_drop HHas.out.good i, fine_drop HHas.out.good (Nat.le_refl _) HHas.out.fine i, enc_drop t i⟩
  have HGu := hid (get_drop t hst i (path K))
  have hAre2 := HO3.out.are.2 i hilt
  obtain ⟨kd, hkd⟩ : ∃ s, (kidsT t).getD i .nil = s := ⟨_, rfl⟩
  rw [hkd] at HMk0 HMe0 hsn hsf hsg hAre2
  have HKd := hid hkd
  obtain ⟨R, hR⟩ : ∃ R, ref kd = R := ⟨_, rfl⟩
  have hkr := kind_ref hsg (show L' ≤ 64 by omega) hsf hsn
  have hRf := may_tree kd L' hsg (by omega) hsf hsn
  rw [hR] at HMk0 HMe0 hkr hRf
  rw [HN.out] at HMk0 HMe0
  have HMk := hid HMk0
  have HMe := hid HMe0
  have hR100 : R.size ≤ maxLen := by
   have h1 := (tree_node HHas.out.good (Nat.le_refl _) HHas.out.fine hnil hst).2.2.2.2.2
   have hmr : R ∈ kidsL N.ks := by
    rw [← HN.out, kids_refs HHas.out.good (Nat.le_refl _) HHas.out.fine, ← hR]
    refine List.mem_map.2 ⟨kd, ?_, rfl⟩
    rw [← hkd]
    exact hmem
   have h2 := h1 R (by rw [HN.out]; exact (List.mem_filter.1 hmr).1)
   unfold maxLen
   omega
  have HRefK : Hid (∀ M p x, Inv M x → IsT M p kd → Tab x → Calls Tryz.prog 20 #[tv p] x (TellP M x R)) := hid (fun M p x hi ht hT => by
   have := tree_ref M p kd L' hsg (by omega) hsf x hi ht hT
   rwa [hR] at this)
  have HRefS : Hid (∀ M p x, Inv M x → IsT M p (.stub R) → Tab x → Calls Tryz.prog 20 #[tv p] x (TellP M x R)) := hid (fun M p x hi ht hT => tree_ref M p (.stub R) 0 trivial (by omega) ⟨hRf.2.1, hRf.2.2⟩ x hi ht hT)
  have HEncS : Hid (∀ M p x, Inv M x → IsT M p (.stub R) → Tab x → Calls Tryz.prog 15 #[tv p] x (TellP M x eB)) := hid (fun M p x hi ht hT => tree_enc M p (.stub R) 0 trivial (by omega) ⟨hRf.2.1, hRf.2.2⟩ x hi ht hT)
  have HDrop := hid (fun M x hi => drop_stub M R hR100 hkr x hi)
  obtain ⟨u, hu⟩ : ∃ u, dropT t i = u := ⟨_, rfl⟩
  rw [hu] at HUg HMe HGu
  obtain ⟨E, hE⟩ : ∃ E, encT t = E := ⟨_, rfl⟩
  have HEncT : Hid (∀ M p x, Inv M x → IsT M p t → Tab x → Calls Tryz.prog 15 #[tv p] x (TellP M x E)) := hid (fun M p x hi ht hT => by
   have := tree_enc M p t 64 HHas.out.good (Nat.le_refl _) HHas.out.fine x hi ht hT
   rwa [hE] at this)
  have HEncU : Hid (∀ M p x, Inv M x → IsT M p u → Tab x → Calls Tryz.prog 15 #[tv p] x (TellP M x E)) := hid (fun M p x hi ht hT => by
   have := tree_enc M p u 64 HUg.out.1 (Nat.le_refl _) HUg.out.2.1 x hi ht hT
   rwa [HUg.out.2.2, hE] at this)
  have HSn : Hid (ref kd = R ∧ kd ≠ .nil) := hid ⟨hR, hsn⟩
  have HRz : Hid (R.size ≠ 0) := hid hRf.2.2
  obtain ⟨kb, ko, hka, hlt0, _⟩ := HO3.out.ks.2.2.2.2 i hilt
  subst hka
  have HHi : Hid (∀ ad : Addr, some (⟨kb, ko, none⟩ : Addr) = some ad → ad.block < w3.heap.size) := hid (fun ad e => by cases e; exact hlt0)
  have HPi : Hid (∀ ad : Addr, a = some ad → 0 < n → ad.block < w3.heap.size) := hid (fun ad e hn => by
   obtain ⟨b, off, e2, hlt, _⟩ := HO3.out.pb.at' 0 hn
   rw [e] at e2
   cases e2
   exact hlt)
  have HQ := hid hAre2
  clear hmem hsf hsg hL' HMk0 HMe0 hkr hRf hR100 hu hE hR hkd hAre2 hlt0 hik hsn
  obtain ⟨i0, z0, hi, hzz, hs, hby, hzc⟩ := info_tree_parts
  have HIn : Hid (_ ∧ _ ∧ _ ∧ _ ∧ _) := hid ⟨hi, hzz, hs, hby, hzc⟩
  have hcell : ∀ j v, (ps.map Value.pointer)[j]? = some v → ((⟨kb, ko, none⟩ : Addr).add j).block < w3.heap.size ∧ w3.cell? ((⟨kb, ko, none⟩ : Addr).add j) = some v := fun j v hv => by
   have hj : j < ps.length := by have := (List.getElem?_eq_some_iff.1 hv).1; simpa using this
   obtain ⟨b, off, e, hlt, hc⟩ := HO3.out.ks.2.2.2.2 j hj
   cases e
   have hx : v = .pointer (ps.getD j none) := by
    simp [hj] at hv
    simp [List.getD, hj, hv]
   rw [Addr.add_mid, hx]
   exact ⟨hlt, hc⟩
  have HCc := hid hcell
  have HOw : Hid ((w3.alloc (.cells #[] 25)).ownsRow w3.heap.size 25 1 (.slice (some ⟨w3.heap.size, 0, none⟩) 0 0) 0 []) := hid (World.ownsRow_made w3 #[] 0 (Nat.le_refl _) (Nat.zero_le _) (by simp))
  have hkc := HO3.out.ks.1
  have hkm := HO3.out.ks.2.1
  unfold maxLen at hkm
  clear hi hzz hs hby hzc hcell
  go_wp2_with (at_builtin; refine wpList_append_own _ rfl _ _ 59 rfl w3.heap.size 25 i0 z0 1 8 Tryz.underlying59 HIn.out.1 HIn.out.2.1 HIn.out.2.2.1 HIn.out.2.2.2.1 HIn.out.2.2.2.2 (by decide) _ _ _ rfl HOw.out ⟨kb, ko, none⟩ ps.length kc' (ps.map Value.pointer) rfl (by simp) ?c2 ?c6 ?c3 ?c4 ?c5 ?_)
  case c2 =>
   intro j v hv
   rw [(al1 w3 _).cell (HCc.out j v hv).1]
   exact (HCc.out j v hv).2
  case c6 =>
   intro v hv
   simp at hv
   obtain ⟨x, _, rfl⟩ := hv
   rfl
  case c3 => unfold maxLen; omega
  case c4 => omega
  case c5 => simp
  intro v' x1 hown2 hgrow hnil'
  obtain ⟨g, cap, hv', hg1, hRow, hb1⟩ := row_of_owns (by simpa using hown2) rfl hnil' ((al1 w3 _).grown hgrow (by simp) (fun k hk => by simp [Value.ownBlock] at hk; omega))
  obtain rfl : v' = .slice (some ⟨g, 0, none⟩) ps.length cap := by cases hv'; rfl
  have HO4 := hid (HO3.out.below hb1)
  have HR4 := hid hRow
  have HG4 : Hid (w3.heap.size ≤ g ∧ ¬ M.ft g) := hid ⟨hg1, HO3.out.o.l.i.free hg1⟩
  have HZ4 : Hid (w.heap.size < bt ∧ bt < w3.heap.size ∧ bn < w3.heap.size ∧ w.heap.size ≤ w3.heap.size) := hid ⟨by have := HO3.out.o.ne; have := HO3.out.o.gt; omega, HO3.out.o.x.o.1, HO3.out.nb.o.1, HO3.out.o.l.b.size⟩
  obtain ⟨q, hq⟩ : ∃ q, ps.getD i none = q := ⟨_, rfl⟩
  rw [hq] at HQ
  have hcq : x1.cell? ⟨kb, ko + i, none⟩ = some (.pointer q) := by
   obtain ⟨b, off, e, hlt, hc⟩ := HO4.out.ks.2.2.2.2 i HI.out
   cases e
   rw [hq] at hc
   exact hc
  have HCq := hid hcq
  have HQe := hid hq
  clear hown2 hgrow hnil' hv' hg1 hRow hb1 HCc HOw HIn HO3 hcq hq
  go_wp2_with (first | (refine Rg.run rfl _ _ (op_load_tree HCq.out ⟨_, rfl, rfl⟩) ?_))
  refine (HRefK.out M q x1 HO4.out.o.l.i HQ.out HO4.out.o.l.t).mono ?_
  intro e x2 hG
  obtain ⟨rfl, hL, hf⟩ := HO4.out.o.l.tell hG
  have HO5 := hid (HO4.out.fr hL hf)
  have HR5 := hid (HR4.out.fr hf (at_of_ft HO4.out.o.l.i HG4.out.2))
  clear hG hL hf HO4 HR4 HCq
  go_wp2_with fail
  refine (HDrop.out M x2 HO5.out.o.l.i).mono ?_
  rintro e x3 ⟨p3, M3, rfl, hT3, hf3, hi3, hb3, hft⟩
  have HO6 := hid (HO5.out.fr (HO5.out.o.l.fr hf3 hi3 (HO5.out.o.l.t.below hb3 HO5.out.o.l.t.pos)) hf3)
  have HR6 := hid (HR5.out.below hb3)
  have HG6 : Hid (¬ M3.ft g) := hid (fun hx => HG4.out.2 (hft g HR5.out.lt hx))
  have HT6 := hid hT3
  have HQ6 := hid (HQ.out.mono hf3.mono)
  clear hT3 hf3 hi3 hb3 hft HO5 HR5 HDrop HQ
  go_wp2_with (first
   | (refine wpl_store_row HR6.out HI.out _ rfl _ _ rfl rfl rfl ?_; intro x4 hR7 hu7; have HO7 := hid (HO6.out.updB hu7 (by have h1 := HG4.out.1; have h2 := HZ4.out.2.2.2; omega) HG6.out (by have h1 := HG4.out.1; have h2 := HZ4.out; omega) (by have h1 := HG4.out.1; have h2 := HZ4.out; omega) (by have h1 := HG4.out.1; have h2 := HZ4.out; omega) (fun ad e hn => by have h1 := HPi.out ad e hn; have h2 := HG4.out.1; omega) (fun ad e => by have h1 := HHi.out ad e; have h2 := HG4.out.1; omega)); have HR7 := hid hR7; clear hR7 hu7)
   | (refine Rg.run rfl _ _ (op_load_nd HO7.out.nb.o HNl.out ⟨_, rfl, rfl⟩) ?_))
  have hps2 : (ps.set i p3).length = ps.length := by simp
  have HPk := HR7.out.ptrs
  rw [hps2] at HPk
  have HA7 : Are M3 (ps.set i p3) ((kidsT t).set i (.stub R)) := HO7.out.are.set i HT6.out
  have HPg : Hid ((ps.set i p3).getD i none = p3) := hid (by rw [List.getD_eq_getElem?_getD, List.getElem?_set_self HI.out]; rfl)
  obtain ⟨ps2, hp2⟩ : ∃ x, ps.set i p3 = x := ⟨_, rfl⟩
  obtain ⟨ts2, ht2⟩ : ∃ x, (kidsT t).set i (.stub R) = x := ⟨_, rfl⟩
  rw [hp2] at HPk HA7 HPg
  rw [ht2] at HA7 HMk HMe
  have HPk7 := hid HPk
  have HAr7 := hid HA7
  clear hps2 HPk HA7 hp2 ht2 HO6 HR6 HR7
  have HMake := hid (make_any M3 N ts2 HMk.out a n c ps2 HAr7.out (some ⟨g, 0, none⟩) ps.length cap (by omega) x4 HO7.out.o.l.i HO7.out.o.l.t HO7.out.pb HPk7.out)
  rw [HMe.out] at HMake
  refine HMake.out.mono ?_
  rintro e x5 ⟨pu, M8, rfl, hT8, hf8, hi8, ht8⟩
  have HO8 := hid (HO7.out.fr (HO7.out.o.l.fr hf8 hi8 ht8) hf8)
  have HPk8 := hid (HPk7.out.frm HO7.out.o.l.i hf8)
  have HAr8 := hid (HAr7.out.mono hf8.mono)
  have HT8 := hid hT8
  have HS8 := hid (HT6.out.mono hf8.mono)
  have HQ8 := hid (HQ6.out.mono hf8.mono)
  have hNew := Rg.Own.new x5 #[.pointer none] 25
  have HN8 := hid hNew
  clear hT8 hf8 hi8 ht8 HO7 HPk7 HAr7 HT6 HQ6 HMake hNew HMe HMk HG4 HG6 HZ4 HHi HPi
  go_upto_region 10 with (first
   | (refine Rg.run rfl _ _ (run_alloc_tree _ _ _ x5.heap.size rfl rfl) ?_)
   | (refine wpl_store_tree HN8.out (by decide) _ rfl _ _ rfl rfl rfl ?_; intro x6 hO9 hu9; have HB9 : Hid (Below x5.heap.size x5 x6) := hid (hu9.below (al1 _ _) (Nat.le_refl _)); have HH : Hid (Op3 w M8 x6 w.heap.size bt K p t bn N a n c (some ⟨kb, ko, none⟩) kc' ps x5.heap.size pu u g cap ps2 ts2) := hid ⟨HO8.out.below HB9.out, ⟨hO9, HO8.out.o.l.i.free (Nat.le_refl _), one_no _⟩, HT8.out, HPk8.out.below HB9.out, HAr8.out⟩; clear hO9 hu9))
  obtain ⟨bu, hbu⟩ : ∃ b, x5.heap.size = b := ⟨_, rfl⟩
  rw [hbu] at HH
  rw [hbu]
  clear hbu HO8 HPk8 HAr8 HB9 HN8
  have HSee : Hid (∀ x, Op3 w M8 x w.heap.size bt K p t bn N a n c (some ⟨kb, ko, none⟩) kc' ps bu pu u g cap ps2 ts2 → Sees bt bu kb ko g i p pu q p3 x) := hid (fun x hx => by
   have := hx.sees HI.out
   rw [HQe.out, HPg.out] at this
   exact this)
  clear HQe HPg
  have hI0 : (0 : Int) ≤ (i : Int) := by omega
  have he2 : eB.toList = [] := by first | rfl | kernel_rfl | decide +kernel
  have he3 : (eB.toList == []) = true := by rw [he2]; rfl
  go_cut [95] (fun v wx => v = .bool false ∧ Hid (Op3 w M8 wx w.heap.size bt K p t bn N a n c (some ⟨kb, ko, none⟩) kc' ps bu pu u g cap ps2 ts2))
  case first =>
   have H : Hid (Op3 w M8 x6.drew w.heap.size bt K p t bn N a n c (some ⟨kb, ko, none⟩) kc' ps bu pu u g cap ps2 ts2) := hid (HH.out.below (show Below x6.heap.size x6 x6.drew from below_drewN (Below.refl _ _) 1))
   refine wp_region_noPanic ?_
   refine wp_region_held_drew (S := Sees bt bu kb ko g i p pu q p3) (by kernel_rfl) (HSee.out _ H.out) (fun hld => ?_)
   refine Rg.tk (i := 0) rfl ?_
   try simp only [Act.put, Rg.s]
   refine Rg.tk (i := 1) rfl ?_
   try simp only [Act.put, Rg.s]
   refine Rg.tk (i := 2) rfl ?_
   try simp only [Act.put, Rg.s]
   refine Rg.tk (i := 3) rfl ?_ (hy := by intro wz hSw; (refine op_load_tree (show Sees _ _ _ _ _ _ _ _ _ _ wz from hSw).2.1 ?_; exact ⟨_, rfl, rfl⟩))
   try simp only [Act.put, Rg.s]
   refine Rg.tk (i := 5) rfl ?_ (hy := by intro wz hSw; (refine op_load_tree (show Sees _ _ _ _ _ _ _ _ _ _ wz from hSw).1 ?_; exact ⟨_, rfl, rfl⟩))
   try simp only [Act.put, Rg.s]
   refine Rg.rd (i := 4) rfl fun K hK => ?_
   go_simp
   go_at_call 15
   (with_reducible refine (HEncU.out M8 pu _ H.out.o.o.l.i HT8.out H.out.o.o.l.t).mono ?_)
   intro e wv0 hG
   obtain ⟨rfl, hH⟩ := H.out.tell hG
   replace H := hid hH
   refine hK.out _ _ ?_ (fun hld => ?_)
   ·exact HSee.out _ H.out
   clear hK K hG hH
   try simp only [Act.put, Rg.s]
   refine Rg.rd (i := 6) rfl fun K hK => ?_
   go_simp
   go_at_call 15
   (with_reducible refine (HEncT.out M8 p _ H.out.o.o.l.i H.out.o.o.u H.out.o.o.l.t).mono ?_)
   intro e wv1 hG
   obtain ⟨rfl, hH⟩ := H.out.tell hG
   replace H := hid hH
   refine hK.out _ _ ?_ (fun hld => ?_)
   ·exact HSee.out _ H.out
   clear hK K hG hH
   try simp only [Act.put, Rg.s]
   refine Rg.tk (i := 7) rfl ?_
   try simp only [Act.put, Rg.s]
   refine Rg.tk (i := 8) rfl ?_
   try simp only [Act.put, Rg.s]
   refine Rg.tk (i := 9) rfl ?_
   try simp only [Act.put, Rg.s]
   refine Rg.tk (i := 10) rfl ?_
   try simp only [Act.put, Rg.s]
   refine Rg.tk (i := 11) rfl ?_
   try simp only [Act.put, Rg.s]
   refine Rg.tk (i := 12) rfl ?_ (hy := by intro wz hSw; (have q0 := i4; have q1 := hI0; go_simp <;> with_reducible rfl))
   try simp only [Act.put, Rg.s]
   refine Rg.tk (i := 13) rfl ?_ (hy := by intro wz hSw; (refine op_load_tree (show Sees _ _ _ _ _ _ _ _ _ _ wz from hSw).2.2.2 ?_; exact ⟨_, rfl, rfl⟩))
   try simp only [Act.put, Rg.s]
   refine Rg.rd (i := 14) rfl fun K hK => ?_
   go_simp
   go_at_call 15
   (with_reducible refine (HEncS.out M8 p3 _ H.out.o.o.l.i HS8.out H.out.o.o.l.t).mono ?_)
   intro e wv2 hG
   obtain ⟨rfl, hH⟩ := H.out.tell hG
   replace H := hid hH
   refine hK.out _ _ ?_ (fun hld => ?_)
   ·exact HSee.out _ H.out
   clear hK K hG hH
   try simp only [Act.put, Rg.s]
   refine Rg.tk (i := 15) rfl ?_ (hy := by intro wz hSw; (have q2 := he2; have q3 := he3; go_simp <;> with_reducible rfl))
   try simp only [Act.put, Rg.s]
   refine Rg.tk (i := 16) rfl ?_
   try simp only [Act.put, Rg.s]
   refine Rg.tk (i := 17) rfl ?_
   try simp only [Act.put, Rg.s]
   refine Rg.tk (i := 18) rfl ?_
   try simp only [Act.put, Rg.s]
   refine Rg.tk (i := 19) rfl ?_
   try simp only [Act.put, Rg.s]
   refine Rg.tk (i := 20) rfl ?_ (hy := by intro wz hSw; (have q0 := i4; have q1 := hI0; go_simp <;> with_reducible rfl))
   try simp only [Act.put, Rg.s]
   refine Rg.tk (i := 21) rfl ?_ (hy := by intro wz hSw; (refine op_load_tree (show Sees _ _ _ _ _ _ _ _ _ _ wz from hSw).2.2.2 ?_; exact ⟨_, rfl, rfl⟩))
   try simp only [Act.put, Rg.s]
   refine Rg.tk (i := 23) rfl ?_
   try simp only [Act.put, Rg.s]
   refine Rg.tk (i := 24) rfl ?_
   try simp only [Act.put, Rg.s]
   refine Rg.tk (i := 25) rfl ?_ (hy := by intro wz hSw; (have q0 := i4; have q1 := hI0; go_simp <;> with_reducible rfl))
   try simp only [Act.put, Rg.s]
   refine Rg.tk (i := 26) rfl ?_ (hy := by intro wz hSw; (refine op_load_tree (show Sees _ _ _ _ _ _ _ _ _ _ wz from hSw).2.2.1 ?_; exact ⟨_, rfl, rfl⟩))
   try simp only [Act.put, Rg.s]
   refine Rg.rd (i := 22) rfl fun K hK => ?_
   go_simp
   go_at_call 20
   (with_reducible refine (HRefS.out M8 p3 _ H.out.o.o.l.i HS8.out H.out.o.o.l.t).mono ?_)
   intro e wv3 hG
   obtain ⟨rfl, hH⟩ := H.out.tell hG
   replace H := hid hH
   refine hK.out _ _ ?_ (fun hld => ?_)
   ·exact HSee.out _ H.out
   clear hK K hG hH
   try simp only [Act.put, Rg.s]
   refine Rg.rd (i := 27) rfl fun K hK => ?_
   go_simp
   go_at_call 20
   (with_reducible refine (HRefK.out M8 q _ H.out.o.o.l.i HQ8.out H.out.o.o.l.t).mono ?_)
   intro e wv4 hG
   obtain ⟨rfl, hH⟩ := H.out.tell hG
   replace H := hid hH
   refine hK.out _ _ ?_ (fun hld => ?_)
   ·exact HSee.out _ H.out
   clear hK K hG hH
   try simp only [Act.put, Rg.s]
   refine Rg.tk (i := 28) rfl ?_
   try simp only [Act.put, Rg.s]
   refine Rg.tk (i := 29) rfl ?_
   try simp only [Act.put, Rg.s]
   refine wpAnyH_done (by kernel_rfl) ?_ _
   refine NoPanic.normal ?_
   go_wp2_with fail
   go_meet
   exact ⟨rfl, hid H.out⟩
  case rest =>
  obtain ⟨rfl, HX⟩ := hcut
  obtain ⟨xa, hxa⟩ : ∃ xa, xa = wc := ⟨_, rfl⟩
  subst hxa
  clear HH HEncU HEncT HEncS HRefS he3 he2
  obtain ⟨wv, wcode, hgt⟩ : ∃ (v : ByteArray) (c : Int), getV (Tr.get t (path K)) = .tuple #[.string v, .int .i64 c] := by
   cases hgg : Tr.get t (path K) with
   | none => exact ⟨_, _, rfl⟩
   | some o => cases o <;> exact ⟨_, _, rfl⟩
  obtain ⟨xv, xcode, hgu⟩ : ∃ (v : ByteArray) (c : Int), getV (Tr.get u (path K)) = .tuple #[.string v, .int .i64 c] := by
   cases hgg : Tr.get u (path K) with
   | none => exact ⟨_, _, rfl⟩
   | some o => cases o <;> exact ⟨_, _, rfl⟩
  have HGt : Hid (Tr.get t (path K) ≠ none) := hid (has_get HHas.out HKl.out)
  have HGvt := hid hgt
  have HGvu := hid hgu
  have hkcl : kc K = C := HC.out
  clear hgt hgu
  go_wp2_with (first | (refine Rg.run rfl _ _ (op_load_tree (own_cell (j := 0) HX.out.o.o.x.o rfl) ⟨_, rfl, rfl⟩) ?_) | (refine Rg.run rfl _ _ (op_load_key HKl.out HX.out.o.o.kb.2 ⟨_, rfl, rfl⟩) ?_; rw [HC.out]))
  rw [← HC.out]
  refine (get_any M8 p t K HKl.out xa HX.out.o.o.l.i HX.out.o.o.u HHas.out.good).mono ?_
  rw [HGvt.out]
  rintro e xb ⟨rfl, hb⟩
  have HX2 := hid (HX.out.below hb)
  clear hb HX
  go_wp2_with (first | (refine Rg.run rfl _ _ (op_load_tree (own_cell (j := 0) HX2.out.ub.o rfl) ⟨_, rfl, rfl⟩) ?_) | (refine Rg.run rfl _ _ (op_load_key HKl.out HX2.out.o.o.kb.2 ⟨_, rfl, rfl⟩) ?_; rw [HC.out]))
  rw [← HC.out]
  refine (get_any M8 pu u K HKl.out xb HX2.out.o.o.l.i HX2.out.u HUg.out.1).mono ?_
  rw [HGvu.out]
  rintro e xc ⟨rfl, hb⟩
  have HX3 := hid (HX2.out.below hb)
  clear hb HX2
  go_wp2_with (first | (refine Rg.run rfl _ _ (op_load_key HKl.out HX3.out.o.o.kb.2 ⟨_, rfl, rfl⟩) ?_; rw [HC.out]))
  rw [← HC.out]
  refine (rpath_new K HKl.out xc).mono ?_
  rintro e xd ⟨pa2, pn2, pc2, rfl, hpb, hb⟩
  have HX4 := hid (HX3.out.below hb)
  have HPb : Hid (IsBs xd pa2 pn2 pc2 (path K)) := hid hpb.1
  have hpn : pn2 = 64 := by rw [← hpb.1.len]; show (path K).length = 64; rw [Tr.path_length, HKl.out]
  subst hpn
  clear hb hpb HX3
  go_upto_region 15 with fail
  obtain ⟨IB, hIB⟩ : ∃ IB, inPart t i (path K) = IB := ⟨_, rfl⟩
  have HIB := hid hIB
  rw [hIB] at HGu
  clear hIB
  go_cut [19] (fun v wx => v = .bool IB ∧ Hid (Op3 w M8 wx w.heap.size bt K p t bn N a n c (some ⟨kb, ko, none⟩) kc' ps bu pu u g cap ps2 ts2))
  case first =>
   obtain ⟨PP, hPP⟩ : ∃ PP, path K = PP := ⟨_, rfl⟩
   rw [hPP] at HPb HIB
   have hPl : PP.length = 64 := by rw [← hPP, Tr.path_length, HKl.out]
   have hPn : Nib PP := by rw [← hPP]; exact path_nib K
   have HNt := HN
   cases t with
   | nil => exact absurd rfl hnil
   | stub r => exact absurd trivial hst
   | leaf lp lv => exact absurd HPl.out (by show ps.length ≠ 0; exact hz)
   | ext eq es =>
    have k2 : N.kd = 2 := by rw [← HNt.out]; rfl
    have hnp : N.p = eq := by rw [← HNt.out]; rfl
    have HCm := hid (fun x (hx : IsBs x a n c N.p) (hy : IsBs x pa2 64 pc2 PP) => rcommon_any a pa2 n 64 c pc2 N.p PP (by have h1 := hx.len; have h2 := HHas.out.good.2.2.1; have h3 := hnp; rw [h3] at h1; omega) (by omega) x hx hy)
    have hnl : n = N.p.length := HX4.out.o.pb.len.symm
    have hib := in_ext eq PP es i
    rw [HIB.out, ← hnp, ← hnl] at hib
    obtain ⟨cm, hcm⟩ : ∃ cm, commonN N.p PP = cm := ⟨_, rfl⟩
    rw [hcm] at HCm hib
    clear hnp hnl hcm
    by_cases hd : cm = n
    ·have d1 : ((cm : Int) == (n : Int)) = true := by rw [hd]; simp
     have d2 : decide ((cm : Int) = (n : Int)) = true := decide_eq_true (by omega)
     have HIb : Hid (IB = true) := hid (by rw [hib, decide_eq_true hd])
     clear hd hib
     have H : Hid (Op3 w M8 xd.drew w.heap.size bt K p (.ext eq es) bn N a n c (some ⟨kb, ko, none⟩) kc' ps bu pu u g cap ps2 ts2) := hid (HX4.out.below (show Below xd.heap.size xd xd.drew from below_drewN (Below.refl _ _) 1))
     have HQb : Hid (IsBs xd.drew pa2 64 pc2 PP) := hid (HPb.out.below (show Below xd.heap.size xd xd.drew from below_drewN (Below.refl _ _) 1))
     refine wp_region_noPanic ?_
     refine wp_region_held_drew (S := fun w' => Sees bt bu kb ko g i p pu q p3 w' ∧ OwnN w' bn N a n c ∧ IsBs w' pa2 64 pc2 PP) (by kernel_rfl) (⟨HSee.out _ H.out, H.out.o.nb.o, HQb.out⟩) (fun hld => ?_)
     refine Rg.tk (i := 0) rfl ?_
     try simp only [Act.put, Rg.s]
     refine Rg.tk (i := 1) rfl ?_ (hy := by intro wz hSw; (have q0 := (nd_cells hSw.2.1).1; rw [k2] at q0; go_simp <;> with_reducible rfl))
     try simp only [Act.put, Rg.s]
     refine Rg.tk (i := 2) rfl ?_
     try simp only [Act.put, Rg.s]
     refine Rg.tk (i := 3) rfl ?_
     try simp only [Act.put, Rg.s]
     refine Rg.tk (i := 4) rfl ?_
     try simp only [Act.put, Rg.s]
     refine Rg.tk (i := 5) rfl ?_ (hy := by intro wz hSw; (have q0 := (nd_cells hSw.2.1).2.1; go_simp <;> with_reducible rfl))
     try simp only [Act.put, Rg.s]
     refine Rg.tk (i := 6) rfl ?_
     try simp only [Act.put, Rg.s]
     refine Rg.tk (i := 8) rfl ?_
     try simp only [Act.put, Rg.s]
     refine Rg.tk (i := 9) rfl ?_ (hy := by intro wz hSw; (have q0 := (nd_cells hSw.2.1).2.1; go_simp <;> with_reducible rfl))
     try simp only [Act.put, Rg.s]
     refine Rg.tk (i := 10) rfl ?_
     try simp only [Act.put, Rg.s]
     refine Rg.rd (i := 7) rfl fun K hK => ?_
     go_simp
     go_at_call 28
     (with_reducible refine (HCm.out _ H.out.o.pb HQb.out).mono ?_)
     rintro e wv0 ⟨rfl, qq, rfl⟩
     replace HQb := hid (HQb.out.below (below_drewN (Below.refl _ _) qq))
     replace H := hid (H.out.below (below_drewN (Below.refl _ _) qq))
     refine hK.out _ _ ?_ (fun hld => ?_)
     ·exact ⟨HSee.out _ H.out, H.out.o.nb.o, HQb.out⟩
     clear hK K
     try simp only [Act.put, Rg.s]
     refine Rg.tk (i := 11) rfl ?_ (hy := by intro wz hSw; (have q0 := d1; have q1 := d2; go_simp <;> with_reducible rfl))
     try simp only [Act.put, Rg.s]
     refine Rg.tk (i := 12) rfl ?_
     try simp only [Act.put, Rg.s]
     refine Rg.tk (i := 13) rfl ?_
     try simp only [Act.put, Rg.s]
     refine Rg.takeL (i := 14) (v := undef) rfl (by kernel_rfl) (by kernel_rfl) (by kernel_rfl) (fun _ _ _ h => h) (Or.inr ⟨by rfl, rfl⟩) (by assumption) ?_
     try simp only [Act.put, Rg.s]
     refine Rg.takeL (i := 15) (v := undef) rfl (by kernel_rfl) (by kernel_rfl) (by kernel_rfl) (fun _ _ _ h => h) (Or.inr ⟨by rfl, rfl⟩) (by assumption) ?_
     try simp only [Act.put, Rg.s]
     refine Rg.takeL (i := 16) (v := undef) rfl (by kernel_rfl) (by kernel_rfl) (by kernel_rfl) (fun _ _ _ h => h) (Or.inr ⟨by rfl, rfl⟩) (by assumption) ?_
     try simp only [Act.put, Rg.s]
     refine Rg.takeL (i := 17) (v := undef) rfl (by kernel_rfl) (by kernel_rfl) (by kernel_rfl) (fun _ _ _ h => h) (Or.inr ⟨by rfl, rfl⟩) (by assumption) ?_
     try simp only [Act.put, Rg.s]
     refine Rg.takeL (i := 18) (v := undef) rfl (by kernel_rfl) (by kernel_rfl) (by kernel_rfl) (fun _ _ _ h => h) (Or.inr ⟨by rfl, rfl⟩) (by assumption) ?_
     try simp only [Act.put, Rg.s]
     refine Rg.takeL (i := 19) (v := undef) rfl (by kernel_rfl) (by kernel_rfl) (by kernel_rfl) (fun _ _ _ h => h) (Or.inr ⟨by rfl, rfl⟩) (by assumption) ?_
     try simp only [Act.put, Rg.s]
     refine Rg.takeL (i := 20) (v := undef) rfl (by kernel_rfl) (by kernel_rfl) (by kernel_rfl) (fun _ _ _ h => h) (Or.inr ⟨by rfl, rfl⟩) (by assumption) ?_
     try simp only [Act.put, Rg.s]
     refine Rg.takeL (i := 21) (v := undef) rfl (by kernel_rfl) (by kernel_rfl) (by kernel_rfl) (fun _ _ _ h => h) (Or.inr ⟨by rfl, rfl⟩) (by assumption) ?_
     try simp only [Act.put, Rg.s]
     refine Rg.takeL (i := 22) (v := undef) rfl (by kernel_rfl) (by kernel_rfl) (by kernel_rfl) (fun _ _ _ h => h) (Or.inr ⟨by rfl, rfl⟩) (by assumption) ?_
     try simp only [Act.put, Rg.s]
     refine Rg.takeL (i := 23) (v := undef) rfl (by kernel_rfl) (by kernel_rfl) (by kernel_rfl) (fun _ _ _ h => h) (Or.inr ⟨by rfl, rfl⟩) (by assumption) ?_
     try simp only [Act.put, Rg.s]
     refine Rg.takeL (i := 24) (v := undef) rfl (by kernel_rfl) (by kernel_rfl) (by kernel_rfl) (fun _ _ _ h => h) (Or.inr ⟨by rfl, rfl⟩) (by assumption) ?_
     try simp only [Act.put, Rg.s]
     refine Rg.takeL (i := 25) (v := undef) rfl (by kernel_rfl) (by kernel_rfl) (by kernel_rfl) (fun _ _ _ h => h) (Or.inr ⟨by rfl, rfl⟩) (by assumption) ?_
     try simp only [Act.put, Rg.s]
     refine Rg.takeL (i := 26) (v := undef) rfl (by kernel_rfl) (by kernel_rfl) (by kernel_rfl) (fun _ _ _ h => h) (Or.inr ⟨by rfl, rfl⟩) (by assumption) ?_
     try simp only [Act.put, Rg.s]
     refine Rg.takeL (i := 27) (v := undef) rfl (by kernel_rfl) (by kernel_rfl) (by kernel_rfl) (fun _ _ _ h => h) (Or.inr ⟨by rfl, rfl⟩) (by assumption) ?_
     try simp only [Act.put, Rg.s]
     refine Rg.takeL (i := 28) (v := undef) rfl (by kernel_rfl) (by kernel_rfl) (by kernel_rfl) (fun _ _ _ h => h) (Or.inr ⟨by rfl, rfl⟩) (by assumption) ?_
     try simp only [Act.put, Rg.s]
     refine Rg.takeL (i := 29) (v := undef) rfl (by kernel_rfl) (by kernel_rfl) (by kernel_rfl) (fun _ _ _ h => h) (Or.inr ⟨by rfl, rfl⟩) (by assumption) ?_
     try simp only [Act.put, Rg.s]
     refine Rg.takeL (i := 30) (v := undef) rfl (by kernel_rfl) (by kernel_rfl) (by kernel_rfl) (fun _ _ _ h => h) (Or.inr ⟨by rfl, rfl⟩) (by assumption) ?_
     try simp only [Act.put, Rg.s]
     refine Rg.takeL (i := 31) (v := undef) rfl (by kernel_rfl) (by kernel_rfl) (by kernel_rfl) (fun _ _ _ h => h) (Or.inr ⟨by rfl, rfl⟩) (by assumption) ?_
     try simp only [Act.put, Rg.s]
     refine Rg.takeL (i := 32) (v := undef) rfl (by kernel_rfl) (by kernel_rfl) (by kernel_rfl) (fun _ _ _ h => h) (Or.inr ⟨by rfl, rfl⟩) (by assumption) ?_
     try simp only [Act.put, Rg.s]
     refine Rg.takeL (i := 33) (v := undef) rfl (by kernel_rfl) (by kernel_rfl) (by kernel_rfl) (fun _ _ _ h => h) (Or.inr ⟨by rfl, rfl⟩) (by assumption) ?_
     try simp only [Act.put, Rg.s]
     refine Rg.takeL (i := 34) (v := undef) rfl (by kernel_rfl) (by kernel_rfl) (by kernel_rfl) (fun _ _ _ h => h) (Or.inr ⟨by rfl, rfl⟩) (by assumption) ?_
     try simp only [Act.put, Rg.s]
     refine Rg.takeL (i := 35) (v := undef) rfl (by kernel_rfl) (by kernel_rfl) (by kernel_rfl) (fun _ _ _ h => h) (Or.inr ⟨by rfl, rfl⟩) (by assumption) ?_
     try simp only [Act.put, Rg.s]
     refine Rg.takeL (i := 36) (v := undef) rfl (by kernel_rfl) (by kernel_rfl) (by kernel_rfl) (fun _ _ _ h => h) (Or.inr ⟨by rfl, rfl⟩) (by assumption) ?_
     try simp only [Act.put, Rg.s]
     refine Rg.takeL (i := 37) (v := undef) rfl (by kernel_rfl) (by kernel_rfl) (by kernel_rfl) (fun _ _ _ h => h) (Or.inr ⟨by rfl, rfl⟩) (by assumption) ?_
     try simp only [Act.put, Rg.s]
     refine Rg.tk (i := 38) rfl ?_
     try simp only [Act.put, Rg.s]
     refine Rg.tk (i := 39) rfl ?_
     try simp only [Act.put, Rg.s]
     refine wpAnyH_done (by kernel_rfl) ?_ _
     refine NoPanic.normal ?_
     go_wp2_with fail
     go_meet
     exact ⟨by rw [HIb.out], hid H.out⟩
    ·have d1 : ((cm : Int) == (n : Int)) = false := by rw [beq_eq_false_iff_ne]; omega
     have d2 : decide ((cm : Int) = (n : Int)) = false := decide_eq_false (by omega)
     have HIb : Hid (IB = false) := hid (by rw [hib, decide_eq_false hd])
     clear hd hib
     have H : Hid (Op3 w M8 xd.drew w.heap.size bt K p (.ext eq es) bn N a n c (some ⟨kb, ko, none⟩) kc' ps bu pu u g cap ps2 ts2) := hid (HX4.out.below (show Below xd.heap.size xd xd.drew from below_drewN (Below.refl _ _) 1))
     have HQb : Hid (IsBs xd.drew pa2 64 pc2 PP) := hid (HPb.out.below (show Below xd.heap.size xd xd.drew from below_drewN (Below.refl _ _) 1))
     refine wp_region_noPanic ?_
     refine wp_region_held_drew (S := fun w' => Sees bt bu kb ko g i p pu q p3 w' ∧ OwnN w' bn N a n c ∧ IsBs w' pa2 64 pc2 PP) (by kernel_rfl) (⟨HSee.out _ H.out, H.out.o.nb.o, HQb.out⟩) (fun hld => ?_)
     refine Rg.tk (i := 0) rfl ?_
     try simp only [Act.put, Rg.s]
     refine Rg.tk (i := 1) rfl ?_ (hy := by intro wz hSw; (have q0 := (nd_cells hSw.2.1).1; rw [k2] at q0; go_simp <;> with_reducible rfl))
     try simp only [Act.put, Rg.s]
     refine Rg.tk (i := 2) rfl ?_
     try simp only [Act.put, Rg.s]
     refine Rg.tk (i := 3) rfl ?_
     try simp only [Act.put, Rg.s]
     refine Rg.tk (i := 4) rfl ?_
     try simp only [Act.put, Rg.s]
     refine Rg.tk (i := 5) rfl ?_ (hy := by intro wz hSw; (have q0 := (nd_cells hSw.2.1).2.1; go_simp <;> with_reducible rfl))
     try simp only [Act.put, Rg.s]
     refine Rg.tk (i := 6) rfl ?_
     try simp only [Act.put, Rg.s]
     refine Rg.tk (i := 8) rfl ?_
     try simp only [Act.put, Rg.s]
     refine Rg.tk (i := 9) rfl ?_ (hy := by intro wz hSw; (have q0 := (nd_cells hSw.2.1).2.1; go_simp <;> with_reducible rfl))
     try simp only [Act.put, Rg.s]
     refine Rg.tk (i := 10) rfl ?_
     try simp only [Act.put, Rg.s]
     refine Rg.rd (i := 7) rfl fun K hK => ?_
     go_simp
     go_at_call 28
     (with_reducible refine (HCm.out _ H.out.o.pb HQb.out).mono ?_)
     rintro e wv0 ⟨rfl, qq, rfl⟩
     replace HQb := hid (HQb.out.below (below_drewN (Below.refl _ _) qq))
     replace H := hid (H.out.below (below_drewN (Below.refl _ _) qq))
     refine hK.out _ _ ?_ (fun hld => ?_)
     ·exact ⟨HSee.out _ H.out, H.out.o.nb.o, HQb.out⟩
     clear hK K
     try simp only [Act.put, Rg.s]
     refine Rg.tk (i := 11) rfl ?_ (hy := by intro wz hSw; (have q0 := d1; have q1 := d2; go_simp <;> with_reducible rfl))
     try simp only [Act.put, Rg.s]
     refine Rg.tk (i := 12) rfl ?_
     try simp only [Act.put, Rg.s]
     refine Rg.tk (i := 13) rfl ?_
     try simp only [Act.put, Rg.s]
     refine Rg.tk (i := 14) rfl ?_
     try simp only [Act.put, Rg.s]
     refine Rg.tk (i := 15) rfl ?_ (hy := by intro wz hSw; (have q0 := (nd_cells hSw.2.1).1; rw [k2] at q0; go_simp <;> with_reducible rfl))
     try simp only [Act.put, Rg.s]
     refine Rg.tk (i := 16) rfl ?_
     try simp only [Act.put, Rg.s]
     refine Rg.tk (i := 17) rfl ?_
     try simp only [Act.put, Rg.s]
     refine Rg.takeL (i := 18) (v := undef) rfl (by kernel_rfl) (by kernel_rfl) (by kernel_rfl) (fun _ _ _ h => h) (Or.inr ⟨by rfl, rfl⟩) (by assumption) ?_
     try simp only [Act.put, Rg.s]
     refine Rg.takeL (i := 19) (v := undef) rfl (by kernel_rfl) (by kernel_rfl) (by kernel_rfl) (fun _ _ _ h => h) (Or.inr ⟨by rfl, rfl⟩) (by assumption) ?_
     try simp only [Act.put, Rg.s]
     refine Rg.takeL (i := 20) (v := undef) rfl (by kernel_rfl) (by kernel_rfl) (by kernel_rfl) (fun _ _ _ h => h) (Or.inr ⟨by rfl, rfl⟩) (by assumption) ?_
     try simp only [Act.put, Rg.s]
     refine Rg.takeL (i := 21) (v := undef) rfl (by kernel_rfl) (by kernel_rfl) (by kernel_rfl) (fun _ _ _ h => h) (Or.inr ⟨by rfl, rfl⟩) (by assumption) ?_
     try simp only [Act.put, Rg.s]
     refine Rg.takeL (i := 22) (v := undef) rfl (by kernel_rfl) (by kernel_rfl) (by kernel_rfl) (fun _ _ _ h => h) (Or.inr ⟨by rfl, rfl⟩) (by assumption) ?_
     try simp only [Act.put, Rg.s]
     refine Rg.takeL (i := 23) (v := undef) rfl (by kernel_rfl) (by kernel_rfl) (by kernel_rfl) (fun _ _ _ h => h) (Or.inr ⟨by rfl, rfl⟩) (by assumption) ?_
     try simp only [Act.put, Rg.s]
     refine Rg.takeL (i := 24) (v := undef) rfl (by kernel_rfl) (by kernel_rfl) (by kernel_rfl) (fun _ _ _ h => h) (Or.inr ⟨by rfl, rfl⟩) (by assumption) ?_
     try simp only [Act.put, Rg.s]
     refine Rg.takeL (i := 25) (v := undef) rfl (by kernel_rfl) (by kernel_rfl) (by kernel_rfl) (fun _ _ _ h => h) (Or.inr ⟨by rfl, rfl⟩) (by assumption) ?_
     try simp only [Act.put, Rg.s]
     refine Rg.takeL (i := 26) (v := undef) rfl (by kernel_rfl) (by kernel_rfl) (by kernel_rfl) (fun _ _ _ h => h) (Or.inr ⟨by rfl, rfl⟩) (by assumption) ?_
     try simp only [Act.put, Rg.s]
     refine Rg.takeL (i := 27) (v := undef) rfl (by kernel_rfl) (by kernel_rfl) (by kernel_rfl) (fun _ _ _ h => h) (Or.inr ⟨by rfl, rfl⟩) (by assumption) ?_
     try simp only [Act.put, Rg.s]
     refine Rg.takeL (i := 28) (v := undef) rfl (by kernel_rfl) (by kernel_rfl) (by kernel_rfl) (fun _ _ _ h => h) (Or.inr ⟨by rfl, rfl⟩) (by assumption) ?_
     try simp only [Act.put, Rg.s]
     refine Rg.takeL (i := 29) (v := undef) rfl (by kernel_rfl) (by kernel_rfl) (by kernel_rfl) (fun _ _ _ h => h) (Or.inr ⟨by rfl, rfl⟩) (by assumption) ?_
     try simp only [Act.put, Rg.s]
     refine Rg.tk (i := 30) rfl ?_
     try simp only [Act.put, Rg.s]
     refine Rg.tk (i := 31) rfl ?_
     try simp only [Act.put, Rg.s]
     refine Rg.takeL (i := 32) (v := undef) rfl (by kernel_rfl) (by kernel_rfl) (by kernel_rfl) (fun _ _ _ h => h) (Or.inr ⟨by rfl, rfl⟩) (by assumption) ?_
     try simp only [Act.put, Rg.s]
     refine Rg.takeL (i := 33) (v := undef) rfl (by kernel_rfl) (by kernel_rfl) (by kernel_rfl) (fun _ _ _ h => h) (Or.inr ⟨by rfl, rfl⟩) (by assumption) ?_
     try simp only [Act.put, Rg.s]
     refine Rg.takeL (i := 34) (v := undef) rfl (by kernel_rfl) (by kernel_rfl) (by kernel_rfl) (fun _ _ _ h => h) (Or.inr ⟨by rfl, rfl⟩) (by assumption) ?_
     try simp only [Act.put, Rg.s]
     refine Rg.takeL (i := 35) (v := undef) rfl (by kernel_rfl) (by kernel_rfl) (by kernel_rfl) (fun _ _ _ h => h) (Or.inr ⟨by rfl, rfl⟩) (by assumption) ?_
     try simp only [Act.put, Rg.s]
     refine Rg.takeL (i := 36) (v := undef) rfl (by kernel_rfl) (by kernel_rfl) (by kernel_rfl) (fun _ _ _ h => h) (Or.inr ⟨by rfl, rfl⟩) (by assumption) ?_
     try simp only [Act.put, Rg.s]
     refine Rg.tk (i := 37) rfl ?_
     try simp only [Act.put, Rg.s]
     refine Rg.tk (i := 38) rfl ?_
     try simp only [Act.put, Rg.s]
     refine Rg.tk (i := 39) rfl ?_
     try simp only [Act.put, Rg.s]
     refine wpAnyH_done (by kernel_rfl) ?_ _
     refine NoPanic.normal ?_
     go_wp2_with fail
     go_meet
     exact ⟨by rw [HIb.out], hid H.out⟩
   | br ks =>
    have k2 : N.kd = 3 := by rw [← HNt.out]; rfl
    obtain ⟨ch, PR, hpe⟩ : ∃ c r, PP = c :: r := by
     cases PP with
     | nil => cases hPl
     | cons c r => exact ⟨c, r, rfl⟩
    have hc16 : ch.toNat < 16 := hPn ch (by rw [hpe]; exact List.mem_cons_self)
    have hib := in_br HHas.out.good (Nat.le_refl _) HHas.out.fine i (by rw [← HPl.out]; exact HI.out) ch PR hc16
    rw [← hpe, HIB.out, HNt.out, HKd.out, HSn.out.1] at hib
    have HAt0 := fun x (hx : IsBs x pa2 64 pc2 PP) => at_any N HNl.out a n c PP pa2 64 pc2 ch.toNat (by rw [hpe]; rfl) hc16 (by omega) x hx
    obtain ⟨bp, op, rfl, _, _⟩ := HPb.out.at' 0 (by omega)
    have HC00 : ∀ x, IsBs x (some ⟨bp, op, none⟩) 64 pc2 PP → x.cell? ⟨bp, op, none⟩ = some (.int .u8 ch.toNat) := fun x hx => by
     obtain ⟨b, off, e, _, hc⟩ := hx.at' 0 (by omega)
     cases e
     rw [hpe] at hc
     exact hc
    obtain ⟨CC, hCC⟩ : ∃ CC, ch.toNat = CC := ⟨_, rfl⟩
    rw [hCC] at hib hc16 HAt0 HC00
    have HC0 := hid HC00
    have k64 : (0 : Int) < ((64 : Nat) : Int) := by decide
    have c16 : (CC : Int) < 16 := by omega
    obtain ⟨KR, hKR⟩ : ∃ KR, N.ks.getD CC eB = KR := ⟨_, rfl⟩
    obtain ⟨rk, hrk⟩ : ∃ rk, (kidsL (N.ks.take CC)).length = rk := ⟨_, rfl⟩
    rw [hKR, hrk] at hib
    rw [hrk] at HAt0
    have HAt := hid HAt0
    have HKc := hid hKR
    clear HAt0 HC00 hCC hKR hrk hpe hPn hPl hPP
    by_cases hd : KR = R
    ·have d1 : (KR.toList == R.toList) = true := by rw [str_eq, decide_eq_true hd]
     have d2 : decide (KR = R) = true := decide_eq_true hd
     rw [d2, Bool.true_and] at hib
     by_cases hd2 : rk = i
     ·have d3 : ((rk : Int) == (i : Int)) = true := by rw [hd2]; simp
      have d4 : decide ((rk : Int) = (i : Int)) = true := decide_eq_true (by omega)
      have HIb : Hid (IB = true) := hid (by rw [hib, decide_eq_true hd2])
      clear hd hd2 hib
      have H : Hid (Op3 w M8 xd.drew w.heap.size bt K p (.br ks) bn N a n c (some ⟨kb, ko, none⟩) kc' ps bu pu u g cap ps2 ts2) := hid (HX4.out.below (show Below xd.heap.size xd xd.drew from below_drewN (Below.refl _ _) 1))
      have HQb : Hid (IsBs xd.drew (some ⟨bp, op, none⟩) 64 pc2 PP) := hid (HPb.out.below (show Below xd.heap.size xd xd.drew from below_drewN (Below.refl _ _) 1))
      refine wp_region_noPanic ?_
      refine wp_region_held_drew (S := fun w' => Sees bt bu kb ko g i p pu q p3 w' ∧ OwnN w' bn N a n c ∧ IsBs w' (some ⟨bp, op, none⟩) 64 pc2 PP) (by kernel_rfl) (⟨HSee.out _ H.out, H.out.o.nb.o, HQb.out⟩) (fun hld => ?_)
      refine Rg.tk (i := 0) rfl ?_
      try simp only [Act.put, Rg.s]
      refine Rg.tk (i := 1) rfl ?_ (hy := by intro wz hSw; (have q0 := (nd_cells hSw.2.1).1; rw [k2] at q0; go_simp <;> with_reducible rfl))
      try simp only [Act.put, Rg.s]
      refine Rg.tk (i := 2) rfl ?_
      try simp only [Act.put, Rg.s]
      refine Rg.tk (i := 3) rfl ?_
      try simp only [Act.put, Rg.s]
      refine Rg.takeL (i := 4) (v := undef) rfl (by kernel_rfl) (by kernel_rfl) (by kernel_rfl) (fun _ _ _ h => h) (Or.inr ⟨by rfl, rfl⟩) (by assumption) ?_
      try simp only [Act.put, Rg.s]
      refine Rg.takeL (i := 5) (v := undef) rfl (by kernel_rfl) (by kernel_rfl) (by kernel_rfl) (fun _ _ _ h => h) (Or.inr ⟨by rfl, rfl⟩) (by assumption) ?_
      try simp only [Act.put, Rg.s]
      refine Rg.takeL (i := 6) (v := undef) rfl (by kernel_rfl) (by kernel_rfl) (by kernel_rfl) (fun _ _ _ h => h) (Or.inr ⟨by rfl, rfl⟩) (by assumption) ?_
      try simp only [Act.put, Rg.s]
      refine Rg.takeL (i := 7) (v := undef) rfl (by kernel_rfl) (by kernel_rfl) (by kernel_rfl) (fun _ _ _ h => h) (Or.inr ⟨by rfl, rfl⟩) (by assumption) ?_
      try simp only [Act.put, Rg.s]
      refine Rg.takeL (i := 8) (v := undef) rfl (by kernel_rfl) (by kernel_rfl) (by kernel_rfl) (fun _ _ _ h => h) (Or.inr ⟨by rfl, rfl⟩) (by assumption) ?_
      try simp only [Act.put, Rg.s]
      refine Rg.takeL (i := 9) (v := undef) rfl (by kernel_rfl) (by kernel_rfl) (by kernel_rfl) (fun _ _ _ h => h) (Or.inr ⟨by rfl, rfl⟩) (by assumption) ?_
      try simp only [Act.put, Rg.s]
      refine Rg.takeL (i := 10) (v := undef) rfl (by kernel_rfl) (by kernel_rfl) (by kernel_rfl) (fun _ _ _ h => h) (Or.inr ⟨by rfl, rfl⟩) (by assumption) ?_
      try simp only [Act.put, Rg.s]
      refine Rg.takeL (i := 11) (v := undef) rfl (by kernel_rfl) (by kernel_rfl) (by kernel_rfl) (fun _ _ _ h => h) (Or.inr ⟨by rfl, rfl⟩) (by assumption) ?_
      try simp only [Act.put, Rg.s]
      refine Rg.tk (i := 12) rfl ?_
      try simp only [Act.put, Rg.s]
      refine Rg.tk (i := 13) rfl ?_
      try simp only [Act.put, Rg.s]
      refine Rg.tk (i := 14) rfl ?_
      try simp only [Act.put, Rg.s]
      refine Rg.tk (i := 15) rfl ?_ (hy := by intro wz hSw; (have q0 := (nd_cells hSw.2.1).1; rw [k2] at q0; go_simp <;> with_reducible rfl))
      try simp only [Act.put, Rg.s]
      refine Rg.tk (i := 16) rfl ?_
      try simp only [Act.put, Rg.s]
      refine Rg.tk (i := 17) rfl ?_
      try simp only [Act.put, Rg.s]
      refine Rg.tk (i := 18) rfl ?_
      try simp only [Act.put, Rg.s]
      refine Rg.tk (i := 19) rfl ?_ (hy := by intro wz hSw; (have q0 := k64; go_simp <;> with_reducible rfl))
      try simp only [Act.put, Rg.s]
      refine Rg.tk (i := 20) rfl ?_ (hy := by intro wz hSw; (refine op_load_u8 (HC0.out wz hSw.2.2) ?_; exact ⟨_, rfl, rfl⟩))
      try simp only [Act.put, Rg.s]
      refine Rg.tk (i := 21) rfl ?_
      try simp only [Act.put, Rg.s]
      refine Rg.tk (i := 22) rfl ?_ (hy := by intro wz hSw; (have q0 := c16; go_simp <;> with_reducible rfl))
      try simp only [Act.put, Rg.s]
      refine Rg.tk (i := 23) rfl ?_ (hy := by intro wz hSw; (have q0 := nd_kid hSw.2.1 HNl.out CC (by omega); rw [HKc.out] at q0; go_simp <;> with_reducible rfl))
      try simp only [Act.put, Rg.s]
      refine Rg.tk (i := 24) rfl ?_
      try simp only [Act.put, Rg.s]
      refine Rg.tk (i := 25) rfl ?_
      try simp only [Act.put, Rg.s]
      refine Rg.tk (i := 26) rfl ?_ (hy := by intro wz hSw; (have q0 := i4; have q1 := hI0; go_simp <;> with_reducible rfl))
      try simp only [Act.put, Rg.s]
      refine Rg.tk (i := 27) rfl ?_ (hy := by intro wz hSw; (refine op_load_tree (show Sees _ _ _ _ _ _ _ _ _ _ wz from hSw.1).2.2.1 ?_; exact ⟨_, rfl, rfl⟩))
      try simp only [Act.put, Rg.s]
      refine Rg.rd (i := 28) rfl fun K hK => ?_
      go_simp
      go_at_call 20
      (with_reducible refine (HRefK.out M8 q _ H.out.o.o.l.i HQ8.out H.out.o.o.l.t).mono ?_)
      intro e wv0 hG
      obtain ⟨rfl, hL, hf⟩ := H.out.o.o.l.tell hG
      replace HQb := hid (isBs_fr H.out.o.o.l.i HQb.out hf)
      replace H := hid (H.out.fr hL hf)
      refine hK.out _ _ ?_ (fun hld => ?_)
      ·exact ⟨HSee.out _ H.out, H.out.o.nb.o, HQb.out⟩
      clear hK K hG hL hf
      try simp only [Act.put, Rg.s]
      refine Rg.tk (i := 29) rfl ?_ (hy := by intro wz hSw; (have q0 := d1; have q1 := d2; go_simp <;> with_reducible rfl))
      try simp only [Act.put, Rg.s]
      refine Rg.tk (i := 30) rfl ?_
      try simp only [Act.put, Rg.s]
      refine Rg.tk (i := 31) rfl ?_
      try simp only [Act.put, Rg.s]
      refine Rg.tk (i := 32) rfl ?_ (hy := by intro wz hSw; (refine op_load_nd hSw.2.1 HNl.out ?_; exact ⟨_, rfl, rfl⟩))
      try simp only [Act.put, Rg.s]
      refine Rg.tk (i := 33) rfl ?_
      try simp only [Act.put, Rg.s]
      refine Rg.tk (i := 35) rfl ?_
      try simp only [Act.put, Rg.s]
      refine Rg.rd (i := 34) rfl fun K hK => ?_
      go_simp
      go_at_call 29
      (with_reducible refine (HAt.out _ HQb.out).mono ?_)
      rintro e wv1 ⟨rfl, hbx⟩
      replace HQb := hid (HQb.out.below hbx)
      replace H := hid (H.out.below hbx)
      refine hK.out _ _ ?_ (fun hld => ?_)
      ·exact ⟨HSee.out _ H.out, H.out.o.nb.o, HQb.out⟩
      clear hK K hbx
      try simp only [Act.put, Rg.s]
      refine Rg.tk (i := 36) rfl ?_ (hy := by intro wz hSw; (have q0 := d3; have q1 := d4; go_simp <;> with_reducible rfl))
      try simp only [Act.put, Rg.s]
      refine Rg.tk (i := 37) rfl ?_
      try simp only [Act.put, Rg.s]
      refine Rg.tk (i := 38) rfl ?_
      try simp only [Act.put, Rg.s]
      refine Rg.tk (i := 39) rfl ?_
      try simp only [Act.put, Rg.s]
      refine wpAnyH_done (by kernel_rfl) ?_ _
      refine NoPanic.normal ?_
      go_wp2_with fail
      go_meet
      exact ⟨by rw [HIb.out], hid H.out⟩
     ·have d3 : ((rk : Int) == (i : Int)) = false := by rw [beq_eq_false_iff_ne]; omega
      have d4 : decide ((rk : Int) = (i : Int)) = false := decide_eq_false (by omega)
      have HIb : Hid (IB = false) := hid (by rw [hib, decide_eq_false hd2])
      clear hd hd2 hib
      have H : Hid (Op3 w M8 xd.drew w.heap.size bt K p (.br ks) bn N a n c (some ⟨kb, ko, none⟩) kc' ps bu pu u g cap ps2 ts2) := hid (HX4.out.below (show Below xd.heap.size xd xd.drew from below_drewN (Below.refl _ _) 1))
      have HQb : Hid (IsBs xd.drew (some ⟨bp, op, none⟩) 64 pc2 PP) := hid (HPb.out.below (show Below xd.heap.size xd xd.drew from below_drewN (Below.refl _ _) 1))
      refine wp_region_noPanic ?_
      refine wp_region_held_drew (S := fun w' => Sees bt bu kb ko g i p pu q p3 w' ∧ OwnN w' bn N a n c ∧ IsBs w' (some ⟨bp, op, none⟩) 64 pc2 PP) (by kernel_rfl) (⟨HSee.out _ H.out, H.out.o.nb.o, HQb.out⟩) (fun hld => ?_)
      refine Rg.tk (i := 0) rfl ?_
      try simp only [Act.put, Rg.s]
      refine Rg.tk (i := 1) rfl ?_ (hy := by intro wz hSw; (have q0 := (nd_cells hSw.2.1).1; rw [k2] at q0; go_simp <;> with_reducible rfl))
      try simp only [Act.put, Rg.s]
      refine Rg.tk (i := 2) rfl ?_
      try simp only [Act.put, Rg.s]
      refine Rg.tk (i := 3) rfl ?_
      try simp only [Act.put, Rg.s]
      refine Rg.takeL (i := 4) (v := undef) rfl (by kernel_rfl) (by kernel_rfl) (by kernel_rfl) (fun _ _ _ h => h) (Or.inr ⟨by rfl, rfl⟩) (by assumption) ?_
      try simp only [Act.put, Rg.s]
      refine Rg.takeL (i := 5) (v := undef) rfl (by kernel_rfl) (by kernel_rfl) (by kernel_rfl) (fun _ _ _ h => h) (Or.inr ⟨by rfl, rfl⟩) (by assumption) ?_
      try simp only [Act.put, Rg.s]
      refine Rg.takeL (i := 6) (v := undef) rfl (by kernel_rfl) (by kernel_rfl) (by kernel_rfl) (fun _ _ _ h => h) (Or.inr ⟨by rfl, rfl⟩) (by assumption) ?_
      try simp only [Act.put, Rg.s]
      refine Rg.takeL (i := 7) (v := undef) rfl (by kernel_rfl) (by kernel_rfl) (by kernel_rfl) (fun _ _ _ h => h) (Or.inr ⟨by rfl, rfl⟩) (by assumption) ?_
      try simp only [Act.put, Rg.s]
      refine Rg.takeL (i := 8) (v := undef) rfl (by kernel_rfl) (by kernel_rfl) (by kernel_rfl) (fun _ _ _ h => h) (Or.inr ⟨by rfl, rfl⟩) (by assumption) ?_
      try simp only [Act.put, Rg.s]
      refine Rg.takeL (i := 9) (v := undef) rfl (by kernel_rfl) (by kernel_rfl) (by kernel_rfl) (fun _ _ _ h => h) (Or.inr ⟨by rfl, rfl⟩) (by assumption) ?_
      try simp only [Act.put, Rg.s]
      refine Rg.takeL (i := 10) (v := undef) rfl (by kernel_rfl) (by kernel_rfl) (by kernel_rfl) (fun _ _ _ h => h) (Or.inr ⟨by rfl, rfl⟩) (by assumption) ?_
      try simp only [Act.put, Rg.s]
      refine Rg.takeL (i := 11) (v := undef) rfl (by kernel_rfl) (by kernel_rfl) (by kernel_rfl) (fun _ _ _ h => h) (Or.inr ⟨by rfl, rfl⟩) (by assumption) ?_
      try simp only [Act.put, Rg.s]
      refine Rg.tk (i := 12) rfl ?_
      try simp only [Act.put, Rg.s]
      refine Rg.tk (i := 13) rfl ?_
      try simp only [Act.put, Rg.s]
      refine Rg.tk (i := 14) rfl ?_
      try simp only [Act.put, Rg.s]
      refine Rg.tk (i := 15) rfl ?_ (hy := by intro wz hSw; (have q0 := (nd_cells hSw.2.1).1; rw [k2] at q0; go_simp <;> with_reducible rfl))
      try simp only [Act.put, Rg.s]
      refine Rg.tk (i := 16) rfl ?_
      try simp only [Act.put, Rg.s]
      refine Rg.tk (i := 17) rfl ?_
      try simp only [Act.put, Rg.s]
      refine Rg.tk (i := 18) rfl ?_
      try simp only [Act.put, Rg.s]
      refine Rg.tk (i := 19) rfl ?_ (hy := by intro wz hSw; (have q0 := k64; go_simp <;> with_reducible rfl))
      try simp only [Act.put, Rg.s]
      refine Rg.tk (i := 20) rfl ?_ (hy := by intro wz hSw; (refine op_load_u8 (HC0.out wz hSw.2.2) ?_; exact ⟨_, rfl, rfl⟩))
      try simp only [Act.put, Rg.s]
      refine Rg.tk (i := 21) rfl ?_
      try simp only [Act.put, Rg.s]
      refine Rg.tk (i := 22) rfl ?_ (hy := by intro wz hSw; (have q0 := c16; go_simp <;> with_reducible rfl))
      try simp only [Act.put, Rg.s]
      refine Rg.tk (i := 23) rfl ?_ (hy := by intro wz hSw; (have q0 := nd_kid hSw.2.1 HNl.out CC (by omega); rw [HKc.out] at q0; go_simp <;> with_reducible rfl))
      try simp only [Act.put, Rg.s]
      refine Rg.tk (i := 24) rfl ?_
      try simp only [Act.put, Rg.s]
      refine Rg.tk (i := 25) rfl ?_
      try simp only [Act.put, Rg.s]
      refine Rg.tk (i := 26) rfl ?_ (hy := by intro wz hSw; (have q0 := i4; have q1 := hI0; go_simp <;> with_reducible rfl))
      try simp only [Act.put, Rg.s]
      refine Rg.tk (i := 27) rfl ?_ (hy := by intro wz hSw; (refine op_load_tree (show Sees _ _ _ _ _ _ _ _ _ _ wz from hSw.1).2.2.1 ?_; exact ⟨_, rfl, rfl⟩))
      try simp only [Act.put, Rg.s]
      refine Rg.rd (i := 28) rfl fun K hK => ?_
      go_simp
      go_at_call 20
      (with_reducible refine (HRefK.out M8 q _ H.out.o.o.l.i HQ8.out H.out.o.o.l.t).mono ?_)
      intro e wv0 hG
      obtain ⟨rfl, hL, hf⟩ := H.out.o.o.l.tell hG
      replace HQb := hid (isBs_fr H.out.o.o.l.i HQb.out hf)
      replace H := hid (H.out.fr hL hf)
      refine hK.out _ _ ?_ (fun hld => ?_)
      ·exact ⟨HSee.out _ H.out, H.out.o.nb.o, HQb.out⟩
      clear hK K hG hL hf
      try simp only [Act.put, Rg.s]
      refine Rg.tk (i := 29) rfl ?_ (hy := by intro wz hSw; (have q0 := d1; have q1 := d2; go_simp <;> with_reducible rfl))
      try simp only [Act.put, Rg.s]
      refine Rg.tk (i := 30) rfl ?_
      try simp only [Act.put, Rg.s]
      refine Rg.tk (i := 31) rfl ?_
      try simp only [Act.put, Rg.s]
      refine Rg.tk (i := 32) rfl ?_ (hy := by intro wz hSw; (refine op_load_nd hSw.2.1 HNl.out ?_; exact ⟨_, rfl, rfl⟩))
      try simp only [Act.put, Rg.s]
      refine Rg.tk (i := 33) rfl ?_
      try simp only [Act.put, Rg.s]
      refine Rg.tk (i := 35) rfl ?_
      try simp only [Act.put, Rg.s]
      refine Rg.rd (i := 34) rfl fun K hK => ?_
      go_simp
      go_at_call 29
      (with_reducible refine (HAt.out _ HQb.out).mono ?_)
      rintro e wv1 ⟨rfl, hbx⟩
      replace HQb := hid (HQb.out.below hbx)
      replace H := hid (H.out.below hbx)
      refine hK.out _ _ ?_ (fun hld => ?_)
      ·exact ⟨HSee.out _ H.out, H.out.o.nb.o, HQb.out⟩
      clear hK K hbx
      try simp only [Act.put, Rg.s]
      refine Rg.tk (i := 36) rfl ?_ (hy := by intro wz hSw; (have q0 := d3; have q1 := d4; go_simp <;> with_reducible rfl))
      try simp only [Act.put, Rg.s]
      refine Rg.tk (i := 37) rfl ?_
      try simp only [Act.put, Rg.s]
      refine Rg.tk (i := 38) rfl ?_
      try simp only [Act.put, Rg.s]
      refine Rg.tk (i := 39) rfl ?_
      try simp only [Act.put, Rg.s]
      refine wpAnyH_done (by kernel_rfl) ?_ _
      refine NoPanic.normal ?_
      go_wp2_with fail
      go_meet
      exact ⟨by rw [HIb.out], hid H.out⟩
    ·have d1 : (KR.toList == R.toList) = false := by rw [str_eq, decide_eq_false hd]
     have d2 : decide (KR = R) = false := decide_eq_false hd
     have HIb : Hid (IB = false) := hid (by rw [hib, d2, Bool.false_and])
     clear hd hib
     have H : Hid (Op3 w M8 xd.drew w.heap.size bt K p (.br ks) bn N a n c (some ⟨kb, ko, none⟩) kc' ps bu pu u g cap ps2 ts2) := hid (HX4.out.below (show Below xd.heap.size xd xd.drew from below_drewN (Below.refl _ _) 1))
     have HQb : Hid (IsBs xd.drew (some ⟨bp, op, none⟩) 64 pc2 PP) := hid (HPb.out.below (show Below xd.heap.size xd xd.drew from below_drewN (Below.refl _ _) 1))
     refine wp_region_noPanic ?_
     refine wp_region_held_drew (S := fun w' => Sees bt bu kb ko g i p pu q p3 w' ∧ OwnN w' bn N a n c ∧ IsBs w' (some ⟨bp, op, none⟩) 64 pc2 PP) (by kernel_rfl) (⟨HSee.out _ H.out, H.out.o.nb.o, HQb.out⟩) (fun hld => ?_)
     refine Rg.tk (i := 0) rfl ?_
     try simp only [Act.put, Rg.s]
     refine Rg.tk (i := 1) rfl ?_ (hy := by intro wz hSw; (have q0 := (nd_cells hSw.2.1).1; rw [k2] at q0; go_simp <;> with_reducible rfl))
     try simp only [Act.put, Rg.s]
     refine Rg.tk (i := 2) rfl ?_
     try simp only [Act.put, Rg.s]
     refine Rg.tk (i := 3) rfl ?_
     try simp only [Act.put, Rg.s]
     refine Rg.takeL (i := 4) (v := undef) rfl (by kernel_rfl) (by kernel_rfl) (by kernel_rfl) (fun _ _ _ h => h) (Or.inr ⟨by rfl, rfl⟩) (by assumption) ?_
     try simp only [Act.put, Rg.s]
     refine Rg.takeL (i := 5) (v := undef) rfl (by kernel_rfl) (by kernel_rfl) (by kernel_rfl) (fun _ _ _ h => h) (Or.inr ⟨by rfl, rfl⟩) (by assumption) ?_
     try simp only [Act.put, Rg.s]
     refine Rg.takeL (i := 6) (v := undef) rfl (by kernel_rfl) (by kernel_rfl) (by kernel_rfl) (fun _ _ _ h => h) (Or.inr ⟨by rfl, rfl⟩) (by assumption) ?_
     try simp only [Act.put, Rg.s]
     refine Rg.takeL (i := 7) (v := undef) rfl (by kernel_rfl) (by kernel_rfl) (by kernel_rfl) (fun _ _ _ h => h) (Or.inr ⟨by rfl, rfl⟩) (by assumption) ?_
     try simp only [Act.put, Rg.s]
     refine Rg.takeL (i := 8) (v := undef) rfl (by kernel_rfl) (by kernel_rfl) (by kernel_rfl) (fun _ _ _ h => h) (Or.inr ⟨by rfl, rfl⟩) (by assumption) ?_
     try simp only [Act.put, Rg.s]
     refine Rg.takeL (i := 9) (v := undef) rfl (by kernel_rfl) (by kernel_rfl) (by kernel_rfl) (fun _ _ _ h => h) (Or.inr ⟨by rfl, rfl⟩) (by assumption) ?_
     try simp only [Act.put, Rg.s]
     refine Rg.takeL (i := 10) (v := undef) rfl (by kernel_rfl) (by kernel_rfl) (by kernel_rfl) (fun _ _ _ h => h) (Or.inr ⟨by rfl, rfl⟩) (by assumption) ?_
     try simp only [Act.put, Rg.s]
     refine Rg.takeL (i := 11) (v := undef) rfl (by kernel_rfl) (by kernel_rfl) (by kernel_rfl) (fun _ _ _ h => h) (Or.inr ⟨by rfl, rfl⟩) (by assumption) ?_
     try simp only [Act.put, Rg.s]
     refine Rg.tk (i := 12) rfl ?_
     try simp only [Act.put, Rg.s]
     refine Rg.tk (i := 13) rfl ?_
     try simp only [Act.put, Rg.s]
     refine Rg.tk (i := 14) rfl ?_
     try simp only [Act.put, Rg.s]
     refine Rg.tk (i := 15) rfl ?_ (hy := by intro wz hSw; (have q0 := (nd_cells hSw.2.1).1; rw [k2] at q0; go_simp <;> with_reducible rfl))
     try simp only [Act.put, Rg.s]
     refine Rg.tk (i := 16) rfl ?_
     try simp only [Act.put, Rg.s]
     refine Rg.tk (i := 17) rfl ?_
     try simp only [Act.put, Rg.s]
     refine Rg.tk (i := 18) rfl ?_
     try simp only [Act.put, Rg.s]
     refine Rg.tk (i := 19) rfl ?_ (hy := by intro wz hSw; (have q0 := k64; go_simp <;> with_reducible rfl))
     try simp only [Act.put, Rg.s]
     refine Rg.tk (i := 20) rfl ?_ (hy := by intro wz hSw; (refine op_load_u8 (HC0.out wz hSw.2.2) ?_; exact ⟨_, rfl, rfl⟩))
     try simp only [Act.put, Rg.s]
     refine Rg.tk (i := 21) rfl ?_
     try simp only [Act.put, Rg.s]
     refine Rg.tk (i := 22) rfl ?_ (hy := by intro wz hSw; (have q0 := c16; go_simp <;> with_reducible rfl))
     try simp only [Act.put, Rg.s]
     refine Rg.tk (i := 23) rfl ?_ (hy := by intro wz hSw; (have q0 := nd_kid hSw.2.1 HNl.out CC (by omega); rw [HKc.out] at q0; go_simp <;> with_reducible rfl))
     try simp only [Act.put, Rg.s]
     refine Rg.tk (i := 24) rfl ?_
     try simp only [Act.put, Rg.s]
     refine Rg.tk (i := 25) rfl ?_
     try simp only [Act.put, Rg.s]
     refine Rg.tk (i := 26) rfl ?_ (hy := by intro wz hSw; (have q0 := i4; have q1 := hI0; go_simp <;> with_reducible rfl))
     try simp only [Act.put, Rg.s]
     refine Rg.tk (i := 27) rfl ?_ (hy := by intro wz hSw; (refine op_load_tree (show Sees _ _ _ _ _ _ _ _ _ _ wz from hSw.1).2.2.1 ?_; exact ⟨_, rfl, rfl⟩))
     try simp only [Act.put, Rg.s]
     refine Rg.rd (i := 28) rfl fun K hK => ?_
     go_simp
     go_at_call 20
     (with_reducible refine (HRefK.out M8 q _ H.out.o.o.l.i HQ8.out H.out.o.o.l.t).mono ?_)
     intro e wv0 hG
     obtain ⟨rfl, hL, hf⟩ := H.out.o.o.l.tell hG
     replace HQb := hid (isBs_fr H.out.o.o.l.i HQb.out hf)
     replace H := hid (H.out.fr hL hf)
     refine hK.out _ _ ?_ (fun hld => ?_)
     ·exact ⟨HSee.out _ H.out, H.out.o.nb.o, HQb.out⟩
     clear hK K hG hL hf
     try simp only [Act.put, Rg.s]
     refine Rg.tk (i := 29) rfl ?_ (hy := by intro wz hSw; (have q0 := d1; have q1 := d2; go_simp <;> with_reducible rfl))
     try simp only [Act.put, Rg.s]
     refine Rg.tk (i := 30) rfl ?_
     try simp only [Act.put, Rg.s]
     refine Rg.tk (i := 31) rfl ?_
     try simp only [Act.put, Rg.s]
     refine Rg.takeL (i := 32) (v := undef) rfl (by kernel_rfl) (by kernel_rfl) (by kernel_rfl) (fun _ _ _ h => h) (Or.inr ⟨by rfl, rfl⟩) (by assumption) ?_
     try simp only [Act.put, Rg.s]
     refine Rg.takeL (i := 33) (v := undef) rfl (by kernel_rfl) (by kernel_rfl) (by kernel_rfl) (fun _ _ _ h => h) (Or.inr ⟨by rfl, rfl⟩) (by assumption) ?_
     try simp only [Act.put, Rg.s]
     refine Rg.takeL (i := 34) (v := undef) rfl (by kernel_rfl) (by kernel_rfl) (by kernel_rfl) (fun _ _ _ h => h) (Or.inr ⟨by rfl, rfl⟩) (by assumption) ?_
     try simp only [Act.put, Rg.s]
     refine Rg.takeL (i := 35) (v := undef) rfl (by kernel_rfl) (by kernel_rfl) (by kernel_rfl) (fun _ _ _ h => h) (Or.inr ⟨by rfl, rfl⟩) (by assumption) ?_
     try simp only [Act.put, Rg.s]
     refine Rg.takeL (i := 36) (v := undef) rfl (by kernel_rfl) (by kernel_rfl) (by kernel_rfl) (fun _ _ _ h => h) (Or.inr ⟨by rfl, rfl⟩) (by assumption) ?_
     try simp only [Act.put, Rg.s]
     refine Rg.tk (i := 37) rfl ?_
     try simp only [Act.put, Rg.s]
     refine Rg.tk (i := 38) rfl ?_
     try simp only [Act.put, Rg.s]
     refine Rg.tk (i := 39) rfl ?_
     try simp only [Act.put, Rg.s]
     refine wpAnyH_done (by kernel_rfl) ?_ _
     refine NoPanic.normal ?_
     go_wp2_with fail
     go_meet
     exact ⟨by rw [HIb.out], hid H.out⟩
  case rest =>
  obtain ⟨rfl, HY⟩ := hcut
  obtain ⟨xe, hxe⟩ : ∃ xe, xe = wc := ⟨_, rfl⟩
  subst hxe
  clear HX4 HPb HRefK HSee
  have hnew : Hid (∃ c, (Tr.get u (path K) = none → c = 8) ∧ (Tr.get u (path K) ≠ none → c = 0) ∧ ∃ T', ∀ x, Inv M8 x → Calls Tryz.prog 13 #[tv pu, .agg C, .string ⟨#[110, 101, 119]⟩] x (GotTE M8 x T' c)) := hid (by
   have hp := fun x hi => put_any M8 pu u K HKl.out ⟨#[110, 101, 119]⟩ (by decide) (by decide) x hi HY.out.u HUg.out.1
   rw [HC.out] at hp
   by_cases hg : Tr.get u (path K) = none
   ·exact ⟨8, fun _ => rfl, fun h => absurd hg h, _, fun x hi => (hp x hi).1 hg⟩
   ·exact ⟨0, fun h => absurd h hg, fun _ => rfl, _, fun x hi => (hp x hi).2 hg⟩)
  obtain ⟨hc, hc1, hc2, T', hPut⟩ := hnew.out
  have HPut := hid hPut
  have hans : (IB = true → xv = eB ∧ xcode = 8 ∧ hc = 8) ∧ (IB = false → xv = wv ∧ xcode = wcode ∧ hc = 0) := by
   have h1 := HGu.out
   have h2 := HGvu.out
   have h3 := HGvt.out
   constructor
   ·intro e
    rw [e, if_pos rfl] at h1
    rw [h1] at h2
    have h4 : getV none = .tuple #[.string eB, .int .i64 8] := rfl
    rw [h4] at h2
    refine ⟨?_, ?_, hc1 h1⟩
    ·cases h2; rfl
    ·cases h2; rfl
   ·intro e
    rw [e, if_neg (by decide)] at h1
    rw [h1, h3] at h2
    refine ⟨?_, ?_, hc2 (by rw [h1]; exact HGt.out)⟩
    ·cases h2; rfl
    ·cases h2; rfl
  have HAns := hid hans
  clear hans hPut hc1 hc2 hnew HGu HGvu HGvt HGt
  go_wp2_with (first | (refine Rg.run rfl _ _ (op_load_tree (own_cell (j := 0) HY.out.ub.o rfl) ⟨_, rfl, rfl⟩) ?_) | (refine Rg.run rfl _ _ (op_load_key HKl.out HY.out.o.o.kb.2 ⟨_, rfl, rfl⟩) ?_; rw [HC.out]))
  refine (HPut.out xe HY.out.o.o.l.i).mono ?_
  intro e xf hG
  obtain ⟨pn9, M9, rfl, hT9, hL9, hf9, hb9⟩ := HY.out.o.o.l.te hG
  have HL9 := hid hL9
  have hNew := Rg.Own.new xf #[.pointer none] 25
  have HN9 := hid hNew
  clear hG hT9 hL9 hf9 hb9 hNew HPut HY
  cases IB with
  | true =>
   obtain ⟨rfl, rfl, rfl⟩ := HAns.out.1 rfl
   clear HAns
   go_wp2_with (first
    | (refine Rg.run rfl _ _ (run_alloc_tree _ _ _ xf.heap.size rfl rfl) ?_)
    | (refine wpl_store_tree HN9.out (by decide) _ rfl _ _ rfl rfl rfl ?_; intro xg hO hu; have HLg := hid (HL9.out.below (hu.below (al1 _ _) (Nat.le_refl _))); clear hO hu))
   refine (awake_any xg HLg.out.t).mono ?_
   rintro e xh ⟨rfl, hb⟩
   have HLh := hid (HLg.out.below hb)
   clear hb HLg
   have he2 : eB.toList = [] := by first | rfl | kernel_rfl | decide +kernel
   have he3 : (eB.toList == []) = true := by rw [he2]; rfl
   go_wp2_with fail
   go_ret
   exact ⟨rfl, HLh.out.b⟩
  | false =>
   obtain ⟨rfl, rfl, rfl⟩ := HAns.out.2 rfl
   clear HAns
   go_wp2_with (first
    | (refine Rg.run rfl _ _ (run_alloc_tree _ _ _ xf.heap.size rfl rfl) ?_)
    | (refine wpl_store_tree HN9.out (by decide) _ rfl _ _ rfl rfl rfl ?_; intro xg hO hu; have HLg := hid (HL9.out.below (hu.below (al1 _ _) (Nat.le_refl _))); clear hO hu))
   refine (awake_any xg HLg.out.t).mono ?_
   rintro e xh ⟨rfl, hb⟩
   have HLh := hid (HLg.out.below hb)
   clear hb HLg
   go_wp2_with fail
   go_ret
   exact ⟨rfl, HLh.out.b⟩
end Tm
end
end Go.Proofs.YtgolhnfkmmajpaaGreatDoor
