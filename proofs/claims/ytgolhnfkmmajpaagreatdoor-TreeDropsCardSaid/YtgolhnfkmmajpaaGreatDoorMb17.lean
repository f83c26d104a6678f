/-
 The contract of closed: a branch, or what its one tree is by itself.
-/
import Derived.Test.YtgolhnfkmmajpaaGreatDoorMb16
import Derived.Test.YtgolhnfkmmajpaaGreatDoorMb7
import Derived.Maps.AppendAt
import Derived.Test.YtgolhnfkmmajpaaGreatDoorMb4
import Derived.Test.YtgolhnfkmmajpaaGreatDoorMb2
import Derived.Test.YtgolhnfkmmajpaaGreatDoorMb9
open Go.Lib (hid)
set_option linter.unusedSimpArgs false
set_option linter.unusedVariables false
set_option maxHeartbeats 40000000
set_option maxRecDepth 100000
namespace Go.Proofs.YtgolhnfkmmajpaaGreatDoor
section
open Go.RowKit
namespace Tm
open Tr Ni Pk
theorem path_le {t : T} {L : Nat} (g : Tr.Good t L) : (pathT t).length ≤ L := by
 cases t with
 | leaf p v => exact Nat.le_of_eq g.1
 | ext q s => exact g.2.2.1
 | nil => exact Nat.zero_le _
 | br ks => exact Nat.zero_le _
 | stub r => exact Nat.zero_le _
theorem lifted_any (M : Mp) (b : Nat) (t : T) (hm : M.at_ b = some t) (hs : ¬ IsStub t) (L : Nat) (hg : Tr.Good t L) (a : Option Addr) (n c : Nat) (g : Pa) (hlen : g.length + L ≤ 64) (w : World) (hi : Inv M w) (hB : Bs M w a n c g) :
  Calls Tryz.prog 65 #[.agg #[.pointer (some ⟨b, 0, none⟩)], .slice a n c] w (GotT M w (glue g t)) := by
 have hp := path_le hg
 cases t with
 | nil => exact absurd rfl (hi.part_ b _ hm).1
 | stub r => exact absurd trivial hs
 | leaf q u => exact lifted_leaf M b q u hm a n c g w hi hB (by have : q.length ≤ L := hp; omega)
 | ext q s =>
  have hw : wrap (g ++ q) s = glue g (.ext q s) := if_neg (fun e => hg.1 (List.append_eq_nil_iff.1 e).2)
  rw [← hw]
  exact lifted_ext M b q s hm a n c g w hi hB (by have : q.length ≤ L := hp; omega)
 | br ks => exact lifted_br M b ks hm a n c g w hi hB
theorem own_keep {B n : Nat} {w w' : World} {e : TypeId} {v : Value} {xs : List Value} (h : w.ownsRow B e 1 v n xs) (hb : Below w.heap.size w w') : w'.ownsRow B e 1 v n xs := h.kept (Bu.grown_below hb) (by cases v.ownBlock <;> simp)
def leftL (ks : Fin 16 → T) (j : Nat) : List UInt8 := (((List.finRange 16).take j).filter fun i => !isNil (ks i)).map nibOf
theorem leftL_succ (ks : Fin 16 → T) (j : Nat) (hj : j < 16) : leftL ks (j + 1) = leftL ks j ++ if isNil (ks ⟨j, hj⟩) then [] else [nibOf ⟨j, hj⟩] := by
 unfold leftL
 have e : (List.finRange 16)[j]'(by simpa using hj) = ⟨j, hj⟩ := by simp
 rw [List.take_succ_eq_append_getElem (by simpa using hj), e, List.filter_append, List.map_append]
 congr 1
 cases h : isNil (ks ⟨j, hj⟩) <;> simp [h]
theorem leftL_all (ks : Fin 16 → T) : leftL ks 16 = (kidsOf ks).map nibOf := by
 unfold leftL kidsOf
 rw [List.take_of_length_le (by simp)]
theorem leftL_len (ks : Fin 16 → T) (j : Nat) : (leftL ks j).length ≤ j := by
 unfold leftL
 rw [List.length_map]
 exact Nat.le_trans (List.length_filter_le _ _) (by rw [List.length_take]; exact Nat.min_le_left _ _)
theorem closed_any (M : Mp) (b : Nat) (ks : Fin 16 → T) (hm : M.at_ b = some (.br ks)) (hne : kidsOf ks ≠ []) (L : Nat) (hL : L ≤ 63) (hg : ∀ i, Tr.Good (ks i) L) (hst : ∀ i, ¬ IsStub (ks i)) (w : World) (hi : Inv M w) :
  Calls Tryz.prog 63 #[.agg #[.pointer (some ⟨b, 0, none⟩)]] w (GotT M w (collapse ks)) := by
 obtain ⟨w2, hw2, hO0, hO1, hb2, hs2⟩ := enter2 w (some ⟨b, 0, none⟩)
 have hi2 := hi.below hb2
 obtain ⟨ka, kn, kc, c3, hKs⟩ := hi2.kids hm
 have hkn : kn = 16 := by rw [← hKs.len]; exact parts_br_len ks
 subst hkn
 obtain ⟨kb, ko, p0, rfl, hklt, hkf, hzz⟩ := hKs.at' 0 (by omega)
 clear hzz
 have hkid : ∀ j (hj : j < 16), ∃ p, w2.cell? ⟨kb, ko + j, none⟩ = some (.pointer p) ∧ IsT M p (ks ⟨j, hj⟩) := fun j hj => by
  obtain ⟨b', o', p, e, _, _, hc, ht⟩ := hKs.at' j hj
  obtain ⟨rfl, rfl⟩ : kb = b' ∧ ko = o' := by simpa using e
  refine ⟨p, hc, ?_⟩
  have := parts_br_at ks ⟨j, hj⟩
  rw [this] at ht
  exact ht
 have hkc := hKs.1
 have hkm := hKs.2.1
 unfold maxLen at hkm
 have hbl := hi.lt hm
 have hkbl := hi.lt_ kb hkf
 have h0 := own_cell (j := 0) hO0 rfl
 obtain ⟨i0, hin, hz0, hz1, hz2⟩ := info_parts Cc.info_u8
 have HI : Hid (_ ∧ _ ∧ _ ∧ _) := hid ⟨hin, hz0, hz1, hz2⟩
 have HKid := hid hkid
 have HE : Hid (∀ wr, Below w2.heap.size w2 wr → 2 ≤ (leftL ks 16).length → wr.cell? ⟨w.heap.size, 0, none⟩ = some (.pointer (some ⟨b, 0, none⟩)) ∧ Rg.Own wr (w.heap.size + 1) #[.pointer none] 25 ∧ ∀ w10, Rg.Upd wr (w.heap.size + 1) w10 → GotT M w (collapse ks) (.returned (tv (some ⟨b, 0, none⟩))) w10) := hid (fun wr hbr h2 => by
  refine ⟨cell_on hbr h0, hO1.below hbr, fun w10 hu => ?_⟩
  have : collapse ks = .br ks := by
   rw [leftL_all, List.length_map] at h2
   unfold collapse
   match hk : kidsOf ks, h2 with
   | _ :: _ :: _, _ => rfl
  rw [this]
  exact got_old hi (isT_at hi hm) (hu.below (bst hb2 hbr) (by omega)))
 have HF1 : Hid (∀ wr, Below w2.heap.size w2 wr → ∀ a n c, IsBs wr a n c (leftL ks 16) → n < 2 → ∃ (i : Fin 16) (b1 o1 : Nat) (p : Option Addr), n = 1 ∧ a = some ⟨b1, o1, none⟩ ∧ b1 < wr.heap.size ∧ b1 ≠ w.heap.size + 1 ∧ wr.cell? ⟨b1, o1, none⟩ = some (.int .u8 i.val) ∧ wr.cell? ⟨kb, ko + i.val, none⟩ = some (.pointer p) ∧
   wr.cell? ⟨w.heap.size, 0, none⟩ = some (.pointer (some ⟨b, 0, none⟩)) ∧ wr.cell? ⟨b, 3, none⟩ = some (.slice (some ⟨kb, ko, none⟩) 16 kc) ∧ ∃ M1, Calls Tryz.prog 65 #[.agg #[.pointer p], .slice a n c] wr.drew (GotT M1 wr.drew (collapse ks)) ∧
   ∀ e w9, GotT M1 wr.drew (collapse ks) e w9 → ∃ p, e = .returned (tv p) ∧ Below wr.heap.size wr w9 ∧ Rg.Own w9 (w.heap.size + 1) #[.pointer none] 25 ∧ ∀ w10, Rg.Upd w9 (w.heap.size + 1) w10 → GotT M w (collapse ks) (.returned (tv p)) w10) := hid (fun wr hbr a n c hx hn => by
  have hxl := hx.len
  have hOr := hO1.below hbr
  rw [leftL_all] at hx hxl
  rw [List.length_map] at hxl
  match hk : kidsOf ks, hne with
  | [i], _ =>
   rw [hk] at hxl hx
   have hn1 : n = 1 := hxl.symm
   subst hn1
   obtain ⟨b1, o1, rfl, hlt1, hc1⟩ := hx.at' 0 (by omega)
   have hc1' : wr.cell? ⟨b1, o1, none⟩ = some (.int .u8 i.val) := by
    rw [Nat.add_zero] at hc1
    rw [hc1, show (List.map nibOf [i]).getD 0 0 = nibOf i from rfl, nibOf_toNat]
   have hne1 : b1 ≠ w.heap.size + 1 := by
    rintro rfl
    exact no_byte hOr (one_no _) ⟨_, _, hc1'⟩
   obtain ⟨p, hcp, htp⟩ := hkid i.val i.isLt
   have hne_i : ks i ≠ .nil := mem_kidsOf.1 (by rw [hk]; exact List.mem_cons_self)
   have hcol : collapse ks = glue [nibOf i] (ks i) := by
    unfold collapse
    rw [hk]
   refine ⟨i, b1, o1, p, rfl, rfl, hlt1, hne1, hc1', cell_on hbr hcp, cell_on hbr h0, cell_on hbr c3, plus M (inS (some ⟨b1, o1, none⟩) 1), ?_, fun e w9 hG => ?_⟩
   ·obtain ⟨b2, rfl, hm2⟩ := htp.at_ hne_i
    have hbd : Below w.heap.size w wr.drew := (bst hb2 hbr).drew
    have hxd : IsBs wr.drew (some ⟨b1, o1, none⟩) 1 c [nibOf i] := hx
    rw [hcol]
    exact lifted_any (plus M (inS (some ⟨b1, o1, none⟩) 1)) b2 (ks i) hm2 (hst i) L (hg i) _ _ _ [nibOf i] (show 1 + L ≤ 64 by omega) wr.drew ((hi.below hbd).plus (fun k hk => (inS_byte hxd hk).2)) (Bs.in_ hxd)
   ·have hbd : Below w.heap.size w wr.drew := (bst hb2 hbr).drew
    have hxd : IsBs wr.drew (some ⟨b1, o1, none⟩) 1 c [nibOf i] := hx
    have hb9 : Below wr.heap.size wr w9 := by
     obtain ⟨_, _, _, _, _, _, h⟩ := hG
     exact bst (below_drewN (Below.refl _ _) 1) h
    obtain ⟨p9, he, hO9, hE⟩ := finish hi ((Fr.below M hbd).plus (fun k hk => (inS_byte hxd hk).1.below hbd)) hbd hG (hOr.drew) (one_no _) (by omega) (fun h => h.elim (hi.free (by omega)) (fun h => no_byte hOr (one_no _) (inS_byte hxd h).1))
    exact ⟨p9, he, hb9, hO9, hE⟩
  | i :: j :: r, _ =>
   rw [hk] at hxl
   simp at hxl
   omega)
 have HS2 : Hid (w2.heap.size = w.heap.size + 2) := hid hs2
 have HW2 : Hid (_ = _) := hid hw2
 have hlt2 : w.heap.size < w2.heap.size := by omega
 have h0' := h0
 have c3' := c3
 rw [hw2] at h0' c3'
 obtain ⟨R, hR⟩ : ∃ R, collapse ks = R := ⟨_, rfl⟩
 rw [hR] at HE HF1 ⊢
 clear hO0 hO1 hb2 hs2 hi hi2 hm hKs hg hst hne hin hz0 hz1 hz2 hw2 hkid hR hkf hklt
 go_enter Tryz.func63, Tryz.ntmps63
 go_wp2_with (refine Rg.run rfl _ _ (run_alloc_tree _ _ _ (w.heap.size + 1) (by simp) rfl) ?_)
 rw [← HW2.out]
 clear h0' c3'
 go_loopw [3, 12] (fun v i wr => ∃ j : Nat, j ≤ 16 ∧ i = .int .i64 j ∧ Hid (wr.ownsRow w2.heap.size 5 1 v (leftL ks j).length ((leftL ks j).map fun x => Value.int .u8 x.toNat)) ∧ Hid (Below w2.heap.size w2 wr)) (fun _ i _ => 16 - (intOf i).toNat)
 case atStart => exact ⟨0, Nat.zero_le _, rfl, hid (World.ownsRow_nil _ _ _ _), hid (Below.refl _ _)⟩
 case round =>
  obtain ⟨j, hj, rfl, HR, HB⟩ := hrel
  have hsz : w2.heap.size ≤ wr.heap.size := HB.out.size
  by_cases hlt : j < 16
  ·obtain ⟨p, hcp, htp⟩ := HKid.out j hlt
   have hS := leftL_succ ks j hlt
   have hll := leftL_len ks j
   have hkj := cell_on HB.out hcp
   have hniliff := htp.nil_iff
   have hw8 : IntKind.u8.wrap (j : Int) = (j : Int) := by have h8 : IntKind.u8.bits = 8 := rfl; have h9 : IntKind.u8.signed = false := rfl; simp only [IntKind.wrap, h8, h9, Bool.false_and, Bool.false_eq_true, if_false]; omega
   have hnb : (nibOf ⟨j, hlt⟩).toNat = j := nibOf_toNat ⟨j, hlt⟩
   have HEm := hid (fun wx => empty_any p wx)
   have hNew := Rg.Own.new wr #[.pointer none] 25
   have HN := hid hNew
   clear hcp htp hNew h0 c3
   cases hnil : isNil (ks ⟨j, hlt⟩) with
   | true =>
    obtain rfl : p = none := hniliff.2 (isNil_iff.1 hnil)
    rw [hnil, if_pos rfl, List.append_nil] at hS
    rw [← hS] at HR
    clear hS hniliff hnil
    go_wp2_with (first
     | (refine Rg.run rfl _ _ (op_load_tree hkj ⟨_, rfl, rfl⟩) ?_)
     | (refine Rg.run rfl _ _ (run_alloc_tree _ _ _ wr.heap.size rfl rfl) ?_)
     | (refine wpl_store_tree HN.out (by decide) none rfl _ _ rfl rfl rfl ?_; intro w5 hO5 hu5; have HO5 := hid hO5; have HB5 : Hid (Below wr.heap.size wr w5) := hid (hu5.below (al1 _ _) (Nat.le_refl _)); clear hO5 hu5)
     | (refine Rg.run rfl _ _ (op_load_tree (own_cell (j := 0) HO5.out rfl) ⟨_, rfl, rfl⟩) ?_))
    refine (HEm.out _).mono ?_
    rintro e w6 ⟨rfl, hb6⟩
    have HB6 : Hid (Below wr.heap.size wr w6) := hid (bst HB5.out hb6)
    have HR6 := hid (own_keep HR.out HB6.out)
    clear hb6 HB5 HO5 HR
    go_wp2
    go_roundw
    case rel => exact ⟨j + 1, by omega, by go_num, HR6, hid (below_step HB.out HB6.out (Nat.le_refl _))⟩
    case measure => simp [intOf]; omega
   | false =>
    rw [hnil, if_neg (by decide)] at hS
    have hpn : p ≠ none := fun e => by
     rw [isNil_iff.2 (hniliff.1 e)] at hnil
     cases hnil
    obtain ⟨ad, rfl⟩ := Option.ne_none_iff_exists'.1 hpn
    have HS := hid hS
    clear hS hniliff hnil hpn
    go_wp2_with (first
     | (refine Rg.run rfl _ _ (op_load_tree hkj ⟨_, rfl, rfl⟩) ?_)
     | (refine Rg.run rfl _ _ (run_alloc_tree _ _ _ wr.heap.size rfl rfl) ?_)
     | (refine wpl_store_tree HN.out (by decide) (some ad) rfl _ _ rfl rfl rfl ?_; intro w5 hO5 hu5; have HO5 := hid hO5; have HB5 : Hid (Below wr.heap.size wr w5) := hid (hu5.below (al1 _ _) (Nat.le_refl _)); clear hO5 hu5)
     | (refine Rg.run rfl _ _ (op_load_tree (own_cell (j := 0) HO5.out rfl) ⟨_, rfl, rfl⟩) ?_))
    refine (HEm.out _).mono ?_
    rintro e w6 ⟨rfl, hb6⟩
    have HB6 : Hid (Below wr.heap.size wr w6) := hid (bst HB5.out hb6)
    have HR6 := hid (own_keep HR.out HB6.out)
    have HB26 : Hid (Below w2.heap.size w2 w6) := hid (below_step HB.out HB6.out (Nat.le_refl _))
    clear hb6 HB5 HO5 HR
    go_wp2_with (at_builtin; refine wpList_append_own _ rfl _ _ 49 rfl w2.heap.size 5 i0 (.int .u8 0) 1 1 Tryz.underlying49 HI.out.1 HI.out.2.1 HI.out.2.2.1 HI.out.2.2.2 rfl (by decide) _ _ _ rfl (HR6.out.alloc _) ⟨w6.heap.size, 0, none⟩ 1 1 [.int .u8 j] rfl rfl ?d1 ?d2 ?d3 ?d4 ?d5 ?_)
    case d1 => exact Bu.cell_one_new' _ _ _ _
    case d2 => intro u hu; simp at hu; subst hu; rfl
    case d3 => unfold maxLen; omega
    case d4 => omega
    case d5 => have := HB26.out.size; simp; omega
    intro v' w7 hown7 hgrow _
    have hlt' := HR6.out.lt
    go_wp2
    go_roundw
    case rel => exact ⟨j + 1, by omega, by go_num, hid (by rw [HS.out, List.length_append, List.map_append, List.map_cons, List.map_nil, hnb]; exact hown7), hid ((HB26.out.alloc HB26.out.size _).grown hgrow (by have := HB26.out.size; simp; omega) (fun g hg => (hlt' g hg).1))⟩
    case measure => simp [intOf]; omega
  ·obtain rfl : j = 16 := by omega
   obtain ⟨a', cap', rfl, hbs⟩ := IsBs.ofOwn HR.out
   obtain ⟨n, hn⟩ : ∃ n, (leftL ks 16).length = n := ⟨_, rfl⟩
   have hn16 : n ≤ 16 := by rw [← hn]; exact leftL_len ks 16
   have hc1 := hbs.1
   have hc2 := hbs.2.1
   unfold maxLen at hc2
   by_cases h2 : 2 ≤ n
   ·obtain ⟨e0, hO, hE⟩ := HE.out wr HB.out (by rw [hn]; exact h2)
    rw [hn] at hbs ⊢
    have HO := hid hO
    have HEE := hid hE
    have hg2 : decide ((1 : Int) < (n : Int)) = true := by simp; omega
    have hg3 : (1 : Int) < (n : Int) := by omega
    clear hO hE HE HF1 HR hbs HKid h0 c3
    go_wp2_with (first
     | (refine Rg.run rfl _ _ (op_load_tree e0 ⟨_, rfl, rfl⟩) ?_)
     | (refine wpl_store_tree HO.out (by decide) (some ⟨b, 0, none⟩) rfl _ _ rfl rfl rfl ?_; intro w10 hO10 hu10; have HO10 := hid hO10; have HU10 := hid hu10; clear hO10 hu10))
    exact bodyPost_ret (res_tree rfl _ rfl HO10.out) rfl (HEE.out w10 HU10.out)
   rw [hn] at hbs ⊢
   obtain ⟨i, b1, o1, p, rfl, rfl, hb1l, hne1, eb, ek, e0, e3, M1, HC, HF⟩ := HF1.out wr HB.out a' n cap' hbs (by omega)
   replace HC := hid HC
   replace HF := hid HF
   have hx16 : i.val < 16 := i.isLt
   have hxi : ((i.val : Nat) : Int) < 16 := by omega
   obtain ⟨x, hx⟩ : ∃ x, i.val = x := ⟨_, rfl⟩
   rw [hx] at hx16 hxi eb ek
   have hn1 : 0 < 1 := Nat.one_pos
   clear hx HE HF1 HR hbs HKid h0 c3
   go_wp2_with fail
   refine wp_region_noPanic ?_
   refine wp_region_held_drew (S := fun w' => Bo (w.heap.size + 1) wr w') (by kernel_rfl) (Bo.of (below_drewN (Below.refl _ _) 1)) (fun hld => ?_)
   refine Rg.tk (i := 0) rfl ?_
   try simp only [Act.put, Rg.s]
   refine Rg.tk (i := 1) rfl ?_ (hy := by intro wz hSw; have hcc := cell_bo hSw (by omega) e0; (try dsimp only at hSw); go_simp <;> with_reducible rfl)
   try simp only [Act.put, Rg.s]
   refine Rg.tk (i := 2) rfl ?_
   try simp only [Act.put, Rg.s]
   refine Rg.tk (i := 3) rfl ?_
   try simp only [Act.put, Rg.s]
   refine Rg.tk (i := 4) rfl ?_ (hy := by intro wz hSw; have hcc := cell_bo hSw (by omega) e3; (try dsimp only at hSw); go_simp <;> with_reducible rfl)
   try simp only [Act.put, Rg.s]
   refine Rg.tk (i := 5) rfl ?_
   try simp only [Act.put, Rg.s]
   refine Rg.tk (i := 6) rfl ?_ (hy := by intro wz hSw; (have q0 := hn1; go_simp <;> with_reducible rfl))
   try simp only [Act.put, Rg.s]
   refine Rg.tk (i := 7) rfl ?_ (hy := by intro wz hSw; have hcc := cell_bo hSw (by omega) eb; (try dsimp only at hSw); go_simp <;> with_reducible rfl)
   try simp only [Act.put, Rg.s]
   refine Rg.tk (i := 8) rfl ?_ (hy := by intro wz hSw; (have q0 := hxi; have q1 := hx16; go_simp <;> with_reducible rfl))
   try simp only [Act.put, Rg.s]
   refine Rg.tk (i := 9) rfl ?_ (hy := by intro wz hSw; (refine op_load_tree (cell_bo hSw (by omega) ek) ?_; exact ⟨_, rfl, rfl⟩))
   try simp only [Act.put, Rg.s]
   refine Rg.tk (i := 10) rfl ?_
   try simp only [Act.put, Rg.s]
   refine Rg.rd (i := 11) rfl fun K hK => ?_
   go_simp
   go_at_call 65
   (with_reducible refine HC.out.mono ?_)
   intro e w9 hG
   obtain ⟨p9, rfl, hB9, H9⟩ := HF.out e w9 hG
   replace H9 := hid H9
   clear hG
   refine hK.out _ _ ?_ (fun hld => ?_)
   ·exact Bo.of hB9
   clear hK K
   try simp only [Act.put, Rg.s]
   refine Rg.rd (i := 12) rfl fun K hK => ?_
   refine meet_store_tree (by rfl) H9.out.1 (off := 0) (by decide) p9 ⟨_, _, rfl, rfl, rfl⟩ ?_
   intro w10 hO10 hu10
   have HO10 := hid hO10
   have H10 := hid (H9.out.2 w10 hu10)
   clear hO10
   refine hK.out _ _ ?_ (fun hld => ?_)
   ·exact (Bo.of hB9).upd hu10
   clear hK K
   try simp only [Act.put, Rg.s]
   refine wpAnyH_done (by kernel_rfl) ?_ _
   refine NoPanic.normal ?_
   go_wp2
   exact bodyPost_ret (res_tree rfl _ rfl HO10.out) rfl H10.out
end Tm
end
section
open Go.RowKit
namespace Tm
open Tr Ni Pk Ky
theorem getD_mem {l : List Tr.Pair} {j : Nat} (h : j < l.length) : l.getD j ([], eB) ∈ l := by
 rw [List.getD_eq_getElem?_getD, List.getElem?_eq_getElem h]
 exact List.getElem_mem _
theorem take_at {l : List Tr.Pair} {j : Nat} (h : j < l.length) : l.take (j + 1) = l.take j ++ [l.getD j ([], eB)] := by
 have e : l.getD j ([], eB) = l[j] := by simp [List.getD, h]
 rw [e, List.take_succ_eq_append_getElem h]
theorem enterK (w : World) (k : List UInt8) : ∃ w1, w1 = w.alloc (.cells (kc k) 28) ∧ Rg.Own w1 w.heap.size (kc k) 28 ∧ Below w.heap.size w w1 ∧ w1.heap.size = w.heap.size + 1 := ⟨_, rfl, Rg.Own.new _ _ _, al1 _ _, by simp⟩
def GotOwnP (w : World) (l : List Tr.Pair) (e : Ending) (w' : World) : Prop := ∃ v, e = .returned v ∧ w'.ownsRow w.heap.size 43 33 v l.length (rowP l) ∧ Below w.heap.size w w'
theorem GotOwnP.ps {w w' : World} {l : List Tr.Pair} {e : Ending} (hk : ∀ x ∈ l, x.1.length = 32) (h : GotOwnP w l e w') : GotPs w l e w' := by
 obtain ⟨v, rfl, ho, hb⟩ := h
 obtain ⟨a, cap, rfl, hp⟩ := IsPs.ofOwn hk rfl ho
 exact ⟨a, _, cap, rfl, hp, hb⟩
theorem own_keepN {B n sz : Nat} {w w' : World} {e : TypeId} {v : Value} {xs : List Value} (h : w.ownsRow B e sz v n xs) (hb : Below w.heap.size w w') : w'.ownsRow B e sz v n xs := h.kept (Bu.grown_below hb) (by cases v.ownBlock <;> simp)
theorem meet_lit_pair {o : Oper} {a : Act} {w : World} {K : Act → World → Prop} {Q : Exit → Act → World → Prop} {ops : Array Oper} {x : Tr.Pair} (hk : x.1.length = 32) (hw : Region.wanted o (yielded ops a.tmps) = true)
  (ho : ∃ y, o.op = .buildSlice 26 1 #[(0, y)] ∧ a.eval y = .agg (pairA x))
  (h : ∀ w' b, Rg.Own w' b (pairA x) 43 → Below w.heap.size w w' → K (a.put o.dst (.slice (some ⟨b, 0, none⟩) 1 1)) w') : if Region.wanted o (yielded ops a.tmps) = true then Oper.wp Tryz.prog o a w K Q else K (a.put o.dst undef) w :=
 Rg.meet hw _ _ (op_lit_pair hk _ rfl ho) (h _ _ (Rg.Own.new _ _ _) (al1 _ _))
end Tm
end
section
open Go.RowKit
namespace Tm
open Tr Ni Pk Ky
end Tm
end
section
open Go.RowKit
namespace Tm
open Tr Ni Pk Ky
end Tm
end
section
open Go.RowKit
namespace Tm
open Tr Ni Pk Ky No
theorem rpath_new (k : List UInt8) (hk : k.length = 32) (w : World) :
  Calls Tryz.prog 27 #[.agg (kc k)] w (GotBsF w (pathK k)) := by
 obtain ⟨i0, hi, hz0, hz1, hz2⟩ := info_parts Cc.info_u8
 have HI : Hid (_ ∧ _ ∧ _ ∧ _) := hid ⟨hi, hz0, hz1, hz2⟩
 have hcell : ∀ q, q < 32 → (w.alloc (.cells (kc k) 28)).cell? ⟨w.heap.size, q, none⟩ = some (.int .u8 (k.getD q 0).toNat) := fun q hq => by
  rw [World.cell?_alloc_mark]
  simp [kc, List.getD, hk, hq]
 have HC := hid hcell
 have HPS := hid (fun j hj V hV => pc_snoc k hk j hj V hV)
 have HPL := hid (pathK_length k hk)
 obtain ⟨C, hC⟩ : ∃ C, kc k = C := ⟨_, rfl⟩
 rw [hC] at HC ⊢
 clear hcell hi hz0 hz1 hz2 hC hk
 go_enter Tryz.func27, Tryz.ntmps27
 go_wp2
 go_loopw [3, 4] (fun v i wr => ∃ j : Nat, j ≤ 64 ∧ i = .int .i64 j ∧ Hid (wr.ownsRow (w.heap.size + 1) 5 1 v j (pc k j)) ∧ Below (w.heap.size + 1) (w.alloc (.cells C 28)) wr) (fun _ i _ => 64 - (intOf i).toNat)
 case atStart => exact ⟨0, Nat.zero_le _, rfl, hid (World.ownsRow_nil _ _ _ _), Below.refl _ _⟩
 case round =>
  obtain ⟨j, hj, rfl, HO, hB⟩ := hrel
  by_cases hlt : j < 64
  ·have hc0 := HC.out (j / 2) (by omega)
   have hc : ∀ o : Obj, wr.cell? ⟨w.heap.size, j / 2, none⟩ = some (.int .u8 (k.getD (j / 2) 0).toNat) := fun _ => by
    rw [hB.cell (p := ⟨w.heap.size, j / 2, none⟩) (by simp)]; exact hc0
   have hc := hc (.cells #[] 0)
   have hx := UInt8.toNat_lt (k.getD (j / 2) 0)
   have hsz : w.heap.size + 1 ≤ wr.heap.size := by have := hB.size; simp at this; omega
   by_cases hp : j % 2 = 0
   ·have HV := hid (nib_even k j hp)
    obtain ⟨x, hxe⟩ : ∃ x, (k.getD (j / 2) 0).toNat = x := ⟨_, rfl⟩
    rw [hxe] at hc hx HV
    have HS := hid (HPS.out j hlt ((x : Int) / 16 % 16) (by rw [HV.out]; omega))
    have hp2 : ((j : Int) % 2 == 0) = true := by simp; omega
    clear hc0 hxe hp
    go_wp2_with (at_builtin; refine wpList_append_own _ rfl _ _ 49 rfl (w.heap.size + 1) 5 i0 (.int .u8 0) 1 1 Tryz.underlying49 HI.out.1 HI.out.2.1 HI.out.2.2.1 HI.out.2.2.2 rfl (by decide) _ _ _ rfl (HO.out.alloc _) ⟨wr.heap.size, 0, none⟩ 1 1 [.int .u8 ((x : Int) / 16 % 16)] rfl rfl ?c1 ?c2 ?c3 ?c4 ?c5 ?_)
    case c1 => exact Bu.cell_one_new' _ _ _ _
    case c2 => intro u hu; simp at hu; subst hu; rfl
    case c3 => unfold maxLen; omega
    case c4 => omega
    case c5 => simp; omega
    intro v' w2 hown2 hgrow _
    have hlt' := HO.out.lt
    go_wp2
    go_roundw
    case rel => exact ⟨j + 1, by omega, by go_num, hid (by rw [HS.out]; exact hown2), (hB.alloc hsz _).grown hgrow (by simp; omega) (fun g hg => (hlt' g hg).1)⟩
    case measure => simp [intOf]; omega
   ·have HV := hid (nib_odd k j hp)
    obtain ⟨x, hxe⟩ : ∃ x, (k.getD (j / 2) 0).toNat = x := ⟨_, rfl⟩
    rw [hxe] at hc hx HV
    have HS := hid (HPS.out j hlt ((x : Int) % 16) (by rw [HV.out]; omega))
    have hp2 : ((j : Int) % 2 == 0) = false := by simp; omega
    clear hc0 hxe hp
    go_wp2_with (at_builtin; refine wpList_append_own _ rfl _ _ 49 rfl (w.heap.size + 1) 5 i0 (.int .u8 0) 1 1 Tryz.underlying49 HI.out.1 HI.out.2.1 HI.out.2.2.1 HI.out.2.2.2 rfl (by decide) _ _ _ rfl (HO.out.alloc _) ⟨wr.heap.size, 0, none⟩ 1 1 [.int .u8 ((x : Int) % 16)] rfl rfl ?d1 ?d2 ?d3 ?d4 ?d5 ?_)
    case d1 => exact Bu.cell_one_new' _ _ _ _
    case d2 => intro u hu; simp at hu; subst hu; rfl
    case d3 => unfold maxLen; omega
    case d4 => omega
    case d5 => simp; omega
    intro v' w2 hown2 hgrow _
    have hlt' := HO.out.lt
    go_wp2
    go_roundw
    case rel => exact ⟨j + 1, by omega, by go_num, hid (by rw [HS.out]; exact hown2), (hB.alloc hsz _).grown hgrow (by simp; omega) (fun g hg => (hlt' g hg).1)⟩
    case measure => simp [intOf]; omega
  ·obtain rfl : j = 64 := by omega
   have hO := HO.out
   have e : pc k 64 = (pathK k).map fun x => Value.int .u8 x.toNat := by
    unfold pc; rw [List.take_of_length_le (by rw [HPL.out]; exact Nat.le_refl _)]
   rw [e] at hO
   obtain ⟨a, cap, rfl, hb⟩ := ofOwnF hO
   have HB := hid hb
   have HBe : Hid (Below w.heap.size w wr) := hid (((Below.refl w.heap.size w).alloc (Nat.le_refl _) _).trans (hB.mono (by omega)))
   clear hO e hb
   go_wp2
   go_ret
   exact ⟨a, _, cap, rfl, HB.out.weak (by omega), HBe.out⟩
end Tm
end
section
open Go.RowKit
namespace Tm
open Tr Ni Pk Sm
def sz : T → Nat
 | .nil => 0
 | .leaf _ _ => 1
 | .ext _ t => sz t + 1
 | .br ks => ((List.finRange 16).map fun i => sz (ks i)).sum + 1
 | .stub _ => 1
theorem sum_mem : ∀ (l : List Nat) (x : Nat), x ∈ l → x ≤ l.sum
 | [], _, h => by cases h
 | y :: l, x, h => by
  rw [List.sum_cons]
  rcases List.mem_cons.1 h with rfl | h
  ·omega
  ·have := sum_mem l x h
   omega
theorem sz_kid (ks : Fin 16 → T) (i : Fin 16) : sz (ks i) < sz (.br ks) := by
 have h := sum_mem ((List.finRange 16).map fun i => sz (ks i)) (sz (ks i)) (List.mem_map.2 ⟨i, List.mem_finRange i, rfl⟩)
 show _ < _ + 1
 omega
def NoBP (w : World) (b : Nat) : Prop := (∀ j v, w.cell? ⟨b, j, none⟩ = some v → (∀ x, v ≠ .int .u8 x) ∧ ∀ p, v ≠ .pointer p) ∧ w.cell? ⟨b, 8, none⟩ = none
structure InvN (M : Mp) (n : Nat) (w : World) : Prop where
 lt_ : ∀ k, M.ft k → k < w.heap.size
 part_ : ∀ b t, M.at_ b = some t → t ≠ .nil ∧ M.ft b ∧ NoBP w b ∧ (sz t < n → IsPart M w b t)
structure FrN (M : Mp) (n : Nat) (w w' : World) : Prop where
 os : w'.os = w.os
 tape : w'.tape = w.tape
 output : w'.output = w.output
 size : w.heap.size ≤ w'.heap.size
 block : ∀ k, k < w.heap.size → (M.at_ k = none ∨ ∃ t, M.at_ k = some t ∧ n ≤ sz t) → w'.heap[k]? = w.heap[k]?
theorem part_nobp {w : World} {b : Nat} {t : T} {a : Option Addr} {n c : Nat} {ka : Option Addr} {kn kc : Nat} {d : Int} {r : ByteArray} (h : w.heap[b]? = some (.cells (partC t a n c ka kn kc d r) 94 (0, 0))) : NoBP w b := by
 refine ⟨fun j v hc => part_no (cell_heap h hc), ?_⟩
 rw [World.cell?, h]
 rfl
theorem Inv.toN {M : Mp} {w : World} (h : Inv M w) (n : Nat) : InvN M n w := ⟨h.lt_, fun b t hm => by
 obtain ⟨h1, h2, h3⟩ := h.part_ b t hm
 obtain ⟨a, n, c, ka, kn, kc, d, r, hb, hr⟩ := h3
 exact ⟨h1, h2, part_nobp hb, fun _ => ⟨a, n, c, ka, kn, kc, d, r, hb, hr⟩⟩⟩
theorem InvN.mono {M : Mp} {n m : Nat} {w : World} (h : InvN M n w) (hm : m ≤ n) : InvN M m w := ⟨h.lt_, fun b t e => by
 obtain ⟨h1, h2, h3, h4⟩ := h.part_ b t e
 exact ⟨h1, h2, h3, fun hl => h4 (by omega)⟩⟩
theorem InvN.no_byte {M : Mp} {n : Nat} {w : World} (h : InvN M n w) {b j : Nat} {x : Int} (hc : w.cell? ⟨b, j, none⟩ = some (.int .u8 x)) : M.at_ b = none := by
 cases hm : M.at_ b with
 | none => rfl
 | some t => exact absurd rfl (((h.part_ b t hm).2.2.1.1 _ _ hc).1 x)
theorem InvN.no_ptr {M : Mp} {n : Nat} {w : World} (h : InvN M n w) {b j : Nat} {p : Option Addr} (hc : w.cell? ⟨b, j, none⟩ = some (.pointer p)) : M.at_ b = none := by
 cases hm : M.at_ b with
 | none => rfl
 | some t => exact absurd rfl (((h.part_ b t hm).2.2.1.1 _ _ hc).2 p)
theorem FrN.below (M : Mp) (n : Nat) {w w' : World} (h : Below w.heap.size w w') : FrN M n w w' := ⟨h.os, h.tape, h.output, h.size, fun k hk _ => h.block k hk⟩
theorem FrN.trans {M : Mp} {n : Nat} {w w1 w2 : World} (h : FrN M n w w1) (g : FrN M n w1 w2) : FrN M n w w2 := ⟨g.os.trans h.os, g.tape.trans h.tape, g.output.trans h.output, Nat.le_trans h.size g.size, fun k hk hc => (g.block k (Nat.lt_of_lt_of_le hk h.size) hc).trans (h.block k hk hc)⟩
theorem FrN.mono {M : Mp} {n m : Nat} {w w' : World} (h : FrN M n w w') (hm : n ≤ m) : FrN M m w w' := ⟨h.os, h.tape, h.output, h.size, fun k hk hc => h.block k hk (hc.imp id (fun ⟨t, e, hl⟩ => ⟨t, e, by omega⟩))⟩
theorem FrN.cell {M : Mp} {n : Nat} {w w' : World} (h : FrN M n w w') {b o : Nat} {v : Value} (hc : w.cell? ⟨b, o, none⟩ = some v) (hb : M.at_ b = none ∨ ∃ t, M.at_ b = some t ∧ n ≤ sz t) : w'.cell? ⟨b, o, none⟩ = some v := by
 rw [← hc]
 exact World.cell?_of_block (w := w) (h.block b (World.block_lt_of_cell? w _ hc) hb)
theorem FrN.upd {M : Mp} {n : Nat} {w w1 w' : World} {g : Nat} (h : FrN M n w w1) (hu : Rg.Upd w1 g w') (hg : w.heap.size ≤ g) : FrN M n w w' := ⟨hu.os.trans h.os, hu.tape.trans h.tape, hu.output.trans h.output, by rw [hu.size]; exact h.size, fun k hk hc => (hu.block k (by omega)).trans (h.block k hk hc)⟩
theorem FrN.fr {M : Mp} {n : Nat} {w w' : World} (h : FrN M n w w') : Fr M M w w' := ⟨h.os, h.tape, h.output, h.size, fun k hk hm => h.block k hk (Or.inl hm), fun _ _ h => h, fun _ _ h => h, fun _ h => h, fun _ h => Or.inl h⟩
theorem IsPart.keep {M : Mp} {w w' : World} {b : Nat} {t : T} (h : IsPart M w b t) (hs : w.heap.size ≤ w'.heap.size) (hb : w'.heap[b]? = w.heap[b]?)
  (hk : ∀ k j v, k < w.heap.size → w.cell? ⟨k, j, none⟩ = some v → ((∃ x, v = .int .u8 x) ∨ ∃ p, v = .pointer p) → w'.heap[k]? = w.heap[k]?) : IsPart M w' b t := by
 obtain ⟨a, n, c, ka, kn, kc, d, r, h1, hB, hK, hd⟩ := h
 refine ⟨a, n, c, ka, kn, kc, d, r, hb.trans h1, ⟨⟨hB.1.1, hB.1.2.1, hB.1.2.2.1, hB.1.2.2.2.1, fun j hj => ?_⟩, hB.2⟩, ⟨hK.1, hK.2.1, hK.2.2.1, hK.2.2.2.1, fun j hj => ?_⟩, hd⟩
 ·obtain ⟨b', off, e, hlt, hc⟩ := hB.1.2.2.2.2 j hj
  exact ⟨b', off, e, Nat.lt_of_lt_of_le hlt hs, by rw [World.cell?_of_block (hk b' _ _ hlt hc (Or.inl ⟨_, rfl⟩))]; exact hc⟩
 ·obtain ⟨b', off, p, e, hlt, hf, hc, ht⟩ := hK.at' j hj
  exact ⟨b', off, p, e, Nat.lt_of_lt_of_le hlt hs, hf, by rw [World.cell?_of_block (hk b' _ _ hlt hc (Or.inr ⟨_, rfl⟩))]; exact hc, ht⟩
theorem NoBP.keep {w w' : World} {b : Nat} (h : NoBP w b) (hb : w'.heap[b]? = w.heap[b]?) : NoBP w' b := by
 have hc : ∀ j, w'.cell? ⟨b, j, none⟩ = w.cell? ⟨b, j, none⟩ := fun j => World.cell?_of_block hb
 exact ⟨fun j v h1 => h.1 j v (by rw [← hc j]; exact h1), by rw [hc 8]; exact h.2⟩
theorem InvN.after {M : Mp} {n m : Nat} {w w' : World} (h : InvN M n w) (f : FrN M m w w') (g : InvN M m w') : InvN M n w' := by
 refine ⟨fun k hk => Nat.lt_of_lt_of_le (h.lt_ k hk) f.size, fun b t hm => ?_⟩
 obtain ⟨h1, h2, h3, h4⟩ := h.part_ b t hm
 obtain ⟨_, _, g3, g4⟩ := g.part_ b t hm
 refine ⟨h1, h2, g3, fun hl => ?_⟩
 by_cases e : sz t < m
 ·exact g4 e
 ·refine (h4 hl).keep f.size (f.block b (h.lt_ b h2) (Or.inr ⟨t, hm, by omega⟩)) (fun k j v hlt hc hv => f.block k hlt (Or.inl ?_))
  rcases hv with ⟨x, rfl⟩ | ⟨p, rfl⟩
  ·exact h.no_byte hc
  ·exact h.no_ptr hc
theorem InvN.below {M : Mp} {n : Nat} {w w' : World} (h : InvN M n w) (hb : Below w.heap.size w w') : InvN M n w' := by
 refine ⟨fun k hk => Nat.lt_of_lt_of_le (h.lt_ k hk) hb.size, fun b t hm => ?_⟩
 obtain ⟨h1, h2, h3, h4⟩ := h.part_ b t hm
 have hlt := h.lt_ b h2
 exact ⟨h1, h2, h3.keep (hb.block b hlt), fun hl => (h4 hl).keep hb.size (hb.block b hlt) (fun k j v hk _ _ => hb.block k hk)⟩
theorem InvN.upd {M : Mp} {n : Nat} {w w' : World} {g : Nat} (h : InvN M n w) (hu : Rg.Upd w g w') (hg : ¬ M.ft g) : InvN M n w' := by
 refine ⟨fun k hk => by rw [hu.size]; exact h.lt_ k hk, fun b t hm => ?_⟩
 obtain ⟨h1, h2, h3, h4⟩ := h.part_ b t hm
 have hne : ∀ k, M.ft k → k ≠ g := fun k hk e => hg (by rw [← e]; exact hk)
 refine ⟨h1, h2, h3.keep (hu.block b (hne b h2)), fun hl => ?_⟩
 obtain ⟨a, n, c, ka, kn, kc, d, r, hb, hB, hK, hd⟩ := h4 hl
 refine ⟨a, n, c, ka, kn, kc, d, r, (hu.block b (hne b h2)).trans hb, ⟨⟨hB.1.1, hB.1.2.1, hB.1.2.2.1, hB.1.2.2.2.1, fun j hj => ?_⟩, hB.2⟩, ⟨hK.1, hK.2.1, hK.2.2.1, hK.2.2.2.1, fun j hj => ?_⟩, hd⟩
 ·obtain ⟨b', off, e, hlt, hc⟩ := hB.1.2.2.2.2 j hj
  exact ⟨b', off, e, by rw [hu.size]; exact hlt, by rw [World.cell?_of_block (hu.block b' (hne b' (hB.2 _ e (by omega))))]; exact hc⟩
 ·obtain ⟨b', off, p, e, hlt, hf, hc, ht⟩ := hK.at' j hj
  exact ⟨b', off, p, e, by rw [hu.size]; exact hlt, hf, by rw [World.cell?_of_block (hu.block b' (hne b' hf))]; exact hc, ht⟩
theorem tab_none {M : Mp} {n : Nat} {w : World} (h : InvN M n w) (hT : Tab w) : M.at_ 0 = none := by
 cases hm : M.at_ 0 with
 | none => rfl
 | some t =>
  have h8 := (h.part_ 0 t hm).2.2.1.2
  rw [hT 8 (by omega)] at h8
  cases h8
theorem tab_frN {M : Mp} {n : Nat} {w w' : World} (h : InvN M n w) (f : FrN M n w w') (hT : Tab w) : Tab w' := fun i hi => f.cell (hT i hi) (Or.inl (tab_none h hT))
theorem isBs_frN {M : Mp} {n : Nat} {w w' : World} {a : Option Addr} {k c : Nat} {l : List UInt8} (hi : InvN M n w) (h : IsBs w a k c l) (f : FrN M n w w') : IsBs w' a k c l := by
 refine ⟨h.1, h.2.1, h.2.2.1, h.2.2.2.1, fun j hj => ?_⟩
 obtain ⟨b, off, e, hlt, hc⟩ := h.2.2.2.2 j hj
 exact ⟨b, off, e, Nat.lt_of_lt_of_le hlt f.size, f.cell hc (Or.inl (hi.no_byte hc))⟩
structure Body (M : Mp) (w : World) (b : Nat) (t : T) (a : Option Addr) (n c : Nat) (ka : Option Addr) (kn kc : Nat) : Prop where
 c0 : w.cell? ⟨b, 0, none⟩ = some (.int .i64 (kindT t))
 c1 : w.cell? ⟨b, 1, none⟩ = some (.slice a n c)
 c2 : w.cell? ⟨b, 2, none⟩ = some (.string (valT t))
 c3 : w.cell? ⟨b, 3, none⟩ = some (.slice ka kn kc)
 hb : IsBs w a n c (pathT t)
 hk : Ks M w ka kn kc (partsT t)
theorem IsPart.body {M : Mp} {w : World} {b : Nat} {t : T} (h : IsPart M w b t) : ∃ a n c ka kn kc, Body M w b t a n c ka kn kc := by
 obtain ⟨a, n, c, ka, kn, kc, d, r, hb, hB, hK, _⟩ := h
 obtain ⟨⟨c0, c1, c2, c3⟩, _⟩ := part_cells hb
 exact ⟨a, n, c, ka, kn, kc, c0, c1, c2, c3, hB.1, hK⟩
theorem Ks.frN {M : Mp} {m : Nat} {w w' : World} {a : Option Addr} {n c : Nat} {l : List T} (hi : InvN M m w) (h : Ks M w a n c l) (f : FrN M m w w') : Ks M w' a n c l := by
 refine ⟨h.1, h.2.1, h.2.2.1, h.2.2.2.1, fun j hj => ?_⟩
 obtain ⟨b, off, p, e, hlt, hm, hc, ht⟩ := h.at' j hj
 exact ⟨b, off, p, e, Nat.lt_of_lt_of_le hlt f.size, hm, f.cell hc (Or.inl (hi.no_ptr hc)), ht⟩
theorem Body.frN {M : Mp} {m : Nat} {w w' : World} {b : Nat} {t : T} {a : Option Addr} {n c : Nat} {ka : Option Addr} {kn kc : Nat} (h : Body M w b t a n c ka kn kc) (hi : InvN M m w) (f : FrN M m w w') (hm : M.at_ b = some t) (hl : m ≤ sz t) : Body M w' b t a n c ka kn kc :=
 have e := Or.inr ⟨t, hm, hl⟩
 ⟨f.cell h.c0 e, f.cell h.c1 e, f.cell h.c2 e, f.cell h.c3 e, isBs_frN hi h.hb f, h.hk.frN hi f⟩
theorem Body.below {M : Mp} {w w' : World} {b : Nat} {t : T} {a : Option Addr} {n c : Nat} {ka : Option Addr} {kn kc : Nat} (h : Body M w b t a n c ka kn kc) (hb : Below w.heap.size w w') : Body M w' b t a n c ka kn kc := by
 refine ⟨cell_on hb h.c0, cell_on hb h.c1, cell_on hb h.c2, cell_on hb h.c3, h.hb.below hb, h.hk.1, h.hk.2.1, h.hk.2.2.1, h.hk.2.2.2.1, fun j hj => ?_⟩
 obtain ⟨b', off, p, e, hlt, hm, hc, ht⟩ := h.hk.at' j hj
 exact ⟨b', off, p, e, Nat.lt_of_lt_of_le hlt hb.size, hm, cell_on hb hc, ht⟩
theorem kind_cell (b : Nat) (k : Int) (w : World) (hc : w.cell? ⟨b, 0, none⟩ = some (.int .i64 k)) :
  Calls Tryz.prog 42 #[.agg #[.pointer (some ⟨b, 0, none⟩)]] w fun e w' => e = .returned (.int .i64 k) ∧ Below w.heap.size w w' := by
 have h0 := box_tree w (some ⟨b, 0, none⟩)
 have HE := hid (empty_any (some ⟨b, 0, none⟩) (w.alloc (.cells #[.pointer (some ⟨b, 0, none⟩)] 25)))
 have hk := cell_al (o' := .cells #[.pointer (some ⟨b, 0, none⟩)] 25) hc
 clear hc
 go_enter Tryz.func42, Tryz.ntmps42
 go_wp2_with fail
 refine HE.out.mono ?_
 rintro e w2 ⟨rfl, hb⟩
 have h1 := cell_on hb h0
 have h2 := cell_on hb hk
 clear h0 hk
 go_wp2
 go_ret
 exact ⟨rfl, bst (al1 _ _) hb⟩
end Tm
end
end Go.Proofs.YtgolhnfkmmajpaaGreatDoor
