/-
 The contract of closed: a branch, or what its one tree is by itself.
-/
import Derived.Test.YtgolhnfkmmajpaaGreatDoorMa18
import Derived.Test.YtgolhnfkmmajpaaGreatDoorMa7
import Derived.Maps.AppendAt
import Derived.Test.YtgolhnfkmmajpaaGreatDoorMa4
import Derived.Test.YtgolhnfkmmajpaaGreatDoorMa2
open Go.Lib (hid)
set_option linter.unusedSimpArgs false
set_option linter.unusedVariables false
set_option maxHeartbeats 40000000
set_option maxRecDepth 100000
namespace Go.Proofs.YtgolhnfkmmajpaaGreatDoor
section
open Go.RowKit
namespace Tm
open Tr Ni Pk
theorem path_le {t : T} {L : Nat} (g : Tr.Good t L) : (pathT t).length ≤ L := by
 cases t with
 | leaf p v => exact Nat.le_of_eq g.1
 | ext q s => exact g.2.2.1
 | nil => exact Nat.zero_le _
 | br ks => exact Nat.zero_le _
 | stub r => exact Nat.zero_le _
theorem lifted_any (M : Mp) (b : Nat) (t : T) (hm : M.at_ b = some t) (hs : ¬ IsStub t) (L : Nat) (hg : Tr.Good t L) (a : Option Addr) (n c : Nat) (g : Pa) (hlen : g.length + L ≤ 64) (w : World) (hi : Inv M w) (hB : Bs M w a n c g) :
  Calls Tryz.prog 65 #[.agg #[.pointer (some ⟨b, 0, none⟩)], .slice a n c] w (GotT M w (glue g t)) := by
 have hp := path_le hg
 cases t with
 | nil => exact absurd rfl (hi.part_ b _ hm).1
 | stub r => exact absurd trivial hs
 | leaf q u => exact lifted_leaf M b q u hm a n c g w hi hB (by have : q.length ≤ L := hp; omega)
 | ext q s =>
  have hw : wrap (g ++ q) s = glue g (.ext q s) := if_neg (fun e => hg.1 (List.append_eq_nil_iff.1 e).2)
  rw [← hw]
  exact lifted_ext M b q s hm a n c g w hi hB (by have : q.length ≤ L := hp; omega)
 | br ks => exact lifted_br M b ks hm a n c g w hi hB
theorem own_keep {B n : Nat} {w w' : World} {e : TypeId} {v : Value} {xs : List Value} (h : w.ownsRow B e 1 v n xs) (hb : Below w.heap.size w w') : w'.ownsRow B e 1 v n xs := h.kept (Bu.grown_below hb) (by cases v.ownBlock <;> simp)
def leftL (ks : Fin 16 → T) (j : Nat) : List UInt8 := (((List.finRange 16).take j).filter fun i => !isNil (ks i)).map nibOf
theorem leftL_succ (ks : Fin 16 → T) (j : Nat) (hj : j < 16) : leftL ks (j + 1) = leftL ks j ++ if isNil (ks ⟨j, hj⟩) then [] else [nibOf ⟨j, hj⟩] := by
 unfold leftL
 have e : (List.finRange 16)[j]'(by simpa using hj) = ⟨j, hj⟩ := by simp
 rw [List.take_succ_eq_append_getElem (by simpa using hj), e, List.filter_append, List.map_append]
 congr 1
 cases h : isNil (ks ⟨j, hj⟩) <;> simp [h]
theorem leftL_all (ks : Fin 16 → T) : leftL ks 16 = (kidsOf ks).map nibOf := by
 unfold leftL kidsOf
 rw [List.take_of_length_le (by simp)]
theorem leftL_len (ks : Fin 16 → T) (j : Nat) : (leftL ks j).length ≤ j := by
 unfold leftL
 rw [List.length_map]
 exact Nat.le_trans (List.length_filter_le _ _) (by rw [List.length_take]; exact Nat.min_le_left _ _)
theorem closed_any (M : Mp) (b : Nat) (ks : Fin 16 → T) (hm : M.at_ b = some (.br ks)) (hne : kidsOf ks ≠ []) (L : Nat) (hL : L ≤ 63) (hg : ∀ i, Tr.Good (ks i) L) (hst : ∀ i, ¬ IsStub (ks i)) (w : World) (hi : Inv M w) :
  Calls Tryz.prog 63 #[.agg #[.pointer (some ⟨b, 0, none⟩)]] w (GotT M w (collapse ks)) := by
 obtain ⟨w2, hw2, hO0, hO1, hb2, hs2⟩ := enter2 w (some ⟨b, 0, none⟩)
 have hi2 := hi.below hb2
 obtain ⟨ka, kn, kc, c3, hKs⟩ := hi2.kids hm
 have hkn : kn = 16 := by rw [← hKs.len]; exact parts_br_len ks
 subst hkn
 obtain ⟨kb, ko, p0, rfl, hklt, hkf, hzz⟩ := hKs.at' 0 (by omega)
 clear hzz
 have hkid : ∀ j (hj : j < 16), ∃ p, w2.cell? ⟨kb, ko + j, none⟩ = some (.pointer p) ∧ IsT M p (ks ⟨j, hj⟩) := fun j hj => by
  obtain ⟨b', o', p, e, _, _, hc, ht⟩ := hKs.at' j hj
  obtain ⟨rfl, rfl⟩ : kb = b' ∧ ko = o' := by simpa using e
  refine ⟨p, hc, ?_⟩
  have := parts_br_at ks ⟨j, hj⟩
  rw [this] at ht
  exact ht
 have hkc := hKs.1
 have hkm := hKs.2.1
 unfold maxLen at hkm
 have hbl := hi.lt hm
 have hkbl := hi.lt_ kb hkf
 have h0 := own_cell (j := 0) hO0 rfl
 obtain ⟨i0, hin, hz0, hz1, hz2⟩ := info_parts Cc.info_u8
 have HI : Hid (_ ∧ _ ∧ _ ∧ _) := hid ⟨hin, hz0, hz1, hz2⟩
 have HKid := hid hkid
 have HE : Hid (∀ wr, Below w2.heap.size w2 wr → 2 ≤ (leftL ks 16).length → wr.cell? ⟨w.heap.size, 0, none⟩ = some (.pointer (some ⟨b, 0, none⟩)) ∧ Rg.Own wr (w.heap.size + 1) #[.pointer none] 25 ∧ ∀ w10, Rg.Upd wr (w.heap.size + 1) w10 → GotT M w (collapse ks) (.returned (tv (some ⟨b, 0, none⟩))) w10) := hid (fun wr hbr h2 => by
  refine ⟨cell_on hbr h0, hO1.below hbr, fun w10 hu => ?_⟩
  have : collapse ks = .br ks := by
   rw [leftL_all, List.length_map] at h2
   unfold collapse
   match hk : kidsOf ks, h2 with
   | _ :: _ :: _, _ => rfl
  rw [this]
  exact got_old hi (isT_at hi hm) (hu.below (bst hb2 hbr) (by omega)))
 have HF1 : Hid (∀ wr, Below w2.heap.size w2 wr → ∀ a n c, IsBs wr a n c (leftL ks 16) → n < 2 → ∃ (i : Fin 16) (b1 o1 : Nat) (p : Option Addr), n = 1 ∧ a = some ⟨b1, o1, none⟩ ∧ b1 < wr.heap.size ∧ b1 ≠ w.heap.size + 1 ∧ wr.cell? ⟨b1, o1, none⟩ = some (.int .u8 i.val) ∧ wr.cell? ⟨kb, ko + i.val, none⟩ = some (.pointer p) ∧
   wr.cell? ⟨w.heap.size, 0, none⟩ = some (.pointer (some ⟨b, 0, none⟩)) ∧ wr.cell? ⟨b, 3, none⟩ = some (.slice (some ⟨kb, ko, none⟩) 16 kc) ∧ ∃ M1, Calls Tryz.prog 65 #[.agg #[.pointer p], .slice a n c] wr.drew (GotT M1 wr.drew (collapse ks)) ∧
   ∀ e w9, GotT M1 wr.drew (collapse ks) e w9 → ∃ p, e = .returned (tv p) ∧ Below wr.heap.size wr w9 ∧ Rg.Own w9 (w.heap.size + 1) #[.pointer none] 25 ∧ ∀ w10, Rg.Upd w9 (w.heap.size + 1) w10 → GotT M w (collapse ks) (.returned (tv p)) w10) := hid (fun wr hbr a n c hx hn => by
  have hxl := hx.len
  have hOr := hO1.below hbr
  rw [leftL_all] at hx hxl
  rw [List.length_map] at hxl
  match hk : kidsOf ks, hne with
  | [i], _ =>
   rw [hk] at hxl hx
   have hn1 : n = 1 := hxl.symm
   subst hn1
   obtain ⟨b1, o1, rfl, hlt1, hc1⟩ := hx.at' 0 (by omega)
   have hc1' : wr.cell? ⟨b1, o1, none⟩ = some (.int .u8 i.val) := by
    rw [Nat.add_zero] at hc1
    rw [hc1, show (List.map nibOf [i]).getD 0 0 = nibOf i from rfl, nibOf_toNat]
   have hne1 : b1 ≠ w.heap.size + 1 := by
    rintro rfl
    exact no_byte hOr (one_no _) ⟨_, _, hc1'⟩
   obtain ⟨p, hcp, htp⟩ := hkid i.val i.isLt
   have hne_i : ks i ≠ .nil := mem_kidsOf.1 (by rw [hk]; exact List.mem_cons_self)
   have hcol : collapse ks = glue [nibOf i] (ks i) := by
    unfold collapse
    rw [hk]
   refine ⟨i, b1, o1, p, rfl, rfl, hlt1, hne1, hc1', cell_on hbr hcp, cell_on hbr h0, cell_on hbr c3, plus M (inS (some ⟨b1, o1, none⟩) 1), ?_, fun e w9 hG => ?_⟩
   ·obtain ⟨b2, rfl, hm2⟩ := htp.at_ hne_i
    have hbd : Below w.heap.size w wr.drew := (bst hb2 hbr).drew
    have hxd : IsBs wr.drew (some ⟨b1, o1, none⟩) 1 c [nibOf i] := hx
    rw [hcol]
    exact lifted_any (plus M (inS (some ⟨b1, o1, none⟩) 1)) b2 (ks i) hm2 (hst i) L (hg i) _ _ _ [nibOf i] (show 1 + L ≤ 64 by omega) wr.drew ((hi.below hbd).plus (fun k hk => (inS_byte hxd hk).2)) (Bs.in_ hxd)
   ·have hbd : Below w.heap.size w wr.drew := (bst hb2 hbr).drew
    have hxd : IsBs wr.drew (some ⟨b1, o1, none⟩) 1 c [nibOf i] := hx
    have hb9 : Below wr.heap.size wr w9 := by
     obtain ⟨_, _, _, _, _, _, h⟩ := hG
     exact bst (below_drewN (Below.refl _ _) 1) h
    obtain ⟨p9, he, hO9, hE⟩ := finish hi ((Fr.below M hbd).plus (fun k hk => (inS_byte hxd hk).1.below hbd)) hbd hG (hOr.drew) (one_no _) (by omega) (fun h => h.elim (hi.free (by omega)) (fun h => no_byte hOr (one_no _) (inS_byte hxd h).1))
    exact ⟨p9, he, hb9, hO9, hE⟩
  | i :: j :: r, _ =>
   rw [hk] at hxl
   simp at hxl
   omega)
 have HS2 : Hid (w2.heap.size = w.heap.size + 2) := hid hs2
 have HW2 : Hid (_ = _) := hid hw2
 have hlt2 : w.heap.size < w2.heap.size := by omega
 have h0' := h0
 have c3' := c3
 rw [hw2] at h0' c3'
 obtain ⟨R, hR⟩ : ∃ R, collapse ks = R := ⟨_, rfl⟩
 rw [hR] at HE HF1 ⊢
 clear hO0 hO1 hb2 hs2 hi hi2 hm hKs hg hst hne hin hz0 hz1 hz2 hw2 hkid hR hkf hklt
 go_enter Tryz.func63, Tryz.ntmps63
 go_wp2_with (refine Rg.run rfl _ _ (run_alloc_tree _ _ _ (w.heap.size + 1) (by simp) rfl) ?_)
 rw [← HW2.out]
 clear h0' c3'
 go_loopw [3, 12] (fun v i wr => ∃ j : Nat, j ≤ 16 ∧ i = .int .i64 j ∧ Hid (wr.ownsRow w2.heap.size 5 1 v (leftL ks j).length ((leftL ks j).map fun x => Value.int .u8 x.toNat)) ∧ Hid (Below w2.heap.size w2 wr)) (fun _ i _ => 16 - (intOf i).toNat)
 case atStart => exact ⟨0, Nat.zero_le _, rfl, hid (World.ownsRow_nil _ _ _ _), hid (Below.refl _ _)⟩
 case round =>
  obtain ⟨j, hj, rfl, HR, HB⟩ := hrel
  have hsz : w2.heap.size ≤ wr.heap.size := HB.out.size
  by_cases hlt : j < 16
  ·obtain ⟨p, hcp, htp⟩ := HKid.out j hlt
   have hS := leftL_succ ks j hlt
   have hll := leftL_len ks j
   have hkj := cell_on HB.out hcp
   have hniliff := htp.nil_iff
   have hw8 : IntKind.u8.wrap (j : Int) = (j : Int) := by have h8 : IntKind.u8.bits = 8 := rfl; have h9 : IntKind.u8.signed = false := rfl; simp only [IntKind.wrap, h8, h9, Bool.false_and, Bool.false_eq_true, if_false]; omega
   have hnb : (nibOf ⟨j, hlt⟩).toNat = j := nibOf_toNat ⟨j, hlt⟩
   have HEm := hid (fun wx => empty_any p wx)
   have hNew := Rg.Own.new wr #[.pointer none] 25
   have HN := hid hNew
   clear hcp htp hNew h0 c3
   cases hnil : isNil (ks ⟨j, hlt⟩) with
   | true =>
    obtain rfl : p = none := hniliff.2 (isNil_iff.1 hnil)
    rw [hnil, if_pos rfl, List.append_nil] at hS
    rw [← hS] at HR
    clear hS hniliff hnil
    go_wp2_with (first
     | (refine Rg.run rfl _ _ (op_load_tree hkj ⟨_, rfl, rfl⟩) ?_)
     | (refine Rg.run rfl _ _ (run_alloc_tree _ _ _ wr.heap.size rfl rfl) ?_)
     | (refine wpl_store_tree HN.out (by decide) none rfl _ _ rfl rfl rfl ?_; intro w5 hO5 hu5; have HO5 := hid hO5; have HB5 : Hid (Below wr.heap.size wr w5) := hid (hu5.below (al1 _ _) (Nat.le_refl _)); clear hO5 hu5)
     | (refine Rg.run rfl _ _ (op_load_tree (own_cell (j := 0) HO5.out rfl) ⟨_, rfl, rfl⟩) ?_))
    refine (HEm.out _).mono ?_
    rintro e w6 ⟨rfl, hb6⟩
    have HB6 : Hid (Below wr.heap.size wr w6) := hid (bst HB5.out hb6)
    have HR6 := hid (own_keep HR.out HB6.out)
    clear hb6 HB5 HO5 HR
    go_wp2
    go_roundw
    case rel => exact ⟨j + 1, by omega, by go_num, HR6, hid (below_step HB.out HB6.out (Nat.le_refl _))⟩
    case measure => simp [intOf]; omega
   | false =>
    rw [hnil, if_neg (by decide)] at hS
    have hpn : p ≠ none := fun e => by
     rw [isNil_iff.2 (hniliff.1 e)] at hnil
     cases hnil
    obtain ⟨ad, rfl⟩ := Option.ne_none_iff_exists'.1 hpn
    have HS := hid hS
    clear hS hniliff hnil hpn
    go_wp2_with (first
     | (refine Rg.run rfl _ _ (op_load_tree hkj ⟨_, rfl, rfl⟩) ?_)
     | (refine Rg.run rfl _ _ (run_alloc_tree _ _ _ wr.heap.size rfl rfl) ?_)
     | (refine wpl_store_tree HN.out (by decide) (some ad) rfl _ _ rfl rfl rfl ?_; intro w5 hO5 hu5; have HO5 := hid hO5; have HB5 : Hid (Below wr.heap.size wr w5) := hid (hu5.below (al1 _ _) (Nat.le_refl _)); clear hO5 hu5)
     | (refine Rg.run rfl _ _ (op_load_tree (own_cell (j := 0) HO5.out rfl) ⟨_, rfl, rfl⟩) ?_))
    refine (HEm.out _).mono ?_
    rintro e w6 ⟨rfl, hb6⟩
    have HB6 : Hid (Below wr.heap.size wr w6) := hid (bst HB5.out hb6)
    have HR6 := hid (own_keep HR.out HB6.out)
    have HB26 : Hid (Below w2.heap.size w2 w6) := hid (below_step HB.out HB6.out (Nat.le_refl _))
    clear hb6 HB5 HO5 HR
    go_wp2_with (at_builtin; refine wpList_append_own _ rfl _ _ 49 rfl w2.heap.size 5 i0 (.int .u8 0) 1 1 Tryz.underlying49 HI.out.1 HI.out.2.1 HI.out.2.2.1 HI.out.2.2.2 rfl (by decide) _ _ _ rfl (HR6.out.alloc _) ⟨w6.heap.size, 0, none⟩ 1 1 [.int .u8 j] rfl rfl ?d1 ?d2 ?d3 ?d4 ?d5 ?_)
    case d1 => exact Bu.cell_one_new' _ _ _ _
    case d2 => intro u hu; simp at hu; subst hu; rfl
    case d3 => unfold maxLen; omega
    case d4 => omega
    case d5 => have := HB26.out.size; simp; omega
    intro v' w7 hown7 hgrow _
    have hlt' := HR6.out.lt
    go_wp2
    go_roundw
    case rel => exact ⟨j + 1, by omega, by go_num, hid (by rw [HS.out, List.length_append, List.map_append, List.map_cons, List.map_nil, hnb]; exact hown7), hid ((HB26.out.alloc HB26.out.size _).grown hgrow (by have := HB26.out.size; simp; omega) (fun g hg => (hlt' g hg).1))⟩
    case measure => simp [intOf]; omega
  ·obtain rfl : j = 16 := by omega
   obtain ⟨a', cap', rfl, hbs⟩ := IsBs.ofOwn HR.out
   obtain ⟨n, hn⟩ : ∃ n, (leftL ks 16).length = n := ⟨_, rfl⟩
   have hn16 : n ≤ 16 := by rw [← hn]; exact leftL_len ks 16
   have hc1 := hbs.1
   have hc2 := hbs.2.1
   unfold maxLen at hc2
   by_cases h2 : 2 ≤ n
   ·obtain ⟨e0, hO, hE⟩ := HE.out wr HB.out (by rw [hn]; exact h2)
    rw [hn] at hbs ⊢
    have HO := hid hO
    have HEE := hid hE
    have hg2 : decide ((1 : Int) < (n : Int)) = true := by simp; omega
    have hg3 : (1 : Int) < (n : Int) := by omega
    clear hO hE HE HF1 HR hbs HKid h0 c3
    go_wp2_with (first
     | (refine Rg.run rfl _ _ (op_load_tree e0 ⟨_, rfl, rfl⟩) ?_)
     | (refine wpl_store_tree HO.out (by decide) (some ⟨b, 0, none⟩) rfl _ _ rfl rfl rfl ?_; intro w10 hO10 hu10; have HO10 := hid hO10; have HU10 := hid hu10; clear hO10 hu10))
    exact bodyPost_ret (res_tree rfl _ rfl HO10.out) rfl (HEE.out w10 HU10.out)
   rw [hn] at hbs ⊢
   obtain ⟨i, b1, o1, p, rfl, rfl, hb1l, hne1, eb, ek, e0, e3, M1, HC, HF⟩ := HF1.out wr HB.out a' n cap' hbs (by omega)
   replace HC := hid HC
   replace HF := hid HF
   have hx16 : i.val < 16 := i.isLt
   have hxi : ((i.val : Nat) : Int) < 16 := by omega
   obtain ⟨x, hx⟩ : ∃ x, i.val = x := ⟨_, rfl⟩
   rw [hx] at hx16 hxi eb ek
   have hn1 : 0 < 1 := Nat.one_pos
   clear hx HE HF1 HR hbs HKid h0 c3
   go_wp2_with fail
   refine wp_region_noPanic ?_
   refine wp_region_held_drew (S := fun w' => Bo (w.heap.size + 1) wr w') (by kernel_rfl) (Bo.of (below_drewN (Below.refl _ _) 1)) (fun hld => ?_)
   refine Rg.tk (i := 0) rfl ?_
   try simp only [Act.put, Rg.s]
   refine Rg.tk (i := 1) rfl ?_ (hy := by intro wz hSw; have hcc := cell_bo hSw (by omega) e0; (try dsimp only at hSw); go_simp <;> with_reducible rfl)
   try simp only [Act.put, Rg.s]
   refine Rg.tk (i := 2) rfl ?_
   try simp only [Act.put, Rg.s]
   refine Rg.tk (i := 3) rfl ?_
   try simp only [Act.put, Rg.s]
   refine Rg.tk (i := 4) rfl ?_ (hy := by intro wz hSw; have hcc := cell_bo hSw (by omega) e3; (try dsimp only at hSw); go_simp <;> with_reducible rfl)
   try simp only [Act.put, Rg.s]
   refine Rg.tk (i := 5) rfl ?_
   try simp only [Act.put, Rg.s]
   refine Rg.tk (i := 6) rfl ?_ (hy := by intro wz hSw; (have q0 := hn1; go_simp <;> with_reducible rfl))
   try simp only [Act.put, Rg.s]
   refine Rg.tk (i := 7) rfl ?_ (hy := by intro wz hSw; have hcc := cell_bo hSw (by omega) eb; (try dsimp only at hSw); go_simp <;> with_reducible rfl)
   try simp only [Act.put, Rg.s]
   refine Rg.tk (i := 8) rfl ?_ (hy := by intro wz hSw; (have q0 := hxi; have q1 := hx16; go_simp <;> with_reducible rfl))
   try simp only [Act.put, Rg.s]
   refine Rg.tk (i := 9) rfl ?_ (hy := by intro wz hSw; (refine op_load_tree (cell_bo hSw (by omega) ek) ?_; exact ⟨_, rfl, rfl⟩))
   try simp only [Act.put, Rg.s]
   refine Rg.tk (i := 10) rfl ?_
   try simp only [Act.put, Rg.s]
   refine Rg.rd (i := 11) rfl fun K hK => ?_
   go_simp
   go_at_call 65
   (with_reducible refine HC.out.mono ?_)
   intro e w9 hG
   obtain ⟨p9, rfl, hB9, H9⟩ := HF.out e w9 hG
   replace H9 := hid H9
   clear hG
   refine hK.out _ _ ?_ (fun hld => ?_)
   ·exact Bo.of hB9
   clear hK K
   try simp only [Act.put, Rg.s]
   refine Rg.rd (i := 12) rfl fun K hK => ?_
   refine meet_store_tree (by rfl) H9.out.1 (off := 0) (by decide) p9 ⟨_, _, rfl, rfl, rfl⟩ ?_
   intro w10 hO10 hu10
   have HO10 := hid hO10
   have H10 := hid (H9.out.2 w10 hu10)
   clear hO10
   refine hK.out _ _ ?_ (fun hld => ?_)
   ·exact (Bo.of hB9).upd hu10
   clear hK K
   try simp only [Act.put, Rg.s]
   refine wpAnyH_done (by kernel_rfl) ?_ _
   refine NoPanic.normal ?_
   go_wp2
   exact bodyPost_ret (res_tree rfl _ rfl HO10.out) rfl H10.out
end Tm
end
section
open Go.RowKit
namespace Tm
open Tr Ni Pk Ky
theorem getD_mem {l : List Tr.Pair} {j : Nat} (h : j < l.length) : l.getD j ([], eB) ∈ l := by
 rw [List.getD_eq_getElem?_getD, List.getElem?_eq_getElem h]
 exact List.getElem_mem _
theorem drop_at {l : List Tr.Pair} {j : Nat} (h : j < l.length) : l.drop j = l.getD j ([], eB) :: l.drop (j + 1) := by
 have e : l.getD j ([], eB) = l[j] := by simp [List.getD, h]
 rw [e]
 exact (List.getElem_cons_drop h).symm
theorem take_at {l : List Tr.Pair} {j : Nat} (h : j < l.length) : l.take (j + 1) = l.take j ++ [l.getD j ([], eB)] := by
 have e : l.getD j ([], eB) = l[j] := by simp [List.getD, h]
 rw [e, List.take_succ_eq_append_getElem h]
def findV : Option ByteArray → Value
 | none => .tuple #[.string eB, .bool false]
 | some v => .tuple #[.string v, .bool true]
theorem enterK (w : World) (k : List UInt8) : ∃ w1, w1 = w.alloc (.cells (kc k) 28) ∧ Rg.Own w1 w.heap.size (kc k) 28 ∧ Below w.heap.size w w1 ∧ w1.heap.size = w.heap.size + 1 := ⟨_, rfl, Rg.Own.new _ _ _, al1 _ _, by simp⟩
theorem rfind_any (l : List Tr.Pair) (a : Option Addr) (n c : Nat) (k : List UInt8) (hk : k.length = 32) (w : World) (h : IsPs w a n c l) (hn : n ≤ 1000000) :
  Calls Tryz.prog 8 #[.slice a n c, .agg (kc k)] w fun e w' => e = .returned (findV (firstL l k)) ∧ Below w.heap.size w w' := by
 obtain ⟨w1, hw1, hO1, hb1, hs1⟩ := enterK w k
 have HH := hid (h.below hb1)
 have HL := hid h.len
 have HO := hid hO1
 have HK := hid hk
 have HB1 := hid hb1
 have HW : Hid (_ = _) := hid hw1
 have hcap := h.1
 have hmx := h.2.1
 unfold maxLen at hmx
 obtain ⟨C, hC⟩ : ∃ C, kc k = C := ⟨_, rfl⟩
 have HC := hid hC
 rw [hC] at HW ⊢
 clear h hO1 hk hb1 hw1 hC
 go_enter Tryz.func8, Tryz.ntmps8
 go_wp2_with fail
 rw [← HW.out]
 clear HW
 go_loopw [6] (fun i wr => ∃ j : Nat, j ≤ n ∧ i = .int .i64 j ∧ Hid (firstL l k = firstL (l.drop j) k) ∧ Hid (Below w1.heap.size w1 wr)) (fun i _ => n - (intOf i).toNat)
 case atStart => exact ⟨0, Nat.zero_le _, rfl, hid rfl, hid (Below.refl _ _)⟩
 case round =>
  obtain ⟨j, hj, rfl, HF, HB⟩ := hrel
  by_cases hlt : j < n
  ·obtain ⟨b, off, rfl, hblt, hpa, hkx⟩ := HH.out.at' j hlt
   have hji : (j : Int) < n := by omega
   have HD : Hid (l.drop j = l.getD j ([], eB) :: l.drop (j + 1)) := hid (drop_at (by rw [HL.out]; exact hlt))
   have HPr := hid (hpa.below HB.out)
   have HBx := hid (HO.out.below HB.out)
   obtain ⟨x, hx⟩ : ∃ x, l.getD j ([], eB) = x := ⟨_, rfl⟩
   rw [hx] at HPr HD hkx
   have HKx := hid hkx
   clear hpa hx hkx
   by_cases he : x.1 = k
   ·have HR : Hid (firstL l k = some x.2) := hid (by rw [HF.out, HD.out]; unfold firstL; rw [if_pos he])
    have HEd := hid (decide_eq_true he)
    have hv := HPr.out.val HKx.out
    obtain ⟨v, hvv⟩ : ∃ v, x.2 = v := ⟨_, rfl⟩
    rw [hvv] at hv HR
    clear he hvv HD HF
    go_wp2_with fail
    refine wp_region_noPanic ?_
    refine wp_region_held_drew (S := fun w' => Below wr.heap.size wr w') (by kernel_rfl) ((below_drewN (Below.refl _ _) 1)) (fun hld => ?_)
    refine Rg.tk (i := 0) rfl ?_
    try simp only [Act.put, Rg.s]
    refine Rg.tk (i := 1) rfl ?_
    try simp only [Act.put, Rg.s]
    refine Rg.tk (i := 2) rfl ?_ (hy := by intro wz hSw; (have q0 := hji; have q1 := hlt; go_simp <;> with_reducible rfl))
    try simp only [Act.put, Rg.s]
    refine Rg.tk (i := 3) rfl ?_
    try simp only [Act.put, Rg.s]
    refine Rg.tk (i := 4) rfl ?_ (hy := by intro wz hSw; (refine op_load_key_mid HKx.out (HPr.out.below hSw).key ?_; exact ⟨_, rfl, rfl⟩))
    try simp only [Act.put, Rg.s]
    refine Rg.tk (i := 5) rfl ?_ (hy := by intro wz hSw; (refine op_load_key HK.out (HBx.out.below hSw).2 ?_; exact ⟨_, rfl, rfl⟩))
    try simp only [Act.put, Rg.s]
    refine Rg.tk (i := 6) rfl ?_ (hy := by intro wz hSw; (refine op_eql_keys HKx.out HK.out ?_; exact ⟨_, _, _, rfl, rfl, rfl⟩))
    try simp only [Act.put, Rg.s]
    refine wpAnyH_done (by kernel_rfl) ?_ _
    refine NoPanic.normal ?_
    have HB5 : Hid (Below w1.heap.size w1 wr.drew) := hid (HB.out.drew)
    clear hld
    rw [HEd.out]
    have hv' : wr.drew.cell? ⟨b, off + j * 33 + 32, none⟩ = some (.string v) := hv
    clear hv
    go_wp2
    exact bodyPost_ret (results_tmp2 rfl _ _ _) rfl ⟨by rw [HR.out]; rfl, bst HB1.out HB5.out⟩
   ·have HF' : Hid (firstL l k = firstL (l.drop (j + 1)) k) := hid (by rw [HF.out, HD.out, firstL, if_neg he])
    have HEd := hid (decide_eq_false he)
    clear he HD HF
    go_wp2_with fail
    refine wp_region_noPanic ?_
    refine wp_region_held_drew (S := fun w' => Below wr.heap.size wr w') (by kernel_rfl) ((below_drewN (Below.refl _ _) 1)) (fun hld => ?_)
    refine Rg.tk (i := 0) rfl ?_
    try simp only [Act.put, Rg.s]
    refine Rg.tk (i := 1) rfl ?_
    try simp only [Act.put, Rg.s]
    refine Rg.tk (i := 2) rfl ?_ (hy := by intro wz hSw; (have q0 := hji; have q1 := hlt; go_simp <;> with_reducible rfl))
    try simp only [Act.put, Rg.s]
    refine Rg.tk (i := 3) rfl ?_
    try simp only [Act.put, Rg.s]
    refine Rg.tk (i := 4) rfl ?_ (hy := by intro wz hSw; (refine op_load_key_mid HKx.out (HPr.out.below hSw).key ?_; exact ⟨_, rfl, rfl⟩))
    try simp only [Act.put, Rg.s]
    refine Rg.tk (i := 5) rfl ?_ (hy := by intro wz hSw; (refine op_load_key HK.out (HBx.out.below hSw).2 ?_; exact ⟨_, rfl, rfl⟩))
    try simp only [Act.put, Rg.s]
    refine Rg.tk (i := 6) rfl ?_ (hy := by intro wz hSw; (refine op_eql_keys HKx.out HK.out ?_; exact ⟨_, _, _, rfl, rfl, rfl⟩))
    try simp only [Act.put, Rg.s]
    refine wpAnyH_done (by kernel_rfl) ?_ _
    refine NoPanic.normal ?_
    have HB5 : Hid (Below w1.heap.size w1 wr.drew) := hid (HB.out.drew)
    clear hld
    rw [HEd.out]
    go_wp2
    go_roundw
    case rel => exact ⟨j + 1, by omega, by go_num, HF', HB5⟩
    case measure => simp [intOf]; omega
  ·obtain rfl : j = n := by omega
   have HR : Hid (firstL l k = none) := hid (by rw [HF.out, List.drop_of_length_le (by rw [HL.out]; exact Nat.le_refl _)]; rfl)
   go_wp2
   exact bodyPost_ret (results_tmp2 rfl _ _ _) rfl ⟨by rw [HR.out]; rfl, bst HB1.out HB.out⟩
def GotOwnP (w : World) (l : List Tr.Pair) (e : Ending) (w' : World) : Prop := ∃ v, e = .returned v ∧ w'.ownsRow w.heap.size 43 33 v l.length (rowP l) ∧ Below w.heap.size w w'
theorem GotOwnP.ps {w w' : World} {l : List Tr.Pair} {e : Ending} (hk : ∀ x ∈ l, x.1.length = 32) (h : GotOwnP w l e w') : GotPs w l e w' := by
 obtain ⟨v, rfl, ho, hb⟩ := h
 obtain ⟨a, cap, rfl, hp⟩ := IsPs.ofOwn hk rfl ho
 exact ⟨a, _, cap, rfl, hp, hb⟩
theorem own_keepN {B n sz : Nat} {w w' : World} {e : TypeId} {v : Value} {xs : List Value} (h : w.ownsRow B e sz v n xs) (hb : Below w.heap.size w w') : w'.ownsRow B e sz v n xs := h.kept (Bu.grown_below hb) (by cases v.ownBlock <;> simp)
theorem own_mono {B B' n sz : Nat} {w : World} {e : TypeId} {v : Value} {xs : List Value} (h : w.ownsRow B e sz v n xs) (hb : B' ≤ B) : w.ownsRow B' e sz v n xs := by
 refine ⟨h.1, ?_⟩
 rcases h.2 with h | ⟨g, cap, cur, h1, h2, h3⟩
 ·exact .inl h
 ·exact .inr ⟨g, cap, cur, h1, Nat.le_trans hb h2, h3⟩
theorem without_take {l : List Tr.Pair} {k : Tr.Key} {j : Nat} (h : j < l.length) : withoutL (l.take (j + 1)) k = withoutL (l.take j) k ++ if (l.getD j ([], eB)).1 = k then [] else [l.getD j ([], eB)] := by
 rw [take_at h]
 unfold withoutL
 rw [List.filter_append]
 congr 1
 generalize l.getD j ([], eB) = x
 by_cases e : x.1 = k
 ·rw [if_pos e, List.filter_cons_of_neg (by simp [e]), List.filter_nil]
 ·rw [if_neg e, List.filter_cons_of_pos (by simp [e]), List.filter_nil]
theorem without_len (l : List Tr.Pair) (k : Tr.Key) (j : Nat) : (withoutL (l.take j) k).length ≤ j := by
 unfold withoutL
 exact Nat.le_trans (List.length_filter_le _ _) (by rw [List.length_take]; exact Nat.min_le_left _ _)
theorem rwithout_own (l : List Tr.Pair) (a : Option Addr) (n c : Nat) (k : List UInt8) (hk : k.length = 32) (w : World) (h : IsPs w a n c l) (hn : n ≤ 1000000) :
  Calls Tryz.prog 11 #[.slice a n c, .agg (kc k)] w (GotOwnP w (withoutL l k)) := by
 obtain ⟨w1, hw1, hO1, hb1, hs1⟩ := enterK w k
 obtain ⟨i0, z0, hi, hz, hsz, hby, hzc⟩ := info_pair_parts
 have HI : Hid (_ ∧ _ ∧ _ ∧ _ ∧ _) := hid ⟨hi, hz, hsz, hby, hzc⟩
 have HH := hid (h.below hb1)
 have HL := hid h.len
 have HO := hid hO1
 have HK := hid hk
 have HB1 := hid hb1
 have HW : Hid (_ = _) := hid hw1
 have hcap := h.1
 have hmx := h.2.1
 unfold maxLen at hmx
 obtain ⟨C, hC⟩ : ∃ C, kc k = C := ⟨_, rfl⟩
 have HC := hid hC
 rw [hC] at HW ⊢
 clear h hO1 hk hb1 hw1 hC hi hz hsz hby hzc
 go_enter Tryz.func11, Tryz.ntmps11
 go_wp2_with fail
 rw [← HW.out]
 clear HW
 go_loopw [5, 6] (fun v i wr => ∃ j : Nat, j ≤ n ∧ i = .int .i64 j ∧ Hid (wr.ownsRow w1.heap.size 43 33 v (withoutL (l.take j) k).length (rowP (withoutL (l.take j) k))) ∧ Hid (Below w1.heap.size w1 wr)) (fun _ i _ => n - (intOf i).toNat)
 case atStart => exact ⟨0, Nat.zero_le _, rfl, hid (World.ownsRow_nil _ _ _ _), hid (Below.refl _ _)⟩
 case round =>
  obtain ⟨j, hj, rfl, HR, HB⟩ := hrel
  have hszr := HB.out.size
  by_cases hlt : j < n
  ·obtain ⟨b, off, rfl, hblt, hpa, hkx⟩ := HH.out.at' j hlt
   have hji : (j : Int) < n := by omega
   have HD := hid (without_take (k := k) (show j < l.length by rw [HL.out]; exact hlt))
   have hwl := without_len l k j
   have HPr := hid (hpa.below HB.out)
   have HBx := hid (HO.out.below HB.out)
   obtain ⟨x, hx⟩ : ∃ x, l.getD j ([], eB) = x := ⟨_, rfl⟩
   rw [hx] at HPr HD hkx
   have HKx := hid hkx
   obtain ⟨W, hWW⟩ : ∃ W, withoutL (l.take j) k = W := ⟨_, rfl⟩
   rw [hWW] at HR HD hwl
   clear hpa hx hkx hWW
   by_cases he : x.1 = k
   ·have HS : Hid (withoutL (l.take (j + 1)) k = W) := hid (by rw [HD.out, if_pos he, List.append_nil])
    have HEd : Hid ((!decide (x.1 = k)) = false) := hid (by simp [he])
    clear he HD
    go_wp2_with fail
    refine wp_region_noPanic ?_
    refine wp_region_held_drew (S := fun w' => Below wr.heap.size wr w') (by kernel_rfl) ((below_drewN (Below.refl _ _) 1)) (fun hld => ?_)
    refine Rg.tk (i := 0) rfl ?_
    try simp only [Act.put, Rg.s]
    refine Rg.tk (i := 1) rfl ?_
    try simp only [Act.put, Rg.s]
    refine Rg.tk (i := 2) rfl ?_ (hy := by intro wz hSw; (have q0 := hji; have q1 := hlt; go_simp <;> with_reducible rfl))
    try simp only [Act.put, Rg.s]
    refine Rg.tk (i := 3) rfl ?_
    try simp only [Act.put, Rg.s]
    refine Rg.tk (i := 4) rfl ?_ (hy := by intro wz hSw; (refine op_load_key_mid HKx.out (HPr.out.below hSw).key ?_; exact ⟨_, rfl, rfl⟩))
    try simp only [Act.put, Rg.s]
    refine Rg.tk (i := 5) rfl ?_ (hy := by intro wz hSw; (refine op_load_key HK.out (HBx.out.below hSw).2 ?_; exact ⟨_, rfl, rfl⟩))
    try simp only [Act.put, Rg.s]
    refine Rg.tk (i := 6) rfl ?_ (hy := by intro wz hSw; (refine op_neq_keys HKx.out HK.out ?_; exact ⟨_, _, _, rfl, rfl, rfl⟩))
    try simp only [Act.put, Rg.s]
    refine wpAnyH_done (by kernel_rfl) ?_ _
    refine NoPanic.normal ?_
    have HB5 : Hid (Below w1.heap.size w1 wr.drew) := hid (HB.out.drew)
    clear hld
    rw [HEd.out]
    go_wp2
    go_roundw
    case rel => exact ⟨j + 1, by omega, by go_num, by rw [HS.out]; exact hid (own_keepN HR.out (below_drewN (Below.refl _ _) 1)), HB5⟩
    case measure => simp [intOf]; omega
   ·have HS : Hid (withoutL (l.take (j + 1)) k = W ++ [x]) := hid (by rw [HD.out, if_neg he])
    have HEd : Hid ((!decide (x.1 = k)) = true) := hid (by simp [he])
    have HR5 : Hid (wr.drew.ownsRow w1.heap.size 43 33 _ W.length (rowP W)) := hid (own_keepN HR.out (below_drewN (Below.refl _ _) 1))
    clear he HD
    go_wp2_with fail
    refine wp_region_noPanic ?_
    refine wp_region_held_drew (S := fun w' => Below wr.heap.size wr w') (by kernel_rfl) ((below_drewN (Below.refl _ _) 1)) (fun hld => ?_)
    refine Rg.tk (i := 0) rfl ?_
    try simp only [Act.put, Rg.s]
    refine Rg.tk (i := 1) rfl ?_
    try simp only [Act.put, Rg.s]
    refine Rg.tk (i := 2) rfl ?_ (hy := by intro wz hSw; (have q0 := hji; have q1 := hlt; go_simp <;> with_reducible rfl))
    try simp only [Act.put, Rg.s]
    refine Rg.tk (i := 3) rfl ?_
    try simp only [Act.put, Rg.s]
    refine Rg.tk (i := 4) rfl ?_ (hy := by intro wz hSw; (refine op_load_key_mid HKx.out (HPr.out.below hSw).key ?_; exact ⟨_, rfl, rfl⟩))
    try simp only [Act.put, Rg.s]
    refine Rg.tk (i := 5) rfl ?_ (hy := by intro wz hSw; (refine op_load_key HK.out (HBx.out.below hSw).2 ?_; exact ⟨_, rfl, rfl⟩))
    try simp only [Act.put, Rg.s]
    refine Rg.tk (i := 6) rfl ?_ (hy := by intro wz hSw; (refine op_neq_keys HKx.out HK.out ?_; exact ⟨_, _, _, rfl, rfl, rfl⟩))
    try simp only [Act.put, Rg.s]
    refine wpAnyH_done (by kernel_rfl) ?_ _
    refine NoPanic.normal ?_
    have HB5 : Hid (Below w1.heap.size w1 wr.drew) := hid (HB.out.drew)
    clear hld
    rw [HEd.out]
    have HP5 : Hid (PairAt wr.drew b (off + j * 33) x) := HPr
    have hNew := Rg.Own.new wr.drew (pairA x) 43
    have HN := hid (PairAt.own hNew)
    clear hNew
    go_wp2_with (first
     | (refine Rg.run rfl _ _ (op_load_pair HKx.out HP5.out ⟨_, rfl, rfl⟩) ?_)
     | (refine Rg.run rfl _ _ (op_lit_pair HKx.out wr.heap.size (by simp) ⟨_, rfl, rfl⟩) ?_)
     | (at_builtin; refine wpList_append_own _ rfl _ _ 26 rfl w1.heap.size 43 i0 z0 33 48 Tryz.underlying26 HI.out.1 HI.out.2.1 HI.out.2.2.1 HI.out.2.2.2.1 HI.out.2.2.2.2 (by decide) _ _ _ rfl (HR5.out.alloc _) ⟨wr.heap.size, 0, none⟩ 1 1 (pairC x) rfl (pairC_len HKx.out) ?d1 (pairC_one x) ?d3 ?d4 ?d5 ?_))
    case d1 =>
     intro q u hu
     rw [Addr.add_mid]
     exact HN.out q u hu
    case d3 => unfold maxLen; omega
    case d4 => omega
    case d5 => simp; omega
    intro v' w7 hown7 hgrow _
    have hlt' := HR5.out.lt
    have hsz5 := HB5.out.size
    have HB7 : Hid (Below w1.heap.size w1 w7) := hid ((HB5.out.alloc hsz5 _).grown hgrow (by simp; omega) (fun g hg => (hlt' g hg).1))
    go_wp2
    go_roundw
    case rel => exact ⟨j + 1, by omega, by go_num, hid (by rw [HS.out, List.length_append, rowP_snoc, hs1]; exact hown7), HB7⟩
    case measure => simp [intOf]; omega
  ·obtain rfl : j = n := by omega
   have HR' := HR.out
   rw [List.take_of_length_le (by rw [HL.out]; exact Nat.le_refl _)] at HR'
   have HRR := hid HR'
   clear HR'
   go_wp2
   go_ret
   exact ⟨_, rfl, own_mono HRR.out (by omega), bst HB1.out HB.out⟩
theorem meet_push {te e : TypeId} {i0 : TypeInfo} {z0 : Value} {sz bt : Nat} (ht : Tryz.prog.underlying te = some (.slice e)) (hi : Tryz.prog.info? e = some i0 ∧ i0.zero = some z0 ∧ i0.size = sz ∧ i0.bytes = bt ∧ z0.cells.size = sz) (hsz : 0 < sz) (hbt : bt ≤ 100)
  {o : Oper} {a : Act} {w : World} {K : Act → World → Prop} {Q : Exit → Act → World → Prop} {ops : Array Oper} {B b2 n : Nat} {v : Value} {xs : List Value} {cs : Array Value} (hw : Region.wanted o (yielded ops a.tmps) = true)
  (ho : ∃ s y, o.op = .call { callee := .builtin .append, args := #[s, y], argTypes := #[te, te] } ∧ a.eval s = v ∧ a.eval y = .slice (some ⟨b2, 0, none⟩) 1 1)
  (hR : w.ownsRow B e sz v n xs) (h2 : Rg.Own w b2 cs e) (hcs : cs.size = sz) (h1 : ∀ u ∈ cs.toList, u.oneCell' = true) (hn : n ≤ 1000000) (hB : B ≤ w.heap.size)
  (h : ∀ v' w', w'.ownsRow B e sz v' (n + 1) (xs ++ cs.toList) → w.grownBy w' v.ownBlock → K (a.put o.dst v') w') : if Region.wanted o (yielded ops a.tmps) = true then Oper.wp Tryz.prog o a w K Q else K (a.put o.dst undef) w := by
 obtain ⟨s, y, ho, hs, hy⟩ := ho
 have hbb : (n + 1) * bt ≤ (n + 1) * 100 := Nat.mul_le_mul_left _ hbt
 exact Rg.want hw (wp_append_own w s y te ho B e i0 z0 sz bt ht hi.1 hi.2.1 hi.2.2.1 hi.2.2.2.1 hi.2.2.2.2 hsz v n xs hs hR ⟨b2, 0, none⟩ 1 1 cs.toList hy (by simpa using hcs) (fun j u hu => by
  rw [Addr.add_mid, Nat.zero_add, cell_of_row w b2 _ _ _ _ h2.2]
  simpa using hu) h1 (by unfold maxLen; omega) (by omega) hB (fun v' w' h3 h4 _ => h v' w' h3 h4))
theorem below_push {B : Nat} {w0 w w' : World} {e : TypeId} {sz n : Nat} {v : Value} {xs : List Value} (hR : w.ownsRow B e sz v n xs) (hb : Below B w0 w) (hB : B ≤ w.heap.size) (hg : w.grownBy w' v.ownBlock) : Below B w0 w' := hb.grown hg hB (fun g hg => (hR.lt g hg).1)
theorem meet_lit_pair {o : Oper} {a : Act} {w : World} {K : Act → World → Prop} {Q : Exit → Act → World → Prop} {ops : Array Oper} {x : Tr.Pair} (hk : x.1.length = 32) (hw : Region.wanted o (yielded ops a.tmps) = true)
  (ho : ∃ y, o.op = .buildSlice 26 1 #[(0, y)] ∧ a.eval y = .agg (pairA x))
  (h : ∀ w' b, Rg.Own w' b (pairA x) 43 → Below w.heap.size w w' → K (a.put o.dst (.slice (some ⟨b, 0, none⟩) 1 1)) w') : if Region.wanted o (yielded ops a.tmps) = true then Oper.wp Tryz.prog o a w K Q else K (a.put o.dst undef) w :=
 Rg.meet hw _ _ (op_lit_pair hk _ rfl ho) (h _ _ (Rg.Own.new _ _ _) (al1 _ _))
theorem with_own (l : List Tr.Pair) (a : Option Addr) (n c : Nat) (x : Tr.Pair) (hx : x.1.length = 32) (w : World) (h : IsPs w a n c l) (hn : n ≤ 1000000) :
  Calls Tryz.prog 14 #[.slice a n c, .agg (pairA x)] w (GotOwnP w (withoutL l x.1 ++ [x])) := by
 obtain ⟨w1, hw1, hO1, hb1, hs1⟩ : ∃ w1, w1 = w.alloc (.cells (pairA x) 43) ∧ Rg.Own w1 w.heap.size (pairA x) 43 ∧ Below w.heap.size w w1 ∧ w1.heap.size = w.heap.size + 1 := ⟨_, rfl, Rg.Own.new _ _ _, al1 _ _, by simp⟩
 obtain ⟨i0, z0, hi, hz, hsz, hby, hzc⟩ := info_pair_parts
 have HI : Hid (_ ∧ _ ∧ _ ∧ _ ∧ _) := hid ⟨hi, hz, hsz, hby, hzc⟩
 have hb1' := hb1
 have HH := hid (h.below hb1)
 have HC := hid (fun wz (hb : Below w1.heap.size w1 wz) => rwithout_own l a n c x.1 hx wz ((h.below hb1').below hb) hn)
 have hwl := without_len l x.1 n
 rw [List.take_of_length_le (by rw [h.len]; exact Nat.le_refl _)] at hwl
 obtain ⟨W, hWW⟩ : ∃ W, withoutL l x.1 = W := ⟨_, rfl⟩
 rw [hWW] at HC hwl ⊢
 have HP1 := hid (PairAt.own hO1)
 have HK := hid hx
 have HB1 := hid hb1
 have HW : Hid (_ = _) := hid hw1
 obtain ⟨C, hC⟩ : ∃ C, pairA x = C := ⟨_, rfl⟩
 have HCx := hid hC
 rw [hC] at HW ⊢
 clear h hO1 hx hb1 hb1' hw1 hC hi hz hsz hby hzc hWW
 go_enter Tryz.func14, Tryz.ntmps14
 go_wp2_with fail
 rw [← HW.out]
 clear HW
 refine wp_region_noPanic ?_
 refine wp_region_held_drew (S := fun w' => Below w1.heap.size w1 w') (by kernel_rfl) ((below_drewN (Below.refl _ _) 1)) (fun hld => ?_)
 refine Rg.tk (i := 0) rfl ?_
 try simp only [Act.put, Rg.s]
 refine Rg.tk (i := 1) rfl ?_
 try simp only [Act.put, Rg.s]
 refine Rg.tk (i := 2) rfl ?_ (hy := by intro wz hSw; (refine op_load_key_mid HK.out (PairAt.below HP1.out hSw).key ?_; exact ⟨_, rfl, rfl⟩))
 try simp only [Act.put, Rg.s]
 refine Rg.tk (i := 4) rfl ?_ (hy := by intro wz hSw; (rw [← HCx.out]; refine op_load_pair HK.out (PairAt.below HP1.out hSw) ?_; exact ⟨_, rfl, rfl⟩))
 try simp only [Act.put, Rg.s]
 refine wpAnyH_ready (rs := [3, 5]) (by kernel_rfl) (by simp) ?_
 refine Rg.readyC (i := 3) rfl (fun K hK => ?_) (Rg.readyL (i := 5) rfl (fun K hK => ?_))
 ·go_simp
  go_at_call 11
  (with_reducible refine (HC.out _ hld).mono ?_)
  rintro e w5 ⟨v5, rfl, hO5, hb5⟩
  have HO5 : Hid (w5.ownsRow w1.heap.size 43 33 v5 W.length (rowP W)) := hid (own_mono hO5 (Below.size hld))
  have HB5 : Hid (Below w1.heap.size w1 w5) := hid (Below.trans hld (hb5.mono (Below.size hld)))
  clear hO5 hb5
  refine hK.out _ _ ?_ (fun hld => ?_)
  ·exact HB5.out
  clear hK K
  refine Rg.rd (i := 5) rfl fun K hK => ?_
  refine meet_lit_pair HK.out (by rfl) ⟨_, rfl, rfl⟩ ?_
  intro w6 b6 hN hb6
  have HN := hid hN
  have HB6 : Hid (Below w1.heap.size w1 w6) := hid (Below.trans hld (hb6.mono (Below.size hld)))
  replace HO5 := hid (own_keepN HO5.out hb6)
  clear hN hb6
  refine hK.out _ _ ?_ (fun hld => ?_)
  ·exact HB6.out
  clear hK K
  try simp only [Act.put, Rg.s]
  refine Rg.rd (i := 6) rfl fun K hK => ?_
  refine meet_push rfl HI.out (by decide) (by decide) (by rfl) ⟨_, _, rfl, rfl, rfl⟩ HO5.out HN.out (pairA_size HK.out) (fun u hu => pairC_one x u (by simpa [pairA] using hu)) (by omega) (Below.size hld) ?_
  intro v7 w7 hO7 hg7
  have HB7 : Hid (Below w1.heap.size w1 w7) := hid (below_push HO5.out hld (Below.size hld) hg7)
  have HO7 : Hid (w7.ownsRow w1.heap.size 43 33 v7 (W ++ [x]).length (rowP (W ++ [x]))) := hid (by rw [List.length_append, rowP_snoc]; simpa [pairA] using hO7)
  clear hO7 hg7
  refine hK.out _ _ ?_ (fun hld => ?_)
  ·exact HB7.out
  clear hK K
  try simp only [Act.put, Rg.s]
  refine Rg.tk (i := 7) rfl ?_
  try simp only [Act.put, Rg.s]
  refine wpAnyH_done (by kernel_rfl) ?_ _
  refine NoPanic.normal ?_
  go_wp2
  go_ret
  exact ⟨_, rfl, own_mono HO7.out (by omega), bst HB1.out HB7.out⟩
 ·refine meet_lit_pair HK.out (by rfl) ⟨_, rfl, rfl⟩ ?_
  intro w6 b6 hN hb6
  have HN := hid hN
  have HB6 : Hid (Below w1.heap.size w1 w6) := hid (Below.trans hld (hb6.mono (Below.size hld)))
  clear hN hb6
  refine hK.out _ _ ?_ (fun hld => ?_)
  ·exact HB6.out
  clear hK K
  try simp only [Act.put, Rg.s]
  refine Rg.rd (i := 3) rfl fun K hK => ?_
  go_simp
  go_at_call 11
  (with_reducible refine (HC.out _ hld).mono ?_)
  rintro e w5 ⟨v5, rfl, hO5, hb5⟩
  have HO5 : Hid (w5.ownsRow w1.heap.size 43 33 v5 W.length (rowP W)) := hid (own_mono hO5 (Below.size hld))
  have HB5 : Hid (Below w1.heap.size w1 w5) := hid (Below.trans hld (hb5.mono (Below.size hld)))
  replace HN := hid (HN.out.below hb5)
  clear hO5 hb5
  refine hK.out _ _ ?_ (fun hld => ?_)
  ·exact HB5.out
  clear hK K
  refine Rg.rd (i := 6) rfl fun K hK => ?_
  refine meet_push rfl HI.out (by decide) (by decide) (by rfl) ⟨_, _, rfl, rfl, rfl⟩ HO5.out HN.out (pairA_size HK.out) (fun u hu => pairC_one x u (by simpa [pairA] using hu)) (by omega) (Below.size hld) ?_
  intro v7 w7 hO7 hg7
  have HB7 : Hid (Below w1.heap.size w1 w7) := hid (below_push HO5.out hld (Below.size hld) hg7)
  have HO7 : Hid (w7.ownsRow w1.heap.size 43 33 v7 (W ++ [x]).length (rowP (W ++ [x]))) := hid (by rw [List.length_append, rowP_snoc]; simpa [pairA] using hO7)
  clear hO7 hg7
  refine hK.out _ _ ?_ (fun hld => ?_)
  ·exact HB7.out
  clear hK K
  try simp only [Act.put, Rg.s]
  refine Rg.tk (i := 7) rfl ?_
  try simp only [Act.put, Rg.s]
  refine wpAnyH_done (by kernel_rfl) ?_ _
  refine NoPanic.normal ?_
  go_wp2
  go_ret
  exact ⟨_, rfl, own_mono HO7.out (by omega), bst HB1.out HB7.out⟩
end Tm
end
section
open Go.RowKit
namespace Tm
open Tr Ni Pk Ky
abbrev Hdl : Type := Option Addr × Nat × Nat
def inC (x : Tr.In) (h : Hdl) : List Value := [.slice h.1 h.2.1 h.2.2, .string x.2]
def inA (x : Tr.In) (h : Hdl) : Array Value := #[.slice h.1 h.2.1 h.2.2, .string x.2]
theorem info_in : (Tryz.prog.info? 53).map (fun i => (i.zero, i.size, i.bytes)) = some (some (.agg #[.slice none 0 0, .string ⟨#[]⟩]), 2, 40) := by kernel_rfl
theorem info_in_parts : ∃ i z, Tryz.prog.info? 53 = some i ∧ i.zero = some z ∧ i.size = 2 ∧ i.bytes = 40 ∧ z.cells.size = 2 := by
 obtain ⟨i0, hi, hz, hs, hby⟩ := info_parts info_in
 exact ⟨i0, _, hi, hz, hs, hby, rfl⟩
def BsP (p : Nat → Prop) (w : World) (h : Hdl) (l : List UInt8) : Prop := IsBs w h.1 h.2.1 h.2.2 l ∧ ∀ ad, h.1 = some ad → 0 < h.2.1 → p ad.block
theorem BsP.kept {p : Nat → Prop} {w w' : World} {h : Hdl} {l : List UInt8} (g : BsP p w h l) (hs : w.heap.size ≤ w'.heap.size) (hk : ∀ b, p b → b < w.heap.size → w'.heap[b]? = w.heap[b]?) : BsP p w' h l := by
 refine ⟨⟨g.1.1, g.1.2.1, g.1.2.2.1, g.1.2.2.2.1, fun j hj => ?_⟩, g.2⟩
 obtain ⟨b, off, e, hlt, hc⟩ := g.1.at' j hj
 exact ⟨b, off, e, Nat.lt_of_lt_of_le hlt hs, by rw [World.cell?_of_block (a := ⟨b, off + j, none⟩) (hk b (g.2 _ e (by omega)) hlt)]; exact hc⟩
theorem BsP.to {p q : Nat → Prop} {w : World} {h : Hdl} {l : List UInt8} (g : BsP p w h l) (hp : ∀ b, b < w.heap.size → p b → q b) : BsP q w h l := by
 refine ⟨g.1, fun ad e hn => hp _ ?_ (g.2 ad e hn)⟩
 obtain ⟨b, off, e2, hlt, _⟩ := g.1.at' 0 hn
 rw [e] at e2
 cases e2
 exact hlt
theorem BsP.old {w : World} {h : Hdl} {l : List UInt8} (g : IsBs w h.1 h.2.1 h.2.2 l) : BsP (fun b => b < w.heap.size) w h l := by
 refine ⟨g, fun ad e hn => ?_⟩
 obtain ⟨b, off, e2, hlt, _⟩ := g.at' 0 hn
 rw [e] at e2
 cases e2
 exact hlt
def InAt (w : World) (b o : Nat) (x : Tr.In) (h : Hdl) : Prop := w.cell? ⟨b, o, none⟩ = some (.slice h.1 h.2.1 h.2.2) ∧ w.cell? ⟨b, o + 1, none⟩ = some (.string x.2)
theorem InAt.below {w w' : World} {b o : Nat} {x : Tr.In} {h : Hdl} (g : InAt w b o x h) (hb : Below w.heap.size w w') : InAt w' b o x h := ⟨cell_on hb g.1, cell_on hb g.2⟩
def IsIns (w : World) (a : Option Addr) (n c : Nat) (l : List Tr.In) : Prop :=
 n ≤ c ∧ c ≤ maxLen ∧ l.length = n ∧ (a = none → c = 0) ∧ ∀ j, j < n → ∃ b off h, a = some ⟨b, off, none⟩ ∧ b < w.heap.size ∧ InAt w b (off + j * 2) (l.getD j ([], eB)) h ∧ IsBs w h.1 h.2.1 h.2.2 (l.getD j ([], eB)).1
theorem IsIns.len {w : World} {a : Option Addr} {n c : Nat} {l : List Tr.In} (h : IsIns w a n c l) : l.length = n := h.2.2.1
theorem IsIns.at' {w : World} {a : Option Addr} {n c : Nat} {l : List Tr.In} (h : IsIns w a n c l) (j : Nat) (hj : j < n) : ∃ b off h, a = some ⟨b, off, none⟩ ∧ b < w.heap.size ∧ InAt w b (off + j * 2) (l.getD j ([], eB)) h ∧ IsBs w h.1 h.2.1 h.2.2 (l.getD j ([], eB)).1 := h.2.2.2.2 j hj
theorem IsIns.below {w w' : World} {a : Option Addr} {n c : Nat} {l : List Tr.In} (h : IsIns w a n c l) (hb : Below w.heap.size w w') : IsIns w' a n c l :=
 ⟨h.1, h.2.1, h.2.2.1, h.2.2.2.1, fun j hj => by
  obtain ⟨b, off, g, e, hlt, hp, hi⟩ := h.2.2.2.2 j hj
  exact ⟨b, off, g, e, Nat.lt_of_lt_of_le hlt hb.size, hp.below hb, hi.below hb⟩⟩
theorem IsIns.nil (w : World) : IsIns w none 0 0 [] := ⟨Nat.le_refl _, Nat.zero_le _, rfl, fun _ => rfl, fun _ h => absurd h (Nat.not_lt_zero _)⟩
def flatIn : List Tr.In → List Hdl → List Value
 | x :: xs, h :: hs => .slice h.1 h.2.1 h.2.2 :: .string x.2 :: flatIn xs hs
 | _, _ => []
theorem flatIn_snoc : ∀ (xs : List Tr.In) (hs : List Hdl) (x : Tr.In) (h : Hdl), hs.length = xs.length → flatIn (xs ++ [x]) (hs ++ [h]) = flatIn xs hs ++ inC x h
 | [], [], _, _, _ => rfl
 | y :: xs, g :: hs, x, h, e => by
  have := flatIn_snoc xs hs x h (by simpa using e)
  simp [flatIn, this]
theorem flatIn_at : ∀ (xs : List Tr.In) (hs : List Hdl) (j : Nat) (x : Tr.In) (h : Hdl), xs[j]? = some x → hs[j]? = some h →
  (flatIn xs hs)[j * 2]? = some (.slice h.1 h.2.1 h.2.2) ∧ (flatIn xs hs)[j * 2 + 1]? = some (.string x.2)
 | [], _, _, _, _, hx, _ => by simp at hx
 | _ :: _, [], _, _, _, _, hh => by simp at hh
 | y :: xs, g :: hs, 0, x, h, hx, hh => by
  simp at hx hh
  subst hx hh
  simp [flatIn]
 | y :: xs, g :: hs, j + 1, x, h, hx, hh => by
  have := flatIn_at xs hs j x h (by simpa using hx) (by simpa using hh)
  rw [show (j + 1) * 2 = j * 2 + 2 by omega]
  simp only [flatIn, List.getElem?_cons_succ]
  exact this
def RowN (B : Nat) (w : World) (v : Value) (xs : List Tr.In) : Prop :=
 ∃ hs : List Hdl, hs.length = xs.length ∧ w.ownsRow B 53 2 v xs.length (flatIn xs hs) ∧ ∀ (j : Nat) (x : Tr.In) (h : Hdl), xs[j]? = some x → hs[j]? = some h → BsP (fun b => v.ownBlock ≠ some b) w h x.1
theorem RowN.nil (B : Nat) (w : World) : RowN B w (.slice none 0 0) [] := ⟨[], rfl, World.ownsRow_nil _ _ _ _, fun _ _ _ hx _ => by simp at hx⟩
theorem RowN.lt {B : Nat} {w : World} {v : Value} {xs : List Tr.In} (h : RowN B w v xs) : ∀ k, v.ownBlock = some k → B ≤ k ∧ k < w.heap.size := by
 obtain ⟨hs, _, ho, _⟩ := h
 exact ho.lt
theorem RowN.below {B : Nat} {w w' : World} {v : Value} {xs : List Tr.In} (h : RowN B w v xs) (hb : Below w.heap.size w w') : RowN B w' v xs := by
 obtain ⟨hs, hlen, ho, hi⟩ := h
 exact ⟨hs, hlen, ho.kept (Bu.grown_below hb) (by cases v.ownBlock <;> simp), fun j x h hx hh => (hi j x h hx hh).kept hb.size fun b _ hlt => hb.block b hlt⟩
theorem RowN.push {B : Nat} {w w' : World} {v v' : Value} {xs : List Tr.In} {x : Tr.In} {h : Hdl} {hs : List Hdl} (hlen : hs.length = xs.length) (hi : ∀ (j : Nat) (x : Tr.In) (h : Hdl), xs[j]? = some x → hs[j]? = some h → BsP (fun b => v.ownBlock ≠ some b) w h x.1)
  (hI : BsP (fun b => v.ownBlock ≠ some b) w h x.1) (ho : w'.ownsRow B 53 2 v' (xs.length + 1) (flatIn xs hs ++ inC x h))
  (hg : w.grownBy w' v.ownBlock) (hat : v'.ownBlock = v.ownBlock ∨ v'.ownBlock = some w.heap.size) : RowN B w' v' (xs ++ [x]) := by
 have keep : ∀ {l : List UInt8} {h : Hdl}, BsP (fun b => v.ownBlock ≠ some b) w h l → BsP (fun b => v'.ownBlock ≠ some b) w' h l := fun {l h} hh => by
  have h1 := hh.to (q := fun b => v'.ownBlock ≠ some b ∧ v.ownBlock ≠ some b) fun b hlt hb => ⟨fun e => by
   rcases hat with h2 | h2
   ·exact hb (h2 ▸ e)
   ·rw [h2] at e
    have := Option.some.inj e
    omega, hb⟩
  have h2 := h1.kept (w' := w') hg.size fun b hb hlt => hg.block b hlt (fun e => hb.2 e.symm)
  exact h2.to fun b _ hb => hb.1
 refine ⟨hs ++ [h], by simp [hlen], ?_, fun j y g hy hh => ?_⟩
 ·rw [List.length_append, flatIn_snoc xs hs x h hlen]
  exact ho
 ·by_cases hj : j < xs.length
  ·rw [List.getElem?_append_left hj] at hy
   rw [List.getElem?_append_left (by omega)] at hh
   exact keep (hi j y g hy hh)
  ·have hj2 : j = xs.length := by
    have := (List.getElem?_eq_some_iff.1 hy).1
    simp at this
    omega
   subst hj2
   rw [List.getElem?_append_right (Nat.le_refl _), Nat.sub_self] at hy
   rw [List.getElem?_append_right (by omega), hlen, Nat.sub_self] at hh
   simp at hy hh
   subst hy hh
   exact keep hI
theorem RowN.done {B : Nat} {w : World} {v : Value} {xs : List Tr.In} (h : RowN B w v xs) : ∃ a n cap, v = .slice a n cap ∧ IsIns w a n cap xs := by
 obtain ⟨hs, hlen, ho, hi⟩ := h
 rcases ho.2 with ⟨rfl, hz⟩ | ⟨g, cap, cur, rfl, hbg, hg, hnc, hcm, hcs, htake⟩
 ·have : xs = [] := List.eq_nil_of_length_eq_zero hz
  subst this
  exact ⟨none, 0, 0, rfl, IsIns.nil _⟩
 ·refine ⟨_, _, _, rfl, hnc, hcm, rfl, fun e => (by cases e), fun j hj => ?_⟩
  have hx : xs[j]? = some (xs.getD j ([], eB)) := by simp [hj]
  have hh : hs[j]? = some (hs.getD j (none, 0, 0)) := by simp [show j < hs.length by omega]
  obtain ⟨f0, f1⟩ := flatIn_at xs hs j _ _ hx hh
  have e : ∀ i, (⟨g, 0, none⟩ : Addr).add i = ⟨g, 0 + i, none⟩ := fun i => Addr.add_mid g 0 i
  refine ⟨g, 0, hs.getD j (none, 0, 0), rfl, (Array.getElem?_eq_some_iff.1 hg).1, ⟨?_, ?_⟩, (hi j _ _ hx hh).1⟩
  ·have := ho.cells (g := g) rfl _ _ f0
   rw [e] at this
   exact this
  ·have := ho.cells (g := g) rfl _ _ f1
   rw [e, ← Nat.add_assoc] at this
   exact this
def GotIns (w : World) (l : List Tr.In) (e : Ending) (w' : World) : Prop := ∃ a n c, e = .returned (.slice a n c) ∧ IsIns w' a n c l ∧ Below w.heap.size w w'
theorem meet_lit_in {o : Oper} {a : Act} {w : World} {K : Act → World → Prop} {Q : Exit → Act → World → Prop} {ops : Array Oper} {x : Tr.In} {h : Hdl} (hw : Region.wanted o (yielded ops a.tmps) = true)
  (ho : ∃ y, o.op = .buildSlice 46 1 #[(0, y)] ∧ a.eval y = .agg (inA x h))
  (H : ∀ w' b, b = w.heap.size → Rg.Own w' b (inA x h) 53 → Below w.heap.size w w' → K (a.put o.dst (.slice (some ⟨b, 0, none⟩) 1 1)) w') : if Region.wanted o (yielded ops a.tmps) = true then Oper.wp Tryz.prog o a w K Q else K (a.put o.dst undef) w := by
 obtain ⟨y, ho, hy⟩ := ho
 obtain ⟨i0, hi, hz, hs, hby⟩ := info_parts info_in
 refine Rg.want hw (wp_buildSlice 46 53 1 _ ho (inA x h) i0 _ Tryz.underlying46 hi hz (by rw [hs]; decide) (by rw [hs]; decide) ?_ (H _ _ rfl (Rg.Own.new _ _ _) (al1 _ _)))
 simp only [List.map_toArray, List.map_cons, List.map_nil, hy, hs]
 kernel_rfl
theorem run_push_in {w : World} {ty : TypeId} {B b2 : Nat} {v : Value} {xs : List Tr.In} {x : Tr.In} {h : Hdl} (hR : RowN B w v xs) (h2 : Rg.Own w b2 (inA x h) 53) (hI : BsP (fun b => v.ownBlock ≠ some b) w h x.1) (hn : xs.length ≤ 1000000) (hB : B ≤ w.heap.size) :
  ∃ v' w', (Builtin.append_ #[46, 46] ty #[v, .slice (some ⟨b2, 0, none⟩) 1 1]).run Tryz.prog w = .ok v' w' ∧ RowN B w' v' (xs ++ [x]) ∧ w.grownBy w' v.ownBlock := by
 obtain ⟨i0, z0, hi, hz, hsz, hby, hzc⟩ := info_in_parts
 obtain ⟨hs', hlen, hown, hi'⟩ := hR
 obtain ⟨v', w', hr, h3, h4, _, h5⟩ := run_append_own_at (P := Tryz.prog) w B 46 ty 53 i0 z0 2 40 Tryz.underlying46 hi hz hsz hby hzc (by decide) v xs.length _ hown ⟨b2, 0, none⟩ 1 1 (inC x h) rfl
  (fun j u hu => by
   rw [Addr.add_mid, Nat.zero_add, cell_of_row w b2 _ _ _ _ h2.2]
   unfold inA
   simpa [inC] using hu)
  (fun u hu => by unfold inC at hu; simp at hu; rcases hu with rfl | rfl <;> rfl) (by unfold maxLen; omega) (by omega) hB
 exact ⟨v', w', hr, RowN.push hlen hi' hI h3 h4 h5, h4⟩
theorem meet_push_in {o : Oper} {a : Act} {w : World} {K : Act → World → Prop} {Q : Exit → Act → World → Prop} {ops : Array Oper} {B b2 : Nat} {v : Value} {xs : List Tr.In} {x : Tr.In} {h : Hdl} (hw : Region.wanted o (yielded ops a.tmps) = true)
  (ho : ∃ s y, o.op = .call { callee := .builtin .append, args := #[s, y], argTypes := #[46, 46] } ∧ a.eval s = v ∧ a.eval y = .slice (some ⟨b2, 0, none⟩) 1 1)
  (hR : RowN B w v xs) (h2 : Rg.Own w b2 (inA x h) 53) (hI : BsP (fun b => v.ownBlock ≠ some b) w h x.1) (hn : xs.length ≤ 1000000) (hB : B ≤ w.heap.size)
  (H : ∀ v' w', RowN B w' v' (xs ++ [x]) → w.grownBy w' v.ownBlock → K (a.put o.dst v') w') : if Region.wanted o (yielded ops a.tmps) = true then Oper.wp Tryz.prog o a w K Q else K (a.put o.dst undef) w := by
 obtain ⟨s, y, ho, hs, hy⟩ := ho
 obtain ⟨v', w', hr, h3, h4⟩ := run_push_in (ty := o.type) hR h2 hI hn hB
 refine Rg.want hw ?_
 unfold Oper.wp execOp
 simp only [ho, resolve, invoke, builtin, Sem.run_bind, Sem.run_pure, Result.andThen_ok, List.map_toArray, List.map_cons, List.map_nil, hs, hy, hr]
 exact H v' w' h3 h4
theorem wpl_push_in {ops : Array Oper} {rest : List Oper} {o : Oper} {a : Act} {w : World} {Q : Exit → Act → World → Prop} {B b2 : Nat} {v : Value} {xs : List Tr.In} {x : Tr.In} {h : Hdl} (hgd : o.guard = none)
  (ho : ∃ s y, o.op = .call { callee := .builtin .append, args := #[s, y], argTypes := #[46, 46] } ∧ a.eval s = v ∧ a.eval y = .slice (some ⟨b2, 0, none⟩) 1 1)
  (hR : RowN B w v xs) (h2 : Rg.Own w b2 (inA x h) 53) (hI : BsP (fun b => v.ownBlock ≠ some b) w h x.1) (hn : xs.length ≤ 1000000) (hB : B ≤ w.heap.size)
  (H : ∀ v' w', RowN B w' v' (xs ++ [x]) → w.grownBy w' v.ownBlock → wpList Tryz.prog ops Q rest (a.put o.dst v') w') : wpList Tryz.prog ops Q (o :: rest) a w := by
 obtain ⟨s, y, ho, hs, hy⟩ := ho
 refine wpList_plain hgd fun K hK => ?_
 obtain ⟨v', w', hr, h3, h4⟩ := run_push_in (ty := o.type) hR h2 hI hn hB
 unfold Oper.wp execOp
 simp only [ho, resolve, invoke, builtin, Sem.run_bind, Sem.run_pure, Result.andThen_ok, List.map_toArray, List.map_cons, List.map_nil, hs, hy, hr]
 exact hK _ _ (H v' w' h3 h4)
theorem below_pushN {B : Nat} {w0 w w' : World} {v : Value} {xs : List Tr.In} (hR : RowN B w v xs) (hb : Below B w0 w) (hB : B ≤ w.heap.size) (hg : w.grownBy w' v.ownBlock) : Below B w0 w' := hb.grown hg hB (fun g hg => (hR.lt g hg).1)
theorem BsP.apart {B : Nat} {w0 w : World} {v : Value} {xs : List Tr.In} {h : Hdl} {l : List UInt8} (hR : RowN B w v xs) (g : IsBs w0 h.1 h.2.1 h.2.2 l) (hb : Below w0.heap.size w0 w) (hB : w0.heap.size ≤ B) : BsP (fun b => v.ownBlock ≠ some b) w h l := by
 have h1 := (BsP.old g).kept hb.size fun b hlt _ => hb.block b hlt
 exact h1.to fun b _ hlt e => by have := (hR.lt b e).1; omega
theorem op_load_in {ev : Operand → Value} {o : Oper} {w : World} {b off : Nat} {x : Tr.In} {h : Hdl} (g : InAt w b off x h) (ho : ∃ y, o.op = .load 53 y ∧ ev y = .pointer (some ⟨b, off, none⟩)) :
  (execOp ev o).run Tryz.prog w = .ok (.value (.agg (inA x h))) w := by
 obtain ⟨y, ho, hx⟩ := ho
 have hl := run_loadAt_mid (P := Tryz.prog) w b off 53 (inC x h) _ (fun j u hu => by
  match j, hu with
  | 0, hu => cases hu; exact g.1
  | 1, hu => cases hu; exact g.2) Tryz.underlying53 rfl (by
  obtain ⟨i0, hi, hz, hs, hby⟩ := info_parts info_in
  rw [hi]
  simp [hs, inC])
 unfold execOp
 simp only [ho, hx, Sem.run_bind, Sem.run_pure, Result.andThen_ok, hl]
 rfl
end Tm
end
section
open Go.RowKit
namespace Tm
open Tr Ni Pk Ky
theorem getI {l : List Tr.In} {j : Nat} (h : j < l.length) : l.getD j ([], eB) ∈ l ∧ l.take (j + 1) = l.take j ++ [l.getD j ([], eB)] := by
 have e : l.getD j ([], eB) = l[j] := by simp [List.getD, h]
 rw [e]
 exact ⟨List.getElem_mem _, List.take_succ_eq_append_getElem h⟩
theorem rest_take {l : List Tr.In} {m j : Nat} (h : j < l.length) : restL (l.take (j + 1)) m = restL (l.take j) m ++ [((l.getD j ([], eB)).1.drop m, (l.getD j ([], eB)).2)] := by
 rw [(getI h).2]
 unfold restL
 rw [List.map_append]
 rfl
theorem rest_any (l : List Tr.In) (a : Option Addr) (n c m : Nat) (hm : ∀ x ∈ l, m ≤ x.1.length) (w : World) (h : IsIns w a n c l) (hn : n ≤ 1000000) :
  Calls Tryz.prog 76 #[.slice a n c, .int .i64 m] w (GotIns w (restL l m)) := by
 have HH := hid h
 have HL := hid h.len
 have HM := hid hm
 have hcap := h.1
 have hmx := h.2.1
 unfold maxLen at hmx
 clear h hm
 go_enter Tryz.func76, Tryz.ntmps76
 go_wp2_with fail
 go_loopw [5, 6] (fun v i wr => ∃ j : Nat, j ≤ n ∧ i = .int .i64 j ∧ Hid (RowN w.heap.size wr v (restL (l.take j) m)) ∧ Hid (Below w.heap.size w wr)) (fun _ i _ => n - (intOf i).toNat)
 case atStart => exact ⟨0, Nat.zero_le _, rfl, hid (RowN.nil _ _), hid (Below.refl _ _)⟩
 case round =>
  obtain ⟨j, hj, rfl, HR, HB⟩ := hrel
  have hszr := HB.out.size
  by_cases hlt : j < n
  ·obtain ⟨b, off, hd, rfl, hblt, hin, hbs⟩ := HH.out.at' j hlt
   have hji : (j : Int) < n := by omega
   have hjl : j < l.length := by rw [HL.out]; exact hlt
   have HS := hid (rest_take (m := m) hjl)
   have hmle := HM.out _ (getI hjl).1
   have hwl : (restL (l.take j) m).length ≤ j := by unfold restL; rw [List.length_map, List.length_take]; exact Nat.min_le_left _ _
   obtain ⟨x, hx⟩ : ∃ x, l.getD j ([], eB) = x := ⟨_, rfl⟩
   rw [hx] at HS hin hbs hmle
   obtain ⟨p, v⟩ := x
   obtain ⟨h0, h1, h2⟩ := hd
   dsimp only at hbs hmle HS
   rw [hbs.len] at hmle
   obtain ⟨W, hWW⟩ : ∃ W, restL (l.take j) m = W := ⟨_, rfl⟩
   rw [hWW] at HR HS hwl
   have HIn := hid hin
   have HBs' := hid (bs_from hbs m hmle)
   clear hx hin hbs hWW
   go_wp2_with fail
   refine wp_region_noPanic ?_
   refine wp_region_held_drew (S := fun w' => Below w.heap.size w w') (by kernel_rfl) (below_drewN HB.out 1) (fun hld => ?_)
   refine Rg.tk (i := 0) rfl ?_
   try simp only [Act.put, Rg.s]
   refine Rg.tk (i := 1) rfl ?_
   try simp only [Act.put, Rg.s]
   refine Rg.tk (i := 2) rfl ?_
   try simp only [Act.put, Rg.s]
   refine Rg.tk (i := 3) rfl ?_ (hy := by intro wz hSw; have q0 := hji; have q1 := hlt; (try dsimp only at hSw); go_simp <;> with_reducible rfl)
   try simp only [Act.put, Rg.s]
   refine Rg.tk (i := 4) rfl ?_
   try simp only [Act.put, Rg.s]
   refine Rg.tk (i := 5) rfl ?_ (hy := by intro wz hSw; have hcc := cell_on hSw HIn.out.1; (try dsimp only at hSw); go_simp <;> with_reducible rfl)
   try simp only [Act.put, Rg.s]
   refine Rg.tk (i := 6) rfl ?_
   try simp only [Act.put, Rg.s]
   refine Rg.tk (i := 7) rfl ?_ (hy := by intro wz hSw; (refine op_from (a := h0) (n := h1) (c := h2) (i := m) under_u8 size_u8 hmle ?_; exact ⟨_, _, rfl, rfl, rfl⟩))
   try simp only [Act.put, Rg.s]
   refine Rg.tk (i := 8) rfl ?_
   try simp only [Act.put, Rg.s]
   refine Rg.tk (i := 9) rfl ?_
   try simp only [Act.put, Rg.s]
   refine Rg.tk (i := 10) rfl ?_ (hy := by intro wz hSw; have q0 := hji; have q1 := hlt; (try dsimp only at hSw); go_simp <;> with_reducible rfl)
   try simp only [Act.put, Rg.s]
   refine Rg.tk (i := 11) rfl ?_
   try simp only [Act.put, Rg.s]
   refine Rg.tk (i := 12) rfl ?_ (hy := by intro wz hSw; have hcc := cell_on hSw HIn.out.2; (try dsimp only at hSw); go_simp <;> with_reducible rfl)
   try simp only [Act.put, Rg.s]
   refine Rg.tk (i := 13) rfl ?_
   try simp only [Act.put, Rg.s]
   refine Rg.rd (i := 14) rfl fun K hK => ?_
   refine meet_lit_in (x := (p.drop m, v)) (h := (fromA h0 h2 m, h1 - m, h2 - m)) (by rfl) ⟨_, rfl, rfl⟩ ?_
   intro w6 b6 hbe hN hb6
   have HN := hid hN
   have HB6 : Hid (Below wr.heap.size wr w6) := hid (Below.trans (show Below wr.heap.size wr wr.drew from below_drewN (Below.refl _ _) 1) hb6)
   clear hN hb6 hbe
   refine hK.out _ _ ?_ (fun hld => ?_)
   ·exact HB.out.trans (HB6.out.mono HB.out.size)
   clear hK K
   try simp only [Act.put, Rg.s]
   refine Rg.rd (i := 15) rfl fun K hK => ?_
   refine meet_push_in (by rfl) ⟨_, _, rfl, rfl, rfl⟩ (RowN.below HR.out HB6.out) HN.out (h := (fromA h0 h2 m, h1 - m, h2 - m)) (x := (p.drop m, v)) (BsP.apart (RowN.below HR.out HB6.out) HBs'.out hld (Nat.le_refl _)) (by omega) (Below.size hld) ?_
   intro v7 w7 hR7 hg7
   have HB7 : Hid (Below w.heap.size w w7) := hid (below_pushN (RowN.below HR.out HB6.out) hld (Below.size hld) hg7)
   have HR7 := hid hR7
   clear hR7 hg7
   refine hK.out _ _ ?_ (fun hld => ?_)
   ·exact HB7.out
   clear hK K
   try simp only [Act.put, Rg.s]
   refine Rg.tk (i := 16) rfl ?_
   try simp only [Act.put, Rg.s]
   refine wpAnyH_done (by kernel_rfl) ?_ _
   refine NoPanic.normal ?_
   go_wp2
   go_roundw
   case rel => exact ⟨j + 1, by omega, by go_num, hid (by rw [HS.out]; exact HR7.out), HB7⟩
   case measure => simp [intOf]; omega
  ·obtain rfl : j = n := by omega
   have HR' := HR.out
   rw [List.take_of_length_le (by rw [HL.out]; exact Nat.le_refl _)] at HR'
   obtain ⟨a', n', c', rfl, hd⟩ := HR'.done
   have HD := hid hd
   clear HR' hd HR
   go_wp2
   go_ret
   exact ⟨_, _, _, rfl, HD.out, HB.out⟩
theorem begin_take {l : List Tr.In} {d : Fin 16} {j : Nat} (h : j < l.length) : beginL (l.take (j + 1)) d = beginL (l.take j) d ++ if ((l.getD j ([], eB)).1.getD 0 0).toNat = d.val then [l.getD j ([], eB)] else [] := by
 rw [(getI h).2]
 unfold beginL
 rw [List.filter_append]
 congr 1
 generalize l.getD j ([], eB) = x
 by_cases e : (x.1.getD 0 0).toNat = d.val
 ·rw [if_pos e]; simp only [List.filter, e, decide_true]
 ·rw [if_neg e]; simp only [List.filter, e, decide_false]
theorem begin_len (l : List Tr.In) (d : Fin 16) (j : Nat) : (beginL (l.take j) d).length ≤ j := by
 unfold beginL
 exact Nat.le_trans (List.length_filter_le _ _) (by rw [List.length_take]; exact Nat.min_le_left _ _)
theorem op_lit_in {ev : Operand → Value} {o : Oper} {w : World} {x : Tr.In} {h : Hdl} (b : Nat) (hb : b = w.heap.size) (ho : ∃ y, o.op = .buildSlice 46 1 #[(0, y)] ∧ ev y = .agg (inA x h)) :
  (execOp ev o).run Tryz.prog w = .ok (.value (.slice (some ⟨b, 0, none⟩) 1 1)) (w.alloc (.cells (inA x h) 53)) := by
 obtain ⟨y, ho, hx⟩ := ho
 subst hb
 unfold execOp
 simp only [ho, List.map_toArray, List.map_cons, List.map_nil, hx]
 kernel_rfl
theorem begin_any (l : List Tr.In) (a : Option Addr) (n c : Nat) (d : Fin 16) (hm : ∀ x ∈ l, 0 < x.1.length) (w : World) (h : IsIns w a n c l) (hn : n ≤ 1000000) :
  Calls Tryz.prog 77 #[.slice a n c, .int .i64 d.val] w (GotIns w (beginL l d)) := by
 have HH := hid h
 have HL := hid h.len
 have HM := hid hm
 have hcap := h.1
 have hmx := h.2.1
 unfold maxLen at hmx
 obtain ⟨D, hD⟩ : ∃ D : Nat, d.val = D := ⟨_, rfl⟩
 have HD := hid hD
 rw [hD]
 clear h hm hD
 go_enter Tryz.func77, Tryz.ntmps77
 go_wp2_with fail
 go_loopw [5, 6] (fun v i wr => ∃ j : Nat, j ≤ n ∧ i = .int .i64 j ∧ Hid (RowN w.heap.size wr v (beginL (l.take j) d)) ∧ Hid (Below w.heap.size w wr)) (fun _ i _ => n - (intOf i).toNat)
 case atStart => exact ⟨0, Nat.zero_le _, rfl, hid (RowN.nil _ _), hid (Below.refl _ _)⟩
 case round =>
  obtain ⟨j, hj, rfl, HR, HB⟩ := hrel
  have hszr := HB.out.size
  by_cases hlt : j < n
  ·obtain ⟨b, off, hd, rfl, hblt, hin, hbs⟩ := HH.out.at' j hlt
   have hji : (j : Int) < n := by omega
   have hjl : j < l.length := by rw [HL.out]; exact hlt
   have HS := hid (begin_take (d := d) hjl)
   have hp0 := HM.out _ (getI hjl).1
   have hwl := begin_len l d j
   obtain ⟨x, hx⟩ : ∃ x, l.getD j ([], eB) = x := ⟨_, rfl⟩
   rw [hx] at HS hin hbs hp0
   obtain ⟨p, v⟩ := x
   obtain ⟨h0, h1, h2⟩ := hd
   dsimp only at hbs hp0 HS
   rw [hbs.len] at hp0
   obtain ⟨W, hWW⟩ : ∃ W, beginL (l.take j) d = W := ⟨_, rfl⟩
   rw [hWW] at HR HS hwl
   have hin' := hin.below HB.out
   have HIn := hid hin'
   have HAp := hid (BsP.apart HR.out (h := (h0, h1, h2)) hbs HB.out (Nat.le_refl _))
   obtain ⟨b', off', rfl, hblt', hc0⟩ := (hbs.below HB.out).at' 0 hp0
   have hcs := hin'.1
   dsimp only at hcs
   obtain ⟨u, hu⟩ : ∃ u, (p.getD 0 0).toNat = u := ⟨_, rfl⟩
   have hu256 := UInt8.toNat_lt (p.getD 0 0)
   rw [hu, HD.out] at HS
   rw [hu] at hc0 hu256
   simp only [Nat.add_zero] at hc0
   have hp0i : (0 : Int) < h1 := by omega
   clear hx hin hbs hWW hin' hu
   by_cases he : u = D
   ·have HS' : Hid (beginL (l.take (j + 1)) d = W ++ [(p, v)]) := hid (by rw [HS.out, if_pos he])
    have hd : decide ((u : Int) = (D : Int)) = true := decide_eq_true (by omega)
    have hbq : ((u : Int) == (D : Int)) = true := by simp; omega
    clear he HS
    go_wp2_with (first
     | (refine Rg.run rfl _ _ (op_load_in HIn.out ⟨_, rfl, rfl⟩) ?_)
     | (refine Rg.run rfl _ _ (op_lit_in wr.heap.size (by simp) ⟨_, rfl, rfl⟩) ?_)
     | (refine wpl_push_in rfl ⟨_, _, rfl, rfl, rfl⟩ (RowN.below HR.out (al1 _ _)) (Rg.Own.new _ _ _) (h := (some ⟨b', off', none⟩, h1, h2)) (x := (p, v)) (BsP.kept HAp.out (by simp) (fun b _ hlt => (al1 _ _).block b hlt)) ?d1 ?d2 ?_))
    case d1 => omega
    case d2 => simp; omega
    intro v7 w7 hR7 hg7
    have HB7 : Hid (Below w.heap.size w w7) := hid (below_pushN (RowN.below HR.out (al1 _ _)) (HB.out.trans ((al1 _ _).mono hszr)) (by simp; omega) hg7)
    have HR7 := hid hR7
    clear hR7 hg7
    go_wp2
    go_roundw
    case rel => exact ⟨j + 1, by omega, by go_num, hid (by rw [HS'.out]; exact HR7.out), HB7⟩
    case measure => simp [intOf]; omega
   ·have HS' : Hid (beginL (l.take (j + 1)) d = W) := hid (by rw [HS.out, if_neg he, List.append_nil])
    have hd : decide ((u : Int) = (D : Int)) = false := decide_eq_false (by omega)
    have hbq : ((u : Int) == (D : Int)) = false := by simp; omega
    clear he HS
    go_wp2_with fail
    go_roundw
    case rel => exact ⟨j + 1, by omega, by go_num, hid (by rw [HS'.out]; exact HR.out), HB⟩
    case measure => simp [intOf]; omega
  ·obtain rfl : j = n := by omega
   have HR' := HR.out
   rw [List.take_of_length_le (by rw [HL.out]; exact Nat.le_refl _)] at HR'
   obtain ⟨a', n', c', rfl, hd⟩ := HR'.done
   have HD := hid hd
   clear HR' hd HR
   go_wp2
   go_ret
   exact ⟨_, _, _, rfl, HD.out, HB.out⟩
theorem common_take : ∀ {l : List Tr.In} {k : Nat}, 1 ≤ k → k < l.length → commonL (l.take (k + 1)) = min (commonL (l.take k)) (cp (l.getD 0 ([], eB)).1 (l.getD k ([], eB)).1)
 | [], _, _, h => absurd h (Nat.not_lt_zero _)
 | _ :: _, 0, h, _ => absurd h (by omega)
 | x :: r, k + 1, _, h => by
  have hk : k < r.length := by simpa using h
  rw [List.take_succ_cons, List.take_succ_cons, List.take_succ_eq_append_getElem hk]
  have e : (x :: r).getD (k + 1) ([], eB) = r[k] := by simp [List.getD, hk]
  rw [e]
  show List.foldl _ _ (r.take k ++ [r[k]]) = _
  rw [List.foldl_append]
  rfl
theorem common_any (l : List Tr.In) (a : Option Addr) (n c : Nat) (hm : ∀ x ∈ l, x.1.length ≤ 1000000) (h1 : 1 ≤ n) (w : World) (h : IsIns w a n c l) (hn : n ≤ 1000000) :
  Calls Tryz.prog 75 #[.slice a n c] w fun e w' => e = .returned (.int .i64 (commonL l : Nat)) ∧ Below w.heap.size w w' := by
 have HH := hid h
 have HL := hid h.len
 have HM := hid hm
 have hcap := h.1
 have hmx := h.2.1
 unfold maxLen at hmx
 obtain ⟨b, off, hd0, rfl, hblt, hin0, hbs0⟩ := h.at' 0 (by omega)
 have HF : Hid (commonL (l.take 1) = (l.getD 0 ([], eB)).1.length) := hid (by
  match l, h.len, h1 with
  | [], e, h1 => simp at e; omega
  | x :: r, _, _ => rfl)
 have HG6 := HM.out _ (getI (l := l) (j := 0) (by rw [HL.out]; omega)).1
 obtain ⟨x0, hx0⟩ : ∃ x, l.getD 0 ([], eB) = x := ⟨_, rfl⟩
 rw [hx0] at hin0 hbs0 HF HG6
 have HX0 := hid hx0
 obtain ⟨p, v0⟩ := x0
 obtain ⟨g0, g1, g2⟩ := hd0
 dsimp only at hbs0 HF HG6
 rw [hbs0.len] at HF HG6
 have hg6 := HG6
 simp only [Nat.zero_mul, Nat.add_zero] at hin0
 have hc0 := hin0.1
 dsimp only at hc0
 have HI0 := hid hin0
 have HG := hid hbs0
 have hn0 : (0 : Int) < n := by omega
 have hn0' : 0 < n := h1
 clear h hm hx0 hin0 hbs0 HG6
 go_enter Tryz.func75, Tryz.ntmps75
 go_wp2_with fail
 go_loopw [3, 4] (fun v i wr => ∃ j : Nat, 1 ≤ j ∧ j ≤ n ∧ i = .int .i64 j ∧ v = .int .i64 (commonL (l.take j) : Nat) ∧ Hid (Below w.heap.size w wr)) (fun _ i _ => n - (intOf i).toNat)
 case atStart => exact ⟨1, Nat.le_refl _, h1, rfl, by rw [HF.out], hid (Below.refl _ _)⟩
 case round =>
  obtain ⟨j, hj1, hj, rfl, rfl, HB⟩ := hrel
  have hszr := HB.out.size
  by_cases hlt : j < n
  ·obtain ⟨b', off', hd, hbe, hblt', hin, hbs⟩ := HH.out.at' j hlt
   cases hbe
   have hji : (j : Int) < n := by omega
   have hjl : j < l.length := by rw [HL.out]; exact hlt
   have HS := hid (common_take hj1 hjl)
   have hh6 := HM.out _ (getI hjl).1
   rw [HX0.out] at HS
   obtain ⟨x, hx⟩ : ∃ x, l.getD j ([], eB) = x := ⟨_, rfl⟩
   rw [hx] at HS hin hbs hh6
   obtain ⟨q, v⟩ := x
   obtain ⟨h0, h1, h2⟩ := hd
   dsimp only at hbs hh6 HS
   rw [hbs.len] at hh6
   obtain ⟨Kn, hK⟩ : ∃ Kn, commonL (l.take j) = Kn := ⟨_, rfl⟩
   obtain ⟨C, hC⟩ : ∃ C, cp p q = C := ⟨_, rfl⟩
   rw [hK, hC] at HS
   rw [hK]
   have HC := hid hC
   have hmin : ((min Kn C : Nat) : Int) = if (Kn : Int) < (C : Int) then (Kn : Int) else (C : Int) := by split <;> omega
   have HIn := hid hin
   have HBs' := hid hbs
   clear hx hin hbs hK hC
   go_wp2_with fail
   refine wp_region_noPanic ?_
   refine wp_region_held_drew (S := fun w' => Below w.heap.size w w') (by kernel_rfl) (below_drewN HB.out 1) (fun hld => ?_)
   refine Rg.tk (i := 0) rfl ?_
   try simp only [Act.put, Rg.s]
   refine Rg.tk (i := 1) rfl ?_
   try simp only [Act.put, Rg.s]
   refine Rg.tk (i := 2) rfl ?_ (hy := by intro wz hSw; have q0 := hn0; have q1 := hn0'; (try dsimp only at hSw); go_simp <;> with_reducible rfl)
   try simp only [Act.put, Rg.s]
   refine Rg.tk (i := 3) rfl ?_
   try simp only [Act.put, Rg.s]
   refine Rg.tk (i := 4) rfl ?_ (hy := by intro wz hSw; have hcc := cell_on hSw HI0.out.1; (try dsimp only at hSw); go_simp <;> with_reducible rfl)
   try simp only [Act.put, Rg.s]
   refine Rg.tk (i := 5) rfl ?_
   try simp only [Act.put, Rg.s]
   refine Rg.tk (i := 6) rfl ?_
   try simp only [Act.put, Rg.s]
   refine Rg.tk (i := 7) rfl ?_ (hy := by intro wz hSw; have q0 := hji; have q1 := hlt; (try dsimp only at hSw); go_simp <;> with_reducible rfl)
   try simp only [Act.put, Rg.s]
   refine Rg.tk (i := 8) rfl ?_
   try simp only [Act.put, Rg.s]
   refine Rg.tk (i := 9) rfl ?_ (hy := by intro wz hSw; have hcc := cell_on hSw HIn.out.1; (try dsimp only at hSw); go_simp <;> with_reducible rfl)
   try simp only [Act.put, Rg.s]
   refine Rg.rd (i := 10) rfl fun K hK => ?_
   go_simp
   go_at_call 28
   (with_reducible refine (Ni.rcommon_any g0 h0 g1 h1 g2 h2 p q hg6 hh6 _ (HG.out.below hld) (HBs'.out.below hld)).mono ?_)
   rintro e w5 ⟨rfl, q5, rfl⟩
   rw [cp_common, HC.out]
   have HB5 : Hid (Below w.heap.size w (wr.drewN (1 + q5))) := hid (below_drewN HB.out (1 + q5))
   refine hK.out _ _ ?_ (fun hld => ?_)
   ·first | exact HB5.out | exact below_drewN (below_drewN HB.out 1) q5
   clear hK K
   try simp only [Act.put, Rg.s]
   refine Rg.rd (i := 11) rfl fun K hK => ?_
   go_simp
   go_at_call 111
   (with_reducible refine (Lh.low_any (Kn : Int) (C : Int) _).mono ?_)
   rintro e w6 ⟨rfl, rfl⟩
   refine hK.out _ _ ?_ (fun hld => ?_)
   ·first | exact HB5.out | exact below_drewN (below_drewN HB.out 1) q5
   clear hK K
   try simp only [Act.put, Rg.s]
   refine Rg.tk (i := 12) rfl ?_
   try simp only [Act.put, Rg.s]
   refine wpAnyH_done (by kernel_rfl) ?_ _
   refine NoPanic.normal ?_
   go_wp2
   go_roundw
   case rel => exact ⟨j + 1, by omega, by omega, by go_num, by rw [HS.out]; congr 1; split <;> omega, HB5⟩
   case measure => simp [intOf]; omega
  ·obtain rfl : j = n := by omega
   rw [List.take_of_length_le (by rw [HL.out]; exact Nat.le_refl _)]
   go_wp2
   go_ret
   exact ⟨rfl, HB.out⟩
end Tm
end
end Go.Proofs.YtgolhnfkmmajpaaGreatDoor
