/-
 Contracts of node.Reference, node.fits, node.Check, node.Get: of any bytes.
-/
import Derived.Test.YtooklabipgmolaaGreatDoorMr14
import Derived.Test.YtooklabipgmolaaGreatDoorMr5
import Derived.Test.YtooklabipgmolaaGreatDoorMr4
import Derived.Test.YtooklabipgmolaaGreatDoorMr8
import Derived.Test.YtooklabipgmolaaGreatDoorMr13
import Derived.Deep.DeepCutAuto
open Go.Lib (hid)
set_option linter.unusedSimpArgs false
set_option linter.unusedVariables false
set_option maxHeartbeats 40000000
set_option maxRecDepth 100000
namespace Go.Proofs.YtooklabipgmolaaGreatDoor
section
open Go.RowKit
namespace No
open Rl Ni
def RefC (k : ByteArray) : Prop := ∀ w : World, Calls Tryz.prog 125 #[.string k] w fun e w' => e = .returned (.bool (refP k)) ∧ Below w.heap.size w w'
def GetPost (w : World) (r : Option Nd) (e : Ending) (w' : World) : Prop := ∃ (N : Nd) (a : Option Addr) (n c : Nat) (er : Int), e = .returned (.tuple #[.agg (ndC N a n c), .int .i64 er]) ∧ (er = 0 ∧ r = some N ∨ er ≠ 0 ∧ N = nd0 ∧ r = none) ∧
 BsF w.heap.size w' a n c N.p ∧ N.ks.length = 16 ∧ Below w.heap.size w w'
def GetC (s : ByteArray) : Prop := ∀ w : World, Calls Tryz.prog 90 #[.string s] w (GetPost w (getP s.data.toList))
theorem laid_any (s : ByteArray) (h : GetC s) (w : World) : Calls Tryz.prog 149 #[.string s] w fun e w' => e = .returned (.bool (getP s.data.toList).isSome) ∧ Below w.heap.size w w' := by
 have HG := hid (h w)
 obtain ⟨r, hr⟩ : ∃ r, getP s.data.toList = r := ⟨_, rfl⟩
 rw [hr] at HG ⊢
 clear h hr
 go_enter Tryz.func149, Tryz.ntmps149
 go_wp2_with fail
 refine HG.out.mono ?_
 rintro e w3 ⟨N, a3, n3, c3, er, rfl, hr3, hx3, hl3, hb3⟩
 have HO : Hid (OwnN (w3.alloc (.cells (ndC nd0 none 0 0) 57)) w3.heap.size nd0 none 0 0) := hid (Rg.Own.new _ _ _)
 have HB := hid (bst hb3 (al1 w3 (.cells (ndC nd0 none 0 0) 57)))
 have HL := hid hl3
 have hge := hb3.size
 clear hx3 hl3 hb3 HG
 rcases hr3 with ⟨rfl, rfl⟩ | ⟨he, rfl, rfl⟩
 ·go_wp2_with (first
   | (refine Rg.run rfl _ _ (run_alloc_nd _ _ _ w3.heap.size rfl rfl) ?_)
   | (refine wpl_store_nd HO.out rfl N a3 n3 c3 HL.out rfl _ _ rfl rfl rfl rfl ?_))
  go_ret
  exact ⟨rfl, below_rowN HB.out hge _⟩
 ·have hd : (er == 0) = false := by simp; exact he
  go_wp2_with (first
   | (refine Rg.run rfl _ _ (run_alloc_nd _ _ _ w3.heap.size rfl rfl) ?_)
   | (refine wpl_store_nd HO.out rfl nd0 a3 n3 c3 HL.out rfl _ _ rfl rfl rfl rfl ?_))
  go_ret
  exact ⟨rfl, below_rowN HB.out hge _⟩
theorem ref_of (k : ByteArray) (hk : k.size ≤ 9223372036854775807) (h : k.size < 32 → GetC k) : RefC k := by
 intro w
 have HP := hid (plain_any k w)
 cases hp : plainB k with
 | true =>
  have HF : Hid (refP k = true) := hid (by unfold refP; rw [hp]; rfl)
  rw [hp] at HP
  rw [HF.out]
  clear h hp
  go_enter Tryz.func125, Tryz.ntmps125
  go_wp2_with fail
  refine HP.out.mono ?_
  rintro e w3 ⟨rfl, rfl⟩
  go_wp2
  go_ret
  exact ⟨rfl, Below.refl _ _⟩
 | false =>
  rw [hp] at HP
  by_cases h32 : k.size < 32
  ·have HF : Hid (refP k = (getP k.data.toList).isSome) := hid (by unfold refP; rw [hp]; simp [h32])
   have HG := hid (laid_any k (h h32) w)
   rw [← HF.out] at HG
   clear h hp HF
   go_enter Tryz.func125, Tryz.ntmps125
   go_wp2_with fail
   refine HP.out.mono ?_
   rintro e w3 ⟨rfl, rfl⟩
   go_wp2_with fail
   refine HG.out.mono ?_
   rintro e w4 ⟨rfl, hb4⟩
   have HB := hid hb4
   clear hb4
   go_wp2
   go_ret
   exact ⟨rfl, HB.out⟩
  ·have HF : Hid (refP k = false) := hid (by unfold refP; rw [hp]; simp [h32])
   rw [HF.out]
   clear h hp
   go_enter Tryz.func125, Tryz.ntmps125
   go_wp2_with fail
   refine HP.out.mono ?_
   rintro e w3 ⟨rfl, rfl⟩
   go_wp2
   go_ret
   exact ⟨rfl, Below.refl _ _⟩
theorem none_any (k : ByteArray) (h : RefC k) (w : World) : Calls Tryz.prog 127 #[.string k] w fun e w' => e = .returned (.bool (!refP k)) ∧ Below w.heap.size w w' := by
 have HG := hid (h w)
 obtain ⟨r, hr⟩ : ∃ r, refP k = r := ⟨_, rfl⟩
 rw [hr] at HG ⊢
 clear h hr
 go_enter Tryz.func127, Tryz.ntmps127
 go_wp2_with fail
 refine HG.out.mono ?_
 rintro e w3 ⟨rfl, hb3⟩
 have HB := hid hb3
 clear hb3
 go_wp2
 go_ret
 exact ⟨rfl, HB.out⟩
def IdxPost (w : World) (xs : List ByteArray) (e : Ending) (w' : World) : Prop := ∃ r : Int, e = .returned (.int .i64 r) ∧ -1 ≤ r ∧ r ≤ 9223372036854775807 ∧ decide (0 ≤ r) = !xs.all refP ∧ Below w.heap.size w w'
theorem take_all {xs : List ByteArray} {j : Nat} (hj : j < xs.length) (h : (xs.take j).all refP = true) (hk : refP (xs.getD j eB) = true) : (xs.take (j + 1)).all refP = true := by
 have e : xs.getD j eB = xs[j] := by simp [List.getD, hj]
 rw [List.take_succ_eq_append_getElem hj, List.all_append, h, List.all_cons, List.all_nil, ← e, hk]
 rfl
theorem index_any (xs : List ByteArray) (hR : ∀ k ∈ xs, RefC k) (a : Option Addr) (n cap : Nat) (w : World) (h : IsSt w a n cap xs) :
  Calls Tryz.prog 45 #[.slice a n cap, .func (Fn.func 127) #[] #[]] w (IdxPost w xs) := by
 have hm := h.2.1
 have hnc := h.1
 have hl := h.len
 unfold maxLen at hm
 have H := hid h
 have HL := hid hl
 have HR := hid hR
 clear h hl hR
 go_enter Tryz.func45, Tryz.ntmps45
 go_wp2
 go_loopw [8] (fun i wr => ∃ j : Nat, j ≤ n ∧ i = .int .i64 j ∧ Hid ((xs.take j).all refP = true) ∧ Hid (Below w.heap.size w wr)) (fun i _ => n - (intOf i).toNat)
 case atStart => exact ⟨0, Nat.zero_le _, rfl, hid rfl, hid (Below.refl _ _)⟩
 case round =>
  obtain ⟨j, hj, rfl, HJ, HB⟩ := hrel
  by_cases hlt : j < n
  ·obtain ⟨b, off, rfl, hblt, hc⟩ := H.out.at' j hlt
   have hc' := (Below.cell (p := ⟨b, off + j, none⟩) HB.out hblt).trans hc
   have HM : Hid (xs.getD j eB ∈ xs) := hid (by
    have hj' : j < xs.length := by rw [HL.out]; exact hlt
    have e : xs.getD j eB = xs[j] := by simp [List.getD, hj']
    rw [e]; exact List.getElem_mem hj')
   have HC := hid (none_any _ (HR.out _ HM.out) wr)
   have HT : Hid (refP (xs.getD j eB) = true → (xs.take (j + 1)).all refP = true) := hid (take_all (by rw [HL.out]; exact hlt) HJ.out)
   obtain ⟨K, hK⟩ : ∃ K, xs.getD j eB = K := ⟨_, rfl⟩
   rw [hK] at HC HM HT hc'
   clear hK hc HJ
   go_wp2_with fail
   refine HC.out.mono ?_
   rintro e w5 ⟨rfl, hb5⟩
   have HB5 := hid (bst HB.out hb5)
   clear hb5 HC HB hc'
   cases hf : refP K with
   | true =>
    have HJ' := hid (HT.out hf)
    clear HT hf
    go_wp2
    go_roundw
    case rel => exact ⟨j + 1, by omega, by go_num, HJ', HB5⟩
    case measure => simp [intOf]; omega
   | false =>
    have HF : Hid (xs.all refP = false) := hid (by rw [List.all_eq_false]; exact ⟨K, HM.out, by rw [hf]; simp⟩)
    clear HT hf
    go_wp2
    go_ret
    exact ⟨(j : Int), rfl, by omega, by omega, by rw [HF.out]; simp, HB5.out⟩
  ·obtain rfl : j = n := by omega
   have HF : Hid (xs.all refP = true) := hid (by have := HJ.out; rw [List.take_of_length_le (by rw [HL.out]; exact Nat.le_refl _)] at this; exact this)
   go_wp2
   go_ret
   exact ⟨-1, rfl, by decide, by decide, by rw [HF.out]; rfl, HB.out⟩
theorem contains_any (xs : List ByteArray) (hR : ∀ k ∈ xs, RefC k) (a : Option Addr) (n cap : Nat) (w : World) (h : IsSt w a n cap xs) :
  Calls Tryz.prog 126 #[.slice a n cap, .func (Fn.func 127) #[] #[]] w fun e w' => e = .returned (.bool (!xs.all refP)) ∧ Below w.heap.size w w' := by
 have HI := hid (index_any xs hR a n cap w h)
 unfold IdxPost at HI
 obtain ⟨F, hF⟩ : ∃ F, (!xs.all refP) = F := ⟨_, rfl⟩
 rw [hF] at HI ⊢
 clear h hR hF
 go_enter Tryz.func126, Tryz.ntmps126
 go_wp2_with fail
 refine HI.out.mono ?_
 rintro e w3 ⟨r, rfl, h1, h2, h3, hb3⟩
 have HB := hid hb3
 have H3 := hid h3
 clear hb3 HI h3
 go_wp2
 go_ret
 exact ⟨by rw [← H3.out]; rfl, HB.out⟩
theorem fits_any (N : Nd) (a : Option Addr) (n c : Nat) (hl : N.ks.length = 16) (hp : N.p.length = n) (hm : n ≤ maxLen) (hv : N.v.size ≤ maxLen) (hR : ∀ k ∈ N.ks, RefC k) (w : World) :
  Calls Tryz.prog 98 #[.agg (ndC N a n c)] w fun e w' => e = .returned (.bool (fitsW refP N)) ∧ Below w.heap.size w w' := by
 have HO : Hid (OwnN (w.alloc (.cells (ndC N a n c) 57)) w.heap.size N a n c) := hid (Rg.Own.new _ _ _)
 have HK := hid (kids_any N a n c hl (w.alloc (.cells (ndC N a n c) 57)))
 have HR0 : Hid (RefC (N.ks.getD 0 eB)) := hid (hR _ (by rw [List.getD_eq_getElem?_getD, List.getElem?_eq_getElem (by omega)]; exact List.getElem_mem _))
 have HRK : Hid (∀ k ∈ kidsL N.ks, RefC k) := hid (fun k hk => hR k (List.mem_filter.1 hk).1)
 have HL := hid hl
 have HU := hid (rfl : fitsW refP N = fitsW refP N)
 unfold fitsW at HU
 unfold maxLen at hm hv
 rw [hp] at HU
 obtain ⟨F, hF⟩ : ∃ F, fitsW refP N = F := ⟨_, rfl⟩
 have HF : Hid (F = if N.kd = 1 then decide (N.v.size ≠ 0) && decide (N.v.size ≤ 65552) && decide ((kidsL N.ks).length = 0) else
  if N.kd = 2 then decide (0 < n) && decide (N.v.size = 0) && decide ((kidsL N.ks).length = 1) && decide ((N.ks.getD 0 eB).size ≠ 0) && refP (N.ks.getD 0 eB) else
  if N.kd = 3 then decide (n = 0) && decide (N.v.size = 0) && decide (2 ≤ (kidsL N.ks).length) && (kidsL N.ks).all refP else false) := hid (by
   rw [← hF]
   unfold fitsW
   rw [hp])
 rw [hF]
 clear HU hF hR hl hp
 by_cases hkd : N.kd = 1
 ·rw [if_pos hkd] at HF
  go_enter Tryz.func98, Tryz.ntmps98
  go_wp2_with (refine Rg.run rfl _ _ (op_load_nd HO.out HL.out ?_) ?_; · exact ⟨_, rfl, rfl⟩)
  refine HK.out.mono ?_
  rintro e w3 ⟨a3, n3, cap3, rfl, hs3, hb3⟩
  have hO3 := HO.out.below hb3
  obtain ⟨c0, c1, c2⟩ := nd_cells hO3
  have ck : w3.cell? ⟨w.heap.size, 3, none⟩ = some (.string (N.ks.getD 0 eB)) := nd_kid hO3 HL.out 0 (by decide)
  have hn3 := hs3.len
  have hm3 := hs3.2.1
  have hnc3 := hs3.1
  unfold maxLen at hm3
  have HS3 := hid hs3
  have HB3 := hid (of_al (al_of hb3))
  rw [hn3] at HF
  rw [hkd] at c0
  clear hs3 hb3 hO3 HK hn3
  by_cases hv0 : N.v.size = 0
  ·have hve := size_zero hv0
   rw [hve] at c2
   go_wp2
   go_ret
   exact ⟨by rw [HF.out]; simp [hv0], HB3.out⟩
  ·have hvn := Ni.not_empty (s := N.v) (by omega)
   by_cases hv2 : N.v.size ≤ 65552
   ·by_cases hk3 : n3 = 0
    ·subst hk3
     go_wp2
     go_ret
     exact ⟨by rw [HF.out]; simp [hv0, hv2], HB3.out⟩
    ·go_wp2
     go_ret
     exact ⟨by rw [HF.out]; simp [hv0, hv2, hk3], HB3.out⟩
   ·go_wp2
    go_ret
    exact ⟨by rw [HF.out]; simp [hv0, hv2], HB3.out⟩
 ·rw [if_neg hkd] at HF
  have hk1 : (N.kd == 1) = false := by simp; exact hkd
  clear hkd
  by_cases hkd : N.kd = 2
  ·rw [if_pos hkd] at HF
   go_enter Tryz.func98, Tryz.ntmps98
   go_wp2_with (refine Rg.run rfl _ _ (op_load_nd HO.out HL.out ?_) ?_; · exact ⟨_, rfl, rfl⟩)
   refine HK.out.mono ?_
   rintro e w3 ⟨a3, n3, cap3, rfl, hs3, hb3⟩
   have hO3 := HO.out.below hb3
   obtain ⟨c0, c1, c2⟩ := nd_cells hO3
   have ck : w3.cell? ⟨w.heap.size, 3, none⟩ = some (.string (N.ks.getD 0 eB)) := nd_kid hO3 HL.out 0 (by decide)
   have hn3 := hs3.len
   have hm3 := hs3.2.1
   have hnc3 := hs3.1
   unfold maxLen at hm3
   have HS3 := hid hs3
   have HB3 := hid (of_al (al_of hb3))
   rw [hn3] at HF
   rw [hkd] at c0
   clear hs3 hb3 hO3 HK hn3
   by_cases hn0 : 0 < n
   ·by_cases hv0 : N.v.size = 0
    ·have hve := size_zero hv0
     rw [hve] at c2
     by_cases hk3 : n3 = 1
     ·subst hk3
      obtain ⟨K, hK⟩ : ∃ K, N.ks.getD 0 eB = K := ⟨_, rfl⟩
      rw [hK] at HF ck HR0
      clear hK
      by_cases hz : K.size = 0
      ·obtain rfl := size_zero hz
       go_wp2
       go_ret
       exact ⟨by rw [HF.out]; rw [show decide (eB.size ≠ 0) = false from rfl, Bool.and_false, Bool.false_and]; rfl, HB3.out⟩
      ·have hkn := Ni.not_empty (s := K) (by omega)
       go_wp2_with fail
       refine (HR0.out _).mono ?_
       rintro e w4 ⟨rfl, hb4⟩
       have HB4 := hid (bst HB3.out hb4)
       obtain ⟨rb, hrb⟩ : ∃ rb, refP K = rb := ⟨_, rfl⟩
       rw [hrb] at HF ⊢
       clear hb4 hrb
       go_wp2
       go_ret
       exact ⟨by rw [HF.out]; simp [hn0, hz, hv0], HB4.out⟩
     ·go_wp2
      go_ret
      exact ⟨by rw [HF.out]; simp [hk3], HB3.out⟩
    ·have hvn := Ni.not_empty (s := N.v) (by omega)
     go_wp2
     go_ret
     exact ⟨by rw [HF.out]; simp [hv0], HB3.out⟩
   ·obtain rfl : n = 0 := by omega
    go_wp2
    go_ret
    exact ⟨by rw [HF.out]; simp, HB3.out⟩
  ·rw [if_neg hkd] at HF
   have hk2 : (N.kd == 2) = false := by simp; exact hkd
   clear hkd
   by_cases hkd : N.kd = 3
   ·rw [if_pos hkd] at HF
    go_enter Tryz.func98, Tryz.ntmps98
    go_wp2_with (refine Rg.run rfl _ _ (op_load_nd HO.out HL.out ?_) ?_; · exact ⟨_, rfl, rfl⟩)
    refine HK.out.mono ?_
    rintro e w3 ⟨a3, n3, cap3, rfl, hs3, hb3⟩
    have hO3 := HO.out.below hb3
    obtain ⟨c0, c1, c2⟩ := nd_cells hO3
    have ck : w3.cell? ⟨w.heap.size, 3, none⟩ = some (.string (N.ks.getD 0 eB)) := nd_kid hO3 HL.out 0 (by decide)
    have hn3 := hs3.len
    have hm3 := hs3.2.1
    have hnc3 := hs3.1
    unfold maxLen at hm3
    have HS3 := hid hs3
    have HB3 := hid (of_al (al_of hb3))
    rw [hn3] at HF
    rw [hkd] at c0
    clear hs3 hb3 hO3 HK hn3
    by_cases hn0 : n = 0
    ·subst hn0
     by_cases hv0 : N.v.size = 0
     ·have hve := size_zero hv0
      rw [hve] at c2
      by_cases hk3 : 2 ≤ n3
      ·have HCn := hid (fun w4 hb4 => contains_any (kidsL N.ks) HRK.out a3 n3 cap3 w4 (HS3.out.below hb4))
       obtain ⟨KL, hKL⟩ : ∃ KL, (kidsL N.ks).all refP = KL := ⟨_, rfl⟩
       rw [hKL] at HF HCn
       clear hKL
       go_wp2_with fail
       refine (HCn.out _ (Below.refl _ _)).mono ?_
       rintro e w4 ⟨rfl, hb4⟩
       have HB4 := hid (bst HB3.out hb4)
       clear hb4
       go_wp2
       go_ret
       exact ⟨by rw [HF.out]; simp [hk3, hv0], HB4.out⟩
      ·go_wp2
       go_ret
       exact ⟨by rw [HF.out]; simp [hk3], HB3.out⟩
     ·have hvn := Ni.not_empty (s := N.v) (by omega)
      go_wp2
      go_ret
      exact ⟨by rw [HF.out]; simp [hv0], HB3.out⟩
    ·go_wp2
     go_ret
     exact ⟨by rw [HF.out]; simp [hn0], HB3.out⟩
   ·rw [if_neg hkd] at HF
    have hk3' : (N.kd == 3) = false := by simp; exact hkd
    go_enter Tryz.func98, Tryz.ntmps98
    go_wp2_with (refine Rg.run rfl _ _ (op_load_nd HO.out HL.out ?_) ?_; · exact ⟨_, rfl, rfl⟩)
    refine HK.out.mono ?_
    rintro e w3 ⟨a3, n3, cap3, rfl, hs3, hb3⟩
    have hO3 := HO.out.below hb3
    obtain ⟨c0, c1, c2⟩ := nd_cells hO3
    have ck : w3.cell? ⟨w.heap.size, 3, none⟩ = some (.string (N.ks.getD 0 eB)) := nd_kid hO3 HL.out 0 (by decide)
    have hn3 := hs3.len
    have hm3 := hs3.2.1
    have hnc3 := hs3.1
    unfold maxLen at hm3
    have HS3 := hid hs3
    have HB3 := hid (of_al (al_of hb3))
    clear hs3 hb3 hO3 HK hn3
    go_wp2
    go_ret
    exact ⟨by rw [HF.out]; rfl, HB3.out⟩
theorem check_any (N : Nd) (a : Option Addr) (n c : Nat) (hl : N.ks.length = 16) (w : World) (hB : IsBs w a n c N.p) (hv : N.v.size ≤ maxLen) (hR : ∀ k ∈ N.ks, RefC k) :
  Calls Tryz.prog 74 #[.agg (ndC N a n c)] w fun e w' => e = .returned (.int .i64 (if mayW refP N then 0 else 2)) ∧ Below w.heap.size w w' := by
 have hp := hB.len
 have hm := hB.2.1
 have hnc := hB.1
 have HO : Hid (OwnN (w.alloc (.cells (ndC N a n c) 57)) w.heap.size N a n c) := hid (Rg.Own.new _ _ _)
 have HBe := hid (al1 w (.cells (ndC N a n c) 57))
 have HFt := hid (fits_any N a n c hl hp (by omega) hv hR (w.alloc (.cells (ndC N a n c) 57)))
 have HRi := hid (right_any a n c N.p (w.alloc (.cells (ndC N a n c) 57)) (hB.below (al1 _ _)))
 obtain ⟨c0, c1, c2⟩ := nd_cells HO.out
 have HL := hid hl
 unfold maxLen at hm
 obtain ⟨F, hF⟩ : ∃ F, (if mayW refP N then (0 : Int) else 2) = F := ⟨_, rfl⟩
 have HM : Hid (F = if (decide (n ≤ 64) && rightB N.p && fitsW refP N) = true then 0 else 2) := hid (by rw [← hF]; unfold mayW; rw [hp])
 rw [hF]
 clear hF hR hB hp hl hv
 obtain ⟨R, hR⟩ : ∃ R, rightB N.p = R := ⟨_, rfl⟩
 obtain ⟨T, hT⟩ : ∃ T, fitsW refP N = T := ⟨_, rfl⟩
 rw [hR] at HM HRi
 rw [hT] at HM HFt
 clear hR hT
 by_cases h64 : n ≤ 64
 ·have d64 : decide (64 < (n : Int)) = false := by simp; omega
  cases R with
  | true =>
   go_enter Tryz.func74, Tryz.ntmps74
   go_wp2_with fail
   refine HRi.out.mono ?_
   rintro e w3 ⟨rfl, rfl⟩
   go_wp2_with (refine Rg.runW (by rfl) _ _ (op_load_nd HO.out HL.out ?_) ?_; · exact ⟨_, rfl, rfl⟩)
   refine HFt.out.mono ?_
   rintro e w3 ⟨rfl, hb3⟩
   have HB3 := hid (bst HBe.out hb3)
   clear hb3 HFt HRi
   cases T
   all_goals
    go_wp2
    go_ret
    exact ⟨by rw [HM.out]; simp [h64], HB3.out⟩
  | false =>
   go_enter Tryz.func74, Tryz.ntmps74
   go_wp2_with fail
   refine HRi.out.mono ?_
   rintro e w3 ⟨rfl, rfl⟩
   go_wp2
   go_ret
   exact ⟨by rw [HM.out]; simp, HBe.out⟩
 ·have d64 : decide (64 < (n : Int)) = true := by simp; omega
  go_enter Tryz.func74, Tryz.ntmps74
  go_wp2
  go_ret
  exact ⟨by rw [HM.out]; simp [h64], HBe.out⟩
end No
end
section
open Go.RowKit
namespace No
open Rl Ni
theorem good_of {s : List UInt8} {x : It} (hs : s.length ≤ 1000000) (h : wholeL s = .ok x) : ∀ y ∈ x.xs, Good y := by
 obtain ⟨g1, g2, g3⟩ := whole_back (by omega) h
 intro y hy
 have h1 := in_less g2 (by rw [g1]; omega) hy
 rw [g1] at h1
 have h2 := fits_mono y (fits_in g2 hy) (Nat.zero_le _)
 obtain ⟨i, hi⟩ := List.getElem?_of_mem hy
 have h3 := sum_le x.xs i y hi
 have h4 : x.size = 1 + (x.xs.map It.size).sum := by cases x; exact It.size_mk _ _ _
 have h5 := inner_le y
 have h6 : y.s.size ≤ y.inner.length := by
  unfold It.inner
  rw [List.length_append, len_s]
  omega
 exact ⟨h2, by omega, by omega, by omega⟩
theorem whole_code {s : List UInt8} {c : Int} (h : wholeL s = .error c) : c ≠ 0 := by
 unfold wholeL at h
 split at h
 ·rename_i c' hr
  cases h
  have := (codes s.length).1 _ _ _ _ (Nat.le_refl _) hr
  omega
 ·split at h
  ·cases h; decide
  ·cases h
theorem readP_v {xs : List It} {N : Nd} (hG : ∀ x ∈ xs, Good x) (h : readP xs = some N) : N.v.size ≤ 1000000 := by
 unfold readP at h
 by_cases h2 : xs.length = 2
 ·rw [if_pos h2] at h
  have h1 := hG _ (getD_mem' (xs := xs) (i := 1) (by omega))
  unfold readPathP at h
  split at h
  ·cases h
  ·split at h
   ·obtain rfl := Option.some.inj h
    exact h1.2.2.2
   ·obtain ⟨k, hk, rfl⟩ := Option.map_eq_some_iff.1 h
    exact Nat.zero_le _
 ·rw [if_neg h2] at h
  split at h
  ·unfold readBranchP at h
   split at h
   ·cases h
   ·split at h
    ·obtain rfl := Option.some.inj h
     exact Nat.zero_le _
    ·cases h
  ·cases h
theorem get_step (s : ByteArray) (hs : s.size ≤ 1000000) (ih : ∀ k : ByteArray, k.size < 32 → k.size < s.size → GetC k) : GetC s := by
 intro w
 have hsl := len_s s
 obtain ⟨w2, hw2⟩ : ∃ w2, w2 = w.alloc (.cells (ndC nd0 none 0 0) 57) := ⟨_, rfl⟩
 have hO : OwnN w2 w.heap.size nd0 none 0 0 := by rw [hw2]; exact Rg.Own.new _ _ _
 have hB2 : Below w.heap.size w w2 := by rw [hw2]; exact al1 _ _
 have HO := hid hO
 have HB2 := hid hB2
 have hW := whole_any s (by omega) w2
 have hgt := getP_eq s.data.toList (by omega)
 cases hr : wholeL s.data.toList with
 | error c =>
  rw [hr] at hW hgt
  have HW : Hid (Calls Tryz.prog 119 #[.string s] w2 fun e w' => e = .returned (.tuple #[itV it0 none 0 0, .int .i64 c]) ∧ Below w2.heap.size w2 w') := hid hW
  unfold itV at HW
  dsimp only [it0, It.l, It.s] at HW
  have hne : (c != 0) = true := by simp; exact whole_code hr
  have HC := hid (whole_code hr)
  have HG : Hid (getP s.data.toList = none) := hid hgt
  rw [HG.out]
  clear hO hB2 hr hgt ih hW
  subst hw2
  go_enter Tryz.func90, Tryz.ntmps90
  go_wp2_with (refine Rg.run rfl _ _ (run_alloc_nd _ _ _ w.heap.size rfl rfl) ?_)
  with_reducible refine HW.out.mono ?_
  rintro e w3 ⟨rfl, hb3⟩
  have HO3 := hid ((HO.out.below hb3).below (al1 w3 (.cells #[.bool false, .string ⟨#[]⟩, .slice none 0 0] 113)))
  have HB3 := hid (bst (bst HB2.out hb3) (al1 w3 (.cells #[.bool false, .string ⟨#[]⟩, .slice none 0 0] 113)))
  clear hb3 HW
  go_wp2_with (first
   | (refine Rg.run rfl _ _ (op_build built0 ?_) ?_; · exact ⟨_, rfl, rfl⟩)
   | (refine wpl_store_nd HO3.out rfl nd0 none 0 0 rfl rfl _ _ rfl rfl rfl rfl ?_))
  exact bodyPost_ret (res_nd1 rfl _ rfl (own_rowN HO3.out) rfl) rfl ⟨nd0, none, 0, 0, c, rfl, .inr ⟨HC.out, rfl, rfl⟩, BsF.nil _ _, rfl, below_rowN HB3.out (Nat.le_refl _) _⟩
 | ok x =>
  have hG := good_of (by omega) hr
  rw [hr] at hW hgt
  dsimp only at hgt
  have HW : Hid (Calls Tryz.prog 119 #[.string s] w2 fun e w' => ∃ a nn cap, e = .returned (.tuple #[itV x a nn cap, .int .i64 0]) ∧ ItsIn w2.heap.size w' x.xs a nn cap ∧ Below w2.heap.size w2 w') := hid hW
  unfold itV at HW
  have HRd := hid (fun w a n cap h => read_any x.xs a n cap w h hG)
  have HGt := hid hgt
  have HKs : Hid (∀ N, readP x.xs = some N → N.v.size ≤ maxLen ∧ ∀ k ∈ N.ks, RefC k) := hid (fun N hN => by
   have h1 := readP_v hG hN
   obtain ⟨_, h2⟩ := kid_less (by omega) hr hN
   refine ⟨Nat.le_trans h1 (by unfold maxLen; omega), fun k hk => ?_⟩
   have hs0 : 0 < s.size := by
    have hb := whole_back (by omega) hr
    have := bytes_pos hb.2.1 (by rw [hb.1]; omega)
    rw [hb.1] at this
    have := List.length_pos_iff.2 this
    omega
   rcases h2 k hk with hp | ⟨h3, h4⟩
   ·have hp := of_decide_eq_true hp
    exact ref_of k (by omega) (fun h => ih k h (by omega))
   ·exact ref_of k (by omega) (fun h => ih k h (by omega)))
  obtain ⟨r, hrr⟩ : ∃ r, readP x.xs = r := ⟨_, rfl⟩
  obtain ⟨G, hGG⟩ : ∃ G, getP s.data.toList = G := ⟨_, rfl⟩
  rw [hrr] at HGt HRd HKs
  rw [hGG] at HGt
  rw [hGG]
  clear hO hB2 hr hgt ih hW hG hrr hGG
  subst hw2
  go_enter Tryz.func90, Tryz.ntmps90
  go_wp2_with (refine Rg.run rfl _ _ (run_alloc_nd _ _ _ w.heap.size rfl rfl) ?_)
  with_reducible refine HW.out.mono ?_
  rintro e w3 ⟨a3, n3, c3, rfl, hI3, hb3⟩
  obtain ⟨w4, hw4⟩ : ∃ w4, w4 = w3.alloc (.cells #[.bool x.l, .string x.s, .slice a3 n3 c3] 113) := ⟨_, rfl⟩
  have hb4 : Below w3.heap.size w3 w4 := by rw [hw4]; exact al1 _ _
  have hO4 := (HO.out.below hb3).below hb4
  have hB4 := bst (bst HB2.out hb3) hb4
  have HR4 := hid (HRd.out w4 a3 n3 c3 (ItsIn.weak (hI3.stays hb4) (Nat.zero_le _)))
  have HO4 := hid hO4
  have HB4 := hid hB4
  clear hb3 hb4 hI3 hO4 hB4 HW HRd
  subst hw4
  go_wp2_with fail
  with_reducible refine HR4.out.mono ?_
  rintro e w5 ⟨N, a5, n5, c5, b5, rfl, hr5, hx5, hl5, hb5⟩
  have hge5 := hb5.size
  have hO5 := HO4.out.below hb5
  have hB5 := bst HB4.out hb5
  obtain ⟨w6, hw6⟩ : ∃ w6, w6 = w5.alloc (.cells (ndC N a5 n5 c5) 57) := ⟨_, rfl⟩
  have HN5 : Hid (OwnN (w5.alloc (.cells (ndC nd0 none 0 0) 57)) w5.heap.size nd0 none 0 0) := hid (Rg.Own.new _ _ _)
  have HN6 : Hid (OwnN ((w5.alloc (.cells (ndC nd0 none 0 0) 57)).setRow w5.heap.size (ndC N a5 n5 c5)) w5.heap.size N a5 n5 c5) := hid (own_rowN HN5.out)
  have hB6 : Below w5.heap.size w5 ((w5.alloc (.cells (ndC nd0 none 0 0) 57)).setRow w5.heap.size (ndC N a5 n5 c5)) := below_rowN (al1 _ _) (Nat.le_refl _) _
  have HO6 := hid (hO5.below hB6)
  have HB6 := hid (bst hB5 hB6)
  have HX6 := hid (hx5.below hB6)
  have HL5 := hid hl5
  have hw0 := HO4.out.1
  clear hO5 hB5 hx5 hl5 hb5 hB6 HR4 HO4 HB4 hw6 w6
  rcases hr5 with ⟨rfl, rfl⟩ | ⟨rfl, rfl⟩
  ·have hck := check_any N a5 n5 c5 HL5.out ((w5.alloc (.cells (ndC nd0 none 0 0) 57)).setRow w5.heap.size (ndC N a5 n5 c5)) HX6.out.1 (HKs.out N rfl).1 (HKs.out N rfl).2
   obtain ⟨M, hM⟩ : ∃ M, mayW refP N = M := ⟨_, rfl⟩
   have HG : Hid (G = if M = true then some N else none) := hid (by rw [HGt.out, ← hM])
   rw [hM] at hck
   have HC := hid hck
   clear hM HGt HKs hck
   go_wp2_with (first
    | (refine Rg.run rfl _ _ (run_alloc_nd _ _ _ w5.heap.size rfl rfl) ?_)
    | (refine wpl_store_nd HN5.out rfl N a5 n5 c5 HL5.out rfl _ _ rfl rfl rfl rfl ?_)
    | (refine Rg.runW (by rfl) _ _ (op_load_nd HN6.out HL5.out ?_) ?_; · exact ⟨_, rfl, rfl⟩))
   refine HC.out.mono ?_
   rintro e w7 ⟨rfl, hb7⟩
   have hs7 := hb7.size
   have HN7 := hid (HN6.out.below hb7)
   have HO7 := hid (HO6.out.below hb7)
   have HB7 := hid (bst HB6.out hb7)
   have HX7 := hid (HX6.out.below hb7)
   clear hb7 HC HO6 HB6 HX6
   cases M with
   | true =>
    go_wp2_with (first
     | (refine Rg.run rfl _ _ (op_load_nd HN7.out HL5.out ?_) ?_; · exact ⟨_, rfl, rfl⟩)
     | (refine wpl_store_nd HO7.out rfl N a5 n5 c5 HL5.out rfl _ _ rfl rfl rfl rfl ?_))
    exact bodyPost_ret (res_nd1 rfl _ rfl (own_rowN HO7.out) HL5.out) rfl ⟨N, a5, n5, c5, 0, rfl, .inl ⟨rfl, HG.out⟩, (HX7.out.row (by omega) _).weak (by omega), HL5.out, below_rowN HB7.out (Nat.le_refl _) _⟩
   | false =>
    go_wp2_with (first
     | (refine Rg.run rfl _ _ (op_build built0 ?_) ?_; · exact ⟨_, rfl, rfl⟩)
     | (refine wpl_store_nd HO7.out rfl nd0 none 0 0 rfl rfl _ _ rfl rfl rfl rfl ?_))
    exact bodyPost_ret (res_nd1 rfl _ rfl (own_rowN HO7.out) rfl) rfl ⟨nd0, none, 0, 0, 6, rfl, .inr ⟨by decide, rfl, HG.out⟩, BsF.nil _ _, rfl, below_rowN HB7.out (Nat.le_refl _) _⟩
  ·have HG : Hid (G = none) := HGt
   go_wp2_with (first
    | (refine Rg.run rfl _ _ (run_alloc_nd _ _ _ w5.heap.size rfl rfl) ?_)
    | (refine wpl_store_nd HN5.out rfl N a5 n5 c5 HL5.out rfl _ _ rfl rfl rfl rfl ?_)
    | (refine Rg.run rfl _ _ (op_build built0 ?_) ?_; · exact ⟨_, rfl, rfl⟩)
    | (refine wpl_store_nd HO6.out rfl nd0 none 0 0 rfl rfl _ _ rfl rfl rfl rfl ?_))
   exact bodyPost_ret (res_nd1 rfl _ rfl (own_rowN HO6.out) rfl) rfl ⟨nd0, none, 0, 0, 6, rfl, .inr ⟨by decide, rfl, HG.out⟩, BsF.nil _ _, rfl, below_rowN HB6.out (Nat.le_refl _) _⟩
theorem get_upto (N : Nat) (hN : N ≤ 1000000) : ∀ s : ByteArray, s.size ≤ N → GetC s := by
 induction N using Nat.strongRecOn with
 | ind N ih => exact fun s hs => get_step s (by omega) (fun k _ hk => ih k.size (by omega) (by omega) k (Nat.le_refl _))
theorem nget_any (s : ByteArray) (hs : s.size ≤ 1000000) : GetC s := get_upto s.size hs s (Nat.le_refl _)
theorem ref_any (k : ByteArray) (hk : k.size ≤ 9223372036854775807) : RefC k := ref_of k hk (fun h => nget_any k (by omega))
end No
end
section
open Go.RowKit
namespace Rf
open Rl Ni No
end Rf
end
section
open Go.RowKit
namespace Rf
open Rl Ni No Sh Sm
theorem str_eq (a b : ByteArray) : (a.toList == b.toList) = decide (a = b) := by
 by_cases h : a = b
 ·subst h; simp
 ·rw [decide_eq_false h, beq_eq_false_iff_ne]
  intro e
  apply h
  rw [ByteArray.toList_eq, ByteArray.toList_eq] at e
  apply ByteArray.ext
  exact Array.ext' e
theorem cell_box (w : World) (v : Value) (t : TypeId) : (w.alloc (.cells #[v] t)).cell? ⟨w.heap.size, 0, none⟩ = some v := by
 have := Bu.cell_one_new' w v t (0, 0) 0 v rfl
 rwa [Addr.add_mid] at this
def ofP (s : ByteArray) : ByteArray := if s.size < 32 then s else ⟨(sumB s).toArray⟩
theorem sum_of (s : ByteArray) (hs : s.size ≤ 900000) (w : World) (hT : Tab w) : Calls Tryz.prog 50 #[.string s] w fun e w' => e = .returned (.agg (kc (sumB s))) ∧ Below w.heap.size w w' := Sm.of_any s hs w hT
theorem fof_any (s : ByteArray) (hs : s.size ≤ 900000) (w : World) (hT : Tab w) :
  Calls Tryz.prog 49 #[.string s] w fun e w' => e = .returned (.string (ofP s)) ∧ Below w.heap.size w w' := by
 by_cases h : s.size < 32
 ·have HF : Hid (ofP s = s) := hid (by unfold ofP; rw [if_pos h])
  have hd : decide ((s.size : Int) < 32) = true := by simp; omega
  rw [HF.out]
  clear hT HF
  go_enter Tryz.func49, Tryz.ntmps49
  go_wp2
  go_ret
  exact ⟨rfl, Below.refl _ _⟩
 ·have HF : Hid (ofP s = ⟨(sumB s).toArray⟩) := hid (by unfold ofP; rw [if_neg h])
  have hd : decide ((s.size : Int) < 32) = false := by simp; omega
  have HOf := hid (sum_of s hs w hT)
  have HTx := hid (fun W => Sm.text_any (sumB s) (sumB_length s) W)
  rw [HF.out]
  obtain ⟨K, hK⟩ : ∃ K, sumB s = K := ⟨_, rfl⟩
  rw [hK] at HOf HTx
  rw [hK]
  obtain ⟨T, hTT⟩ : ∃ T, (⟨K.toArray⟩ : ByteArray) = T := ⟨_, rfl⟩
  rw [hTT] at HTx
  rw [hTT]
  clear hT HF hK hTT
  go_enter Tryz.func49, Tryz.ntmps49
  go_wp2_with fail
  refine HOf.out.mono ?_
  rintro e w1 ⟨rfl, hb1⟩
  go_wp2_with fail
  refine (HTx.out _).mono ?_
  rintro e w2 ⟨rfl, hb2⟩
  go_wp2
  go_ret
  exact ⟨rfl, bst hb1 hb2⟩
def rootP (s : ByteArray) : List UInt8 := if s.size = 0 then sumB ⟨#[128]⟩ else sumB s
theorem rootP_length (s : ByteArray) : (rootP s).length = 32 := by unfold rootP; split <;> exact sumB_length _
theorem root_any (s : ByteArray) (hs : s.size ≤ 900000) (w : World) (hT : Tab w) :
  Calls Tryz.prog 28 #[.string s] w fun e w' => e = .returned (.agg (kc (rootP s))) ∧ Below w.heap.size w w' := by
 have h0 := hT.pos
 have HT := hid hT
 have HKl := hid (rootP_length s)
 by_cases h : s.size = 0
 ·obtain rfl := size_zero h
  have HOf := hid (fun W (h : Tab W) => sum_of ⟨#[128]⟩ (by decide) W h)
  have hR : rootP eB = sumB ⟨#[128]⟩ := rfl
  rw [← hR] at HOf
  obtain ⟨K, hK⟩ : ∃ K, rootP eB = K := ⟨_, rfl⟩
  rw [hK] at HOf HKl
  rw [hK]
  clear hT hK hR h
  go_enter Tryz.func28, Tryz.ntmps28
  go_wp2_with (refine wpList_run rfl _ _ (run_alloc_sum _ _ rfl _ _ rfl) ?_)
  refine (HOf.out _ (HT.out.below (al1 _ _) h0)).mono ?_
  rintro e w1 ⟨rfl, hb1⟩
  have HO2 := hid ((Rg.Own.new w (kc zk) 35).below hb1)
  have HB2 : Hid (Below w.heap.size w w1) := hid (bst (al1 _ _) hb1)
  clear hb1
  go_wp2_with (refine wpList_store_rowTo rfl 35 _ _ rfl rfl _ (kc K) rfl rfl 35 (kc zk) HO2.out.2 (info_kc K HKl.out) (by rw [kc_size, kc_size, HKl.out]; rfl) (kc_one _) ?_)
  exact bodyPost_ret (results_cell_row rfl _ _ w.heap.size 35 (kc K) (0, 0) _ rfl (setRow_heap _ _ _ _ _ _ HO2.out.2) Tryz.underlying35 rfl (info_kc K HKl.out)) rfl ⟨rfl, Sm.below_row HB2.out (Nat.le_refl _) _⟩
 ·have hne := Ni.not_empty (s := s) (by omega)
  have HOf := hid (fun W (h : Tab W) => sum_of s hs W h)
  have hR : rootP s = sumB s := by unfold rootP; rw [if_neg h]
  rw [← hR] at HOf
  obtain ⟨K, hK⟩ : ∃ K, rootP s = K := ⟨_, rfl⟩
  rw [hK] at HOf HKl
  rw [hK]
  clear hT hK hR h
  go_enter Tryz.func28, Tryz.ntmps28
  go_wp2_with (refine wpList_run rfl _ _ (run_alloc_sum _ _ rfl _ _ rfl) ?_)
  refine (HOf.out _ (HT.out.below (al1 _ _) h0)).mono ?_
  rintro e w1 ⟨rfl, hb1⟩
  have HO2 := hid ((Rg.Own.new w (kc zk) 35).below hb1)
  have HB2 : Hid (Below w.heap.size w w1) := hid (bst (al1 _ _) hb1)
  clear hb1
  go_wp2_with (refine wpList_store_rowTo rfl 35 _ _ rfl rfl _ (kc K) rfl rfl 35 (kc zk) HO2.out.2 (info_kc K HKl.out) (by rw [kc_size, kc_size, HKl.out]; rfl) (kc_one _) ?_)
  exact bodyPost_ret (results_cell_row rfl _ _ w.heap.size 35 (kc K) (0, 0) _ rfl (setRow_heap _ _ _ _ _ _ HO2.out.2) Tryz.underlying35 rfl (info_kc K HKl.out)) rfl ⟨rfl, Sm.below_row HB2.out (Nat.le_refl _) _⟩
end Rf
end
end Go.Proofs.YtooklabipgmolaaGreatDoor
