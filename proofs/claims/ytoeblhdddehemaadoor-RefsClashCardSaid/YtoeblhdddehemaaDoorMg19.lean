/-
  Contracts of node.Reference, node.fits, node.Check, node.Get: of any bytes.
-/
import Derived.Test.YtoeblhdddehemaaDoorMg18
import Derived.Test.YtoeblhdddehemaaDoorMg10
import Derived.Test.YtoeblhdddehemaaDoorMg14
namespace Go.Proofs.YtoeblhdddehemaaDoor
set_option maxRecDepth 100000
open Go.RowKit

namespace No
open Rl Ni
/-- Reference tells of this text what it ought to -/
def RefC (k : ByteArray) : Prop := ∀ w : World, Calls Tryd.prog 29 #[.string k] w fun e w' => e = .returned (.bool (refP k)) ∧ Below w.heap.size w w'
/-- what Get hands back -/
def GetPost (w : World) (r : Option Nd) (e : Ending) (w' : World) : Prop := ∃ (N : Nd) (a : Option Addr) (n c : Nat) (er : Int), e = .returned (.tuple #[.agg (ndC N a n c), .int .i64 er]) ∧ (er = 0 ∧ r = some N ∨ er ≠ 0 ∧ N = nd0 ∧ r = none) ∧
  BsF w.heap.size w' a n c N.p ∧ N.ks.length = 16 ∧ Below w.heap.size w w'
def GetC (s : ByteArray) : Prop := ∀ w : World, Calls Tryd.prog 30 #[.string s] w (GetPost w (getP s.data.toList))

set_option maxHeartbeats 4000000 in
theorem laid_any (s : ByteArray) (h : GetC s) (w : World) : Calls Tryd.prog 49 #[.string s] w fun e w' => e = .returned (.bool (getP s.data.toList).isSome) ∧ Below w.heap.size w w' := by
  have HG := Lib.hid (h w)
  obtain ⟨r, hr⟩ : ∃ r, getP s.data.toList = r := ⟨_, rfl⟩
  rw [hr] at HG ⊢
  clear h hr
  go_enter Tryd.func49, Tryd.ntmps49
  go_wp2_with fail
  refine HG.out.mono ?_
  rintro e w3 ⟨N, a3, n3, c3, er, rfl, hr3, hx3, hl3, hb3⟩
  have HO : Hid (OwnN (w3.alloc (.cells (ndC nd0 none 0 0) 45)) w3.heap.size nd0 none 0 0) := Lib.hid (Rg.Own.new _ _ _)
  have HB := Lib.hid (below_step' hb3 (al1 w3 (.cells (ndC nd0 none 0 0) 45)))
  have HL := Lib.hid hl3
  have hge := hb3.size
  clear hx3 hl3 hb3 HG
  rcases hr3 with ⟨rfl, rfl⟩ | ⟨he, rfl, rfl⟩
  · go_wp2_with (first
      | (refine Rg.run rfl _ _ (run_alloc_nd _ _ _ w3.heap.size rfl rfl) ?_)
      | (refine wpl_store_nd HO.out rfl N a3 n3 c3 HL.out rfl _ _ rfl rfl rfl rfl ?_))
    go_ret
    exact ⟨rfl, below_rowN HB.out hge _⟩
  · have hd : (er == 0) = false := by simp; exact he
    go_wp2_with (first
      | (refine Rg.run rfl _ _ (run_alloc_nd _ _ _ w3.heap.size rfl rfl) ?_)
      | (refine wpl_store_nd HO.out rfl nd0 a3 n3 c3 HL.out rfl _ _ rfl rfl rfl rfl ?_))
    go_ret
    exact ⟨rfl, below_rowN HB.out hge _⟩

set_option maxHeartbeats 4000000 in
theorem ref_of (k : ByteArray) (hk : k.size ≤ 9223372036854775807) (h : k.size < 32 → GetC k) : RefC k := by
  intro w
  have HP := Lib.hid (plain_any k w)
  cases hp : plainB k with
  | true =>
    have HF : Hid (refP k = true) := Lib.hid (by unfold refP; rw [hp]; rfl)
    rw [hp] at HP
    rw [HF.out]
    clear h hp
    go_enter Tryd.func29, Tryd.ntmps29
    go_wp2_with fail
    refine HP.out.mono ?_
    rintro e w3 ⟨rfl, rfl⟩
    go_wp2
    go_ret
    exact ⟨rfl, Below.refl _ _⟩
  | false =>
    rw [hp] at HP
    by_cases h32 : k.size < 32
    · have HF : Hid (refP k = (getP k.data.toList).isSome) := Lib.hid (by unfold refP; rw [hp]; simp [h32])
      have HG := Lib.hid (laid_any k (h h32) w)
      rw [← HF.out] at HG
      clear h hp HF
      go_enter Tryd.func29, Tryd.ntmps29
      go_wp2_with fail
      refine HP.out.mono ?_
      rintro e w3 ⟨rfl, rfl⟩
      go_wp2_with fail
      refine HG.out.mono ?_
      rintro e w4 ⟨rfl, hb4⟩
      have HB := Lib.hid hb4
      clear hb4
      go_wp2
      go_ret
      exact ⟨rfl, HB.out⟩
    · have HF : Hid (refP k = false) := Lib.hid (by unfold refP; rw [hp]; simp [h32])
      rw [HF.out]
      clear h hp
      go_enter Tryd.func29, Tryd.ntmps29
      go_wp2_with fail
      refine HP.out.mono ?_
      rintro e w3 ⟨rfl, rfl⟩
      go_wp2
      go_ret
      exact ⟨rfl, Below.refl _ _⟩

set_option maxHeartbeats 4000000 in
theorem none_any (k : ByteArray) (h : RefC k) (w : World) : Calls Tryd.prog 80 #[.string k] w fun e w' => e = .returned (.bool (!refP k)) ∧ Below w.heap.size w w' := by
  have HG := Lib.hid (h w)
  obtain ⟨r, hr⟩ : ∃ r, refP k = r := ⟨_, rfl⟩
  rw [hr] at HG ⊢
  clear h hr
  go_enter Tryd.func80, Tryd.ntmps80
  go_wp2_with fail
  refine HG.out.mono ?_
  rintro e w3 ⟨rfl, hb3⟩
  have HB := Lib.hid hb3
  clear hb3
  go_wp2
  go_ret
  exact ⟨rfl, HB.out⟩

/-- what IndexFunc hands back: a place if there is one that is no reference -/
def IdxPost (w : World) (xs : List ByteArray) (e : Ending) (w' : World) : Prop := ∃ r : Int, e = .returned (.int .i64 r) ∧ -1 ≤ r ∧ r ≤ 9223372036854775807 ∧ decide (0 ≤ r) = !xs.all refP ∧ Below w.heap.size w w'
theorem take_all {xs : List ByteArray} {j : Nat} (hj : j < xs.length) (h : (xs.take j).all refP = true) (hk : refP (xs.getD j eB) = true) : (xs.take (j + 1)).all refP = true := by
  have e : xs.getD j eB = xs[j] := by simp [List.getD, hj]
  rw [List.take_succ_eq_append_getElem hj, List.all_append, h, List.all_cons, List.all_nil, ← e, hk]
  rfl
set_option maxHeartbeats 4000000 in
theorem index_any (xs : List ByteArray) (hR : ∀ k ∈ xs, RefC k) (a : Option Addr) (n cap : Nat) (w : World) (h : IsSt w a n cap xs) :
    Calls Tryd.prog 23 #[.slice a n cap, .func (Fn.func 80) #[] #[]] w (IdxPost w xs) := by
  have hm := h.2.1
  have hnc := h.1
  have hl := h.len
  unfold maxLen at hm
  have H := Lib.hid h
  have HL := Lib.hid hl
  have HR := Lib.hid hR
  clear h hl hR
  go_enter Tryd.func23, Tryd.ntmps23
  go_wp2
  go_loopw [8] (fun i wr => ∃ j : Nat, j ≤ n ∧ i = .int .i64 j ∧ Hid ((xs.take j).all refP = true) ∧ Hid (Below w.heap.size w wr)) (fun i _ => n - (intOf i).toNat)
  case atStart => exact ⟨0, Nat.zero_le _, rfl, Lib.hid rfl, Lib.hid (Below.refl _ _)⟩
  case round =>
    obtain ⟨j, hj, rfl, HJ, HB⟩ := hrel
    by_cases hlt : j < n
    · obtain ⟨b, off, rfl, hblt, hc⟩ := H.out.at' j hlt
      have hc' := (Below.cell (p := ⟨b, off + j, none⟩) HB.out hblt).trans hc
      have HM : Hid (xs.getD j eB ∈ xs) := Lib.hid (by
        have hj' : j < xs.length := by rw [HL.out]; exact hlt
        have e : xs.getD j eB = xs[j] := by simp [List.getD, hj']
        rw [e]; exact List.getElem_mem hj')
      have HC := Lib.hid (none_any _ (HR.out _ HM.out) wr)
      have HT : Hid (refP (xs.getD j eB) = true → (xs.take (j + 1)).all refP = true) := Lib.hid (take_all (by rw [HL.out]; exact hlt) HJ.out)
      obtain ⟨K, hK⟩ : ∃ K, xs.getD j eB = K := ⟨_, rfl⟩
      rw [hK] at HC HM HT hc'
      clear hK hc HJ
      go_wp2_with fail
      refine HC.out.mono ?_
      rintro e w5 ⟨rfl, hb5⟩
      have HB5 := Lib.hid (below_step' HB.out hb5)
      clear hb5 HC HB hc'
      cases hf : refP K with
      | true =>
        have HJ' := Lib.hid (HT.out hf)
        clear HT hf
        go_wp2
        go_roundw
        case rel => exact ⟨j + 1, by omega, by go_num, HJ', HB5⟩
        case measure => simp [intOf]; omega
      | false =>
        have HF : Hid (xs.all refP = false) := Lib.hid (by rw [List.all_eq_false]; exact ⟨K, HM.out, by rw [hf]; simp⟩)
        clear HT hf
        go_wp2
        go_ret
        exact ⟨(j : Int), rfl, by omega, by omega, by rw [HF.out]; simp, HB5.out⟩
    · obtain rfl : j = n := by omega
      have HF : Hid (xs.all refP = true) := Lib.hid (by have := HJ.out; rw [List.take_of_length_le (by rw [HL.out]; exact Nat.le_refl _)] at this; exact this)
      go_wp2
      go_ret
      exact ⟨-1, rfl, by decide, by decide, by rw [HF.out]; rfl, HB.out⟩

set_option maxHeartbeats 4000000 in
theorem contains_any (xs : List ByteArray) (hR : ∀ k ∈ xs, RefC k) (a : Option Addr) (n cap : Nat) (w : World) (h : IsSt w a n cap xs) :
    Calls Tryd.prog 79 #[.slice a n cap, .func (Fn.func 80) #[] #[]] w fun e w' => e = .returned (.bool (!xs.all refP)) ∧ Below w.heap.size w w' := by
  have HI := Lib.hid (index_any xs hR a n cap w h)
  unfold IdxPost at HI
  obtain ⟨F, hF⟩ : ∃ F, (!xs.all refP) = F := ⟨_, rfl⟩
  rw [hF] at HI ⊢
  clear h hR hF
  go_enter Tryd.func79, Tryd.ntmps79
  go_wp2_with fail
  refine HI.out.mono ?_
  rintro e w3 ⟨r, rfl, h1, h2, h3, hb3⟩
  have HB := Lib.hid hb3
  have H3 := Lib.hid h3
  clear hb3 HI h3
  go_wp2
  go_ret
  exact ⟨by rw [← H3.out]; rfl, HB.out⟩

set_option maxHeartbeats 16000000 in
theorem fits_any (N : Nd) (a : Option Addr) (n c : Nat) (hl : N.ks.length = 16) (hp : N.p.length = n) (hm : n ≤ maxLen) (hv : N.v.size ≤ maxLen) (hR : ∀ k ∈ N.ks, RefC k) (w : World) :
    Calls Tryd.prog 57 #[.agg (ndC N a n c)] w fun e w' => e = .returned (.bool (fitsW refP N)) ∧ Below w.heap.size w w' := by
  have HO : Hid (OwnN (w.alloc (.cells (ndC N a n c) 45)) w.heap.size N a n c) := Lib.hid (Rg.Own.new _ _ _)
  have HK := Lib.hid (kids_any N a n c hl (w.alloc (.cells (ndC N a n c) 45)))
  have HR0 : Hid (RefC (N.ks.getD 0 eB)) := Lib.hid (hR _ (by rw [List.getD_eq_getElem?_getD, List.getElem?_eq_getElem (by omega)]; exact List.getElem_mem _))
  have HRK : Hid (∀ k ∈ kidsL N.ks, RefC k) := Lib.hid (fun k hk => hR k (List.mem_filter.1 hk).1)
  have HL := Lib.hid hl
  have HU := Lib.hid (rfl : fitsW refP N = fitsW refP N)
  unfold fitsW at HU
  unfold maxLen at hm hv
  rw [hp] at HU
  obtain ⟨F, hF⟩ : ∃ F, fitsW refP N = F := ⟨_, rfl⟩
  have HF : Hid (F = if N.kd = 1 then decide (N.v.size ≠ 0) && decide (N.v.size ≤ 65552) && decide ((kidsL N.ks).length = 0) else
    if N.kd = 2 then decide (0 < n) && decide (N.v.size = 0) && decide ((kidsL N.ks).length = 1) && decide ((N.ks.getD 0 eB).size ≠ 0) && refP (N.ks.getD 0 eB) else
    if N.kd = 3 then decide (n = 0) && decide (N.v.size = 0) && decide (2 ≤ (kidsL N.ks).length) && (kidsL N.ks).all refP else false) := Lib.hid (by
      rw [← hF]
      unfold fitsW
      rw [hp])
  rw [hF]
  clear HU hF hR hl hp
  by_cases hkd : N.kd = 1
  · rw [if_pos hkd] at HF
    go_enter Tryd.func57, Tryd.ntmps57
    go_wp2_with (refine Rg.run rfl _ _ (op_load_nd HO.out HL.out ?_) ?_; · exact ⟨_, rfl, rfl⟩)
    refine HK.out.mono ?_
    rintro e w3 ⟨a3, n3, cap3, rfl, hs3, hb3⟩
    have hO3 := HO.out.below hb3
    obtain ⟨c0, c1, c2⟩ := nd_cells hO3
    have ck : w3.cell? ⟨w.heap.size, 3, none⟩ = some (.string (N.ks.getD 0 eB)) := nd_kid hO3 HL.out 0 (by decide)
    have hn3 := hs3.len
    have hm3 := hs3.2.1
    have hnc3 := hs3.1
    unfold maxLen at hm3
    have HS3 := Lib.hid hs3
    have HB3 := Lib.hid (of_al (al_of hb3))
    rw [hn3] at HF
    rw [hkd] at c0
    clear hs3 hb3 hO3 HK hn3
    by_cases hv0 : N.v.size = 0
    · have hve := size_zero hv0
      rw [hve] at c2
      go_wp2
      go_ret
      exact ⟨by rw [HF.out]; simp [hv0], HB3.out⟩
    · have hvn := Ni.not_empty (s := N.v) (by omega)
      by_cases hv2 : N.v.size ≤ 65552
      · by_cases hk3 : n3 = 0
        · subst hk3
          go_wp2
          go_ret
          exact ⟨by rw [HF.out]; simp [hv0, hv2], HB3.out⟩
        · go_wp2
          go_ret
          exact ⟨by rw [HF.out]; simp [hv0, hv2, hk3], HB3.out⟩
      · go_wp2
        go_ret
        exact ⟨by rw [HF.out]; simp [hv0, hv2], HB3.out⟩
  · rw [if_neg hkd] at HF
    have hk1 : (N.kd == 1) = false := by simp; exact hkd
    clear hkd
    by_cases hkd : N.kd = 2
    · rw [if_pos hkd] at HF
      go_enter Tryd.func57, Tryd.ntmps57
      go_wp2_with (refine Rg.run rfl _ _ (op_load_nd HO.out HL.out ?_) ?_; · exact ⟨_, rfl, rfl⟩)
      refine HK.out.mono ?_
      rintro e w3 ⟨a3, n3, cap3, rfl, hs3, hb3⟩
      have hO3 := HO.out.below hb3
      obtain ⟨c0, c1, c2⟩ := nd_cells hO3
      have ck : w3.cell? ⟨w.heap.size, 3, none⟩ = some (.string (N.ks.getD 0 eB)) := nd_kid hO3 HL.out 0 (by decide)
      have hn3 := hs3.len
      have hm3 := hs3.2.1
      have hnc3 := hs3.1
      unfold maxLen at hm3
      have HS3 := Lib.hid hs3
      have HB3 := Lib.hid (of_al (al_of hb3))
      rw [hn3] at HF
      rw [hkd] at c0
      clear hs3 hb3 hO3 HK hn3
      by_cases hn0 : 0 < n
      · by_cases hv0 : N.v.size = 0
        · have hve := size_zero hv0
          rw [hve] at c2
          by_cases hk3 : n3 = 1
          · subst hk3
            obtain ⟨K, hK⟩ : ∃ K, N.ks.getD 0 eB = K := ⟨_, rfl⟩
            rw [hK] at HF ck HR0
            clear hK
            by_cases hz : K.size = 0
            · obtain rfl := size_zero hz
              go_wp2
              go_ret
              exact ⟨by rw [HF.out]; rw [show decide (eB.size ≠ 0) = false from rfl, Bool.and_false, Bool.false_and]; rfl, HB3.out⟩
            · have hkn := Ni.not_empty (s := K) (by omega)
              go_wp2_with fail
              refine (HR0.out _).mono ?_
              rintro e w4 ⟨rfl, hb4⟩
              have HB4 := Lib.hid (below_step' HB3.out hb4)
              obtain ⟨rb, hrb⟩ : ∃ rb, refP K = rb := ⟨_, rfl⟩
              rw [hrb] at HF ⊢
              clear hb4 hrb
              go_wp2
              go_ret
              exact ⟨by rw [HF.out]; simp [hn0, hz, hv0], HB4.out⟩
          · go_wp2
            go_ret
            exact ⟨by rw [HF.out]; simp [hk3], HB3.out⟩
        · have hvn := Ni.not_empty (s := N.v) (by omega)
          go_wp2
          go_ret
          exact ⟨by rw [HF.out]; simp [hv0], HB3.out⟩
      · obtain rfl : n = 0 := by omega
        go_wp2
        go_ret
        exact ⟨by rw [HF.out]; simp, HB3.out⟩
    · rw [if_neg hkd] at HF
      have hk2 : (N.kd == 2) = false := by simp; exact hkd
      clear hkd
      by_cases hkd : N.kd = 3
      · rw [if_pos hkd] at HF
        go_enter Tryd.func57, Tryd.ntmps57
        go_wp2_with (refine Rg.run rfl _ _ (op_load_nd HO.out HL.out ?_) ?_; · exact ⟨_, rfl, rfl⟩)
        refine HK.out.mono ?_
        rintro e w3 ⟨a3, n3, cap3, rfl, hs3, hb3⟩
        have hO3 := HO.out.below hb3
        obtain ⟨c0, c1, c2⟩ := nd_cells hO3
        have ck : w3.cell? ⟨w.heap.size, 3, none⟩ = some (.string (N.ks.getD 0 eB)) := nd_kid hO3 HL.out 0 (by decide)
        have hn3 := hs3.len
        have hm3 := hs3.2.1
        have hnc3 := hs3.1
        unfold maxLen at hm3
        have HS3 := Lib.hid hs3
        have HB3 := Lib.hid (of_al (al_of hb3))
        rw [hn3] at HF
        rw [hkd] at c0
        clear hs3 hb3 hO3 HK hn3
        by_cases hn0 : n = 0
        · subst hn0
          by_cases hv0 : N.v.size = 0
          · have hve := size_zero hv0
            rw [hve] at c2
            by_cases hk3 : 2 ≤ n3
            · have HCn := Lib.hid (fun w4 hb4 => contains_any (kidsL N.ks) HRK.out a3 n3 cap3 w4 (HS3.out.below hb4))
              obtain ⟨KL, hKL⟩ : ∃ KL, (kidsL N.ks).all refP = KL := ⟨_, rfl⟩
              rw [hKL] at HF HCn
              clear hKL
              go_wp2_with fail
              refine (HCn.out _ (Below.refl _ _)).mono ?_
              rintro e w4 ⟨rfl, hb4⟩
              have HB4 := Lib.hid (below_step' HB3.out hb4)
              clear hb4
              go_wp2
              go_ret
              exact ⟨by rw [HF.out]; simp [hk3, hv0], HB4.out⟩
            · go_wp2
              go_ret
              exact ⟨by rw [HF.out]; simp [hk3], HB3.out⟩
          · have hvn := Ni.not_empty (s := N.v) (by omega)
            go_wp2
            go_ret
            exact ⟨by rw [HF.out]; simp [hv0], HB3.out⟩
        · go_wp2
          go_ret
          exact ⟨by rw [HF.out]; simp [hn0], HB3.out⟩
      · rw [if_neg hkd] at HF
        have hk3' : (N.kd == 3) = false := by simp; exact hkd
        go_enter Tryd.func57, Tryd.ntmps57
        go_wp2_with (refine Rg.run rfl _ _ (op_load_nd HO.out HL.out ?_) ?_; · exact ⟨_, rfl, rfl⟩)
        refine HK.out.mono ?_
        rintro e w3 ⟨a3, n3, cap3, rfl, hs3, hb3⟩
        have hO3 := HO.out.below hb3
        obtain ⟨c0, c1, c2⟩ := nd_cells hO3
        have ck : w3.cell? ⟨w.heap.size, 3, none⟩ = some (.string (N.ks.getD 0 eB)) := nd_kid hO3 HL.out 0 (by decide)
        have hn3 := hs3.len
        have hm3 := hs3.2.1
        have hnc3 := hs3.1
        unfold maxLen at hm3
        have HS3 := Lib.hid hs3
        have HB3 := Lib.hid (of_al (al_of hb3))
        clear hs3 hb3 hO3 HK hn3
        go_wp2
        go_ret
        exact ⟨by rw [HF.out]; rfl, HB3.out⟩
set_option maxHeartbeats 8000000 in
theorem check_any (N : Nd) (a : Option Addr) (n c : Nat) (hl : N.ks.length = 16) (w : World) (hB : IsBs w a n c N.p) (hv : N.v.size ≤ maxLen) (hR : ∀ k ∈ N.ks, RefC k) :
    Calls Tryd.prog 35 #[.agg (ndC N a n c)] w fun e w' => e = .returned (.int .i64 (if mayW refP N then 0 else 2)) ∧ Below w.heap.size w w' := by
  have hp := hB.len
  have hm := hB.2.1
  have hnc := hB.1
  have HO : Hid (OwnN (w.alloc (.cells (ndC N a n c) 45)) w.heap.size N a n c) := Lib.hid (Rg.Own.new _ _ _)
  have HBe := Lib.hid (al1 w (.cells (ndC N a n c) 45))
  have HFt := Lib.hid (fits_any N a n c hl hp (by omega) hv hR (w.alloc (.cells (ndC N a n c) 45)))
  have HRi := Lib.hid (right_any a n c N.p (w.alloc (.cells (ndC N a n c) 45)) (hB.below (al1 _ _)))
  obtain ⟨c0, c1, c2⟩ := nd_cells HO.out
  have HL := Lib.hid hl
  unfold maxLen at hm
  obtain ⟨F, hF⟩ : ∃ F, (if mayW refP N then (0 : Int) else 2) = F := ⟨_, rfl⟩
  have HM : Hid (F = if (decide (n ≤ 64) && rightB N.p && fitsW refP N) = true then 0 else 2) := Lib.hid (by rw [← hF]; unfold mayW; rw [hp])
  rw [hF]
  clear hF hR hB hp hl hv
  obtain ⟨R, hR⟩ : ∃ R, rightB N.p = R := ⟨_, rfl⟩
  obtain ⟨T, hT⟩ : ∃ T, fitsW refP N = T := ⟨_, rfl⟩
  rw [hR] at HM HRi
  rw [hT] at HM HFt
  clear hR hT
  by_cases h64 : n ≤ 64
  · have d64 : decide (64 < (n : Int)) = false := by simp; omega
    cases R with
    | true =>
      go_enter Tryd.func35, Tryd.ntmps35
      go_wp2_with fail
      refine HRi.out.mono ?_
      rintro e w3 ⟨rfl, rfl⟩
      go_wp2_with (refine Rg.runW (by rfl) _ _ (op_load_nd HO.out HL.out ?_) ?_; · exact ⟨_, rfl, rfl⟩)
      refine HFt.out.mono ?_
      rintro e w3 ⟨rfl, hb3⟩
      have HB3 := Lib.hid (below_step' HBe.out hb3)
      clear hb3 HFt HRi
      cases T
      all_goals
        go_wp2
        go_ret
        exact ⟨by rw [HM.out]; simp [h64], HB3.out⟩
    | false =>
      go_enter Tryd.func35, Tryd.ntmps35
      go_wp2_with fail
      refine HRi.out.mono ?_
      rintro e w3 ⟨rfl, rfl⟩
      go_wp2
      go_ret
      exact ⟨by rw [HM.out]; simp, HBe.out⟩
  · have d64 : decide (64 < (n : Int)) = true := by simp; omega
    go_enter Tryd.func35, Tryd.ntmps35
    go_wp2
    go_ret
    exact ⟨by rw [HM.out]; simp [h64], HBe.out⟩
end No
end Go.Proofs.YtoeblhdddehemaaDoor

/-
  Nodes as items, plain: the item of a node; what is read of it is the node; what a node was read of is its item.
-/
namespace Go.Proofs.YtoeblhdddehemaaDoor
set_option maxRecDepth 20000
open Go.RowKit

namespace No
open Rl Ni
/-- the item that a reference stands as -/
def refI (k : ByteArray) : It := if plainB k then .mk false k [] else match wholeL k.data.toList with
  | .ok x => x
  | .error _ => it0
abbrev pathI (n : Nd) : It := .mk false ⟨(packL n.p (decide (n.kd = 1))).toArray⟩ []
/-- the items of a node -/
def itemsP (n : Nd) : List It := if n.kd = 3 then n.ks.map refI ++ [it0] else if n.kd = 1 then [pathI n, .mk false n.v []] else [pathI n, refI (n.ks.getD 0 eB)]
/-- the item of a node -/
def itemP (n : Nd) : It := .mk true ⟨#[]⟩ (itemsP n)
/-- the bytes of a node -/
def putP (n : Nd) : List UInt8 := (itemP n).bytes

theorem fits_by_len (x : It) : ∀ {d e : Nat}, Fits d x → e + x.bytes.length ≤ 65 → Fits e x := by
  induction x using It.ind with
  | h l s xs ih =>
    intro d e h he
    have hb := bytes_pos h (by omega)
    have hb1 := List.length_pos_iff.2 hb
    have hless : ∀ y ∈ xs, y.bytes.length < (It.mk l s xs).bytes.length := fun y hy => in_less h (by omega) hy
    cases h with
    | mk ha hs hx hy => exact .mk (by omega) hs hx (fun y hm => ih y hm (hy y hm) (by have := hless y hm; omega))
theorem sizes_le (xs : List It) (h : ∀ y ∈ xs, y.size ≤ y.bytes.length) : (xs.map It.size).sum ≤ ((xs.map It.bytes).flatten).length := by
  induction xs with
  | nil => exact Nat.le_refl _
  | cons y ys ih =>
    rw [List.map_cons, List.sum_cons, List.map_cons, List.flatten_cons, List.length_append]
    have h1 := h y (List.mem_cons_self ..)
    have h2 := ih (fun z hz => h z (List.mem_cons_of_mem _ hz))
    omega
theorem size_le_bytes (x : It) : ∀ {d : Nat}, Fits d x → x.bytes.length ≤ 4294967296 → x.size ≤ x.bytes.length := by
  induction x using It.ind with
  | h l s xs ih =>
    intro d h hb
    have hp := List.length_pos_iff.2 (bytes_pos h hb)
    have hless : ∀ y ∈ xs, y.bytes.length < (It.mk l s xs).bytes.length := fun y hy => in_less h hb hy
    have hle := sizes_le xs (fun y hy => ih y hy (fits_in h hy) (by have := hless y hy; omega))
    rw [It.size_mk]
    cases l with
    | true =>
      have h1 := bytes_len h hb rfl
      have h2 := headL_length (((It.mk true s xs).xs.map It.bytes).flatten).length true
      simp only [It.xs] at h1 h2
      omega
    | false =>
      cases h with
      | mk ha hs hx hy =>
        rw [hx rfl] at hp ⊢
        rw [List.map_nil, List.sum_nil]
        exact hp
theorem whole_bytes {x : It} (h : Fits 0 x) (hb : x.bytes.length ≤ 4294967296) (hk : x.size ≤ 4096) : wholeL x.bytes = .ok x := by
  have := forth x 0 0 [] h hb (by omega)
  rw [List.append_nil] at this
  unfold wholeL
  rw [this]
  dsimp only
  rw [if_neg (by omega)]
theorem text_fits (d : Nat) (hd : d ≤ 64) (s : ByteArray) : Fits d (.mk false s []) := .mk hd (fun e => by cases e) (fun _ => rfl) (fun y hy => by cases hy)
theorem text_len (s : ByteArray) (h : s.size ≤ 4294967296) : (It.mk false s []).bytes.length ≤ 9 + s.size := by
  rw [bytes_text s h, List.length_append, len_s]
  have := headL_le s.size false (by omega)
  split
  · simp
  · omega
/-- what a reference that is no sum is: an item that was read -/
theorem ref_list {k : ByteArray} (hp : plainB k = false) (h : refP k = true) : ∃ x n, wholeL k.data.toList = .ok x ∧ refI k = x ∧ x.l = true ∧ readP x.xs = some n ∧ k.size < 32 ∧ x.bytes = k.data.toList ∧ Fits 0 x ∧ mayW refP n = true := by
  unfold refP at h
  rw [hp, Bool.false_or, Bool.and_eq_true] at h
  have h32 : k.size < 32 := of_decide_eq_true h.1
  obtain ⟨n, hn⟩ := Option.isSome_iff_exists.1 h.2
  have hsl := len_s k
  obtain ⟨x, hw, hr, hm⟩ := getP_some (by omega) hn
  obtain ⟨g1, g2, g3⟩ := whole_back (by omega) hw
  refine ⟨x, n, hw, ?_, ?_, hr, h32, g1, g2, hm⟩
  · unfold refI
    rw [hp, hw]
    rfl
  · refine has_list g2 (fun e => ?_)
    rw [e] at hr
    cases hr
theorem refI_plain {k : ByteArray} (hp : plainB k = true) : refI k = .mk false k [] := by
  unfold refI
  rw [hp]
  rfl
theorem plain_size {k : ByteArray} (hp : plainB k = true) : k.size = 0 ∨ k.size = 32 := of_decide_eq_true hp
theorem refI_fits {k : ByteArray} (h : refP k = true) : Fits 1 (refI k) ∧ (refI k).bytes.length ≤ 41 := by
  cases hp : plainB k with
  | true =>
    rw [refI_plain hp]
    have := plain_size hp
    have h2 := text_len k (by omega)
    exact ⟨text_fits 1 (by omega) k, by omega⟩
  | false =>
    obtain ⟨x, n, hw, e, hl, hr, h32, hb, hf, _⟩ := ref_list hp h
    have hsl := len_s k
    rw [e]
    exact ⟨fits_by_len x hf (by rw [hb]; omega), by rw [hb]; omega⟩
theorem kidP_refI {k : ByteArray} (h : refP k = true) : kidP (refI k) = some k := by
  cases hp : plainB k with
  | true =>
    rw [refI_plain hp]
    show (if plainB k then some k else none) = some k
    rw [hp]
    rfl
  | false =>
    obtain ⟨x, n, hw, e, hl, hr, h32, hb, hf, _⟩ := ref_list hp h
    have hsl := len_s k
    rw [e]
    unfold kidP
    rw [hl, if_pos rfl, if_pos (by rw [hb]; omega), hb]
theorem flat_le (xs : List It) (m : Nat) (h : ∀ y ∈ xs, y.bytes.length ≤ m) : ((xs.map It.bytes).flatten).length ≤ xs.length * m := by
  induction xs with
  | nil => simp
  | cons y ys ih =>
    rw [List.map_cons, List.flatten_cons, List.length_append, List.length_cons, Nat.succ_mul]
    have h1 := h y (List.mem_cons_self ..)
    have h2 := ih (fun z hz => h z (List.mem_cons_of_mem _ hz))
    omega
theorem may_parts {n : Nd} (h : mayW refP n = true) : n.p.length ≤ 64 ∧ rightB n.p = true ∧ fitsW refP n = true := by
  unfold mayW at h
  rw [Bool.and_eq_true, Bool.and_eq_true] at h
  exact ⟨of_decide_eq_true h.1.1, h.1.2, h.2⟩
theorem kids_all {ks : List ByteArray} (h : (kidsL ks).all refP = true) : ∀ k ∈ ks, refP k = true := by
  intro k hk
  by_cases hz : k.size = 0
  · unfold refP plainB
    simp [hz]
  · exact List.all_eq_true.1 h k (List.mem_filter.2 ⟨hk, by simp; intro e; rw [e] at hz; exact hz rfl⟩)
theorem may_kinds {n : Nd} (_hl : n.ks.length = 16) (h : mayW refP n = true) :
    n.kd = 1 ∧ n.v.size ≠ 0 ∧ n.v.size ≤ 65552 ∧ (kidsL n.ks).length = 0 ∨ n.kd = 2 ∧ 0 < n.p.length ∧ n.v.size = 0 ∧ (kidsL n.ks).length = 1 ∧ (n.ks.getD 0 eB).size ≠ 0 ∧ refP (n.ks.getD 0 eB) = true ∨ n.kd = 3 ∧ n.p = [] ∧ n.v.size = 0 ∧ 2 ≤ (kidsL n.ks).length ∧ ∀ k ∈ n.ks, refP k = true := by
  obtain ⟨_, _, h⟩ := may_parts h
  unfold fitsW at h
  by_cases h1 : n.kd = 1
  · rw [if_pos h1] at h
    simp only [Bool.and_eq_true, decide_eq_true_eq] at h
    exact .inl ⟨h1, h.1.1, h.1.2, h.2⟩
  · rw [if_neg h1] at h
    by_cases h2 : n.kd = 2
    · rw [if_pos h2] at h
      simp only [Bool.and_eq_true, decide_eq_true_eq] at h
      exact .inr (.inl ⟨h2, h.1.1.1.1, h.1.1.1.2, h.1.1.2, h.1.2, h.2⟩)
    · rw [if_neg h2] at h
      by_cases h3 : n.kd = 3
      · rw [if_pos h3] at h
        simp only [Bool.and_eq_true, decide_eq_true_eq] at h
        exact .inr (.inr ⟨h3, List.eq_nil_of_length_eq_zero h.1.1.1, h.1.1.2, h.1.2, kids_all h.2⟩)
      · rw [if_neg h3] at h; cases h
/-- the items of a node that may be -/
theorem items_good {n : Nd} (hl : n.ks.length = 16) (h : mayW refP n = true) : ∀ y ∈ itemsP n, Fits 1 y ∧ y.bytes.length ≤ 65561 := by
  obtain ⟨g1, g2, g3⟩ := may_parts h
  have hpk : Fits 1 (pathI n) ∧ (pathI n).bytes.length ≤ 65561 := by
    have := packL_size n.p (decide (n.kd = 1))
    have h2 := text_len ⟨(packL n.p (decide (n.kd = 1))).toArray⟩ (by omega)
    exact ⟨text_fits 1 (by omega) _, Nat.le_trans h2 (by omega)⟩
  rcases may_kinds hl h with ⟨k1, v1, v2, _⟩ | ⟨k1, _, _, _, _, hr⟩ | ⟨k1, _, _, _, hr⟩
  · unfold itemsP
    rw [if_neg (by omega), if_pos k1]
    intro y hy
    rcases List.mem_cons.1 hy with rfl | hy
    · exact hpk
    · rcases List.mem_cons.1 hy with rfl | hy
      · have h2 := text_len n.v (by omega)
        exact ⟨text_fits 1 (by omega) _, by omega⟩
      · cases hy
  · unfold itemsP
    rw [if_neg (by omega), if_neg (by omega)]
    intro y hy
    rcases List.mem_cons.1 hy with rfl | hy
    · exact hpk
    · rcases List.mem_cons.1 hy with rfl | hy
      · have := refI_fits hr
        exact ⟨this.1, by omega⟩
      · cases hy
  · unfold itemsP
    rw [if_pos k1]
    intro y hy
    rcases List.mem_append.1 hy with hy | hy
    · obtain ⟨k, hk, rfl⟩ := List.mem_map.1 hy
      have := refI_fits (hr k hk)
      exact ⟨this.1, by omega⟩
    · rcases List.mem_cons.1 hy with rfl | hy
      · have h2 := text_len eB (by decide)
        refine ⟨text_fits 1 (by omega) _, ?_⟩
        have : eB.size = 0 := rfl
        show (It.mk false eB []).bytes.length ≤ _
        omega
      · cases hy
theorem items_few {n : Nd} (hl : n.ks.length = 16) : (itemsP n).length ≤ 17 := by
  unfold itemsP
  split
  · simp [hl]
  · split <;> simp
theorem item_fits {n : Nd} (hl : n.ks.length = 16) (h : mayW refP n = true) : Fits 0 (itemP n) ∧ (itemP n).bytes.length ≤ 1200000 ∧ (itemP n).size ≤ 4096 ∧ (putP n).length = (itemP n).bytes.length := by
  have hg := items_good hl h
  have hf : Fits 0 (itemP n) := .mk (by omega) (fun _ => rfl) (fun e => by cases e) (fun y hy => (hg y hy).1)
  have hfew := items_few hl
  have hlen := flat_le (itemsP n) 65561 (fun y hy => (hg y hy).2)
  have hm : (itemsP n).length * 65561 ≤ 17 * 65561 := Nat.mul_le_mul_right _ hfew
  have hb : (itemP n).bytes.length ≤ 1200000 := by
    unfold itemP
    rw [bytes_list _ (by omega), List.length_append]
    have := headL_le ((itemsP n).map It.bytes).flatten.length true (by omega)
    omega
  refine ⟨hf, hb, ?_, rfl⟩
  unfold itemP
  rw [It.size_mk]
  have : ∀ y ∈ itemsP n, y.size ≤ 200 := by
    obtain ⟨g1, g2, g3⟩ := may_parts h
    rcases may_kinds hl h with ⟨k1, v1, v2, _⟩ | ⟨k1, _, _, _, _, hr⟩ | ⟨k1, _, _, _, hr⟩
    · unfold itemsP
      rw [if_neg (by omega), if_pos k1]
      intro y hy
      rcases List.mem_cons.1 hy with rfl | hy
      · rw [It.size_mk]; simp
      · rcases List.mem_cons.1 hy with rfl | hy
        · rw [It.size_mk]; simp
        · cases hy
    · unfold itemsP
      rw [if_neg (by omega), if_neg (by omega)]
      intro y hy
      rcases List.mem_cons.1 hy with rfl | hy
      · rw [It.size_mk]; simp
      · rcases List.mem_cons.1 hy with rfl | hy
        · have := refI_fits hr
          have := size_le_bytes _ this.1 (by omega)
          omega
        · cases hy
    · unfold itemsP
      rw [if_pos k1]
      intro y hy
      rcases List.mem_append.1 hy with hy | hy
      · obtain ⟨k, hk, rfl⟩ := List.mem_map.1 hy
        have := refI_fits (hr k hk)
        have := size_le_bytes _ this.1 (by omega)
        omega
      · rcases List.mem_cons.1 hy with rfl | hy
        · unfold it0; rw [It.size_mk]; simp
        · cases hy
  have hs : ((itemsP n).map It.size).sum ≤ (itemsP n).length * 200 := by
    generalize itemsP n = l at this
    induction l with
    | nil => simp
    | cons y ys ih =>
      rw [List.map_cons, List.sum_cons, List.length_cons, Nat.succ_mul]
      have h1 := this y (List.mem_cons_self ..)
      have h2 := ih (fun z hz => this z (List.mem_cons_of_mem _ hz))
      omega
  have : (itemsP n).length * 200 ≤ 17 * 200 := Nat.mul_le_mul_right _ hfew
  omega
theorem kidsL_nil {ks : List ByteArray} (h : (kidsL ks).length = 0) : ks = List.replicate ks.length eB := by
  induction ks with
  | nil => rfl
  | cons k ks ih =>
    unfold kidsL at h
    rw [List.filter_cons] at h
    split at h
    · cases h
    · rename_i hz
      simp at hz
      rw [List.length_cons, List.replicate_succ, ← ih h]
      congr 1
theorem kids_one {ks : List ByteArray} (hl : ks.length = 16) (h : (kidsL ks).length = 1) (h0 : (ks.getD 0 eB).size ≠ 0) : ks = one16 (ks.getD 0 eB) := by
  cases ks with
  | nil => cases hl
  | cons k ks =>
    have h0' : k.size ≠ 0 := h0
    unfold kidsL at h
    rw [List.filter_cons, if_pos (by simp; intro e; rw [e] at h0'; exact h0' rfl), List.length_cons] at h
    have := kidsL_nil (ks := ks) (by unfold kidsL; omega)
    unfold one16
    rw [List.length_cons] at hl
    rw [show ks.length = 15 by omega] at this
    rw [this]
    rfl
theorem allK_map {ks : List ByteArray} (h : ∀ k ∈ ks, refP k = true) : allK (ks.map refI) = some ks := by
  induction ks with
  | nil => rfl
  | cons k ks ih =>
    rw [List.map_cons]
    unfold allK
    rw [kidP_refI (h k (List.mem_cons_self ..)), ih (fun z hz => h z (List.mem_cons_of_mem _ hz))]
/-- the node of a node's items -/
theorem read_items {n : Nd} (hl : n.ks.length = 16) (h : mayW refP n = true) : readP (itemsP n) = some n := by
  obtain ⟨g1, g2, g3⟩ := may_parts h
  have hsz := packL_size n.p (decide (n.kd = 1))
  have hgood := pack_good n.p (decide (n.kd = 1)) g2 g1
  have hleaf := pack_leaf n.p (decide (n.kd = 1)) g2
  have hpath := pack_path n.p (decide (n.kd = 1)) g2
  obtain ⟨S, hS⟩ : ∃ S, (⟨(packL n.p (decide (n.kd = 1))).toArray⟩ : ByteArray) = S := ⟨_, rfl⟩
  have hpi : pathI n = .mk false S [] := by unfold pathI; rw [hS]
  rw [hS] at hsz hgood hleaf hpath
  rcases may_kinds hl h with ⟨k1, v1, v2, hk⟩ | ⟨k1, hp0, hv, hk, hk0, hr⟩ | ⟨k1, hp, hv, hk, hr⟩
  · have hI : itemsP n = [.mk false S [], .mk false n.v []] := by unfold itemsP; rw [if_neg (by omega), if_pos k1, hpi]
    rw [hI]
    unfold readP
    rw [if_pos (by rfl)]
    show readPathP (.mk false S []) (.mk false n.v []) = some n
    unfold readPathP
    rw [if_neg (by
      rintro (e | e)
      · have e' : S.size = 0 := e
        omega
      · exact hgood e)]
    show (if leafB S = true then some (⟨1, pathL S, n.v, zks⟩ : Nd) else _) = some n
    rw [hleaf, hpath, k1, if_pos (by decide)]
    have := kidsL_nil hk
    rw [hl] at this
    cases n
    simp only at k1 this ⊢
    rw [k1, this]
    rfl
  · have hI : itemsP n = [.mk false S [], refI (n.ks.getD 0 eB)] := by unfold itemsP; rw [if_neg (by omega), if_neg (by omega), hpi]
    rw [hI]
    unfold readP
    rw [if_pos (by rfl)]
    show readPathP (.mk false S []) (refI (n.ks.getD 0 eB)) = some n
    unfold readPathP
    rw [if_neg (by
      rintro (e | e)
      · have e' : S.size = 0 := e
        omega
      · exact hgood e)]
    show (if leafB S = true then _ else (kidP (refI (n.ks.getD 0 eB))).map fun k => (⟨2, pathL S, eB, one16 k⟩ : Nd)) = some n
    rw [hleaf, hpath, k1, if_neg (by decide), kidP_refI hr, Option.map_some, ← kids_one hl hk hk0]
    have hve := size_zero hv
    cases n
    simp only at k1 hve ⊢
    rw [k1, hve]
  · have hI : itemsP n = n.ks.map refI ++ [it0] := by unfold itemsP; rw [if_pos k1]
    rw [hI]
    unfold readP
    have hlen : (n.ks.map refI ++ [it0]).length = 17 := by simp [hl]
    rw [if_neg (by omega), if_pos hlen]
    unfold readBranchP
    rw [List.take_append_of_le_length (by simp [hl]), List.take_of_length_le (by simp [hl]), allK_map hr]
    have e16 : (n.ks.map refI ++ [it0]).getD 16 it0 = it0 := by
      rw [List.getD_eq_getElem?_getD, List.getElem?_append_right (by simp [hl])]
      simp [hl]
    rw [e16]
    dsimp only
    rw [if_pos ⟨rfl, rfl⟩]
    have hve := size_zero hv
    cases n
    simp only at k1 hve hp ⊢
    rw [k1, hve, hp]
/-- Get of Put is the node -/
theorem get_put {n : Nd} (hl : n.ks.length = 16) (h : mayW refP n = true) : getP (putP n) = some n := by
  obtain ⟨f1, f2, f3, _⟩ := item_fits hl h
  unfold putP
  rw [getP_eq _ (by omega), whole_bytes f1 (by omega) f3]
  dsimp only
  rw [show (itemP n).xs = itemsP n from rfl, read_items hl h]
  dsimp only
  rw [h]
  rfl
theorem text_of {d : Nat} {x : It} (h : Fits d x) (hs : x.s.size ≠ 0) : x = .mk false x.s [] := by
  cases h with
  | mk ha hs' hx hy =>
    rename_i l s xs
    cases l with
    | true =>
      rw [hs' rfl] at hs
      exact absurd rfl hs
    | false => rw [hx rfl]; rfl
theorem text_of' {d : Nat} {x : It} (h : Fits d x) (hl : x.l = false) : x = .mk false x.s [] := by
  cases h with
  | mk ha hs' hx hy =>
    rename_i l s xs
    obtain rfl : l = false := hl
    rw [hx rfl]
    rfl
/-- the reference that an item was, as an item -/
theorem refI_kidP {x : It} {k : ByteArray} (hf : Fits 0 x) (hk : x.size ≤ 4096) (hb : x.bytes.length ≤ 4294967296) (h : kidP x = some k) : refI k = x := by
  unfold kidP at h
  cases hl : x.l with
  | true =>
    rw [hl, if_pos rfl] at h
    split at h
    · rename_i h32
      obtain rfl := Option.some.inj h
      have hp := List.length_pos_iff.2 (bytes_pos hf hb)
      have hpl : plainB ⟨x.bytes.toArray⟩ = false := by
        unfold plainB
        rw [ba_size]
        exact decide_eq_false (by omega)
      unfold refI
      rw [hpl]
      show (match wholeL x.bytes with | .ok x => x | .error _ => it0) = x
      rw [whole_bytes hf hb hk]
    · cases h
  | false =>
    rw [hl, if_neg (by simp)] at h
    split at h
    · rename_i hp
      obtain rfl := Option.some.inj h
      rw [refI_plain hp]
      exact (text_of' hf hl).symm
    · cases h
theorem allK_items {xs : List It} {ks : List ByteArray} (hg : ∀ x ∈ xs, Fits 0 x ∧ x.size ≤ 4096 ∧ x.bytes.length ≤ 4294967296) (h : allK xs = some ks) : ks.map refI = xs := by
  induction xs generalizing ks with
  | nil => obtain rfl := Option.some.inj h; rfl
  | cons x xs ih =>
    unfold allK at h
    split at h
    · cases h
    · rename_i k hk
      split at h
      · cases h
      · rename_i ks' hks
        obtain rfl := Option.some.inj h
        obtain ⟨g1, g2, g3⟩ := hg x (List.mem_cons_self ..)
        rw [List.map_cons, refI_kidP g1 g2 g3 hk, ih (fun y hy => hg y (List.mem_cons_of_mem _ hy)) hks]
/-- what a node was read of are its items -/
theorem items_read {xs : List It} {n : Nd} (hg : ∀ x ∈ xs, Fits 0 x ∧ x.size ≤ 4096 ∧ x.bytes.length ≤ 4294967296) (h : readP xs = some n) (hv : n.kd = 1 → n.v.size ≠ 0) : itemsP n = xs := by
  unfold readP at h
  by_cases h2 : xs.length = 2
  · rw [if_pos h2] at h
    obtain ⟨x0, x1, rfl⟩ : ∃ x0 x1, xs = [x0, x1] := by
      match xs, h2 with
      | [x0, x1], _ => exact ⟨x0, x1, rfl⟩
    have h' : readPathP x0 x1 = some n := h
    have g0 := hg x0 (List.mem_cons_self ..)
    have g1 := hg x1 (List.mem_cons_of_mem _ (List.mem_cons_self ..))
    unfold readPathP at h'
    split at h'
    · cases h'
    · rename_i hnb
      have hs0 : x0.s.size ≠ 0 := fun e => hnb (.inl e)
      have hx0 := text_of g0.1 hs0
      have hup := unpack_pack x0.s (by omega) (fun e => hnb (.inr e))
      split at h'
      · rename_i hlf
        obtain rfl := Option.some.inj h'
        rw [hlf] at hup
        have hx1 := text_of g1.1 (hv rfl)
        unfold itemsP pathI
        rw [if_neg (show ¬ (1 : Int) = 3 by decide), if_pos rfl]
        show [It.mk false ⟨(packL (pathL x0.s) true).toArray⟩ [], It.mk false x1.s []] = [x0, x1]
        rw [hup, ← hx0, ← hx1]
      · rename_i hlf
        obtain ⟨k, hk, rfl⟩ := Option.map_eq_some_iff.1 h'
        have hlf' : leafB x0.s = false := by simpa using hlf
        rw [hlf'] at hup
        unfold itemsP pathI
        rw [if_neg (show ¬ (2 : Int) = 3 by decide), if_neg (show ¬ (2 : Int) = 1 by decide)]
        show [It.mk false ⟨(packL (pathL x0.s) false).toArray⟩ [], refI k] = [x0, x1]
        rw [hup, ← hx0, refI_kidP g1.1 g1.2.1 g1.2.2 hk]
  · rw [if_neg h2] at h
    split at h
    · rename_i h17
      unfold readBranchP at h
      split at h
      · cases h
      · rename_i ks hks
        split at h
        · rename_i hend
          obtain rfl := Option.some.inj h
          have hm := allK_items (fun x hx => hg x (List.mem_of_mem_take hx)) hks
          unfold itemsP
          rw [if_pos rfl]
          show ks.map refI ++ [it0] = xs
          rw [hm]
          have hx16 : xs[16]? = some (xs.getD 16 it0) := by
            rw [List.getD_eq_getElem?_getD, List.getElem?_eq_getElem (by omega)]
            rfl
          have g16 := hg _ (List.mem_of_getElem? hx16)
          have e16 := text_of' g16.1 hend.1
          rw [size_zero hend.2] at e16
          have ht : xs = xs.take 16 ++ [xs.getD 16 it0] := by
            have h1 : xs.take 17 = xs.take 16 ++ (xs[16]?).toList := List.take_add_one
            rw [List.take_of_length_le (by omega), hx16] at h1
            exact h1
          rw [e16] at ht
          exact ht.symm
        · cases h
    · cases h
/-- the item that was read is the node's -/
theorem whole_get {s : List UInt8} (hs : s.length ≤ 1000000) {n : Nd} (h : getP s = some n) : wholeL s = .ok (itemP n) ∧ putP n = s ∧ mayW refP n = true ∧ n.ks.length = 16 := by
  obtain ⟨x, hw, hr, hm⟩ := getP_some (by omega) h
  obtain ⟨g1, g2, g3⟩ := whole_back (by omega) hw
  have hl := (readP_kids hr).1
  have hg : ∀ y ∈ x.xs, Fits 0 y ∧ y.size ≤ 4096 ∧ y.bytes.length ≤ 4294967296 := by
    intro y hy
    have h1 := in_less g2 (by rw [g1]; omega) hy
    rw [g1] at h1
    obtain ⟨i, hi⟩ := List.getElem?_of_mem hy
    have h3 := sum_le x.xs i y hi
    have h4 : x.size = 1 + (x.xs.map It.size).sum := by cases x; exact It.size_mk _ _ _
    exact ⟨fits_mono y (fits_in g2 hy) (Nat.zero_le _), by omega, by omega⟩
  have he := items_read hg hr (fun k1 => by
    rcases may_kinds hl hm with ⟨_, v, _⟩ | ⟨k2, _⟩ | ⟨k3, _⟩
    · exact v
    · omega
    · omega)
  have hxl := has_list g2 (fun e => by rw [e] at hr; cases hr)
  have hx : x = itemP n := by
    unfold itemP
    rw [he]
    cases g2 with
    | mk ha hs' hx hy =>
      rename_i l t xs
      obtain rfl : l = true := hxl
      rw [hs' rfl]
      rfl
  rw [← hx]
  refine ⟨hw, ?_, hm, hl⟩
  unfold putP
  rw [← hx]
  exact g1
end No
end Go.Proofs.YtoeblhdddehemaaDoor
