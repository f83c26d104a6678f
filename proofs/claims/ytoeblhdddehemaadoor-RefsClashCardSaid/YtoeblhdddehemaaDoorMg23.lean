/-
  Contracts of the plain answers' Reference, May, kid.
-/
import Derived.Test.YtoeblhdddehemaaDoorMg19
import Derived.Test.YtoeblhdddehemaaDoorMg22
namespace Go.Proofs.YtoeblhdddehemaaDoor
set_option maxRecDepth 100000
open Go.RowKit

namespace No
open Rl Ni
/-- the plain answer's Reference tells of this text what it ought to -/
def RRefC (k : ByteArray) : Prop := ∀ w : World, Calls Tryd.prog 13 #[.string k] w fun e w' => e = .returned (.bool (refP k)) ∧ Below w.heap.size w w'
/-- .. its Get -/
def RGetC (s : ByteArray) : Prop := ∀ w : World, Calls Tryd.prog 28 #[.string s] w (ReadPost w (getP s.data.toList))

set_option maxHeartbeats 4000000 in
theorem rref_of (k : ByteArray) (hk : k.size ≤ 9223372036854775807) (h : k.size < 32 → RGetC k) : RRefC k := by
  intro w
  by_cases h0 : k.size = 0
  · obtain rfl := size_zero h0
    have HF : Hid (refP eB = true) := Lib.hid (by unfold refP; rw [eB_plain]; rfl)
    rw [HF.out]
    clear h
    go_enter Tryd.func13, Tryd.ntmps13
    go_wp2
    go_ret
    exact ⟨rfl, Below.refl _ _⟩
  · have hne := Ni.not_empty (s := k) (by omega)
    by_cases h32 : k.size = 32
    · have hq : ((k.size : Int) == 32) = true := by simp; omega
      have HF : Hid (refP k = true) := Lib.hid (by unfold refP plainB; simp [h32])
      rw [HF.out]
      clear h
      go_enter Tryd.func13, Tryd.ntmps13
      go_wp2
      go_ret
      exact ⟨rfl, Below.refl _ _⟩
    · have hq : ((k.size : Int) == 32) = false := by simp; omega
      by_cases hlt : k.size < 32
      · have HF : Hid (refP k = (getP k.data.toList).isSome) := Lib.hid (by unfold refP plainB; simp [h32, h0, hlt])
        have HG := Lib.hid (h hlt w)
        rw [HF.out]
        obtain ⟨r, hr⟩ : ∃ r, getP k.data.toList = r := ⟨_, rfl⟩
        rw [hr] at HG ⊢
        have d31 : decide (31 < (k.size : Int)) = false := by simp; omega
        clear h hr HF
        go_enter Tryd.func13, Tryd.ntmps13
        go_wp2_with fail
        refine HG.out.mono ?_
        rintro e w3 ⟨N, a3, n3, c3, b, rfl, hr3, hx3, hl3, hb3⟩
        have HO : Hid (OwnN (w3.alloc (.cells (ndC nd0 none 0 0) 45)) w3.heap.size nd0 none 0 0) := Lib.hid (Rg.Own.new _ _ _)
        have HB := Lib.hid (below_step' hb3 (al1 w3 (.cells (ndC nd0 none 0 0) 45)))
        have HL := Lib.hid hl3
        have hge := hb3.size
        clear hx3 hl3 hb3 HG
        go_wp2_with (first
          | (refine Rg.run rfl _ _ (run_alloc_nd _ _ _ w3.heap.size rfl rfl) ?_)
          | (refine wpl_store_nd HO.out rfl N a3 n3 c3 HL.out rfl _ _ rfl rfl rfl rfl ?_))
        go_ret
        rcases hr3 with ⟨rfl, rfl⟩ | ⟨rfl, rfl⟩
        · exact ⟨rfl, below_rowN HB.out hge _⟩
        · exact ⟨rfl, below_rowN HB.out hge _⟩
      · have HF : Hid (refP k = false) := Lib.hid (by unfold refP plainB; simp [h32, h0, hlt])
        rw [HF.out]
        have d31 : decide (31 < (k.size : Int)) = true := by simp; omega
        clear h
        go_enter Tryd.func13, Tryd.ntmps13
        go_wp2
        go_ret
        exact ⟨rfl, Below.refl _ _⟩

/-- all references of a node that may be are references -/
theorem may_refs {n : Nd} (hl : n.ks.length = 16) (h : mayW refP n = true) : ∀ k ∈ n.ks, refP k = true := by
  have hz : ∀ k : ByteArray, k.size = 0 → refP k = true := fun k hk => by unfold refP plainB; simp [hk]
  rcases may_kinds hl h with ⟨_, _, _, k3⟩ | ⟨_, _, _, k3, k4, k5⟩ | ⟨_, _, _, _, k5⟩
  · intro k hk
    rw [kidsL_nil k3] at hk
    rw [List.eq_of_mem_replicate hk]
    exact hz _ rfl
  · intro k hk
    rw [kids_one hl k3 k4] at hk
    unfold one16 at hk
    rcases List.mem_cons.1 hk with e | e
    · rw [e]; exact k5
    · rw [List.eq_of_mem_replicate e]; exact hz _ rfl
  · exact k5
/-- .. and if all are, this is what is left to be asked -/
theorem may_all {n : Nd} (hl : n.ks.length = 16) (h : ∀ k ∈ n.ks, refP k = true) : mayW refP n = (decide (n.p.length ≤ 64) && rightB n.p &&
    (if n.kd = 1 then decide (n.v.size ≠ 0) && decide (n.v.size ≤ 65552) && decide ((kidsL n.ks).length = 0) else
     if n.kd = 2 then decide (n.v.size = 0) && decide (0 < n.p.length) && decide ((n.ks.getD 0 eB).size ≠ 0) && decide ((kidsL n.ks).length = 1) else
     if n.kd = 3 then decide (n.v.size = 0) && decide (n.p.length = 0) && decide (2 ≤ (kidsL n.ks).length) else false)) := by
  have h0 : refP (n.ks.getD 0 eB) = true := h _ (by rw [List.getD_eq_getElem?_getD, List.getElem?_eq_getElem (by omega)]; exact List.getElem_mem _)
  have h1 : (kidsL n.ks).all refP = true := List.all_eq_true.2 fun k hk => h k (List.mem_filter.1 hk).1
  unfold mayW fitsW
  rw [h0, h1]
  congr 1
  split
  · rfl
  · split
    · rw [Bool.and_true]
      generalize decide (0 < n.p.length) = A
      generalize decide (n.v.size = 0) = B
      generalize decide ((kidsL n.ks).length = 1) = C
      generalize decide ((n.ks.getD 0 eB).size ≠ 0) = D
      cases A <;> cases B <;> cases C <;> cases D <;> rfl
    · split
      · rw [Bool.and_true]
        generalize decide (n.p.length = 0) = A
        generalize decide (n.v.size = 0) = B
        cases A <;> cases B <;> rfl
      · rfl
theorem may_long {n : Nd} (h : ¬ n.p.length ≤ 64) : mayW refP n = false := by unfold mayW; simp [h]
theorem may_bad {n : Nd} (h : rightB n.p = false) : mayW refP n = false := by unfold mayW; simp [h]

set_option maxHeartbeats 16000000 in
theorem rmay_any (N : Nd) (a : Option Addr) (n c : Nat) (hl : N.ks.length = 16) (w : World) (hB : IsBs w a n c N.p) (hv : N.v.size ≤ maxLen) (hR : ∀ k ∈ N.ks, RRefC k) :
    Calls Tryd.prog 45 #[.agg (ndC N a n c)] w fun e w' => e = .returned (.bool (mayW refP N)) ∧ Below w.heap.size w w' := by
  have hp := hB.len
  have hm := hB.2.1
  have hnc := hB.1
  have HO : Hid (OwnN (w.alloc (.cells (ndC N a n c) 45)) w.heap.size N a n c) := Lib.hid (Rg.Own.new _ _ _)
  have HBe := Lib.hid (al1 w (.cells (ndC N a n c) 45))
  have HRi := Lib.hid (rright_any a n c N.p (w.alloc (.cells (ndC N a n c) 45)) (hB.below (al1 _ _)))
  obtain ⟨c0, c1, c2⟩ := nd_cells HO.out
  have HL := Lib.hid hl
  have HP := Lib.hid hp
  have HRR := Lib.hid hR
  unfold maxLen at hm hv
  have HA := Lib.hid (fun h => may_all (n := N) hl h)
  have HM := Lib.hid (fun h => may_refs (n := N) hl h)
  have HG := Lib.hid (fun h => may_long (n := N) h)
  have HD := Lib.hid (fun h => may_bad (n := N) h)
  rw [hp] at HA HG
  obtain ⟨F, hF⟩ : ∃ F, mayW refP N = F := ⟨_, rfl⟩
  rw [hF] at HA HM HG HD ⊢
  obtain ⟨R, hRb⟩ : ∃ R, rightB N.p = R := ⟨_, rfl⟩
  rw [hRb] at HRi HA HD
  clear hB hp hl hR hF hRb
  cases R with
  | false =>
    obtain rfl := HD.out rfl
    go_enter Tryd.func45, Tryd.ntmps45
    go_wp2_with fail
    refine HRi.out.mono ?_
    rintro e w3 ⟨rfl, rfl⟩
    go_wp2
    go_ret
    exact ⟨rfl, HBe.out⟩
  | true =>
    by_cases h64 : n ≤ 64
    · have d64 : decide (64 < (n : Int)) = false := by simp; omega
      go_enter Tryd.func45, Tryd.ntmps45
      go_wp2_with fail
      refine HRi.out.mono ?_
      rintro e w3 ⟨rfl, rfl⟩
      clear HRi
      go_wp2
      clear c0 c1 c2
      go_loopw [3] (fun i wr => ∃ j : Nat, j ≤ 16 ∧ i = .int .i64 j ∧ Hid (∀ k ∈ N.ks.take j, refP k = true) ∧ Hid (Below (w.heap.size + 1) (w.alloc (.cells (ndC N a n c) 45)) wr)) (fun i _ => 16 - (intOf i).toNat)
      case atStart => exact ⟨0, Nat.zero_le _, rfl, Lib.hid (fun k hk => by simp at hk), Lib.hid (Below.refl _ _)⟩
      case round =>
        obtain ⟨j, hj, rfl, HJ, HB⟩ := hrel
        have HOr := Lib.hid (HO.out.below (HB.out.mono (by simp)))
        have HBr := Lib.hid (of_al HB.out)
        by_cases hlt : j < 16
        · have hck := nd_kid HOr.out HL.out j hlt
          have HMem : Hid (N.ks.getD j eB ∈ N.ks) := Lib.hid (by rw [List.getD_eq_getElem?_getD, List.getElem?_eq_getElem (by rw [HL.out]; exact hlt)]; exact List.getElem_mem _)
          have HC := Lib.hid (HRR.out _ HMem.out wr)
          have HT : Hid (refP (N.ks.getD j eB) = true → ∀ k ∈ N.ks.take (j + 1), refP k = true) := Lib.hid (fun h k hk => by
            rw [List.take_succ_eq_append_getElem (by rw [HL.out]; exact hlt)] at hk
            rcases List.mem_append.1 hk with e | e
            · exact HJ.out k e
            · rw [List.mem_singleton.1 e]
              rw [List.getD_eq_getElem?_getD, List.getElem?_eq_getElem (by rw [HL.out]; exact hlt)] at h
              exact h)
          have HN : Hid (refP (N.ks.getD j eB) = false → F = false) := Lib.hid (fun h => by
            cases F with
            | false => rfl
            | true => exact absurd (HM.out rfl _ HMem.out) (by rw [h]; decide))
          obtain ⟨K, hK⟩ : ∃ K, N.ks.getD j eB = K := ⟨_, rfl⟩
          rw [hK] at hck HC HT HN
          obtain ⟨RK, hRK⟩ : ∃ RK, refP K = RK := ⟨_, rfl⟩
          rw [hRK] at HC HT HN
          clear hK hRK HMem HJ
          go_wp2_with fail
          refine HC.out.mono ?_
          rintro e w5 ⟨rfl, hb5⟩
          have HB5 := Lib.hid (al_step HB.out hb5)
          have HB5' := Lib.hid (of_al HB5.out)
          clear hb5 HC HB hck HOr HBr
          cases RK with
          | true =>
            go_wp2
            go_roundw
            case rel => exact ⟨j + 1, by omega, by go_num, Lib.hid (HT.out (by first | rfl | trivial)), HB5⟩
            case measure => simp [intOf]; omega
          | false =>
            obtain rfl := HN.out (by first | rfl | trivial)
            go_wp2
            go_ret
            exact ⟨rfl, HB5'.out⟩
        · obtain rfl : j = 16 := by omega
          have e : N.ks.take 16 = N.ks := List.take_of_length_le (by rw [HL.out]; exact Nat.le_refl _)
          have HE := Lib.hid (HA.out (fun k hk => HJ.out k (by rw [e]; exact hk)))
          have HRk := Lib.hid (fun w => rkids_any N a n c HL.out w)
          obtain ⟨c0, c1, c2⟩ := nd_cells HOr.out
          have ck := nd_kid HOr.out HL.out 0 (by decide)
          have hkl := kidsL_len N.ks 16
          rw [e] at hkl
          obtain ⟨Q, hQ⟩ : ∃ Q, (kidsL N.ks).length = Q := ⟨_, rfl⟩
          obtain ⟨K, hK⟩ : ∃ K, N.ks.getD 0 eB = K := ⟨_, rfl⟩
          obtain ⟨V, hV⟩ : ∃ V, N.v = V := ⟨_, rfl⟩
          rw [hQ] at HE HRk hkl
          rw [hK] at HE ck
          rw [hV] at HE c2 hv
          clear e HJ HM HA HG HD hQ hK hV HB
          by_cases hkd : N.kd = 1
          · rw [hkd] at c0
            rw [if_pos hkd] at HE
            by_cases hv0 : V.size = 0
            · have d1 : decide (1 ≤ (V.size : Int)) = false := by simp; omega
              go_wp2
              go_ret
              exact ⟨by rw [HE.out]; simp [hv0], HBr.out⟩
            · have d1 : decide (1 ≤ (V.size : Int)) = true := by simp; omega
              by_cases hv2 : V.size ≤ 65552
              · have d2 : decide ((V.size : Int) ≤ 65552) = true := by simp; omega
                go_wp2_with (refine Rg.runW (by rfl) _ _ (op_load_nd HOr.out HL.out ?_) ?_; · exact ⟨_, rfl, rfl⟩)
                refine (HRk.out _).mono ?_
                rintro e w6 ⟨rfl, hb6⟩
                have HB6 := Lib.hid (below_step' HBr.out hb6)
                clear hb6
                by_cases hq : Q = 0
                · subst hq
                  go_wp2
                  go_ret
                  exact ⟨by rw [HE.out]; simp [hv0, hv2, h64], HB6.out⟩
                · have dq : ((Q : Int) == 0) = false := by simp; omega
                  go_wp2
                  go_ret
                  exact ⟨by rw [HE.out]; simp [hq], HB6.out⟩
              · have d2 : decide ((V.size : Int) ≤ 65552) = false := by simp; omega
                go_wp2
                go_ret
                exact ⟨by rw [HE.out]; simp [hv2], HBr.out⟩
          · rw [if_neg hkd] at HE
            have hk1 : (N.kd == 1) = false := by simp; exact hkd
            clear hkd
            by_cases hkd : N.kd = 2
            · rw [hkd] at c0
              rw [if_pos hkd] at HE
              by_cases hv0 : V.size = 0
              · obtain rfl := size_zero hv0
                by_cases hn0 : 0 < n
                · have dn : decide (0 < (n : Int)) = true := by simp; omega
                  by_cases hz : K.size = 0
                  · obtain rfl := size_zero hz
                    go_wp2
                    go_ret
                    exact ⟨by rw [HE.out]; rw [show decide (eB.size ≠ 0) = false from rfl, Bool.and_false, Bool.false_and, Bool.and_false]; rfl, HBr.out⟩
                  · have hkn := Ni.not_empty (s := K) (by omega)
                    go_wp2_with (refine Rg.runW (by rfl) _ _ (op_load_nd HOr.out HL.out ?_) ?_; · exact ⟨_, rfl, rfl⟩)
                    refine (HRk.out _).mono ?_
                    rintro e w6 ⟨rfl, hb6⟩
                    have HB6 := Lib.hid (below_step' HBr.out hb6)
                    clear hb6
                    by_cases hq : Q = 1
                    · subst hq
                      go_wp2
                      go_ret
                      exact ⟨by rw [HE.out]; simp [hn0, hz, h64]; rfl, HB6.out⟩
                    · have dq : ((Q : Int) == 1) = false := by simp; omega
                      go_wp2
                      go_ret
                      exact ⟨by rw [HE.out]; simp [hq], HB6.out⟩
                · obtain rfl : n = 0 := by omega
                  go_wp2
                  go_ret
                  exact ⟨by rw [HE.out]; simp, HBr.out⟩
              · have hvn := Ni.not_empty (s := V) (by omega)
                go_wp2
                go_ret
                exact ⟨by rw [HE.out]; simp [hv0], HBr.out⟩
            · rw [if_neg hkd] at HE
              have hk2 : (N.kd == 2) = false := by simp; exact hkd
              clear hkd
              by_cases hkd : N.kd = 3
              · rw [hkd] at c0
                rw [if_pos hkd] at HE
                by_cases hv0 : V.size = 0
                · obtain rfl := size_zero hv0
                  by_cases hn0 : n = 0
                  · subst hn0
                    go_wp2_with (refine Rg.runW (by rfl) _ _ (op_load_nd HOr.out HL.out ?_) ?_; · exact ⟨_, rfl, rfl⟩)
                    refine (HRk.out _).mono ?_
                    rintro e w6 ⟨rfl, hb6⟩
                    have HB6 := Lib.hid (below_step' HBr.out hb6)
                    clear hb6
                    by_cases hq : 2 ≤ Q
                    · have dq : decide (2 ≤ (Q : Int)) = true := by simp; omega
                      go_wp2
                      go_ret
                      exact ⟨by rw [HE.out]; simp [hq]; rfl, HB6.out⟩
                    · have dq : decide (2 ≤ (Q : Int)) = false := by simp; omega
                      go_wp2
                      go_ret
                      exact ⟨by rw [HE.out]; simp [hq], HB6.out⟩
                  · have dn : ((n : Int) == 0) = false := by simp; omega
                    go_wp2
                    go_ret
                    exact ⟨by rw [HE.out]; simp [hn0], HBr.out⟩
                · have hvn := Ni.not_empty (s := V) (by omega)
                  go_wp2
                  go_ret
                  exact ⟨by rw [HE.out]; simp [hv0], HBr.out⟩
              · rw [if_neg hkd] at HE
                have hk3 : (N.kd == 3) = false := by simp; exact hkd
                go_wp2
                go_ret
                exact ⟨by rw [HE.out]; simp, HBr.out⟩
    · have d64 : decide (64 < (n : Int)) = true := by simp; omega
      obtain rfl := HG.out h64
      go_enter Tryd.func45, Tryd.ntmps45
      go_wp2_with fail
      refine HRi.out.mono ?_
      rintro e w3 ⟨rfl, rfl⟩
      go_wp2
      go_ret
      exact ⟨rfl, HBe.out⟩

/-- what the plain answer's kid tells of an item -/
def kidR (x : It) : ByteArray × Bool := if x.l then (if x.bytes.length < 32 then (⟨x.bytes.toArray⟩, refP ⟨x.bytes.toArray⟩) else (eB, false)) else (x.s, refP x.s)
set_option maxHeartbeats 8000000 in
theorem rkid_text (s : ByteArray) (w : World) (a : Option Addr) (n c : Nat) (hR : RRefC s) (_hs : s.size ≤ 1000000) :
    Calls Tryd.prog 46 #[.agg #[.bool false, .string s, .slice a n c]] w fun e w' => e = .returned (.tuple #[.string s, .bool (refP s)]) ∧ Below w.heap.size w w' := by
  have hO : Rg.Own (w.alloc (.cells #[.bool false, .string s, .slice a n c] 63)) w.heap.size (itC (.mk false s []) a n c) 63 := Rg.Own.new _ _ _
  obtain ⟨c0, c1, c2⟩ := lies_row hO.2
  have HB := Lib.hid (al1 w (.cells #[.bool false, .string s, .slice a n c] 63))
  have HR := Lib.hid (fun w => hR w)
  obtain ⟨RK, hRK⟩ : ∃ RK, refP s = RK := ⟨_, rfl⟩
  rw [hRK] at HR ⊢
  dsimp only [It.l, It.s] at c0 c1
  clear hO hRK hR
  go_enter Tryd.func46, Tryd.ntmps46
  go_wp2_with fail
  refine (HR.out _).mono ?_
  rintro e w3 ⟨rfl, hb3⟩
  have HB3 := Lib.hid (below_step' HB.out hb3)
  clear hb3
  go_wp2
  go_ret2
  exact ⟨rfl, HB3.out⟩
set_option maxHeartbeats 8000000 in
theorem rkid_list (s : ByteArray) (xs : List It) (w : World) (a : Option Addr) (n c : Nat) (hv : IsIts w xs a n c) (hG : Good (.mk true s xs)) (h1 : (It.mk true s xs).bytes.length < 32 → RRefC ⟨(It.mk true s xs).bytes.toArray⟩) :
    Calls Tryd.prog 46 #[.agg #[.bool true, .string s, .slice a n c]] w fun e w' => e = .returned (.tuple #[.string (kidR (.mk true s xs)).1, .bool (kidR (.mk true s xs)).2]) ∧ Below w.heap.size w w' := by
  obtain ⟨w1, hw1⟩ : ∃ w1, w1 = w.alloc (.cells #[.bool true, .string s, .slice a n c] 63) := ⟨_, rfl⟩
  have hb1 : Below w.heap.size w w1 := by rw [hw1]; exact al1 _ _
  have hO : Rg.Own w1 w.heap.size (itC (.mk true s xs) a n c) 63 := by rw [hw1]; exact Rg.Own.new _ _ _
  obtain ⟨c0, c1, c2⟩ := lies_row hO.2
  have HB := Lib.hid hb1
  have HO := Lib.hid hO
  have hP : Calls Tryd.prog 72 #[.agg (itC (.mk true s xs) a n c)] w1 _ := rput_any (.mk true s xs) 0 w1 (itV (.mk true s xs) a n c) ⟨a, n, c, rfl, hv.stays hb1⟩ hG.1 hG.2.2.1
  have hsz := hG.2.2.1
  have hbs : (⟨(It.mk true s xs).bytes.toArray⟩ : ByteArray).size = (It.mk true s xs).bytes.length := ba_size _
  unfold kidR
  rw [if_pos (show (It.mk true s xs).l = true from rfl)]
  dsimp only [It.l, It.s] at c0 c1
  by_cases hlt : (It.mk true s xs).bytes.length < 32
  · have hR := h1 hlt
    rw [if_pos hlt]
    dsimp only
    obtain ⟨S, hS⟩ : ∃ S, (⟨(It.mk true s xs).bytes.toArray⟩ : ByteArray) = S := ⟨_, rfl⟩
    obtain ⟨RK, hRK⟩ : ∃ RK, refP S = RK := ⟨_, rfl⟩
    unfold RRefC at hR
    rw [hS] at hR hP hbs
    rw [hS, hRK]
    rw [hRK] at hR
    have HR := Lib.hid (fun w => hR w)
    have HP := Lib.hid hP
    have d31 : decide (31 < (S.size : Int)) = false := by simp; omega
    clear h1 hv hG hb1 hO hP hsz hRK hS hR
    subst hw1
    go_enter Tryd.func46, Tryd.ntmps46
    go_wp2_with (refine Rg.run rfl _ _ (op_load_it HO.out ⟨_, rfl, rfl⟩) ?_)
    with_reducible refine HP.out.mono ?_
    rintro e w3 ⟨rfl, hb3⟩
    have HB3 := Lib.hid (below_step' HB.out hb3)
    clear hb3 HP
    go_wp2_with fail
    refine (HR.out _).mono ?_
    rintro e w4 ⟨rfl, hb4⟩
    have HB4 := Lib.hid (below_step' HB3.out hb4)
    clear hb4
    go_wp2
    go_ret2
    exact ⟨rfl, HB4.out⟩
  · rw [if_neg hlt]
    dsimp only
    obtain ⟨S, hS⟩ : ∃ S, (⟨(It.mk true s xs).bytes.toArray⟩ : ByteArray) = S := ⟨_, rfl⟩
    rw [hS] at hP hbs
    have HP := Lib.hid hP
    have d31 : decide (31 < (S.size : Int)) = true := by simp; omega
    clear h1 hv hG hb1 hO hS hP
    subst hw1
    go_enter Tryd.func46, Tryd.ntmps46
    go_wp2_with (refine Rg.run rfl _ _ (op_load_it HO.out ⟨_, rfl, rfl⟩) ?_)
    with_reducible refine HP.out.mono ?_
    rintro e w3 ⟨rfl, hb3⟩
    have HB3 := Lib.hid (below_step' HB.out hb3)
    clear hb3 HP
    go_wp2
    go_ret2
    exact ⟨rfl, HB3.out⟩
/-- the plain answer's kid of any item -/
theorem rkid_any (x : It) (w : World) (a : Option Addr) (n c : Nat) (hv : IsIts w x.xs a n c) (hG : Good x) (h1 : x.l = true → x.bytes.length < 32 → RRefC ⟨x.bytes.toArray⟩) (h2 : x.l = false → RRefC x.s) :
    Calls Tryd.prog 46 #[itV x a n c] w fun e w' => e = .returned (.tuple #[.string (kidR x).1, .bool (kidR x).2]) ∧ Below w.heap.size w w' := by
  cases x with
  | mk l s xs =>
    cases l with
    | true => exact rkid_list s xs w a n c hv hG (h1 rfl)
    | false =>
      obtain rfl : xs = [] := by
        have := text_of' hG.1 rfl
        exact congrArg It.xs this
      have hk : kidR (.mk false s []) = (s, refP s) := rfl
      rw [hk]
      exact rkid_text s w a n c (h2 rfl) hG.2.2.2
end No
end Go.Proofs.YtoeblhdddehemaaDoor

/-
  What the plain answer's Get tells, plain: of each way through it, which node bytes are.
-/
namespace Go.Proofs.YtoeblhdddehemaaDoor
set_option maxRecDepth 20000
open Go.RowKit

namespace No
open Rl Ni
theorem kidR_of {x : It} {k : ByteArray} (h : kidP x = some k) (hr : refP k = true) : kidR x = (k, true) := by
  unfold kidP at h
  unfold kidR
  split at h
  · rename_i hl
    rw [if_pos hl]
    split at h
    · rename_i hb
      obtain rfl := Option.some.inj h
      rw [if_pos hb, hr]
    · cases h
  · rename_i hl
    rw [if_neg hl]
    split at h
    · obtain rfl := Option.some.inj h
      rw [hr]
    · cases h
theorem allK_kidR : ∀ {l : List It} {ks : List ByteArray}, allK l = some ks → (∀ k ∈ ks, refP k = true) → l.map kidR = ks.map fun k => (k, true)
  | [], ks, h, _ => by obtain rfl := Option.some.inj h; rfl
  | x :: l, ks, h, hr => by
    unfold allK at h
    cases hk : kidP x with
    | none => rw [hk] at h; cases h
    | some k =>
      rw [hk] at h
      dsimp only at h
      cases ha : allK l with
      | none => rw [ha] at h; cases h
      | some ks' =>
        rw [ha] at h
        obtain rfl := Option.some.inj h
        rw [List.map_cons, List.map_cons, kidR_of hk (hr k List.mem_cons_self), allK_kidR ha (fun q hq => hr q (List.mem_cons_of_mem _ hq))]
theorem get_if {s : List UInt8} (hs : s.length ≤ 1000000) {N : Nd} (hl : N.ks.length = 16) (h : ∀ M, getP s = some M → M = N) : getP s = if mayW refP N = true ∧ putP N = s then some N else none := by
  by_cases hc : mayW refP N = true ∧ putP N = s
  · rw [if_pos hc]
    have := get_put hl hc.1
    rw [hc.2] at this
    exact this
  · rw [if_neg hc]
    cases hg : getP s with
    | none => rfl
    | some M =>
      obtain rfl := h M hg
      obtain ⟨_, h2, h3, _⟩ := whole_get hs hg
      exact absurd ⟨h3, h2⟩ hc
theorem whole_err {s : List UInt8} {c : Int} (h : readL s 0 0 = .error c) : wholeL s = .error c := by
  unfold wholeL
  rw [h]
theorem whole_long {s : List UInt8} {x : It} {n k : Nat} (h : readL s 0 0 = .ok (x, n, k)) (hn : n < s.length) : wholeL s = .error 6 := by
  unfold wholeL
  rw [h]
  exact if_pos hn
theorem whole_is {s : List UInt8} {x : It} {n k : Nat} (h : readL s 0 0 = .ok (x, n, k)) (hn : ¬ n < s.length) : wholeL s = .ok x := by
  unfold wholeL
  rw [h]
  exact if_neg hn
theorem get_err {s : List UInt8} (hs : s.length ≤ 1000000) {c : Int} (hw : wholeL s = .error c) : getP s = none := by rw [getP_eq s (by omega), hw]
theorem get_few {s : List UInt8} (hs : s.length ≤ 1000000) {x : It} (hw : wholeL s = .ok x) (h2 : x.xs.length ≠ 2) (h17 : x.xs.length ≠ 17) : getP s = none := by
  rw [getP_eq s (by omega), hw]
  dsimp only
  rw [show readP x.xs = none by unfold readP; rw [if_neg h2, if_neg h17]]
theorem get_bad {s : List UInt8} (hs : s.length ≤ 1000000) {x : It} (hw : wholeL s = .ok x) (h2 : x.xs.length = 2) (hb : (x.xs.getD 0 it0).s.size = 0 ∨ Bad (x.xs.getD 0 it0).s) : getP s = none := by
  rw [getP_eq s (by omega), hw]
  dsimp only
  rw [show readP x.xs = none by unfold readP readPathP; rw [if_pos h2, if_pos hb]]
/-- a leaf of these items -/
def leafN (y z : It) : Nd := ⟨1, pathL y.s, z.s, zks⟩
theorem get_leaf {s : List UInt8} (hs : s.length ≤ 1000000) {x : It} (hw : wholeL s = .ok x) (h2 : x.xs.length = 2) (hb : ¬ ((x.xs.getD 0 it0).s.size = 0 ∨ Bad (x.xs.getD 0 it0).s)) (hlf : leafB (x.xs.getD 0 it0).s = true) :
    getP s = if mayW refP (leafN (x.xs.getD 0 it0) (x.xs.getD 1 it0)) = true then some (leafN (x.xs.getD 0 it0) (x.xs.getD 1 it0)) else none := by
  rw [getP_eq s (by omega), hw]
  dsimp only
  rw [show readP x.xs = some (leafN (x.xs.getD 0 it0) (x.xs.getD 1 it0)) by unfold readP readPathP; rw [if_pos h2, if_neg hb, if_pos hlf]; rfl]
theorem leaf_text {y z : It} {d : Nat} (hf : Fits d z) (hm : mayW refP (leafN y z) = true) : z.l = false := by
  rcases may_kinds (n := leafN y z) zks_length hm with ⟨_, h, _⟩ | ⟨h, _⟩ | ⟨h, _⟩
  · exact congrArg It.l (text_of hf h)
  · exact absurd (show (1 : Int) = 2 from h) (by decide)
  · exact absurd (show (1 : Int) = 3 from h) (by decide)
/-- an extension of these items -/
def extN (y z : It) : Nd := ⟨2, pathL y.s, eB, one16 (kidR z).1⟩
theorem extN_length (y z : It) : (extN y z).ks.length = 16 := one16_length _
theorem get_ext {s : List UInt8} (hs : s.length ≤ 1000000) {x : It} (hw : wholeL s = .ok x) (h2 : x.xs.length = 2) (hb : ¬ ((x.xs.getD 0 it0).s.size = 0 ∨ Bad (x.xs.getD 0 it0).s)) (hlf : leafB (x.xs.getD 0 it0).s = false) :
    ∀ M, getP s = some M → (kidR (x.xs.getD 1 it0)).2 = true ∧ M = extN (x.xs.getD 0 it0) (x.xs.getD 1 it0) := by
  intro M hM
  obtain ⟨x', hw', hr, hm⟩ := getP_some (by omega) hM
  obtain rfl := ok_inj (hw.symm.trans hw')
  unfold readP readPathP at hr
  rw [if_pos h2, if_neg hb, if_neg (by rw [hlf]; decide)] at hr
  obtain ⟨k, hk, rfl⟩ := Option.map_eq_some_iff.1 hr
  have := kidR_of hk (may_refs (one16_length k) hm k List.mem_cons_self)
  unfold extN
  rw [this]
  exact ⟨rfl, rfl⟩
/-- a branch of these items -/
def brN (xs : List It) : Nd := ⟨3, [], eB, (xs.take 16).map fun x => (kidR x).1⟩
theorem brN_length {xs : List It} (h : xs.length = 17) : (brN xs).ks.length = 16 := by simp [brN, h]
theorem get_branch {s : List UInt8} (hs : s.length ≤ 1000000) {x : It} (hw : wholeL s = .ok x) (h17 : x.xs.length = 17) :
    ∀ M, getP s = some M → (∀ y ∈ x.xs.take 16, (kidR y).2 = true) ∧ M = brN x.xs := by
  intro M hM
  obtain ⟨x', hw', hr, hm⟩ := getP_some (by omega) hM
  obtain rfl := ok_inj (hw.symm.trans hw')
  unfold readP readBranchP at hr
  rw [if_neg (by omega), if_pos h17] at hr
  cases ha : allK (x.xs.take 16) with
  | none => rw [ha] at hr; cases hr
  | some ks =>
    rw [ha] at hr
    dsimp only at hr
    split at hr
    · obtain rfl := Option.some.inj hr
      have hkl : ks.length = 16 := by rw [allK_len ha]; simp [h17]
      have hrf := may_refs hkl hm
      have hmap := allK_kidR ha hrf
      refine ⟨fun y hy => ?_, ?_⟩
      · have h1 : kidR y ∈ (x.xs.take 16).map kidR := List.mem_map_of_mem hy
        rw [hmap] at h1
        obtain ⟨k, _, h1⟩ := List.mem_map.1 h1
        rw [← h1]
      · have h1 := congrArg (List.map Prod.fst) hmap
        rw [List.map_map, List.map_map] at h1
        unfold brN
        have h2 : ((x.xs.take 16).map fun x => (kidR x).1) = ks := by
          have e1 : (Prod.fst ∘ kidR) = fun x => (kidR x).1 := rfl
          have e2 : (Prod.fst ∘ fun k : ByteArray => (k, true)) = id := rfl
          rw [e1, e2, List.map_id] at h1
          exact h1
        rw [h2]
    · cases hr
end No
end Go.Proofs.YtoeblhdddehemaaDoor
