/-
  The contract of the plain answer's All.
-/
import Derived.Test.YtoeblhdddehemaaDoorMg28
import Derived.Test.YtoeblhdddehemaaDoorMg32
namespace Go.Proofs.YtoeblhdddehemaaDoor
set_option maxRecDepth 20000
open Go.RowKit

namespace Rf
open Rl Ni No
def RAllC (s : ByteArray) : Prop := ∀ w : World, Calls Tryd.prog 17 #[.string s] w (GotAll w (allP s.data.toList))
theorem own_keep {B b : Nat} {w w' : World} {N : Nd} {a : Option Addr} {n c : Nat} (h : OwnN w b N a n c) (hb : Below B w w') (hlt : b < B) : OwnN w' b N a n c :=
  ⟨Nat.lt_of_lt_of_le h.1 hb.size, (hb.block b hlt).trans h.2⟩
/-- a node in a block of its own, and a row of one text behind it -/
theorem boxed_row2 (w w3 : World) (hb : Below w.heap.size w w3) (N : Nd) (a : Option Addr) (n c : Nat) (s : ByteArray) : ∃ w5, w5 = ((w3.alloc (.cells (ndC nd0 none 0 0) 45)).setRow w3.heap.size (ndC N a n c)).alloc (.cells #[.string s] 9) ∧
    OwnN (w3.alloc (.cells (ndC nd0 none 0 0) 45)) w3.heap.size nd0 none 0 0 ∧ OwnN w5 w3.heap.size N a n c ∧ w5.ownsRow (w3.heap.size + 1) 9 1 (.slice (some ⟨w3.heap.size + 1, 0, none⟩) 1 1) 1 [.string s] ∧ Below w.heap.size w w5 ∧ w3.heap.size + 1 < w5.heap.size := by
  have h1 : OwnN (w3.alloc (.cells (ndC nd0 none 0 0) 45)) w3.heap.size nd0 none 0 0 := Rg.Own.new _ _ _
  have h2 : Below w3.heap.size w3 ((w3.alloc (.cells (ndC nd0 none 0 0) 45)).setRow w3.heap.size (ndC N a n c)) := below_rowN (al1 _ _) (Nat.le_refl _) _
  have hs := hb.size
  have hz : ((w3.alloc (.cells (ndC nd0 none 0 0) 45)).setRow w3.heap.size (ndC N a n c)).heap.size = w3.heap.size + 1 := by simp
  refine ⟨_, rfl, h1, (own_rowN h1).below (al1 _ _), ?_, (below_step' hb h2).alloc (by rw [hz]; omega) _, by simp⟩
  have := World.ownsRow_lit (e := 9) (size := 1) (base := w3.heap.size + 1) ((w3.alloc (.cells (ndC nd0 none 0 0) 45)).setRow w3.heap.size (ndC N a n c)) #[.string s] 1 (by rw [hz]; exact Nat.le_refl _) (by unfold maxLen; decide) rfl
  rw [hz] at this
  exact this

set_option maxHeartbeats 8000000 in
theorem rall_step (s : ByteArray) (hs : s.size ≤ 1000000) (ih : ∀ k : ByteArray, k.size < s.size → RAllC k) : RAllC s := by
  intro w
  have HG := Lib.hid (rget_any s hs w)
  have HAl : Hid (∀ n, getP s.data.toList = some n → allP s.data.toList = s :: kidsAll n.ks ∧ (kidsAll n.ks).length + 1 ≤ 1000000 ∧ ∀ k ∈ n.ks, k.size ≤ 32 ∧ (k.size ≠ 0 ∧ k.size < 32 → RAllC k)) := Lib.hid (fun n hn => by
    have hl : s.data.toList.length ≤ 4294967296 := by rw [len_s]; omega
    have h1 := allP_some hl hn
    have h2 := allP_length s.data.toList hl
    have e : (⟨s.data.toList.toArray⟩ : ByteArray) = s := by apply ByteArray.ext; simp
    rw [e] at h1
    refine ⟨h1, ?_, fun k hm => ?_⟩
    · rw [h1, List.length_cons, len_s] at h2; omega
    · rcases (got_kids hl hn).2.2 k hm with hp | ⟨h3, h4⟩
      · have hz := plain_size hp
        exact ⟨by omega, fun h => absurd h (by omega)⟩
      · rw [len_s] at h4
        exact ⟨by omega, fun _ => ih k h4⟩)
  have HNo : Hid (getP s.data.toList = none → allP s.data.toList = []) := Lib.hid allP_none
  obtain ⟨r, hr⟩ : ∃ r, getP s.data.toList = r := ⟨_, rfl⟩
  obtain ⟨R, hR⟩ : ∃ R, allP s.data.toList = R := ⟨_, rfl⟩
  rw [hr] at HG HAl HNo
  rw [hR] at HAl HNo ⊢
  clear hr hR ih hs
  obtain ⟨i0, hi, hz0, hz1, hz2⟩ := info_st_parts
  have HI : Hid (_ ∧ _ ∧ _ ∧ _) := Lib.hid ⟨hi, hz0, hz1, hz2⟩
  clear hi hz0 hz1 hz2
  go_enter Tryd.func17, Tryd.ntmps17
  go_wp2_with fail
  refine HG.out.mono ?_
  rintro e w3 ⟨N, a3, n3, c3, b3, rfl, hr3, hx3, hl3, hb3⟩
  have HL := Lib.hid hl3
  clear hx3 HG
  rcases hr3 with ⟨rfl, rfl⟩ | ⟨rfl, rfl⟩
  · obtain ⟨w5, hw5, h34, h5, hR5, hb5, hlt5⟩ := boxed_row2 w w3 hb3 N a3 n3 c3 s
    have H34 := Lib.hid h34
    have H5 := Lib.hid h5
    have HR5 := Lib.hid hR5
    have HB5 := Lib.hid hb5
    have hb3s := hb3.size
    obtain ⟨hAll, hLen, hKid⟩ := HAl.out N rfl
    obtain ⟨KL, hKL⟩ : ∃ KL, N.ks = KL := ⟨_, rfl⟩
    rw [hKL] at hAll hLen hKid
    have HKid := Lib.hid hKid
    have HLen := Lib.hid hLen
    have HAll := Lib.hid hAll
    have HKL := Lib.hid hKL
    have HLK : Hid (KL.length = 16) := Lib.hid (by rw [← hKL]; exact HL.out)
    clear HAl HNo hKL hl3 h34 h5 hR5 hb5 hb3 hKid hLen hAll
    go_wp2_with (first
      | (refine Rg.run rfl _ _ (run_alloc_nd _ _ _ w3.heap.size rfl rfl) ?_)
      | (refine wpl_store_nd H34.out rfl N a3 n3 c3 HL.out rfl _ _ rfl rfl rfl rfl ?_))
    rw [← hw5]
    obtain ⟨g, hg⟩ : ∃ g, w3.heap.size = g := ⟨_, rfl⟩
    rw [hg] at H5 HR5 hlt5 hb3s ⊢
    obtain ⟨v5, hv5⟩ : ∃ v, Value.slice (some ⟨g + 1, 0, none⟩) 1 1 = v := ⟨_, rfl⟩
    rw [hv5] at HR5 ⊢
    clear hw5 H34 hg hv5
    go_loopw [5, 6] (fun v i wr => ∃ j : Nat, j ≤ 16 ∧ i = .int .i64 j ∧ Hid (wr.ownsRow (g + 1) 9 1 v (s :: kidsAll (KL.take j)).length ((s :: kidsAll (KL.take j)).map Value.string)) ∧ Hid (OwnN wr g N a3 n3 c3) ∧ Hid (g + 1 < wr.heap.size) ∧ Hid (Below w.heap.size w wr)) (fun _ i _ => 16 - (intOf i).toNat)
    case atStart => exact ⟨0, Nat.zero_le _, rfl, HR5, H5, Lib.hid hlt5, HB5⟩
    case round =>
      obtain ⟨j, hj, rfl, HR, HN, HLt, HB⟩ := hrel
      clear HR5 H5 HB5
      by_cases hlt : j < 16
      · have HM : Hid (j < KL.length) := Lib.hid (by rw [HLK.out]; exact hlt)
        have hc := nd_kid HN.out HL.out j hlt
        rw [HKL.out] at hc
        have HSn := Lib.hid (kidsAll_snoc KL j HM.out)
        have htk := kidsAll_take KL (j + 1)
        have hle := HLen.out
        obtain ⟨hk32, hkAll⟩ := HKid.out _ (getD_mem HM.out)
        have HKA : Hid (kidAll (KL.getD j eB) = if (KL.getD j eB).size ≠ 0 ∧ (KL.getD j eB).size < 32 then allP (KL.getD j eB).data.toList else []) := Lib.hid rfl
        have HAC := Lib.hid hkAll
        obtain ⟨K, hK⟩ : ∃ K, KL.getD j eB = K := ⟨_, rfl⟩
        rw [hK] at hc HSn HKA HAC hk32
        obtain ⟨L, hL⟩ : ∃ L, kidsAll (KL.take j) = L := ⟨_, rfl⟩
        rw [hL] at HR HSn
        rw [HSn.out, List.length_append, HKA.out] at htk
        clear hK hL hkAll HM
        by_cases h0 : K.size = 0
        · obtain rfl := size_zero h0
          have HE : Hid (s :: kidsAll (KL.take (j + 1)) = s :: L) := Lib.hid (by rw [HSn.out, HKA.out, if_neg (by omega), List.append_nil])
          clear HAC htk hk32 HKA HSn h0
          go_wp2
          go_roundw
          case rel => exact ⟨j + 1, by omega, by go_num, by rw [HE.out]; exact HR, HN, HLt, HB⟩
          case measure => simp [intOf]; omega
        have hne := Ni.not_empty (s := K) (by omega)
        by_cases h32 : K.size < 32
        · have hd : decide ((K.size : Int) < 32) = true := by simp; omega
          rw [if_pos ⟨h0, h32⟩] at HKA htk
          have HAK := Lib.hid (HAC.out ⟨h0, h32⟩)
          unfold RAllC at HAK
          obtain ⟨P, hP⟩ : ∃ P, allP K.data.toList = P := ⟨_, rfl⟩
          rw [hP] at HAK HKA htk
          clear HAC hP h0 h32 hk32
          go_wp2_with fail
          refine (HAK.out wr).mono ?_
          rintro e w8 ⟨a8, n8, c8, rfl, hs8, hn8, hb8⟩
          have HR8 := Lib.hid (row_keep HR.out hb8)
          have HN8 := Lib.hid (HN.out.below hb8)
          have HB8 := Lib.hid (below_step' HB.out hb8)
          have hl8 := hs8.len
          have hlt8 : g + 1 < w8.heap.size := Nat.lt_of_lt_of_le HLt.out hb8.size
          clear hb8 HR HN HB HLt HAK hc
          cases a8 with
          | none =>
            obtain ⟨rfl, rfl⟩ := hn8 rfl
            have HE : Hid (s :: kidsAll (KL.take (j + 1)) = s :: L) := Lib.hid (by rw [HSn.out, HKA.out, List.eq_nil_of_length_eq_zero hl8, List.append_nil])
            go_wp2_with (at_builtin; refine wpList_append_own_none rfl _ _ 22 rfl (g + 1) 9 i0 1 Tryd.underlying22 HI.out.1 _ _ _ rfl HR8.out rfl ?_)
            go_roundw
            case rel => exact ⟨j + 1, by omega, by go_num, by rw [HE.out]; exact HR8, HN8, Lib.hid hlt8, HB8⟩
            case measure => simp [intOf]; omega
          | some ad =>
            have HC8 := Lib.hid (st_cells hs8)
            have HE : Hid (s :: kidsAll (KL.take (j + 1)) = s :: (L ++ P)) := Lib.hid (by rw [HSn.out, HKA.out])
            clear hn8 hs8
            go_wp2_with (at_builtin; refine wpList_append_own _ rfl _ _ 22 rfl (g + 1) 9 i0 (.string ⟨#[]⟩) 1 16 Tryd.underlying22 HI.out.1 HI.out.2.1 HI.out.2.2.1 HI.out.2.2.2 rfl (by decide) _ _ _ rfl HR8.out ad n8 c8 (P.map Value.string) rfl ?d0 ?d1 ?d2 ?d3 ?d4 ?d5 ?_)
            case d0 => rw [List.length_map, Nat.mul_one]; exact hl8
            case d1 => exact HC8.out
            case d2 => intro u hu; simp at hu; obtain ⟨_, _, rfl⟩ := hu; rfl
            case d3 => unfold maxLen; simp; omega
            case d4 => simp; omega
            case d5 => omega
            intro v' w9 hown9 hgrow _
            have hlt' := HR8.out.lt
            have HR9 : Hid (w9.ownsRow (g + 1) 9 1 v' (s :: kidsAll (KL.take (j + 1))).length ((s :: kidsAll (KL.take (j + 1))).map Value.string)) := Lib.hid (by rw [HE.out]; exact row_next hown9 hl8)
            have hb89 : Below (g + 1) w8 w9 := (Below.refl _ _).grown hgrow (by omega) (fun k hk => (hlt' k hk).1)
            have HN9 := Lib.hid (own_keep HN8.out hb89 (by omega))
            have HB9 := Lib.hid (HB8.out.trans (hb89.mono (by omega)))
            have HL9 : Hid (g + 1 < w9.heap.size) := Lib.hid (Nat.lt_of_lt_of_le hlt8 hb89.size)
            clear hown9 hgrow hlt' HR8 HN8 HB8 hb89
            go_wp2
            go_roundw
            case rel => exact ⟨j + 1, by omega, by go_num, HR9, HN9, HL9, HB9⟩
            case measure => simp [intOf]; omega
        · have hd : decide ((K.size : Int) < 32) = false := by simp; omega
          have HE : Hid (s :: kidsAll (KL.take (j + 1)) = s :: L) := Lib.hid (by rw [HSn.out, HKA.out, if_neg (by omega), List.append_nil])
          clear HAC htk hk32 HKA HSn h0
          go_wp2
          go_roundw
          case rel => exact ⟨j + 1, by omega, by go_num, by rw [HE.out]; exact HR, HN, HLt, HB⟩
          case measure => simp [intOf]; omega
      · obtain rfl : j = 16 := by omega
        have hO := HR.out
        rw [List.take_of_length_le (by rw [HLK.out]; exact Nat.le_refl _), ← HAll.out] at hO
        obtain ⟨a', cap', rfl, hb⟩ := IsSt.ofOwn hO
        have HF := Lib.hid hb
        have hne : a' ≠ none := by
          rintro rfl
          rcases hO.2 with ⟨_, hz⟩ | ⟨g, cap, cur, h, _⟩
          · rw [HAll.out] at hz; cases hz
          · cases h
        clear hO hb
        go_wp2
        go_ret
        exact ⟨a', _, cap', rfl, HF.out, fun h => absurd h hne, HB.out⟩
  · have HE := Lib.hid (HNo.out rfl)
    have HO : Hid (OwnN (w3.alloc (.cells (ndC nd0 none 0 0) 45)) w3.heap.size nd0 none 0 0) := Lib.hid (Rg.Own.new _ _ _)
    have HB := Lib.hid (below_step' hb3 (al1 w3 (.cells (ndC nd0 none 0 0) 45)))
    have hge := hb3.size
    clear hb3 hl3 HAl HNo
    go_wp2_with (first
      | (refine Rg.run rfl _ _ (run_alloc_nd _ _ _ w3.heap.size rfl rfl) ?_)
      | (refine wpl_store_nd HO.out rfl N a3 n3 c3 HL.out rfl _ _ rfl rfl rfl rfl ?_))
    go_ret
    refine ⟨none, 0, 0, rfl, ?_, fun _ => ⟨rfl, rfl⟩, below_rowN HB.out hge _⟩
    rw [HE.out]
    exact ⟨Nat.le_refl _, Nat.zero_le _, rfl, fun j hj => absurd hj (Nat.not_lt_zero _)⟩
/-- the plain answer's All of any bytes that are not far too many -/
theorem rall_any (s : ByteArray) (hs : s.size ≤ 1000000) : RAllC s := by
  obtain ⟨N, hN⟩ : ∃ N, s.size = N := ⟨_, rfl⟩
  induction N using Nat.strongRecOn generalizing s with
  | ind N ih => exact rall_step s hs (fun k hk => ih k.size (by omega) k (by omega) rfl)
end Rf
end Go.Proofs.YtoeblhdddehemaaDoor
