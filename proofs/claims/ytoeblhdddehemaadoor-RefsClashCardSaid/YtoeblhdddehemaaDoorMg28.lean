/-
  The contract of refs.All: a node, and those within it.
-/
import Derived.Test.YtoeblhdddehemaaDoorMg25
import Derived.Maps.AppendAt
import Derived.Laws.AppendOwnNone
import Derived.Test.YtoeblhdddehemaaDoorMg26
import Derived.Test.YtoeblhdddehemaaDoorMg27
namespace Go.Proofs.YtoeblhdddehemaaDoor
set_option maxRecDepth 20000
open Go.RowKit

namespace Rf
open Rl Ni No
/-- texts are handed back -/
def GotAll (w : World) (xs : List ByteArray) (e : Ending) (w' : World) : Prop := ∃ (a : Option Addr) (n cap : Nat), e = .returned (.slice a n cap) ∧ IsSt w' a n cap xs ∧ (a = none → n = 0 ∧ cap = 0) ∧ Below w.heap.size w w'
theorem st_grown {w w' : World} {a : Option Addr} {n cap : Nat} {xs : List ByteArray} {row : Option Nat} (h : IsSt w a n cap xs) (hg : w.grownBy w' row) (hne : ∀ b off, a = some ⟨b, off, none⟩ → row ≠ some b) : IsSt w' a n cap xs := by
  refine ⟨h.1, h.2.1, h.2.2.1, fun j hj => ?_⟩
  obtain ⟨b, off, h1, h2, h3⟩ := h.2.2.2 j hj
  exact ⟨b, off, h1, Nat.lt_of_lt_of_le h2 hg.size, by rw [World.cell?_of_block (w := w) (a := ⟨b, off + j, none⟩) (hg.block b h2 (fun e => hne b off h1 e.symm))]; exact h3⟩
theorem st_cells {w : World} {ad : Addr} {n cap : Nat} {xs : List ByteArray} (h : IsSt w (some ad) n cap xs) : ∀ j u, (xs.map Value.string)[j]? = some u → w.cell? (ad.add j) = some u := by
  intro j u hu
  have hl := h.len
  have hj : j < n := by
    have := (List.getElem?_eq_some_iff.1 hu).1
    simp at this; omega
  obtain ⟨b, off, e, _, hc⟩ := h.at' j hj
  obtain rfl := Option.some.inj e
  have hx : u = .string (xs.getD j eB) := by
    have hj' : j < xs.length := by omega
    simp [hj'] at hu
    simp [List.getD, hj', hu]
  rw [hx, Addr.add_mid]
  exact hc
theorem kid_kind {k : ByteArray} : kidAll k = if kindP k = 2 then allP k.data.toList else [] := by
  unfold kidAll kindP
  by_cases h0 : k.size = 0
  · rw [if_neg (by omega), if_pos h0, if_neg (by decide)]
  rw [if_neg h0]
  by_cases h32 : k.size = 32
  · rw [if_neg (by omega), if_pos h32, if_neg (by decide)]
  rw [if_neg h32]
  cases hr : refP k with
  | true =>
    rw [if_pos rfl, if_pos rfl]
    have : k.size < 32 := by
      unfold refP at hr
      rw [Bool.or_eq_true, Bool.and_eq_true] at hr
      rcases hr with h | h
      · have := plain_size h; omega
      · exact of_decide_eq_true h.1
    rw [if_pos ⟨h0, this⟩]
  | false =>
    rw [if_neg (by decide : ¬ (false = true)), if_neg (by decide : ¬ ((3 : Nat) = 2))]
    by_cases hs : k.size ≠ 0 ∧ k.size < 32
    · rw [if_pos hs]
      unfold refP at hr
      rw [Bool.or_eq_false_iff, Bool.and_eq_false_iff] at hr
      rcases hr.2 with h | h
      · exact absurd hs.2 (of_decide_eq_false h)
      · cases hg : getP k.data.toList with
        | none => exact allP_none hg
        | some n => rw [hg] at h; cases h
    · rw [if_neg hs]
/-- Kids, and where what it hands back lies -/
theorem kids_new (N : Nd) (a : Option Addr) (n c : Nat) (hl : N.ks.length = 16) (w : World) : Calls Tryd.prog 31 #[.agg (ndC N a n c)] w (fun e w' => ∃ (a' : Option Addr) (n' cap' : Nat), e = .returned (.slice a' n' cap') ∧ IsSt w' a' n' cap' (kidsL N.ks) ∧ (∀ b off, a' = some ⟨b, off, none⟩ → w.heap.size ≤ b) ∧ Below w.heap.size w w') := by
  obtain ⟨i0, hi, hz0, hz1, hz2⟩ := info_st_parts
  have HI : Hid (_ ∧ _ ∧ _ ∧ _) := Lib.hid ⟨hi, hz0, hz1, hz2⟩
  have HO : Hid (OwnN (w.alloc (.cells (ndC N a n c) 45)) w.heap.size N a n c) := Lib.hid (Rg.Own.new _ _ _)
  have HL := Lib.hid hl
  clear hi hz0 hz1 hz2 hl
  go_enter Tryd.func31, Tryd.ntmps31
  go_wp2_with (refine Rg.run rfl _ _ (op_load_ks HO.out HL.out ⟨_, rfl, rfl⟩) ?_)
  go_loopw [3, 8] (fun v i wr => ∃ j : Nat, j ≤ 16 ∧ i = .int .i64 j ∧ Hid (wr.ownsRow (w.heap.size + 1) 9 1 v (kidsL (N.ks.take j)).length ((kidsL (N.ks.take j)).map Value.string)) ∧ Below (w.heap.size + 1) (w.alloc (.cells (ndC N a n c) 45)) wr) (fun _ i _ => 16 - (intOf i).toNat)
  case atStart => exact ⟨0, Nat.zero_le _, rfl, Lib.hid (World.ownsRow_nil _ _ _ _), Below.refl _ _⟩
  case round =>
    obtain ⟨j, hj, rfl, HR, hB⟩ := hrel
    have hsz : w.heap.size + 1 ≤ wr.heap.size := by have := hB.size; simp at this; omega
    by_cases hlt : j < 16
    · have HS := Lib.hid (kidsL_snoc N.ks j (by rw [HL.out]; exact hlt))
      have hkl := kidsL_len N.ks j
      obtain ⟨L, hL⟩ : ∃ L, kidsL (N.ks.take j) = L := ⟨_, rfl⟩
      rw [hL] at HS hkl HR
      clear hL
      by_cases hk : (N.ks.getD j eB).size = 0
      · have HS' : Hid (kidsL (N.ks.take (j + 1)) = L) := Lib.hid (by rw [HS.out, if_neg (by simpa using hk), List.append_nil])
        have HE : Hid (N.ks.getD j eB = eB) := Lib.hid (size_zero hk)
        clear hk
        go_wp2_with (refine Rg.run rfl (.string (N.ks.getD j eB)) _ (op_index_ks HL.out hlt ⟨_, _, rfl, rfl, rfl⟩) ?_; rw [HE.out])
        go_roundw
        case rel => exact ⟨j + 1, by omega, by go_num, by rw [HS'.out]; exact HR, hB⟩
        case measure => simp [intOf]; omega
      · have HS' : Hid (kidsL (N.ks.take (j + 1)) = L ++ [N.ks.getD j eB]) := Lib.hid (by rw [HS.out, if_pos hk])
        have hne := Ni.not_empty (s := N.ks.getD j eB) (by omega)
        obtain ⟨K, hK⟩ : ∃ K, N.ks.getD j eB = K := ⟨_, rfl⟩
        have HK := Lib.hid hK
        rw [hK] at hne HS'
        clear hK hk HS
        go_wp2_with (first
          | (refine Rg.run rfl (.string (N.ks.getD j eB)) _ (op_index_ks HL.out hlt ⟨_, _, rfl, rfl, rfl⟩) ?_; rw [HK.out])
          | (at_builtin; refine wpList_append_own _ rfl _ _ 22 rfl (w.heap.size + 1) 9 i0 (.string ⟨#[]⟩) 1 16 Tryd.underlying22 HI.out.1 HI.out.2.1 HI.out.2.2.1 HI.out.2.2.2 rfl (by decide) _ _ _ rfl (HR.out.alloc _) ⟨wr.heap.size, 0, none⟩ 1 1 [.string K] rfl rfl ?d1 ?d2 ?d3 ?d4 ?d5 ?_))
        case d1 => exact Bu.cell_one_new' _ _ _ _
        case d2 => intro u hu; simp at hu; subst hu; rfl
        case d3 => unfold maxLen; omega
        case d4 => omega
        case d5 => simp; omega
        intro v' w2 hown2 hgrow _
        have hlt' := HR.out.lt
        go_wp2
        go_roundw
        case rel => exact ⟨j + 1, by omega, by go_num, Lib.hid (by rw [HS'.out, List.length_append, List.map_append]; exact hown2), (hB.alloc hsz _).grown hgrow (by simp; omega) (fun g hg => (hlt' g hg).1)⟩
        case measure => simp [intOf]; omega
    · obtain rfl : j = 16 := by omega
      have hO := HR.out
      rw [List.take_of_length_le (by rw [HL.out]; exact Nat.le_refl _)] at hO
      obtain ⟨a', cap', rfl, hb⟩ := IsSt.ofOwn hO
      have hlt2 := hO.lt
      have HF : Hid (∀ b off, a' = some ⟨b, off, none⟩ → w.heap.size ≤ b) := Lib.hid (fun b off e => by
        subst e
        have := (hlt2 b rfl).1
        omega)
      have HB := Lib.hid hb
      have HBe : Hid (Below w.heap.size w wr) := Lib.hid (of_al hB)
      clear hO hb hlt2
      go_wp2
      go_ret
      exact ⟨a', _, cap', rfl, HB.out, HF.out, HBe.out⟩

def AllC (s : ByteArray) : Prop := ∀ w : World, Calls Tryd.prog 16 #[.string s] w (GotAll w (allP s.data.toList))
/-- a node in a block of its own, and a row of one text behind it -/
theorem boxed_row (w w3 : World) (hb : Below w.heap.size w w3) (N : Nd) (a : Option Addr) (n c : Nat) (s : ByteArray) : ∃ w5, w5 = ((w3.alloc (.cells (ndC nd0 none 0 0) 45)).setRow w3.heap.size (ndC N a n c)).alloc (.cells #[.string s] 9) ∧
    OwnN (w3.alloc (.cells (ndC nd0 none 0 0) 45)) w3.heap.size nd0 none 0 0 ∧ OwnN w5 w3.heap.size N a n c ∧ w5.ownsRow w.heap.size 9 1 (.slice (some ⟨w3.heap.size + 1, 0, none⟩) 1 1) 1 [.string s] ∧ Below w.heap.size w w5 ∧ w3.heap.size + 1 < w5.heap.size := by
  have h1 : OwnN (w3.alloc (.cells (ndC nd0 none 0 0) 45)) w3.heap.size nd0 none 0 0 := Rg.Own.new _ _ _
  have h2 : Below w3.heap.size w3 ((w3.alloc (.cells (ndC nd0 none 0 0) 45)).setRow w3.heap.size (ndC N a n c)) := below_rowN (al1 _ _) (Nat.le_refl _) _
  have hs := hb.size
  have hz : ((w3.alloc (.cells (ndC nd0 none 0 0) 45)).setRow w3.heap.size (ndC N a n c)).heap.size = w3.heap.size + 1 := by simp
  refine ⟨_, rfl, h1, (own_rowN h1).below (al1 _ _), ?_, (below_step' hb h2).alloc (by rw [hz]; omega) _, by simp⟩
  have := World.ownsRow_lit (e := 9) (size := 1) (base := w.heap.size) ((w3.alloc (.cells (ndC nd0 none 0 0) 45)).setRow w3.heap.size (ndC N a n c)) #[.string s] 1 (by rw [hz]; omega) (by unfold maxLen; decide) rfl
  rw [hz] at this
  exact this
theorem row_keep {B n : Nat} {w w' : World} {e : TypeId} {v : Value} {xs : List Value} (h : w.ownsRow B e 1 v n xs) (hb : Below w.heap.size w w') : w'.ownsRow B e 1 v n xs := h.kept (Bu.grown_below hb) (by cases v.ownBlock <;> simp)
theorem row_next {B : Nat} {w : World} {v : Value} {s : ByteArray} {L : List ByteArray} {n : Nat} {xs : List ByteArray} (h : w.ownsRow B 9 1 v ((s :: L).length + n) ((s :: L).map Value.string ++ xs.map Value.string)) (hn : xs.length = n) : w.ownsRow B 9 1 v (s :: (L ++ xs)).length ((s :: (L ++ xs)).map Value.string) := by
  have e1 : (s :: (L ++ xs)).length = (s :: L).length + n := by simp [← hn]; omega
  have e2 : (s :: (L ++ xs)).map Value.string = (s :: L).map Value.string ++ xs.map Value.string := by simp
  rw [e1, e2]; exact h

set_option maxHeartbeats 8000000 in
theorem fall_step (s : ByteArray) (hs : s.size ≤ 1000000) (ih : ∀ k : ByteArray, k.size < s.size → AllC k) : AllC s := by
  intro w
  have HG := Lib.hid (nget_any s hs w)
  have HAl : Hid (∀ n, getP s.data.toList = some n → allP s.data.toList = s :: kidsAll (kidsL n.ks) ∧ (kidsAll (kidsL n.ks)).length + 1 ≤ 1000000 ∧ ∀ k ∈ kidsL n.ks, k.size ≤ 32 ∧ (kindP k = 2 → AllC k)) := Lib.hid (fun n hn => by
    have hl : s.data.toList.length ≤ 4294967296 := by rw [len_s]; omega
    have h1 := allP_some hl hn
    have h2 := allP_length s.data.toList hl
    have e : (⟨s.data.toList.toArray⟩ : ByteArray) = s := by apply ByteArray.ext; simp
    rw [e] at h1
    rw [kidsAll_kids]
    refine ⟨h1, ?_, fun k hk => ?_⟩
    · rw [h1, List.length_cons, len_s] at h2; omega
    · have hm := (List.mem_filter.1 hk).1
      rcases (got_kids hl hn).2.2 k hm with hp | ⟨h3, h4⟩
      · have hz := plain_size hp
        refine ⟨by omega, fun h => ?_⟩
        unfold kindP at h
        rcases hz with hz | hz
        · rw [if_pos hz] at h; cases h
        · rw [if_neg (by omega), if_pos hz] at h; cases h
      · rw [len_s] at h4
        exact ⟨by omega, fun _ => ih k h4⟩)
  have HNo : Hid (getP s.data.toList = none → allP s.data.toList = []) := Lib.hid allP_none
  obtain ⟨r, hr⟩ : ∃ r, getP s.data.toList = r := ⟨_, rfl⟩
  obtain ⟨R, hR⟩ : ∃ R, allP s.data.toList = R := ⟨_, rfl⟩
  rw [hr] at HG HAl HNo
  rw [hR] at HAl HNo ⊢
  clear hr hR ih hs
  obtain ⟨i0, hi, hz0, hz1, hz2⟩ := info_st_parts
  have HI : Hid (_ ∧ _ ∧ _ ∧ _) := Lib.hid ⟨hi, hz0, hz1, hz2⟩
  clear hi hz0 hz1 hz2
  go_enter Tryd.func16, Tryd.ntmps16
  go_wp2_with fail
  refine HG.out.mono ?_
  rintro e w3 ⟨N, a3, n3, c3, er, rfl, hr3, hx3, hl3, hb3⟩
  have HL := Lib.hid hl3
  clear hx3 HG
  rcases hr3 with ⟨rfl, rfl⟩ | ⟨he, rfl, rfl⟩
  · obtain ⟨w5, hw5, h34, h5, hR5, hb5, hlt5⟩ := boxed_row w w3 hb3 N a3 n3 c3 s
    have H34 := Lib.hid h34
    have H5 := Lib.hid h5
    have HR5 := Lib.hid hR5
    have HB5 := Lib.hid hb5
    have HK := Lib.hid (kids_new N a3 n3 c3 hl3 w5)
    rw [hw5] at H5
    obtain ⟨hAll, hLen, hKid⟩ := HAl.out N rfl
    obtain ⟨KL, hKL⟩ : ∃ KL, kidsL N.ks = KL := ⟨_, rfl⟩
    rw [hKL] at HK hAll hLen hKid
    have HKid := Lib.hid hKid
    have HLen := Lib.hid hLen
    have HAll := Lib.hid hAll
    clear HAl HNo hKL hl3 h34 h5 hR5 hb5 hb3 hKid hLen hAll
    go_wp2_with (first
      | (refine Rg.run rfl _ _ (run_alloc_nd _ _ _ w3.heap.size rfl rfl) ?_)
      | (refine wpl_store_nd H34.out rfl N a3 n3 c3 HL.out rfl _ _ rfl rfl rfl rfl ?_)
      | (refine Rg.runW (by rfl) _ _ (op_load_nd H5.out HL.out ?_) ?_; · exact ⟨_, rfl, rfl⟩))
    rw [← hw5]
    refine HK.out.mono ?_
    rintro e w6 ⟨ak, nk, ck, rfl, hk6, hkb, hb6⟩
    have HLK := Lib.hid hk6.len
    have HB6 := Lib.hid (below_step' HB5.out hb6)
    have HR6 := Lib.hid (HR5.out.kept (Bu.grown_below hb6) (.inr (by intro h; cases h)))
    obtain ⟨v6, hv6⟩ : ∃ v, Value.slice (some ⟨w3.heap.size + 1, 0, none⟩) 1 1 = v := ⟨_, rfl⟩
    have HK6 := Lib.hid hk6
    have HNb : Hid (∀ b off, ak = some ⟨b, off, none⟩ → v6.ownBlock ≠ some b) := Lib.hid (fun b off e h => by
      have h6 := hkb b off e
      rw [← hv6] at h
      have : w3.heap.size + 1 = b := Option.some.inj h
      omega)
    rw [hv6] at HR6
    rw [hv6]
    clear hkb hk6 hb6 hv6 hw5 hlt5 HK HR5 HB5 H5 H34
    have hnk := HK6.out.2.1
    have hnc := HK6.out.1
    unfold maxLen at hnk
    go_wp2_with fail
    go_loopw [5, 20] (fun v i wr => ∃ j : Nat, j ≤ nk ∧ i = .int .i64 j ∧ Hid (wr.ownsRow w.heap.size 9 1 v (s :: kidsAll (KL.take j)).length ((s :: kidsAll (KL.take j)).map Value.string)) ∧ Hid (∀ b off, ak = some ⟨b, off, none⟩ → v.ownBlock ≠ some b) ∧ Hid (IsSt wr ak nk ck KL) ∧ Hid (Below w.heap.size w wr)) (fun _ i _ => nk - (intOf i).toNat)
    case atStart => exact ⟨0, Nat.zero_le _, rfl, HR6, HNb, HK6, HB6⟩
    case round =>
      obtain ⟨j, hj, rfl, HR, HNe, HKr, HB⟩ := hrel
      have hsz : w.heap.size ≤ wr.heap.size := HB.out.size
      clear HR6 HNb HK6 HB6
      by_cases hlt : j < nk
      · obtain ⟨b, off, rfl, hblt, hc⟩ := HKr.out.at' j hlt
        have HM : Hid (j < KL.length) := Lib.hid (by rw [HLK.out]; exact hlt)
        have HSn := Lib.hid (kidsAll_snoc KL j HM.out)
        have htk := kidsAll_take KL (j + 1)
        have hle := HLen.out
        obtain ⟨hk32, hkAll⟩ := HKid.out _ (getD_mem HM.out)
        have HKi := Lib.hid (kind_any (KL.getD j eB) (by unfold maxLen; omega) wr)
        have HKA := Lib.hid (kid_kind (k := KL.getD j eB))
        have HAC := Lib.hid hkAll
        obtain ⟨K, hK⟩ : ∃ K, KL.getD j eB = K := ⟨_, rfl⟩
        rw [hK] at hc HSn HKi HKA HAC
        obtain ⟨L, hL⟩ : ∃ L, kidsAll (KL.take j) = L := ⟨_, rfl⟩
        rw [hL] at HR HSn
        rw [HSn.out, List.length_append, HKA.out] at htk
        clear hK hL hkAll hk32 HM HLK
        by_cases h2 : kindP K = 2
        · rw [h2] at HKi
          rw [if_pos h2] at HKA htk
          have HAK := Lib.hid (HAC.out h2)
          unfold AllC at HAK
          obtain ⟨P, hP⟩ : ∃ P, allP K.data.toList = P := ⟨_, rfl⟩
          rw [hP] at HAK HKA htk
          clear HAC hP h2
          go_wp2_with fail
          refine HKi.out.mono ?_
          rintro e w7 ⟨rfl, hb7⟩
          go_wp2_with fail
          refine (HAK.out w7).mono ?_
          rintro e w8 ⟨a8, n8, c8, rfl, hs8, hn8, hb8⟩
          have hb78 := below_step' hb7 hb8
          have HR8 := Lib.hid (row_keep HR.out hb78)
          have HK8 := Lib.hid (HKr.out.below hb78)
          have HB8 := Lib.hid (below_step' HB.out hb78)
          have hl8 := hs8.len
          have hsz8 : w.heap.size ≤ w8.heap.size := HB8.out.size
          have hb8lt : b < w8.heap.size := Nat.lt_of_lt_of_le hblt hb78.size
          clear hb7 hb8 hb78 HR HKr HB HKi HAK hc
          cases a8 with
          | none =>
            obtain ⟨rfl, rfl⟩ := hn8 rfl
            have HE : Hid (s :: kidsAll (KL.take (j + 1)) = s :: L) := Lib.hid (by rw [HSn.out, HKA.out, List.eq_nil_of_length_eq_zero hl8, List.append_nil])
            go_wp2_with (at_builtin; refine wpList_append_own_none rfl _ _ 22 rfl w.heap.size 9 i0 1 Tryd.underlying22 HI.out.1 _ _ _ rfl HR8.out rfl ?_)
            go_roundw
            case rel => exact ⟨j + 1, by omega, by go_num, by rw [HE.out]; exact HR8, HNe, HK8, HB8⟩
            case measure => simp [intOf]; omega
          | some ad =>
            have HC8 := Lib.hid (st_cells hs8)
            have HE : Hid (s :: kidsAll (KL.take (j + 1)) = s :: (L ++ P)) := Lib.hid (by rw [HSn.out, HKA.out])
            clear hn8 hs8
            go_wp2_with (at_builtin; refine wpList_append_own_at _ rfl _ _ 22 rfl w.heap.size 9 i0 (.string ⟨#[]⟩) 1 16 Tryd.underlying22 HI.out.1 HI.out.2.1 HI.out.2.2.1 HI.out.2.2.2 rfl (by decide) _ _ _ rfl HR8.out ad n8 c8 (P.map Value.string) rfl ?d0 ?d1 ?d2 ?d3 ?d4 ?d5 ?_)
            case d0 => rw [List.length_map, Nat.mul_one]; exact hl8
            case d1 => exact HC8.out
            case d2 => intro u hu; simp at hu; obtain ⟨_, _, rfl⟩ := hu; rfl
            case d3 => unfold maxLen; simp; omega
            case d4 => simp; omega
            case d5 => exact hsz8
            intro v' w9 hown9 hgrow _ hloc
            have hlt' := HR8.out.lt
            have HR9 : Hid (w9.ownsRow w.heap.size 9 1 v' (s :: kidsAll (KL.take (j + 1))).length ((s :: kidsAll (KL.take (j + 1))).map Value.string)) := Lib.hid (by rw [HE.out]; exact row_next hown9 hl8)
            have HN9 : Hid (∀ b' off', (some ⟨b, off, none⟩ : Option Addr) = some ⟨b', off', none⟩ → v'.ownBlock ≠ some b') := Lib.hid (fun b' off' e h => by
              have h1 : b = b' := by have := Option.some.inj e; simpa using congrArg Addr.block this
              subst h1
              rcases hloc with h2 | h2
              · exact HNe.out b off rfl (h2 ▸ h)
              · rw [h2] at h
                have := Option.some.inj h
                omega)
            have HK9 := Lib.hid (st_grown HK8.out hgrow (HNe.out))
            have HB9 := Lib.hid (HB8.out.grown hgrow hsz8 (fun g hg => (hlt' g hg).1))
            clear hown9 hgrow hloc hlt' HR8 HNe HK8 HB8
            go_wp2
            go_roundw
            case rel => exact ⟨j + 1, by omega, by go_num, HR9, HN9, HK9, HB9⟩
            case measure => simp [intOf]; omega
        · rw [if_neg h2] at HKA
          have hq : (((kindP K : Nat) : Int) == 2) = false := by simp; omega
          have HE : Hid (s :: kidsAll (KL.take (j + 1)) = s :: L) := Lib.hid (by rw [HSn.out, HKA.out, List.append_nil])
          clear HAC htk
          go_wp2_with fail
          refine HKi.out.mono ?_
          rintro e w7 ⟨rfl, hb7⟩
          have HR7 := Lib.hid (row_keep HR.out hb7)
          have HK7 := Lib.hid (HKr.out.below hb7)
          have HB7 := Lib.hid (below_step' HB.out hb7)
          clear hb7 HR HKr HB HKi hc
          go_wp2
          go_roundw
          case rel => exact ⟨j + 1, by omega, by go_num, by rw [HE.out]; exact HR7, HNe, HK7, HB7⟩
          case measure => simp [intOf]; omega
      · obtain rfl : j = nk := by omega
        have hO := HR.out
        rw [List.take_of_length_le (by rw [HLK.out]; exact Nat.le_refl _), ← HAll.out] at hO
        obtain ⟨a', cap', rfl, hb⟩ := IsSt.ofOwn hO
        have HF := Lib.hid hb
        have hne : a' ≠ none := by
          rintro rfl
          rcases hO.2 with ⟨_, hz⟩ | ⟨g, cap, cur, h, _⟩
          · rw [HAll.out] at hz; cases hz
          · cases h
        clear hO hb
        go_wp2
        go_ret
        exact ⟨a', _, cap', rfl, HF.out, fun h => absurd h hne, HB.out⟩
  · have hd : (er != 0) = true := by simp; exact he
    have HE := Lib.hid (HNo.out rfl)
    have HO : Hid (OwnN (w3.alloc (.cells (ndC nd0 none 0 0) 45)) w3.heap.size nd0 none 0 0) := Lib.hid (Rg.Own.new _ _ _)
    have HB := Lib.hid (below_step' hb3 (al1 w3 (.cells (ndC nd0 none 0 0) 45)))
    have hge := hb3.size
    clear hb3 hl3 HAl HNo
    go_wp2_with (first
      | (refine Rg.run rfl _ _ (run_alloc_nd _ _ _ w3.heap.size rfl rfl) ?_)
      | (refine wpl_store_nd HO.out rfl nd0 a3 n3 c3 HL.out rfl _ _ rfl rfl rfl rfl ?_))
    go_ret
    refine ⟨none, 0, 0, rfl, ?_, fun _ => ⟨rfl, rfl⟩, below_rowN HB.out hge _⟩
    rw [HE.out]
    exact ⟨Nat.le_refl _, Nat.zero_le _, rfl, fun j hj => absurd hj (Nat.not_lt_zero _)⟩
/-- All of any bytes that are not far too many -/
theorem fall_any (s : ByteArray) (hs : s.size ≤ 1000000) : AllC s := by
  obtain ⟨N, hN⟩ : ∃ N, s.size = N := ⟨_, rfl⟩
  induction N using Nat.strongRecOn generalizing s with
  | ind N ih => exact fall_step s hs (fun k hk => ih k.size (by omega) k (by omega) rfl)
end Rf
end Go.Proofs.YtoeblhdddehemaaDoor

/-
  What must come at any rate in layer 7, in parts: two closed nodes' bytes, their references, what is found among them.
-/
namespace Go.Proofs.YtoeblhdddehemaaDoor
set_option maxRecDepth 100000
open Go.RowKit

namespace Rf
open Rl Ni No Sh Sm
def vL : ByteArray := ⟨#[97, 32, 118, 97, 108, 117, 101, 32, 116, 104, 97, 116, 32, 105, 115, 32, 114, 97, 116, 104, 101, 114, 32, 97, 32, 108, 111, 110, 103, 32, 111, 110, 101]⟩
def sL : ByteArray := ⟨#[227, 49, 161, 97, 32, 118, 97, 108, 117, 101, 32, 116, 104, 97, 116, 32, 105, 115, 32, 114, 97, 116, 104, 101, 114, 32, 97, 32, 108, 111, 110, 103, 32, 111, 110, 101]⟩
def nL : Nd := ⟨1, [1], vL, zks⟩
theorem l_may : mayW refP nL = true := rfl
theorem l_put : putP nL = [227, 49, 161, 97, 32, 118, 97, 108, 117, 101, 32, 116, 104, 97, 116, 32, 105, 115, 32, 114, 97, 116, 104, 101, 114, 32, 97, 32, 108, 111, 110, 103, 32, 111, 110, 101] := by
  have h1 : (pathI nL).bytes = [49] := by
    rw [It.bytes_eq]
    decide +kernel
  have h2 : (It.mk false nL.v []).bytes = [161, 97, 32, 118, 97, 108, 117, 101, 32, 116, 104, 97, 116, 32, 105, 115, 32, 114, 97, 116, 104, 101, 114, 32, 97, 32, 108, 111, 110, 103, 32, 111, 110, 101] := by
    rw [It.bytes_eq]
    decide +kernel
  have hi : (itemP nL).inner = [49, 161, 97, 32, 118, 97, 108, 117, 101, 32, 116, 104, 97, 116, 32, 105, 115, 32, 114, 97, 116, 104, 101, 114, 32, 97, 32, 108, 111, 110, 103, 32, 111, 110, 101] := by
    show ([] : List UInt8) ++ ([pathI nL, .mk false nL.v []].map It.bytes).flatten = _
    rw [List.map_cons, List.map_cons, List.map_nil, h1, h2]
    rfl
  unfold putP
  rw [It.bytes_eq, hi]
  decide +kernel
theorem l_putV : putV nL = .tuple #[.string sL, .int .i64 0] := by unfold putV; rw [l_may, l_put]; rfl
theorem a_putV' : putV nA = .tuple #[.string sA, .int .i64 0] := a_putV
theorem sums_two : sumB sA ≠ sumB sL := by decide +kernel
theorem of_a : ofP sA = sA := rfl
theorem of_l : ofP sL = ⟨(sumB sL).toArray⟩ := rfl
theorem of_l_size : (ofP sL).size = 32 := by
  rw [of_l]
  have h1 : (⟨(sumB sL).toArray⟩ : ByteArray).size = (sumB sL).length := by show (sumB sL).toArray.size = _; simp
  rw [h1, sumB_length]
theorem kind_a : kindP sA = 2 := by
  unfold kindP
  rw [if_neg (by decide), if_neg (by decide), if_pos a_ref]
theorem kind_l : kindP (ofP sL) = 1 := by
  unfold kindP
  rw [of_l_size, if_neg (by decide), if_pos rfl]
theorem kind_e : kindP eB = 0 := rfl
theorem kind_x : kindP ⟨#[120]⟩ = 3 := by
  unfold kindP
  rw [if_neg (by decide), if_neg (by decide), if_neg (by rw [x_ref]; decide)]
theorem all_a : (allP sA.data.toList).length = 1 := by
  rw [allP_some (by decide) a_get]
  rfl
theorem match_a : matchB (ofP sL) sA = false := by
  unfold matchB
  rw [of_a, decide_eq_false (p := sA = ofP sL) (fun e => by
    have := congrArg ByteArray.size e
    rw [of_l_size] at this
    exact absurd this (by decide))]
  rfl
theorem match_l : matchB (ofP sL) sL = true := by
  unfold matchB
  rw [decide_eq_true (p := ofP sL = ofP sL) rfl]
  rfl
theorem find_two {i : Int} (h : AtOk (ofP sL) [sA, sL] i) : findV [sA, sL] i = .tuple #[.string sL, .bool true] := by
  have h1 : AtOk (ofP sL) [sA, sL] 1 := .inr ⟨1, rfl, by decide, match_l, fun j hj => by
    obtain rfl : j = 0 := by omega
    exact match_a⟩
  rw [h.one h1]
  rfl
theorem clash_three {i k : Nat} {c : Bool} (h : ClashOk [sA, sL, sA] i k c) : c = false := by
  cases c with
  | false => rfl
  | true =>
    obtain ⟨h1, h2, h3, h4⟩ : i < k ∧ k < 3 ∧ sumB ([sA, sL, sA].getD i eB) = sumB ([sA, sL, sA].getD k eB) ∧ [sA, sL, sA].getD i eB ≠ [sA, sL, sA].getD k eB := h
    have hi : i = 0 ∧ k = 1 ∨ i = 0 ∧ k = 2 ∨ i = 1 ∧ k = 2 := by omega
    rcases hi with ⟨rfl, rfl⟩ | ⟨rfl, rfl⟩ | ⟨rfl, rfl⟩
    · exact absurd h3 sums_two
    · exact absurd rfl h4
    · exact absurd h3.symm sums_two
theorem IsSt.new (w : World) (xs : List ByteArray) (n : Nat) (hn : xs.length = n) (hm : n ≤ maxLen) (cs : Array Value) (hc : cs = (xs.map Value.string).toArray) : IsSt (w.alloc (.cells cs 9)) (some ⟨w.heap.size, 0, none⟩) n n xs := by
  refine ⟨Nat.le_refl _, hm, hn, fun j hj => ⟨w.heap.size, 0, rfl, by simp, ?_⟩⟩
  have hj' : j < xs.length := by omega
  subst hc
  rw [cell_of_row _ _ _ _ _ _ (heap_alloc_new _ _)]
  simp [List.getD, hj']
theorem aw_leafL (w : World) (b : Nat) (h : IsBs w (some ⟨b, 0, none⟩) 1 1 [1]) : Calls Tryd.prog 22 #[.slice (some ⟨b, 0, none⟩) 1 1, .string ⟨#[97, 32, 118, 97, 108, 117, 101, 32, 116, 104, 97, 116, 32, 105, 115, 32, 114, 97, 116, 104, 101, 114, 32, 97, 32, 108, 111, 110, 103, 32, 111, 110, 101]⟩] w fun e w' => ∃ a n c, e = .returned (.agg (ndC nL a n c)) ∧ IsBs w' a n c nL.p ∧ Below w.heap.size w w' := by
  refine (leaf_any _ 1 1 [1] (by decide) vL _ h).mono ?_
  rintro e w' ⟨a, n, c, rfl, hx, _, hb⟩
  exact ⟨a, n, c, rfl, hx.1, hb⟩
theorem aw_putL (w : World) (a : Option Addr) (n c : Nat) (h : IsBs w a n c nL.p) : Calls Tryd.prog 21 #[.agg (ndC nL a n c)] w fun e w' => e = .returned (.tuple #[.string sL, .int .i64 0]) ∧ Below w.heap.size w w' := by
  have := nput_any nL a n c rfl w h (by unfold maxLen; decide) (fun k hk => by
    rw [List.eq_of_mem_replicate (show k ∈ List.replicate 16 eB from hk)]
    decide)
  rw [l_putV] at this
  exact this
theorem aw_find (w : World) (hT : Tab w) (b : Nat) (h : IsSt w (some ⟨b, 0, none⟩) 2 2 [sA, sL]) : Calls Tryd.prog 8 #[.string (ofP sL), .slice (some ⟨b, 0, none⟩) 2 2] w fun e w' => e = .returned (.tuple #[.string sL, .bool true]) ∧ Below w.heap.size w w' := by
  refine (find_any (ofP sL) [sA, sL] (by decide) _ 2 2 w h hT).mono ?_
  rintro e w' ⟨i, rfl, hi, hb⟩
  exact ⟨by rw [find_two hi], hb⟩
theorem aw_clash (w : World) (hT : Tab w) (b : Nat) (h : IsSt w (some ⟨b, 0, none⟩) 3 3 [sA, sL, sA]) : Calls Tryd.prog 18 #[.slice (some ⟨b, 0, none⟩) 3 3] w fun e w' => (∃ i k : Nat, e = .returned (.tuple #[.int .i64 i, .int .i64 k, .bool false])) ∧ Below w.heap.size w w' := by
  refine (fclash_any [sA, sL, sA] (by decide) _ 3 3 w h (by unfold maxLen; decide) hT).mono ?_
  rintro e w' ⟨i, k, c, rfl, hok, hb⟩
  exact ⟨⟨i, k, by rw [clash_three hok]⟩, hb⟩
theorem aw_all (w : World) : Calls Tryd.prog 16 #[.string sA] w fun e w' => (∃ a c, e = .returned (.slice a 1 c)) ∧ Below w.heap.size w w' := by
  refine (fall_any sA (by decide) w).mono ?_
  rintro e w' ⟨a, n, c, rfl, hs, _, hb⟩
  have : n = 1 := hs.len.symm.trans all_a
  subst this
  exact ⟨⟨a, c, rfl⟩, hb⟩
end Rf
end Go.Proofs.YtoeblhdddehemaaDoor

/-
  What must come at any rate in layer 7: awake.
-/
namespace Go.Proofs.YtoeblhdddehemaaDoor
set_option maxRecDepth 100000
open Go.RowKit

namespace Rf
open Rl Ni No Sh Sm
set_option maxHeartbeats 16000000 in
theorem rawake_any (w : World) (hT : Tab w) : Calls Tryd.prog 6 #[] w fun e w' => e = .returned (.bool true) ∧ Below w.heap.size w w' := by
  have h0 := hT.pos
  have HT := Lib.hid hT
  have HLf := Lib.hid aw_leaf
  have HPa := Lib.hid aw_puta
  have HLL := Lib.hid aw_leafL
  have HPL := Lib.hid aw_putL
  have HFi := Lib.hid aw_find
  have HCl := Lib.hid aw_clash
  have HAl := Lib.hid aw_all
  have HOa := Lib.hid (fun W (h : Tab W) => fof_any sA (by decide) W h)
  have HOl := Lib.hid (fun W (h : Tab W) => fof_any sL (by decide) W h)
  have HKa := Lib.hid (fun W => kind_any sA (by unfold maxLen; decide) W)
  have HKl := Lib.hid (fun W => kind_any (ofP sL) (by rw [of_l_size]; unfold maxLen; decide) W)
  have HKe := Lib.hid (fun W => kind_any eB (by unfold maxLen; decide) W)
  have HKx := Lib.hid (fun W => kind_any ⟨#[120]⟩ (by unfold maxLen; decide) W)
  rw [kind_a] at HKa
  rw [kind_l] at HKl
  rw [kind_e] at HKe
  rw [kind_x] at HKx
  rw [of_a] at HOa
  have hsz := of_l_size
  have hA0 : (⟨#[194, 49, 97]⟩ : ByteArray) = sA := rfl
  rw [hA0] at HPa
  obtain ⟨R, hR⟩ : ∃ R, ofP sL = R := ⟨_, rfl⟩
  obtain ⟨L, hL⟩ : ∃ L, sL = L := ⟨_, rfl⟩
  obtain ⟨A, hA⟩ : ∃ A, sA = A := ⟨_, rfl⟩
  rw [hR] at HFi HOl HKl hsz
  rw [hL] at HPL HFi HCl HOl
  rw [hA] at HPa HFi HCl HAl HOa HKa
  obtain ⟨NA, hNA⟩ : ∃ N, nA = N := ⟨_, rfl⟩
  obtain ⟨NL, hNL⟩ : ∃ N, nL = N := ⟨_, rfl⟩
  rw [hNA] at HLf HPa
  rw [hNL] at HLL HPL
  have hq : ((R.size : Int) == 32) = true := by rw [hsz]; rfl
  clear hR hL hA hA0 hNA hNL hsz hT
  go_enter Tryd.func6, Tryd.ntmps6
  go_wp2_with fail
  refine (HLf.out _).mono ?_
  rintro e w1 ⟨a1, n1, c1, rfl, h1, hb1⟩
  have H1 := Lib.hid (HPa.out w1 a1 n1 c1 h1)
  have HB1 := Lib.hid hb1
  clear h1 hb1
  go_wp2_with fail
  refine H1.out.mono ?_
  rintro e w2 ⟨rfl, hb2⟩
  have HB2 := Lib.hid (below_step' HB1.out hb2)
  have hx2 : IsBs (w2.alloc (.cells #[.int .u8 1] 5)) (some ⟨w2.heap.size, 0, none⟩) 1 1 [1] := IsBs.new w2 [1] (by unfold maxLen; decide) _ _ rfl
  have H2 := Lib.hid (HLL.out _ _ hx2)
  clear hb2 H1 HB1 hx2
  go_wp2_with fail
  refine H2.out.mono ?_
  rintro e w3 ⟨a3, n3, c3, rfl, h3, hb3⟩
  have H3 := Lib.hid (HPL.out w3 a3 n3 c3 h3)
  have HB3 := Lib.hid (below_step' HB2.out (below_step' (al1 _ _) hb3))
  clear h3 hb3 H2 HB2
  go_wp2_with fail
  refine H3.out.mono ?_
  rintro e w4 ⟨rfl, hb4⟩
  have HB4 := Lib.hid (below_step' HB3.out hb4)
  clear hb4 H3 HB3
  go_wp2_with fail
  refine (HOl.out _ (HT.out.below HB4.out h0)).mono ?_
  rintro e w5 ⟨rfl, hb5⟩
  have HB5 := Lib.hid (below_step' HB4.out hb5)
  have HT5 := Lib.hid (HT.out.below ((HB5.out).alloc HB5.out.size (.cells #[.string A, .string L] 9)) h0)
  have hx5 : IsSt (w5.alloc (.cells #[.string A, .string L] 9)) (some ⟨w5.heap.size, 0, none⟩) 2 2 [A, L] := IsSt.new w5 [A, L] 2 rfl (by unfold maxLen; decide) _ rfl
  have H5 := Lib.hid (HFi.out _ HT5.out _ hx5)
  clear hb5 HB4 hx5 HT5
  go_wp2_with fail
  refine H5.out.mono ?_
  rintro e w6 ⟨rfl, hb6⟩
  have HB6 := Lib.hid (below_step' HB5.out (below_step' (al1 _ _) hb6))
  have HT6 := Lib.hid (HT.out.below ((HB6.out).alloc HB6.out.size (.cells #[.string A, .string L, .string A] 9)) h0)
  have hx6 : IsSt (w6.alloc (.cells #[.string A, .string L, .string A] 9)) (some ⟨w6.heap.size, 0, none⟩) 3 3 [A, L, A] := IsSt.new w6 [A, L, A] 3 rfl (by unfold maxLen; decide) _ rfl
  have H6 := Lib.hid (HCl.out _ HT6.out _ hx6)
  clear hb6 HB5 hx6 HT6 H5
  go_wp2_with fail
  refine H6.out.mono ?_
  rintro e w7 ⟨⟨i, k, rfl⟩, hb7⟩
  have HB7 := Lib.hid (below_step' HB6.out (below_step' (al1 _ _) hb7))
  clear hb7 HB6 H6
  go_wp2_with fail
  refine (HOa.out _ (HT.out.below HB7.out h0)).mono ?_
  rintro e w8 ⟨rfl, hb8⟩
  have HB8 := Lib.hid (below_step' HB7.out hb8)
  clear hb8 HB7
  go_wp2_with fail
  refine (HOl.out _ (HT.out.below HB8.out h0)).mono ?_
  rintro e w9 ⟨rfl, hb9⟩
  have HB9 := Lib.hid (below_step' HB8.out hb9)
  clear hb9 HB8
  go_wp2_with fail
  refine (HKa.out _).mono ?_
  rintro e w10 ⟨rfl, hb10⟩
  have HB10 := Lib.hid (below_step' HB9.out hb10)
  clear hb10 HB9
  go_wp2_with fail
  refine (HOl.out _ (HT.out.below HB10.out h0)).mono ?_
  rintro e w11 ⟨rfl, hb11⟩
  have HB11 := Lib.hid (below_step' HB10.out hb11)
  clear hb11 HB10
  go_wp2_with fail
  refine (HKl.out _).mono ?_
  rintro e w12 ⟨rfl, hb12⟩
  have HB12 := Lib.hid (below_step' HB11.out hb12)
  clear hb12 HB11
  go_wp2_with fail
  refine (HKe.out _).mono ?_
  rintro e w13 ⟨rfl, hb13⟩
  have HB13 := Lib.hid (below_step' HB12.out hb13)
  clear hb13 HB12
  go_wp2_with fail
  refine (HKx.out _).mono ?_
  rintro e w14 ⟨rfl, hb14⟩
  have HB14 := Lib.hid (below_step' HB13.out hb14)
  clear hb14 HB13
  go_wp2_with fail
  refine (HAl.out _).mono ?_
  rintro e w15 ⟨⟨a15, c15, rfl⟩, hb15⟩
  have HB15 := Lib.hid (below_step' HB14.out hb15)
  clear hb15 HB14
  go_wp2
  go_ret
  exact ⟨rfl, HB15.out⟩
end Rf
end Go.Proofs.YtoeblhdddehemaaDoor

/-
  Contracts of the plain answers' Of and Root of layer 7, of layer 3's Clash where there is none.
-/
namespace Go.Proofs.YtoeblhdddehemaaDoor
set_option maxRecDepth 20000
open Go.RowKit

namespace Rf
open Rl Ni No Sh Sm
/-- the sum's bytes, as a text -/
def sumS (s : ByteArray) : ByteArray := ⟨(sumB s).toArray⟩
theorem sumS_inj {s t : ByteArray} (h : sumS s = sumS t) : sumB s = sumB t := by
  have h1 := congrArg (fun x => ByteArray.data x) h
  exact congrArg Array.toList h1
theorem rsum_of (s : ByteArray) (hs : s.size ≤ 900000) (w : World) :
    Calls Tryd.prog 20 #[.string s] w fun e w' => e = .returned (.string (sumS s)) ∧ Below w.heap.size w w' := by
  have h := rof_any s.data.toList (by simpa using hs) w
  have e : (⟨s.data.toList.toArray⟩ : ByteArray) = s := by apply ByteArray.ext; simp
  rw [e] at h
  exact h
theorem rsum_sum (s : ByteArray) (hs : s.size ≤ 900000) (w : World) :
    Calls Tryd.prog 27 #[.string s] w fun e w' => e = .returned (.agg (kc (sumB s))) ∧ Below w.heap.size w w' := by
  have h := rsum_any s.data.toList (by simpa using hs) w
  have e : (⟨s.data.toList.toArray⟩ : ByteArray) = s := by apply ByteArray.ext; simp
  rw [e] at h
  exact h
theorem r7of_any (s : ByteArray) (hs : s.size ≤ 900000) (w : World) :
    Calls Tryd.prog 7 #[.string s] w fun e w' => e = .returned (.string (ofP s)) ∧ Below w.heap.size w w' := by
  by_cases h : s.size < 32
  · have HF : Hid (ofP s = s) := Lib.hid (by unfold ofP; rw [if_pos h])
    have hd : decide ((32 : Int) ≤ (s.size : Int)) = false := by simp; omega
    rw [HF.out]
    clear HF
    go_enter Tryd.func7, Tryd.ntmps7
    go_wp2
    go_ret
    exact ⟨rfl, Below.refl _ _⟩
  · have HF : Hid (ofP s = sumS s) := Lib.hid (by unfold ofP; rw [if_neg h]; rfl)
    have hd : decide ((32 : Int) ≤ (s.size : Int)) = true := by simp; omega
    have HOf := Lib.hid (rsum_of s hs w)
    rw [HF.out]
    obtain ⟨K, hK⟩ : ∃ K, sumS s = K := ⟨_, rfl⟩
    rw [hK] at HOf
    rw [hK]
    clear HF hK
    go_enter Tryd.func7, Tryd.ntmps7
    go_wp2_with fail
    refine HOf.out.mono ?_
    rintro e w1 ⟨rfl, hb1⟩
    go_wp2
    go_ret
    exact ⟨rfl, hb1⟩
set_option maxHeartbeats 2000000 in
theorem r7root_any (s : ByteArray) (hs : s.size ≤ 900000) (w : World) :
    Calls Tryd.prog 11 #[.string s] w fun e w' => e = .returned (.agg (kc (rootP s))) ∧ Below w.heap.size w w' := by
  have HKl := Lib.hid (rootP_length s)
  by_cases h : s.size = 0
  · obtain rfl := size_zero h
    have HOf := Lib.hid (fun W => rsum_sum ⟨#[128]⟩ (by decide) W)
    have hR : rootP eB = sumB ⟨#[128]⟩ := rfl
    rw [← hR] at HOf
    obtain ⟨K, hK⟩ : ∃ K, rootP eB = K := ⟨_, rfl⟩
    rw [hK] at HOf HKl
    rw [hK]
    clear hK hR h
    go_enter Tryd.func11, Tryd.ntmps11
    go_wp2_with (refine wpList_run rfl _ _ (run_alloc_sum _ _ rfl _ _ rfl) ?_)
    refine (HOf.out _).mono ?_
    rintro e w1 ⟨rfl, hb1⟩
    have HO2 := Lib.hid ((Rg.Own.new w (kc zk) 28).below hb1)
    have HB2 : Hid (Below w.heap.size w w1) := Lib.hid (below_step' (al1 _ _) hb1)
    clear hb1
    go_wp2_with (refine wpList_store_rowTo rfl 28 _ _ rfl rfl _ (kc K) rfl rfl 28 (kc zk) HO2.out.2 (info_kc K HKl.out) (by rw [kc_size, kc_size, HKl.out]; rfl) (kc_one _) ?_)
    exact bodyPost_ret (results_cell_row rfl _ _ w.heap.size 28 (kc K) (0, 0) _ rfl (setRow_heap _ _ _ _ _ _ HO2.out.2) Tryd.underlying28 rfl (info_kc K HKl.out)) rfl ⟨rfl, Sm.below_row HB2.out (Nat.le_refl _) _⟩
  · have hne := Ni.not_empty (s := s) (by omega)
    have HOf := Lib.hid (fun W => rsum_sum s hs W)
    have hR : rootP s = sumB s := by unfold rootP; rw [if_neg h]
    rw [← hR] at HOf
    obtain ⟨K, hK⟩ : ∃ K, rootP s = K := ⟨_, rfl⟩
    rw [hK] at HOf HKl
    rw [hK]
    clear hK hR h
    go_enter Tryd.func11, Tryd.ntmps11
    go_wp2_with (refine wpList_run rfl _ _ (run_alloc_sum _ _ rfl _ _ rfl) ?_)
    refine (HOf.out _).mono ?_
    rintro e w1 ⟨rfl, hb1⟩
    have HO2 := Lib.hid ((Rg.Own.new w (kc zk) 28).below hb1)
    have HB2 : Hid (Below w.heap.size w w1) := Lib.hid (below_step' (al1 _ _) hb1)
    clear hb1
    go_wp2_with (refine wpList_store_rowTo rfl 28 _ _ rfl rfl _ (kc K) rfl rfl 28 (kc zk) HO2.out.2 (info_kc K HKl.out) (by rw [kc_size, kc_size, HKl.out]; rfl) (kc_one _) ?_)
    exact bodyPost_ret (results_cell_row rfl _ _ w.heap.size 28 (kc K) (0, 0) _ rfl (setRow_heap _ _ _ _ _ _ HO2.out.2) Tryd.underlying28 rfl (info_kc K HKl.out)) rfl ⟨rfl, Sm.below_row HB2.out (Nat.le_refl _) _⟩

theorem sums_snoc (xs : List ByteArray) (q : Nat) (h : q < xs.length) : (xs.take (q + 1)).map sumS = (xs.take q).map sumS ++ [sumS (xs.getD q eB)] := by
  have e : xs.getD q eB = xs[q] := by simp [List.getD, h]
  rw [List.take_succ_eq_append_getElem h, e, List.map_append]
  rfl
theorem sums_at (xs : List ByteArray) (q k : Nat) (h : q ≤ xs.length) (hk : k < q) : ((xs.take q).map sumS).getD k eB = sumS (xs.getD k eB) := by
  have h1 : k < xs.length := by omega
  simp [List.getD, List.getElem?_take_of_lt hk, h1]
theorem st_getD {xs : List ByteArray} {j : Nat} (hj : j < xs.length) : xs.getD j eB ∈ xs := by
  have e : xs.getD j eB = xs[j] := by simp [List.getD, hj]
  rw [e]; exact List.getElem_mem hj
theorem keep_row {B n : Nat} {w w' : World} {e : TypeId} {v : Value} {xs : List Value} (h : w.ownsRow B e 1 v n xs) (hb : Below w.heap.size w w') : w'.ownsRow B e 1 v n xs := h.kept (Bu.grown_below hb) (by cases v.ownBlock <;> simp)
set_option maxHeartbeats 8000000 in
theorem rclash_any (xs : List ByteArray) (hx : ∀ k ∈ xs, k.size ≤ 900000) (hno : ∀ j k, j < xs.length → k < xs.length → sumB (xs.getD j eB) = sumB (xs.getD k eB) → xs.getD j eB = xs.getD k eB) (a : Option Addr) (n cap : Nat) (w : World) (h : IsSt w a n cap xs) (hn : n ≤ 1000000) :
    Calls Tryd.prog 19 #[.slice a n cap] w fun e w' => e = .returned (.bool false) ∧ Below w.heap.size w w' := by
  have hm := h.2.1
  have hnc := h.1
  have hl := h.len
  unfold maxLen at hm
  have H := Lib.hid h
  have HL := Lib.hid hl
  have HX := Lib.hid hx
  have HN := Lib.hid hno
  clear h hl hx hno
  obtain ⟨i0, hi, hz0, hz1, hz2⟩ := info_st_parts
  have HI : Hid (_ ∧ _ ∧ _ ∧ _) := Lib.hid ⟨hi, hz0, hz1, hz2⟩
  clear hi hz0 hz1 hz2
  go_enter Tryd.func19, Tryd.ntmps19
  go_wp2
  go_loopw [3, 4] (fun v i wr => ∃ j : Nat, j ≤ n ∧ i = .int .i64 j ∧ Hid (wr.ownsRow w.heap.size 9 1 v j (((xs.take j).map sumS).map Value.string)) ∧ Hid (Below w.heap.size w wr)) (fun _ i _ => n - (intOf i).toNat)
  case atStart => exact ⟨0, Nat.zero_le _, rfl, Lib.hid (World.ownsRow_nil _ _ _ _), Lib.hid (Below.refl _ _)⟩
  case round =>
    obtain ⟨j, hj, rfl, HR, HB⟩ := hrel
    have hsz : w.heap.size ≤ wr.heap.size := HB.out.size
    by_cases hlt : j < n
    · obtain ⟨b, off, rfl, hblt, hcj⟩ := H.out.at' j hlt
      have hc' := (Below.cell (p := ⟨b, off + j, none⟩) HB.out hblt).trans hcj
      have HM : Hid (j < xs.length) := Lib.hid (by rw [HL.out]; exact hlt)
      have HOf := Lib.hid (rsum_of (xs.getD j eB) (HX.out _ (st_getD HM.out)) wr)
      have HSn := Lib.hid (sums_snoc xs j HM.out)
      obtain ⟨X, hX⟩ : ∃ X, xs.getD j eB = X := ⟨_, rfl⟩
      rw [hX] at HOf hc' HSn
      have HXj := Lib.hid hX
      rw [hX] at hcj
      have HcX0 := Lib.hid hcj
      obtain ⟨S, hS⟩ : ∃ S, sumS X = S := ⟨_, rfl⟩
      rw [hS] at HOf HSn
      have HS := Lib.hid hS
      obtain ⟨L, hL⟩ : ∃ L, (xs.take j).map sumS = L := ⟨_, rfl⟩
      rw [hL] at HR HSn
      clear hX hS hcj hL
      go_wp2_with fail
      refine HOf.out.mono ?_
      rintro e w1 ⟨rfl, hb1⟩
      have HR1 := Lib.hid (keep_row HR.out hb1)
      have HB1 := Lib.hid (below_step' HB.out hb1)
      have hsz1 : w.heap.size ≤ w1.heap.size := HB1.out.size
      clear hb1 HR HB HOf hc'
      go_wp2_with (at_builtin; refine wpList_append_own _ rfl _ _ 22 rfl w.heap.size 9 i0 (.string ⟨#[]⟩) 1 16 Tryd.underlying22 HI.out.1 HI.out.2.1 HI.out.2.2.1 HI.out.2.2.2 rfl (by decide) _ _ _ rfl (HR1.out.alloc _) ⟨w1.heap.size, 0, none⟩ 1 1 [.string S] rfl rfl ?d1 ?d2 ?d3 ?d4 ?d5 ?_)
      case d1 => exact Bu.cell_one_new' _ _ _ _
      case d2 => intro u hu; simp at hu; subst hu; rfl
      case d3 => unfold maxLen; omega
      case d4 => omega
      case d5 => simp; omega
      intro v' w2 hown2 hgrow _
      have hlt' := HR1.out.lt
      have HB2 := Lib.hid ((HB1.out.alloc hsz1 _).grown hgrow (by simp; omega) (fun g hg => (hlt' g hg).1))
      have hown3 : w2.ownsRow w.heap.size 9 1 v' (j + 1) (((xs.take (j + 1)).map sumS).map Value.string) := by rw [HSn.out, List.map_append]; exact hown2
      obtain ⟨a2, c2, rfl, hs2⟩ := IsSt.ofOwn hown3
      have HR2 := Lib.hid hown3
      have HS2 := Lib.hid hs2
      have hsc := hs2.1
      have hsm := hs2.2.1
      unfold maxLen at hsm
      clear hown2 hown3 hgrow hlt' hs2 HR1 HB1 HSn
      have hB2 := HB2.out
      obtain ⟨b2, off2, rfl, hb2lt, hcS⟩ := HS2.out.at' j (by omega)
      rw [sums_at xs (j + 1) j HM.out (by omega), HXj.out, HS.out] at hcS
      have HcS := Lib.hid hcS
      have HcX : Hid (w2.cell? ⟨b, off + j, none⟩ = some (.string X)) := Lib.hid ((Below.cell (p := ⟨b, off + j, none⟩) hB2 hblt).trans HcX0.out)
      clear hcS hB2
      go_wp2_with fail
      go_loopw [5] (fun i wq => ∃ k : Nat, k ≤ j ∧ i = .int .i64 k ∧ Hid (Below w2.heap.size w2 wq)) (fun i _ => j - (intOf i).toNat)
      case atStart => exact ⟨0, Nat.zero_le _, rfl, Lib.hid (Below.refl _ _)⟩
      case round =>
        obtain ⟨k, hk, rfl, HBq⟩ := hrel
        by_cases hkj : k < j
        · obtain ⟨b', off', hbo, _, hck⟩ := H.out.at' k (by omega)
          obtain ⟨rfl, rfl⟩ : b = b' ∧ off = off' := by simpa using hbo
          obtain ⟨b', off', hbo', _, hcs⟩ := HS2.out.at' k (by omega)
          obtain ⟨rfl, rfl⟩ : b2 = b' ∧ off2 = off' := by simpa using hbo'
          rw [sums_at xs (j + 1) k HM.out (by omega)] at hcs
          have hEq : sumS (xs.getD k eB) = S → xs.getD k eB = X := fun e => by
            rw [← HXj.out]
            exact HN.out k j (by have := HM.out; omega) HM.out (sumS_inj (by rw [e, HXj.out, HS.out]))
          have f1 := (Below.cell (p := ⟨b2, off2 + k, none⟩) HBq.out hb2lt).trans hcs
          have f2 := (Below.cell (p := ⟨b2, off2 + j, none⟩) HBq.out hb2lt).trans HcS.out
          have f3 := ((Below.cell (p := ⟨b, off + k, none⟩) HBq.out (Nat.lt_of_lt_of_le hblt HB2.out.size)).trans (Below.cell (p := ⟨b, off + k, none⟩) HB2.out hblt)).trans hck
          have f4 := (Below.cell (p := ⟨b, off + j, none⟩) HBq.out (Nat.lt_of_lt_of_le hblt HB2.out.size)).trans HcX.out
          obtain ⟨Xk, hXk⟩ : ∃ Xk, xs.getD k eB = Xk := ⟨_, rfl⟩
          rw [hXk] at f1 f3 hEq
          obtain ⟨Sk, hSk⟩ : ∃ Sk, sumS Xk = Sk := ⟨_, rfl⟩
          rw [hSk] at f1 hEq
          clear hbo hbo' hck hcs hXk hSk
          by_cases hq : Sk = S
          · have hx2 := hEq hq
            subst hq hx2
            clear hEq
            go_wp2
            go_quiet (fail)
            go_wp2
            go_roundw
            case rel => exact ⟨k + 1, by omega, by go_num, Lib.hid (below_drewN HBq.out _)⟩
            case measure => simp [intOf]; omega
          · have hs : (Sk.toList == S.toList) = false := by rw [str_eq, decide_eq_false hq]
            clear hEq hq
            go_wp2
            go_quiet (fail)
            go_wp2
            go_roundw
            case rel => exact ⟨k + 1, by omega, by go_num, Lib.hid (below_drewN HBq.out _)⟩
            case measure => simp [intOf]; omega
        · obtain rfl : k = j := by omega
          have HRq := Lib.hid (keep_row HR2.out HBq.out)
          have HBw : Hid (Below w.heap.size w wr) := Lib.hid (HB2.out.trans (HBq.out.mono HB2.out.size))
          clear HcS HcX HcX0
          go_wp2
          go_roundw
          case rel => exact ⟨k + 1, by omega, by go_num, HRq, HBw⟩
          case measure => simp [intOf]; omega
    · obtain rfl : j = n := by omega
      go_wp2
      go_ret
      exact ⟨rfl, HB.out⟩
end Rf
end Go.Proofs.YtoeblhdddehemaaDoor
