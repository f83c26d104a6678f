/-
  Contracts of slices.Clone over bytes, node.plain, node.Leaf, node.Ext.
-/
import Derived.Test.YtoeblhdddehemaaDoorMg10
import Derived.Test.YtoeblhdddehemaaDoorMg13
import Derived.Test.YtoeblhdddehemaaDoorMg8
import Derived.Test.YtoeblhdddehemaaDoorMg12
import Derived.BigQuiet
namespace Go.Proofs.YtoeblhdddehemaaDoor
set_option maxRecDepth 20000
open Go.RowKit

namespace No
/-- stands a text as itself? -/
def plainB (s : ByteArray) : Bool := decide (s.size = 0 ∨ s.size = 32)
theorem size_zero {s : ByteArray} (h : s.size = 0) : s = eB := by
  cases s with
  | mk d =>
    have : d = #[] := Array.eq_empty_of_size_eq_zero h
    rw [this]
set_option maxHeartbeats 1000000 in
theorem plain_any (s : ByteArray) (w : World) : Calls Tryd.prog 48 #[.string s] w fun e w' => e = .returned (.bool (plainB s)) ∧ w = w' := by
  by_cases h0 : s.size = 0
  · obtain rfl := size_zero h0
    go_enter Tryd.func48, Tryd.ntmps48
    go_wp2
    go_ret
    exact ⟨rfl, rfl⟩
  · have hne := Ni.not_empty (s := s) (by omega)
    by_cases h32 : s.size = 32
    · have hq : ((s.size : Int) == 32) = true := by simp; omega
      have HP : Hid (plainB s = true) := Lib.hid (by simp [plainB, h32])
      rw [HP.out]
      go_enter Tryd.func48, Tryd.ntmps48
      go_wp2
      go_ret
      exact ⟨rfl, rfl⟩
    · have hq : ((s.size : Int) == 32) = false := by simp; omega
      have HP : Hid (plainB s = false) := Lib.hid (by simp [plainB, h32, h0])
      rw [HP.out]
      go_enter Tryd.func48, Tryd.ntmps48
      go_wp2
      go_ret
      exact ⟨rfl, rfl⟩

theorem nil_bs (w : World) : (binOp .eql 42 (.slice none 0 0) (.slice none 0 0)).run Tryd.prog w = .ok (.bool true) w := by kernel_rfl
theorem some_bs (a : Addr) (n cap : Nat) (w : World) : (binOp .eql 42 (.slice (some a) n cap) (.slice none 0 0)).run Tryd.prog w = .ok (.bool false) w := by kernel_rfl
/-- a slice of these bytes is handed back, in new memory -/
def GotBsF (w : World) (l : List UInt8) (e : Ending) (w' : World) : Prop := ∃ a n cap, e = .returned (.slice a n cap) ∧ BsF w.heap.size w' a n cap l ∧ Below w.heap.size w w'
theorem ofOwnF {w : World} {B : Nat} {t : TypeId} {v : Value} {n : Nat} {l : List UInt8} (h : w.ownsRow B t 1 v n (l.map fun x => Value.int .u8 x.toNat)) : ∃ a cap, v = .slice a n cap ∧ BsF B w a n cap l := by
  obtain ⟨a, cap, rfl, hB⟩ := IsBs.ofOwn h
  refine ⟨a, cap, rfl, hB, fun ad e => ?_⟩
  subst e
  rcases h.2 with ⟨e, _⟩ | ⟨g, cap', cur, e, hbg, _⟩
  · cases e
  · cases e
    exact hbg
set_option maxHeartbeats 1000000 in
theorem cloneB_any (a : Option Addr) (n cap : Nat) (l : List UInt8) (hn : n ≤ 1000000) (w : World) (h : IsBs w a n cap l) :
    Calls Tryd.prog 38 #[.slice a n cap] w (GotBsF w l) := by
  cases a with
  | none =>
    obtain ⟨rfl, rfl, rfl⟩ := h.capNone
    have hnil := nil_bs
    go_enter Tryd.func38, Tryd.ntmps38
    go_wp2
    go_ret
    exact ⟨none, 0, 0, rfl, BsF.nil _ _, Below.refl _ _⟩
  | some ad =>
    obtain ⟨i0, hi, hz0, hz1, hz2⟩ := info_parts Cc.info_u8
    have HI : Hid (_ ∧ _ ∧ _ ∧ _) := Lib.hid ⟨hi, hz0, hz1, hz2⟩
    have HC := Lib.hid (Cc.news_cells h ad rfl)
    have HL := Lib.hid h.len
    have HH := Lib.hid h
    have hnil := some_bs ad n cap
    have HO : Hid ((w.alloc (.cells #[] 5)).ownsRow w.heap.size 5 1 (.slice (some ⟨w.heap.size, 0, none⟩) 0 0) 0 []) := Lib.hid (World.ownsRow_made w #[] 0 (Nat.le_refl _) (Nat.zero_le _) (by simp))
    clear h hi hz0 hz1 hz2
    go_enter Tryd.func38, Tryd.ntmps38
    go_wp2_with (at_builtin; refine wpList_append_own _ rfl _ _ 42 rfl w.heap.size 5 i0 (.int .u8 0) 1 1 Tryd.underlying42 HI.out.1 HI.out.2.1 HI.out.2.2.1 HI.out.2.2.2 rfl (by decide) _ _ _ rfl HO.out ad n cap (l.map fun x => Value.int .u8 x.toNat) rfl (by simp [HL.out]) ?c2 ?c6 ?c3 ?c4 ?c5 ?_)
    case c2 =>
      intro j u hu
      have hj : j < n := by rw [← HL.out]; have := (List.getElem?_eq_some_iff.1 hu).1; simpa using this
      obtain ⟨b, off, e, hb, _⟩ := HH.out.at' j hj
      obtain rfl := Option.some.inj e
      rw [(al1 w _).cell (by rw [Addr.add_mid]; exact hb)]
      exact HC.out j u hu
    case c6 =>
      intro u hu
      simp at hu
      obtain ⟨x, _, rfl⟩ := hu
      rfl
    case c3 => unfold maxLen; omega
    case c4 => omega
    case c5 => simp
    intro v' w2 hown2 hgrow hnil'
    have HG : Hid (∃ a c, v' = .slice a n c ∧ BsF w.heap.size w2 a n c l) := Lib.hid (by
      have := ofOwnF (l := l) (v := v') (n := n) (by simpa using hown2)
      exact this)
    have HB : Hid (Below w.heap.size w w2) := Lib.hid ((al1 w _).grown hgrow (by simp) (fun k hk => by simp [Value.ownBlock] at hk; omega))
    clear hown2 hgrow hnil'
    go_wp2
    go_ret
    obtain ⟨a', c', e, hB⟩ := HG.out
    exact ⟨a', n, c', by rw [e]; rfl, hB, HB.out⟩

set_option maxHeartbeats 2000000 in
theorem leaf_any (a : Option Addr) (n cap : Nat) (l : List UInt8) (hn : n ≤ 1000000) (v : ByteArray) (w : World) (h : IsBs w a n cap l) :
    Calls Tryd.prog 22 #[.slice a n cap, .string v] w (GotNd w ⟨1, l, v, zks⟩) := by
  obtain ⟨w2, hw2⟩ : ∃ w2, w2 = w.alloc (.cells (ndC nd0 none 0 0) 45) := ⟨_, rfl⟩
  have HC := Lib.hid (cloneB_any a n cap l hn w2 (by rw [hw2]; exact h.alloc _))
  have HO : Hid (OwnN w2 w.heap.size nd0 none 0 0) := Lib.hid (by rw [hw2]; exact Rg.Own.new _ _ _)
  have HB : Hid (Below w.heap.size w w2) := Lib.hid (by rw [hw2]; exact al1 _ _)
  clear h
  subst hw2
  go_enter Tryd.func22, Tryd.ntmps22
  go_wp2_with (refine Rg.run rfl _ _ (run_alloc_nd _ _ _ w.heap.size rfl rfl) ?_)
  refine HC.out.mono ?_
  rintro e w3 ⟨a3, n3, c3, rfl, hB3, hb3⟩
  have HO3 := Lib.hid (HO.out.below hb3)
  have HB3 := Lib.hid (below_step' HB.out hb3)
  have HI3 := Lib.hid hB3
  clear hB3 hb3 HO HC
  go_wp2_with (first
    | (refine Rg.run rfl _ _ (op_build (built_leaf a3 n3 c3 l v) ?_) ?_; · exact ⟨_, rfl, rfl⟩)
    | (refine wpl_store_nd HO3.out rfl ⟨1, l, v, zks⟩ a3 n3 c3 rfl rfl _ _ rfl rfl rfl rfl ?_))
  exact bodyPost_ret (res_nd rfl _ rfl (own_rowN HO3.out) rfl) rfl ⟨a3, n3, c3, rfl, (HI3.out.row (by simp) _).weak (by simp), rfl, below_rowN HB3.out (Nat.le_refl _) _⟩

set_option maxHeartbeats 2000000 in
theorem ext_any (a : Option Addr) (n cap : Nat) (l : List UInt8) (hn : n ≤ 1000000) (v : ByteArray) (w : World) (h : IsBs w a n cap l) :
    Calls Tryd.prog 98 #[.slice a n cap, .string v] w (GotNd w ⟨2, l, eB, v :: List.replicate 15 eB⟩) := by
  obtain ⟨w2, hw2⟩ : ∃ w2, w2 = w.alloc (.cells (ndC nd0 none 0 0) 45) := ⟨_, rfl⟩
  have HC := Lib.hid (cloneB_any a n cap l hn w2 (by rw [hw2]; exact h.alloc _))
  have HO : Hid (OwnN w2 w.heap.size nd0 none 0 0) := Lib.hid (by rw [hw2]; exact Rg.Own.new _ _ _)
  have HB : Hid (Below w.heap.size w w2) := Lib.hid (by rw [hw2]; exact al1 _ _)
  clear h
  subst hw2
  go_enter Tryd.func98, Tryd.ntmps98
  go_wp2_with (refine Rg.run rfl _ _ (run_alloc_nd _ _ _ w.heap.size rfl rfl) ?_)
  refine HC.out.mono ?_
  rintro e w3 ⟨a3, n3, c3, rfl, hB3, hb3⟩
  have HO3 := Lib.hid (HO.out.below hb3)
  have HB3 := Lib.hid (below_step' HB.out hb3)
  have HI3 := Lib.hid hB3
  clear hB3 hb3 HO HC
  go_wp2_with (first
    | (refine Rg.run rfl _ _ (op_build (built_one v) ?_) ?_; · exact ⟨_, rfl, rfl⟩)
    | (refine Rg.run rfl _ _ (op_build (built_ext 2 a3 n3 c3 l (v :: List.replicate 15 eB) rfl) ?_) ?_; · exact ⟨_, rfl, rfl⟩)
    | (refine wpl_store_nd HO3.out rfl ⟨2, l, eB, v :: List.replicate 15 eB⟩ a3 n3 c3 rfl rfl _ _ rfl rfl rfl rfl ?_))
  exact bodyPost_ret (res_nd rfl _ rfl (own_rowN HO3.out) rfl) rfl ⟨a3, n3, c3, rfl, (HI3.out.row (by simp) _).weak (by simp), rfl, below_rowN HB3.out (Nat.le_refl _) _⟩
end No
end Go.Proofs.YtoeblhdddehemaaDoor

/-
  References in a row: contracts of node.Kids, of the plain answers' kids, of Light; of the plain Same over texts.
-/
namespace Go.Proofs.YtoeblhdddehemaaDoor
set_option maxRecDepth 20000
open Go.RowKit

/-- the slice's elements are these texts -/
def IsSt (w : World) (a : Option Addr) (n cap : Nat) (xs : List ByteArray) : Prop :=
  n ≤ cap ∧ cap ≤ maxLen ∧ xs.length = n ∧ ∀ j, j < n → ∃ b off, a = some ⟨b, off, none⟩ ∧ b < w.heap.size ∧ w.cell? ⟨b, off + j, none⟩ = some (.string (xs.getD j eB))
namespace IsSt
variable {w w' : World} {a : Option Addr} {n cap : Nat} {xs : List ByteArray}
theorem len (h : IsSt w a n cap xs) : xs.length = n := h.2.2.1
theorem at' (h : IsSt w a n cap xs) (j : Nat) (hj : j < n) : ∃ b off, a = some ⟨b, off, none⟩ ∧ b < w.heap.size ∧ w.cell? ⟨b, off + j, none⟩ = some (.string (xs.getD j eB)) := h.2.2.2 j hj
theorem below (h : IsSt w a n cap xs) (hb : Below w.heap.size w w') : IsSt w' a n cap xs := by
  refine ⟨h.1, h.2.1, h.2.2.1, fun j hj => ?_⟩
  obtain ⟨b, off, h1, h2, h3⟩ := h.2.2.2 j hj
  exact ⟨b, off, h1, Nat.lt_of_lt_of_le h2 hb.size, by rw [hb.cell (p := ⟨b, off + j, none⟩) h2]; exact h3⟩
end IsSt
theorem IsSt.ofOwn {w : World} {B : Nat} {t : TypeId} {v : Value} {n : Nat} {xs : List ByteArray} (h : w.ownsRow B t 1 v n (xs.map Value.string)) : ∃ a cap, v = .slice a n cap ∧ IsSt w a n cap xs := by
  have hl : xs.length = n := by simpa using h.1
  rcases h.2 with ⟨rfl, hz⟩ | ⟨g, cap, cur, rfl, hbg, hg, hnc, hcm, hcs, htake⟩
  · subst hz
    exact ⟨none, 0, rfl, Nat.le_refl _, Nat.zero_le _, hl, fun j hj => absurd hj (Nat.not_lt_zero _)⟩
  · refine ⟨_, _, rfl, hnc, hcm, hl, fun j hj => ⟨g, 0, rfl, (Array.getElem?_eq_some_iff.1 hg).1, ?_⟩⟩
    have := h.cells (g := g) rfl j (.string (xs.getD j eB)) (by simp [List.getD, hl, hj])
    rwa [Addr.add_mid] at this
theorem info_st : (Tryd.prog.info? 9).map (fun i => (i.zero, i.size, i.bytes)) = some (some (.string ⟨#[]⟩), 1, 16) := by kernel_rfl
theorem info_st_parts : ∃ i, Tryd.prog.info? 9 = some i ∧ i.zero = some (.string ⟨#[]⟩) ∧ i.size = 1 ∧ i.bytes = 16 := by
  have h := info_st
  cases hi : Tryd.prog.info? 9 with
  | none => rw [hi] at h; simp at h
  | some i =>
    rw [hi] at h
    simp at h
    exact ⟨i, rfl, h.1, h.2.1, h.2.2⟩

/-- those that are not empty -/
def kidsL (ks : List ByteArray) : List ByteArray := ks.filter fun k => decide (k.size ≠ 0)
theorem kidsL_snoc (ks : List ByteArray) (q : Nat) (h : q < ks.length) : kidsL (ks.take (q + 1)) = kidsL (ks.take q) ++ (if (ks.getD q eB).size ≠ 0 then [ks.getD q eB] else []) := by
  unfold kidsL
  have e : ks.getD q eB = ks[q] := by simp [List.getD, h]
  rw [List.take_succ_eq_append_getElem h, e, List.filter_append]
  congr 1
  by_cases hz : ks[q].size = 0
  · simp only [ne_eq, hz, not_true_eq_false, decide_false, Bool.false_eq_true, not_false_eq_true, List.filter_cons_of_neg, List.filter_nil, if_false]
  · simp only [ne_eq, hz, not_false_eq_true, decide_true, List.filter_cons_of_pos, List.filter_nil, if_true]
theorem kidsL_len (ks : List ByteArray) (q : Nat) : (kidsL (ks.take q)).length ≤ q := Nat.le_trans (List.length_filter_le _ _) (by rw [List.length_take]; exact Nat.min_le_left _ _)

theorem cells_st : Tryd.prog.cellsOf 9 = 1 := by kernel_rfl
theorem part_st (ks : List ByteArray) (q : Nat) (h : q < ks.length) (w : World) : (part 9 (kidC ks) q).run Tryd.prog w = .ok (.string (ks.getD q eB)) w := by
  have hagg : (isAgg 9).run Tryd.prog w = .ok false w := by kernel_rfl
  have hg : (kidC ks)[q]? = some (.string (ks.getD q eB)) := by simp [kidC, List.getD, h]
  unfold part
  rw [Sem.run_bind, hagg]
  simp [hg]
theorem op_index_ks {ev : Operand → Value} {o : Oper} {w : World} {ks : List ByteArray} {q : Nat} (hl : ks.length = 16) (hq : q < 16) (ho : ∃ x y, o.op = .index 43 x y ∧ ev x = .agg (kidC ks) ∧ ev y = .int .i64 q) :
    (execOp ev o).run Tryd.prog w = .ok (.value (.string (ks.getD q eB))) w := by
  obtain ⟨x, y, ho, hx, hy⟩ := ho
  obtain ⟨i0, hi, _, hs, _⟩ := info_st_parts
  have hp := part_st ks q (by omega) w
  have h1 : (Instr.index 43 (.agg (kidC ks)) (.int .i64 q)).run Tryd.prog w = .ok (.string (ks.getD q eB)) w := by
    have hq2 : (0 : Int) ≤ q ∧ (q : Int) < ((16 : Nat) : Int) := ⟨by omega, by omega⟩
    simp only [Instr.index, Sem.run_bind, asIntOf, Sem.run_pure, Result.andThen_ok, run_underlying Tryd.underlying43]
    rw [if_pos hq2]
    simp only [sizeOf, typeInfo, Sem.run_bind]
    simp [hi, hs, hp]
  unfold execOp
  simp only [ho, hx, hy, Sem.run_bind, Sem.run_pure, Result.andThen_ok, h1]

namespace No
/-- new texts are handed back -/
def GotSt (w : World) (xs : List ByteArray) (e : Ending) (w' : World) : Prop := ∃ a n cap, e = .returned (.slice a n cap) ∧ IsSt w' a n cap xs ∧ Below w.heap.size w w'

set_option maxHeartbeats 2000000 in
theorem kids_any (N : Nd) (a : Option Addr) (n c : Nat) (hl : N.ks.length = 16) (w : World) : Calls Tryd.prog 31 #[.agg (ndC N a n c)] w (GotSt w (kidsL N.ks)) := by
  obtain ⟨i0, hi, hz0, hz1, hz2⟩ := info_st_parts
  have HI : Hid (_ ∧ _ ∧ _ ∧ _) := Lib.hid ⟨hi, hz0, hz1, hz2⟩
  have HO : Hid (OwnN (w.alloc (.cells (ndC N a n c) 45)) w.heap.size N a n c) := Lib.hid (Rg.Own.new _ _ _)
  have HL := Lib.hid hl
  clear hi hz0 hz1 hz2 hl
  go_enter Tryd.func31, Tryd.ntmps31
  go_wp2_with (refine Rg.run rfl _ _ (op_load_ks HO.out HL.out ⟨_, rfl, rfl⟩) ?_)
  go_loopw [3, 8] (fun v i wr => ∃ j : Nat, j ≤ 16 ∧ i = .int .i64 j ∧ Hid (wr.ownsRow (w.heap.size + 1) 9 1 v (kidsL (N.ks.take j)).length ((kidsL (N.ks.take j)).map Value.string)) ∧ Below (w.heap.size + 1) (w.alloc (.cells (ndC N a n c) 45)) wr) (fun _ i _ => 16 - (intOf i).toNat)
  case atStart => exact ⟨0, Nat.zero_le _, rfl, Lib.hid (World.ownsRow_nil _ _ _ _), Below.refl _ _⟩
  case round =>
    obtain ⟨j, hj, rfl, HR, hB⟩ := hrel
    have hsz : w.heap.size + 1 ≤ wr.heap.size := by have := hB.size; simp at this; omega
    by_cases hlt : j < 16
    · have HS := Lib.hid (kidsL_snoc N.ks j (by rw [HL.out]; exact hlt))
      have hkl := kidsL_len N.ks j
      obtain ⟨L, hL⟩ : ∃ L, kidsL (N.ks.take j) = L := ⟨_, rfl⟩
      rw [hL] at HS hkl HR
      clear hL
      by_cases hk : (N.ks.getD j eB).size = 0
      · have HS' : Hid (kidsL (N.ks.take (j + 1)) = L) := Lib.hid (by rw [HS.out, if_neg (by simpa using hk), List.append_nil])
        have HE : Hid (N.ks.getD j eB = eB) := Lib.hid (size_zero hk)
        clear hk
        go_wp2_with (refine Rg.run rfl (.string (N.ks.getD j eB)) _ (op_index_ks HL.out hlt ⟨_, _, rfl, rfl, rfl⟩) ?_; rw [HE.out])
        go_roundw
        case rel => exact ⟨j + 1, by omega, by go_num, by rw [HS'.out]; exact HR, hB⟩
        case measure => simp [intOf]; omega
      · have HS' : Hid (kidsL (N.ks.take (j + 1)) = L ++ [N.ks.getD j eB]) := Lib.hid (by rw [HS.out, if_pos hk])
        have hne := Ni.not_empty (s := N.ks.getD j eB) (by omega)
        obtain ⟨K, hK⟩ : ∃ K, N.ks.getD j eB = K := ⟨_, rfl⟩
        have HK := Lib.hid hK
        rw [hK] at hne HS'
        clear hK hk HS
        go_wp2_with (first
          | (refine Rg.run rfl (.string (N.ks.getD j eB)) _ (op_index_ks HL.out hlt ⟨_, _, rfl, rfl, rfl⟩) ?_; rw [HK.out])
          | (at_builtin; refine wpList_append_own _ rfl _ _ 22 rfl (w.heap.size + 1) 9 i0 (.string ⟨#[]⟩) 1 16 Tryd.underlying22 HI.out.1 HI.out.2.1 HI.out.2.2.1 HI.out.2.2.2 rfl (by decide) _ _ _ rfl (HR.out.alloc _) ⟨wr.heap.size, 0, none⟩ 1 1 [.string K] rfl rfl ?d1 ?d2 ?d3 ?d4 ?d5 ?_))
        case d1 => exact Bu.cell_one_new' _ _ _ _
        case d2 => intro u hu; simp at hu; subst hu; rfl
        case d3 => unfold maxLen; omega
        case d4 => omega
        case d5 => simp; omega
        intro v' w2 hown2 hgrow _
        have hlt' := HR.out.lt
        go_wp2
        go_roundw
        case rel => exact ⟨j + 1, by omega, by go_num, Lib.hid (by rw [HS'.out, List.length_append, List.map_append]; exact hown2), (hB.alloc hsz _).grown hgrow (by simp; omega) (fun g hg => (hlt' g hg).1)⟩
        case measure => simp [intOf]; omega
    · obtain rfl : j = 16 := by omega
      have hO := HR.out
      rw [List.take_of_length_le (by rw [HL.out]; exact Nat.le_refl _)] at hO
      obtain ⟨a', cap', rfl, hb⟩ := IsSt.ofOwn hO
      have HB := Lib.hid hb
      have HBe : Hid (Below w.heap.size w wr) := Lib.hid (of_al hB)
      clear hO hb
      go_wp2
      go_ret
      exact ⟨a', _, cap', rfl, HB.out, HBe.out⟩
set_option maxHeartbeats 2000000 in
theorem rkids_any (N : Nd) (a : Option Addr) (n c : Nat) (hl : N.ks.length = 16) (w : World) : Calls Tryd.prog 71 #[.agg (ndC N a n c)] w fun e w' => e = .returned (.int .i64 (kidsL N.ks).length) ∧ Below w.heap.size w w' := by
  have HO : Hid (OwnN (w.alloc (.cells (ndC N a n c) 45)) w.heap.size N a n c) := Lib.hid (Rg.Own.new _ _ _)
  have HL := Lib.hid hl
  clear hl
  go_enter Tryd.func71, Tryd.ntmps71
  go_wp2
  go_loop [3, 4] (fun v i => ∃ j : Nat, j ≤ 16 ∧ i = .int .i64 j ∧ v = .int .i64 (kidsL (N.ks.take j)).length) (fun _ i => 16 - (intOf i).toNat)
  case atStart => exact ⟨0, Nat.zero_le _, rfl, rfl⟩
  case round =>
    obtain ⟨j, hj, rfl, rfl⟩ := hrel
    by_cases hlt : j < 16
    · have HS := Lib.hid (kidsL_snoc N.ks j (by rw [HL.out]; exact hlt))
      have hkl := kidsL_len N.ks j
      have hc := nd_kid HO.out HL.out j hlt
      obtain ⟨L, hL⟩ : ∃ L, (kidsL (N.ks.take j)).length = L := ⟨_, rfl⟩
      have HS2 : Hid ((kidsL (N.ks.take (j + 1))).length = L + if (N.ks.getD j eB).size ≠ 0 then 1 else 0) := Lib.hid (by
        rw [HS.out, List.length_append, hL]
        split <;> rfl)
      rw [hL] at hkl ⊢
      clear hL HS
      obtain ⟨K, hK⟩ : ∃ K, N.ks.getD j eB = K := ⟨_, rfl⟩
      rw [hK] at hc HS2
      clear hK
      by_cases hk : K.size = 0
      · obtain rfl := size_zero hk
        go_wp2
        go_round
        case rel => exact ⟨j + 1, by omega, by go_num, by rw [HS2.out]; rfl⟩
        case measure => simp [intOf]; omega
      · have hne := Ni.not_empty (s := K) (by omega)
        have HS3 : Hid ((kidsL (N.ks.take (j + 1))).length = L + 1) := Lib.hid (by rw [HS2.out, if_pos hk])
        clear hk HS2
        go_wp2
        go_round
        case rel => exact ⟨j + 1, by omega, by go_num, by rw [HS3.out]; go_num⟩
        case measure => simp [intOf]; omega
    · obtain rfl : j = 16 := by omega
      have e : N.ks.take 16 = N.ks := List.take_of_length_le (by rw [HL.out]; exact Nat.le_refl _)
      rw [e]
      obtain ⟨L, hL⟩ : ∃ L, (kidsL N.ks).length = L := ⟨_, rfl⟩
      have HLL := Lib.hid hL
      rw [hL]
      clear hL e
      go_wp2
      go_ret
      exact ⟨by rw [HLL.out]; rfl, al1 _ _⟩

/-- a node that is not far too great -/
def lightB (N : Nd) : Bool := N.ks.all (fun k => decide (k.size ≤ 100)) && decide (N.p.length ≤ 100) && decide (N.v.size ≤ 500)
end No
end Go.Proofs.YtoeblhdddehemaaDoor

/-
  Contracts of the plain answers' Right and Pack.
-/
namespace Go.Proofs.YtoeblhdddehemaaDoor
set_option maxRecDepth 20000
open Go.RowKit

namespace Ni
set_option maxHeartbeats 400000 in
theorem rright_any (a : Option Addr) (n cap : Nat) (l : List UInt8) (w : World) (h : IsBs w a n cap l) :
    Calls Tryd.prog 70 #[.slice a n cap] w fun e w' => e = .returned (.bool (rightB l)) ∧ w = w' := by
  have hm := h.2.1
  have hnc := h.1
  unfold maxLen at hm
  have H := Lib.hid h
  clear h
  go_enter Tryd.func70, Tryd.ntmps70
  go_wp2
  go_loop [3] (fun i => ∃ k : Nat, k ≤ n ∧ i = .int .i64 k ∧ Hid (rightB (l.take k) = true)) (fun i => n - (intOf i).toNat)
  case atStart => exact ⟨0, Nat.zero_le _, rfl, Lib.hid rfl⟩
  case round =>
    obtain ⟨k, hk, rfl, HR⟩ := hrel
    by_cases hlt : k < n
    · obtain ⟨b, off, rfl, hb, hc⟩ := H.out.at' k hlt
      have hl : k < l.length := by rw [H.out.len]; exact hlt
      have HT := Lib.hid (rightB_take l k hl)
      obtain ⟨x, hx⟩ : ∃ x, (l.getD k 0).toNat = x := ⟨_, rfl⟩
      rw [hx] at hc HT
      by_cases h15 : 15 < x
      · have HN := Lib.hid (rightB_no l k hl (by omega))
        clear hx hl
        go_wp2
        go_ret
        exact ⟨by rw [HN.out]; rfl, rfl⟩
      · clear hx hl
        go_wp2
        go_round
        case rel => exact ⟨k + 1, by omega, by go_num, Lib.hid (by rw [HT.out, HR.out]; simp; omega)⟩
        case measure => simp [intOf]; omega
    · obtain rfl : k = n := by omega
      have HE : Hid (rightB l = true) := Lib.hid (by
        have := HR.out
        rwa [List.take_of_length_le (by rw [H.out.len]; exact Nat.le_refl _)] at this)
      go_wp2
      go_ret
      exact ⟨by rw [HE.out]; rfl, rfl⟩

/-- the first k + 1 bytes of a hex-prefix, as the plain answer lays them -/
def headN (l : List UInt8) (leaf : Bool) : Nat := 16 * markN l.length leaf + if l.length % 2 = 1 then (l.getD 0 0).toNat else 0
def rpackK (l : List UInt8) (leaf : Bool) (k : Nat) : List UInt8 := UInt8.ofNat (headN l leaf) :: (List.range k).map fun j => UInt8.ofNat (16 * (l.getD (l.length % 2 + 2 * j) 0).toNat + (l.getD (l.length % 2 + (2 * j + 1)) 0).toNat)
theorem rpackK_snoc (l : List UInt8) (leaf : Bool) (k : Nat) : rpackK l leaf (k + 1) = rpackK l leaf k ++ [UInt8.ofNat (16 * (l.getD (l.length % 2 + 2 * k) 0).toNat + (l.getD (l.length % 2 + (2 * k + 1)) 0).toNat)] := by
  simp [rpackK, List.range_succ]
theorem full_0 (l : List UInt8) (leaf : Bool) : ((fullL l leaf).getD 0 0).toNat = markN l.length leaf := by
  have : markN l.length leaf ≤ 3 := by unfold markN; cases leaf <;> simp <;> omega
  simp [fullL]; omega
theorem full_1 (l : List UInt8) (leaf : Bool) : ((fullL l leaf).getD 1 0).toNat = if l.length % 2 = 1 then (l.getD 0 0).toNat else 0 := by
  unfold fullL
  by_cases h : l.length % 2 = 1
  · cases l with
    | nil => simp at h
    | cons x r =>
      have h' : (r.length + 1) % 2 = 1 := by simpa using h
      simp [h']
  · simp [h]
theorem full_2 (l : List UInt8) (leaf : Bool) (q : Nat) : (fullL l leaf).getD (2 + q) 0 = l.getD (l.length % 2 + q) 0 := by
  unfold fullL
  by_cases h : l.length % 2 = 1
  · cases l with
    | nil => simp at h
    | cons x r =>
      rw [if_pos h, h]
      have e : (2 + q) = q + 1 + 1 := by omega
      rw [e, show 1 + q = q + 1 by omega]
      simp [List.getD]
  · have h0 : l.length % 2 = 0 := by omega
    rw [if_neg h, h0]
    have e : (2 + q) = q + 1 + 1 := by omega
    rw [e]
    simp [List.getD]
/-- both lay the same -/
theorem packL_eq (l : List UInt8) (leaf : Bool) : packL l leaf = rpackK l leaf (l.length / 2) := by
  unfold packL pairsK rpackK headN
  rw [List.range_succ_eq_map, List.map_cons, List.map_map]
  have e0 := full_0 l leaf
  have e1 := full_1 l leaf
  congr 1
  · simp only [Nat.mul_zero, Nat.zero_add]
    rw [e0, e1]
  · apply List.map_congr_left
    intro j _
    have f0 := full_2 l leaf (2 * j)
    have f1 := full_2 l leaf (2 * j + 1)
    simp only [Function.comp]
    rw [show 2 * (j.succ) = 2 + 2 * j by omega, show 2 + 2 * j + 1 = 2 + (2 * j + 1) by omega, f0, f1]

/-- a new slice of one byte, as a text -/
theorem conv_one (v : Int) (x : Nat) (hx : x < 256) (hv : v = x) (w : World) :
    Sem.run Tryd.prog (convert 42 9 (Value.slice (some ⟨w.heap.size, 0, none⟩) 1 1)) (w.alloc (.cells #[.int .u8 v] 5)) = .ok (.string ⟨#[UInt8.ofNat x]⟩) (w.alloc (.cells #[.int .u8 v] 5)) := by
  subst hv
  have h := run_convert_bytes_back (P := Tryd.prog) (w.alloc (.cells #[.int .u8 x] 5)) 42 9 5 ⟨w.heap.size, 0, none⟩ 1 [UInt8.ofNat x] Tryd.underlying42 Tryd.underlying5 Tryd.underlying9
    (fun j hj => by
      obtain rfl : j = 0 := by simpa using hj
      have e : (UInt8.ofNat x).toNat = x := by simp; omega
      simp [Addr.add, e])
  exact h

theorem ba_snoc (l : List UInt8) (x : UInt8) : (⟨l.toArray⟩ : ByteArray) ++ ⟨#[x]⟩ = ⟨(l ++ [x]).toArray⟩ := by
  have h : ((⟨l.toArray⟩ : ByteArray) ++ ⟨#[x]⟩).data = (l ++ [x]).toArray := by
    rw [ByteArray.data_append]; simp
  cases e : ((⟨l.toArray⟩ : ByteArray) ++ ⟨#[x]⟩) with
  | mk d => rw [e] at h; simp only at h; rw [h]

set_option maxHeartbeats 2000000 in
theorem rpack_any (a : Option Addr) (n cap : Nat) (l : List UInt8) (leaf : Bool) (hr : rightB l = true) (hn : n ≤ 64) (w : World) (h : IsBs w a n cap l) :
    Calls Tryd.prog 69 #[.slice a n cap, .bool leaf] w fun e w' => e = .returned (.string ⟨(packL l leaf).toArray⟩) ∧ Below w.heap.size w w' := by
  rw [packL_eq]
  have H := Lib.hid h
  have HL := Lib.hid h.len
  have HR := Lib.hid (rightB_getD l hr)
  have hmk : headN l leaf = 16 * (l.length % 2) + 32 * (if leaf then 1 else 0) + if l.length % 2 = 1 then (l.getD 0 0).toNat else 0 := by
    unfold headN markN; cases leaf <;> simp <;> omega
  have hnc := h.1
  have hcm := h.2.1
  unfold maxLen at hcm
  rw [h.len] at hmk
  clear h hr
  by_cases hp : n % 2 = 1
  · have hp0 : (n : Int) % 2 = 1 := by omega
    have hn1 : 1 ≤ n := by omega
    rw [if_pos hp, hp] at hmk
    have HP := Lib.hid hp
    clear hp
    obtain ⟨b0, off0, rfl, hb0, hc0⟩ := H.out.at' 0 (by omega)
    have hx0 := HR.out 0
    obtain ⟨z, hz⟩ : ∃ z, (l.getD 0 0).toNat = z := ⟨_, rfl⟩
    rw [hz] at hc0 hx0 hmk
    rw [Nat.add_zero] at hc0
    clear hz
    cases leaf
    · have hm2 : headN l false = 16 + z := by rw [hmk]; simp
      have hcv := conv_one (16 + (z : Int)) (headN l false) (by omega) (by omega)
      clear hmk hm2
      go_enter Tryd.func69, Tryd.ntmps69
      go_wp2
      clear hcv
      go_loopw [7, 8] (fun s i wr => ∃ k q : Nat, Hid (q = 1 + 2 * k) ∧ q ≤ n ∧ i = .int .i64 q ∧ s = .string ⟨(rpackK l false k).toArray⟩ ∧ Below w.heap.size w wr) (fun _ i _ => n - (intOf i).toNat)
      case atStart => exact ⟨0, 1, Lib.hid rfl, by omega, rfl, rfl, (Below.refl _ _).alloc (Nat.le_refl _) _⟩
      case round =>
        obtain ⟨k, q, HQ, hq, rfl, rfl, hB⟩ := hrel
        by_cases hlt : q < n
        · have hlt1 : q + 1 < n := by have := HP.out; have := HQ.out; omega
          obtain ⟨b, off, h0, hb, hc⟩ := H.out.at' q hlt
          simp at h0
          obtain ⟨rfl, rfl⟩ := h0
          obtain ⟨b', off', h1, _, hc'⟩ := H.out.at' (q + 1) hlt1
          simp at h1
          obtain ⟨rfl, rfl⟩ := h1
          have hx := HR.out q
          have hy := HR.out (q + 1)
          obtain ⟨x, hxe⟩ : ∃ x, (l.getD q 0).toNat = x := ⟨_, rfl⟩
          obtain ⟨y, hye⟩ : ∃ y, (l.getD (q + 1) 0).toNat = y := ⟨_, rfl⟩
          rw [hxe] at hc hx
          rw [hye] at hc' hy
          rw [← hB.cell (p := ⟨b0, off0 + q, none⟩) hb] at hc
          rw [← hB.cell (p := ⟨b0, off0 + (q + 1), none⟩) hb] at hc'
          have hcv : Sem.run Tryd.prog (convert 42 9 (Value.slice (some ⟨wr.heap.size, 0, none⟩) 1 1)) (wr.alloc (.cells #[.int .u8 (16 * (x : Int) + (y : Int))] 5)).drew = .ok (.string ⟨#[UInt8.ofNat (16 * x + y)]⟩) (wr.alloc (.cells #[.int .u8 (16 * (x : Int) + (y : Int))] 5)).drew :=
            conv_one (16 * x + y) (16 * x + y) (by omega) (by omega) wr.drew
          obtain ⟨S, hS⟩ : ∃ S, (⟨(rpackK l false k).toArray⟩ : ByteArray) = S := ⟨_, rfl⟩
          obtain ⟨C, hC⟩ : ∃ C, (⟨#[UInt8.ofNat (16 * x + y)]⟩ : ByteArray) = C := ⟨_, rfl⟩
          have hSz : S.size ≤ 100 := by
            rw [← hS]; show (rpackK l false k).toArray.size ≤ 100; have := HQ.out; simp [rpackK]; omega
          have hCz : C.size ≤ 1 := by rw [← hC]; exact Nat.le_refl _
          have HN : Hid (S ++ C = ⟨(rpackK l false (k + 1)).toArray⟩) := Lib.hid (by
            rw [← hS, ← hC, ba_snoc, rpackK_snoc, HL.out, HP.out, ← HQ.out, show 1 + (2 * k + 1) = q + 1 by have := HQ.out; omega, hxe, hye])
          rw [hC] at hcv
          rw [hS]
          clear hxe hye hS hC
          go_wp2_with fail
          go_region
          all_goals clear hcv
          all_goals go_wp2
          all_goals
            go_roundw
            case rel => exact ⟨k + 1, q + 2, Lib.hid (by have := HQ.out; omega), by omega, by go_num, by rw [HN.out], hB.drew.alloc hB.size _⟩
            case measure => simp [intOf]; omega
        · have HE : Hid (k = l.length / 2) := Lib.hid (by rw [HL.out]; have := HP.out; have := HQ.out; omega)
          go_wp2
          go_ret
          exact ⟨by rw [← HE.out]; rfl, hB⟩
    · have hm2 : headN l true = 48 + z := by rw [hmk]; simp
      have hcv := conv_one (48 + (z : Int)) (headN l true) (by omega) (by omega)
      clear hmk hm2
      go_enter Tryd.func69, Tryd.ntmps69
      go_wp2
      clear hcv
      go_loopw [7, 8] (fun s i wr => ∃ k q : Nat, Hid (q = 1 + 2 * k) ∧ q ≤ n ∧ i = .int .i64 q ∧ s = .string ⟨(rpackK l true k).toArray⟩ ∧ Below w.heap.size w wr) (fun _ i _ => n - (intOf i).toNat)
      case atStart => exact ⟨0, 1, Lib.hid rfl, by omega, rfl, rfl, (Below.refl _ _).alloc (Nat.le_refl _) _⟩
      case round =>
        obtain ⟨k, q, HQ, hq, rfl, rfl, hB⟩ := hrel
        by_cases hlt : q < n
        · have hlt1 : q + 1 < n := by have := HP.out; have := HQ.out; omega
          obtain ⟨b, off, h0, hb, hc⟩ := H.out.at' q hlt
          simp at h0
          obtain ⟨rfl, rfl⟩ := h0
          obtain ⟨b', off', h1, _, hc'⟩ := H.out.at' (q + 1) hlt1
          simp at h1
          obtain ⟨rfl, rfl⟩ := h1
          have hx := HR.out q
          have hy := HR.out (q + 1)
          obtain ⟨x, hxe⟩ : ∃ x, (l.getD q 0).toNat = x := ⟨_, rfl⟩
          obtain ⟨y, hye⟩ : ∃ y, (l.getD (q + 1) 0).toNat = y := ⟨_, rfl⟩
          rw [hxe] at hc hx
          rw [hye] at hc' hy
          rw [← hB.cell (p := ⟨b0, off0 + q, none⟩) hb] at hc
          rw [← hB.cell (p := ⟨b0, off0 + (q + 1), none⟩) hb] at hc'
          have hcv : Sem.run Tryd.prog (convert 42 9 (Value.slice (some ⟨wr.heap.size, 0, none⟩) 1 1)) (wr.alloc (.cells #[.int .u8 (16 * (x : Int) + (y : Int))] 5)).drew = .ok (.string ⟨#[UInt8.ofNat (16 * x + y)]⟩) (wr.alloc (.cells #[.int .u8 (16 * (x : Int) + (y : Int))] 5)).drew :=
            conv_one (16 * x + y) (16 * x + y) (by omega) (by omega) wr.drew
          obtain ⟨S, hS⟩ : ∃ S, (⟨(rpackK l true k).toArray⟩ : ByteArray) = S := ⟨_, rfl⟩
          obtain ⟨C, hC⟩ : ∃ C, (⟨#[UInt8.ofNat (16 * x + y)]⟩ : ByteArray) = C := ⟨_, rfl⟩
          have hSz : S.size ≤ 100 := by
            rw [← hS]; show (rpackK l true k).toArray.size ≤ 100; have := HQ.out; simp [rpackK]; omega
          have hCz : C.size ≤ 1 := by rw [← hC]; exact Nat.le_refl _
          have HN : Hid (S ++ C = ⟨(rpackK l true (k + 1)).toArray⟩) := Lib.hid (by
            rw [← hS, ← hC, ba_snoc, rpackK_snoc, HL.out, HP.out, ← HQ.out, show 1 + (2 * k + 1) = q + 1 by have := HQ.out; omega, hxe, hye])
          rw [hC] at hcv
          rw [hS]
          clear hxe hye hS hC
          go_wp2_with fail
          go_region
          all_goals clear hcv
          all_goals go_wp2
          all_goals
            go_roundw
            case rel => exact ⟨k + 1, q + 2, Lib.hid (by have := HQ.out; omega), by omega, by go_num, by rw [HN.out], hB.drew.alloc hB.size _⟩
            case measure => simp [intOf]; omega
        · have HE : Hid (k = l.length / 2) := Lib.hid (by rw [HL.out]; have := HP.out; have := HQ.out; omega)
          go_wp2
          go_ret
          exact ⟨by rw [← HE.out]; rfl, hB⟩
  · have hp0 : (n : Int) % 2 = 0 := by omega
    have hpn : n % 2 = 0 := by omega
    rw [if_neg hp, hpn] at hmk
    have HP := Lib.hid hpn
    clear hp hpn
    cases leaf
    · have hcv := conv_one 0 (headN l false) (by rw [hmk]; decide) (by rw [hmk]; rfl)
      clear hmk
      go_enter Tryd.func69, Tryd.ntmps69
      go_wp2
      clear hcv
      go_loopw [7, 8] (fun s i wr => ∃ k q : Nat, Hid (q = 0 + 2 * k) ∧ q ≤ n ∧ i = .int .i64 q ∧ s = .string ⟨(rpackK l false k).toArray⟩ ∧ Below w.heap.size w wr) (fun _ i _ => n - (intOf i).toNat)
      case atStart => exact ⟨0, 0, Lib.hid rfl, by omega, rfl, rfl, (Below.refl _ _).alloc (Nat.le_refl _) _⟩
      case round =>
        obtain ⟨k, q, HQ, hq, rfl, rfl, hB⟩ := hrel
        by_cases hlt : q < n
        · have hlt1 : q + 1 < n := by have := HP.out; have := HQ.out; omega
          obtain ⟨b, off, rfl, hb, hc⟩ := H.out.at' q hlt
          obtain ⟨b', off', h1, _, hc'⟩ := H.out.at' (q + 1) hlt1
          simp at h1
          obtain ⟨rfl, rfl⟩ := h1
          have hx := HR.out q
          have hy := HR.out (q + 1)
          obtain ⟨x, hxe⟩ : ∃ x, (l.getD q 0).toNat = x := ⟨_, rfl⟩
          obtain ⟨y, hye⟩ : ∃ y, (l.getD (q + 1) 0).toNat = y := ⟨_, rfl⟩
          rw [hxe] at hc hx
          rw [hye] at hc' hy
          rw [← hB.cell (p := ⟨b, off + q, none⟩) hb] at hc
          rw [← hB.cell (p := ⟨b, off + (q + 1), none⟩) hb] at hc'
          have hcv : Sem.run Tryd.prog (convert 42 9 (Value.slice (some ⟨wr.heap.size, 0, none⟩) 1 1)) (wr.alloc (.cells #[.int .u8 (16 * (x : Int) + (y : Int))] 5)).drew = .ok (.string ⟨#[UInt8.ofNat (16 * x + y)]⟩) (wr.alloc (.cells #[.int .u8 (16 * (x : Int) + (y : Int))] 5)).drew :=
            conv_one (16 * x + y) (16 * x + y) (by omega) (by omega) wr.drew
          obtain ⟨S, hS⟩ : ∃ S, (⟨(rpackK l false k).toArray⟩ : ByteArray) = S := ⟨_, rfl⟩
          obtain ⟨C, hC⟩ : ∃ C, (⟨#[UInt8.ofNat (16 * x + y)]⟩ : ByteArray) = C := ⟨_, rfl⟩
          have hSz : S.size ≤ 100 := by
            rw [← hS]; show (rpackK l false k).toArray.size ≤ 100; have := HQ.out; simp [rpackK]; omega
          have hCz : C.size ≤ 1 := by rw [← hC]; exact Nat.le_refl _
          have HN : Hid (S ++ C = ⟨(rpackK l false (k + 1)).toArray⟩) := Lib.hid (by
            rw [← hS, ← hC, ba_snoc, rpackK_snoc, HL.out, HP.out, ← HQ.out, show 0 + (2 * k + 1) = q + 1 by have := HQ.out; omega, hxe, hye])
          rw [hC] at hcv
          rw [hS]
          clear hxe hye hS hC
          go_wp2_with fail
          go_region
          all_goals clear hcv
          all_goals go_wp2
          all_goals
            go_roundw
            case rel => exact ⟨k + 1, q + 2, Lib.hid (by have := HQ.out; omega), by omega, by go_num, by rw [HN.out], hB.drew.alloc hB.size _⟩
            case measure => simp [intOf]; omega
        · have HE : Hid (k = l.length / 2) := Lib.hid (by rw [HL.out]; have := HP.out; have := HQ.out; omega)
          go_wp2
          go_ret
          exact ⟨by rw [← HE.out]; rfl, hB⟩
    · have hcv := conv_one 32 (headN l true) (by rw [hmk]; decide) (by rw [hmk]; rfl)
      clear hmk
      go_enter Tryd.func69, Tryd.ntmps69
      go_wp2
      clear hcv
      go_loopw [7, 8] (fun s i wr => ∃ k q : Nat, Hid (q = 0 + 2 * k) ∧ q ≤ n ∧ i = .int .i64 q ∧ s = .string ⟨(rpackK l true k).toArray⟩ ∧ Below w.heap.size w wr) (fun _ i _ => n - (intOf i).toNat)
      case atStart => exact ⟨0, 0, Lib.hid rfl, by omega, rfl, rfl, (Below.refl _ _).alloc (Nat.le_refl _) _⟩
      case round =>
        obtain ⟨k, q, HQ, hq, rfl, rfl, hB⟩ := hrel
        by_cases hlt : q < n
        · have hlt1 : q + 1 < n := by have := HP.out; have := HQ.out; omega
          obtain ⟨b, off, rfl, hb, hc⟩ := H.out.at' q hlt
          obtain ⟨b', off', h1, _, hc'⟩ := H.out.at' (q + 1) hlt1
          simp at h1
          obtain ⟨rfl, rfl⟩ := h1
          have hx := HR.out q
          have hy := HR.out (q + 1)
          obtain ⟨x, hxe⟩ : ∃ x, (l.getD q 0).toNat = x := ⟨_, rfl⟩
          obtain ⟨y, hye⟩ : ∃ y, (l.getD (q + 1) 0).toNat = y := ⟨_, rfl⟩
          rw [hxe] at hc hx
          rw [hye] at hc' hy
          rw [← hB.cell (p := ⟨b, off + q, none⟩) hb] at hc
          rw [← hB.cell (p := ⟨b, off + (q + 1), none⟩) hb] at hc'
          have hcv : Sem.run Tryd.prog (convert 42 9 (Value.slice (some ⟨wr.heap.size, 0, none⟩) 1 1)) (wr.alloc (.cells #[.int .u8 (16 * (x : Int) + (y : Int))] 5)).drew = .ok (.string ⟨#[UInt8.ofNat (16 * x + y)]⟩) (wr.alloc (.cells #[.int .u8 (16 * (x : Int) + (y : Int))] 5)).drew :=
            conv_one (16 * x + y) (16 * x + y) (by omega) (by omega) wr.drew
          obtain ⟨S, hS⟩ : ∃ S, (⟨(rpackK l true k).toArray⟩ : ByteArray) = S := ⟨_, rfl⟩
          obtain ⟨C, hC⟩ : ∃ C, (⟨#[UInt8.ofNat (16 * x + y)]⟩ : ByteArray) = C := ⟨_, rfl⟩
          have hSz : S.size ≤ 100 := by
            rw [← hS]; show (rpackK l true k).toArray.size ≤ 100; have := HQ.out; simp [rpackK]; omega
          have hCz : C.size ≤ 1 := by rw [← hC]; exact Nat.le_refl _
          have HN : Hid (S ++ C = ⟨(rpackK l true (k + 1)).toArray⟩) := Lib.hid (by
            rw [← hS, ← hC, ba_snoc, rpackK_snoc, HL.out, HP.out, ← HQ.out, show 0 + (2 * k + 1) = q + 1 by have := HQ.out; omega, hxe, hye])
          rw [hC] at hcv
          rw [hS]
          clear hxe hye hS hC
          go_wp2_with fail
          go_region
          all_goals clear hcv
          all_goals go_wp2
          all_goals
            go_roundw
            case rel => exact ⟨k + 1, q + 2, Lib.hid (by have := HQ.out; omega), by omega, by go_num, by rw [HN.out], hB.drew.alloc hB.size _⟩
            case measure => simp [intOf]; omega
        · have HE : Hid (k = l.length / 2) := Lib.hid (by rw [HL.out]; have := HP.out; have := HQ.out; omega)
          go_wp2
          go_ret
          exact ⟨by rw [← HE.out]; rfl, hB⟩

end Ni
end Go.Proofs.YtoeblhdddehemaaDoor

/-
  Plain facts: what is packed is unpacked, what is unpacked is packed.
-/
namespace Go.Proofs.YtoeblhdddehemaaDoor
set_option maxRecDepth 20000
open Go.RowKit

namespace Ni
theorem pairsK_getD (f : List UInt8) (hf : rightB f = true) (k j : Nat) (hj : j < k) : ((pairsK f k).getD j 0).toNat = 16 * (f.getD (2 * j) 0).toNat + (f.getD (2 * j + 1) 0).toNat := by
  have h1 := rightB_getD f hf (2 * j)
  have h2 := rightB_getD f hf (2 * j + 1)
  have e : (pairsK f k).getD j 0 = UInt8.ofNat (16 * (f.getD (2 * j) 0).toNat + (f.getD (2 * j + 1) 0).toNat) := by
    simp [pairsK, List.getD, hj]
  rw [e]
  simp only [UInt8.toNat_ofNat']
  omega
theorem nib_pairs (f : List UInt8) (hf : rightB f = true) (k i : Nat) (hi : i < 2 * k) : nibAt ⟨(pairsK f k).toArray⟩ i = (f.getD i 0).toNat := by
  have h1 := rightB_getD f hf (2 * (i / 2))
  have h2 := rightB_getD f hf (2 * (i / 2) + 1)
  have e := pairsK_getD f hf k (i / 2) (by omega)
  unfold nibAt
  show (if i % 2 = 0 then ((pairsK f k).getD (i / 2) 0).toNat / 16 else ((pairsK f k).getD (i / 2) 0).toNat % 16) = _
  rw [e]
  by_cases h : i % 2 = 0
  · rw [if_pos h]
    have e2 : 2 * (i / 2) = i := by omega
    rw [e2] at h1 h2 ⊢
    omega
  · rw [if_neg h]
    have e2 : 2 * (i / 2) + 1 = i := by omega
    rw [e2] at h2 ⊢
    omega
theorem list_ext_toNat {a b : List UInt8} (hl : a.length = b.length) (h : ∀ i, i < a.length → (a.getD i 0).toNat = (b.getD i 0).toNat) : a = b := by
  apply List.ext_getElem hl
  intro i h1 h2
  have := h i h1
  simp only [List.getD, List.getElem?_eq_getElem h1, List.getElem?_eq_getElem h2, Option.getD_some] at this
  exact UInt8.toNat_inj.1 this
theorem nibs_pairs (f : List UInt8) (hf : rightB f = true) (k : Nat) (hk : f.length = 2 * k) : nibsL ⟨(pairsK f k).toArray⟩ = f := by
  have hs : (⟨(pairsK f k).toArray⟩ : ByteArray).size = k := by show (pairsK f k).toArray.size = k; simp [pairsK]
  apply list_ext_toNat
  · rw [nibsL_length, hs, hk]
  · intro i hi
    rw [nibsL_length, hs] at hi
    rw [nibsL_getD _ _ (by rw [hs]; exact hi), nib_pairs f hf k i hi]
theorem pairs_nibs (s : ByteArray) : pairsK (nibsL s) s.size = s.data.toList := by
  apply list_ext_toNat
  · rw [pairsK_length]; simp
  · intro j hj
    rw [pairsK_length] at hj
    rw [pairsK_getD _ (nibsL_right s) _ _ hj, nibsL_getD s _ (by omega), nibsL_getD s _ (by omega)]
    unfold nibAt
    rw [if_pos (by omega), if_neg (by omega), show 2 * j / 2 = j by omega, show (2 * j + 1) / 2 = j by omega]
    omega

theorem packL_size (l : List UInt8) (leaf : Bool) : (⟨(packL l leaf).toArray⟩ : ByteArray).size = l.length / 2 + 1 := by
  show (packL l leaf).toArray.size = _
  simp [packL, pairsK]
theorem nibs_pack (l : List UInt8) (leaf : Bool) (hr : rightB l = true) : nibsL ⟨(packL l leaf).toArray⟩ = fullL l leaf :=
  nibs_pairs _ (fullL_right l leaf hr) _ (fullL_length l leaf)
theorem nibAt_pack (l : List UInt8) (leaf : Bool) (hr : rightB l = true) (i : Nat) (hi : i < 2) : nibAt ⟨(packL l leaf).toArray⟩ i = ((fullL l leaf).getD i 0).toNat :=
  nib_pairs _ (fullL_right l leaf hr) _ _ (by omega)
/-- what was packed is a hex-prefix -/
theorem pack_good (l : List UInt8) (leaf : Bool) (hr : rightB l = true) (hl : l.length ≤ 64) : ¬ Bad ⟨(packL l leaf).toArray⟩ := by
  unfold Bad
  rw [nibAt_pack l leaf hr 0 (by omega), nibAt_pack l leaf hr 1 (by omega), full_0, full_1, packL_size]
  unfold markN
  cases leaf <;> simp only [if_true, if_false, Bool.false_eq_true] <;> split <;> omega
theorem pack_leaf (l : List UInt8) (leaf : Bool) (hr : rightB l = true) : leafB ⟨(packL l leaf).toArray⟩ = leaf := by
  unfold leafB
  rw [nibAt_pack l leaf hr 0 (by omega), full_0]
  unfold markN
  cases leaf <;> simp <;> omega
theorem pack_path (l : List UInt8) (leaf : Bool) (hr : rightB l = true) : pathL ⟨(packL l leaf).toArray⟩ = l := by
  unfold pathL
  rw [nibAt_pack l leaf hr 0 (by omega), full_0, nibs_pack l leaf hr]
  have hm : markN l.length leaf % 2 = l.length % 2 := by unfold markN; cases leaf <;> simp
  rw [hm]
  unfold fullL
  by_cases h : l.length % 2 = 1
  · rw [if_pos h, h]
    cases l with
    | nil => simp at h
    | cons x r => simp
  · rw [if_neg h, show l.length % 2 = 0 by omega]
    simp

theorem nibs_two (s : ByteArray) (h : 0 < s.size) : ∃ a b r, nibsL s = a :: b :: r ∧ a.toNat = nibAt s 0 ∧ b.toNat = nibAt s 1 := by
  have h1 := nibsL_length s
  have h2 := nibsL_getD s 0 (by omega)
  have h3 := nibsL_getD s 1 (by omega)
  cases e : nibsL s with
  | nil => rw [e] at h1; simp at h1; omega
  | cons a t =>
    cases t with
    | nil => rw [e] at h1; simp at h1; omega
    | cons b r =>
      rw [e] at h2 h3
      exact ⟨a, b, r, rfl, by simpa using h2, by simpa using h3⟩
theorem path_right (s : ByteArray) : rightB (pathL s) = true := by
  have h := nibsL_right s
  unfold rightB at h ⊢
  rw [List.all_eq_true] at h ⊢
  exact fun x hx => h x (List.mem_of_mem_drop hx)
theorem path_length (s : ByteArray) : (pathL s).length = 2 * s.size - (2 - nibAt s 0 % 2) := by
  unfold pathL; rw [List.length_drop, nibsL_length]
theorem path_le (s : ByteArray) (hb : ¬ Bad s) : (pathL s).length ≤ 64 := by
  rw [path_length]; unfold Bad at hb; omega
/-- what was unpacked is packed again -/
theorem unpack_full (s : ByteArray) (h : 0 < s.size) (hb : ¬ Bad s) : fullL (pathL s) (leafB s) = nibsL s := by
  obtain ⟨a, b, r, e, ha, hb'⟩ := nibs_two s h
  have hl := path_length s
  have hm3 : nibAt s 0 ≤ 3 := by unfold Bad at hb; omega
  have hmk : markN (pathL s).length (leafB s) = nibAt s 0 := by
    unfold markN leafB
    rw [hl]
    by_cases h2 : nibAt s 0 / 2 % 2 = 1
    · simp only [h2, decide_true, if_true]; omega
    · simp only [h2, decide_false, Bool.false_eq_true, if_false]; omega
  have ea : UInt8.ofNat (nibAt s 0) = a := by rw [← ha]; simp
  unfold fullL
  rw [hmk, ea, e]
  by_cases hp : nibAt s 0 % 2 = 1
  · have ho : (pathL s).length % 2 = 1 := by rw [hl]; omega
    rw [if_pos ho, ho, List.take_append_drop]
    unfold pathL
    rw [hp, e]; rfl
  · have ho : (pathL s).length % 2 = 0 := by rw [hl]; omega
    have hb0 : b = 0 := by
      apply UInt8.toNat_inj.1
      rw [hb']; unfold Bad at hb; show nibAt s 1 = 0; omega
    rw [if_neg (by omega), ho]
    unfold pathL
    rw [show nibAt s 0 % 2 = 0 by omega, e, hb0]
    simp
theorem unpack_pack (s : ByteArray) (h : 0 < s.size) (hb : ¬ Bad s) : (⟨(packL (pathL s) (leafB s)).toArray⟩ : ByteArray) = s := by
  have e : packL (pathL s) (leafB s) = s.data.toList := by
    unfold packL
    rw [unpack_full s h hb, ← pairs_nibs s]
    congr 1
    rw [path_length]; omega
  rw [e]
/-- the first byte's two nibbles -/
theorem nib01 (s : ByteArray) (h : 0 < s.size) : nibAt s 0 = s[0].toNat / 16 ∧ nibAt s 1 = s[0].toNat % 16 := by
  unfold nibAt
  rw [if_pos (by omega), if_neg (by omega)]
  exact ⟨by rw [getD_data s _ (by omega)], by rw [getD_data s _ (by omega)]⟩
end Ni
end Go.Proofs.YtoeblhdddehemaaDoor

/-
  Nodes and bytes, plain: what bytes tell of a node, which nodes may be, a node's bytes; back and forth.
-/
namespace Go.Proofs.YtoeblhdddehemaaDoor
set_option maxRecDepth 20000
open Go.RowKit

namespace No
open Rl Ni
/-- the reference that an item stands for -/
def kidP (x : It) : Option ByteArray := if x.l then (if x.bytes.length < 32 then some ⟨x.bytes.toArray⟩ else none) else (if plainB x.s then some x.s else none)
def allK : List It → Option (List ByteArray)
  | [] => some []
  | x :: xs => match kidP x with
    | none => none
    | some k => match allK xs with
      | none => none
      | some ks => some (k :: ks)
def one16 (k : ByteArray) : List ByteArray := k :: List.replicate 15 eB
instance (s : ByteArray) : Decidable (Bad s) := by unfold Bad; infer_instance
def readPathP (x0 x1 : It) : Option Nd :=
  if x0.s.size = 0 ∨ Bad x0.s then none else
  if leafB x0.s then some ⟨1, pathL x0.s, x1.s, zks⟩ else (kidP x1).map fun k => ⟨2, pathL x0.s, eB, one16 k⟩
def readBranchP (xs : List It) : Option Nd :=
  match allK (xs.take 16) with
  | none => none
  | some ks => if (xs.getD 16 it0).l = false ∧ (xs.getD 16 it0).s.size = 0 then some ⟨3, [], eB, ks⟩ else none
def readP (xs : List It) : Option Nd := if xs.length = 2 then readPathP (xs.getD 0 it0) (xs.getD 1 it0) else if xs.length = 17 then readBranchP xs else none

/-- has a node what its kind asks for? -/
def fitsW (R : ByteArray → Bool) (n : Nd) : Bool :=
  if n.kd = 1 then decide (n.v.size ≠ 0) && decide (n.v.size ≤ 65552) && decide ((kidsL n.ks).length = 0) else
  if n.kd = 2 then decide (0 < n.p.length) && decide (n.v.size = 0) && decide ((kidsL n.ks).length = 1) && decide ((n.ks.getD 0 eB).size ≠ 0) && R (n.ks.getD 0 eB) else
  if n.kd = 3 then decide (n.p.length = 0) && decide (n.v.size = 0) && decide (2 ≤ (kidsL n.ks).length) && (kidsL n.ks).all R else false
def mayW (R : ByteArray → Bool) (n : Nd) : Bool := decide (n.p.length ≤ 64) && rightB n.p && fitsW R n
theorem fitsW_congr {R R' : ByteArray → Bool} {n : Nd} (h : ∀ k ∈ n.ks, R k = R' k) (hl : n.ks.length = 16) : fitsW R n = fitsW R' n := by
  unfold fitsW
  have h0 : R (n.ks.getD 0 eB) = R' (n.ks.getD 0 eB) := by
    apply h
    rw [List.getD_eq_getElem?_getD, List.getElem?_eq_getElem (by omega)]
    exact List.getElem_mem _
  have h1 : (kidsL n.ks).all R = (kidsL n.ks).all R' := by
    rw [Bool.eq_iff_iff, List.all_eq_true, List.all_eq_true]
    constructor
    · intro g k hk; rw [← h k (List.mem_filter.1 hk).1]; exact g k hk
    · intro g k hk; rw [h k (List.mem_filter.1 hk).1]; exact g k hk
  rw [h0, h1]
theorem mayW_congr {R R' : ByteArray → Bool} {n : Nd} (h : ∀ k ∈ n.ks, R k = R' k) (hl : n.ks.length = 16) : mayW R n = mayW R' n := by
  unfold mayW
  rw [fitsW_congr h hl]

/-- the node that bytes are -/
def getP (s : List UInt8) : Option Nd :=
  match wholeL s with
  | .error _ => none
  | .ok x => match readP x.xs with
    | none => none
    | some n => if mayW (fun k => plainB k || (if _h : k.size < 32 ∧ k.size < s.length then (getP k.data.toList).isSome else false)) n then some n else none
termination_by s.length
decreasing_by
  rw [len_s]
  exact _h.2
/-- is a text a reference? -/
def refP (k : ByteArray) : Bool := plainB k || (decide (k.size < 32) && (getP k.data.toList).isSome)

theorem whole_back {s : List UInt8} {x : It} (hs : s.length ≤ 4294967296) (h : wholeL s = .ok x) : x.bytes = s ∧ Fits 0 x ∧ x.size ≤ 4096 := by
  unfold wholeL at h
  cases hr : readL s 0 0 with
  | error c => rw [hr] at h; cases h
  | ok q =>
    obtain ⟨y, n, k⟩ := q
    rw [hr] at h
    dsimp only at h
    by_cases hn : n < s.length
    · rw [if_pos hn] at h; cases h
    · rw [if_neg hn] at h
      obtain rfl := ok_inj h
      obtain ⟨g1, g2, g3⟩ := (back s.length hs).1 _ _ _ _ _ _ (Nat.le_refl _) hr
      obtain ⟨p1, p2, p3, p4⟩ := (props s.length).1 _ _ _ _ _ _ (Nat.le_refl _) hr
      refine ⟨?_, g2, by omega⟩
      rw [g1, List.take_of_length_le (by omega)]
theorem flatten_le {xs : List It} {x : It} (h : x ∈ xs) : x.bytes.length ≤ ((xs.map It.bytes).flatten).length := by
  induction xs with
  | nil => cases h
  | cons y ys ih =>
    rw [List.map_cons, List.flatten_cons, List.length_append]
    rcases List.mem_cons.1 h with rfl | h
    · omega
    · have := ih h; omega
theorem bytes_len {d : Nat} {x : It} (h : Fits d x) (hb : x.bytes.length ≤ 4294967296) : x.l = true → x.bytes.length = (headL ((x.xs.map It.bytes).flatten).length true).length + ((x.xs.map It.bytes).flatten).length := by
  intro hl
  cases h with
  | mk ha hs hx hy =>
    rename_i l s xs
    obtain rfl : l = true := hl
    obtain rfl := hs rfl
    have hi := inner_le (.mk true ⟨#[]⟩ xs)
    rw [inner_mk] at hi
    rw [bytes_list xs (Nat.le_trans hi hb), List.length_append]
    rfl
theorem has_list {d : Nat} {x : It} (h : Fits d x) (hx : x.xs ≠ []) : x.l = true := by
  cases h with
  | mk ha hs hx' hy =>
    rename_i l s xs
    cases l with
    | true => rfl
    | false => exact absurd (hx' rfl) hx
theorem in_less {d : Nat} {x y : It} (h : Fits d x) (hb : x.bytes.length ≤ 4294967296) (hy : y ∈ x.xs) : y.bytes.length < x.bytes.length := by
  have hl := has_list h (by intro e; rw [e] at hy; cases hy)
  have h1 := bytes_len h hb hl
  have h2 := flatten_le hy
  have h3 := headL_length ((x.xs.map It.bytes).flatten).length true
  omega
theorem fits_in {d : Nat} {x y : It} (h : Fits d x) (hy : y ∈ x.xs) : Fits (d + 1) y := by
  cases h with
  | mk ha hs hx h => exact h y hy
theorem kidP_size {x : It} {k : ByteArray} (h : kidP x = some k) : plainB k = true ∨ k.size = x.bytes.length ∧ k.size < 32 := by
  unfold kidP at h
  split at h
  · split at h
    · rename_i h1
      obtain rfl := Option.some.inj h
      exact .inr ⟨ba_size _, by rw [ba_size]; exact h1⟩
    · cases h
  · split at h
    · rename_i h1
      obtain rfl := Option.some.inj h
      exact .inl h1
    · cases h
theorem allK_mem : ∀ {xs : List It} {ks : List ByteArray}, allK xs = some ks → ks.length = xs.length ∧ ∀ k ∈ ks, ∃ x ∈ xs, kidP x = some k
  | [], ks, h => by
    obtain rfl := Option.some.inj h
    exact ⟨rfl, fun k hk => by cases hk⟩
  | x :: xs, ks, h => by
    unfold allK at h
    split at h
    · cases h
    · rename_i k hk
      split at h
      · cases h
      · rename_i ks' hks
        obtain rfl := Option.some.inj h
        obtain ⟨h1, h2⟩ := allK_mem hks
        refine ⟨by simp [h1], fun j hj => ?_⟩
        rcases List.mem_cons.1 hj with rfl | hj
        · exact ⟨x, List.mem_cons_self .., hk⟩
        · obtain ⟨y, hy, e⟩ := h2 j hj
          exact ⟨y, List.mem_cons_of_mem _ hy, e⟩
theorem eB_plain : plainB eB = true := decide_eq_true (.inl rfl)
theorem one16_length (k : ByteArray) : (one16 k).length = 16 := by simp [one16]
theorem getD_mem' {xs : List It} {i : Nat} (h : i < xs.length) : xs.getD i it0 ∈ xs := by
  rw [List.getD_eq_getElem?_getD, List.getElem?_eq_getElem h]
  exact List.getElem_mem _
/-- of a node that was read -/
theorem readP_kids {xs : List It} {n : Nd} (h : readP xs = some n) : n.ks.length = 16 ∧ ∀ k ∈ n.ks, plainB k = true ∨ ∃ x ∈ xs, kidP x = some k := by
  have hz : ∀ k ∈ zks, plainB k = true := fun k hk => by
    rw [List.eq_of_mem_replicate hk]; exact eB_plain
  unfold readP at h
  by_cases h2 : xs.length = 2
  · rw [if_pos h2] at h
    unfold readPathP at h
    split at h
    · cases h
    · split at h
      · obtain rfl := Option.some.inj h
        exact ⟨rfl, fun k hk => .inl (hz k hk)⟩
      · obtain ⟨k, hk, rfl⟩ := Option.map_eq_some_iff.1 h
        refine ⟨one16_length k, fun j hj => ?_⟩
        rcases List.mem_cons.1 hj with rfl | hj
        · exact .inr ⟨_, getD_mem' (by omega), hk⟩
        · rw [List.eq_of_mem_replicate hj]; exact .inl eB_plain
  · rw [if_neg h2] at h
    by_cases h17 : xs.length = 17
    · rw [if_pos h17] at h
      unfold readBranchP at h
      split at h
      · cases h
      · rename_i ks hks
        split at h
        · obtain rfl := Option.some.inj h
          obtain ⟨g1, g2⟩ := allK_mem hks
          refine ⟨by rw [g1, List.length_take]; omega, fun k hk => ?_⟩
          obtain ⟨x, hx, e⟩ := g2 k hk
          exact .inr ⟨x, List.mem_of_mem_take hx, e⟩
        · cases h
    · rw [if_neg h17] at h; cases h
theorem kid_less {s : List UInt8} {x : It} {n : Nd} (hs : s.length ≤ 4294967296) (h : wholeL s = .ok x) (hn : readP x.xs = some n) : n.ks.length = 16 ∧ ∀ k ∈ n.ks, plainB k = true ∨ (k.size < 32 ∧ k.size < s.length) := by
  obtain ⟨g1, g2, g3⟩ := whole_back hs h
  obtain ⟨h1, h2⟩ := readP_kids hn
  refine ⟨h1, fun k hk => ?_⟩
  rcases h2 k hk with hp | ⟨y, hy, e⟩
  · exact .inl hp
  · rcases kidP_size e with hp | ⟨e1, e2⟩
    · exact .inl hp
    · have := in_less g2 (by rw [g1]; exact hs) hy
      rw [g1] at this
      exact .inr ⟨e2, by omega⟩
theorem getP_eq (s : List UInt8) (hs : s.length ≤ 4294967296) : getP s = match wholeL s with
    | .error _ => none
    | .ok x => match readP x.xs with
      | none => none
      | some n => if mayW refP n then some n else none := by
  rw [getP]
  cases hw : wholeL s with
  | error c => rfl
  | ok x =>
    dsimp only
    cases hn : readP x.xs with
    | none => rfl
    | some n =>
      dsimp only
      obtain ⟨h1, h2⟩ := kid_less hs hw hn
      rw [mayW_congr (R' := refP) (fun k hk => ?_) h1]
      unfold refP
      rcases h2 k hk with hp | hb
      · rw [hp]; rfl
      · rw [dif_pos hb]
        simp [hb.1]
theorem getP_some {s : List UInt8} (hs : s.length ≤ 4294967296) {n : Nd} (h : getP s = some n) : ∃ x, wholeL s = .ok x ∧ readP x.xs = some n ∧ mayW refP n = true := by
  rw [getP_eq s hs] at h
  split at h
  · cases h
  · rename_i x hw
    split at h
    · cases h
    · rename_i m hm
      split at h
      · rename_i hmay
        obtain rfl := Option.some.inj h
        exact ⟨x, hw, hm, hmay⟩
      · cases h
end No
end Go.Proofs.YtoeblhdddehemaaDoor

/-
  Contracts of node.teller, of what it makes, of node.readPath.
-/
namespace Go.Proofs.YtoeblhdddehemaaDoor
set_option maxRecDepth 20000
open Go.RowKit

namespace No
open Rl Ni
theorem fits_mono (x : It) : ∀ {d e : Nat}, Fits d x → e ≤ d → Fits e x := by
  induction x using It.ind with
  | h l s xs ih =>
    intro d e h he
    cases h with
    | mk ha hs hx hy => exact .mk (by omega) hs hx (fun y hm => ih y hm (hy y hm) (by omega))
theorem ntell_any (a : Option Addr) (n cap : Nat) (w : World) :
    Calls Tryd.prog 97 #[.slice a n cap] w fun e w' => e = .returned (.func (Fn.func 110) #[] #[.pointer (some ⟨w.heap.size, 0, none⟩)]) ∧ w' = w.alloc (.cells #[.slice a n cap] 61) := by
  go_enter Tryd.func97, Tryd.ntmps97
  go_wp2
  go_ret
  exact ⟨rfl, rfl⟩

theorem plain_q (s : ByteArray) (w : World) : Calls Tryd.prog 48 #[.string s] w fun e w' => e = .returned (.bool (plainB s)) ∧ w' = w.drewN 0 := by
  refine (plain_any s w).mono ?_
  rintro e w' ⟨rfl, rfl⟩
  exact ⟨rfl, rfl⟩
/-- a reference is handed back, or that there is none -/
def KidPost (w : World) (x : It) (e : Ending) (w' : World) : Prop := ∃ (s : ByteArray) (b : Bool), e = .returned (.tuple #[.string s, .bool b]) ∧ (b = true ∧ kidP x = some s ∨ b = false ∧ kidP x = none) ∧ Below w.heap.size w w'

set_option maxHeartbeats 4000000 in
theorem ntell1_any (c i : Nat) (xs : List It) (a : Option Addr) (n cap : Nat) (x : It) (w : World) (hc : w.cell? ⟨c, 0, none⟩ = some (.slice a n cap)) (h : IsIts w xs a n cap) (hx : xs[i]? = some x) (hF : Fits 0 x) (hk : x.size ≤ 4096) (hb : x.bytes.length ≤ 4294967296) :
    Calls Tryd.prog 110 #[.int .i64 i, .pointer (some ⟨c, 0, none⟩)] w (KidPost w x) := by
  have hm := h.max
  have hnc := h.le
  unfold maxLen at hm
  have hi : i < n := by rw [← h.len]; exact (List.getElem?_eq_some_iff.1 hx).1
  obtain ⟨y, b, off, A, N, C, hy, rfl, hblt, hL, hI⟩ := h.at' i hi
  obtain rfl := Option.some.inj (hx.symm.trans hy)
  have hclt := World.block_lt_of_cell? w _ hc
  obtain ⟨e0, e1, e2⟩ := hL
  have hO : Rg.Own (w.alloc (.cells #[.bool x.l, .string x.s, .slice A N C] 63)) w.heap.size (itC x A N C) 63 := Rg.Own.new _ _ _
  have HB : Hid (Below w.heap.size w (w.alloc (.cells #[.bool x.l, .string x.s, .slice A N C] 63))) := Lib.hid (al1 _ _)
  cases hl : x.l with
  | false =>
    have HK : Hid (kidP x = if plainB x.s then some x.s else none) := Lib.hid (by unfold kidP; rw [hl]; rfl)
    have HP := Lib.hid (fun w => plain_q x.s w)
    rw [hl] at e0 hO HB
    obtain ⟨f0, f1, f2⟩ := lies_row hO.2
    rw [hl] at f0
    clear h hI hx hy hF hk hb hO
    go_enter Tryd.func110, Tryd.ntmps110
    go_wp2
    go_quiet ((go_at_call 48; exact Calls.quiet_of_same (HP.out _)))
    go_wp2
    go_ret2
    refine ⟨x.s, plainB x.s, rfl, ?_, below_drewN HB.out _⟩
    rw [HK.out]
    cases plainB x.s
    · exact .inr ⟨rfl, rfl⟩
    · exact .inl ⟨rfl, rfl⟩
  | true =>
    have HK : Hid (kidP x = if x.bytes.length < 32 then some ⟨x.bytes.toArray⟩ else none) := Lib.hid (by unfold kidP; rw [hl]; rfl)
    have HPut := Lib.hid (fun w1 (hb1 : Below w.heap.size w w1) => put_any x w1 (itV x A N C) ⟨A, N, C, rfl, hI.stays hb1⟩ hF hk (by omega))
    have HS : Hid ((⟨x.bytes.toArray⟩ : ByteArray).size = x.bytes.length) := Lib.hid (ba_size _)
    have HBl := Lib.hid hb
    unfold itV at HPut
    rw [hl] at e0 hO HB HPut
    obtain ⟨f0, f1, f2⟩ := lies_row hO.2
    rw [hl] at f0
    have g0 := (HB.out.cell (p := ⟨b, off + i * 3, none⟩) hblt).trans e0
    have g1 := (HB.out.cell (p := ⟨b, off + i * 3 + 1, none⟩) hblt).trans e1
    have g2 := (HB.out.cell (p := ⟨b, off + i * 3 + 2, none⟩) hblt).trans e2
    have gc := (HB.out.cell (p := ⟨c, 0, none⟩) hclt).trans hc
    obtain ⟨X, hX⟩ : ∃ X, (⟨x.bytes.toArray⟩ : ByteArray) = X := ⟨_, rfl⟩
    have hxs : X.size = x.bytes.length := by rw [← hX]; exact HS.out
    rw [hX] at HPut HK
    have hxb : X.size ≤ 4294967296 := by omega
    rw [← hxs] at HK
    clear h hI hx hy hF hk hb hO HS HBl hxs hX
    go_enter Tryd.func110, Tryd.ntmps110
    go_wp2_with fail
    refine (HPut.out _ HB.out).mono ?_
    rintro e w1 ⟨rfl, hb1⟩
    have HB1 := Lib.hid (below_step' HB.out hb1)
    clear hb1 HPut e0 e1 e2 f0 f1 f2 g0 g1 g2 gc hc
    by_cases h32 : X.size < 32
    · have hd : decide ((X.size : Int) < 32) = true := by simp; omega
      go_wp2
      go_ret2
      exact ⟨X, true, rfl, .inl ⟨rfl, by rw [HK.out, if_pos h32]⟩, HB1.out⟩
    · have hd : decide ((X.size : Int) < 32) = false := by simp; omega
      go_wp2
      go_ret2
      exact ⟨X, false, rfl, .inr ⟨rfl, by rw [HK.out, if_neg h32]⟩, HB1.out⟩
end No
end Go.Proofs.YtoeblhdddehemaaDoor
