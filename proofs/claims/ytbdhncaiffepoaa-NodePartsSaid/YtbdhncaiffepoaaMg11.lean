/-
  Whether nodes are the same: contracts of slices.Equal over bytes, node.Same, the plain answers' Same; the plain Same over texts.
-/
import Derived.Test.YtbdhncaiffepoaaMg4
import Derived.BigQuiet
import Derived.Laws.StructEq
import Derived.ChangeKeysEq
import Derived.Test.YtbdhncaiffepoaaMg5
import Derived.Test.YtbdhncaiffepoaaMg1
import Derived.Maps.AppendAt
import Derived.Test.YtbdhncaiffepoaaMg9
import Derived.Test.YtbdhncaiffepoaaMg10
import Derived.Test.YtbdhncaiffepoaaMg8
namespace Go.Proofs.Ytbdhncaiffepoaa
set_option maxRecDepth 20000
open Go.RowKit

namespace No
open Rl (sameB sameB_true sameB_false text_ne)
theorem list_toNat {a b : List UInt8} (hl : a.length = b.length) (h : ∀ i, i < a.length → (a.getD i 0).toNat = (b.getD i 0).toNat) : a = b := by
  apply List.ext_getElem hl
  intro i h1 h2
  have := h i h1
  simp only [List.getD, List.getElem?_eq_getElem h1, List.getElem?_eq_getElem h2, Option.getD_some] at this
  exact UInt8.toNat_inj.1 this

set_option maxHeartbeats 2000000 in
theorem equalB_any (a b : Option Addr) (n m c d : Nat) (x y : List UInt8) (w : World) (hx : IsBs w a n c x) (hy : IsBs w b m d y) :
    Calls Try.prog 39 #[.slice a n c, .slice b m d] w fun e w' => e = .returned (.bool (sameB x y)) ∧ Below w.heap.size w w' := by
  have hm := hx.2.1
  have hnc := hx.1
  have hm2 := hy.2.1
  have hnc2 := hy.1
  unfold maxLen at hm hm2
  have H1 := Lib.hid hx
  have H2 := Lib.hid hy
  clear hx hy
  by_cases hnm : n = m
  · subst hnm
    go_enter Try.func39, Try.ntmps39
    go_wp2
    go_loopw [13] (fun i wr => ∃ (q : Nat), q ≤ n ∧ i = .int .i64 q ∧ Hid (∀ j, j < q → (x.getD j 0).toNat = (y.getD j 0).toNat) ∧ Below w.heap.size w wr) (fun i _ => n - (intOf i).toNat)
    case atStart => exact ⟨0, Nat.zero_le _, rfl, Lib.hid (fun j hj => absurd hj (Nat.not_lt_zero _)), Below.refl _ _⟩
    case round =>
      obtain ⟨q, hq, rfl, HK, hB⟩ := hrel
      have HB := Lib.hid hB
      clear hB
      by_cases hlt : q < n
      · obtain ⟨b1, off1, rfl, hb1, hc1⟩ := H1.out.at' q hlt
        obtain ⟨b2, off2, rfl, hb2, hc2⟩ := H2.out.at' q hlt
        have e1 : wr.cell? ⟨b1, off1 + q, none⟩ = some (.int .u8 (x.getD q 0).toNat) := by rw [HB.out.cell (p := ⟨b1, off1 + q, none⟩) hb1]; exact hc1
        have e2 : wr.cell? ⟨b2, off2 + q, none⟩ = some (.int .u8 (y.getD q 0).toNat) := by rw [HB.out.cell (p := ⟨b2, off2 + q, none⟩) hb2]; exact hc2
        obtain ⟨u, hu⟩ : ∃ u, (x.getD q 0).toNat = u := ⟨_, rfl⟩
        obtain ⟨v, hv⟩ : ∃ v, (y.getD q 0).toNat = v := ⟨_, rfl⟩
        have HU := Lib.hid hu
        have HV := Lib.hid hv
        rw [hu] at e1
        rw [hv] at e2
        clear hc1 hc2 hu hv
        by_cases huv : u = v
        · have HK' : Hid (∀ j, j < q + 1 → (x.getD j 0).toNat = (y.getD j 0).toNat) := Lib.hid (fun j hj => by
            by_cases e : j = q
            · subst e; rw [HU.out, HV.out, huv]
            · exact HK.out j (by omega))
          subst huv
          go_wp2_with (go_quiet (fail))
          go_roundw
          case rel => exact ⟨q + 1, by omega, by go_num, Lib.hid HK'.out, below_drewN HB.out _⟩
          case measure => simp [intOf]; omega
        · have hne : ((u : Int) != (v : Int)) = true := by simp; omega
          have HN : Hid (x ≠ y) := Lib.hid (by
            rintro rfl
            exact huv (HU.out.symm.trans HV.out))
          go_wp2_with (go_quiet (fail))
          go_ret
          exact ⟨by rw [sameB_false HN.out]; rfl, below_drewN HB.out _⟩
      · obtain rfl : q = n := by omega
        have HE : Hid (x = y) := Lib.hid (list_toNat (by rw [H1.out.len, H2.out.len]) (fun j hj => HK.out j (by rw [← H1.out.len]; exact hj)))
        go_wp2
        go_ret
        exact ⟨by rw [sameB_true HE.out]; rfl, HB.out⟩
  · have HE : Hid (x ≠ y) := Lib.hid (by
      rintro rfl
      exact hnm (H1.out.len.symm.trans H2.out.len))
    have hd : ((n : Int) != (m : Int)) = true := by simp; omega
    go_enter Try.func39, Try.ntmps39
    go_wp2
    go_ret
    exact ⟨by rw [sameB_false HE.out]; rfl, Below.refl _ _⟩
theorem sameB_eq {α : Type} (x y : α) (P : Prop) [Decidable P] (h : P ↔ x = y) : sameB x y = decide P := by
  by_cases hp : P
  · rw [sameB_true (h.1 hp)]; simp [hp]
  · rw [sameB_false (fun e => hp (h.2 e))]; simp [hp]
theorem items_st (ks ls : List ByteArray) (w : World) (d : Nat) : ∀ is : List Nat, (∀ i ∈ is, i < ks.length ∧ i < ls.length) →
    (Op.eqItems (d + 1) 9 1 (kidC ks) (kidC ls) is).run Try.prog w = .ok (is.all fun i => (ks.getD i eB).toList == (ls.getD i eB).toList) w
  | [], _ => by simp [Op.eqItems]
  | i :: is, h => by
    have ih := items_st ks ls w d is (fun j hj => h j (List.mem_cons_of_mem _ hj))
    have h1 := part_st ks i (h i (List.mem_cons_self ..)).1 w
    have h2 := part_st ls i (h i (List.mem_cons_self ..)).2 w
    unfold Op.eqItems
    rw [Nat.mul_one]
    simp only [Sem.run_bind, h1, h2, Result.andThen_ok, run_equalIn_string w d 9 _ _ Try.underlying9, List.all_cons]
    cases (ks.getD i eB).toList == (ls.getD i eB).toList
    · simp
    · simpa using ih
theorem toList_inj {a b : ByteArray} : (a.toList == b.toList) = true ↔ a = b := by
  constructor
  · intro h
    by_cases e : a = b
    · exact e
    · rw [text_ne e] at h; cases h
  · rintro rfl
    simp
theorem all_st (ks ls : List ByteArray) (h1 : ks.length = 16) (h2 : ls.length = 16) : ((List.range 16).all fun i => (ks.getD i eB).toList == (ls.getD i eB).toList) = sameB ks ls := by
  by_cases e : ks = ls
  · rw [sameB_true e, e]
    simp
  · rw [sameB_false e]
    rw [List.all_eq_false]
    apply Classical.byContradiction
    intro hn
    apply e
    apply List.ext_getElem (h1.trans h2.symm)
    intro i hi hi'
    have : (ks.getD i eB).toList == (ls.getD i eB).toList := by
      apply Classical.byContradiction
      intro hc
      exact hn ⟨i, by simp; omega, by simpa using hc⟩
    have := toList_inj.1 this
    simpa [List.getD, hi, hi'] using this
theorem eql_ks (ks ls : List ByteArray) (h1 : ks.length = 16) (h2 : ls.length = 16) (w : World) : (binOp .eql 23 (.agg (kidC ks)) (.agg (kidC ls))).run Try.prog w = .ok (.bool (sameB ks ls)) w := by
  obtain ⟨i0, hi, _⟩ := info_st_parts
  rw [run_eql_struct, show (10000 : Nat) = 9999 + 1 from rfl, run_equalIn_array w 9999 (kidC ks) (kidC ls) Try.underlying23 hi, cells_st, items_st ks ls w 9998 (List.range 16) (fun i h => by
    have : i < 16 := by simpa using h
    omega), all_st ks ls h1 h2]
  rfl
theorem op_eql_ks {ev : Operand → Value} {o : Oper} {w : World} {ks ls : List ByteArray} (h1 : ks.length = 16) (h2 : ls.length = 16) (h : ∃ x y, o.op = .binOp .eql 23 x y 23 ∧ ev x = .agg (kidC ks) ∧ ev y = .agg (kidC ls)) :
    (execOp ev o).run Try.prog w = .ok (.value (.bool (sameB ks ls))) w := by
  obtain ⟨x, y, ho, hx, hy⟩ := h
  unfold execOp
  simp [ho, hx, hy, run_eqGuard_agg, eql_ks ks ls h1 h2 w, Result.andThen]

theorem op_eql_st {ev : Operand → Value} {o : Oper} {w : World} (s : ByteArray) (h : ∃ x y, o.op = .binOp .eql 9 x y 9 ∧ ev x = .string s ∧ ev y = .string s) :
    (execOp ev o).run Try.prog w = .ok (.value (.bool true)) w := by
  obtain ⟨x, y, ho, hx, hy⟩ := h
  have : (binOp .eql 9 (.string s) (.string s)).run Try.prog w = .ok (.bool true) w := by
    unfold binOp
    simp [go_sem, Op.stringOp]
  unfold execOp
  simp [ho, hx, hy, go_sem]
/-- two nodes' blocks -/
theorem two_nodes (w : World) (N M : Nd) (a b : Option Addr) (n m c d : Nat) : ∃ w2, w2 = (w.alloc (.cells (ndC N a n c) 25)).alloc (.cells (ndC M b m d) 25) ∧ OwnN w2 w.heap.size N a n c ∧ OwnN w2 (w.heap.size + 1) M b m d ∧ Below w.heap.size w w2 := by
  refine ⟨_, rfl, (Rg.Own.new _ _ _).below (al1 _ _), ?_, al2 _ _ _⟩
  have := Rg.Own.new (w.alloc (.cells (ndC N a n c) 25)) (ndC M b m d) 25
  simpa using this
theorem nd_ne {N M : Nd} (h : N.kd ≠ M.kd ∨ N.p ≠ M.p ∨ N.v ≠ M.v ∨ N.ks ≠ M.ks) : N ≠ M := by
  rintro rfl
  simp at h
theorem nd_eq {N M : Nd} (h0 : N.kd = M.kd) (h1 : N.p = M.p) (h2 : N.v = M.v) (h3 : N.ks = M.ks) : N = M := by
  cases N; cases M
  simp at h0 h1 h2 h3
  rw [h0, h1, h2, h3]

set_option maxHeartbeats 4000000 in
theorem same_any (N M : Nd) (u v : Value) (w : World) (hx : IsNd w N u) (hy : IsNd w M v) :
    Calls Try.prog 20 #[u, v] w fun e w' => e = .returned (.bool (sameB N M)) ∧ Below w.heap.size w w' := by
  obtain ⟨a, n, c, rfl, hx, hl⟩ := hx
  obtain ⟨b, m, d, rfl, hy, hl2⟩ := hy
  obtain ⟨w2, hw2, h1, h2, hb⟩ := two_nodes w N M a b n m c d
  obtain ⟨c0, c1, c2⟩ := nd_cells h1
  obtain ⟨d0, d1, d2⟩ := nd_cells h2
  have HE := Lib.hid (equalB_any a b n m c d N.p M.p w2 (hx.below hb) (hy.below hb))
  have HL := Lib.hid hl
  have HL2 := Lib.hid hl2
  have HB := Lib.hid hb
  have H1 := Lib.hid h1
  have H2 := Lib.hid h2
  clear hx hy hl hl2 hb h1 h2
  subst hw2
  by_cases e0 : N.kd = M.kd
  · by_cases e1 : N.p = M.p
    · rw [sameB_true e1] at HE
      by_cases e2 : N.v = M.v
      · have HS : Hid (sameB N.ks M.ks = sameB N M) := Lib.hid (by
          by_cases e3 : N.ks = M.ks
          · rw [sameB_true e3, sameB_true (nd_eq e0 e1 e2 e3)]
          · rw [sameB_false e3, sameB_false (nd_ne (.inr (.inr (.inr e3))))])
        have HV := Lib.hid e2
        rw [e0] at c0
        clear e0 e1 e2
        go_enter Try.func20, Try.ntmps20
        go_wp2_with fail
        refine HE.out.mono ?_
        rintro e w3 ⟨rfl, hb3⟩
        have HO1 := Lib.hid (H1.out.below hb3)
        have HO2 := Lib.hid (H2.out.below hb3)
        have HB3 := Lib.hid (below_step' HB.out hb3)
        obtain ⟨_, _, f2⟩ := nd_cells HO1.out
        obtain ⟨_, _, g2⟩ := nd_cells HO2.out
        rw [HV.out] at f2
        clear c0 c1 c2 d0 d1 d2 hb3
        go_wp2_with (first
          | (refine Rg.runW (by rfl) _ _ (op_load_ks HO1.out HL.out ?_) ?_; · exact ⟨_, rfl, rfl⟩)
          | (refine Rg.runW (by rfl) _ _ (op_load_ks HO2.out HL2.out ?_) ?_; · exact ⟨_, rfl, rfl⟩)
          | (refine Rg.runW (by rfl) _ _ (op_eql_ks HL.out HL2.out ?_) ?_; · exact ⟨_, _, rfl, rfl, rfl⟩))
        go_ret
        exact ⟨by rw [← HS.out]; rfl, HB3.out⟩
      · have HS : Hid (sameB N M = false) := Lib.hid (sameB_false (nd_ne (.inr (.inr (.inl e2)))))
        have hne := text_ne e2
        rw [e0] at c0
        clear e0 e1 e2
        go_enter Try.func20, Try.ntmps20
        go_wp2_with fail
        refine HE.out.mono ?_
        rintro e w3 ⟨rfl, hb3⟩
        have HB3 := Lib.hid (below_step' HB.out hb3)
        obtain ⟨_, _, f2⟩ := nd_cells (H1.out.below hb3)
        obtain ⟨_, _, g2⟩ := nd_cells (H2.out.below hb3)
        clear c0 c1 c2 d0 d1 d2 hb3
        go_wp2
        go_ret
        exact ⟨by rw [HS.out]; rfl, HB3.out⟩
    · have HS : Hid (sameB N M = false) := Lib.hid (sameB_false (nd_ne (.inr (.inl e1))))
      rw [sameB_false e1] at HE
      rw [e0] at c0
      clear e0 e1
      go_enter Try.func20, Try.ntmps20
      go_wp2_with fail
      refine HE.out.mono ?_
      rintro e w3 ⟨rfl, hb3⟩
      have HB3 := Lib.hid (below_step' HB.out hb3)
      clear c0 c1 c2 d0 d1 d2 hb3
      go_wp2
      go_ret
      exact ⟨by rw [HS.out]; rfl, HB3.out⟩
  · have HS : Hid (sameB N M = false) := Lib.hid (sameB_false (nd_ne (.inl e0)))
    have hne : (N.kd == M.kd) = false := by simp [e0]
    go_enter Try.func20, Try.ntmps20
    go_wp2
    go_ret
    exact ⟨by rw [HS.out]; rfl, HB.out⟩

set_option maxHeartbeats 4000000 in
theorem rsame_any (N M : Nd) (u v : Value) (w : World) (hx : IsNd w N u) (hy : IsNd w M v) :
    Calls Try.prog 13 #[u, v] w fun e w' => e = .returned (.bool (sameB N M)) ∧ Below w.heap.size w w' := by
  obtain ⟨a, n, c, rfl, hx, hl⟩ := hx
  obtain ⟨b, m, d, rfl, hy, hl2⟩ := hy
  obtain ⟨w2, hw2, h1, h2, hb⟩ := two_nodes w N M a b n m c d
  obtain ⟨c0, c1, c2⟩ := nd_cells h1
  obtain ⟨d0, d1, d2⟩ := nd_cells h2
  have hv1 := conv_bs (hx.below hb)
  have hv2 := conv_bs (hy.below hb)
  have HL := Lib.hid hl
  have HL2 := Lib.hid hl2
  have HB := Lib.hid hb
  have H1 := Lib.hid h1
  have H2 := Lib.hid h2
  clear hx hy hl hl2 hb h1 h2
  subst hw2
  by_cases e0 : N.kd = M.kd
  · by_cases e1 : N.p = M.p
    · rw [e1] at hv1
      by_cases e2 : N.v = M.v
      · have HS : Hid (sameB N.ks M.ks = sameB N M) := Lib.hid (by
          by_cases e3 : N.ks = M.ks
          · rw [sameB_true e3, sameB_true (nd_eq e0 e1 e2 e3)]
          · rw [sameB_false e3, sameB_false (nd_ne (.inr (.inr (.inr e3))))])
        rw [e0] at c0
        rw [e2] at c2
        clear e0 e1 e2
        go_enter Try.func13, Try.ntmps13
        go_wp2_with (first
          | (refine Rg.runW (by rfl) _ _ (op_eql_st M.v ?_) ?_; · exact ⟨_, _, rfl, rfl, rfl⟩)
          | (refine Rg.runW (by rfl) _ _ (op_eql_st ⟨M.p.toArray⟩ ?_) ?_; · exact ⟨_, _, rfl, rfl, rfl⟩)
          | (refine Rg.runW (by rfl) _ _ (op_load_ks H1.out HL.out ?_) ?_; · exact ⟨_, rfl, rfl⟩)
          | (refine Rg.runW (by rfl) _ _ (op_load_ks H2.out HL2.out ?_) ?_; · exact ⟨_, rfl, rfl⟩)
          | (refine Rg.runW (by rfl) _ _ (op_eql_ks HL.out HL2.out ?_) ?_; · exact ⟨_, _, rfl, rfl, rfl⟩))
        go_ret
        exact ⟨by rw [← HS.out]; rfl, HB.out⟩
      · have HS : Hid (sameB N M = false) := Lib.hid (sameB_false (nd_ne (.inr (.inr (.inl e2)))))
        have hne := text_ne e2
        rw [e0] at c0
        clear e0 e1 e2
        go_enter Try.func13, Try.ntmps13
        go_wp2
        go_ret
        exact ⟨by rw [HS.out]; rfl, HB.out⟩
    · have HS : Hid (sameB N M = false) := Lib.hid (sameB_false (nd_ne (.inr (.inl e1))))
      have hpp : (⟨N.p.toArray⟩ : ByteArray) ≠ ⟨M.p.toArray⟩ := fun e => e1 (by
        have := congrArg (fun b : ByteArray => b.data.toList) e
        simpa using this)
      obtain ⟨P1, hP1⟩ : ∃ s, (⟨N.p.toArray⟩ : ByteArray) = s := ⟨_, rfl⟩
      obtain ⟨P2, hP2⟩ : ∃ s, (⟨M.p.toArray⟩ : ByteArray) = s := ⟨_, rfl⟩
      rw [hP1] at hv1 hpp
      rw [hP2] at hv2 hpp
      have hne := text_ne hpp
      clear hpp hP1 hP2
      rw [e0] at c0
      clear e0 e1
      go_enter Try.func13, Try.ntmps13
      go_wp2
      go_ret
      exact ⟨by rw [HS.out]; rfl, HB.out⟩
  · have HS : Hid (sameB N M = false) := Lib.hid (sameB_false (nd_ne (.inl e0)))
    have hne : (N.kd == M.kd) = false := by simp [e0]
    go_enter Try.func13, Try.ntmps13
    go_wp2
    go_ret
    exact ⟨by rw [HS.out]; rfl, HB.out⟩

set_option maxHeartbeats 2000000 in
theorem rsameSt_any (a b : Option Addr) (n m c d : Nat) (x y : List ByteArray) (w : World) (hx : IsSt w a n c x) (hy : IsSt w b m d y) :
    Calls Try.prog 18 #[.slice a n c, .slice b m d] w fun e w' => e = .returned (.bool (sameB x y)) ∧ Below w.heap.size w w' := by
  have hm := hx.2.1
  have hnc := hx.1
  have hm2 := hy.2.1
  have hnc2 := hy.1
  unfold maxLen at hm hm2
  have H1 := Lib.hid hx
  have H2 := Lib.hid hy
  clear hx hy
  by_cases hnm : n = m
  · subst hnm
    go_enter Try.func18, Try.ntmps18
    go_wp2
    go_loopw [5] (fun i wr => ∃ (q : Nat), q ≤ n ∧ i = .int .i64 q ∧ Hid (∀ j, j < q → x.getD j eB = y.getD j eB) ∧ Below w.heap.size w wr) (fun i _ => n - (intOf i).toNat)
    case atStart => exact ⟨0, Nat.zero_le _, rfl, Lib.hid (fun j hj => absurd hj (Nat.not_lt_zero _)), Below.refl _ _⟩
    case round =>
      obtain ⟨q, hq, rfl, HK, hB⟩ := hrel
      have HB := Lib.hid hB
      clear hB
      by_cases hlt : q < n
      · obtain ⟨b1, off1, rfl, hb1, hc1⟩ := H1.out.at' q hlt
        obtain ⟨b2, off2, rfl, hb2, hc2⟩ := H2.out.at' q hlt
        have e1 : wr.cell? ⟨b1, off1 + q, none⟩ = some (.string (x.getD q eB)) := by rw [HB.out.cell (p := ⟨b1, off1 + q, none⟩) hb1]; exact hc1
        have e2 : wr.cell? ⟨b2, off2 + q, none⟩ = some (.string (y.getD q eB)) := by rw [HB.out.cell (p := ⟨b2, off2 + q, none⟩) hb2]; exact hc2
        obtain ⟨u, hu⟩ : ∃ u, x.getD q eB = u := ⟨_, rfl⟩
        obtain ⟨v, hv⟩ : ∃ v, y.getD q eB = v := ⟨_, rfl⟩
        have HU := Lib.hid hu
        have HV := Lib.hid hv
        rw [hu] at e1
        rw [hv] at e2
        clear hc1 hc2 hu hv
        by_cases huv : u = v
        · have HK' : Hid (∀ j, j < q + 1 → x.getD j eB = y.getD j eB) := Lib.hid (fun j hj => by
            by_cases e : j = q
            · subst e; rw [HU.out, HV.out, huv]
            · exact HK.out j (by omega))
          subst huv
          go_wp2_with (go_quiet (fail))
          go_roundw
          case rel => exact ⟨q + 1, by omega, by go_num, Lib.hid HK'.out, below_drewN HB.out _⟩
          case measure => simp [intOf]; omega
        · have hne := text_ne huv
          have HN : Hid (x ≠ y) := Lib.hid (by
            rintro rfl
            exact huv (HU.out.symm.trans HV.out))
          go_wp2_with (go_quiet (fail))
          go_ret
          exact ⟨by rw [sameB_false HN.out]; rfl, below_drewN HB.out _⟩
      · obtain rfl : q = n := by omega
        have HE : Hid (x = y) := Lib.hid (by
          apply List.ext_getElem (by rw [H1.out.len, H2.out.len])
          intro j h1 h2
          have := HK.out j (by rw [← H1.out.len]; exact h1)
          simpa [List.getD, h1, h2] using this)
        go_wp2
        go_ret
        exact ⟨by rw [sameB_true HE.out]; rfl, HB.out⟩
  · have HE : Hid (x ≠ y) := Lib.hid (by
      rintro rfl
      exact hnm (H1.out.len.symm.trans H2.out.len))
    have hd : ((n : Int) != (m : Int)) = true := by simp; omega
    go_enter Try.func18, Try.ntmps18
    go_wp2
    go_ret
    exact ⟨by rw [sameB_false HE.out]; rfl, Below.refl _ _⟩
end No
end Go.Proofs.Ytbdhncaiffepoaa

/-
  The contract of the plain answer's path of a packed text.
-/
namespace Go.Proofs.Ytbdhncaiffepoaa
set_option maxRecDepth 100000
open Go.RowKit

namespace No
open Ni
/-- the path so far -/
def pathJ (s : ByteArray) (j : Nat) : List UInt8 := ((nibsL s).take (2 * j)).drop (2 - nibAt s 0 % 2)
def pcJ (s : ByteArray) (j : Nat) : List Value := (pathJ s j).map fun x => Value.int .u8 x.toNat
theorem take_two (l : List UInt8) (j : Nat) (h : 2 * j + 1 < l.length) : l.take (2 * (j + 1)) = l.take (2 * j) ++ [l.getD (2 * j) 0, l.getD (2 * j + 1) 0] := by
  rw [show 2 * (j + 1) = 2 * j + 1 + 1 by omega, take_snoc_getD l (2 * j + 1) h, take_snoc_getD l (2 * j) (by omega), List.append_assoc]
  rfl
theorem pathJ_step (s : ByteArray) (j : Nat) (h1 : 1 ≤ j) (hj : j < s.size) : pathJ s (j + 1) = pathJ s j ++ [(nibsL s).getD (2 * j) 0, (nibsL s).getD (2 * j + 1) 0] := by
  unfold pathJ
  rw [take_two _ _ (by rw [nibsL_length]; omega), List.drop_append_of_le_length (by rw [List.length_take, nibsL_length]; omega)]
theorem nib_hi (s : ByteArray) (j : Nat) (hj : j < s.size) : nibAt s (2 * j) = (s[j]'hj).toNat / 16 := by
  unfold nibAt
  rw [if_pos (by omega), show 2 * j / 2 = j by omega, getD_data s j hj]
theorem nib_lo (s : ByteArray) (j : Nat) (hj : j < s.size) : nibAt s (2 * j + 1) = (s[j]'hj).toNat % 16 := by
  unfold nibAt
  rw [if_neg (by omega), show (2 * j + 1) / 2 = j by omega, getD_data s j hj]
theorem pcJ_step (s : ByteArray) (j : Nat) (h1 : 1 ≤ j) (hj : j < s.size) (X Y : Int) (hX : X = ((s[j]'hj).toNat / 16 : Nat)) (hY : Y = ((s[j]'hj).toNat % 16 : Nat)) : pcJ s (j + 1) = pcJ s j ++ [.int .u8 X, .int .u8 Y] := by
  unfold pcJ
  rw [pathJ_step s j h1 hj, List.map_append, List.map_cons, List.map_cons, List.map_nil, nibsL_getD _ _ (by omega), nibsL_getD _ _ (by omega), nib_hi s j hj, nib_lo s j hj, hX, hY]
theorem pathJ_length (s : ByteArray) (j : Nat) (hj : j ≤ s.size) : (pathJ s j).length = 2 * j - (2 - nibAt s 0 % 2) := by
  unfold pathJ
  rw [List.length_drop, List.length_take, nibsL_length, Nat.min_eq_left (by omega)]
theorem pathJ_all (s : ByteArray) : pathJ s s.size = pathL s := by
  unfold pathJ pathL
  rw [List.take_of_length_le (by rw [nibsL_length]; exact Nat.le_refl _)]
theorem pathJ_odd (s : ByteArray) (h0 : 0 < s.size) (h : nibAt s 0 % 2 = 1) (X : Int) (hX : X = (nibAt s 1 : Nat)) : pcJ s 1 = [.int .u8 X] := by
  obtain ⟨a, b, r, e, _, hb⟩ := nibs_two s h0
  unfold pcJ pathJ
  rw [e, h, hX, ← hb]
  rfl
theorem pathJ_even (s : ByteArray) (h0 : 0 < s.size) (h : nibAt s 0 % 2 = 0) : pcJ s 1 = [] := by
  obtain ⟨a, b, r, e, _, hb⟩ := nibs_two s h0
  unfold pcJ pathJ
  rw [e, h]
  rfl
/-- what path hands back -/
def PathPost (w : World) (s : ByteArray) (e : Ending) (w' : World) : Prop := ∃ (a : Option Addr) (n c : Nat) (l : List UInt8) (leaf ok : Bool), e = .returned (.tuple #[.slice a n c, .bool leaf, .bool ok]) ∧ BsF w.heap.size w' a n c l ∧
  (ok = true ∧ s.size ≠ 0 ∧ ¬ Bad s ∧ l = pathL s ∧ leaf = leafB s ∨ ok = false ∧ (s.size = 0 ∨ Bad s)) ∧ Below w.heap.size w w'
theorem info_u8p : (Try.prog.info? 5).map (fun i => (i.zero, i.size, i.bytes)) = some (some (.int .u8 0), 1, 1) := by kernel_rfl
/-- two bytes in a new row -/
theorem meetTwo {o : Oper} {a : Act} {w : World} {K : Act → World → Prop} {Q : Exit → Act → World → Prop} {ops : Array Oper} {x y : Int} (hw : Region.wanted o (yielded ops a.tmps) = true)
    (ho : ∃ p q, o.op = .buildSlice 22 2 #[(0, p), (1, q)] ∧ a.eval p = .int .u8 x ∧ a.eval q = .int .u8 y)
    (h : ∀ w' b, b = w.heap.size → Rg.Own w' b #[.int .u8 x, .int .u8 y] 5 → Below w.heap.size w w' → K (a.put o.dst (.slice (some ⟨b, 0, none⟩) 2 2)) w') : if Region.wanted o (yielded ops a.tmps) = true then Oper.wp Try.prog o a w K Q else K (a.put o.dst undef) w := by
  obtain ⟨p, q, ho, hp, hq⟩ := ho
  obtain ⟨i0, hi, hz, hs, hby⟩ := info_parts info_u8p
  refine Rg.want hw (wp_buildSlice 22 5 2 _ ho #[.int .u8 x, .int .u8 y] i0 _ Try.underlying22 hi hz (by rw [hs]; decide) (by rw [hs]; decide) ?_ (h _ _ rfl (Rg.Own.new _ _ _) (al1 _ _)))
  simp only [List.map_toArray, List.map_cons, List.map_nil, hp, hq, hs]
  kernel_rfl
/-- two bytes go behind those that are held -/
theorem meetPush2 {o : Oper} {a : Act} {w : World} {K : Act → World → Prop} {Q : Exit → Act → World → Prop} {ops : Array Oper} {B b2 n : Nat} {v : Value} {xs : List Value} {x y : Int} (hw : Region.wanted o (yielded ops a.tmps) = true)
    (ho : ∃ s z, o.op = .call { callee := .builtin .append, args := #[s, z], argTypes := #[22, 22] } ∧ a.eval s = v ∧ a.eval z = .slice (some ⟨b2, 0, none⟩) 2 2)
    (hR : w.ownsRow B 5 1 v n xs) (h2 : Rg.Own w b2 #[.int .u8 x, .int .u8 y] 5) (hn : n ≤ 4096) (hB : B ≤ w.heap.size)
    (h : ∀ v' w', w'.ownsRow B 5 1 v' (n + 2) (xs ++ [.int .u8 x, .int .u8 y]) → w.grownBy w' v.ownBlock → K (a.put o.dst v') w') : if Region.wanted o (yielded ops a.tmps) = true then Oper.wp Try.prog o a w K Q else K (a.put o.dst undef) w := by
  obtain ⟨s, z, ho, hs, hy⟩ := ho
  obtain ⟨i0, hi, hz, hsz, hby⟩ := info_parts info_u8p
  obtain ⟨v', w', hr, h3, h4, _, h5⟩ := run_append_own_at (P := Try.prog) w B 22 o.type 5 i0 _ 1 1 Try.underlying22 hi hz hsz hby rfl (by decide) v n _ hR ⟨b2, 0, none⟩ 2 2 [.int .u8 x, .int .u8 y] rfl
    (fun j u hu => by
      rw [Addr.add_mid, Nat.zero_add, cell_of_row w b2 _ _ _ _ h2.2]
      simpa using hu)
    (fun u hu => by simp at hu; rcases hu with rfl | rfl <;> rfl) (by unfold maxLen; omega) (by omega) hB
  refine Rg.want hw ?_
  unfold Oper.wp execOp
  simp only [ho, resolve, invoke, builtin, Sem.run_bind, Sem.run_pure, Result.andThen_ok, List.map_toArray, List.map_cons, List.map_nil, hs, hy, hr]
  exact h v' w' h3 h4

set_option maxHeartbeats 4000000 in
theorem rpath_nil (w : World) : Calls Try.prog 36 #[.string eB] w (PathPost w eB) := by
  go_enter Try.func36, Try.ntmps36
  go_wp2
  go_ret3
  exact ⟨none, 0, 0, [], false, false, rfl, BsF.nil _ _, .inr ⟨rfl, .inl rfl⟩, Below.refl _ _⟩
set_option maxHeartbeats 4000000 in
theorem rpath_big (s : ByteArray) (h0 : 0 < s.size) (h : 64 ≤ (s[0]'h0).toNat) (w : World) : Calls Try.prog 36 #[.string s] w (PathPost w s) := by
  have hne := Ni.not_empty h0
  obtain ⟨hn0, hn1⟩ := nib01 s h0
  have HB : Hid (Bad s) := Lib.hid (by
    unfold Bad
    rcases Nat.mod_two_eq_zero_or_one (nibAt s 0) with e | e
    · exact .inl ⟨e, .inr (.inl (by omega))⟩
    · exact .inr ⟨e, .inr (by omega)⟩)
  obtain ⟨C, hC⟩ : ∃ C, (s[0]'h0).toNat = C := ⟨_, rfl⟩
  rw [hC] at h
  have hd : decide (64 ≤ (C : Int)) = true := by simp; omega
  clear hn0 hn1
  go_enter Try.func36, Try.ntmps36
  go_wp2
  go_ret3
  exact ⟨none, 0, 0, [], false, false, rfl, BsF.nil _ _, .inr ⟨rfl, .inr HB.out⟩, Below.refl _ _⟩
theorem wrap_div (x : Nat) (h : x < 256) : IntKind.u8.wrap ((x : Int) / 16) = ((x / 16 : Nat) : Int) := by
  simp [IntKind.wrap, IntKind.bits, IntKind.signed]
  omega
theorem row_stays {B n : Nat} {w w' : World} {v : Value} {xs : List Value} (h : w.ownsRow B 5 1 v n xs) (hb : Below w.heap.size w w') : w'.ownsRow B 5 1 v n xs := by
  refine h.kept (row := none) ⟨hb.os, hb.tape, hb.output, hb.size, fun k hk _ => hb.block k hk⟩ ?_
  cases v.ownBlock with
  | none => exact .inl rfl
  | some g => exact .inr (fun e => by cases e)
theorem pcJ_length (s : ByteArray) (j : Nat) (hj : j ≤ s.size) : (pcJ s j).length = 2 * j - (2 - nibAt s 0 % 2) := by
  unfold pcJ
  rw [List.length_map, pathJ_length s j hj]
/-- the last line's answer -/
theorem pack_tells (s : ByteArray) (h0 : 0 < s.size) (hx : (s[0]'h0).toNat < 64) (h64 : (pathL s).length ≤ 64) :
    ((⟨(packL (pathL s) (decide (32 ≤ (s[0]'h0).toNat))).toArray⟩ : ByteArray) = s → ¬ Bad s) ∧ (¬ Bad s → (⟨(packL (pathL s) (decide (32 ≤ (s[0]'h0).toNat))).toArray⟩ : ByteArray) = s ∧ decide (32 ≤ (s[0]'h0).toNat) = leafB s) := by
  obtain ⟨hn0, hn1⟩ := nib01 s h0
  refine ⟨fun e => ?_, fun hb => ?_⟩
  · have := pack_good (pathL s) (decide (32 ≤ (s[0]'h0).toNat)) (path_right s) h64
    rw [e] at this
    exact this
  · have hl : decide (32 ≤ (s[0]'h0).toNat) = leafB s := by
      unfold leafB
      rw [decide_eq_decide]
      omega
    exact ⟨by rw [hl]; exact unpack_pack s h0 hb, hl⟩

set_option maxHeartbeats 16000000 in
theorem rpath_even (s : ByteArray) (hs : s.size ≤ 1000000) (h0 : 0 < s.size) (h : (s[0]'h0).toNat < 64) (ho : nibAt s 0 % 2 = 0) (w : World) : Calls Try.prog 36 #[.string s] w (PathPost w s) := by
  have hne := Ni.not_empty h0
  obtain ⟨hn0, hn1⟩ := nib01 s h0
  have HP := Lib.hid (fun j h1 hj X Y hX hY => pcJ_step s j h1 hj X Y hX hY)
  have HLn := Lib.hid (fun j hj => pcJ_length s j hj)
  rw [ho] at HLn
  obtain ⟨i0, hi, hz0, hz1, hz2⟩ := info_parts Cc.info_u8
  have HI : Hid (_ ∧ _ ∧ _ ∧ _) := Lib.hid ⟨hi, hz0, hz1, hz2⟩
  have HF1 := Lib.hid (pathJ_even s h0 ho)
  obtain ⟨C, hC⟩ : ∃ C, (s[0]'h0).toNat = C := ⟨_, rfl⟩
  rw [hC] at hn0 hn1 h
  have d64c : decide (64 ≤ (C : Int)) = false := by simp; omega
  have dodd : ((C : Int) / 16 % 2 == 1) = false := by simp; omega
  obtain ⟨o, hoe⟩ : ∃ o, (0 : Nat) = o := ⟨_, rfl⟩
  rw [hoe] at HLn
  have ho2 : o ≤ 1 := by omega
  clear hi hz0 hz1 hz2 hoe
  go_enter Try.func36, Try.ntmps36
  go_wp2
  go_loopw [5, 6] (fun v i wr => ∃ j : Nat, 1 ≤ j ∧ j ≤ min s.size 40 ∧ i = .int .i64 j ∧ Hid (wr.ownsRow w.heap.size 5 1 v (pcJ s j).length (pcJ s j)) ∧ Hid (Below w.heap.size w wr)) (fun _ i _ => 40 - (intOf i).toNat)
  case atStart => exact ⟨1, Nat.le_refl _, by omega, rfl, Lib.hid (by rw [HF1.out]; exact World.ownsRow_nil _ _ _ _), Lib.hid (Below.refl _ _)⟩
  case round =>
    obtain ⟨j, h1, hj, rfl, HRr, HB⟩ := hrel
    by_cases hlt : j < min s.size 40
    · have hjs : j < s.size := by omega
      have hj40 : j < 40 := by omega
      have d1 : decide ((j : Int) < (s.size : Int)) = true := by simp; omega
      have d2 : decide ((j : Int) < 40) = true := by simp; omega
      have HST := Lib.hid (HP.out j h1 hjs (IntKind.u8.wrap (((s[j]'hjs).toNat : Int) / 16)) (((s[j]'hjs).toNat : Int).tmod 16) (wrap_div _ (UInt8.toNat_lt _)) (by rw [Int.tmod_eq_emod_of_nonneg (by omega)]; omega))
      have hl0 := HLn.out j (by omega)
      obtain ⟨X, hX⟩ : ∃ X, (s[j]'hjs).toNat = X := ⟨_, rfl⟩
      rw [hX] at HST
      go_wp2_with fail
      refine wp_region_noPanic ?_
      refine wp_region_held_drew (S := fun w' => Below w.heap.size w w') (by kernel_rfl) (HB.out.drew) (fun hHeld => ?_)
      refine Rg.takeL (i := 0) (v := ?_) rfl (by kernel_rfl) (by kernel_rfl) (by kernel_rfl) (fun _ _ _ h => h) (Or.inl ⟨by rfl, ?_⟩) (by assumption) ?_
      rotate_left
      · (intro wz hSw; (try dsimp only at hSw); go_simp <;> with_reducible rfl)
      try simp only [Act.put, List.setIfInBounds_toArray, List.set_cons_zero, List.set_cons_succ]
      refine Rg.takeL (i := 1) (v := ?_) rfl (by kernel_rfl) (by kernel_rfl) (by kernel_rfl) (fun _ _ _ h => h) (Or.inl ⟨by rfl, ?_⟩) (by assumption) ?_
      rotate_left
      · (intro wz hSw; (try dsimp only at hSw); go_simp <;> with_reducible rfl)
      try simp only [Act.put, List.setIfInBounds_toArray, List.set_cons_zero, List.set_cons_succ]
      refine Rg.takeL (i := 2) (v := ?_) rfl (by kernel_rfl) (by kernel_rfl) (by kernel_rfl) (fun _ _ _ h => h) (Or.inl ⟨by rfl, ?_⟩) (by assumption) ?_
      rotate_left
      · (intro wz hSw; (try dsimp only at hSw); go_simp <;> with_reducible rfl)
      try simp only [Act.put, List.setIfInBounds_toArray, List.set_cons_zero, List.set_cons_succ]
      refine Rg.takeL (i := 3) (v := ?_) rfl (by kernel_rfl) (by kernel_rfl) (by kernel_rfl) (fun _ _ _ h => h) (Or.inl ⟨by rfl, ?_⟩) (by assumption) ?_
      rotate_left
      · (intro wz hSw; (try dsimp only at hSw); go_simp <;> with_reducible rfl)
      try simp only [Act.put, List.setIfInBounds_toArray, List.set_cons_zero, List.set_cons_succ]
      refine Rg.takeL (i := 4) (v := ?_) rfl (by kernel_rfl) (by kernel_rfl) (by kernel_rfl) (fun _ _ _ h => h) (Or.inl ⟨by rfl, ?_⟩) (by assumption) ?_
      rotate_left
      · (intro wz hSw; (try dsimp only at hSw); go_simp <;> with_reducible rfl)
      try simp only [Act.put, List.setIfInBounds_toArray, List.set_cons_zero, List.set_cons_succ]
      refine Rg.takeL (i := 5) (v := ?_) rfl (by kernel_rfl) (by kernel_rfl) (by kernel_rfl) (fun _ _ _ h => h) (Or.inl ⟨by rfl, ?_⟩) (by assumption) ?_
      rotate_left
      · (intro wz hSw; (try dsimp only at hSw); go_simp <;> with_reducible rfl)
      try simp only [Act.put, List.setIfInBounds_toArray, List.set_cons_zero, List.set_cons_succ]
      refine Rg.takeL (i := 6) (v := ?_) rfl (by kernel_rfl) (by kernel_rfl) (by kernel_rfl) (fun _ _ _ h => h) (Or.inl ⟨by rfl, ?_⟩) (by assumption) ?_
      rotate_left
      · (intro wz hSw; (try dsimp only at hSw); go_simp <;> with_reducible rfl)
      try simp only [Act.put, List.setIfInBounds_toArray, List.set_cons_zero, List.set_cons_succ]
      refine Rg.takeL (i := 7) (v := ?_) rfl (by kernel_rfl) (by kernel_rfl) (by kernel_rfl) (fun _ _ _ h => h) (Or.inl ⟨by rfl, ?_⟩) (by assumption) ?_
      rotate_left
      · (intro wz hSw; (try dsimp only at hSw); go_simp <;> with_reducible rfl)
      try simp only [Act.put, List.setIfInBounds_toArray, List.set_cons_zero, List.set_cons_succ]
      refine Rg.takeL (i := 8) (v := ?_) rfl (by kernel_rfl) (by kernel_rfl) (by kernel_rfl) (fun _ _ _ h => h) (Or.inl ⟨by rfl, ?_⟩) (by assumption) ?_
      rotate_left
      · (intro wz hSw; (try dsimp only at hSw); go_simp <;> with_reducible rfl)
      try simp only [Act.put, List.setIfInBounds_toArray, List.set_cons_zero, List.set_cons_succ]
      refine wpAnyH_ready (rs := [9]) (by kernel_rfl) (by simp) ?_
      refine Rg.readyL (i := 9) rfl (fun K hK => ?_)
      refine meetTwo (x := IntKind.u8.wrap ((X : Int) / 16)) (y := (X : Int).tmod 16) (by rfl) ⟨_, _, rfl, rfl, rfl⟩ ?_
      rintro wv0 b9 hb9 h9 hbx
      have hR9 := row_stays HRr.out.drew hbx
      refine hK.out _ _ ?_ (fun hHeld => ?_)
      · exact below_step' hHeld hbx
      clear hK K hbx hb9
      try simp only [Act.put, List.setIfInBounds_toArray, List.set_cons_zero, List.set_cons_succ]
      refine wpAnyH_ready (rs := [10]) (by kernel_rfl) (by simp) ?_
      refine Rg.readyL (i := 10) rfl (fun K hK => ?_)
      refine meetPush2 (by rfl) ⟨_, _, rfl, rfl, rfl⟩ hR9 h9 (by omega) hHeld.size ?_
      rintro v' wv1 hown hgrow
      have hlt' := hR9.lt
      have hB1 := Below.grown hHeld hgrow hHeld.size (fun g hg => (hlt' g hg).1)
      refine hK.out _ _ ?_ (fun hHeld => ?_)
      · exact hB1
      clear hK K
      try simp only [Act.put, List.setIfInBounds_toArray, List.set_cons_zero, List.set_cons_succ]
      refine Rg.takeL (i := 11) (v := ?_) rfl (by kernel_rfl) (by kernel_rfl) (by kernel_rfl) (fun _ _ _ h => h) (Or.inl ⟨by rfl, ?_⟩) (by assumption) ?_
      rotate_left
      · (intro wz hSw; (try dsimp only at hSw); go_simp <;> with_reducible rfl)
      try simp only [Act.put, List.setIfInBounds_toArray, List.set_cons_zero, List.set_cons_succ]
      refine wpAnyH_done (by kernel_rfl) ?_ _
      refine NoPanic.normal ?_
      go_wp2
      go_roundw
      case rel =>
        refine ⟨j + 1, by omega, by omega, by go_num, Lib.hid ?_, Lib.hid hHeld⟩
        have hl := HLn.out (j + 1) (by omega)
        have hl0 := HLn.out j (by omega)
        rw [hl0] at hown
        rw [hl, HST.out, show 2 * (j + 1) - (2 - o) = 2 * j - (2 - o) + 2 by omega]
        exact hown
      case measure => simp [intOf]; omega
    · obtain rfl : j = min s.size 40 := by omega
      by_cases h40 : s.size ≤ 40
      · have hmin : min s.size 40 = s.size := by omega
        rw [hmin] at hlt h1 hj ⊢
        have hR := HRr.out
        rw [hmin] at hR
        have hpl := HLn.out s.size (Nat.le_refl _)
        have hpe : pcJ s s.size = (pathL s).map fun x => Value.int .u8 x.toNat := by unfold pcJ; rw [pathJ_all]
        rw [hpl, hpe] at hR
        have hlen : (pathL s).length = 2 * s.size - (2 - o) := by rw [← hpl, hpe, List.length_map]
        obtain ⟨a, cap, rfl, hb⟩ := ofOwnF hR
        have HX := Lib.hid hb
        have d1 : decide ((s.size : Int) < (s.size : Int)) = false := by simp
        have HBd : Hid (64 < (pathL s).length → Bad s) := Lib.hid (fun h => Classical.byContradiction fun hb => by have := path_le s hb; omega)
        obtain ⟨N, hN⟩ : ∃ N, 2 * s.size - (2 - o) = N := ⟨_, rfl⟩
        rw [hN] at HX hlen
        rw [hN]
        by_cases h64 : N ≤ 64
        · obtain ⟨t1, t2⟩ := pack_tells s h0 (by omega) (by omega)
          rw [hC] at t1 t2
          have HPk := Lib.hid (rpack_any a N cap (pathL s) (decide (32 ≤ C)) (path_right s) h64 wr HX.out.1)
          obtain ⟨P, hP⟩ : ∃ P, (⟨(packL (pathL s) (decide (32 ≤ C))).toArray⟩ : ByteArray) = P := ⟨_, rfl⟩
          rw [hP] at t1 t2 HPk
          have HT1 := Lib.hid t1
          have HT2 := Lib.hid t2
          have d64 : decide ((N : Int) ≤ 64) = true := by simp; omega
          by_cases hps : P = s
          · have HNB := Lib.hid (t1 hps)
            have HLf := Lib.hid (t2 (t1 hps)).2
            by_cases h32 : 32 ≤ C
            · have d32 : decide (32 ≤ (C : Int)) = true := by simp; omega
              rw [show decide (32 ≤ C) = true by simp; omega] at HPk HLf
              clear HP HLn HRr hb
              go_wp2_with fail
              refine HPk.out.mono ?_
              rintro e w9 ⟨rfl, hb9⟩
              have HX9 := Lib.hid (HX.out.below hb9)
              have HB9 := Lib.hid (below_step' HB.out hb9)
              clear hb9
              subst hps
              go_wp2
              go_ret3
              exact ⟨a, N, cap, _, _, true, rfl, HX9.out, .inl ⟨rfl, by omega, HNB.out, rfl, HLf.out⟩, HB9.out⟩
            · have d32 : decide (32 ≤ (C : Int)) = false := by simp; omega
              rw [show decide (32 ≤ C) = false by simp; omega] at HPk HLf
              clear HP HLn HRr hb
              go_wp2_with fail
              refine HPk.out.mono ?_
              rintro e w9 ⟨rfl, hb9⟩
              have HX9 := Lib.hid (HX.out.below hb9)
              have HB9 := Lib.hid (below_step' HB.out hb9)
              clear hb9
              subst hps
              go_wp2
              go_ret3
              exact ⟨a, N, cap, _, _, true, rfl, HX9.out, .inl ⟨rfl, by omega, HNB.out, rfl, HLf.out⟩, HB9.out⟩
          · have HBd2 : Hid (Bad s) := Lib.hid (Classical.byContradiction fun hb => hps (t2 hb).1)
            have hne2 := Rl.text_ne hps
            by_cases h32 : 32 ≤ C
            · have d32 : decide (32 ≤ (C : Int)) = true := by simp; omega
              rw [show decide (32 ≤ C) = true by simp; omega] at HPk
              clear HP HLn HRr hb
              go_wp2_with fail
              refine HPk.out.mono ?_
              rintro e w9 ⟨rfl, hb9⟩
              have HX9 := Lib.hid (HX.out.below hb9)
              have HB9 := Lib.hid (below_step' HB.out hb9)
              clear hb9
              go_wp2
              go_ret3
              exact ⟨a, N, cap, _, _, false, rfl, HX9.out, .inr ⟨rfl, .inr HBd2.out⟩, HB9.out⟩
            · have d32 : decide (32 ≤ (C : Int)) = false := by simp; omega
              rw [show decide (32 ≤ C) = false by simp; omega] at HPk
              clear HP HLn HRr hb
              go_wp2_with fail
              refine HPk.out.mono ?_
              rintro e w9 ⟨rfl, hb9⟩
              have HX9 := Lib.hid (HX.out.below hb9)
              have HB9 := Lib.hid (below_step' HB.out hb9)
              clear hb9
              go_wp2
              go_ret3
              exact ⟨a, N, cap, _, _, false, rfl, HX9.out, .inr ⟨rfl, .inr HBd2.out⟩, HB9.out⟩
        · have HBd2 : Hid (Bad s) := Lib.hid (HBd.out (by omega))
          have d64 : decide ((N : Int) ≤ 64) = false := by simp; omega
          clear HP HLn HRr hb
          go_wp2
          go_ret3
          exact ⟨a, N, cap, _, _, false, rfl, HX.out, .inr ⟨rfl, .inr HBd2.out⟩, HB.out⟩
      · have hmin : min s.size 40 = 40 := by omega
        rw [hmin] at hlt h1 hj ⊢
        have hR := HRr.out
        rw [hmin] at hR
        have hpl := HLn.out 40 (by omega)
        rw [hpl] at hR
        obtain ⟨a, cap, rfl, hb⟩ := ofOwnF (l := pathJ s 40) hR
        have HX := Lib.hid hb
        have d1 : decide ((40 : Int) < (s.size : Int)) = true := by simp; omega
        have HBd2 : Hid (Bad s) := Lib.hid (by
          unfold Bad
          rcases Nat.mod_two_eq_zero_or_one (nibAt s 0) with e | e
          · exact .inl ⟨e, .inl (by omega)⟩
          · exact .inr ⟨e, .inl (by omega)⟩)
        obtain ⟨N, hN⟩ : ∃ N, 2 * 40 - (2 - o) = N := ⟨_, rfl⟩
        rw [hN] at HX
        rw [hN]
        have d64 : decide ((N : Int) ≤ 64) = false := by simp; omega
        clear HP HLn HRr hb
        go_wp2
        go_ret3
        exact ⟨a, N, cap, _, _, false, rfl, HX.out, .inr ⟨rfl, .inr HBd2.out⟩, HB.out⟩

set_option maxHeartbeats 16000000 in
theorem rpath_odd (s : ByteArray) (hs : s.size ≤ 1000000) (h0 : 0 < s.size) (h : (s[0]'h0).toNat < 64) (ho : nibAt s 0 % 2 = 1) (w : World) : Calls Try.prog 36 #[.string s] w (PathPost w s) := by
  have hne := Ni.not_empty h0
  obtain ⟨hn0, hn1⟩ := nib01 s h0
  have HP := Lib.hid (fun j h1 hj X Y hX hY => pcJ_step s j h1 hj X Y hX hY)
  have HLn := Lib.hid (fun j hj => pcJ_length s j hj)
  rw [ho] at HLn
  obtain ⟨i0, hi, hz0, hz1, hz2⟩ := info_parts Cc.info_u8
  have HI : Hid (_ ∧ _ ∧ _ ∧ _) := Lib.hid ⟨hi, hz0, hz1, hz2⟩
  have HF1 := Lib.hid (fun X hX => pathJ_odd s h0 ho X hX)
  obtain ⟨C, hC⟩ : ∃ C, (s[0]'h0).toNat = C := ⟨_, rfl⟩
  rw [hC] at hn0 hn1 h
  have d64c : decide (64 ≤ (C : Int)) = false := by simp; omega
  have dodd : ((C : Int) / 16 % 2 == 1) = true := by simp; omega
  obtain ⟨o, hoe⟩ : ∃ o, (1 : Nat) = o := ⟨_, rfl⟩
  rw [hoe] at HLn
  have ho2 : o ≤ 1 := by omega
  clear hi hz0 hz1 hz2 hoe
  go_enter Try.func36, Try.ntmps36
  have HO1 := Lib.hid (World.ownsRow_nil w w.heap.size 5 1)
  go_wp2_with (at_builtin; refine wpList_append_own _ rfl _ _ 22 rfl w.heap.size 5 i0 (.int .u8 0) 1 1 Try.underlying22 HI.out.1 HI.out.2.1 HI.out.2.2.1 HI.out.2.2.2 rfl (by decide) _ _ _ rfl (HO1.out.alloc _) ⟨w.heap.size, 0, none⟩ 1 1 [.int .u8 ((C : Int) % 16)] rfl rfl ?c1 ?c2 ?c3 ?c4 ?c5 ?_)
  case c1 => exact Bu.cell_one_new' _ _ _ _
  case c2 => intro u hu; simp at hu; subst hu; rfl
  case c3 => unfold maxLen; omega
  case c4 => omega
  case c5 => simp
  intro v2 w2 hown2 hgrow2 _
  have HW2 : Hid (w2.ownsRow w.heap.size 5 1 v2 (pcJ s 1).length (pcJ s 1)) := Lib.hid (by rw [HF1.out ((C : Int) % 16) (by omega)]; exact hown2)
  have HB2 : Hid (Below w.heap.size w w2) := Lib.hid ((al1 w _).grown hgrow2 (by simp) (fun g hg => (HO1.out.lt g hg).1))
  clear hown2 hgrow2 HF1 HO1
  go_wp2
  go_loopw [5, 6] (fun v i wr => ∃ j : Nat, 1 ≤ j ∧ j ≤ min s.size 40 ∧ i = .int .i64 j ∧ Hid (wr.ownsRow w.heap.size 5 1 v (pcJ s j).length (pcJ s j)) ∧ Hid (Below w.heap.size w wr)) (fun _ i _ => 40 - (intOf i).toNat)
  case atStart => exact ⟨1, Nat.le_refl _, by omega, rfl, Lib.hid (HW2.out), HB2⟩
  case round =>
    obtain ⟨j, h1, hj, rfl, HRr, HB⟩ := hrel
    by_cases hlt : j < min s.size 40
    · have hjs : j < s.size := by omega
      have hj40 : j < 40 := by omega
      have d1 : decide ((j : Int) < (s.size : Int)) = true := by simp; omega
      have d2 : decide ((j : Int) < 40) = true := by simp; omega
      have HST := Lib.hid (HP.out j h1 hjs (IntKind.u8.wrap (((s[j]'hjs).toNat : Int) / 16)) (((s[j]'hjs).toNat : Int).tmod 16) (wrap_div _ (UInt8.toNat_lt _)) (by rw [Int.tmod_eq_emod_of_nonneg (by omega)]; omega))
      have hl0 := HLn.out j (by omega)
      obtain ⟨X, hX⟩ : ∃ X, (s[j]'hjs).toNat = X := ⟨_, rfl⟩
      rw [hX] at HST
      go_wp2_with fail
      refine wp_region_noPanic ?_
      refine wp_region_held_drew (S := fun w' => Below w.heap.size w w') (by kernel_rfl) (HB.out.drew) (fun hHeld => ?_)
      refine Rg.takeL (i := 0) (v := ?_) rfl (by kernel_rfl) (by kernel_rfl) (by kernel_rfl) (fun _ _ _ h => h) (Or.inl ⟨by rfl, ?_⟩) (by assumption) ?_
      rotate_left
      · (intro wz hSw; (try dsimp only at hSw); go_simp <;> with_reducible rfl)
      try simp only [Act.put, List.setIfInBounds_toArray, List.set_cons_zero, List.set_cons_succ]
      refine Rg.takeL (i := 1) (v := ?_) rfl (by kernel_rfl) (by kernel_rfl) (by kernel_rfl) (fun _ _ _ h => h) (Or.inl ⟨by rfl, ?_⟩) (by assumption) ?_
      rotate_left
      · (intro wz hSw; (try dsimp only at hSw); go_simp <;> with_reducible rfl)
      try simp only [Act.put, List.setIfInBounds_toArray, List.set_cons_zero, List.set_cons_succ]
      refine Rg.takeL (i := 2) (v := ?_) rfl (by kernel_rfl) (by kernel_rfl) (by kernel_rfl) (fun _ _ _ h => h) (Or.inl ⟨by rfl, ?_⟩) (by assumption) ?_
      rotate_left
      · (intro wz hSw; (try dsimp only at hSw); go_simp <;> with_reducible rfl)
      try simp only [Act.put, List.setIfInBounds_toArray, List.set_cons_zero, List.set_cons_succ]
      refine Rg.takeL (i := 3) (v := ?_) rfl (by kernel_rfl) (by kernel_rfl) (by kernel_rfl) (fun _ _ _ h => h) (Or.inl ⟨by rfl, ?_⟩) (by assumption) ?_
      rotate_left
      · (intro wz hSw; (try dsimp only at hSw); go_simp <;> with_reducible rfl)
      try simp only [Act.put, List.setIfInBounds_toArray, List.set_cons_zero, List.set_cons_succ]
      refine Rg.takeL (i := 4) (v := ?_) rfl (by kernel_rfl) (by kernel_rfl) (by kernel_rfl) (fun _ _ _ h => h) (Or.inl ⟨by rfl, ?_⟩) (by assumption) ?_
      rotate_left
      · (intro wz hSw; (try dsimp only at hSw); go_simp <;> with_reducible rfl)
      try simp only [Act.put, List.setIfInBounds_toArray, List.set_cons_zero, List.set_cons_succ]
      refine Rg.takeL (i := 5) (v := ?_) rfl (by kernel_rfl) (by kernel_rfl) (by kernel_rfl) (fun _ _ _ h => h) (Or.inl ⟨by rfl, ?_⟩) (by assumption) ?_
      rotate_left
      · (intro wz hSw; (try dsimp only at hSw); go_simp <;> with_reducible rfl)
      try simp only [Act.put, List.setIfInBounds_toArray, List.set_cons_zero, List.set_cons_succ]
      refine Rg.takeL (i := 6) (v := ?_) rfl (by kernel_rfl) (by kernel_rfl) (by kernel_rfl) (fun _ _ _ h => h) (Or.inl ⟨by rfl, ?_⟩) (by assumption) ?_
      rotate_left
      · (intro wz hSw; (try dsimp only at hSw); go_simp <;> with_reducible rfl)
      try simp only [Act.put, List.setIfInBounds_toArray, List.set_cons_zero, List.set_cons_succ]
      refine Rg.takeL (i := 7) (v := ?_) rfl (by kernel_rfl) (by kernel_rfl) (by kernel_rfl) (fun _ _ _ h => h) (Or.inl ⟨by rfl, ?_⟩) (by assumption) ?_
      rotate_left
      · (intro wz hSw; (try dsimp only at hSw); go_simp <;> with_reducible rfl)
      try simp only [Act.put, List.setIfInBounds_toArray, List.set_cons_zero, List.set_cons_succ]
      refine Rg.takeL (i := 8) (v := ?_) rfl (by kernel_rfl) (by kernel_rfl) (by kernel_rfl) (fun _ _ _ h => h) (Or.inl ⟨by rfl, ?_⟩) (by assumption) ?_
      rotate_left
      · (intro wz hSw; (try dsimp only at hSw); go_simp <;> with_reducible rfl)
      try simp only [Act.put, List.setIfInBounds_toArray, List.set_cons_zero, List.set_cons_succ]
      refine wpAnyH_ready (rs := [9]) (by kernel_rfl) (by simp) ?_
      refine Rg.readyL (i := 9) rfl (fun K hK => ?_)
      refine meetTwo (x := IntKind.u8.wrap ((X : Int) / 16)) (y := (X : Int).tmod 16) (by rfl) ⟨_, _, rfl, rfl, rfl⟩ ?_
      rintro wv0 b9 hb9 h9 hbx
      have hR9 := row_stays HRr.out.drew hbx
      refine hK.out _ _ ?_ (fun hHeld => ?_)
      · exact below_step' hHeld hbx
      clear hK K hbx hb9
      try simp only [Act.put, List.setIfInBounds_toArray, List.set_cons_zero, List.set_cons_succ]
      refine wpAnyH_ready (rs := [10]) (by kernel_rfl) (by simp) ?_
      refine Rg.readyL (i := 10) rfl (fun K hK => ?_)
      refine meetPush2 (by rfl) ⟨_, _, rfl, rfl, rfl⟩ hR9 h9 (by omega) hHeld.size ?_
      rintro v' wv1 hown hgrow
      have hlt' := hR9.lt
      have hB1 := Below.grown hHeld hgrow hHeld.size (fun g hg => (hlt' g hg).1)
      refine hK.out _ _ ?_ (fun hHeld => ?_)
      · exact hB1
      clear hK K
      try simp only [Act.put, List.setIfInBounds_toArray, List.set_cons_zero, List.set_cons_succ]
      refine Rg.takeL (i := 11) (v := ?_) rfl (by kernel_rfl) (by kernel_rfl) (by kernel_rfl) (fun _ _ _ h => h) (Or.inl ⟨by rfl, ?_⟩) (by assumption) ?_
      rotate_left
      · (intro wz hSw; (try dsimp only at hSw); go_simp <;> with_reducible rfl)
      try simp only [Act.put, List.setIfInBounds_toArray, List.set_cons_zero, List.set_cons_succ]
      refine wpAnyH_done (by kernel_rfl) ?_ _
      refine NoPanic.normal ?_
      go_wp2
      go_roundw
      case rel =>
        refine ⟨j + 1, by omega, by omega, by go_num, Lib.hid ?_, Lib.hid hHeld⟩
        have hl := HLn.out (j + 1) (by omega)
        have hl0 := HLn.out j (by omega)
        rw [hl0] at hown
        rw [hl, HST.out, show 2 * (j + 1) - (2 - o) = 2 * j - (2 - o) + 2 by omega]
        exact hown
      case measure => simp [intOf]; omega
    · obtain rfl : j = min s.size 40 := by omega
      by_cases h40 : s.size ≤ 40
      · have hmin : min s.size 40 = s.size := by omega
        rw [hmin] at hlt h1 hj ⊢
        have hR := HRr.out
        rw [hmin] at hR
        have hpl := HLn.out s.size (Nat.le_refl _)
        have hpe : pcJ s s.size = (pathL s).map fun x => Value.int .u8 x.toNat := by unfold pcJ; rw [pathJ_all]
        rw [hpl, hpe] at hR
        have hlen : (pathL s).length = 2 * s.size - (2 - o) := by rw [← hpl, hpe, List.length_map]
        obtain ⟨a, cap, rfl, hb⟩ := ofOwnF hR
        have HX := Lib.hid hb
        have d1 : decide ((s.size : Int) < (s.size : Int)) = false := by simp
        have HBd : Hid (64 < (pathL s).length → Bad s) := Lib.hid (fun h => Classical.byContradiction fun hb => by have := path_le s hb; omega)
        obtain ⟨N, hN⟩ : ∃ N, 2 * s.size - (2 - o) = N := ⟨_, rfl⟩
        rw [hN] at HX hlen
        rw [hN]
        by_cases h64 : N ≤ 64
        · obtain ⟨t1, t2⟩ := pack_tells s h0 (by omega) (by omega)
          rw [hC] at t1 t2
          have HPk := Lib.hid (rpack_any a N cap (pathL s) (decide (32 ≤ C)) (path_right s) h64 wr HX.out.1)
          obtain ⟨P, hP⟩ : ∃ P, (⟨(packL (pathL s) (decide (32 ≤ C))).toArray⟩ : ByteArray) = P := ⟨_, rfl⟩
          rw [hP] at t1 t2 HPk
          have HT1 := Lib.hid t1
          have HT2 := Lib.hid t2
          have d64 : decide ((N : Int) ≤ 64) = true := by simp; omega
          by_cases hps : P = s
          · have HNB := Lib.hid (t1 hps)
            have HLf := Lib.hid (t2 (t1 hps)).2
            by_cases h32 : 32 ≤ C
            · have d32 : decide (32 ≤ (C : Int)) = true := by simp; omega
              rw [show decide (32 ≤ C) = true by simp; omega] at HPk HLf
              clear HP HLn HRr hb
              go_wp2_with fail
              refine HPk.out.mono ?_
              rintro e w9 ⟨rfl, hb9⟩
              have HX9 := Lib.hid (HX.out.below hb9)
              have HB9 := Lib.hid (below_step' HB.out hb9)
              clear hb9
              subst hps
              go_wp2
              go_ret3
              exact ⟨a, N, cap, _, _, true, rfl, HX9.out, .inl ⟨rfl, by omega, HNB.out, rfl, HLf.out⟩, HB9.out⟩
            · have d32 : decide (32 ≤ (C : Int)) = false := by simp; omega
              rw [show decide (32 ≤ C) = false by simp; omega] at HPk HLf
              clear HP HLn HRr hb
              go_wp2_with fail
              refine HPk.out.mono ?_
              rintro e w9 ⟨rfl, hb9⟩
              have HX9 := Lib.hid (HX.out.below hb9)
              have HB9 := Lib.hid (below_step' HB.out hb9)
              clear hb9
              subst hps
              go_wp2
              go_ret3
              exact ⟨a, N, cap, _, _, true, rfl, HX9.out, .inl ⟨rfl, by omega, HNB.out, rfl, HLf.out⟩, HB9.out⟩
          · have HBd2 : Hid (Bad s) := Lib.hid (Classical.byContradiction fun hb => hps (t2 hb).1)
            have hne2 := Rl.text_ne hps
            by_cases h32 : 32 ≤ C
            · have d32 : decide (32 ≤ (C : Int)) = true := by simp; omega
              rw [show decide (32 ≤ C) = true by simp; omega] at HPk
              clear HP HLn HRr hb
              go_wp2_with fail
              refine HPk.out.mono ?_
              rintro e w9 ⟨rfl, hb9⟩
              have HX9 := Lib.hid (HX.out.below hb9)
              have HB9 := Lib.hid (below_step' HB.out hb9)
              clear hb9
              go_wp2
              go_ret3
              exact ⟨a, N, cap, _, _, false, rfl, HX9.out, .inr ⟨rfl, .inr HBd2.out⟩, HB9.out⟩
            · have d32 : decide (32 ≤ (C : Int)) = false := by simp; omega
              rw [show decide (32 ≤ C) = false by simp; omega] at HPk
              clear HP HLn HRr hb
              go_wp2_with fail
              refine HPk.out.mono ?_
              rintro e w9 ⟨rfl, hb9⟩
              have HX9 := Lib.hid (HX.out.below hb9)
              have HB9 := Lib.hid (below_step' HB.out hb9)
              clear hb9
              go_wp2
              go_ret3
              exact ⟨a, N, cap, _, _, false, rfl, HX9.out, .inr ⟨rfl, .inr HBd2.out⟩, HB9.out⟩
        · have HBd2 : Hid (Bad s) := Lib.hid (HBd.out (by omega))
          have d64 : decide ((N : Int) ≤ 64) = false := by simp; omega
          clear HP HLn HRr hb
          go_wp2
          go_ret3
          exact ⟨a, N, cap, _, _, false, rfl, HX.out, .inr ⟨rfl, .inr HBd2.out⟩, HB.out⟩
      · have hmin : min s.size 40 = 40 := by omega
        rw [hmin] at hlt h1 hj ⊢
        have hR := HRr.out
        rw [hmin] at hR
        have hpl := HLn.out 40 (by omega)
        rw [hpl] at hR
        obtain ⟨a, cap, rfl, hb⟩ := ofOwnF (l := pathJ s 40) hR
        have HX := Lib.hid hb
        have d1 : decide ((40 : Int) < (s.size : Int)) = true := by simp; omega
        have HBd2 : Hid (Bad s) := Lib.hid (by
          unfold Bad
          rcases Nat.mod_two_eq_zero_or_one (nibAt s 0) with e | e
          · exact .inl ⟨e, .inl (by omega)⟩
          · exact .inr ⟨e, .inl (by omega)⟩)
        obtain ⟨N, hN⟩ : ∃ N, 2 * 40 - (2 - o) = N := ⟨_, rfl⟩
        rw [hN] at HX
        rw [hN]
        have d64 : decide ((N : Int) ≤ 64) = false := by simp; omega
        clear HP HLn HRr hb
        go_wp2
        go_ret3
        exact ⟨a, N, cap, _, _, false, rfl, HX.out, .inr ⟨rfl, .inr HBd2.out⟩, HB.out⟩
/-- the plain answer's path of any text -/
theorem rpath_any (s : ByteArray) (hs : s.size ≤ 1000000) (w : World) : Calls Try.prog 36 #[.string s] w (PathPost w s) := by
  by_cases h0 : 0 < s.size
  · by_cases h : (s[0]'h0).toNat < 64
    · rcases Nat.mod_two_eq_zero_or_one (nibAt s 0) with e | e
      · exact rpath_even s hs h0 h e w
      · exact rpath_odd s hs h0 h e w
    · exact rpath_big s h0 (by omega) w
  · obtain rfl := size_zero (s := s) (by omega)
    exact rpath_nil w
end No
end Go.Proofs.Ytbdhncaiffepoaa

/-
  The contract of the plain answer's Get, of any bytes that are not far too many.
-/
namespace Go.Proofs.Ytbdhncaiffepoaa
set_option maxRecDepth 100000
open Go.RowKit

namespace No
open Rl Ni
theorem op_eq_st {ev : Operand → Value} {o : Oper} {w : World} (s u : ByteArray) (h : ∃ x y, o.op = .binOp .eql 9 x y 9 ∧ ev x = .string s ∧ ev y = .string u) :
    (execOp ev o).run Try.prog w = .ok (.value (.bool (decide (s = u)))) w := by
  by_cases e : s = u
  · subst e
    rw [decide_eq_true rfl]
    exact op_eql_st s h
  · rw [decide_eq_false e]
    obtain ⟨x, y, ho, hx, hy⟩ := h
    have : (binOp .eql 9 (.string s) (.string u)).run Try.prog w = .ok (.bool false) w := by
      unfold binOp
      simp [go_sem, Op.stringOp, text_ne e]
    unfold execOp
    simp [ho, hx, hy, go_sem]
    simpa using text_ne e
/-- Read of bytes that are no item -/
theorem rread_err {s : ByteArray} (hs : s.size ≤ 1000000) {c : Int} (hr : readL s.data.toList 0 0 = .error c) (w : World) :
    Calls Try.prog 35 #[.string s, .int .i64 0, .int .i64 4096] w fun e w' => ∃ c : Int, c ≠ 0 ∧ e = .returned (.tuple #[.agg #[.bool false, .string ⟨#[]⟩, .slice none 0 0], .int .i64 0, .int .i64 0, .int .i64 c]) ∧ Below w.heap.size w w' := by
  have h := rread_any s hs w
  rw [hr] at h
  exact h
/-- .. of bytes that begin with one -/
theorem rread_ok {s : ByteArray} (hs : s.size ≤ 1000000) {x : It} {n k : Nat} (hr : readL s.data.toList 0 0 = .ok (x, n, k)) (w : World) :
    Calls Try.prog 35 #[.string s, .int .i64 0, .int .i64 4096] w fun e w' => ∃ (a : Option Addr) (nn cap : Nat) (lI : Int), e = .returned (.tuple #[.agg #[.bool x.l, .string x.s, .slice a nn cap], .int .i64 n, .int .i64 lI, .int .i64 0]) ∧ ItsIn w.heap.size w' x.xs a nn cap ∧ Below w.heap.size w w' := by
  have h := rread_any s hs w
  rw [hr] at h
  refine h.mono ?_
  rintro e w' ⟨a, nn, cap, nI, lI, rfl, rfl, _, hI, hb⟩
  exact ⟨a, nn, cap, lI, rfl, hI, hb⟩
/-- the element's cells, and in which block they lie -/
theorem its_at {B : Nat} {w : World} {xs : List It} {a : Option Addr} {n cap : Nat} (h : ItsIn B w xs a n cap) (j : Nat) (hj : j < n) : ∃ x b off A N C, xs[j]? = some x ∧ a = some ⟨b, off, none⟩ ∧ B ≤ b ∧ b < w.heap.size ∧ Lies w b (off + j * 3) x A N C ∧ IsIts w x.xs A N C := by
  cases h with
  | mk A N C hl hc hm hw hn h hi =>
    have hx : xs[j]? = some (xs[j]'(by omega)) := List.getElem?_eq_getElem (by omega)
    obtain ⟨b, off, e, hB, hlt, hL⟩ := h j _ hx
    exact ⟨_, b, off, A j, N j, C j, hx, e, hB, hlt, hL, ItsIn.weak (hi j _ hx) (Nat.zero_le _)⟩
/-- the item's box, the node's -/
theorem get_boxes (w w3 : World) (hO : OwnN w3 w.heap.size nd0 none 0 0) (hB : Below w.heap.size w w3) (x : It) (a : Option Addr) (n c : Nat) :
    OwnN ((w3.alloc (.cells #[.bool x.l, .string x.s, .slice a n c] 48)).alloc (.cells (ndC nd0 none 0 0) 25)) (w3.heap.size + 1) nd0 none 0 0 ∧
    (w3.alloc (.cells #[.bool x.l, .string x.s, .slice a n c] 48)).cell? ⟨w3.heap.size, 2, none⟩ = some (.slice a n c) ∧ OwnN (w3.alloc (.cells #[.bool x.l, .string x.s, .slice a n c] 48)) w.heap.size nd0 none 0 0 ∧ Below w.heap.size w (w3.alloc (.cells #[.bool x.l, .string x.s, .slice a n c] 48)) ∧
    ∀ w5, w5 = ((w3.alloc (.cells #[.bool x.l, .string x.s, .slice a n c] 48)).alloc (.cells (ndC nd0 none 0 0) 25)).setRow (w3.heap.size + 1) (ndC ⟨3, [], eB, zks⟩ none 0 0) →
      OwnN w5 w.heap.size nd0 none 0 0 ∧ w5.cell? ⟨w3.heap.size, 2, none⟩ = some (.slice a n c) ∧ OwnN w5 (w3.heap.size + 1) ⟨3, [], eB, zks⟩ none 0 0 ∧ Below w3.heap.size w3 w5 ∧ w5.heap.size = w3.heap.size + 2 := by
  have h1 : OwnN ((w3.alloc (.cells #[.bool x.l, .string x.s, .slice a n c] 48)).alloc (.cells (ndC nd0 none 0 0) 25)) (w3.heap.size + 1) nd0 none 0 0 := by
    have := Rg.Own.new (w3.alloc (.cells #[.bool x.l, .string x.s, .slice a n c] 48)) (ndC nd0 none 0 0) 25
    simpa using this
  have h2 : (w3.alloc (.cells #[.bool x.l, .string x.s, .slice a n c] 48)).cell? ⟨w3.heap.size, 2, none⟩ = some (.slice a n c) := (lies_new w3 x a n c 48).2.2
  refine ⟨h1, h2, hO.below (al1 _ _), below_step' hB (al1 _ _), ?_⟩
  rintro w5 rfl
  have hb5 : Below w3.heap.size w3 (((w3.alloc (.cells #[.bool x.l, .string x.s, .slice a n c] 48)).alloc (.cells (ndC nd0 none 0 0) 25)).setRow (w3.heap.size + 1) (ndC ⟨3, [], eB, zks⟩ none 0 0)) := below_rowN (al2 _ _ _) (Nat.le_succ _) _
  refine ⟨hO.below hb5, ?_, own_rowN h1, hb5, by simp⟩
  have h3 : Below (w3.alloc (.cells #[.bool x.l, .string x.s, .slice a n c] 48)).heap.size (w3.alloc (.cells #[.bool x.l, .string x.s, .slice a n c] 48)) (((w3.alloc (.cells #[.bool x.l, .string x.s, .slice a n c] 48)).alloc (.cells (ndC nd0 none 0 0) 25)).setRow (w3.heap.size + 1) (ndC ⟨3, [], eB, zks⟩ none 0 0)) := below_rowN (al1 _ _) (by simp) _
  exact (Below.cell (p := ⟨w3.heap.size, 2, none⟩) h3 (by simp)).trans h2
/-- what the last region keeps: the node's block, the result's -/
structure SG (R g : Nat) (L : Nd) (a : Option Addr) (n c : Nat) (w w' : World) : Prop where
  lt : R < g
  nd : OwnN w' g L a n c
  res : ∃ cs : Array Value, cs.size = 19 ∧ Rg.Own w' R cs 25
  bs : BsF (g + 1) w' a n c L.p
  be : Below w.heap.size w w'
theorem SG.keep {R g : Nat} {L : Nd} {a : Option Addr} {n c : Nat} {w w1 w2 : World} (h : SG R g L a n c w w1) (hb : Below w1.heap.size w1 w2) : SG R g L a n c w w2 := by
  obtain ⟨cs, hcs, ho⟩ := h.res
  exact ⟨h.lt, h.nd.below hb, ⟨cs, hcs, ho.below hb⟩, h.bs.below hb, below_step' h.be hb⟩
theorem SG.put {R g : Nat} {L : Nd} {a : Option Addr} {n c : Nat} {w w1 w2 : World} (h : SG R g L a n c w w1) {cs : Array Value} (hcs : cs.size = 19) (hn : Rg.Own w2 R cs 25) (hu : Rg.Upd w1 R w2) (hR : w.heap.size ≤ R) : SG R g L a n c w w2 :=
  ⟨h.lt, h.nd.upd hu (by have := h.lt; omega), ⟨cs, hcs, hn⟩, h.bs.upd hu (by have := h.lt; omega), hu.below h.be hR⟩
end No
end Go.Proofs.Ytbdhncaiffepoaa

/-
  What must come at any rate in layer 6: awake.
-/
namespace Go.Proofs.Ytbdhncaiffepoaa
set_option maxRecDepth 100000
open Go.RowKit

namespace No
open Rl Ni
def nA : Nd := ⟨1, [1], ⟨#[97]⟩, zks⟩
def sA : ByteArray := ⟨#[194, 49, 97]⟩
def nE : Nd := ⟨2, [2, 3], eB, one16 sA⟩
def sE : ByteArray := ⟨#[198, 130, 0, 35, 194, 49, 97]⟩
theorem a_may : mayW refP nA = true := rfl
theorem a_put : putP nA = [194, 49, 97] := by
  have h1 : (pathI nA).bytes = [49] := by
    rw [It.bytes_eq]
    decide +kernel
  have h2 : (It.mk false nA.v []).bytes = [97] := by
    rw [It.bytes_eq]
    decide +kernel
  have hi : (itemP nA).inner = [49, 97] := by
    show ([] : List UInt8) ++ ([pathI nA, .mk false nA.v []].map It.bytes).flatten = _
    rw [List.map_cons, List.map_cons, List.map_nil, h1, h2]
    rfl
  unfold putP
  rw [It.bytes_eq, hi]
  decide +kernel
theorem a_get : getP sA.data.toList = some nA := by
  have := get_put (n := nA) rfl a_may
  rw [a_put] at this
  exact this
theorem a_ref : refP sA = true := by
  have : getP sA.data.toList = some nA := a_get
  unfold refP
  rw [this]
  rfl
theorem e_mayW (R : ByteArray → Bool) (h : R sA = true) : mayW R nE = true := by
  have : mayW R nE = (true && R sA) := rfl
  rw [this, h]
  rfl
theorem e_may : mayW refP nE = true := e_mayW refP a_ref
theorem a_item : refI sA = itemP nA := by
  have h := (whole_get (by decide) a_get).1
  unfold refI
  rw [show plainB sA = false by decide +kernel, h]
  rfl
theorem e_put : putP nE = [198, 130, 0, 35, 194, 49, 97] := by
  have h1 : (pathI nE).bytes = [130, 0, 35] := by
    rw [It.bytes_eq]
    decide +kernel
  have h2 : (refI sA).bytes = [194, 49, 97] := by rw [a_item]; exact a_put
  have hi : (itemP nE).inner = [130, 0, 35, 194, 49, 97] := by
    show ([] : List UInt8) ++ ([pathI nE, refI sA].map It.bytes).flatten = _
    rw [List.map_cons, List.map_cons, List.map_nil, h1, h2]
    rfl
  unfold putP
  rw [It.bytes_eq, hi]
  decide +kernel
theorem x_read : readL [120] 0 0 = .ok (.mk false ⟨#[120]⟩ [], 1, 1) := by
  rw [readL, if_neg (by omega), if_neg (by omega)]
  have : headE [120] = .ok (false, 0, 1) := by rfl
  rw [this]
  simp
theorem x_ref : refP ⟨#[120]⟩ = false := by
  have h : getP [120] = none := get_few (by decide) (whole_is x_read (by decide)) (by decide) (by decide)
  unfold refP
  rw [show (ByteArray.data ⟨#[120]⟩).toList = [120] from rfl, h]
  rfl
theorem a_putV : putV nA = .tuple #[.string ⟨#[194, 49, 97]⟩, .int .i64 0] := by unfold putV; rw [a_may, a_put]; rfl
theorem e_putV : putV nE = .tuple #[.string ⟨#[198, 130, 0, 35, 194, 49, 97]⟩, .int .i64 0] := by unfold putV; rw [e_may, e_put]; rfl
theorem aw_leaf (w : World) : Calls Try.prog 15 #[.slice (some ⟨w.heap.size, 0, none⟩) 1 1, .string ⟨#[97]⟩] (w.alloc (.cells #[.int .u8 1] 5)) fun e w' => ∃ a n c, e = .returned (.agg (ndC nA a n c)) ∧ IsBs w' a n c nA.p ∧ Below w.heap.size w w' := by
  refine (leaf_any _ 1 1 [1] (by decide) ⟨#[97]⟩ _ (IsBs.new w [1] (by unfold maxLen; decide) _ _ rfl)).mono ?_
  rintro e w' ⟨a, n, c, rfl, hx, _, hb⟩
  exact ⟨a, n, c, rfl, hx.1, below_step' (al1 _ _) hb⟩
theorem aw_ext (w : World) (b : Nat) (h : IsBs w (some ⟨b, 0, none⟩) 2 2 [2, 3]) : Calls Try.prog 16 #[.slice (some ⟨b, 0, none⟩) 2 2, .string ⟨#[194, 49, 97]⟩] w fun e w' => ∃ a n c, e = .returned (.agg (ndC nE a n c)) ∧ IsBs w' a n c nE.p ∧ Below w.heap.size w w' := by
  refine (ext_any _ 2 2 [2, 3] (by decide) ⟨#[194, 49, 97]⟩ _ h).mono ?_
  rintro e w' ⟨a, n, c, rfl, hx, _, hb⟩
  exact ⟨a, n, c, rfl, hx.1, hb⟩
theorem aw_get (w : World) : Calls Try.prog 11 #[.string ⟨#[194, 49, 97]⟩] w fun e w' => ∃ a n c, e = .returned (.tuple #[.agg (ndC nA a n c), .int .i64 0]) ∧ IsBs w' a n c nA.p ∧ Below w.heap.size w w' := by
  refine (nget_any sA (by decide) w).mono ?_
  rw [a_get]
  rintro e w' ⟨N, a, n, c, er, rfl, hr, hx, _, hb⟩
  rcases hr with ⟨rfl, h⟩ | ⟨_, _, h⟩
  · obtain rfl := Option.some.inj h
    exact ⟨a, n, c, rfl, hx.1, hb⟩
  · cases h
theorem aw_puta (w : World) (a : Option Addr) (n c : Nat) (h : IsBs w a n c nA.p) : Calls Try.prog 8 #[.agg (ndC nA a n c)] w fun e w' => e = .returned (.tuple #[.string ⟨#[194, 49, 97]⟩, .int .i64 0]) ∧ Below w.heap.size w w' := by
  have := nput_any nA a n c rfl w h (by unfold maxLen; decide) (fun k hk => by
    rw [List.eq_of_mem_replicate (show k ∈ List.replicate 16 eB from hk)]
    decide)
  rw [a_putV] at this
  exact this
theorem aw_pute (w : World) (a : Option Addr) (n c : Nat) (h : IsBs w a n c nE.p) : Calls Try.prog 8 #[.agg (ndC nE a n c)] w fun e w' => e = .returned (.tuple #[.string ⟨#[198, 130, 0, 35, 194, 49, 97]⟩, .int .i64 0]) ∧ Below w.heap.size w w' := by
  have := nput_any nE a n c rfl w h (by unfold maxLen; decide) (fun k hk => by
    rcases List.mem_cons.1 (show k ∈ sA :: List.replicate 15 eB from hk) with e | e
    · rw [e]; decide
    · rw [List.eq_of_mem_replicate e]; decide)
  rw [e_putV] at this
  exact this
theorem aw_same (w : World) (a b : Option Addr) (n m c d : Nat) (h : IsBs w a n c nA.p) (g : IsBs w b m d nA.p) : Calls Try.prog 20 #[.agg (ndC nA a n c), .agg (ndC nA b m d)] w fun e w' => e = .returned (.bool true) ∧ Below w.heap.size w w' := by
  have := same_any nA nA _ _ w ⟨a, n, c, rfl, h, rfl⟩ ⟨b, m, d, rfl, g, rfl⟩
  rw [sameB_true rfl] at this
  exact this
theorem aw_refa (w : World) : Calls Try.prog 21 #[.string ⟨#[194, 49, 97]⟩] w fun e w' => e = .returned (.bool true) ∧ Below w.heap.size w w' := by
  have := ref_any sA (by decide) w
  rw [a_ref] at this
  exact this
theorem aw_refx (w : World) : Calls Try.prog 21 #[.string ⟨#[120]⟩] w fun e w' => e = .returned (.bool false) ∧ Below w.heap.size w w' := by
  have := ref_any ⟨#[120]⟩ (by decide) w
  rw [x_ref] at this
  exact this
def nK : Nd := ⟨2, [1], eB, one16 sA⟩
theorem aw_kids (w : World) (a : Option Addr) (n c : Nat) : Calls Try.prog 19 #[.agg (ndC nK a n c)] w fun e w' => ∃ a cap, e = .returned (.slice a 1 cap) ∧ Below w.heap.size w w' := by
  refine (kids_any nK a n c rfl w).mono ?_
  rintro e w' ⟨a, n, cap, rfl, hs, hb⟩
  have : n = 1 := hs.len.symm.trans (by decide +kernel)
  subst this
  exact ⟨a, cap, rfl, hb⟩
theorem aw_leaf' (w : World) (b : Nat) (h : IsBs w (some ⟨b, 0, none⟩) 1 1 [1]) : Calls Try.prog 15 #[.slice (some ⟨b, 0, none⟩) 1 1, .string ⟨#[97]⟩] w fun e w' => ∃ a n c, e = .returned (.agg (ndC nA a n c)) ∧ IsBs w' a n c nA.p ∧ Below w.heap.size w w' := by
  refine (leaf_any _ 1 1 [1] (by decide) ⟨#[97]⟩ _ h).mono ?_
  rintro e w' ⟨a, n, c, rfl, hx, _, hb⟩
  exact ⟨a, n, c, rfl, hx.1, hb⟩
theorem aw_extk (w : World) (b : Nat) (h : IsBs w (some ⟨b, 0, none⟩) 1 1 [1]) : Calls Try.prog 16 #[.slice (some ⟨b, 0, none⟩) 1 1, .string ⟨#[194, 49, 97]⟩] w fun e w' => ∃ a n c, e = .returned (.agg (ndC nK a n c)) ∧ Below w.heap.size w w' := by
  refine (ext_any _ 1 1 [1] (by decide) ⟨#[194, 49, 97]⟩ _ h).mono ?_
  rintro e w' ⟨a, n, c, rfl, hx, _, hb⟩
  exact ⟨a, n, c, rfl, hb⟩
theorem glue : (⟨#[198, 130, 0, 35]⟩ : ByteArray) ++ ⟨#[194, 49, 97]⟩ = ⟨#[198, 130, 0, 35, 194, 49, 97]⟩ := by decide +kernel
def SW (w : World) (g : Nat) (N : Nd) (a : Option Addr) (n c : Nat) (w' : World) : Prop := OwnN w' g N a n c ∧ IsBs w' a n c N.p ∧ Below w.heap.size w w'
theorem SW.keep {w w1 w2 : World} {g : Nat} {N : Nd} {a : Option Addr} {n c : Nat} (h : SW w g N a n c w1) (hb : Below w1.heap.size w1 w2) : SW w g N a n c w2 := ⟨h.1.below hb, h.2.1.below hb, below_step' h.2.2 hb⟩

set_option maxHeartbeats 16000000 in
theorem awake_any (w : World) : Calls Try.prog 7 #[] w fun e w' => e = .returned (.bool true) ∧ Below w.heap.size w w' := by
  have HLf := Lib.hid aw_leaf
  have HPa := Lib.hid aw_puta
  have HGe := Lib.hid aw_get
  have HSm := Lib.hid aw_same
  have HLg := Lib.hid aw_leaf'
  have HEx := Lib.hid aw_ext
  have HPe := Lib.hid aw_pute
  have HEk := Lib.hid aw_extk
  have HKi := Lib.hid aw_kids
  have hNl : nA.ks.length = 16 := rfl
  obtain ⟨NA, hA⟩ : ∃ N, nA = N := ⟨_, rfl⟩
  obtain ⟨NE, hE⟩ : ∃ N, nE = N := ⟨_, rfl⟩
  obtain ⟨NK, hK⟩ : ∃ N, nK = N := ⟨_, rfl⟩
  rw [hA] at HLf HPa HGe HSm HLg hNl
  rw [hE] at HEx HPe
  rw [hK] at HEk HKi
  clear hA hE hK
  go_enter Try.func7, Try.ntmps7
  go_wp2_with fail
  refine (HLf.out _).mono ?_
  rintro e w1 ⟨a1, n1, c1, rfl, h1, hb1⟩
  have H1 := Lib.hid (HPa.out w1 a1 n1 c1 h1)
  have HB1 := Lib.hid hb1
  clear h1 hb1
  go_wp2_with fail
  refine H1.out.mono ?_
  rintro e w2 ⟨rfl, hb2⟩
  have HB2 := Lib.hid (below_step' HB1.out hb2)
  clear hb2 H1 HB1
  go_wp2_with fail
  refine (HGe.out _).mono ?_
  rintro e w3 ⟨a3, n3, c3, rfl, h3, hb3⟩
  have HO3 : Hid (OwnN (w3.alloc (.cells (ndC nd0 none 0 0) 25)) w3.heap.size nd0 none 0 0) := Lib.hid (Rg.Own.new _ _ _)
  obtain ⟨w4, hw4⟩ : ∃ w4, w4 = (w3.alloc (.cells (ndC nd0 none 0 0) 25)).setRow w3.heap.size (ndC NA a3 n3 c3) := ⟨_, rfl⟩
  have hsz4 : w4.heap.size = w3.heap.size + 1 := by rw [hw4]; simp
  have hb34 : Below w3.heap.size w3 w4 := by rw [hw4]; exact below_rowN (al1 _ _) (Nat.le_refl _) _
  have HO4 : Hid (OwnN w4 w3.heap.size NA a3 n3 c3) := Lib.hid (by rw [hw4]; exact own_rowN HO3.out)
  have H4 := Lib.hid (h3.below hb34)
  have HB4 := Lib.hid (below_step' (below_step' HB2.out hb3) hb34)
  clear h3 hb3 hb34 HB2
  go_wp2_with (first
    | (refine Rg.run rfl _ _ (run_alloc_nd _ _ _ w3.heap.size rfl rfl) ?_)
    | (refine wpl_store_nd HO3.out rfl NA a3 n3 c3 hNl rfl _ _ rfl rfl rfl rfl ?_))
  rw [← hw4]
  clear hw4 HO3
  have hx4 : IsBs (w4.alloc (.cells #[.int .u8 2, .int .u8 3] 5)) (some ⟨w4.heap.size, 0, none⟩) 2 2 [2, 3] := IsBs.new w4 [2, 3] (by unfold maxLen; decide) _ _ rfl
  rw [hsz4] at hx4
  with_reducible refine (HEx.out _ _ hx4).mono ?_
  rintro e w5 ⟨a5, n5, c5, rfl, h5, hb5⟩
  replace hb5 := below_step' (al1 w4 _) hb5
  clear hx4 hsz4
  have H5 := Lib.hid (HPe.out w5 a5 n5 c5 h5)
  have HO5 := Lib.hid (HO4.out.below hb5)
  have HP5 := Lib.hid (H4.out.below hb5)
  have HB5 := Lib.hid (below_step' HB4.out hb5)
  clear h5 hb5 HO4 H4 HB4
  go_wp2_with fail
  refine H5.out.mono ?_
  rintro e w6 ⟨rfl, hb6⟩
  have HO6 := Lib.hid (HO5.out.below hb6)
  have HP6 := Lib.hid (HP5.out.below hb6)
  have HB6 := Lib.hid (below_step' HB5.out hb6)
  obtain ⟨g, hg⟩ : ∃ g, w3.heap.size = g := ⟨_, rfl⟩
  rw [hg] at HO6 ⊢
  clear hb6 H5 HO5 HP5 HB5 hg
  go_wp2_with fail
  refine wp_region_noPanic ?_
  refine wp_region_held_drew (S := SW w g NA a3 n3 c3) (by kernel_rfl) (⟨HO6.out.drew, HP6.out.drewN 1, HB6.out.drew⟩) (fun hHeld => ?_)
  refine Rg.takeL (i := 0) (v := ?_) rfl (by kernel_rfl) (by kernel_rfl) (by kernel_rfl) (fun _ _ _ h => h) (Or.inl ⟨by rfl, ?_⟩) (by assumption) ?_
  rotate_left
  · (intro wz hSw; (try dsimp only at hSw); go_simp <;> with_reducible rfl)
  try simp only [Act.put, List.setIfInBounds_toArray, List.set_cons_zero, List.set_cons_succ]
  refine Rg.takeL (i := 1) (v := ?_) rfl (by kernel_rfl) (by kernel_rfl) (by kernel_rfl) (fun _ _ _ h => h) (Or.inl ⟨by rfl, ?_⟩) (by assumption) ?_
  rotate_left
  · (intro wz hSw; (refine op_eql_st ⟨#[194, 49, 97]⟩ ?_; exact ⟨_, _, rfl, rfl, rfl⟩))
  try simp only [Act.put, List.setIfInBounds_toArray, List.set_cons_zero, List.set_cons_succ]
  refine Rg.takeL (i := 2) (v := ?_) rfl (by kernel_rfl) (by kernel_rfl) (by kernel_rfl) (fun _ _ _ h => h) (Or.inl ⟨by rfl, ?_⟩) (by assumption) ?_
  rotate_left
  · (intro wz hSw; (try dsimp only at hSw); go_simp <;> with_reducible rfl)
  try simp only [Act.put, List.setIfInBounds_toArray, List.set_cons_zero, List.set_cons_succ]
  refine Rg.takeL (i := 3) (v := ?_) rfl (by kernel_rfl) (by kernel_rfl) (by kernel_rfl) (fun _ _ _ h => h) (Or.inl ⟨by rfl, ?_⟩) (by assumption) ?_
  rotate_left
  · (intro wz hSw; (try dsimp only at hSw); go_simp <;> with_reducible rfl)
  try simp only [Act.put, List.setIfInBounds_toArray, List.set_cons_zero, List.set_cons_succ]
  refine Rg.takeL (i := 4) (v := ?_) rfl (by kernel_rfl) (by kernel_rfl) (by kernel_rfl) (fun _ _ _ h => h) (Or.inl ⟨by rfl, ?_⟩) (by assumption) ?_
  rotate_left
  · (intro wz hSw; (try dsimp only at hSw); go_simp <;> with_reducible rfl)
  try simp only [Act.put, List.setIfInBounds_toArray, List.set_cons_zero, List.set_cons_succ]
  refine Rg.takeL (i := 5) (v := ?_) rfl (by kernel_rfl) (by kernel_rfl) (by kernel_rfl) (fun _ _ _ h => h) (Or.inl ⟨by rfl, ?_⟩) (by assumption) ?_
  rotate_left
  · (intro wz hSw; (try dsimp only at hSw); go_simp <;> with_reducible rfl)
  try simp only [Act.put, List.setIfInBounds_toArray, List.set_cons_zero, List.set_cons_succ]
  refine Rg.takeL (i := 6) (v := ?_) rfl (by kernel_rfl) (by kernel_rfl) (by kernel_rfl) (fun _ _ _ h => h) (Or.inl ⟨by rfl, ?_⟩) (by assumption) ?_
  rotate_left
  · (intro wz hSw; (try dsimp only at hSw); go_simp <;> with_reducible rfl)
  try simp only [Act.put, List.setIfInBounds_toArray, List.set_cons_zero, List.set_cons_succ]
  refine Rg.takeL (i := 7) (v := ?_) rfl (by kernel_rfl) (by kernel_rfl) (by kernel_rfl) (fun _ _ _ h => h) (Or.inl ⟨by rfl, ?_⟩) (by assumption) ?_
  rotate_left
  · (intro wz hSw; (try dsimp only at hSw); go_simp <;> with_reducible rfl)
  try simp only [Act.put, List.setIfInBounds_toArray, List.set_cons_zero, List.set_cons_succ]
  refine Rg.takeL (i := 8) (v := ?_) rfl (by kernel_rfl) (by kernel_rfl) (by kernel_rfl) (fun _ _ _ h => h) (Or.inl ⟨by rfl, ?_⟩) (by assumption) ?_
  rotate_left
  · (intro wz hSw; (try dsimp only at hSw); go_simp <;> with_reducible rfl)
  try simp only [Act.put, List.setIfInBounds_toArray, List.set_cons_zero, List.set_cons_succ]
  refine Rg.takeL (i := 9) (v := ?_) rfl (by kernel_rfl) (by kernel_rfl) (by kernel_rfl) (fun _ _ _ h => h) (Or.inl ⟨by rfl, ?_⟩) (by assumption) ?_
  rotate_left
  · (intro wz hSw; (try dsimp only at hSw); go_simp <;> with_reducible rfl)
  try simp only [Act.put, List.setIfInBounds_toArray, List.set_cons_zero, List.set_cons_succ]
  refine Rg.takeL (i := 10) (v := ?_) rfl (by kernel_rfl) (by kernel_rfl) (by kernel_rfl) (fun _ _ _ h => h) (Or.inl ⟨by rfl, ?_⟩) (by assumption) ?_
  rotate_left
  · (intro wz hSw; (try dsimp only at hSw); go_simp <;> with_reducible rfl)
  try simp only [Act.put, List.setIfInBounds_toArray, List.set_cons_zero, List.set_cons_succ]
  refine Rg.takeL (i := 11) (v := ?_) rfl (by kernel_rfl) (by kernel_rfl) (by kernel_rfl) (fun _ _ _ h => h) (Or.inl ⟨by rfl, ?_⟩) (by assumption) ?_
  rotate_left
  · (intro wz hSw; (refine op_load_nd hSw.1 hNl ?_; exact ⟨_, rfl, rfl⟩))
  try simp only [Act.put, List.setIfInBounds_toArray, List.set_cons_zero, List.set_cons_succ]
  refine wpAnyH_ready (rs := [12]) (by kernel_rfl) (by simp) ?_
  refine Rg.readyL (i := 12) rfl (fun K hK => ?_)
  refine Rl.meetOne (z := 1) (by rfl) ⟨_, rfl, rfl⟩ (by decide) ?_
  rintro wo12 b12 h12 hbx
  refine hK.out _ _ ?_ (fun hHeld => ?_)
  · exact hHeld.keep hbx
  clear hK K hbx
  try simp only [Act.put, List.setIfInBounds_toArray, List.set_cons_zero, List.set_cons_succ]
  refine wpAnyH_ready (rs := [13]) (by kernel_rfl) (by simp) ?_
  refine Rg.readyL (i := 13) rfl (fun K hK => ?_)
  go_simp
  go_at_call 15
  (with_reducible refine (HLg.out _ _ h12).mono ?_)
  rintro e wo13 ⟨a13, n13, c13, rfl, h13, hbx⟩
  refine hK.out _ _ ?_ (fun hHeld => ?_)
  · exact hHeld.keep hbx
  clear hK K hbx
  try simp only [Act.put, List.setIfInBounds_toArray, List.set_cons_zero, List.set_cons_succ]
  refine wpAnyH_ready (rs := [14]) (by kernel_rfl) (by simp) ?_
  refine Rg.readyL (i := 14) rfl (fun K hK => ?_)
  have hhp := hHeld.2.1
  go_simp
  go_at_call 20
  (with_reducible refine (HSm.out _ _ _ _ _ _ _ hhp h13).mono ?_)
  rintro e wo14 ⟨rfl, hbx⟩
  refine hK.out _ _ ?_ (fun hHeld => ?_)
  · exact hHeld.keep hbx
  clear hK K hbx
  try simp only [Act.put, List.setIfInBounds_toArray, List.set_cons_zero, List.set_cons_succ]
  refine Rg.takeL (i := 15) (v := ?_) rfl (by kernel_rfl) (by kernel_rfl) (by kernel_rfl) (fun _ _ _ h => h) (Or.inl ⟨by rfl, ?_⟩) (by assumption) ?_
  rotate_left
  · (intro wz hSw; (try dsimp only at hSw); go_simp <;> with_reducible rfl)
  try simp only [Act.put, List.setIfInBounds_toArray, List.set_cons_zero, List.set_cons_succ]
  refine Rg.takeL (i := 16) (v := ?_) rfl (by kernel_rfl) (by kernel_rfl) (by kernel_rfl) (fun _ _ _ h => h) (Or.inl ⟨by rfl, ?_⟩) (by assumption) ?_
  rotate_left
  · (intro wz hSw; (try dsimp only at hSw); go_simp <;> with_reducible rfl)
  try simp only [Act.put, List.setIfInBounds_toArray, List.set_cons_zero, List.set_cons_succ]
  refine Rg.takeL (i := 17) (v := ?_) rfl (by kernel_rfl) (by kernel_rfl) (by kernel_rfl) (fun _ _ _ h => h) (Or.inl ⟨by rfl, ?_⟩) (by assumption) ?_
  rotate_left
  · (intro wz hSw; (try dsimp only at hSw); go_simp <;> with_reducible rfl)
  try simp only [Act.put, List.setIfInBounds_toArray, List.set_cons_zero, List.set_cons_succ]
  refine Rg.takeL (i := 18) (v := ?_) rfl (by kernel_rfl) (by kernel_rfl) (by kernel_rfl) (fun _ _ _ h => h) (Or.inl ⟨by rfl, ?_⟩) (by assumption) ?_
  rotate_left
  · (intro wz hSw; (try dsimp only at hSw); go_simp <;> with_reducible rfl)
  try simp only [Act.put, List.setIfInBounds_toArray, List.set_cons_zero, List.set_cons_succ]
  refine Rg.takeL (i := 19) (v := ?_) rfl (by kernel_rfl) (by kernel_rfl) (by kernel_rfl) (fun _ _ _ h => h) (Or.inl ⟨by rfl, ?_⟩) (by assumption) ?_
  rotate_left
  · (intro wz hSw; (try dsimp only at hSw); go_simp <;> with_reducible rfl)
  try simp only [Act.put, List.setIfInBounds_toArray, List.set_cons_zero, List.set_cons_succ]
  refine Rg.takeL (i := 20) (v := ?_) rfl (by kernel_rfl) (by kernel_rfl) (by kernel_rfl) (fun _ _ _ h => h) (Or.inl ⟨by rfl, ?_⟩) (by assumption) ?_
  rotate_left
  · (intro wz hSw; (refine op_eql_st ⟨#[198, 130, 0, 35, 194, 49, 97]⟩ ?_; exact ⟨_, _, rfl, rfl, congrArg Value.string glue⟩))
  try simp only [Act.put, List.setIfInBounds_toArray, List.set_cons_zero, List.set_cons_succ]
  refine Rg.takeL (i := 21) (v := ?_) rfl (by kernel_rfl) (by kernel_rfl) (by kernel_rfl) (fun _ _ _ h => h) (Or.inl ⟨by rfl, ?_⟩) (by assumption) ?_
  rotate_left
  · (intro wz hSw; (try dsimp only at hSw); go_simp <;> with_reducible rfl)
  try simp only [Act.put, List.setIfInBounds_toArray, List.set_cons_zero, List.set_cons_succ]
  refine Rg.takeL (i := 22) (v := ?_) rfl (by kernel_rfl) (by kernel_rfl) (by kernel_rfl) (fun _ _ _ h => h) (Or.inl ⟨by rfl, ?_⟩) (by assumption) ?_
  rotate_left
  · (intro wz hSw; (try dsimp only at hSw); go_simp <;> with_reducible rfl)
  try simp only [Act.put, List.setIfInBounds_toArray, List.set_cons_zero, List.set_cons_succ]
  refine Rg.takeL (i := 23) (v := ?_) rfl (by kernel_rfl) (by kernel_rfl) (by kernel_rfl) (fun _ _ _ h => h) (Or.inl ⟨by rfl, ?_⟩) (by assumption) ?_
  rotate_left
  · (intro wz hSw; (try dsimp only at hSw); go_simp <;> with_reducible rfl)
  try simp only [Act.put, List.setIfInBounds_toArray, List.set_cons_zero, List.set_cons_succ]
  refine Rg.takeL (i := 24) (v := ?_) rfl (by kernel_rfl) (by kernel_rfl) (by kernel_rfl) (fun _ _ _ h => h) (Or.inl ⟨by rfl, ?_⟩) (by assumption) ?_
  rotate_left
  · (intro wz hSw; (try dsimp only at hSw); go_simp <;> with_reducible rfl)
  try simp only [Act.put, List.setIfInBounds_toArray, List.set_cons_zero, List.set_cons_succ]
  refine Rg.takeL (i := 25) (v := ?_) rfl (by kernel_rfl) (by kernel_rfl) (by kernel_rfl) (fun _ _ _ h => h) (Or.inl ⟨by rfl, ?_⟩) (by assumption) ?_
  rotate_left
  · (intro wz hSw; (try dsimp only at hSw); go_simp <;> with_reducible rfl)
  try simp only [Act.put, List.setIfInBounds_toArray, List.set_cons_zero, List.set_cons_succ]
  refine Rg.takeL (i := 26) (v := ?_) rfl (by kernel_rfl) (by kernel_rfl) (by kernel_rfl) (fun _ _ _ h => h) (Or.inl ⟨by rfl, ?_⟩) (by assumption) ?_
  rotate_left
  · (intro wz hSw; (try dsimp only at hSw); go_simp <;> with_reducible rfl)
  try simp only [Act.put, List.setIfInBounds_toArray, List.set_cons_zero, List.set_cons_succ]
  refine Rg.takeL (i := 27) (v := ?_) rfl (by kernel_rfl) (by kernel_rfl) (by kernel_rfl) (fun _ _ _ h => h) (Or.inl ⟨by rfl, ?_⟩) (by assumption) ?_
  rotate_left
  · (intro wz hSw; (try dsimp only at hSw); go_simp <;> with_reducible rfl)
  try simp only [Act.put, List.setIfInBounds_toArray, List.set_cons_zero, List.set_cons_succ]
  refine wpAnyH_ready (rs := [28]) (by kernel_rfl) (by simp) ?_
  refine Rg.readyL (i := 28) rfl (fun K hK => ?_)
  go_simp
  go_at_call 21
  (with_reducible refine (aw_refa _).mono ?_)
  rintro e wo28 ⟨rfl, hbx⟩
  refine hK.out _ _ ?_ (fun hHeld => ?_)
  · exact hHeld.keep hbx
  clear hK K hbx
  try simp only [Act.put, List.setIfInBounds_toArray, List.set_cons_zero, List.set_cons_succ]
  refine Rg.takeL (i := 29) (v := ?_) rfl (by kernel_rfl) (by kernel_rfl) (by kernel_rfl) (fun _ _ _ h => h) (Or.inl ⟨by rfl, ?_⟩) (by assumption) ?_
  rotate_left
  · (intro wz hSw; (try dsimp only at hSw); go_simp <;> with_reducible rfl)
  try simp only [Act.put, List.setIfInBounds_toArray, List.set_cons_zero, List.set_cons_succ]
  refine Rg.takeL (i := 30) (v := ?_) rfl (by kernel_rfl) (by kernel_rfl) (by kernel_rfl) (fun _ _ _ h => h) (Or.inl ⟨by rfl, ?_⟩) (by assumption) ?_
  rotate_left
  · (intro wz hSw; (try dsimp only at hSw); go_simp <;> with_reducible rfl)
  try simp only [Act.put, List.setIfInBounds_toArray, List.set_cons_zero, List.set_cons_succ]
  refine wpAnyH_ready (rs := [31]) (by kernel_rfl) (by simp) ?_
  refine Rg.readyL (i := 31) rfl (fun K hK => ?_)
  go_simp
  go_at_call 21
  (with_reducible refine (aw_refx _).mono ?_)
  rintro e wo31 ⟨rfl, hbx⟩
  refine hK.out _ _ ?_ (fun hHeld => ?_)
  · exact hHeld.keep hbx
  clear hK K hbx
  try simp only [Act.put, List.setIfInBounds_toArray, List.set_cons_zero, List.set_cons_succ]
  refine Rg.takeL (i := 32) (v := ?_) rfl (by kernel_rfl) (by kernel_rfl) (by kernel_rfl) (fun _ _ _ h => h) (Or.inl ⟨by rfl, ?_⟩) (by assumption) ?_
  rotate_left
  · (intro wz hSw; (try dsimp only at hSw); go_simp <;> with_reducible rfl)
  try simp only [Act.put, List.setIfInBounds_toArray, List.set_cons_zero, List.set_cons_succ]
  refine Rg.takeL (i := 33) (v := ?_) rfl (by kernel_rfl) (by kernel_rfl) (by kernel_rfl) (fun _ _ _ h => h) (Or.inl ⟨by rfl, ?_⟩) (by assumption) ?_
  rotate_left
  · (intro wz hSw; (try dsimp only at hSw); go_simp <;> with_reducible rfl)
  try simp only [Act.put, List.setIfInBounds_toArray, List.set_cons_zero, List.set_cons_succ]
  refine Rg.takeL (i := 34) (v := ?_) rfl (by kernel_rfl) (by kernel_rfl) (by kernel_rfl) (fun _ _ _ h => h) (Or.inl ⟨by rfl, ?_⟩) (by assumption) ?_
  rotate_left
  · (intro wz hSw; (try dsimp only at hSw); go_simp <;> with_reducible rfl)
  try simp only [Act.put, List.setIfInBounds_toArray, List.set_cons_zero, List.set_cons_succ]
  refine Rg.takeL (i := 36) (v := ?_) rfl (by kernel_rfl) (by kernel_rfl) (by kernel_rfl) (fun _ _ _ h => h) (Or.inl ⟨by rfl, ?_⟩) (by assumption) ?_
  rotate_left
  · (intro wz hSw; (try dsimp only at hSw); go_simp <;> with_reducible rfl)
  try simp only [Act.put, List.setIfInBounds_toArray, List.set_cons_zero, List.set_cons_succ]
  refine wpAnyH_ready (rs := [35]) (by kernel_rfl) (by simp) ?_
  refine Rg.readyL (i := 35) rfl (fun K hK => ?_)
  refine Rl.meetOne (z := 1) (by rfl) ⟨_, rfl, rfl⟩ (by decide) ?_
  rintro wo35 b35 h35 hbx
  refine hK.out _ _ ?_ (fun hHeld => ?_)
  · exact hHeld.keep hbx
  clear hK K hbx
  try simp only [Act.put, List.setIfInBounds_toArray, List.set_cons_zero, List.set_cons_succ]
  refine wpAnyH_ready (rs := [37]) (by kernel_rfl) (by simp) ?_
  refine Rg.readyL (i := 37) rfl (fun K hK => ?_)
  go_simp
  go_at_call 16
  (with_reducible refine (HEk.out _ _ h35).mono ?_)
  rintro e wo37 ⟨a37, n37, c37, rfl, hbx⟩
  refine hK.out _ _ ?_ (fun hHeld => ?_)
  · exact hHeld.keep hbx
  clear hK K hbx
  try simp only [Act.put, List.setIfInBounds_toArray, List.set_cons_zero, List.set_cons_succ]
  refine wpAnyH_ready (rs := [38]) (by kernel_rfl) (by simp) ?_
  refine Rg.readyL (i := 38) rfl (fun K hK => ?_)
  go_simp
  go_at_call 19
  (with_reducible refine (HKi.out _ _ _ _).mono ?_)
  rintro e wo38 ⟨a38, c38, rfl, hbx⟩
  refine hK.out _ _ ?_ (fun hHeld => ?_)
  · exact hHeld.keep hbx
  clear hK K hbx
  try simp only [Act.put, List.setIfInBounds_toArray, List.set_cons_zero, List.set_cons_succ]
  refine Rg.takeL (i := 39) (v := ?_) rfl (by kernel_rfl) (by kernel_rfl) (by kernel_rfl) (fun _ _ _ h => h) (Or.inl ⟨by rfl, ?_⟩) (by assumption) ?_
  rotate_left
  · (intro wz hSw; (try dsimp only at hSw); go_simp <;> with_reducible rfl)
  try simp only [Act.put, List.setIfInBounds_toArray, List.set_cons_zero, List.set_cons_succ]
  refine Rg.takeL (i := 40) (v := ?_) rfl (by kernel_rfl) (by kernel_rfl) (by kernel_rfl) (fun _ _ _ h => h) (Or.inl ⟨by rfl, ?_⟩) (by assumption) ?_
  rotate_left
  · (intro wz hSw; (try dsimp only at hSw); go_simp <;> with_reducible rfl)
  try simp only [Act.put, List.setIfInBounds_toArray, List.set_cons_zero, List.set_cons_succ]
  refine Rg.takeL (i := 41) (v := ?_) rfl (by kernel_rfl) (by kernel_rfl) (by kernel_rfl) (fun _ _ _ h => h) (Or.inl ⟨by rfl, ?_⟩) (by assumption) ?_
  rotate_left
  · (intro wz hSw; (try dsimp only at hSw); go_simp <;> with_reducible rfl)
  try simp only [Act.put, List.setIfInBounds_toArray, List.set_cons_zero, List.set_cons_succ]
  refine Rg.takeL (i := 42) (v := ?_) rfl (by kernel_rfl) (by kernel_rfl) (by kernel_rfl) (fun _ _ _ h => h) (Or.inl ⟨by rfl, ?_⟩) (by assumption) ?_
  rotate_left
  · (intro wz hSw; (try dsimp only at hSw); go_simp <;> with_reducible rfl)
  try simp only [Act.put, List.setIfInBounds_toArray, List.set_cons_zero]
  refine wpAnyH_done (by kernel_rfl) ?_ _
  refine NoPanic.normal ?_
  go_wp2
  go_ret
  exact ⟨rfl, hHeld.2.2⟩
end No
end Go.Proofs.Ytbdhncaiffepoaa
