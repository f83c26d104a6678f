/-
  Contracts of refs.clash and Clash: a map of sums.
-/
import Derived.Test.YtoeblhdddehemaaDoorMg26
import Derived.Maps.OwnSet
import Derived.Maps.OwnOps
namespace Go.Proofs.YtoeblhdddehemaaDoor
set_option maxRecDepth 20000
open Go.RowKit Go.Maps

namespace Rf
open Rl Ni No Sh Sm
theorem map_below {H : Type} {P : Program} {k : TypeId} {R : Value → Option (DataW H × List MemPlace)} {b n : Nat} {D : DataW H} {w w' : World} (h : w.ownsMap P k R b n D) (hb : Below w.heap.size w w') : w'.ownsMap P k R b n D := by
  have hlt := h.lt
  obtain ⟨es, clock, h1, h2⟩ := h
  exact ⟨es, clock, (hb.block b hlt).trans h1, h2⟩
theorem zero_int (w : World) : (zeroValue 3).run Tryd.prog w = .ok (.int .i64 0) w := by kernel_rfl
abbrev SumMap (w : World) (b n : Nat) (D : DataW Unit) : Prop := w.ownsMap Tryd.prog 28 (plainElem Tryd.prog 3) b n D
/-- a key that is there, at a place -/
theorem look_there {ops : Array Oper} {rest : List Oper} {o : Oper} {a : Act} {w : World} {Q : Exit → Act → World → Prop} (hg : o.guard = none) (m x : Operand) (hop : o.op = Op.lookup 81 m x true) {b n : Nat} {D : DataW Unit} (hown : SumMap w b n D)
    (hm : a.eval m = .map (some b)) {K : List UInt8} (hK : K.length = 32) (hx : a.eval x = .agg (kc K)) {j : Nat} (hh : Maps.has D (kl K) = true) (hat : ∀ z, D.atKey (kl K) z = .lit (.int .i64 (j : Nat)))
    (hQ : wpList Tryd.prog ops Q rest (a.put o.dst (.tuple #[.int .i64 (j : Nat), .bool true])) w) : wpList Tryd.prog ops Q (o :: rest) a w := by
  refine wpList_lookup_own_ok_int w hg m x 81 hop 28 3 .i64 lawSum Tryd.underlying81 Tryd.underlying3 (zero_int w) b n D hm hown _ (kl K) hx (keyOf_sum K hK) ?_
  intro c hc _
  rw [hat] at hc
  have e : (j : Int) = c := by simpa using hc
  rw [← e, hh]
  exact hQ
/-- a key that is not there -/
theorem look_none {ops : Array Oper} {rest : List Oper} {o : Oper} {a : Act} {w : World} {Q : Exit → Act → World → Prop} (hg : o.guard = none) (m x : Operand) (hop : o.op = Op.lookup 81 m x true) {b n : Nat} {D : DataW Unit} (hown : SumMap w b n D)
    (hm : a.eval m = .map (some b)) {K : List UInt8} (hK : K.length = 32) (hx : a.eval x = .agg (kc K)) (hh : Maps.has D (kl K) = false)
    (hQ : wpList Tryd.prog ops Q rest (a.put o.dst (.tuple #[.int .i64 0, .bool false])) w) : wpList Tryd.prog ops Q (o :: rest) a w := by
  refine wpList_lookup_own_ok_int w hg m x 81 hop 28 3 .i64 lawSum Tryd.underlying81 Tryd.underlying3 (zero_int w) b n D hm hown _ (kl K) hx (keyOf_sum K hK) ?_
  intro c hc _
  rw [atKey_of_not_has hh] at hc
  have e : (0 : Int) = c := by simpa using hc
  rw [← e, hh]
  exact hQ
/-- a key is stored -/
theorem lay_key {ops : Array Oper} {rest : List Oper} {o : Oper} {a : Act} {w : World} {Q : Exit → Act → World → Prop} (hg : o.guard = none) (m x v : Operand) (hop : o.op = Op.mapUpdate 81 m x v) {b n : Nat} {D : DataW Unit} (hown : SumMap w b n D) (hn : n < maxLen)
    (hm : a.eval m = .map (some b)) {K : List UInt8} (hK : K.length = 32) (hx : a.eval x = .agg (kc K)) {j : Nat} (hj : j ≤ maxLen) (hv : a.eval v = .int .i64 (j : Nat))
    (hQ : ∀ w', SumMap w' b (n + 1) (D.put (kl K) (.lit (.int .i64 (j : Nat)))) → w.grownBy w' (some b) → wpList Tryd.prog ops Q rest (a.put o.dst undef) w') : wpList Tryd.prog ops Q (o :: rest) a w :=
  wpList_mapUpdate_own w hg m x v 81 hop 28 3 lawSum Tryd.underlying81 (plainElem Tryd.prog 3) b n D hm hown hn _ _ (kl K) hx hv (keyOf_sum K hK) _ [] (plainElem_int Tryd.underlying3 (WalkArith.wf_i64 (by unfold maxLen at hj; omega))) hQ

set_option maxHeartbeats 8000000 in
theorem clash_any (xs : List ByteArray) (hx : ∀ k ∈ xs, k.size ≤ 900000) (a : Option Addr) (n cap : Nat) (w : World) (h : IsSt w a n cap xs) (hn : n < maxLen) (hT : Tab w) :
    Calls Tryd.prog 32 #[.slice a n cap, .func (Fn.func 26) #[] #[]] w fun e w' => ∃ (i k : Nat) (c : Bool), e = .returned (.tuple #[.int .i64 i, .int .i64 k, .bool c]) ∧ ClashOk xs i k c ∧ Below w.heap.size w w' := by
  have hm := h.2.1
  have hnc := h.1
  have hl := h.len
  have h0 := hT.pos
  have hn' := hn
  unfold maxLen at hm hn'
  have H := Lib.hid h
  have HL := Lib.hid hl
  have HX := Lib.hid hx
  have HT := Lib.hid hT
  have HN := Lib.hid hn
  clear h hl hx hT hn
  have hmm := @run_makeMap Tryd.prog
  go_enter Tryd.func32, Tryd.ntmps32
  go_wp2
  go_loopw [16] (fun i wr => ∃ (j : Nat) (D : DataW Unit), j ≤ n ∧ i = .int .i64 j ∧ Hid (Seen xs j D) ∧ Hid (SumMap wr w.heap.size j D) ∧ Hid (Below w.heap.size w wr)) (fun i _ => n - (intOf i).toNat)
  case atStart => exact ⟨0, .map [], Nat.zero_le _, rfl, Lib.hid (seen_none xs), Lib.hid (World.ownsMap_made _ _ _ _), Lib.hid (al1 _ _)⟩
  case round =>
    obtain ⟨j, D, hj, rfl, HS, HO, HB⟩ := hrel
    by_cases hlt : j < n
    · obtain ⟨b, off, rfl, hblt, hcj⟩ := H.out.at' j hlt
      have hc' := (Below.cell (p := ⟨b, off + j, none⟩) HB.out hblt).trans hcj
      have HM : Hid (j < xs.length) := Lib.hid (by rw [HL.out]; exact hlt)
      have hxm : xs.getD j eB ∈ xs := by
        have e : xs.getD j eB = xs[j]'HM.out := by simp [List.getD, HM.out]
        rw [e]; exact List.getElem_mem HM.out
      have HOf := Lib.hid (sum_of (xs.getD j eB) (HX.out _ hxm) wr (HT.out.below HB.out h0))
      have HKl := Lib.hid (sumB_length (xs.getD j eB))
      obtain ⟨K, hK⟩ : ∃ K, sumB (xs.getD j eB) = K := ⟨_, rfl⟩
      rw [hK] at HOf HKl
      obtain ⟨X, hX⟩ : ∃ X, xs.getD j eB = X := ⟨_, rfl⟩
      rw [hX] at HOf hc'
      have HK := Lib.hid hK
      have HXj := Lib.hid hX
      clear hcj hxm hK hX
      go_wp2_with fail
      refine HOf.out.mono ?_
      rintro e w1 ⟨rfl, hb1⟩
      obtain ⟨hn1, hB1, hx1⟩ := box (below_step' HB.out hb1) K
      have HO1 : Hid (SumMap ((w1.alloc (.cells (kc zk) 28)).setRow w1.heap.size (kc K)) w.heap.size j D) := Lib.hid (map_below (map_below HO.out hb1) hx1)
      have HB1 := Lib.hid hB1
      have HN1 := Lib.hid hn1
      clear hn1 hx1 hb1 HO HB HOf hc' hB1
      cases hh : Maps.has D (kl K) with
      | false =>
        have Hh := Lib.hid hh
        have HS' := Lib.hid (HS.out.new (by rw [HK.out]; exact hh))
        rw [HK.out] at HS'
        clear hh
        go_wp2_with (first
        | (refine wpList_run rfl _ _ (run_alloc_sum _ _ rfl _ _ rfl) ?_)
          | (refine wpList_store_rowTo rfl 28 _ _ rfl rfl _ (kc K) rfl rfl 28 (kc zk) (box_cells _) (info_kc K HKl.out) (by rw [kc_size, kc_size, HKl.out]; rfl) (kc_one _) ?_)
          | (refine Rg.runW (by rfl) _ _ (run_load_sum _ _ _ w1.heap.size K HKl.out ⟨_, rfl, rfl⟩ HN1.out) ?_)
          | (at_lookup; refine look_none rfl _ _ rfl HO1.out rfl HKl.out rfl Hh.out ?_)
          | (at_mapUpdate; refine lay_key rfl _ _ _ rfl HO1.out (by unfold maxLen; omega) rfl HKl.out rfl (by unfold maxLen; omega) rfl ?_; intro w3 hown3 hgrow3))
        have HB3 : Hid (Below w.heap.size w w3) := Lib.hid (HB1.out.grown hgrow3 HB1.out.size (fun k hk => by cases hk; exact Nat.le_refl _))
        go_roundw
        case rel => exact ⟨j + 1, _, by omega, by go_num, HS', Lib.hid hown3, HB3⟩
        case measure => simp [intOf]; omega
      | true =>
        have Hh := Lib.hid hh
        obtain ⟨j0, hj0, he0, hat0⟩ := HS.out.2.2.1 K HKl.out hh
        have HAt := Lib.hid hat0
        have HE0 := Lib.hid he0
        obtain ⟨b0, off0, hbo, _, hc0⟩ := H.out.at' j0 (by omega)
        obtain ⟨rfl, rfl⟩ : b = b0 ∧ off = off0 := by simpa using hbo
        have hc0' := (Below.cell (p := ⟨b, off + j0, none⟩) HB1.out hblt).trans hc0
        obtain ⟨X0, hX0⟩ : ∃ X, xs.getD j0 eB = X := ⟨_, rfl⟩
        rw [hX0] at hc0'
        have HX0 := Lib.hid hX0
        clear hh hat0 he0 hc0 hX0 hbo
        by_cases hq : X0 = X
        · subst hq
          have HS' : Hid (Seen xs (j + 1) D) := Lib.hid (HS.out.again hj0 (by rw [HE0.out, HK.out]) (by rw [HX0.out, HXj.out]))
          go_wp2_with (first
        | (refine wpList_run rfl _ _ (run_alloc_sum _ _ rfl _ _ rfl) ?_)
          | (refine wpList_store_rowTo rfl 28 _ _ rfl rfl _ (kc K) rfl rfl 28 (kc zk) (box_cells _) (info_kc K HKl.out) (by rw [kc_size, kc_size, HKl.out]; rfl) (kc_one _) ?_)
          | (refine Rg.runW (by rfl) _ _ (run_load_sum _ _ _ w1.heap.size K HKl.out ⟨_, rfl, rfl⟩ HN1.out) ?_)
          | (at_lookup; refine look_there rfl _ _ rfl HO1.out rfl HKl.out rfl Hh.out HAt.out ?_))
          go_roundw
          case rel => exact ⟨j + 1, D, by omega, by go_num, HS', Lib.hid (HO1.out.mono (by omega)), HB1⟩
          case measure => simp [intOf]; omega
        · have hs : (X0.toList == X.toList) = false := by rw [str_eq, decide_eq_false hq]
          have HF : Hid (ClashOk xs j0 j true) := Lib.hid ⟨hj0, HM.out, by rw [HE0.out, HK.out], by rw [HX0.out, HXj.out]; exact hq⟩
          clear hq
          go_wp2_with (first
        | (refine wpList_run rfl _ _ (run_alloc_sum _ _ rfl _ _ rfl) ?_)
          | (refine wpList_store_rowTo rfl 28 _ _ rfl rfl _ (kc K) rfl rfl 28 (kc zk) (box_cells _) (info_kc K HKl.out) (by rw [kc_size, kc_size, HKl.out]; rfl) (kc_one _) ?_)
          | (refine Rg.runW (by rfl) _ _ (run_load_sum _ _ _ w1.heap.size K HKl.out ⟨_, rfl, rfl⟩ HN1.out) ?_)
          | (at_lookup; refine look_there rfl _ _ rfl HO1.out rfl HKl.out rfl Hh.out HAt.out ?_))
          go_ret3
          exact ⟨j0, j, true, rfl, HF.out, HB1.out⟩
    · obtain rfl : j = n := by omega
      have HF : Hid (ClashOk xs 0 0 false) := Lib.hid ⟨rfl, rfl, fun a b ha hb e => HS.out.2.2.2 a b (by rw [← HL.out]; exact ha) (by rw [← HL.out]; exact hb) e⟩
      go_wp2
      go_ret3
      exact ⟨0, 0, false, rfl, HF.out, HB.out⟩
theorem fclash_any (xs : List ByteArray) (hx : ∀ k ∈ xs, k.size ≤ 900000) (a : Option Addr) (n cap : Nat) (w : World) (h : IsSt w a n cap xs) (hn : n < maxLen) (hT : Tab w) :
    Calls Tryd.prog 18 #[.slice a n cap] w fun e w' => ∃ (i k : Nat) (c : Bool), e = .returned (.tuple #[.int .i64 i, .int .i64 k, .bool c]) ∧ ClashOk xs i k c ∧ Below w.heap.size w w' := by
  have HC := Lib.hid (clash_any xs hx a n cap w h hn hT)
  clear h hn hT hx
  go_enter Tryd.func18, Tryd.ntmps18
  go_wp2_with fail
  refine HC.out.mono ?_
  rintro e w1 ⟨i, k, c, rfl, hok, hb⟩
  have HOk := Lib.hid hok
  have HB := Lib.hid hb
  clear hok hb
  go_wp2
  go_ret3
  exact ⟨i, k, c, rfl, HOk.out, HB.out⟩
end Rf
end Go.Proofs.YtoeblhdddehemaaDoor
