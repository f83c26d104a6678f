/-
  Layer 12: the contract of the plain answer's Texts.
-/
import Derived.Test.YtlembfhdljmcoaaDoorMb1
import Derived.BigQuiet
import Derived.LoopN
import Derived.Laws.Rows
import Derived.Deep.QuietTactic
import Derived.Test.YtlembfhdljmcoaaDoorRows
import Derived.WalkKit
import Derived.WalkSpells
import Derived.WalkLawsBesides
import Derived.Lib.Hide
import Derived.RegionTactic
import Derived.Lib.Strings
import Derived.Lib.Slices
import Derived.Lib.Walk
import Derived.Lib.Builder
import Derived.Lib.AppendStr
import Derived.Lib.UnsafeStr
import Derived.Laws.Externs
import Derived.Lib.OthersKept
import Derived.Laws.BitsAllLaws
import Derived.IntWalk
import Derived.Laws.NewBlocks
set_option linter.unusedSimpArgs false
set_option linter.unusedVariables false
namespace Go.Proofs.YtlembfhdljmcoaaDoor
set_option maxRecDepth 20000
open Go.RowKit

namespace Bd
open Rf
/-- texts in a row of the call's own -/
def RowT (B : Nat) (w : World) (v : Value) (l : List ByteArray) : Prop := w.ownsRow B 9 1 v l.length (l.map Value.string)
theorem RowT.nil (B : Nat) (w : World) : RowT B w (.slice none 0 0) [] := World.ownsRow_nil _ _ _ _
theorem RowT.same {B : Nat} {w w' : World} {v : Value} {l : List ByteArray} (h : RowT B w v l) (hk : ∀ k, v.ownBlock = some k → w'.heap[k]? = w.heap[k]?) : RowT B w' v l := by
  obtain ⟨h1, h2⟩ := h
  refine ⟨h1, ?_⟩
  rcases h2 with h2 | ⟨g, cap, cur, rfl, hg, hh, hr⟩
  · exact .inl h2
  · exact .inr ⟨g, cap, cur, rfl, hg, (hk g rfl).trans hh, hr⟩
theorem RowT.below {B : Nat} {w w' : World} {v : Value} {l : List ByteArray} (h : RowT B w v l) (hb : Below w.heap.size w w') : RowT B w' v l :=
  RowT.same h fun k e => hb.block k (World.ownsRow.lt h k e).2
theorem op_lit_st {ev : Operand → Value} {o : Oper} {w : World} {s : ByteArray} (b : Nat) (hb : b = w.heap.size) (ho : ∃ y, o.op = .buildSlice 35 1 #[(0, y)] ∧ ev y = .string s) :
    (execOp ev o).run Tryd.prog w = .ok (.value (.slice (some ⟨b, 0, none⟩) 1 1)) (w.alloc (.cells #[.string s] 9)) := by
  obtain ⟨y, ho, hx⟩ := ho
  subst hb
  unfold execOp
  simp only [ho, List.map_toArray, List.map_cons, List.map_nil, hx]
  kernel_rfl
/-- a text is appended -/
theorem wpl_push_st {ops : Array Oper} {rest : List Oper} {o : Oper} {a : Go.Act} {w : World} {Q : Exit → Go.Act → World → Prop} {B b : Nat} {v : Value} {xs : List ByteArray} {y : ByteArray} (hgd : o.guard = none) (s x : Operand) (ho : o.op = .call { callee := .builtin .append, args := #[s, x], argTypes := #[35, 35] })
    (hs : a.eval s = v) (hx : a.eval x = .slice (some ⟨b, 0, none⟩) 1 1) (hR : RowT B w v xs) (hO : Rg.Own w b #[.string y] 9) (hn : xs.length + 1 ≤ 1000000) (hB : B ≤ w.heap.size)
    (h : ∀ v' w', RowT B w' v' (xs ++ [y]) → w.grownBy w' v.ownBlock → wpList Tryd.prog ops Q rest (a.put o.dst v') w') : wpList Tryd.prog ops Q (o :: rest) a w := by
  obtain ⟨i0, hi, hz, hsz, hby⟩ := info_st_parts
  refine wpList_append_own_at w hgd s x 35 ho B 9 i0 (.string ⟨#[]⟩) 1 16 Tryd.underlying35 hi hz hsz hby rfl (by decide) v xs.length _ hs hR ⟨b, 0, none⟩ 1 1 [.string y] hx rfl (fun j u hu => ?_) (fun u hu => by simp at hu; subst hu; rfl) (by unfold maxLen; omega) (by omega) hB (fun v' w' h1 h2 _ _ => h v' w' ?_ h2)
  · match j, hu with
    | 0, hu => rw [Addr.add_mid]; exact own_at hO hu
  · unfold RowT
    rw [List.length_append, List.map_append]
    exact h1
/-- texts are handed back -/
def GotTx (w : World) (l : List ByteArray) (e : Ending) (w' : World) : Prop := ∃ a cap, e = .returned (.slice a l.length cap) ∧ IsSt w' a l.length cap l ∧ Below w.heap.size w w'
theorem has_step {T : List ByteArray} {s : ByteArray} {k : Nat} (h : k < T.length) : hasT (T.take (k + 1)) s = (hasT (T.take k) s || decide (T.getD k eB = s)) := by
  have e : T.getD k eB = T[k] := by simp [List.getD, h]
  unfold hasT
  rw [List.take_succ_eq_append_getElem h, List.any_append, e]
  simp
set_option maxHeartbeats 8000000 in
theorem rtexts_any (l : List Rw) (a : Option Addr) (n c : Nat) (w : World) (h : IsRw w a n c l) (hn : n ≤ 1000) :
    Calls Tryd.prog 12 #[.slice a n c] w (GotTx w (textsR l)) := by
  have hm := h.2.1
  have hnc := h.1
  have hl := h.len
  unfold maxLen at hm
  have H := Lib.hid h
  have HL := Lib.hid hl
  clear h hl
  go_enter Tryd.func12, Tryd.ntmps12
  go_wp2
  go_loopw [3, 4] (fun v i wr => ∃ j : Nat, j ≤ n ∧ i = .int .i64 j ∧ Hid (RowT w.heap.size wr v (textsR (l.take j))) ∧ Hid (Below w.heap.size w wr)) (fun _ i _ => n - (intOf i).toNat)
  case atStart => exact ⟨0, Nat.zero_le _, rfl, Lib.hid (RowT.nil _ _), Lib.hid (Below.refl _ _)⟩
  case round =>
    obtain ⟨j, hj, rfl, HR, HB⟩ := hrel
    by_cases hlt : j < n
    · obtain ⟨b, off, rfl, hblt, c0, c1, c2⟩ := (H.out.below HB.out).at' j hlt
      have hjl : j < l.length := by rw [HL.out]; exact hlt
      have HS := Lib.hid (texts_snoc (l := l) hjl)
      have HK : Hid ((textsR (l.take j)).length ≤ j) := Lib.hid (texts_len l j (by omega))
      have hsz : w.heap.size ≤ wr.heap.size := HB.out.size
      clear hjl c0 c1
      obtain ⟨s, hs⟩ : ∃ s, (l.getD j rw0).s = s := ⟨_, rfl⟩
      obtain ⟨T, hT⟩ : ∃ T, textsR (l.take j) = T := ⟨_, rfl⟩
      rw [hs] at c2 HS
      rw [hT] at HR HK HS
      clear hs hT
      have HC := Lib.hid c2
      obtain ⟨ta, tc, rfl, hT⟩ := IsSt.ofOwn HR.out
      have HT := Lib.hid hT
      have htm := hT.2.1
      have htc := hT.1
      unfold maxLen at htm
      clear hT c2
      obtain ⟨m, hm'⟩ : ∃ m, T.length = m := ⟨_, rfl⟩
      rw [hm'] at HT HK htc
      have HM := Lib.hid hm'
      have HR' : Hid (RowT w.heap.size wr (.slice ta m tc) T) := Lib.hid (by have := HR.out; rw [hm'] at this; exact this)
      rw [hm']
      clear hm' HR
      obtain ⟨wo, rfl⟩ : ∃ wo, wo = wr := ⟨_, rfl⟩
      go_wp2
      go_loopw [5, 6] (fun is i wq => ∃ k : Nat, k ≤ m ∧ i = .int .i64 k ∧ is = .bool (hasT (T.take k) s) ∧ Hid (Below wo.heap.size wo wq)) (fun _ i _ => m - (intOf i).toNat)
      case atStart => exact ⟨0, Nat.zero_le _, rfl, rfl, Lib.hid (Below.refl _ _)⟩
      case round =>
        obtain ⟨k, hk, rfl, rfl, HQ⟩ := hrel
        by_cases hkm : k < m
        · have HS2 := Lib.hid (has_step (T := T) (s := s) (k := k) (by rw [HM.out]; exact hkm))
          obtain ⟨tb, toff, rfl, hbt, ck⟩ := HT.out.at' k hkm
          have d1 := (Below.cell (p := ⟨tb, toff + k, none⟩) HQ.out hbt).trans ck
          have d2 := (Below.cell (p := ⟨b, off + j * 3 + 2, none⟩) HQ.out hblt).trans HC.out
          obtain ⟨t, ht⟩ : ∃ t, T.getD k eB = t := ⟨_, rfl⟩
          rw [ht] at d1 HS2
          obtain ⟨q, hq⟩ : ∃ q, hasT (T.take k) s = q := ⟨_, rfl⟩
          rw [hq] at HS2 ⊢
          clear ht hq ck
          cases q with
          | true =>
            have HS3 : Hid (hasT (T.take (k + 1)) s = true) := Lib.hid (by rw [HS2.out]; rfl)
            clear HS2
            go_wp2
            go_quiet (fail)
            go_wp2
            go_roundw
            case rel => exact ⟨k + 1, by omega, by go_num, by rw [HS3.out], Lib.hid (below_drewN HQ.out _)⟩
            case measure => simp [intOf]; omega
          | false =>
            by_cases hts : t = s
            · have q2 : (t.toList == s.toList) = true := by rw [str_eq, decide_eq_true hts]
              have HS3 : Hid (hasT (T.take (k + 1)) s = true) := Lib.hid (by rw [HS2.out, decide_eq_true hts]; rfl)
              clear HS2 hts
              go_wp2
              go_quiet (fail)
              go_wp2
              go_roundw
              case rel => exact ⟨k + 1, by omega, by go_num, by rw [HS3.out], Lib.hid (below_drewN HQ.out _)⟩
              case measure => simp [intOf]; omega
            · have q2 : (t.toList == s.toList) = false := by rw [str_eq, decide_eq_false hts]
              have HS3 : Hid (hasT (T.take (k + 1)) s = false) := Lib.hid (by rw [HS2.out, decide_eq_false hts]; rfl)
              clear HS2 hts
              go_wp2
              go_quiet (fail)
              go_wp2
              go_roundw
              case rel => exact ⟨k + 1, by omega, by go_num, by rw [HS3.out], Lib.hid (below_drewN HQ.out _)⟩
              case measure => simp [intOf]; omega
        · obtain rfl : k = m := by omega
          have hT' : T.take k = T := List.take_of_length_le (by rw [HM.out]; exact Nat.le_refl _)
          rw [hT']
          obtain ⟨q, hq⟩ : ∃ q, hasT T s = q := ⟨_, rfl⟩
          have HS' : Hid (textsR (l.take (j + 1)) = if q = true then T else T ++ [s]) := Lib.hid (by rw [HS.out]; unfold addT; rw [hq])
          rw [hq]
          have HBq : Hid (Below w.heap.size w wr) := Lib.hid (HB.out.trans (HQ.out.mono hsz))
          clear hT' hq HS
          cases q with
          | true =>
            go_wp2
            go_roundw
            case rel => exact ⟨j + 1, by omega, by go_num, Lib.hid (by rw [HS'.out, if_pos rfl]; exact RowT.below HR'.out HQ.out), HBq⟩
            case measure => simp [intOf]; omega
          | false =>
            have d2 := (Below.cell (p := ⟨b, off + j * 3 + 2, none⟩) HQ.out hblt).trans HC.out
            have HRa : Hid (RowT w.heap.size (wr.alloc (.cells #[.string s] 9)) (.slice ta k tc) T) := Lib.hid (RowT.below (RowT.below HR'.out HQ.out) (al1 _ _))
            have HOa := Lib.hid (Rg.Own.new wr #[.string s] 9)
            have hq : T.length + 1 ≤ 1000000 := by have := HK.out; have := HM.out; omega
            have hs3 : w.heap.size ≤ (wr.alloc (.cells #[.string s] 9)).heap.size := by have := HBq.out.size; simp; omega
            have HLT : Hid (∀ g, (Value.slice ta k tc).ownBlock = some g → w.heap.size ≤ g ∧ g < (wr.alloc (.cells #[.string s] 9)).heap.size) := Lib.hid (World.ownsRow.lt HRa.out)
            go_wp2_with (first
              | (refine Rg.run rfl _ _ (op_lit_st (s := s) wr.heap.size rfl ⟨_, rfl, rfl⟩) ?_)
              | (at_builtin; refine wpl_push_st (B := w.heap.size) (xs := T) (y := s) rfl _ _ rfl rfl rfl HRa.out HOa.out hq hs3 ?_))
            intro v' w5 hown2 hgrow
            go_wp2
            go_roundw
            case rel => exact ⟨j + 1, by omega, by go_num, Lib.hid (by rw [HS'.out, if_neg (by decide)]; exact hown2), Lib.hid (Below.grown (HBq.out.alloc HBq.out.size _) hgrow hs3 (fun g hg => (HLT.out g hg).1))⟩
            case measure => simp [intOf]; omega
    · obtain rfl : j = n := by omega
      have hO := HR.out
      rw [List.take_of_length_le (by rw [HL.out]; exact Nat.le_refl _)] at hO
      obtain ⟨a', cap', rfl, hb⟩ := IsSt.ofOwn hO
      have HBq := Lib.hid hb
      clear hO hb
      go_wp2
      go_ret
      exact ⟨a', cap', rfl, HBq.out, HB.out⟩
end Bd
end Go.Proofs.YtlembfhdljmcoaaDoor

/-
  Layer 12: the contract of the plain answer's Put.
-/
namespace Go.Proofs.YtlembfhdljmcoaaDoor
set_option maxRecDepth 20000
open Go.RowKit

namespace Bd
open Rf
theorem RowW.split {B : Nat} {w : World} {v : Value} {l : List Rw} (h : RowW B w v l) (h0 : 0 < l.length) : ∃ g cap cur, v = .slice (some ⟨g, 0, none⟩) l.length cap ∧ B ≤ g ∧ Rg.Own w g cur 58 ∧ l.length ≤ cap ∧ cap ≤ maxLen ∧ cur.size = cap * 3 ∧ cur.toList.take (l.length * 3) = rowR l := by
  rcases h.2 with ⟨_, hz⟩ | ⟨g, cap, cur, e, hb, hg, h1, h2, h3, h4⟩
  · omega
  · exact ⟨g, cap, cur, e, hb, ⟨(Array.getElem?_eq_some_iff.1 hg).1, hg⟩, h1, h2, h3, h4⟩
theorem RowW.join {B : Nat} {w : World} {l : List Rw} {g cap : Nat} {cur : Array Value} (hb : B ≤ g) (hg : Rg.Own w g cur 58) (h1 : l.length ≤ cap) (h2 : cap ≤ maxLen) (h3 : cur.size = cap * 3) (h4 : cur.toList.take (l.length * 3) = rowR l) : RowW B w (.slice (some ⟨g, 0, none⟩) l.length cap) l :=
  ⟨rowR_len l, .inr ⟨g, cap, cur, rfl, hb, hg.2, h1, h2, h3, h4⟩⟩
theorem rowR_set : ∀ (l : List Rw) (k : Nat) (m : Int), k < l.length → rowR (l.set k { l.getD k rw0 with n := m }) = (rowR l).set (k * 3 + 1) (.int .i64 m)
  | [], _, _, h => absurd h (Nat.not_lt_zero _)
  | x :: l, 0, m, _ => rfl
  | x :: l, k + 1, m, h => by
    have ih := rowR_set l k m (by simpa using h)
    show rwC x ++ rowR (l.set k { l.getD k rw0 with n := m }) = (rwC x ++ rowR l).set ((k + 1) * 3 + 1) _
    rw [ih, List.set_append_right _ _ (by show 3 ≤ _; omega)]
    show _ = rwC x ++ (rowR l).set ((k + 1) * 3 + 1 - 3) _
    rw [show (k + 1) * 3 + 1 - 3 = k * 3 + 1 by omega]
theorem op_lit_rw0 {ev : Operand → Value} {o : Oper} {w : World} (b : Nat) (hb : b = w.heap.size) (ho : o.op = .buildSlice 26 0 #[]) :
    (execOp ev o).run Tryd.prog w = .ok (.value (.slice (some ⟨b, 0, none⟩) 0 0)) (w.alloc (.cells #[] 58)) := by
  subst hb
  unfold execOp
  rw [ho]
  kernel_rfl
theorem RowW.zero {B : Nat} (w : World) (hB : B ≤ w.heap.size) : RowW B (w.alloc (.cells #[] 58)) (.slice (some ⟨w.heap.size, 0, none⟩) 0 0) [] :=
  RowW.join (l := []) hB (Rg.Own.new w #[] _) (Nat.le_refl _) (Nat.zero_le _) rfl rfl
set_option maxHeartbeats 8000000 in
theorem rput_any (l : List Rw) (a : Option Addr) (n c : Nat) (e : Int) (s : ByteArray) (w : World) (h : IsRw w a n c l) (hn : n ≤ 1000) (hN : ∀ x ∈ l, 1 ≤ x.n ∧ x.n ≤ 1000000) :
    Calls Tryd.prog 16 #[.slice a n c, .int .i64 e, .string s] w (GotRw w (putR l e s)) := by
  have hm := h.2.1
  have hnc := h.1
  have hl := h.len
  unfold maxLen at hm
  have H := Lib.hid (h.below (al1 w (.cells #[] 58)))
  have HZ := Lib.hid (RowW.zero (B := w.heap.size) w (Nat.le_refl _))
  have HBz : Hid (Below w.heap.size w (w.alloc (.cells #[] 58))) := Lib.hid (al1 _ _)
  have HL := Lib.hid hl
  have HNN := Lib.hid hN
  have hq : 0 + n ≤ 1000000 := by omega
  have hs0 : w.heap.size ≤ (w.alloc (.cells #[] 58)).heap.size := by simp
  clear h hl hN
  go_enter Tryd.func16, Tryd.ntmps16
  go_wp2_with (first
    | (refine Rg.run rfl _ _ (op_lit_rw0 w.heap.size rfl rfl) ?_)
    | (at_builtin; refine wpl_append_rw (B := w.heap.size) (nx := 0) (xs := []) (ys := l) rfl _ _ rfl rfl rfl HZ.out H.out hq hs0 ?_; intro v1 w1 hR1 hg1 _; have HR1 : Hid (RowW w.heap.size w1 v1 l) := Lib.hid (by unfold RowW; rw [HL.out]; rw [Nat.zero_add] at hR1; exact hR1); have HB1 : Hid (Below w.heap.size w w1) := Lib.hid (HBz.out.grown hg1 hs0 (fun g hg => (World.ownsRow.lt HZ.out g hg).1)); clear hR1 hg1; obtain ⟨a1, c1, rfl, hI1, _⟩ := IsRw.ofOwn HR1.out; have HF1 := Lib.hid (rfind_any l a1 l.length c1 e s w1 hI1); have HI1 := Lib.hid hI1; clear hI1))
  refine HF1.out.mono ?_
  rintro en w2 ⟨rfl, rfl⟩
  clear HF1 HZ HBz H hs0 hq
  by_cases hp : posR l e s < l.length
  · have hf : findR l e s = (posR l e s : Int) := by unfold findR; rw [if_pos hp]
    have HP : Hid (putR l e s = l.set (posR l e s) { l.getD (posR l e s) rw0 with n := (l.getD (posR l e s) rw0).n + 1 }) := Lib.hid (by unfold putR; rw [if_pos hp])
    rw [hf]
    obtain ⟨k, hk⟩ : ∃ k, posR l e s = k := ⟨_, rfl⟩
    rw [hk] at hp HP ⊢
    clear hf hk
    have HX := HNN.out (l.getD k rw0) (by rw [List.getD_eq_getElem?_getD, List.getElem?_eq_getElem hp]; exact List.getElem_mem _)
    have HSet := Lib.hid (rowR_set l k ((l.getD k rw0).n + 1) hp)
    obtain ⟨g, cap, cur, he, hgb, hO, h1, h2, h3, h4⟩ := HR1.out.split (by omega)
    injection he with e1 e2 e3
    subst e1 e3
    obtain ⟨b, off, e4, _, _, d1, _⟩ := HI1.out.at' k hp
    injection e4 with e4
    injection e4 with e4 e5
    subst e4 e5
    rw [Nat.zero_add] at d1
    obtain ⟨m, hm'⟩ : ∃ m, (l.getD k rw0).n = m := ⟨_, rfl⟩
    rw [hm'] at HX d1 HSet HP
    clear hm'
    obtain ⟨hX1, hX2⟩ := HX
    have HO := Lib.hid hO
    have hof : k * 3 + 1 < cur.size := by omega
    have hw1 : IntKind.i64.wrap (m + 1) = m + 1 := by simp only [IntKind.wrap_i64, wrap64]; omega
    have hln : l.length = n := HL.out
    have hLL : ∃ L, l.length = L := ⟨_, rfl⟩
    have hp2 : (k : Int) < (l.length : Int) := by omega
    have HG := Lib.hid hgb
    have HC := Lib.hid (And.intro h1 (And.intro h2 (And.intro h3 h4)))
    clear hO hgb h1 h2 h3 h4 hLL
    have hk0 : decide ((k : Int) < 0) = false := decide_eq_false (by omega)
    go_wp2_with (first
      | (refine wpl_store_int (off := k * 3 + 1) HO.out hof (m + 1) rfl _ _ rfl rfl rfl ?_; intro w3 hO3 hU3; have HO3 := Lib.hid hO3; have HU3 := Lib.hid hU3; clear hO3 hU3))
    go_ret
    have hR3 : RowW w.heap.size w3 (.slice (some ⟨g, 0, none⟩) (l.set k { l.getD k rw0 with n := m + 1 }).length c1) (l.set k { l.getD k rw0 with n := m + 1 }) := by
      refine RowW.join HG.out HO3.out (by rw [List.length_set]; exact HC.out.1) HC.out.2.1 (by rw [Array.size_setIfInBounds]; exact HC.out.2.2.1) ?_
      rw [List.length_set, HSet.out, ← HC.out.2.2.2, Array.toList_setIfInBounds, List.take_set]
    obtain ⟨a', c', e', hI, hnw⟩ := IsRw.ofOwn hR3
    injection e' with e1 e2 e3
    subst e1 e3
    refine ⟨some ⟨g, 0, none⟩, c1, ?_, by rw [HP.out]; exact hI, HU3.out.below HB1.out HG.out, hnw⟩
    rw [HP.out, List.length_set, HL.out]
    rfl
  · have hf : findR l e s = -1 := by unfold findR; rw [if_neg hp]
    have HP : Hid (putR l e s = l ++ [⟨e, 1, s⟩]) := Lib.hid (by unfold putR; rw [if_neg hp])
    rw [hf]
    clear hp hf
    have hk0 : decide ((-1 : Int) < 0) = true := by decide
    have HRa : Hid ((w1.alloc (.cells (rwA ⟨e, 1, s⟩) 58)).ownsRow w.heap.size 58 3 (.slice a1 l.length c1) l.length (rowR l)) := Lib.hid (World.ownsRow.alloc HR1.out _)
    have HN := Lib.hid (IsRw.one (t := 58) (x := ⟨e, 1, s⟩) (Rg.Own.new w1 (rwA ⟨e, 1, s⟩) 58))
    have hln : l.length = n := HL.out
    have hq : l.length + 1 ≤ 1000000 := by omega
    have hs : w.heap.size ≤ (w1.alloc (.cells (rwA ⟨e, 1, s⟩) 58)).heap.size := by have := HB1.out.size; simp; omega
    rw [hln] at HRa hq ⊢
    have HLT := Lib.hid (World.ownsRow.lt HRa.out)
    go_wp2_with (first
      | (refine Rg.run rfl _ _ (op_lit_rw (x := ⟨e, 1, s⟩) w1.heap.size rfl ⟨_, rfl, rfl⟩) ?_)
      | (at_builtin; refine wpl_append_rw (xs := l) (ys := [⟨e, 1, s⟩]) rfl _ _ rfl rfl rfl HRa.out HN.out hq hs ?_))
    intro v' w5 hown2 hgrow _
    have hR5 : RowW w.heap.size w5 v' (l ++ [⟨e, 1, s⟩]) := by
      unfold RowW
      rw [List.length_append, hln]
      exact hown2
    have HB5 := Lib.hid (Below.grown (HB1.out.alloc HB1.out.size _) hgrow hs (fun g hg => (HLT.out g hg).1))
    obtain ⟨a', c', rfl, hI, hnw⟩ := IsRw.ofOwn hR5
    have HI := Lib.hid hI
    have HNW := Lib.hid hnw
    clear hR5 hown2 hI hgrow hnw
    go_wp2
    go_ret
    refine ⟨a', c', ?_, by rw [HP.out]; exact HI.out, HB5.out, HNW.out⟩
    rw [HP.out]
    rfl
end Bd
end Go.Proofs.YtlembfhdljmcoaaDoor

/-
  The plain answers' sum, as numbers: words, rounds, blocks.
-/
namespace Go.Proofs.YtlembfhdljmcoaaDoor.Sh
/-- a word turned right by one; by n -/
def turn1 (x : Nat) : Nat := x / 2 + x % 2 * 2147483648
def turnN : Nat → Nat → Nat
  | x, 0 => x
  | x, n + 1 => turnN (turn1 x) n
theorem turn1_lt (x : Nat) (h : x < 4294967296) : turn1 x < 4294967296 := by unfold turn1; omega
theorem turnN_lt : ∀ (n x : Nat), x < 4294967296 → turnN x n < 4294967296
  | 0, _, h => h
  | n + 1, x, h => turnN_lt n _ (turn1_lt x h)
theorem turnN_succ : ∀ (n x : Nat), turnN x (n + 1) = turn1 (turnN x n)
  | 0, _ => rfl
  | n + 1, x => by
    show turnN (turn1 x) (n + 1) = turn1 (turnN (turn1 x) n)
    exact turnN_succ n (turn1 x)
/-- a turn is a shift to both sides -/
theorem turnN_eq : ∀ (n x : Nat), x < 4294967296 → n ≤ 32 → turnN x n = x / 2 ^ n + x % 2 ^ n * 2 ^ (32 - n)
  | 0, x, _, _ => by simp [turnN, Nat.mod_one]
  | n + 1, x, h, hn => by
    rw [turnN_succ, turnN_eq n x h (by omega)]
    unfold turn1
    have e1 : 2 ^ (32 - n) = 2 * 2 ^ (32 - (n + 1)) := by rw [← Nat.pow_succ']; congr 1; omega
    have e2 : (2 : Nat) ^ (n + 1) = 2 ^ n * 2 := Nat.pow_succ ..
    have e3 : (2 : Nat) ^ n * 2 ^ (32 - (n + 1)) = 2147483648 := by
      rw [← Nat.pow_add, show n + (32 - (n + 1)) = 31 by omega]
    have hp : 0 < 2 ^ n := Nat.pow_pos (by omega)
    generalize 2 ^ (32 - (n + 1)) = A at *
    generalize 2 ^ n = B at *
    rw [e1, e2, ← Nat.div_div_eq_div_mul, Nat.mod_mul]
    generalize hq : x / B = q
    generalize x % B = r
    have h1 : r * (2 * A) = 2 * (r * A) := by rw [Nat.mul_left_comm]
    have h2 : (r + B * (q % 2)) * A = r * A + q % 2 * 2147483648 := by
      rw [Nat.add_mul, ← e3, Nat.mul_assoc, Nat.mul_left_comm (q % 2) B A]
    rw [h1, h2]
    generalize r * A = z
    omega
/-- a word shifted right -/
def shiftN : Nat → Nat → Nat
  | x, 0 => x
  | x, n + 1 => shiftN (x / 2) n
theorem shiftN_eq : ∀ (n x : Nat), shiftN x n = x / 2 ^ n
  | 0, x => by simp [shiftN]
  | n + 1, x => by
    show shiftN (x / 2) n = _
    rw [shiftN_eq n, Nat.div_div_eq_div_mul, Nat.pow_succ']
theorem shiftN_succ : ∀ (n x : Nat), shiftN x (n + 1) = shiftN x n / 2
  | 0, _ => rfl
  | n + 1, x => by
    show shiftN (x / 2) (n + 1) = shiftN (x / 2) n / 2
    exact shiftN_succ n (x / 2)
/-- the rounds' numbers -/
def kList : List Nat := [
  1116352408, 1899447441, 3049323471, 3921009573, 961987163, 1508970993, 2453635748, 2870763221,
  3624381080, 310598401, 607225278, 1426881987, 1925078388, 2162078206, 2614888103, 3248222580,
  3835390401, 4022224774, 264347078, 604807628, 770255983, 1249150122, 1555081692, 1996064986,
  2554220882, 2821834349, 2952996808, 3210313671, 3336571891, 3584528711, 113926993, 338241895,
  666307205, 773529912, 1294757372, 1396182291, 1695183700, 1986661051, 2177026350, 2456956037,
  2730485921, 2820302411, 3259730800, 3345764771, 3516065817, 3600352804, 4094571909, 275423344,
  430227734, 506948616, 659060556, 883997877, 958139571, 1322822218, 1537002063, 1747873779,
  1955562222, 2024104815, 2227730452, 2361852424, 2428436474, 2756734187, 3204031479, 3329325298]
def kN (i : Nat) : Nat := kList.getD i 0
end Go.Proofs.YtlembfhdljmcoaaDoor.Sh

/-
  Contracts of the plain answers' low, turn, shift, K.
-/
namespace Go.Proofs.YtlembfhdljmcoaaDoor
set_option maxRecDepth 20000
open Go.RowKit

namespace Sh
theorem ret_u64 {a b : Int} (h : a = b) : Ending.returned (.int .u64 a) = .returned (.int .u64 b) := by rw [h]
theorem low_any (x : Nat) (hx : x < 18446744073709551616) (w : World) :
    Calls Tryd.prog 40 #[.int .u64 x] w fun e w' => e = .returned (.int .u64 (x % 4294967296 : Nat)) ∧ w = w' := by
  go_enter Tryd.func40, Tryd.ntmps40
  go_wp2
  go_ret
  exact ⟨ret_u64 (by omega), rfl⟩

set_option maxHeartbeats 400000 in
theorem turn_any (x n : Nat) (hx : x < 4294967296) (hn : n ≤ 1000) (w : World) :
    Calls Tryd.prog 38 #[.int .u64 x, .int .i64 n] w fun e w' => e = .returned (.int .u64 (turnN x n : Nat)) ∧ w = w' := by
  have HT := Lib.hid (fun k => turnN_lt k x hx)
  have HS := Lib.hid (fun k => turnN_succ k x)
  clear hx
  go_enter Tryd.func38, Tryd.ntmps38
  go_wp2
  go_loop [0, 5] (fun v i => ∃ k : Nat, k ≤ n ∧ i = .int .i64 k ∧ v = .int .u64 (turnN x k : Nat)) (fun _ i => n - (intOf i).toNat)
  case atStart => exact ⟨0, Nat.zero_le _, rfl, rfl⟩
  case round =>
    obtain ⟨k, hk, rfl, rfl⟩ := hrel
    have hy := HT.out k
    have hs := HS.out k
    obtain ⟨y, hye⟩ : ∃ y, turnN x k = y := ⟨_, rfl⟩
    rw [hye] at hy hs ⊢
    have HY := Lib.hid hs
    have HE := Lib.hid hye
    clear hs hye
    by_cases hlt : k < n
    · go_wp2
      go_round
      case rel => exact ⟨k + 1, by omega, by go_num, by rw [HY.out]; unfold turn1; go_num⟩
      case measure => simp [intOf]; omega
    · obtain rfl : k = n := by omega
      go_wp2
      go_ret
      exact ⟨by rw [HE.out]; rfl, rfl⟩

set_option maxHeartbeats 400000 in
theorem shift_any (x n : Nat) (hx : x < 4294967296) (hn : n ≤ 1000) (w : World) :
    Calls Tryd.prog 39 #[.int .u64 x, .int .i64 n] w fun e w' => e = .returned (.int .u64 (shiftN x n : Nat)) ∧ w = w' := by
  have HT : Hid (∀ k, shiftN x k < 4294967296) := Lib.hid (fun k => by rw [shiftN_eq]; exact Nat.lt_of_le_of_lt (Nat.div_le_self _ _) hx)
  have HS := Lib.hid (fun k => shiftN_succ k x)
  clear hx
  go_enter Tryd.func39, Tryd.ntmps39
  go_wp2
  go_loop [0, 5] (fun v i => ∃ k : Nat, k ≤ n ∧ i = .int .i64 k ∧ v = .int .u64 (shiftN x k : Nat)) (fun _ i => n - (intOf i).toNat)
  case atStart => exact ⟨0, Nat.zero_le _, rfl, rfl⟩
  case round =>
    obtain ⟨k, hk, rfl, rfl⟩ := hrel
    have hy := HT.out k
    have hs := HS.out k
    obtain ⟨y, hye⟩ : ∃ y, shiftN x k = y := ⟨_, rfl⟩
    rw [hye] at hy hs ⊢
    have HY := Lib.hid hs
    have HE := Lib.hid hye
    clear hs hye
    by_cases hlt : k < n
    · go_wp2
      go_round
      case rel => exact ⟨k + 1, by omega, by go_num, by rw [HY.out]; go_num⟩
      case measure => simp [intOf]; omega
    · obtain rfl : k = n := by omega
      go_wp2
      go_ret
      exact ⟨by rw [HE.out]; rfl, rfl⟩

/-- the same at a written number -/
theorem turn_c (x n : Nat) (N : Int) (hN : N = n) (hx : x < 4294967296) (hn : n ≤ 1000) (w : World) :
    Calls Tryd.prog 38 #[.int .u64 x, .int .i64 N] w fun e w' => e = .returned (.int .u64 (turnN x n : Nat)) ∧ w = w' := by
  subst hN; exact turn_any x n hx hn w
theorem shift_c (x n : Nat) (N : Int) (hN : N = n) (hx : x < 4294967296) (hn : n ≤ 1000) (w : World) :
    Calls Tryd.prog 39 #[.int .u64 x, .int .i64 N] w fun e w' => e = .returned (.int .u64 (shiftN x n : Nat)) ∧ w = w' := by
  subst hN; exact shift_any x n hx hn w

/-- an operation whose run is known -/
theorem wpList_run {P : Program} {w : World} {ops : Array Oper} {rest : List Oper} {o : Oper} {a : Act} {Q : Exit → Act → World → Prop} (hgd : o.guard = none) (v : Value) (w' : World)
    (hr : (execOp a.eval o).run P w = .ok (.value v) w') (h : wpList P ops Q rest (a.put o.dst v) w') : wpList P ops Q (o :: rest) a w :=
  wpList_plain hgd fun K hK => by
    unfold Oper.wp
    rw [hr]
    exact hK _ _ h
/-- words as cells -/
def wc (l : List Nat) : Array Value := (l.map fun (x : Nat) => Value.int .u64 (x : Int)).toArray
theorem wc_cell (w : World) (l : List Nat) (t : TypeId) (i : Nat) (hi : i < l.length) : (w.alloc (.cells (wc l) t)).cell? ⟨w.heap.size, i, none⟩ = some (.int .u64 (l.getD i 0 : Nat)) := by
  rw [World.cell?_alloc_mark]
  simp [wc, List.getD, hi]
theorem k_len : kList.length = 64 := by decide +kernel

set_option maxRecDepth 100000 in
set_option maxHeartbeats 1000000 in
theorem k_any (i : Nat) (hi : i < 64) (w : World) :
    Calls Tryd.prog 41 #[.int .i64 i] w fun e w' => e = .returned (.int .u64 (kN i : Nat)) ∧ Below w.heap.size w w' := by
  have hc := wc_cell w kList 63 i (by rw [k_len]; exact hi)
  obtain ⟨y, hy⟩ : ∃ y, kN i = y := ⟨_, rfl⟩
  have hy2 : kList.getD i 0 = y := hy
  rw [hy2] at hc
  rw [hy]
  clear hy hy2
  go_enter Tryd.func41, Tryd.ntmps41
  go_wp2_with (refine wpList_run (o := ⟨some 4, _, _, _, _, _⟩) rfl (.slice (some ⟨w.heap.size, 0, none⟩) 64 64) (w.alloc (.cells (wc kList) 63)) (by kernel_rfl) ?_)
  go_ret
  exact ⟨rfl, (Below.refl _ _).alloc (Nat.le_refl _) _⟩
end Sh
end Go.Proofs.YtlembfhdljmcoaaDoor

/-
  The sum of a text as numbers: words, rounds, blocks, bytes (no program in it).
-/
namespace Go.Proofs.YtlembfhdljmcoaaDoor.Sh
/-- a block's words -/
def wordP (g : Nat → Nat) (i : Nat) : Nat → Nat
  | 0 => 0
  | j + 1 => 256 * wordP g i j + g (4 * i + j)
theorem wordP_lt (g : Nat → Nat) (hg : ∀ q, g q < 256) (i : Nat) : ∀ j, wordP g i j < 256 ^ j
  | 0 => by simp [wordP]
  | j + 1 => by
    have := wordP_lt g hg i j
    have := hg (4 * i + j)
    rw [wordP, Nat.pow_succ]
    omega
def sg0 (x : Nat) : Nat := turnN x 7 ^^^ turnN x 18 ^^^ shiftN x 3
def sg1 (x : Nat) : Nat := turnN x 17 ^^^ turnN x 19 ^^^ shiftN x 10
def nextW (g : Nat → Nat) (l : List Nat) (k : Nat) : Nat :=
  if k < 16 then wordP g k 4 else (l.getD (k - 16) 0 + sg0 (l.getD (k - 15) 0) + l.getD (k - 7) 0 + sg1 (l.getD (k - 2) 0)) % 4294967296
def schW (g : Nat → Nat) : Nat → List Nat
  | 0 => []
  | k + 1 => schW g k ++ [nextW g (schW g k) k]
theorem schW_length (g : Nat → Nat) : ∀ k, (schW g k).length = k
  | 0 => rfl
  | k + 1 => by rw [schW, List.length_append, schW_length g k]; rfl
theorem nextW_lt (g : Nat → Nat) (hg : ∀ q, g q < 256) (l : List Nat) (k : Nat) : nextW g l k < 4294967296 := by
  unfold nextW
  split
  · exact wordP_lt g hg k 4
  · exact Nat.mod_lt _ (by omega)
theorem schW_lt (g : Nat → Nat) (hg : ∀ q, g q < 256) : ∀ k, ∀ x ∈ schW g k, x < 4294967296
  | 0, x, h => by cases h
  | k + 1, x, h => by
    rw [schW] at h
    rcases List.mem_append.1 h with h | h
    · exact schW_lt g hg k x h
    · rw [List.mem_singleton.1 h]; exact nextW_lt g hg _ _
theorem getD_lt {l : List Nat} (h : ∀ x ∈ l, x < 4294967296) (j : Nat) : l.getD j 0 < 4294967296 := by
  by_cases hj : j < l.length
  · rw [List.getD, List.getElem?_eq_getElem hj]; exact h _ (List.getElem_mem hj)
  · rw [List.getD, List.getElem?_eq_none (by omega)]; decide
theorem xor3_lt {a b c : Nat} (ha : a < 4294967296) (hb : b < 4294967296) (hc : c < 4294967296) : a ^^^ b ^^^ c < 4294967296 :=
  Nat.xor_lt_two_pow (n := 32) (Nat.xor_lt_two_pow (n := 32) ha hb) hc
theorem shiftN_lt (x n : Nat) (h : x < 4294967296) : shiftN x n < 4294967296 := by rw [shiftN_eq]; exact Nat.lt_of_le_of_lt (Nat.div_le_self _ _) h
theorem sg0_lt (x : Nat) (h : x < 4294967296) : sg0 x < 4294967296 := xor3_lt (turnN_lt _ _ h) (turnN_lt _ _ h) (shiftN_lt _ _ h)
theorem sg1_lt (x : Nat) (h : x < 4294967296) : sg1 x < 4294967296 := xor3_lt (turnN_lt _ _ h) (turnN_lt _ _ h) (shiftN_lt _ _ h)

theorem kN_lt (k : Nat) : kN k < 4294967296 := getD_lt (by decide +kernel) k
/-- a round -/
def bs1 (e : Nat) : Nat := turnN e 6 ^^^ turnN e 11 ^^^ turnN e 25
def bs0 (a : Nat) : Nat := turnN a 2 ^^^ turnN a 13 ^^^ turnN a 22
def pickN (e f g : Nat) : Nat := (e &&& f) ||| ((4294967295 - e) &&& g)
def mostN (a b c : Nat) : Nat := (a &&& b) ||| (a &&& c) ||| (b &&& c)
theorem bs1_lt (x : Nat) (h : x < 4294967296) : bs1 x < 4294967296 := xor3_lt (turnN_lt _ _ h) (turnN_lt _ _ h) (turnN_lt _ _ h)
theorem bs0_lt (x : Nat) (h : x < 4294967296) : bs0 x < 4294967296 := xor3_lt (turnN_lt _ _ h) (turnN_lt _ _ h) (turnN_lt _ _ h)
theorem pickN_lt (e f g : Nat) (he : e < 4294967296) : pickN e f g < 4294967296 :=
  Nat.or_lt_two_pow (n := 32) (Nat.lt_of_le_of_lt Nat.and_le_left he) (Nat.lt_of_le_of_lt Nat.and_le_left (by omega))
theorem mostN_lt (a b c : Nat) (ha : a < 4294967296) (hb : b < 4294967296) : mostN a b c < 4294967296 :=
  Nat.or_lt_two_pow (n := 32) (Nat.or_lt_two_pow (n := 32) (Nat.lt_of_le_of_lt Nat.and_le_left ha) (Nat.lt_of_le_of_lt Nat.and_le_left ha)) (Nat.lt_of_le_of_lt Nat.and_le_left hb)
def xN (k w e f g h : Nat) : Nat := (h + bs1 e + pickN e f g + k + w) % 4294967296
def yN (a b c : Nat) : Nat := (bs0 a + mostN a b c) % 4294967296
def roundL (k w : Nat) (v : List Nat) : List Nat :=
  [(xN k w (v.getD 4 0) (v.getD 5 0) (v.getD 6 0) (v.getD 7 0) + yN (v.getD 0 0) (v.getD 1 0) (v.getD 2 0)) % 4294967296, v.getD 0 0, v.getD 1 0, v.getD 2 0,
    (v.getD 3 0 + xN k w (v.getD 4 0) (v.getD 5 0) (v.getD 6 0) (v.getD 7 0)) % 4294967296, v.getD 4 0, v.getD 5 0, v.getD 6 0]
def runL (ws : List Nat) (h : List Nat) : Nat → List Nat
  | 0 => h
  | k + 1 => roundL (kN k) (ws.getD k 0) (runL ws h k)
theorem runL_length (ws h : List Nat) (hh : h.length = 8) : ∀ k, (runL ws h k).length = 8
  | 0 => hh
  | _ + 1 => rfl
theorem runL_lt (ws h : List Nat) (hh : ∀ x ∈ h, x < 4294967296) : ∀ k, ∀ x ∈ runL ws h k, x < 4294967296
  | 0 => hh
  | k + 1 => by
    have ih := fun j => getD_lt (runL_lt ws h hh k) j
    intro x hx
    simp only [runL, roundL, List.mem_cons, List.not_mem_nil, or_false] at hx
    rcases hx with rfl | rfl | rfl | rfl | rfl | rfl | rfl | rfl <;> first | exact ih _ | exact Nat.mod_lt _ (by omega)
/-- the state behind a block -/
def addK (h v : List Nat) (k : Nat) : List Nat := (List.range k).map fun i => (h.getD i 0 + v.getD i 0) % 4294967296
def blockL (g : Nat → Nat) (h : List Nat) : List Nat := addK h (runL (schW g 64) h 64) 8
theorem addK_snoc (h v : List Nat) (k : Nat) : addK h v (k + 1) = addK h v k ++ [(h.getD k 0 + v.getD k 0) % 4294967296] := by simp [addK, List.range_succ]
theorem addK_length (h v : List Nat) (k : Nat) : (addK h v k).length = k := by simp [addK]
theorem addK_lt (h v : List Nat) (k : Nat) : ∀ x ∈ addK h v k, x < 4294967296 := by
  intro x hx
  simp only [addK, List.mem_map] at hx
  obtain ⟨_, _, rfl⟩ := hx
  exact Nat.mod_lt _ (by omega)
/-- .. word by word -/
def addM (h v : List Nat) (j : Nat) : List Nat := (List.range 8).map fun i => if i < j then (h.getD i 0 + v.getD i 0) % 4294967296 else h.getD i 0
theorem addM_length (h v : List Nat) (j : Nat) : (addM h v j).length = 8 := by simp [addM]
theorem addM_zero (h v : List Nat) (hh : h.length = 8) : addM h v 0 = h := by
  apply List.ext_getElem
  · rw [addM_length, hh]
  · intro i h1 h2
    simp [addM, List.getD, h2]
theorem addM_all (h v : List Nat) : addM h v 8 = addK h v 8 := by
  unfold addM addK
  apply List.map_congr_left
  intro i hi
  rw [if_pos (List.mem_range.1 hi)]
theorem addM_getD (h v : List Nat) (j : Nat) (hj : j < 8) : (addM h v j).getD j 0 = h.getD j 0 := by simp [addM, List.getD, hj]
theorem addM_set (h v : List Nat) (j : Nat) (hj : j < 8) : (addM h v j).set j ((h.getD j 0 + v.getD j 0) % 4294967296) = addM h v (j + 1) := by
  apply List.ext_getElem
  · simp [addM_length]
  · intro i h1 h2
    rw [addM_length] at h2
    by_cases e : i = j
    · subst e; simp [addM]
    · rw [List.getElem_set_ne (by omega)]
      have : i < j + 1 ↔ i < j := by omega
      simp [addM, this]
theorem eight (l : List Nat) (h : l.length = 8) : ∃ x0 x1 x2 x3 x4 x5 x6 x7, l = [x0, x1, x2, x3, x4, x5, x6, x7] := by
  match l, h with
  | [x0, x1, x2, x3, x4, x5, x6, x7], _ => exact ⟨_, _, _, _, _, _, _, _, rfl⟩
/-- how many zeros fill a text up; the filled text -/
def zerosN (n : Nat) : Nat := (119 - n % 64) % 64
def fillK (l : List UInt8) (k : Nat) : List UInt8 := l ++ [128] ++ List.replicate k 0
def beK (N k : Nat) : List UInt8 := ((List.range k).map fun j => UInt8.ofNat (N / 256 ^ j % 256)).reverse
def fillL (l : List UInt8) : List UInt8 := fillK l (zerosN l.length) ++ beK (8 * l.length) 8
theorem fillK_snoc (l : List UInt8) (k : Nat) : fillK l (k + 1) = fillK l k ++ [0] := by
  simp [fillK, List.replicate_succ']
theorem fillK_length (l : List UInt8) (k : Nat) : (fillK l k).length = l.length + 1 + k := by simp [fillK]; omega
theorem beK_snoc (N k : Nat) : beK N (k + 1) = [UInt8.ofNat (N / 256 ^ k % 256)] ++ beK N k := by
  simp [beK, List.range_succ]
theorem beK_length (N k : Nat) : (beK N k).length = k := by simp [beK]
theorem fillL_length (l : List UInt8) : (fillL l).length = l.length + 9 + zerosN l.length := by simp [fillL, fillK_length, beK_length]; omega
theorem fillL_mod (l : List UInt8) : (fillL l).length % 64 = 0 := by rw [fillL_length]; unfold zerosN; omega
/-- the state at the start, and behind k blocks of a text -/
def start : List Nat := [1779033703, 3144134277, 1013904242, 2773480762, 1359893119, 2600822924, 528734635, 1541459225]
def byteK (t : List UInt8) (k q : Nat) : Nat := (t.getD (64 * k + q) 0).toNat
def hashK (t : List UInt8) : Nat → List Nat
  | 0 => start
  | k + 1 => blockL (byteK t k) (hashK t k)
/-- .. from whatever state on -/
def mixK (t : List UInt8) (h : List Nat) : Nat → List Nat
  | 0 => h
  | k + 1 => blockL (byteK t k) (mixK t h k)
theorem mixK_start (t : List UInt8) : ∀ k, mixK t start k = hashK t k
  | 0 => rfl
  | k + 1 => by rw [mixK, hashK, mixK_start t k]
theorem mixK_length (t : List UInt8) (h : List Nat) (hh : h.length = 8) : ∀ k, (mixK t h k).length = 8
  | 0 => hh
  | _ + 1 => addK_length _ _ _
theorem mixK_lt (t : List UInt8) (h : List Nat) (hh : ∀ x ∈ h, x < 4294967296) : ∀ k, ∀ x ∈ mixK t h k, x < 4294967296
  | 0 => hh
  | _ + 1 => addK_lt _ _ _
theorem wordP_congr {g g' : Nat → Nat} (i : Nat) : ∀ j, (∀ q, q < 4 * i + j → g q = g' q) → wordP g i j = wordP g' i j
  | 0, _ => rfl
  | j + 1, h => by rw [wordP, wordP, wordP_congr i j (fun q hq => h q (by omega)), h _ (by omega)]
theorem schW_congr {g g' : Nat → Nat} (h : ∀ q, q < 64 → g q = g' q) : ∀ k, schW g k = schW g' k
  | 0 => rfl
  | k + 1 => by
    rw [schW, schW, schW_congr h k]
    congr 2
    unfold nextW
    split
    · exact wordP_congr k 4 (fun q hq => h q (by omega))
    · rfl
theorem blockL_congr {g g' : Nat → Nat} (h : ∀ q, q < 64 → g q = g' q) (hs : List Nat) : blockL g hs = blockL g' hs := by
  unfold blockL
  rw [schW_congr h]
/-- the state behind two texts: behind the first one, and from there on -/
theorem mixK_more (t u : List UInt8) (a : Nat) (ht : t.length = 64 * a) (h : List Nat) : ∀ b, mixK (t ++ u) h (a + b) = mixK u (mixK t h a) b
  | 0 => by
    have : ∀ k, k ≤ a → mixK (t ++ u) h k = mixK t h k := by
      intro k
      induction k with
      | zero => intro _; rfl
      | succ k ih =>
        intro hk
        rw [mixK, mixK, ih (by omega)]
        refine blockL_congr (fun q hq => ?_) _
        unfold byteK
        rw [List.getD, List.getD, List.getElem?_append_left (by omega)]
    exact this a (Nat.le_refl _)
  | b + 1 => by
    show mixK (t ++ u) h (a + b + 1) = _
    rw [mixK, mixK, mixK_more t u a ht h b]
    refine blockL_congr (fun q _ => ?_) _
    unfold byteK
    rw [List.getD, List.getD, List.getElem?_append_right (by omega), ht, show 64 * (a + b) + q - 64 * a = 64 * b + q by omega]
theorem hashK_length (t : List UInt8) : ∀ k, (hashK t k).length = 8
  | 0 => rfl
  | _ + 1 => addK_length _ _ _
theorem hashK_lt (t : List UInt8) : ∀ k, ∀ x ∈ hashK t k, x < 4294967296
  | 0 => by show ∀ x ∈ start, x < 4294967296; decide
  | _ + 1 => addK_lt _ _ _
/-- a text's byte at a place -/
def byteAt (s : ByteArray) (q : Nat) : Nat := (s.data.toList.getD q 0).toNat
theorem byteAt_lt (s : ByteArray) (q : Nat) : byteAt s q < 256 := UInt8.toNat_lt _
theorem byteAt_eq (s : ByteArray) (q : Nat) (h : q < s.size) : s[q].toNat = byteAt s q := by
  have hl : q < s.data.toList.length := by simpa using h
  unfold byteAt
  rw [List.getD, List.getElem?_eq_getElem hl]; rfl
/-- a word's byte; the bytes of the state -/
def wByte (h : List Nat) (i : Nat) : Nat := h.getD (i / 4) 0 / 256 ^ (3 - i % 4) % 256
def outK (h : List Nat) (k : Nat) : List UInt8 := (List.range k).map fun i => UInt8.ofNat (wByte h i)
theorem outK_snoc (h : List Nat) (k : Nat) : outK h (k + 1) = outK h k ++ [UInt8.ofNat (wByte h k)] := by simp [outK, List.range_succ]
theorem outK_length (h : List Nat) (k : Nat) : (outK h k).length = k := by simp [outK]
/-- the sum of a text: 32 bytes -/
def sumL (l : List UInt8) : List UInt8 := outK (hashK (fillL l) ((fillL l).length / 64)) 32
theorem sumL_length (l : List UInt8) : (sumL l).length = 32 := outK_length _ _
def abcL : List UInt8 := [0xba, 0x78, 0x16, 0xbf, 0x8f, 0x01, 0xcf, 0xea, 0x41, 0x41, 0x40, 0xde, 0x5d, 0xae, 0x22, 0x23, 0xb0, 0x03, 0x61, 0xa3, 0x96, 0x17, 0x7a, 0x9c, 0xb4, 0x10, 0xff, 0x61, 0xf2, 0x00, 0x15, 0xad]
theorem sum_abc : sumL [97, 98, 99] = abcL := by decide +kernel
end Go.Proofs.YtlembfhdljmcoaaDoor.Sh

/-
  Contracts of the plain answers' Fill and Hex.
-/
namespace Go.Proofs.YtlembfhdljmcoaaDoor
set_option maxRecDepth 20000
open Go.RowKit

namespace Sh
/-- a new slice of one byte, as a text -/
theorem conv_one (v : Int) (x : Nat) (hx : x < 256) (hv : v = x) (w : World) :
    Sem.run Tryd.prog (convert 66 9 (Value.slice (some ⟨w.heap.size, 0, none⟩) 1 1)) (w.alloc (.cells #[.int .u8 v] 5)) = .ok (.string ⟨#[UInt8.ofNat x]⟩) (w.alloc (.cells #[.int .u8 v] 5)) := by
  subst hv
  have h := run_convert_bytes_back (P := Tryd.prog) (w.alloc (.cells #[.int .u8 x] 5)) 66 9 5 ⟨w.heap.size, 0, none⟩ 1 [UInt8.ofNat x] Tryd.underlying66 Tryd.underlying5 Tryd.underlying9
    (fun j hj => by
      obtain rfl : j = 0 := by simpa using hj
      have e : (UInt8.ofNat x).toNat = x := by simp; omega
      simp [Addr.add, e])
  exact h
theorem ba_cat (x y : List UInt8) : (⟨x.toArray⟩ : ByteArray) ++ ⟨y.toArray⟩ = ⟨(x ++ y).toArray⟩ := by
  have h : ((⟨x.toArray⟩ : ByteArray) ++ ⟨y.toArray⟩).data = (x ++ y).toArray := by
    rw [ByteArray.data_append]; simp
  cases e : ((⟨x.toArray⟩ : ByteArray) ++ ⟨y.toArray⟩) with
  | mk d => rw [e] at h; simp only at h; rw [h]
theorem ba_size (x : List UInt8) : (⟨x.toArray⟩ : ByteArray).size = x.length := by show x.toArray.size = _; simp

set_option maxHeartbeats 1000000 in
theorem fill_any (l : List UInt8) (hl : l.length ≤ 1000000) (w : World) :
    Calls Tryd.prog 27 #[.string ⟨l.toArray⟩] w fun e w' => e = .returned (.string ⟨(fillL l).toArray⟩) ∧ Below w.heap.size w w' := by
  obtain ⟨s, hs⟩ : ∃ s, (⟨l.toArray⟩ : ByteArray) = s := ⟨_, rfl⟩
  have hsz : s.size = l.length := by rw [← hs, ba_size]
  have HST : Hid (s ++ ⟨#[128]⟩ = ⟨(fillK l 0).toArray⟩) := Lib.hid (by rw [← hs]; exact (ba_cat l [128]).trans (by simp [fillK]))
  have hle : s.size ≤ 1000000 := by omega
  rw [hs]
  have HZ := Lib.hid hsz
  clear hs hsz
  go_enter Tryd.func27, Tryd.ntmps27
  go_wp2
  go_loop [3] (fun t => ∃ k : Nat, Hid (k ≤ zerosN l.length) ∧ t = .string ⟨(fillK l k).toArray⟩) (fun t => match t with | .string b => 1100000 - b.size | _ => 0)
  case atStart => exact ⟨0, Lib.hid (Nat.zero_le _), by rw [HST.out]⟩
  case round =>
    obtain ⟨k, HK, rfl⟩ := hrel
    have hz : zerosN l.length < 64 := Nat.mod_lt _ (by omega)
    have hk := HK.out
    have hsz : (⟨(fillK l k).toArray⟩ : ByteArray).size = l.length + 1 + k := by rw [ba_size, fillK_length]
    have HN : Hid ((⟨(fillK l k).toArray⟩ : ByteArray) ++ ⟨#[0]⟩ = ⟨(fillK l (k + 1)).toArray⟩) := Lib.hid (by rw [fillK_snoc]; exact ba_cat _ [0])
    have HZ2 : Hid ((⟨(fillK l (k + 1)).toArray⟩ : ByteArray).size = l.length + 1 + (k + 1)) := Lib.hid (by rw [ba_size, fillK_length])
    by_cases hlt : k < zerosN l.length
    · have hne : (((l.length + 1 + k : Nat) : Int) % 64 != 56) = true := by
        unfold zerosN at hlt; simp; omega
      obtain ⟨T, hT⟩ : ∃ T, (⟨(fillK l k).toArray⟩ : ByteArray) = T := ⟨_, rfl⟩
      obtain ⟨L, hL⟩ : ∃ L, l.length + 1 + k = L := ⟨_, rfl⟩
      rw [hT] at hsz HN ⊢
      rw [hL] at hsz hne
      have hLb : L ≤ 1000100 := by have := HZ.out; omega
      have HL := Lib.hid hL
      have HLt := Lib.hid hlt
      clear hT hL hk hlt hz
      go_wp2
      go_round
      case rel => exact ⟨k + 1, Lib.hid (by have := HLt.out; omega), by rw [HN.out]⟩
      case measure =>
        show 1100000 - (T ++ ⟨#[0]⟩ : ByteArray).size < 1100000 - T.size
        rw [HN.out, HZ2.out, hsz]
        have := HL.out
        omega
    · have hkz : k = zerosN l.length := by omega
      have hne : (((l.length + 1 + k : Nat) : Int) % 64 != 56) = false := by
        rw [hkz]; unfold zerosN; simp; omega
      obtain ⟨T, hT⟩ : ∃ T, (⟨(fillK l k).toArray⟩ : ByteArray) = T := ⟨_, rfl⟩
      obtain ⟨L, hL⟩ : ∃ L, l.length + 1 + k = L := ⟨_, rfl⟩
      have HT : Hid (T ++ ⟨(beK (8 * l.length) 8).toArray⟩ = ⟨(fillL l).toArray⟩) := Lib.hid (by
        rw [← hT, ba_cat, hkz]; rfl)
      rw [hT] at hsz ⊢
      rw [hL] at hsz hne
      have hLb : L ≤ 1000100 := by have := HZ.out; omega
      clear hT hL hk hlt hz HN HZ2 hkz HK HST
      go_wp2
      go_loopw [4, 5, 6] (fun n d i wr => ∃ j : Nat, j ≤ 8 ∧ i = .int .i64 j ∧ n = .int .u64 (8 * s.size / 256 ^ j : Nat) ∧ d = .string ⟨(beK (8 * s.size) j).toArray⟩ ∧ Below w.heap.size w wr) (fun _ _ i _ => 8 - (intOf i).toNat)
      case atStart => exact ⟨0, Nat.zero_le _, rfl, by simp, rfl, Below.refl _ _⟩
      case round =>
        obtain ⟨j, hj, rfl, rfl, rfl, hB⟩ := hrel
        obtain ⟨m, hm⟩ : ∃ m, 8 * s.size / 256 ^ j = m := ⟨_, rfl⟩
        have hm64 : m < 18446744073709551616 := by
          rw [← hm]; exact Nat.lt_of_le_of_lt (Nat.div_le_self _ _) (by omega)
        have HD : Hid (8 * s.size / 256 ^ (j + 1) = m / 256) := Lib.hid (by rw [Nat.pow_succ, ← Nat.div_div_eq_div_mul, hm])
        have HS : Hid ((⟨#[UInt8.ofNat (m % 256)]⟩ : ByteArray) ++ ⟨(beK (8 * s.size) j).toArray⟩ = ⟨(beK (8 * s.size) (j + 1)).toArray⟩) := Lib.hid (by
          rw [beK_snoc, hm]; exact ba_cat [_] _)
        have hEs : (⟨(beK (8 * s.size) j).toArray⟩ : ByteArray).size ≤ 8 := by rw [ba_size, beK_length]; exact hj
        obtain ⟨E, hE⟩ : ∃ E, (⟨(beK (8 * s.size) j).toArray⟩ : ByteArray) = E := ⟨_, rfl⟩
        obtain ⟨C, hC⟩ : ∃ C, (⟨#[UInt8.ofNat (m % 256)]⟩ : ByteArray) = C := ⟨_, rfl⟩
        have hCs : C.size ≤ 1 := by rw [← hC]; exact Nat.le_refl _
        have hcv := conv_one ((m : Int) % 256) (m % 256) (by omega) (by omega) wr
        rw [hC] at hcv HS
        rw [hE] at HS hEs
        rw [hm, hE]
        have HE := Lib.hid hE
        clear hm hE hC
        by_cases hlt : j < 8
        · go_wp2
          go_roundw
          case rel => exact ⟨j + 1, by omega, by go_num, by rw [HD.out]; go_num, by rw [HS.out], hB.alloc hB.size _⟩
          case measure => simp [intOf]; omega
        · obtain rfl : j = 8 := by omega
          have HF : Hid (T ++ E = ⟨(fillL l).toArray⟩) := Lib.hid (by rw [← HT.out, ← HE.out, HZ.out])
          clear hcv
          go_wp2
          go_ret
          exact ⟨by rw [← HF.out]; rfl, hB⟩

/-- two digits a byte -/
def hexD (x : Nat) : UInt8 := UInt8.ofNat (if x < 10 then 48 + x else 87 + x)
def hexK (l : List UInt8) (k : Nat) : List UInt8 := (l.take k).flatMap fun b => [hexD (b.toNat / 16), hexD (b.toNat % 16)]
theorem hexK_snoc (l : List UInt8) (k : Nat) (h : k < l.length) : hexK l (k + 1) = hexK l k ++ [hexD ((l.getD k 0).toNat / 16), hexD ((l.getD k 0).toNat % 16)] := by
  have e : l.getD k 0 = l[k] := by rw [List.getD, List.getElem?_eq_getElem h]; rfl
  have t : l.take (k + 1) = l.take k ++ [l[k]] := List.take_succ_eq_append_getElem h
  unfold hexK
  rw [t, e, List.flatMap_append, List.flatMap_cons, List.flatMap_nil, List.append_nil]
theorem hexK_length (l : List UInt8) (k : Nat) (h : k ≤ l.length) : (hexK l k).length = 2 * k := by
  induction k with
  | zero => rfl
  | succ k ih => rw [hexK_snoc l k (by omega), List.length_append, ih (by omega)]; simp; omega
theorem dig_cut : ∀ x : Fin 16, (⟨#[48, 49, 50, 51, 52, 53, 54, 55, 56, 57, 97, 98, 99, 100, 101, 102]⟩ : ByteArray).extract (x : Nat) ((x : Nat) + 1) = ⟨#[hexD x]⟩ := by decide +kernel

end Sh
end Go.Proofs.YtlembfhdljmcoaaDoor

/-
  Contracts of strings.Builder's copyCheck and String, over a builder that the call itself has made.
-/
namespace Go.Proofs.YtlembfhdljmcoaaDoor
set_option maxRecDepth 20000
open Go.RowKit

namespace Bu
theorem info_byte : (Tryd.prog.info? 5).map (fun i => (i.zero, i.size, i.bytes)) = some (some (.int .u8 0), 1, 1) := by kernel_rfl
theorem cells_byte : Tryd.prog.cellsOf 5 = 1 := by kernel_rfl

set_option maxHeartbeats 2000000 in
theorem row_kind {w : World} {B : Nat} {e : TypeId} {v : Value} {n : Nat} {xs : List Value} (h : w.ownsRow B e 1 v n xs) : ∀ g, v.ownBlock = some g → ∃ c fz, w.heap[g]? = some (.cells c e fz) := by
  intro g hg
  rcases h.2 with ⟨rfl, _⟩ | ⟨g', cap, cur, rfl, _, hgg, _⟩
  · simp [Value.ownBlock] at hg
  · simp [Value.ownBlock] at hg
    subst hg
    exact ⟨cur, _, hgg⟩
theorem grown_below {w w' : World} (h : Below w.heap.size w w') : w.grownBy w' none := ⟨h.os, h.tape, h.output, h.size, fun k hk _ => h.block k hk⟩

theorem text_none (W : World) (q : Option Addr) : (Builtin.unsafeString_ #[97, 3] 9 #[.pointer q, .int .i64 0]).run Tryd.prog W = .ok (.string .empty) W :=
  Lib.run_unsafeString_none W _ _ _ q

end Bu
end Go.Proofs.YtlembfhdljmcoaaDoor

/-
  Contracts of sum.right, sum.lay, sum.end.
-/
namespace Go.Proofs.YtlembfhdljmcoaaDoor
set_option maxRecDepth 20000
open Go.RowKit

namespace Sm
open Sh
theorem ret_u32 {a b : Int} (h : a = b) : Ending.returned (.int .u32 a) = .returned (.int .u32 b) := by rw [h]
theorem rot_and (n : Nat) (h1 : 1 ≤ n) (h2 : n ≤ 31) : bits .and .u64 (IntKind.u64.wrap (-(n : Int))) 31 = 32 - (n : Int) := by
  have e : IntKind.u64.wrap (-(n : Int)) = ((18446744073709551616 - n : Nat) : Int) := by rw [IntKind.wrap_u64]; omega
  rw [e, show (31 : Int) = ((31 : Nat) : Int) from rfl, u64_and_nat _ _ (by omega) (by omega), nat_mask5]
  omega
/-- shifted left and right, and joined -/
theorem rot_or (x n : Nat) (hx : x < 4294967296) (h2 : n ≤ 31) :
    bits .or .u32 ((x : Int) * 2 ^ (32 - n) % 4294967296) ((x : Int) / 2 ^ (32 - (32 - n))) = (turnN x n : Nat) := by
  have e0 : 32 - (32 - n) = n := by omega
  have hp : 2 ^ n * 2 ^ (32 - n) = 4294967296 := by rw [← Nat.pow_add, show n + (32 - n) = 32 by omega]
  have e1 : x * 2 ^ (32 - n) % 4294967296 = x % 2 ^ n * 2 ^ (32 - n) := by rw [← hp, Nat.mul_mod_mul_right]
  have hb : x / 2 ^ n < 2 ^ (32 - n) := by
    rw [Nat.div_lt_iff_lt_mul (Nat.pow_pos (by omega)), Nat.mul_comm, hp]; exact hx
  have ha : x * 2 ^ (32 - n) % 4294967296 < 4294967296 := Nat.mod_lt _ (by omega)
  have c1 : ((x : Int) * 2 ^ (32 - n) % 4294967296) = ((x * 2 ^ (32 - n) % 4294967296 : Nat) : Int) := by simp
  have c2 : ((x : Int) / 2 ^ n) = ((x / 2 ^ n : Nat) : Int) := by simp
  rw [e0, c1, c2, u32_or_nat _ _ ha (Nat.lt_of_le_of_lt (Nat.div_le_self _ _) hx), e1, nat_join (32 - n) _ _ (Nat.mul_mod_left _ _) hb, turnN_eq n x hx (by omega), Nat.add_comm]

set_option maxHeartbeats 400000 in
theorem rot_any (x n : Nat) (hx : x < 4294967296) (h1 : 1 ≤ n) (h2 : n ≤ 31) (w : World) :
    Calls Tryd.prog 64 #[.int .u32 x, .int .i64 (-(n : Int))] w fun e w' => e = .returned (.int .u32 (turnN x n : Nat)) ∧ w = w' := by
  have hA := rot_and n h1 h2
  have HO := Lib.hid (rot_or x n hx h2)
  go_enter Tryd.func64, Tryd.ntmps64
  go_wp2
  go_ret
  exact ⟨ret_u32 HO.out, rfl⟩

theorem right_any (x n : Nat) (N : Int) (hN : N = n) (hx : x < 4294967296) (h1 : 1 ≤ n) (h2 : n ≤ 31) (w : World) :
    Calls Tryd.prog 51 #[.int .u32 x, .int .i64 N] w fun e w' => e = .returned (.int .u32 (turnN x n : Nat)) ∧ w = w' := by
  subst hN
  have HR := Lib.hid (rot_any x n hx h1 h2)
  go_enter Tryd.func51, Tryd.ntmps51
  go_wp2_with (go_at_call 64; refine (HR.out _).mono ?_; rintro e w1 ⟨rfl, rfl⟩)
  go_ret
  exact ⟨rfl, rfl⟩

/-- a number's byte at a place, the upper one first -/
def upB (m n k : Nat) : Nat := n / 256 ^ (m - 1 - k) % 256
/-- the world behind k bytes that were laid -/
def laidN (w : World) (g off m n : Nat) : Nat → World
  | 0 => w
  | k + 1 => (laidN w g off m n k).setCell ⟨g, off + k, none⟩ (.int .u8 (upB m n k : Nat))
theorem laidN_row {w : World} {g off m n N : Nat} {t : TypeId} {f : Nat → Value} (h : w.rowIs g t N f) : ∀ k, (laidN w g off m n k).rowIs g t N (fun j => if off ≤ j ∧ j < off + k then .int .u8 (upB m n (j - off) : Nat) else f j)
  | 0 => h.congr (fun j _ => by rw [if_neg (by omega)])
  | k + 1 => ((laidN_row h k).set (off + k) _).congr (fun j _ => by
    by_cases e : j = off + k
    · subst e; simp
    · by_cases e2 : off ≤ j ∧ j < off + k
      · rw [if_neg e, if_pos e2, if_pos (by omega)]
      · rw [if_neg e, if_neg e2, if_neg (by omega)])
theorem laidN_below {B : Nat} {w0 w : World} (h : Below B w0 w) {g off m n : Nat} (hg : B ≤ g) : ∀ k, Below B w0 (laidN w g off m n k)
  | 0 => h
  | k + 1 => (laidN_below h hg k).setCell (p := ⟨g, off + k, none⟩) hg _
theorem laidN_block {w : World} {g off m n b : Nat} (hb : b ≠ g) : ∀ k, (laidN w g off m n k).heap[b]? = w.heap[b]?
  | 0 => rfl
  | k + 1 => (heap_setCell_other _ ⟨g, off + k, none⟩ _ _ hb).trans (laidN_block hb k)
theorem laidN_size {w : World} {g off m n : Nat} : ∀ k, (laidN w g off m n k).heap.size = w.heap.size
  | 0 => rfl
  | k + 1 => by
    rw [laidN]
    simp [laidN_size k]

set_option maxHeartbeats 1000000 in
theorem lay_any (g off m c n N : Nat) (t : TypeId) (f : Nat → Value) (w : World) (h : w.rowIs g t N f) (hm : off + m ≤ N) (hm8 : m ≤ 8) :
    Calls Tryd.prog 34 #[.slice (some ⟨g, off, none⟩) m c, .int .u64 n] w fun e w' => e = .returned (.tuple #[]) ∧ w' = laidN w g off m n m := by
  have HROW := Lib.hid (fun k => laidN_row (off := off) (m := m) (n := n) h k)
  clear h
  go_enter Tryd.func34, Tryd.ntmps34
  go_wp2
  go_loopw [7] (fun i wr => ∃ k : Nat, k ≤ m ∧ i = .int .i64 k ∧ wr = laidN w g off m n k) (fun i _ => m - (intOf i).toNat)
  case atStart => exact ⟨0, Nat.zero_le _, rfl, rfl⟩
  case round =>
    obtain ⟨k, hk, rfl, rfl⟩ := hrel
    by_cases hlt : k < m
    · have hr := HROW.out k
      have hc := hr.cell (i := off + k) (by omega)
      rw [if_neg (by omega)] at hc
      have hf := hr.frozen (off + k)
      clear hr
      have HN : Hid ((laidN w g off m n k).setCell ⟨g, off + k, none⟩ (.int .u8 (upB m n k : Nat)) = laidN w g off m n (k + 1)) := Lib.hid rfl
      obtain ⟨wk, hwk⟩ : ∃ wk, laidN w g off m n k = wk := ⟨_, rfl⟩
      rw [hwk] at hc hf HN ⊢
      clear hwk
      go_wp2
      have HE : ((n : Int) / 2 ^ (8 * (m - 1 - k)) % 256) = (upB m n k : Nat) := by
        unfold upB
        rw [show 2 ^ (8 * (m - 1 - k)) = ((256 ^ (m - 1 - k) : Nat) : Int) by rw [Int.natCast_pow, show ((256 : Nat) : Int) = 2 ^ 8 from rfl, ← Int.pow_mul]]
        simp
      go_roundw
      case rel => exact ⟨k + 1, by omega, by go_num, by rw [HE, HN.out]⟩
      case measure => simp [intOf]; omega
    · obtain rfl : k = m := by omega
      have HW : Hid (laidN w g off k n k = laidN w g off k n k) := Lib.hid rfl
      obtain ⟨wk, hwk⟩ : ∃ wk, laidN w g off k n k = wk := ⟨_, rfl⟩
      have HWK := Lib.hid hwk
      rw [hwk]
      clear HROW hwk HW
      go_wp2
      go_end0
      exact ⟨rfl, HWK.out.symm⟩

/-- what stands behind a text of n bytes -/
def endL (n : Nat) : List UInt8 := [128] ++ List.replicate (zerosN n) 0 ++ beK (8 * n) 8
theorem fillL_end (l : List UInt8) : fillL l = l ++ endL l.length := by simp [fillL, fillK, endL]
theorem endL_length (n : Nat) : (endL n).length = zerosN n + 9 := by simp [endL, beK_length]
theorem beK_getD (n j : Nat) (h : j < 8) : ((beK n 8).getD j 0).toNat = upB 8 n j := by
  unfold upB
  have : (beK n 8).getD j 0 = UInt8.ofNat (n / 256 ^ (7 - j) % 256) := by
    unfold beK
    rw [List.getD, List.getElem?_reverse (by simpa using h)]
    simp only [List.length_map, List.length_range, List.getElem?_map]
    rw [List.getElem?_range (by omega)]
    simp only [Option.map_some, Option.getD_some]
  rw [this]
  simp
theorem endL_getD (n j : Nat) (h : j < zerosN n + 9) : ((endL n).getD j 0).toNat = if j = 0 then 128 else if 1 + zerosN n ≤ j then upB 8 (8 * n) (j - (1 + zerosN n)) else 0 := by
  unfold endL
  by_cases h0 : j = 0
  · subst h0; simp
  · rw [if_neg h0]
    by_cases h1 : 1 + zerosN n ≤ j
    · rw [if_pos h1, List.getD, List.getElem?_append_right (by simp; omega)]
      rw [← beK_getD _ _ (by omega), List.getD]
      congr 3
      simp
      omega
    · rw [if_neg h1, List.getD, List.getElem?_append_left (by simp; omega), List.getElem?_append_right (by simp; omega)]
      simp only [List.length_singleton, List.getElem?_replicate]
      rw [if_pos (by omega)]
      rfl

set_option maxHeartbeats 1000000 in
theorem end_any (n : Nat) (hn : n ≤ 1000000) (w : World) :
    Calls Tryd.prog 33 #[.int .i64 n] w fun e w' => e = .returned (.string ⟨(endL n).toArray⟩) ∧ Below w.heap.size w w' := by
  have hz : zerosN n < 64 := Nat.mod_lt _ (by omega)
  obtain ⟨z, hze⟩ : ∃ z, zerosN n = z := ⟨_, rfl⟩
  obtain ⟨m, hm⟩ : ∃ m, z + 9 = m := ⟨_, rfl⟩
  have hmk := run_make_row' (P := Tryd.prog) 66 5 (.int .u8 0) 1 Tryd.underlying66 Bu.info_byte rfl .i64 .i64 m (by omega) (by omega)
  have e : ((m : Nat) : Int) = 1 + (z : Int) + 8 := by omega
  rw [e] at hmk
  have hr : (w.alloc (.cells ((madeCells #[Value.int IntKind.u8 0] m).setIfInBounds 0 (.int .u8 128)) 5)).rowIs w.heap.size 5 m (fun j => if j = 0 then .int .u8 128 else .int .u8 0) := by
    have h0 := (World.rowIs_made w (.int .u8 0) m 5).set 0 (.int .u8 128)
    rw [World.setCell_alloc_at _ _ _ _ _ rfl] at h0
    exact h0
  have hm8 : m - (1 + z) = 8 := by omega
  have hc0 := (World.rowIs_made w (.int .u8 0) m 5).cell (i := 0) (by omega)
  have hf0 := (World.rowIs_made w (.int .u8 0) m 5).frozen 0
  have HL := lay_any w.heap.size (1 + z) (m - (1 + z)) (m - (1 + z)) (8 * n) m 5 _ _ hr (by omega) (by omega)
  rw [show ((8 * n : Nat) : Int) = 8 * (n : Int) by omega] at HL
  have HL := Lib.hid HL
  have hR := laidN_row (off := 1 + z) (m := m - (1 + z)) (n := 8 * n) hr (m - (1 + z))
  have hB := laidN_below (g := w.heap.size) (off := 1 + z) (m := m - (1 + z)) (n := 8 * n) ((Below.refl w.heap.size w).alloc (Nat.le_refl _) (.cells ((madeCells #[Value.int IntKind.u8 0] m).setIfInBounds 0 (.int .u8 128)) 5)) (Nat.le_refl _) (m - (1 + z))
  obtain ⟨W, hW⟩ : ∃ W, laidN (w.alloc (.cells ((madeCells #[Value.int IntKind.u8 0] m).setIfInBounds 0 (.int .u8 128)) 5)) w.heap.size (1 + z) (m - (1 + z)) (8 * n) (m - (1 + z)) = W := ⟨_, rfl⟩
  rw [hW] at hR hB HL
  have hI : IsBs W (some ⟨w.heap.size, 0, none⟩) m m (endL n) := by
    refine IsBs.ofRow (endL n) (by unfold maxLen; omega) hR (by rw [endL_length, hze, hm]) (fun j hj => ?_)
    rw [endL_getD n j (by omega), hze, hm8]
    by_cases h0 : j = 0
    · subst h0; simp
    · by_cases h1 : 1 + z ≤ j
      · rw [if_pos ⟨h1, by omega⟩, if_neg h0, if_pos h1]
      · rw [if_neg (by omega), if_neg h0, if_neg h0, if_neg h1]; rfl
  have hcv := conv_bs hI
  have hzi : (119 - (n : Int) % 64) % 64 = z := by unfold zerosN at hze; omega
  clear hr e hR hI hW hze hm8
  go_enter Tryd.func33, Tryd.ntmps33
  go_wp2_with fail
  refine HL.out.mono ?_
  rintro e w1 ⟨rfl, rfl⟩
  clear hmk hc0 hf0
  go_wp2
  go_ret
  exact ⟨rfl, hB⟩
end Sm
end Go.Proofs.YtlembfhdljmcoaaDoor
