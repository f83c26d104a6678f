/-
  Whether nodes are the same: contracts of slices.Equal over bytes, node.Same, the plain answers' Same; the plain Same over texts.
-/
import Derived.Test.YtoeblhdddehemaaDoorMg14
import Derived.BigQuiet
import Derived.Laws.StructEq
import Derived.ChangeKeysEq
import Derived.Test.YtoeblhdddehemaaDoorMg1
import Derived.Maps.AppendAt
import Derived.Test.YtoeblhdddehemaaDoorMg23
import Derived.Test.YtoeblhdddehemaaDoorMg24
import Derived.Test.YtoeblhdddehemaaDoorMg22
import Derived.Test.YtoeblhdddehemaaDoorMg6
import Derived.Test.YtoeblhdddehemaaDoorMg10
import Derived.Maps.OwnSet
import Derived.DeepKeys4
import Derived.WideKeyArr2
import Derived.Test.YtoeblhdddehemaaDoorMg20
namespace Go.Proofs.YtoeblhdddehemaaDoor
set_option maxRecDepth 20000
open Go.RowKit

namespace No
open Rl (sameB sameB_true sameB_false text_ne)
theorem list_toNat {a b : List UInt8} (hl : a.length = b.length) (h : ∀ i, i < a.length → (a.getD i 0).toNat = (b.getD i 0).toNat) : a = b := by
  apply List.ext_getElem hl
  intro i h1 h2
  have := h i h1
  simp only [List.getD, List.getElem?_eq_getElem h1, List.getElem?_eq_getElem h2, Option.getD_some] at this
  exact UInt8.toNat_inj.1 this

theorem sameB_eq {α : Type} (x y : α) (P : Prop) [Decidable P] (h : P ↔ x = y) : sameB x y = decide P := by
  by_cases hp : P
  · rw [sameB_true (h.1 hp)]; simp [hp]
  · rw [sameB_false (fun e => hp (h.2 e))]; simp [hp]
theorem items_st (ks ls : List ByteArray) (w : World) (d : Nat) : ∀ is : List Nat, (∀ i ∈ is, i < ks.length ∧ i < ls.length) →
    (Op.eqItems (d + 1) 9 1 (kidC ks) (kidC ls) is).run Tryd.prog w = .ok (is.all fun i => (ks.getD i eB).toList == (ls.getD i eB).toList) w
  | [], _ => by simp [Op.eqItems]
  | i :: is, h => by
    have ih := items_st ks ls w d is (fun j hj => h j (List.mem_cons_of_mem _ hj))
    have h1 := part_st ks i (h i (List.mem_cons_self ..)).1 w
    have h2 := part_st ls i (h i (List.mem_cons_self ..)).2 w
    unfold Op.eqItems
    rw [Nat.mul_one]
    simp only [Sem.run_bind, h1, h2, Result.andThen_ok, run_equalIn_string w d 9 _ _ Tryd.underlying9, List.all_cons]
    cases (ks.getD i eB).toList == (ls.getD i eB).toList
    · simp
    · simpa using ih
theorem toList_inj {a b : ByteArray} : (a.toList == b.toList) = true ↔ a = b := by
  constructor
  · intro h
    by_cases e : a = b
    · exact e
    · rw [text_ne e] at h; cases h
  · rintro rfl
    simp
theorem all_st (ks ls : List ByteArray) (h1 : ks.length = 16) (h2 : ls.length = 16) : ((List.range 16).all fun i => (ks.getD i eB).toList == (ls.getD i eB).toList) = sameB ks ls := by
  by_cases e : ks = ls
  · rw [sameB_true e, e]
    simp
  · rw [sameB_false e]
    rw [List.all_eq_false]
    apply Classical.byContradiction
    intro hn
    apply e
    apply List.ext_getElem (h1.trans h2.symm)
    intro i hi hi'
    have : (ks.getD i eB).toList == (ls.getD i eB).toList := by
      apply Classical.byContradiction
      intro hc
      exact hn ⟨i, by simp; omega, by simpa using hc⟩
    have := toList_inj.1 this
    simpa [List.getD, hi, hi'] using this
theorem eql_ks (ks ls : List ByteArray) (h1 : ks.length = 16) (h2 : ls.length = 16) (w : World) : (binOp .eql 43 (.agg (kidC ks)) (.agg (kidC ls))).run Tryd.prog w = .ok (.bool (sameB ks ls)) w := by
  obtain ⟨i0, hi, _⟩ := info_st_parts
  rw [run_eql_struct, show (10000 : Nat) = 9999 + 1 from rfl, run_equalIn_array w 9999 (kidC ks) (kidC ls) Tryd.underlying43 hi, cells_st, items_st ks ls w 9998 (List.range 16) (fun i h => by
    have : i < 16 := by simpa using h
    omega), all_st ks ls h1 h2]
  rfl
theorem op_eql_ks {ev : Operand → Value} {o : Oper} {w : World} {ks ls : List ByteArray} (h1 : ks.length = 16) (h2 : ls.length = 16) (h : ∃ x y, o.op = .binOp .eql 43 x y 43 ∧ ev x = .agg (kidC ks) ∧ ev y = .agg (kidC ls)) :
    (execOp ev o).run Tryd.prog w = .ok (.value (.bool (sameB ks ls))) w := by
  obtain ⟨x, y, ho, hx, hy⟩ := h
  unfold execOp
  simp [ho, hx, hy, run_eqGuard_agg, eql_ks ks ls h1 h2 w, Result.andThen]

theorem op_eql_st {ev : Operand → Value} {o : Oper} {w : World} (s : ByteArray) (h : ∃ x y, o.op = .binOp .eql 9 x y 9 ∧ ev x = .string s ∧ ev y = .string s) :
    (execOp ev o).run Tryd.prog w = .ok (.value (.bool true)) w := by
  obtain ⟨x, y, ho, hx, hy⟩ := h
  have : (binOp .eql 9 (.string s) (.string s)).run Tryd.prog w = .ok (.bool true) w := by
    unfold binOp
    simp [go_sem, Op.stringOp]
  unfold execOp
  simp [ho, hx, hy, go_sem]
/-- two nodes' blocks -/
theorem two_nodes (w : World) (N M : Nd) (a b : Option Addr) (n m c d : Nat) : ∃ w2, w2 = (w.alloc (.cells (ndC N a n c) 45)).alloc (.cells (ndC M b m d) 45) ∧ OwnN w2 w.heap.size N a n c ∧ OwnN w2 (w.heap.size + 1) M b m d ∧ Below w.heap.size w w2 := by
  refine ⟨_, rfl, (Rg.Own.new _ _ _).below (al1 _ _), ?_, al2 _ _ _⟩
  have := Rg.Own.new (w.alloc (.cells (ndC N a n c) 45)) (ndC M b m d) 45
  simpa using this
theorem nd_ne {N M : Nd} (h : N.kd ≠ M.kd ∨ N.p ≠ M.p ∨ N.v ≠ M.v ∨ N.ks ≠ M.ks) : N ≠ M := by
  rintro rfl
  simp at h
theorem nd_eq {N M : Nd} (h0 : N.kd = M.kd) (h1 : N.p = M.p) (h2 : N.v = M.v) (h3 : N.ks = M.ks) : N = M := by
  cases N; cases M
  simp at h0 h1 h2 h3
  rw [h0, h1, h2, h3]

set_option maxHeartbeats 2000000 in
theorem rsameSt_any (a b : Option Addr) (n m c d : Nat) (x y : List ByteArray) (w : World) (hx : IsSt w a n c x) (hy : IsSt w b m d y) :
    Calls Tryd.prog 15 #[.slice a n c, .slice b m d] w fun e w' => e = .returned (.bool (sameB x y)) ∧ Below w.heap.size w w' := by
  have hm := hx.2.1
  have hnc := hx.1
  have hm2 := hy.2.1
  have hnc2 := hy.1
  unfold maxLen at hm hm2
  have H1 := Lib.hid hx
  have H2 := Lib.hid hy
  clear hx hy
  by_cases hnm : n = m
  · subst hnm
    go_enter Tryd.func15, Tryd.ntmps15
    go_wp2
    go_loopw [5] (fun i wr => ∃ (q : Nat), q ≤ n ∧ i = .int .i64 q ∧ Hid (∀ j, j < q → x.getD j eB = y.getD j eB) ∧ Below w.heap.size w wr) (fun i _ => n - (intOf i).toNat)
    case atStart => exact ⟨0, Nat.zero_le _, rfl, Lib.hid (fun j hj => absurd hj (Nat.not_lt_zero _)), Below.refl _ _⟩
    case round =>
      obtain ⟨q, hq, rfl, HK, hB⟩ := hrel
      have HB := Lib.hid hB
      clear hB
      by_cases hlt : q < n
      · obtain ⟨b1, off1, rfl, hb1, hc1⟩ := H1.out.at' q hlt
        obtain ⟨b2, off2, rfl, hb2, hc2⟩ := H2.out.at' q hlt
        have e1 : wr.cell? ⟨b1, off1 + q, none⟩ = some (.string (x.getD q eB)) := by rw [HB.out.cell (p := ⟨b1, off1 + q, none⟩) hb1]; exact hc1
        have e2 : wr.cell? ⟨b2, off2 + q, none⟩ = some (.string (y.getD q eB)) := by rw [HB.out.cell (p := ⟨b2, off2 + q, none⟩) hb2]; exact hc2
        obtain ⟨u, hu⟩ : ∃ u, x.getD q eB = u := ⟨_, rfl⟩
        obtain ⟨v, hv⟩ : ∃ v, y.getD q eB = v := ⟨_, rfl⟩
        have HU := Lib.hid hu
        have HV := Lib.hid hv
        rw [hu] at e1
        rw [hv] at e2
        clear hc1 hc2 hu hv
        by_cases huv : u = v
        · have HK' : Hid (∀ j, j < q + 1 → x.getD j eB = y.getD j eB) := Lib.hid (fun j hj => by
            by_cases e : j = q
            · subst e; rw [HU.out, HV.out, huv]
            · exact HK.out j (by omega))
          subst huv
          go_wp2_with (go_quiet (fail))
          go_roundw
          case rel => exact ⟨q + 1, by omega, by go_num, Lib.hid HK'.out, below_drewN HB.out _⟩
          case measure => simp [intOf]; omega
        · have hne := text_ne huv
          have HN : Hid (x ≠ y) := Lib.hid (by
            rintro rfl
            exact huv (HU.out.symm.trans HV.out))
          go_wp2_with (go_quiet (fail))
          go_ret
          exact ⟨by rw [sameB_false HN.out]; rfl, below_drewN HB.out _⟩
      · obtain rfl : q = n := by omega
        have HE : Hid (x = y) := Lib.hid (by
          apply List.ext_getElem (by rw [H1.out.len, H2.out.len])
          intro j h1 h2
          have := HK.out j (by rw [← H1.out.len]; exact h1)
          simpa [List.getD, h1, h2] using this)
        go_wp2
        go_ret
        exact ⟨by rw [sameB_true HE.out]; rfl, HB.out⟩
  · have HE : Hid (x ≠ y) := Lib.hid (by
      rintro rfl
      exact hnm (H1.out.len.symm.trans H2.out.len))
    have hd : ((n : Int) != (m : Int)) = true := by simp; omega
    go_enter Tryd.func15, Tryd.ntmps15
    go_wp2
    go_ret
    exact ⟨by rw [sameB_false HE.out]; rfl, Below.refl _ _⟩
end No
end Go.Proofs.YtoeblhdddehemaaDoor

/-
  The contract of the plain answer's path of a packed text.
-/
namespace Go.Proofs.YtoeblhdddehemaaDoor
set_option maxRecDepth 100000
open Go.RowKit

namespace No
open Ni
/-- the path so far -/
def pathJ (s : ByteArray) (j : Nat) : List UInt8 := ((nibsL s).take (2 * j)).drop (2 - nibAt s 0 % 2)
def pcJ (s : ByteArray) (j : Nat) : List Value := (pathJ s j).map fun x => Value.int .u8 x.toNat
theorem take_two (l : List UInt8) (j : Nat) (h : 2 * j + 1 < l.length) : l.take (2 * (j + 1)) = l.take (2 * j) ++ [l.getD (2 * j) 0, l.getD (2 * j + 1) 0] := by
  rw [show 2 * (j + 1) = 2 * j + 1 + 1 by omega, take_snoc_getD l (2 * j + 1) h, take_snoc_getD l (2 * j) (by omega), List.append_assoc]
  rfl
theorem pathJ_step (s : ByteArray) (j : Nat) (h1 : 1 ≤ j) (hj : j < s.size) : pathJ s (j + 1) = pathJ s j ++ [(nibsL s).getD (2 * j) 0, (nibsL s).getD (2 * j + 1) 0] := by
  unfold pathJ
  rw [take_two _ _ (by rw [nibsL_length]; omega), List.drop_append_of_le_length (by rw [List.length_take, nibsL_length]; omega)]
theorem nib_hi (s : ByteArray) (j : Nat) (hj : j < s.size) : nibAt s (2 * j) = (s[j]'hj).toNat / 16 := by
  unfold nibAt
  rw [if_pos (by omega), show 2 * j / 2 = j by omega, getD_data s j hj]
theorem nib_lo (s : ByteArray) (j : Nat) (hj : j < s.size) : nibAt s (2 * j + 1) = (s[j]'hj).toNat % 16 := by
  unfold nibAt
  rw [if_neg (by omega), show (2 * j + 1) / 2 = j by omega, getD_data s j hj]
theorem pcJ_step (s : ByteArray) (j : Nat) (h1 : 1 ≤ j) (hj : j < s.size) (X Y : Int) (hX : X = ((s[j]'hj).toNat / 16 : Nat)) (hY : Y = ((s[j]'hj).toNat % 16 : Nat)) : pcJ s (j + 1) = pcJ s j ++ [.int .u8 X, .int .u8 Y] := by
  unfold pcJ
  rw [pathJ_step s j h1 hj, List.map_append, List.map_cons, List.map_cons, List.map_nil, nibsL_getD _ _ (by omega), nibsL_getD _ _ (by omega), nib_hi s j hj, nib_lo s j hj, hX, hY]
theorem pathJ_length (s : ByteArray) (j : Nat) (hj : j ≤ s.size) : (pathJ s j).length = 2 * j - (2 - nibAt s 0 % 2) := by
  unfold pathJ
  rw [List.length_drop, List.length_take, nibsL_length, Nat.min_eq_left (by omega)]
theorem pathJ_all (s : ByteArray) : pathJ s s.size = pathL s := by
  unfold pathJ pathL
  rw [List.take_of_length_le (by rw [nibsL_length]; exact Nat.le_refl _)]
theorem pathJ_odd (s : ByteArray) (h0 : 0 < s.size) (h : nibAt s 0 % 2 = 1) (X : Int) (hX : X = (nibAt s 1 : Nat)) : pcJ s 1 = [.int .u8 X] := by
  obtain ⟨a, b, r, e, _, hb⟩ := nibs_two s h0
  unfold pcJ pathJ
  rw [e, h, hX, ← hb]
  rfl
theorem pathJ_even (s : ByteArray) (h0 : 0 < s.size) (h : nibAt s 0 % 2 = 0) : pcJ s 1 = [] := by
  obtain ⟨a, b, r, e, _, hb⟩ := nibs_two s h0
  unfold pcJ pathJ
  rw [e, h]
  rfl
/-- what path hands back -/
def PathPost (w : World) (s : ByteArray) (e : Ending) (w' : World) : Prop := ∃ (a : Option Addr) (n c : Nat) (l : List UInt8) (leaf ok : Bool), e = .returned (.tuple #[.slice a n c, .bool leaf, .bool ok]) ∧ BsF w.heap.size w' a n c l ∧
  (ok = true ∧ s.size ≠ 0 ∧ ¬ Bad s ∧ l = pathL s ∧ leaf = leafB s ∨ ok = false ∧ (s.size = 0 ∨ Bad s)) ∧ Below w.heap.size w w'
theorem info_u8p : (Tryd.prog.info? 5).map (fun i => (i.zero, i.size, i.bytes)) = some (some (.int .u8 0), 1, 1) := by kernel_rfl
/-- two bytes in a new row -/
theorem meetTwo {o : Oper} {a : Act} {w : World} {K : Act → World → Prop} {Q : Exit → Act → World → Prop} {ops : Array Oper} {x y : Int} (hw : Region.wanted o (yielded ops a.tmps) = true)
    (ho : ∃ p q, o.op = .buildSlice 42 2 #[(0, p), (1, q)] ∧ a.eval p = .int .u8 x ∧ a.eval q = .int .u8 y)
    (h : ∀ w' b, b = w.heap.size → Rg.Own w' b #[.int .u8 x, .int .u8 y] 5 → Below w.heap.size w w' → K (a.put o.dst (.slice (some ⟨b, 0, none⟩) 2 2)) w') : if Region.wanted o (yielded ops a.tmps) = true then Oper.wp Tryd.prog o a w K Q else K (a.put o.dst undef) w := by
  obtain ⟨p, q, ho, hp, hq⟩ := ho
  obtain ⟨i0, hi, hz, hs, hby⟩ := info_parts info_u8p
  refine Rg.want hw (wp_buildSlice 42 5 2 _ ho #[.int .u8 x, .int .u8 y] i0 _ Tryd.underlying42 hi hz (by rw [hs]; decide) (by rw [hs]; decide) ?_ (h _ _ rfl (Rg.Own.new _ _ _) (al1 _ _)))
  simp only [List.map_toArray, List.map_cons, List.map_nil, hp, hq, hs]
  kernel_rfl
/-- two bytes go behind those that are held -/
theorem meetPush2 {o : Oper} {a : Act} {w : World} {K : Act → World → Prop} {Q : Exit → Act → World → Prop} {ops : Array Oper} {B b2 n : Nat} {v : Value} {xs : List Value} {x y : Int} (hw : Region.wanted o (yielded ops a.tmps) = true)
    (ho : ∃ s z, o.op = .call { callee := .builtin .append, args := #[s, z], argTypes := #[42, 42] } ∧ a.eval s = v ∧ a.eval z = .slice (some ⟨b2, 0, none⟩) 2 2)
    (hR : w.ownsRow B 5 1 v n xs) (h2 : Rg.Own w b2 #[.int .u8 x, .int .u8 y] 5) (hn : n ≤ 4096) (hB : B ≤ w.heap.size)
    (h : ∀ v' w', w'.ownsRow B 5 1 v' (n + 2) (xs ++ [.int .u8 x, .int .u8 y]) → w.grownBy w' v.ownBlock → K (a.put o.dst v') w') : if Region.wanted o (yielded ops a.tmps) = true then Oper.wp Tryd.prog o a w K Q else K (a.put o.dst undef) w := by
  obtain ⟨s, z, ho, hs, hy⟩ := ho
  obtain ⟨i0, hi, hz, hsz, hby⟩ := info_parts info_u8p
  obtain ⟨v', w', hr, h3, h4, _, h5⟩ := run_append_own_at (P := Tryd.prog) w B 42 o.type 5 i0 _ 1 1 Tryd.underlying42 hi hz hsz hby rfl (by decide) v n _ hR ⟨b2, 0, none⟩ 2 2 [.int .u8 x, .int .u8 y] rfl
    (fun j u hu => by
      rw [Addr.add_mid, Nat.zero_add, cell_of_row w b2 _ _ _ _ h2.2]
      simpa using hu)
    (fun u hu => by simp at hu; rcases hu with rfl | rfl <;> rfl) (by unfold maxLen; omega) (by omega) hB
  refine Rg.want hw ?_
  unfold Oper.wp execOp
  simp only [ho, resolve, invoke, builtin, Sem.run_bind, Sem.run_pure, Result.andThen_ok, List.map_toArray, List.map_cons, List.map_nil, hs, hy, hr]
  exact h v' w' h3 h4

set_option maxHeartbeats 4000000 in
theorem rpath_nil (w : World) : Calls Tryd.prog 44 #[.string eB] w (PathPost w eB) := by
  go_enter Tryd.func44, Tryd.ntmps44
  go_wp2
  go_ret3
  exact ⟨none, 0, 0, [], false, false, rfl, BsF.nil _ _, .inr ⟨rfl, .inl rfl⟩, Below.refl _ _⟩
set_option maxHeartbeats 4000000 in
theorem rpath_big (s : ByteArray) (h0 : 0 < s.size) (h : 64 ≤ (s[0]'h0).toNat) (w : World) : Calls Tryd.prog 44 #[.string s] w (PathPost w s) := by
  have hne := Ni.not_empty h0
  obtain ⟨hn0, hn1⟩ := nib01 s h0
  have HB : Hid (Bad s) := Lib.hid (by
    unfold Bad
    rcases Nat.mod_two_eq_zero_or_one (nibAt s 0) with e | e
    · exact .inl ⟨e, .inr (.inl (by omega))⟩
    · exact .inr ⟨e, .inr (by omega)⟩)
  obtain ⟨C, hC⟩ : ∃ C, (s[0]'h0).toNat = C := ⟨_, rfl⟩
  rw [hC] at h
  have hd : decide (64 ≤ (C : Int)) = true := by simp; omega
  clear hn0 hn1
  go_enter Tryd.func44, Tryd.ntmps44
  go_wp2
  go_ret3
  exact ⟨none, 0, 0, [], false, false, rfl, BsF.nil _ _, .inr ⟨rfl, .inr HB.out⟩, Below.refl _ _⟩
theorem wrap_div (x : Nat) (h : x < 256) : IntKind.u8.wrap ((x : Int) / 16) = ((x / 16 : Nat) : Int) := by
  simp [IntKind.wrap, IntKind.bits, IntKind.signed]
  omega
theorem row_stays {B n : Nat} {w w' : World} {v : Value} {xs : List Value} (h : w.ownsRow B 5 1 v n xs) (hb : Below w.heap.size w w') : w'.ownsRow B 5 1 v n xs := by
  refine h.kept (row := none) ⟨hb.os, hb.tape, hb.output, hb.size, fun k hk _ => hb.block k hk⟩ ?_
  cases v.ownBlock with
  | none => exact .inl rfl
  | some g => exact .inr (fun e => by cases e)
theorem pcJ_length (s : ByteArray) (j : Nat) (hj : j ≤ s.size) : (pcJ s j).length = 2 * j - (2 - nibAt s 0 % 2) := by
  unfold pcJ
  rw [List.length_map, pathJ_length s j hj]
/-- the last line's answer -/
theorem pack_tells (s : ByteArray) (h0 : 0 < s.size) (hx : (s[0]'h0).toNat < 64) (h64 : (pathL s).length ≤ 64) :
    ((⟨(packL (pathL s) (decide (32 ≤ (s[0]'h0).toNat))).toArray⟩ : ByteArray) = s → ¬ Bad s) ∧ (¬ Bad s → (⟨(packL (pathL s) (decide (32 ≤ (s[0]'h0).toNat))).toArray⟩ : ByteArray) = s ∧ decide (32 ≤ (s[0]'h0).toNat) = leafB s) := by
  obtain ⟨hn0, hn1⟩ := nib01 s h0
  refine ⟨fun e => ?_, fun hb => ?_⟩
  · have := pack_good (pathL s) (decide (32 ≤ (s[0]'h0).toNat)) (path_right s) h64
    rw [e] at this
    exact this
  · have hl : decide (32 ≤ (s[0]'h0).toNat) = leafB s := by
      unfold leafB
      rw [decide_eq_decide]
      omega
    exact ⟨by rw [hl]; exact unpack_pack s h0 hb, hl⟩

set_option maxHeartbeats 16000000 in
theorem rpath_even (s : ByteArray) (hs : s.size ≤ 1000000) (h0 : 0 < s.size) (h : (s[0]'h0).toNat < 64) (ho : nibAt s 0 % 2 = 0) (w : World) : Calls Tryd.prog 44 #[.string s] w (PathPost w s) := by
  have hne := Ni.not_empty h0
  obtain ⟨hn0, hn1⟩ := nib01 s h0
  have HP := Lib.hid (fun j h1 hj X Y hX hY => pcJ_step s j h1 hj X Y hX hY)
  have HLn := Lib.hid (fun j hj => pcJ_length s j hj)
  rw [ho] at HLn
  obtain ⟨i0, hi, hz0, hz1, hz2⟩ := info_parts Cc.info_u8
  have HI : Hid (_ ∧ _ ∧ _ ∧ _) := Lib.hid ⟨hi, hz0, hz1, hz2⟩
  have HF1 := Lib.hid (pathJ_even s h0 ho)
  obtain ⟨C, hC⟩ : ∃ C, (s[0]'h0).toNat = C := ⟨_, rfl⟩
  rw [hC] at hn0 hn1 h
  have d64c : decide (64 ≤ (C : Int)) = false := by simp; omega
  have dodd : ((C : Int) / 16 % 2 == 1) = false := by simp; omega
  obtain ⟨o, hoe⟩ : ∃ o, (0 : Nat) = o := ⟨_, rfl⟩
  rw [hoe] at HLn
  have ho2 : o ≤ 1 := by omega
  clear hi hz0 hz1 hz2 hoe
  go_enter Tryd.func44, Tryd.ntmps44
  go_wp2
  go_loopw [5, 6] (fun v i wr => ∃ j : Nat, 1 ≤ j ∧ j ≤ min s.size 40 ∧ i = .int .i64 j ∧ Hid (wr.ownsRow w.heap.size 5 1 v (pcJ s j).length (pcJ s j)) ∧ Hid (Below w.heap.size w wr)) (fun _ i _ => 40 - (intOf i).toNat)
  case atStart => exact ⟨1, Nat.le_refl _, by omega, rfl, Lib.hid (by rw [HF1.out]; exact World.ownsRow_nil _ _ _ _), Lib.hid (Below.refl _ _)⟩
  case round =>
    obtain ⟨j, h1, hj, rfl, HRr, HB⟩ := hrel
    by_cases hlt : j < min s.size 40
    · have hjs : j < s.size := by omega
      have hj40 : j < 40 := by omega
      have d1 : decide ((j : Int) < (s.size : Int)) = true := by simp; omega
      have d2 : decide ((j : Int) < 40) = true := by simp; omega
      have HST := Lib.hid (HP.out j h1 hjs (IntKind.u8.wrap (((s[j]'hjs).toNat : Int) / 16)) (((s[j]'hjs).toNat : Int).tmod 16) (wrap_div _ (UInt8.toNat_lt _)) (by rw [Int.tmod_eq_emod_of_nonneg (by omega)]; omega))
      have hl0 := HLn.out j (by omega)
      obtain ⟨X, hX⟩ : ∃ X, (s[j]'hjs).toNat = X := ⟨_, rfl⟩
      rw [hX] at HST
      go_wp2_with fail
      refine wp_region_noPanic ?_
      refine wp_region_held_drew (S := fun w' => Below w.heap.size w w') (by kernel_rfl) (HB.out.drew) (fun hHeld => ?_)
      refine Rg.takeL (i := 0) (v := ?_) rfl (by kernel_rfl) (by kernel_rfl) (by kernel_rfl) (fun _ _ _ h => h) (Or.inl ⟨by rfl, ?_⟩) (by assumption) ?_
      rotate_left
      · (intro wz hSw; (try dsimp only at hSw); go_simp <;> with_reducible rfl)
      try simp only [Act.put, List.setIfInBounds_toArray, List.set_cons_zero, List.set_cons_succ]
      refine Rg.takeL (i := 1) (v := ?_) rfl (by kernel_rfl) (by kernel_rfl) (by kernel_rfl) (fun _ _ _ h => h) (Or.inl ⟨by rfl, ?_⟩) (by assumption) ?_
      rotate_left
      · (intro wz hSw; (try dsimp only at hSw); go_simp <;> with_reducible rfl)
      try simp only [Act.put, List.setIfInBounds_toArray, List.set_cons_zero, List.set_cons_succ]
      refine Rg.takeL (i := 2) (v := ?_) rfl (by kernel_rfl) (by kernel_rfl) (by kernel_rfl) (fun _ _ _ h => h) (Or.inl ⟨by rfl, ?_⟩) (by assumption) ?_
      rotate_left
      · (intro wz hSw; (try dsimp only at hSw); go_simp <;> with_reducible rfl)
      try simp only [Act.put, List.setIfInBounds_toArray, List.set_cons_zero, List.set_cons_succ]
      refine Rg.takeL (i := 3) (v := ?_) rfl (by kernel_rfl) (by kernel_rfl) (by kernel_rfl) (fun _ _ _ h => h) (Or.inl ⟨by rfl, ?_⟩) (by assumption) ?_
      rotate_left
      · (intro wz hSw; (try dsimp only at hSw); go_simp <;> with_reducible rfl)
      try simp only [Act.put, List.setIfInBounds_toArray, List.set_cons_zero, List.set_cons_succ]
      refine Rg.takeL (i := 4) (v := ?_) rfl (by kernel_rfl) (by kernel_rfl) (by kernel_rfl) (fun _ _ _ h => h) (Or.inl ⟨by rfl, ?_⟩) (by assumption) ?_
      rotate_left
      · (intro wz hSw; (try dsimp only at hSw); go_simp <;> with_reducible rfl)
      try simp only [Act.put, List.setIfInBounds_toArray, List.set_cons_zero, List.set_cons_succ]
      refine Rg.takeL (i := 5) (v := ?_) rfl (by kernel_rfl) (by kernel_rfl) (by kernel_rfl) (fun _ _ _ h => h) (Or.inl ⟨by rfl, ?_⟩) (by assumption) ?_
      rotate_left
      · (intro wz hSw; (try dsimp only at hSw); go_simp <;> with_reducible rfl)
      try simp only [Act.put, List.setIfInBounds_toArray, List.set_cons_zero, List.set_cons_succ]
      refine Rg.takeL (i := 6) (v := ?_) rfl (by kernel_rfl) (by kernel_rfl) (by kernel_rfl) (fun _ _ _ h => h) (Or.inl ⟨by rfl, ?_⟩) (by assumption) ?_
      rotate_left
      · (intro wz hSw; (try dsimp only at hSw); go_simp <;> with_reducible rfl)
      try simp only [Act.put, List.setIfInBounds_toArray, List.set_cons_zero, List.set_cons_succ]
      refine Rg.takeL (i := 7) (v := ?_) rfl (by kernel_rfl) (by kernel_rfl) (by kernel_rfl) (fun _ _ _ h => h) (Or.inl ⟨by rfl, ?_⟩) (by assumption) ?_
      rotate_left
      · (intro wz hSw; (try dsimp only at hSw); go_simp <;> with_reducible rfl)
      try simp only [Act.put, List.setIfInBounds_toArray, List.set_cons_zero, List.set_cons_succ]
      refine Rg.takeL (i := 8) (v := ?_) rfl (by kernel_rfl) (by kernel_rfl) (by kernel_rfl) (fun _ _ _ h => h) (Or.inl ⟨by rfl, ?_⟩) (by assumption) ?_
      rotate_left
      · (intro wz hSw; (try dsimp only at hSw); go_simp <;> with_reducible rfl)
      try simp only [Act.put, List.setIfInBounds_toArray, List.set_cons_zero, List.set_cons_succ]
      refine wpAnyH_ready (rs := [9]) (by kernel_rfl) (by simp) ?_
      refine Rg.readyL (i := 9) rfl (fun K hK => ?_)
      refine meetTwo (x := IntKind.u8.wrap ((X : Int) / 16)) (y := (X : Int).tmod 16) (by rfl) ⟨_, _, rfl, rfl, rfl⟩ ?_
      rintro wv0 b9 hb9 h9 hbx
      have hR9 := row_stays HRr.out.drew hbx
      refine hK.out _ _ ?_ (fun hHeld => ?_)
      · exact below_step' hHeld hbx
      clear hK K hbx hb9
      try simp only [Act.put, List.setIfInBounds_toArray, List.set_cons_zero, List.set_cons_succ]
      refine wpAnyH_ready (rs := [10]) (by kernel_rfl) (by simp) ?_
      refine Rg.readyL (i := 10) rfl (fun K hK => ?_)
      refine meetPush2 (by rfl) ⟨_, _, rfl, rfl, rfl⟩ hR9 h9 (by omega) hHeld.size ?_
      rintro v' wv1 hown hgrow
      have hlt' := hR9.lt
      have hB1 := Below.grown hHeld hgrow hHeld.size (fun g hg => (hlt' g hg).1)
      refine hK.out _ _ ?_ (fun hHeld => ?_)
      · exact hB1
      clear hK K
      try simp only [Act.put, List.setIfInBounds_toArray, List.set_cons_zero, List.set_cons_succ]
      refine Rg.takeL (i := 11) (v := ?_) rfl (by kernel_rfl) (by kernel_rfl) (by kernel_rfl) (fun _ _ _ h => h) (Or.inl ⟨by rfl, ?_⟩) (by assumption) ?_
      rotate_left
      · (intro wz hSw; (try dsimp only at hSw); go_simp <;> with_reducible rfl)
      try simp only [Act.put, List.setIfInBounds_toArray, List.set_cons_zero, List.set_cons_succ]
      refine wpAnyH_done (by kernel_rfl) ?_ _
      refine NoPanic.normal ?_
      go_wp2
      go_roundw
      case rel =>
        refine ⟨j + 1, by omega, by omega, by go_num, Lib.hid ?_, Lib.hid hHeld⟩
        have hl := HLn.out (j + 1) (by omega)
        have hl0 := HLn.out j (by omega)
        rw [hl0] at hown
        rw [hl, HST.out, show 2 * (j + 1) - (2 - o) = 2 * j - (2 - o) + 2 by omega]
        exact hown
      case measure => simp [intOf]; omega
    · obtain rfl : j = min s.size 40 := by omega
      by_cases h40 : s.size ≤ 40
      · have hmin : min s.size 40 = s.size := by omega
        rw [hmin] at hlt h1 hj ⊢
        have hR := HRr.out
        rw [hmin] at hR
        have hpl := HLn.out s.size (Nat.le_refl _)
        have hpe : pcJ s s.size = (pathL s).map fun x => Value.int .u8 x.toNat := by unfold pcJ; rw [pathJ_all]
        rw [hpl, hpe] at hR
        have hlen : (pathL s).length = 2 * s.size - (2 - o) := by rw [← hpl, hpe, List.length_map]
        obtain ⟨a, cap, rfl, hb⟩ := ofOwnF hR
        have HX := Lib.hid hb
        have d1 : decide ((s.size : Int) < (s.size : Int)) = false := by simp
        have HBd : Hid (64 < (pathL s).length → Bad s) := Lib.hid (fun h => Classical.byContradiction fun hb => by have := path_le s hb; omega)
        obtain ⟨N, hN⟩ : ∃ N, 2 * s.size - (2 - o) = N := ⟨_, rfl⟩
        rw [hN] at HX hlen
        rw [hN]
        by_cases h64 : N ≤ 64
        · obtain ⟨t1, t2⟩ := pack_tells s h0 (by omega) (by omega)
          rw [hC] at t1 t2
          have HPk := Lib.hid (rpack_any a N cap (pathL s) (decide (32 ≤ C)) (path_right s) h64 wr HX.out.1)
          obtain ⟨P, hP⟩ : ∃ P, (⟨(packL (pathL s) (decide (32 ≤ C))).toArray⟩ : ByteArray) = P := ⟨_, rfl⟩
          rw [hP] at t1 t2 HPk
          have HT1 := Lib.hid t1
          have HT2 := Lib.hid t2
          have d64 : decide ((N : Int) ≤ 64) = true := by simp; omega
          by_cases hps : P = s
          · have HNB := Lib.hid (t1 hps)
            have HLf := Lib.hid (t2 (t1 hps)).2
            by_cases h32 : 32 ≤ C
            · have d32 : decide (32 ≤ (C : Int)) = true := by simp; omega
              rw [show decide (32 ≤ C) = true by simp; omega] at HPk HLf
              clear HP HLn HRr hb
              go_wp2_with fail
              refine HPk.out.mono ?_
              rintro e w9 ⟨rfl, hb9⟩
              have HX9 := Lib.hid (HX.out.below hb9)
              have HB9 := Lib.hid (below_step' HB.out hb9)
              clear hb9
              subst hps
              go_wp2
              go_ret3
              exact ⟨a, N, cap, _, _, true, rfl, HX9.out, .inl ⟨rfl, by omega, HNB.out, rfl, HLf.out⟩, HB9.out⟩
            · have d32 : decide (32 ≤ (C : Int)) = false := by simp; omega
              rw [show decide (32 ≤ C) = false by simp; omega] at HPk HLf
              clear HP HLn HRr hb
              go_wp2_with fail
              refine HPk.out.mono ?_
              rintro e w9 ⟨rfl, hb9⟩
              have HX9 := Lib.hid (HX.out.below hb9)
              have HB9 := Lib.hid (below_step' HB.out hb9)
              clear hb9
              subst hps
              go_wp2
              go_ret3
              exact ⟨a, N, cap, _, _, true, rfl, HX9.out, .inl ⟨rfl, by omega, HNB.out, rfl, HLf.out⟩, HB9.out⟩
          · have HBd2 : Hid (Bad s) := Lib.hid (Classical.byContradiction fun hb => hps (t2 hb).1)
            have hne2 := Rl.text_ne hps
            by_cases h32 : 32 ≤ C
            · have d32 : decide (32 ≤ (C : Int)) = true := by simp; omega
              rw [show decide (32 ≤ C) = true by simp; omega] at HPk
              clear HP HLn HRr hb
              go_wp2_with fail
              refine HPk.out.mono ?_
              rintro e w9 ⟨rfl, hb9⟩
              have HX9 := Lib.hid (HX.out.below hb9)
              have HB9 := Lib.hid (below_step' HB.out hb9)
              clear hb9
              go_wp2
              go_ret3
              exact ⟨a, N, cap, _, _, false, rfl, HX9.out, .inr ⟨rfl, .inr HBd2.out⟩, HB9.out⟩
            · have d32 : decide (32 ≤ (C : Int)) = false := by simp; omega
              rw [show decide (32 ≤ C) = false by simp; omega] at HPk
              clear HP HLn HRr hb
              go_wp2_with fail
              refine HPk.out.mono ?_
              rintro e w9 ⟨rfl, hb9⟩
              have HX9 := Lib.hid (HX.out.below hb9)
              have HB9 := Lib.hid (below_step' HB.out hb9)
              clear hb9
              go_wp2
              go_ret3
              exact ⟨a, N, cap, _, _, false, rfl, HX9.out, .inr ⟨rfl, .inr HBd2.out⟩, HB9.out⟩
        · have HBd2 : Hid (Bad s) := Lib.hid (HBd.out (by omega))
          have d64 : decide ((N : Int) ≤ 64) = false := by simp; omega
          clear HP HLn HRr hb
          go_wp2
          go_ret3
          exact ⟨a, N, cap, _, _, false, rfl, HX.out, .inr ⟨rfl, .inr HBd2.out⟩, HB.out⟩
      · have hmin : min s.size 40 = 40 := by omega
        rw [hmin] at hlt h1 hj ⊢
        have hR := HRr.out
        rw [hmin] at hR
        have hpl := HLn.out 40 (by omega)
        rw [hpl] at hR
        obtain ⟨a, cap, rfl, hb⟩ := ofOwnF (l := pathJ s 40) hR
        have HX := Lib.hid hb
        have d1 : decide ((40 : Int) < (s.size : Int)) = true := by simp; omega
        have HBd2 : Hid (Bad s) := Lib.hid (by
          unfold Bad
          rcases Nat.mod_two_eq_zero_or_one (nibAt s 0) with e | e
          · exact .inl ⟨e, .inl (by omega)⟩
          · exact .inr ⟨e, .inl (by omega)⟩)
        obtain ⟨N, hN⟩ : ∃ N, 2 * 40 - (2 - o) = N := ⟨_, rfl⟩
        rw [hN] at HX
        rw [hN]
        have d64 : decide ((N : Int) ≤ 64) = false := by simp; omega
        clear HP HLn HRr hb
        go_wp2
        go_ret3
        exact ⟨a, N, cap, _, _, false, rfl, HX.out, .inr ⟨rfl, .inr HBd2.out⟩, HB.out⟩

set_option maxHeartbeats 16000000 in
theorem rpath_odd (s : ByteArray) (hs : s.size ≤ 1000000) (h0 : 0 < s.size) (h : (s[0]'h0).toNat < 64) (ho : nibAt s 0 % 2 = 1) (w : World) : Calls Tryd.prog 44 #[.string s] w (PathPost w s) := by
  have hne := Ni.not_empty h0
  obtain ⟨hn0, hn1⟩ := nib01 s h0
  have HP := Lib.hid (fun j h1 hj X Y hX hY => pcJ_step s j h1 hj X Y hX hY)
  have HLn := Lib.hid (fun j hj => pcJ_length s j hj)
  rw [ho] at HLn
  obtain ⟨i0, hi, hz0, hz1, hz2⟩ := info_parts Cc.info_u8
  have HI : Hid (_ ∧ _ ∧ _ ∧ _) := Lib.hid ⟨hi, hz0, hz1, hz2⟩
  have HF1 := Lib.hid (fun X hX => pathJ_odd s h0 ho X hX)
  obtain ⟨C, hC⟩ : ∃ C, (s[0]'h0).toNat = C := ⟨_, rfl⟩
  rw [hC] at hn0 hn1 h
  have d64c : decide (64 ≤ (C : Int)) = false := by simp; omega
  have dodd : ((C : Int) / 16 % 2 == 1) = true := by simp; omega
  obtain ⟨o, hoe⟩ : ∃ o, (1 : Nat) = o := ⟨_, rfl⟩
  rw [hoe] at HLn
  have ho2 : o ≤ 1 := by omega
  clear hi hz0 hz1 hz2 hoe
  go_enter Tryd.func44, Tryd.ntmps44
  have HO1 := Lib.hid (World.ownsRow_nil w w.heap.size 5 1)
  go_wp2_with (at_builtin; refine wpList_append_own _ rfl _ _ 42 rfl w.heap.size 5 i0 (.int .u8 0) 1 1 Tryd.underlying42 HI.out.1 HI.out.2.1 HI.out.2.2.1 HI.out.2.2.2 rfl (by decide) _ _ _ rfl (HO1.out.alloc _) ⟨w.heap.size, 0, none⟩ 1 1 [.int .u8 ((C : Int) % 16)] rfl rfl ?c1 ?c2 ?c3 ?c4 ?c5 ?_)
  case c1 => exact Bu.cell_one_new' _ _ _ _
  case c2 => intro u hu; simp at hu; subst hu; rfl
  case c3 => unfold maxLen; omega
  case c4 => omega
  case c5 => simp
  intro v2 w2 hown2 hgrow2 _
  have HW2 : Hid (w2.ownsRow w.heap.size 5 1 v2 (pcJ s 1).length (pcJ s 1)) := Lib.hid (by rw [HF1.out ((C : Int) % 16) (by omega)]; exact hown2)
  have HB2 : Hid (Below w.heap.size w w2) := Lib.hid ((al1 w _).grown hgrow2 (by simp) (fun g hg => (HO1.out.lt g hg).1))
  clear hown2 hgrow2 HF1 HO1
  go_wp2
  go_loopw [5, 6] (fun v i wr => ∃ j : Nat, 1 ≤ j ∧ j ≤ min s.size 40 ∧ i = .int .i64 j ∧ Hid (wr.ownsRow w.heap.size 5 1 v (pcJ s j).length (pcJ s j)) ∧ Hid (Below w.heap.size w wr)) (fun _ i _ => 40 - (intOf i).toNat)
  case atStart => exact ⟨1, Nat.le_refl _, by omega, rfl, Lib.hid (HW2.out), HB2⟩
  case round =>
    obtain ⟨j, h1, hj, rfl, HRr, HB⟩ := hrel
    by_cases hlt : j < min s.size 40
    · have hjs : j < s.size := by omega
      have hj40 : j < 40 := by omega
      have d1 : decide ((j : Int) < (s.size : Int)) = true := by simp; omega
      have d2 : decide ((j : Int) < 40) = true := by simp; omega
      have HST := Lib.hid (HP.out j h1 hjs (IntKind.u8.wrap (((s[j]'hjs).toNat : Int) / 16)) (((s[j]'hjs).toNat : Int).tmod 16) (wrap_div _ (UInt8.toNat_lt _)) (by rw [Int.tmod_eq_emod_of_nonneg (by omega)]; omega))
      have hl0 := HLn.out j (by omega)
      obtain ⟨X, hX⟩ : ∃ X, (s[j]'hjs).toNat = X := ⟨_, rfl⟩
      rw [hX] at HST
      go_wp2_with fail
      refine wp_region_noPanic ?_
      refine wp_region_held_drew (S := fun w' => Below w.heap.size w w') (by kernel_rfl) (HB.out.drew) (fun hHeld => ?_)
      refine Rg.takeL (i := 0) (v := ?_) rfl (by kernel_rfl) (by kernel_rfl) (by kernel_rfl) (fun _ _ _ h => h) (Or.inl ⟨by rfl, ?_⟩) (by assumption) ?_
      rotate_left
      · (intro wz hSw; (try dsimp only at hSw); go_simp <;> with_reducible rfl)
      try simp only [Act.put, List.setIfInBounds_toArray, List.set_cons_zero, List.set_cons_succ]
      refine Rg.takeL (i := 1) (v := ?_) rfl (by kernel_rfl) (by kernel_rfl) (by kernel_rfl) (fun _ _ _ h => h) (Or.inl ⟨by rfl, ?_⟩) (by assumption) ?_
      rotate_left
      · (intro wz hSw; (try dsimp only at hSw); go_simp <;> with_reducible rfl)
      try simp only [Act.put, List.setIfInBounds_toArray, List.set_cons_zero, List.set_cons_succ]
      refine Rg.takeL (i := 2) (v := ?_) rfl (by kernel_rfl) (by kernel_rfl) (by kernel_rfl) (fun _ _ _ h => h) (Or.inl ⟨by rfl, ?_⟩) (by assumption) ?_
      rotate_left
      · (intro wz hSw; (try dsimp only at hSw); go_simp <;> with_reducible rfl)
      try simp only [Act.put, List.setIfInBounds_toArray, List.set_cons_zero, List.set_cons_succ]
      refine Rg.takeL (i := 3) (v := ?_) rfl (by kernel_rfl) (by kernel_rfl) (by kernel_rfl) (fun _ _ _ h => h) (Or.inl ⟨by rfl, ?_⟩) (by assumption) ?_
      rotate_left
      · (intro wz hSw; (try dsimp only at hSw); go_simp <;> with_reducible rfl)
      try simp only [Act.put, List.setIfInBounds_toArray, List.set_cons_zero, List.set_cons_succ]
      refine Rg.takeL (i := 4) (v := ?_) rfl (by kernel_rfl) (by kernel_rfl) (by kernel_rfl) (fun _ _ _ h => h) (Or.inl ⟨by rfl, ?_⟩) (by assumption) ?_
      rotate_left
      · (intro wz hSw; (try dsimp only at hSw); go_simp <;> with_reducible rfl)
      try simp only [Act.put, List.setIfInBounds_toArray, List.set_cons_zero, List.set_cons_succ]
      refine Rg.takeL (i := 5) (v := ?_) rfl (by kernel_rfl) (by kernel_rfl) (by kernel_rfl) (fun _ _ _ h => h) (Or.inl ⟨by rfl, ?_⟩) (by assumption) ?_
      rotate_left
      · (intro wz hSw; (try dsimp only at hSw); go_simp <;> with_reducible rfl)
      try simp only [Act.put, List.setIfInBounds_toArray, List.set_cons_zero, List.set_cons_succ]
      refine Rg.takeL (i := 6) (v := ?_) rfl (by kernel_rfl) (by kernel_rfl) (by kernel_rfl) (fun _ _ _ h => h) (Or.inl ⟨by rfl, ?_⟩) (by assumption) ?_
      rotate_left
      · (intro wz hSw; (try dsimp only at hSw); go_simp <;> with_reducible rfl)
      try simp only [Act.put, List.setIfInBounds_toArray, List.set_cons_zero, List.set_cons_succ]
      refine Rg.takeL (i := 7) (v := ?_) rfl (by kernel_rfl) (by kernel_rfl) (by kernel_rfl) (fun _ _ _ h => h) (Or.inl ⟨by rfl, ?_⟩) (by assumption) ?_
      rotate_left
      · (intro wz hSw; (try dsimp only at hSw); go_simp <;> with_reducible rfl)
      try simp only [Act.put, List.setIfInBounds_toArray, List.set_cons_zero, List.set_cons_succ]
      refine Rg.takeL (i := 8) (v := ?_) rfl (by kernel_rfl) (by kernel_rfl) (by kernel_rfl) (fun _ _ _ h => h) (Or.inl ⟨by rfl, ?_⟩) (by assumption) ?_
      rotate_left
      · (intro wz hSw; (try dsimp only at hSw); go_simp <;> with_reducible rfl)
      try simp only [Act.put, List.setIfInBounds_toArray, List.set_cons_zero, List.set_cons_succ]
      refine wpAnyH_ready (rs := [9]) (by kernel_rfl) (by simp) ?_
      refine Rg.readyL (i := 9) rfl (fun K hK => ?_)
      refine meetTwo (x := IntKind.u8.wrap ((X : Int) / 16)) (y := (X : Int).tmod 16) (by rfl) ⟨_, _, rfl, rfl, rfl⟩ ?_
      rintro wv0 b9 hb9 h9 hbx
      have hR9 := row_stays HRr.out.drew hbx
      refine hK.out _ _ ?_ (fun hHeld => ?_)
      · exact below_step' hHeld hbx
      clear hK K hbx hb9
      try simp only [Act.put, List.setIfInBounds_toArray, List.set_cons_zero, List.set_cons_succ]
      refine wpAnyH_ready (rs := [10]) (by kernel_rfl) (by simp) ?_
      refine Rg.readyL (i := 10) rfl (fun K hK => ?_)
      refine meetPush2 (by rfl) ⟨_, _, rfl, rfl, rfl⟩ hR9 h9 (by omega) hHeld.size ?_
      rintro v' wv1 hown hgrow
      have hlt' := hR9.lt
      have hB1 := Below.grown hHeld hgrow hHeld.size (fun g hg => (hlt' g hg).1)
      refine hK.out _ _ ?_ (fun hHeld => ?_)
      · exact hB1
      clear hK K
      try simp only [Act.put, List.setIfInBounds_toArray, List.set_cons_zero, List.set_cons_succ]
      refine Rg.takeL (i := 11) (v := ?_) rfl (by kernel_rfl) (by kernel_rfl) (by kernel_rfl) (fun _ _ _ h => h) (Or.inl ⟨by rfl, ?_⟩) (by assumption) ?_
      rotate_left
      · (intro wz hSw; (try dsimp only at hSw); go_simp <;> with_reducible rfl)
      try simp only [Act.put, List.setIfInBounds_toArray, List.set_cons_zero, List.set_cons_succ]
      refine wpAnyH_done (by kernel_rfl) ?_ _
      refine NoPanic.normal ?_
      go_wp2
      go_roundw
      case rel =>
        refine ⟨j + 1, by omega, by omega, by go_num, Lib.hid ?_, Lib.hid hHeld⟩
        have hl := HLn.out (j + 1) (by omega)
        have hl0 := HLn.out j (by omega)
        rw [hl0] at hown
        rw [hl, HST.out, show 2 * (j + 1) - (2 - o) = 2 * j - (2 - o) + 2 by omega]
        exact hown
      case measure => simp [intOf]; omega
    · obtain rfl : j = min s.size 40 := by omega
      by_cases h40 : s.size ≤ 40
      · have hmin : min s.size 40 = s.size := by omega
        rw [hmin] at hlt h1 hj ⊢
        have hR := HRr.out
        rw [hmin] at hR
        have hpl := HLn.out s.size (Nat.le_refl _)
        have hpe : pcJ s s.size = (pathL s).map fun x => Value.int .u8 x.toNat := by unfold pcJ; rw [pathJ_all]
        rw [hpl, hpe] at hR
        have hlen : (pathL s).length = 2 * s.size - (2 - o) := by rw [← hpl, hpe, List.length_map]
        obtain ⟨a, cap, rfl, hb⟩ := ofOwnF hR
        have HX := Lib.hid hb
        have d1 : decide ((s.size : Int) < (s.size : Int)) = false := by simp
        have HBd : Hid (64 < (pathL s).length → Bad s) := Lib.hid (fun h => Classical.byContradiction fun hb => by have := path_le s hb; omega)
        obtain ⟨N, hN⟩ : ∃ N, 2 * s.size - (2 - o) = N := ⟨_, rfl⟩
        rw [hN] at HX hlen
        rw [hN]
        by_cases h64 : N ≤ 64
        · obtain ⟨t1, t2⟩ := pack_tells s h0 (by omega) (by omega)
          rw [hC] at t1 t2
          have HPk := Lib.hid (rpack_any a N cap (pathL s) (decide (32 ≤ C)) (path_right s) h64 wr HX.out.1)
          obtain ⟨P, hP⟩ : ∃ P, (⟨(packL (pathL s) (decide (32 ≤ C))).toArray⟩ : ByteArray) = P := ⟨_, rfl⟩
          rw [hP] at t1 t2 HPk
          have HT1 := Lib.hid t1
          have HT2 := Lib.hid t2
          have d64 : decide ((N : Int) ≤ 64) = true := by simp; omega
          by_cases hps : P = s
          · have HNB := Lib.hid (t1 hps)
            have HLf := Lib.hid (t2 (t1 hps)).2
            by_cases h32 : 32 ≤ C
            · have d32 : decide (32 ≤ (C : Int)) = true := by simp; omega
              rw [show decide (32 ≤ C) = true by simp; omega] at HPk HLf
              clear HP HLn HRr hb
              go_wp2_with fail
              refine HPk.out.mono ?_
              rintro e w9 ⟨rfl, hb9⟩
              have HX9 := Lib.hid (HX.out.below hb9)
              have HB9 := Lib.hid (below_step' HB.out hb9)
              clear hb9
              subst hps
              go_wp2
              go_ret3
              exact ⟨a, N, cap, _, _, true, rfl, HX9.out, .inl ⟨rfl, by omega, HNB.out, rfl, HLf.out⟩, HB9.out⟩
            · have d32 : decide (32 ≤ (C : Int)) = false := by simp; omega
              rw [show decide (32 ≤ C) = false by simp; omega] at HPk HLf
              clear HP HLn HRr hb
              go_wp2_with fail
              refine HPk.out.mono ?_
              rintro e w9 ⟨rfl, hb9⟩
              have HX9 := Lib.hid (HX.out.below hb9)
              have HB9 := Lib.hid (below_step' HB.out hb9)
              clear hb9
              subst hps
              go_wp2
              go_ret3
              exact ⟨a, N, cap, _, _, true, rfl, HX9.out, .inl ⟨rfl, by omega, HNB.out, rfl, HLf.out⟩, HB9.out⟩
          · have HBd2 : Hid (Bad s) := Lib.hid (Classical.byContradiction fun hb => hps (t2 hb).1)
            have hne2 := Rl.text_ne hps
            by_cases h32 : 32 ≤ C
            · have d32 : decide (32 ≤ (C : Int)) = true := by simp; omega
              rw [show decide (32 ≤ C) = true by simp; omega] at HPk
              clear HP HLn HRr hb
              go_wp2_with fail
              refine HPk.out.mono ?_
              rintro e w9 ⟨rfl, hb9⟩
              have HX9 := Lib.hid (HX.out.below hb9)
              have HB9 := Lib.hid (below_step' HB.out hb9)
              clear hb9
              go_wp2
              go_ret3
              exact ⟨a, N, cap, _, _, false, rfl, HX9.out, .inr ⟨rfl, .inr HBd2.out⟩, HB9.out⟩
            · have d32 : decide (32 ≤ (C : Int)) = false := by simp; omega
              rw [show decide (32 ≤ C) = false by simp; omega] at HPk
              clear HP HLn HRr hb
              go_wp2_with fail
              refine HPk.out.mono ?_
              rintro e w9 ⟨rfl, hb9⟩
              have HX9 := Lib.hid (HX.out.below hb9)
              have HB9 := Lib.hid (below_step' HB.out hb9)
              clear hb9
              go_wp2
              go_ret3
              exact ⟨a, N, cap, _, _, false, rfl, HX9.out, .inr ⟨rfl, .inr HBd2.out⟩, HB9.out⟩
        · have HBd2 : Hid (Bad s) := Lib.hid (HBd.out (by omega))
          have d64 : decide ((N : Int) ≤ 64) = false := by simp; omega
          clear HP HLn HRr hb
          go_wp2
          go_ret3
          exact ⟨a, N, cap, _, _, false, rfl, HX.out, .inr ⟨rfl, .inr HBd2.out⟩, HB.out⟩
      · have hmin : min s.size 40 = 40 := by omega
        rw [hmin] at hlt h1 hj ⊢
        have hR := HRr.out
        rw [hmin] at hR
        have hpl := HLn.out 40 (by omega)
        rw [hpl] at hR
        obtain ⟨a, cap, rfl, hb⟩ := ofOwnF (l := pathJ s 40) hR
        have HX := Lib.hid hb
        have d1 : decide ((40 : Int) < (s.size : Int)) = true := by simp; omega
        have HBd2 : Hid (Bad s) := Lib.hid (by
          unfold Bad
          rcases Nat.mod_two_eq_zero_or_one (nibAt s 0) with e | e
          · exact .inl ⟨e, .inl (by omega)⟩
          · exact .inr ⟨e, .inl (by omega)⟩)
        obtain ⟨N, hN⟩ : ∃ N, 2 * 40 - (2 - o) = N := ⟨_, rfl⟩
        rw [hN] at HX
        rw [hN]
        have d64 : decide ((N : Int) ≤ 64) = false := by simp; omega
        clear HP HLn HRr hb
        go_wp2
        go_ret3
        exact ⟨a, N, cap, _, _, false, rfl, HX.out, .inr ⟨rfl, .inr HBd2.out⟩, HB.out⟩
/-- the plain answer's path of any text -/
theorem rpath_any (s : ByteArray) (hs : s.size ≤ 1000000) (w : World) : Calls Tryd.prog 44 #[.string s] w (PathPost w s) := by
  by_cases h0 : 0 < s.size
  · by_cases h : (s[0]'h0).toNat < 64
    · rcases Nat.mod_two_eq_zero_or_one (nibAt s 0) with e | e
      · exact rpath_even s hs h0 h e w
      · exact rpath_odd s hs h0 h e w
    · exact rpath_big s h0 (by omega) w
  · obtain rfl := size_zero (s := s) (by omega)
    exact rpath_nil w
end No
end Go.Proofs.YtoeblhdddehemaaDoor

/-
  The contract of the plain answer's Get, of any bytes that are not far too many.
-/
namespace Go.Proofs.YtoeblhdddehemaaDoor
set_option maxRecDepth 100000
open Go.RowKit

namespace No
open Rl Ni
theorem op_eq_st {ev : Operand → Value} {o : Oper} {w : World} (s u : ByteArray) (h : ∃ x y, o.op = .binOp .eql 9 x y 9 ∧ ev x = .string s ∧ ev y = .string u) :
    (execOp ev o).run Tryd.prog w = .ok (.value (.bool (decide (s = u)))) w := by
  by_cases e : s = u
  · subst e
    rw [decide_eq_true rfl]
    exact op_eql_st s h
  · rw [decide_eq_false e]
    obtain ⟨x, y, ho, hx, hy⟩ := h
    have : (binOp .eql 9 (.string s) (.string u)).run Tryd.prog w = .ok (.bool false) w := by
      unfold binOp
      simp [go_sem, Op.stringOp, text_ne e]
    unfold execOp
    simp [ho, hx, hy, go_sem]
    simpa using text_ne e
/-- Read of bytes that are no item -/
theorem rread_err {s : ByteArray} (hs : s.size ≤ 1000000) {c : Int} (hr : readL s.data.toList 0 0 = .error c) (w : World) :
    Calls Tryd.prog 43 #[.string s, .int .i64 0, .int .i64 4096] w fun e w' => ∃ c : Int, c ≠ 0 ∧ e = .returned (.tuple #[.agg #[.bool false, .string ⟨#[]⟩, .slice none 0 0], .int .i64 0, .int .i64 0, .int .i64 c]) ∧ Below w.heap.size w w' := by
  have h := rread_any s hs w
  rw [hr] at h
  exact h
/-- .. of bytes that begin with one -/
theorem rread_ok {s : ByteArray} (hs : s.size ≤ 1000000) {x : It} {n k : Nat} (hr : readL s.data.toList 0 0 = .ok (x, n, k)) (w : World) :
    Calls Tryd.prog 43 #[.string s, .int .i64 0, .int .i64 4096] w fun e w' => ∃ (a : Option Addr) (nn cap : Nat) (lI : Int), e = .returned (.tuple #[.agg #[.bool x.l, .string x.s, .slice a nn cap], .int .i64 n, .int .i64 lI, .int .i64 0]) ∧ ItsIn w.heap.size w' x.xs a nn cap ∧ Below w.heap.size w w' := by
  have h := rread_any s hs w
  rw [hr] at h
  refine h.mono ?_
  rintro e w' ⟨a, nn, cap, nI, lI, rfl, rfl, _, hI, hb⟩
  exact ⟨a, nn, cap, lI, rfl, hI, hb⟩
/-- the element's cells, and in which block they lie -/
theorem its_at {B : Nat} {w : World} {xs : List It} {a : Option Addr} {n cap : Nat} (h : ItsIn B w xs a n cap) (j : Nat) (hj : j < n) : ∃ x b off A N C, xs[j]? = some x ∧ a = some ⟨b, off, none⟩ ∧ B ≤ b ∧ b < w.heap.size ∧ Lies w b (off + j * 3) x A N C ∧ IsIts w x.xs A N C := by
  cases h with
  | mk A N C hl hc hm hw hn h hi =>
    have hx : xs[j]? = some (xs[j]'(by omega)) := List.getElem?_eq_getElem (by omega)
    obtain ⟨b, off, e, hB, hlt, hL⟩ := h j _ hx
    exact ⟨_, b, off, A j, N j, C j, hx, e, hB, hlt, hL, ItsIn.weak (hi j _ hx) (Nat.zero_le _)⟩
/-- the item's box, the node's -/
theorem get_boxes (w w3 : World) (hO : OwnN w3 w.heap.size nd0 none 0 0) (hB : Below w.heap.size w w3) (x : It) (a : Option Addr) (n c : Nat) :
    OwnN ((w3.alloc (.cells #[.bool x.l, .string x.s, .slice a n c] 63)).alloc (.cells (ndC nd0 none 0 0) 45)) (w3.heap.size + 1) nd0 none 0 0 ∧
    (w3.alloc (.cells #[.bool x.l, .string x.s, .slice a n c] 63)).cell? ⟨w3.heap.size, 2, none⟩ = some (.slice a n c) ∧ OwnN (w3.alloc (.cells #[.bool x.l, .string x.s, .slice a n c] 63)) w.heap.size nd0 none 0 0 ∧ Below w.heap.size w (w3.alloc (.cells #[.bool x.l, .string x.s, .slice a n c] 63)) ∧
    ∀ w5, w5 = ((w3.alloc (.cells #[.bool x.l, .string x.s, .slice a n c] 63)).alloc (.cells (ndC nd0 none 0 0) 45)).setRow (w3.heap.size + 1) (ndC ⟨3, [], eB, zks⟩ none 0 0) →
      OwnN w5 w.heap.size nd0 none 0 0 ∧ w5.cell? ⟨w3.heap.size, 2, none⟩ = some (.slice a n c) ∧ OwnN w5 (w3.heap.size + 1) ⟨3, [], eB, zks⟩ none 0 0 ∧ Below w3.heap.size w3 w5 ∧ w5.heap.size = w3.heap.size + 2 := by
  have h1 : OwnN ((w3.alloc (.cells #[.bool x.l, .string x.s, .slice a n c] 63)).alloc (.cells (ndC nd0 none 0 0) 45)) (w3.heap.size + 1) nd0 none 0 0 := by
    have := Rg.Own.new (w3.alloc (.cells #[.bool x.l, .string x.s, .slice a n c] 63)) (ndC nd0 none 0 0) 45
    simpa using this
  have h2 : (w3.alloc (.cells #[.bool x.l, .string x.s, .slice a n c] 63)).cell? ⟨w3.heap.size, 2, none⟩ = some (.slice a n c) := (lies_new w3 x a n c 63).2.2
  refine ⟨h1, h2, hO.below (al1 _ _), below_step' hB (al1 _ _), ?_⟩
  rintro w5 rfl
  have hb5 : Below w3.heap.size w3 (((w3.alloc (.cells #[.bool x.l, .string x.s, .slice a n c] 63)).alloc (.cells (ndC nd0 none 0 0) 45)).setRow (w3.heap.size + 1) (ndC ⟨3, [], eB, zks⟩ none 0 0)) := below_rowN (al2 _ _ _) (Nat.le_succ _) _
  refine ⟨hO.below hb5, ?_, own_rowN h1, hb5, by simp⟩
  have h3 : Below (w3.alloc (.cells #[.bool x.l, .string x.s, .slice a n c] 63)).heap.size (w3.alloc (.cells #[.bool x.l, .string x.s, .slice a n c] 63)) (((w3.alloc (.cells #[.bool x.l, .string x.s, .slice a n c] 63)).alloc (.cells (ndC nd0 none 0 0) 45)).setRow (w3.heap.size + 1) (ndC ⟨3, [], eB, zks⟩ none 0 0)) := below_rowN (al1 _ _) (by simp) _
  exact (Below.cell (p := ⟨w3.heap.size, 2, none⟩) h3 (by simp)).trans h2
/-- what the last region keeps: the node's block, the result's -/
structure SG (R g : Nat) (L : Nd) (a : Option Addr) (n c : Nat) (w w' : World) : Prop where
  lt : R < g
  nd : OwnN w' g L a n c
  res : ∃ cs : Array Value, cs.size = 19 ∧ Rg.Own w' R cs 45
  bs : BsF (g + 1) w' a n c L.p
  be : Below w.heap.size w w'
theorem SG.keep {R g : Nat} {L : Nd} {a : Option Addr} {n c : Nat} {w w1 w2 : World} (h : SG R g L a n c w w1) (hb : Below w1.heap.size w1 w2) : SG R g L a n c w w2 := by
  obtain ⟨cs, hcs, ho⟩ := h.res
  exact ⟨h.lt, h.nd.below hb, ⟨cs, hcs, ho.below hb⟩, h.bs.below hb, below_step' h.be hb⟩
theorem SG.put {R g : Nat} {L : Nd} {a : Option Addr} {n c : Nat} {w w1 w2 : World} (h : SG R g L a n c w w1) {cs : Array Value} (hcs : cs.size = 19) (hn : Rg.Own w2 R cs 45) (hu : Rg.Upd w1 R w2) (hR : w.heap.size ≤ R) : SG R g L a n c w w2 :=
  ⟨h.lt, h.nd.upd hu (by have := h.lt; omega), ⟨cs, hcs, hn⟩, h.bs.upd hu (by have := h.lt; omega), hu.below h.be hR⟩
end No
end Go.Proofs.YtoeblhdddehemaaDoor

/-
  What must come at any rate in layer 6: awake.
-/
namespace Go.Proofs.YtoeblhdddehemaaDoor
set_option maxRecDepth 100000
open Go.RowKit

namespace No
open Rl Ni
def nA : Nd := ⟨1, [1], ⟨#[97]⟩, zks⟩
def sA : ByteArray := ⟨#[194, 49, 97]⟩
def nE : Nd := ⟨2, [2, 3], eB, one16 sA⟩
def sE : ByteArray := ⟨#[198, 130, 0, 35, 194, 49, 97]⟩
theorem a_may : mayW refP nA = true := rfl
theorem a_put : putP nA = [194, 49, 97] := by
  have h1 : (pathI nA).bytes = [49] := by
    rw [It.bytes_eq]
    decide +kernel
  have h2 : (It.mk false nA.v []).bytes = [97] := by
    rw [It.bytes_eq]
    decide +kernel
  have hi : (itemP nA).inner = [49, 97] := by
    show ([] : List UInt8) ++ ([pathI nA, .mk false nA.v []].map It.bytes).flatten = _
    rw [List.map_cons, List.map_cons, List.map_nil, h1, h2]
    rfl
  unfold putP
  rw [It.bytes_eq, hi]
  decide +kernel
theorem a_get : getP sA.data.toList = some nA := by
  have := get_put (n := nA) rfl a_may
  rw [a_put] at this
  exact this
theorem a_ref : refP sA = true := by
  have : getP sA.data.toList = some nA := a_get
  unfold refP
  rw [this]
  rfl
theorem e_mayW (R : ByteArray → Bool) (h : R sA = true) : mayW R nE = true := by
  have : mayW R nE = (true && R sA) := rfl
  rw [this, h]
  rfl
theorem e_may : mayW refP nE = true := e_mayW refP a_ref
theorem a_item : refI sA = itemP nA := by
  have h := (whole_get (by decide) a_get).1
  unfold refI
  rw [show plainB sA = false by decide +kernel, h]
  rfl
theorem e_put : putP nE = [198, 130, 0, 35, 194, 49, 97] := by
  have h1 : (pathI nE).bytes = [130, 0, 35] := by
    rw [It.bytes_eq]
    decide +kernel
  have h2 : (refI sA).bytes = [194, 49, 97] := by rw [a_item]; exact a_put
  have hi : (itemP nE).inner = [130, 0, 35, 194, 49, 97] := by
    show ([] : List UInt8) ++ ([pathI nE, refI sA].map It.bytes).flatten = _
    rw [List.map_cons, List.map_cons, List.map_nil, h1, h2]
    rfl
  unfold putP
  rw [It.bytes_eq, hi]
  decide +kernel
theorem x_read : readL [120] 0 0 = .ok (.mk false ⟨#[120]⟩ [], 1, 1) := by
  rw [readL, if_neg (by omega), if_neg (by omega)]
  have : headE [120] = .ok (false, 0, 1) := by rfl
  rw [this]
  simp
theorem x_ref : refP ⟨#[120]⟩ = false := by
  have h : getP [120] = none := get_few (by decide) (whole_is x_read (by decide)) (by decide) (by decide)
  unfold refP
  rw [show (ByteArray.data ⟨#[120]⟩).toList = [120] from rfl, h]
  rfl
theorem a_putV : putV nA = .tuple #[.string ⟨#[194, 49, 97]⟩, .int .i64 0] := by unfold putV; rw [a_may, a_put]; rfl
theorem e_putV : putV nE = .tuple #[.string ⟨#[198, 130, 0, 35, 194, 49, 97]⟩, .int .i64 0] := by unfold putV; rw [e_may, e_put]; rfl
theorem aw_leaf (w : World) : Calls Tryd.prog 22 #[.slice (some ⟨w.heap.size, 0, none⟩) 1 1, .string ⟨#[97]⟩] (w.alloc (.cells #[.int .u8 1] 5)) fun e w' => ∃ a n c, e = .returned (.agg (ndC nA a n c)) ∧ IsBs w' a n c nA.p ∧ Below w.heap.size w w' := by
  refine (leaf_any _ 1 1 [1] (by decide) ⟨#[97]⟩ _ (IsBs.new w [1] (by unfold maxLen; decide) _ _ rfl)).mono ?_
  rintro e w' ⟨a, n, c, rfl, hx, _, hb⟩
  exact ⟨a, n, c, rfl, hx.1, below_step' (al1 _ _) hb⟩
theorem aw_ext (w : World) (b : Nat) (h : IsBs w (some ⟨b, 0, none⟩) 2 2 [2, 3]) : Calls Tryd.prog 98 #[.slice (some ⟨b, 0, none⟩) 2 2, .string ⟨#[194, 49, 97]⟩] w fun e w' => ∃ a n c, e = .returned (.agg (ndC nE a n c)) ∧ IsBs w' a n c nE.p ∧ Below w.heap.size w w' := by
  refine (ext_any _ 2 2 [2, 3] (by decide) ⟨#[194, 49, 97]⟩ _ h).mono ?_
  rintro e w' ⟨a, n, c, rfl, hx, _, hb⟩
  exact ⟨a, n, c, rfl, hx.1, hb⟩
theorem aw_get (w : World) : Calls Tryd.prog 30 #[.string ⟨#[194, 49, 97]⟩] w fun e w' => ∃ a n c, e = .returned (.tuple #[.agg (ndC nA a n c), .int .i64 0]) ∧ IsBs w' a n c nA.p ∧ Below w.heap.size w w' := by
  refine (nget_any sA (by decide) w).mono ?_
  rw [a_get]
  rintro e w' ⟨N, a, n, c, er, rfl, hr, hx, _, hb⟩
  rcases hr with ⟨rfl, h⟩ | ⟨_, _, h⟩
  · obtain rfl := Option.some.inj h
    exact ⟨a, n, c, rfl, hx.1, hb⟩
  · cases h
theorem aw_puta (w : World) (a : Option Addr) (n c : Nat) (h : IsBs w a n c nA.p) : Calls Tryd.prog 21 #[.agg (ndC nA a n c)] w fun e w' => e = .returned (.tuple #[.string ⟨#[194, 49, 97]⟩, .int .i64 0]) ∧ Below w.heap.size w w' := by
  have := nput_any nA a n c rfl w h (by unfold maxLen; decide) (fun k hk => by
    rw [List.eq_of_mem_replicate (show k ∈ List.replicate 16 eB from hk)]
    decide)
  rw [a_putV] at this
  exact this
theorem aw_pute (w : World) (a : Option Addr) (n c : Nat) (h : IsBs w a n c nE.p) : Calls Tryd.prog 21 #[.agg (ndC nE a n c)] w fun e w' => e = .returned (.tuple #[.string ⟨#[198, 130, 0, 35, 194, 49, 97]⟩, .int .i64 0]) ∧ Below w.heap.size w w' := by
  have := nput_any nE a n c rfl w h (by unfold maxLen; decide) (fun k hk => by
    rcases List.mem_cons.1 (show k ∈ sA :: List.replicate 15 eB from hk) with e | e
    · rw [e]; decide
    · rw [List.eq_of_mem_replicate e]; decide)
  rw [e_putV] at this
  exact this
theorem aw_refa (w : World) : Calls Tryd.prog 29 #[.string ⟨#[194, 49, 97]⟩] w fun e w' => e = .returned (.bool true) ∧ Below w.heap.size w w' := by
  have := ref_any sA (by decide) w
  rw [a_ref] at this
  exact this
theorem aw_refx (w : World) : Calls Tryd.prog 29 #[.string ⟨#[120]⟩] w fun e w' => e = .returned (.bool false) ∧ Below w.heap.size w w' := by
  have := ref_any ⟨#[120]⟩ (by decide) w
  rw [x_ref] at this
  exact this
def nK : Nd := ⟨2, [1], eB, one16 sA⟩
theorem aw_kids (w : World) (a : Option Addr) (n c : Nat) : Calls Tryd.prog 31 #[.agg (ndC nK a n c)] w fun e w' => ∃ a cap, e = .returned (.slice a 1 cap) ∧ Below w.heap.size w w' := by
  refine (kids_any nK a n c rfl w).mono ?_
  rintro e w' ⟨a, n, cap, rfl, hs, hb⟩
  have : n = 1 := hs.len.symm.trans (by decide +kernel)
  subst this
  exact ⟨a, cap, rfl, hb⟩
theorem aw_leaf' (w : World) (b : Nat) (h : IsBs w (some ⟨b, 0, none⟩) 1 1 [1]) : Calls Tryd.prog 22 #[.slice (some ⟨b, 0, none⟩) 1 1, .string ⟨#[97]⟩] w fun e w' => ∃ a n c, e = .returned (.agg (ndC nA a n c)) ∧ IsBs w' a n c nA.p ∧ Below w.heap.size w w' := by
  refine (leaf_any _ 1 1 [1] (by decide) ⟨#[97]⟩ _ h).mono ?_
  rintro e w' ⟨a, n, c, rfl, hx, _, hb⟩
  exact ⟨a, n, c, rfl, hx.1, hb⟩
theorem aw_extk (w : World) (b : Nat) (h : IsBs w (some ⟨b, 0, none⟩) 1 1 [1]) : Calls Tryd.prog 98 #[.slice (some ⟨b, 0, none⟩) 1 1, .string ⟨#[194, 49, 97]⟩] w fun e w' => ∃ a n c, e = .returned (.agg (ndC nK a n c)) ∧ Below w.heap.size w w' := by
  refine (ext_any _ 1 1 [1] (by decide) ⟨#[194, 49, 97]⟩ _ h).mono ?_
  rintro e w' ⟨a, n, c, rfl, hx, _, hb⟩
  exact ⟨a, n, c, rfl, hb⟩
theorem glue : (⟨#[198, 130, 0, 35]⟩ : ByteArray) ++ ⟨#[194, 49, 97]⟩ = ⟨#[198, 130, 0, 35, 194, 49, 97]⟩ := by decide +kernel
def SW (w : World) (g : Nat) (N : Nd) (a : Option Addr) (n c : Nat) (w' : World) : Prop := OwnN w' g N a n c ∧ IsBs w' a n c N.p ∧ Below w.heap.size w w'
theorem SW.keep {w w1 w2 : World} {g : Nat} {N : Nd} {a : Option Addr} {n c : Nat} (h : SW w g N a n c w1) (hb : Below w1.heap.size w1 w2) : SW w g N a n c w2 := ⟨h.1.below hb, h.2.1.below hb, below_step' h.2.2 hb⟩

end No
end Go.Proofs.YtoeblhdddehemaaDoor

/-
  The nodes within a node, plain: a list of texts, no longer than the bytes.
-/
namespace Go.Proofs.YtoeblhdddehemaaDoor
set_option maxRecDepth 20000
open Go.RowKit

namespace Rf
open Rl Ni No
/-- a node, and those within it, of bytes that are a node's -/
def allP (s : List UInt8) : List ByteArray :=
  match getP s with
  | none => []
  | some n => ⟨s.toArray⟩ :: (n.ks.map fun k => if _h : (k.size ≠ 0 ∧ k.size < 32) ∧ k.size < s.length then allP k.data.toList else []).flatten
termination_by s.length
decreasing_by
  rw [len_s]
  exact _h.2
/-- those of a reference -/
def kidAll (k : ByteArray) : List ByteArray := if k.size ≠ 0 ∧ k.size < 32 then allP k.data.toList else []
def kidsAll (ks : List ByteArray) : List ByteArray := (ks.map kidAll).flatten
theorem got_kids {s : List UInt8} (hs : s.length ≤ 4294967296) {n : Nd} (h : getP s = some n) : n.ks.length = 16 ∧ mayW refP n = true ∧ ∀ k ∈ n.ks, plainB k = true ∨ (k.size < 32 ∧ k.size < s.length) := by
  obtain ⟨x, h1, h2, h3⟩ := getP_some hs h
  obtain ⟨g1, g2⟩ := kid_less hs h1 h2
  exact ⟨g1, h3, g2⟩
theorem getD_mem {xs : List ByteArray} {j : Nat} (hj : j < xs.length) : xs.getD j eB ∈ xs := by
  have e : xs.getD j eB = xs[j] := by simp [List.getD, hj]
  rw [e]; exact List.getElem_mem hj
theorem plain_size {k : ByteArray} (h : plainB k = true) : k.size = 0 ∨ k.size = 32 := of_decide_eq_true h
theorem allP_none {s : List UInt8} (h : getP s = none) : allP s = [] := by rw [allP, h]
theorem allP_some {s : List UInt8} (hs : s.length ≤ 4294967296) {n : Nd} (h : getP s = some n) : allP s = ⟨s.toArray⟩ :: kidsAll n.ks := by
  rw [allP, h]
  dsimp only
  unfold kidsAll
  congr 2
  apply List.map_congr_left
  intro k hk
  unfold kidAll
  by_cases h1 : k.size ≠ 0 ∧ k.size < 32
  · have h2 : k.size < s.length := by
      rcases (got_kids hs h).2.2 k hk with hp | hb
      · have := plain_size hp; omega
      · exact hb.2
    rw [dif_pos ⟨h1, h2⟩, if_pos h1]
  · rw [dif_neg (fun g => h1 g.1), if_neg h1]
theorem kidAll_empty {k : ByteArray} (h : k.size = 0) : kidAll k = [] := by unfold kidAll; rw [if_neg (by omega)]
theorem kidsAll_kids (ks : List ByteArray) : kidsAll (kidsL ks) = kidsAll ks := by
  unfold kidsAll kidsL
  induction ks with
  | nil => rfl
  | cons k ks ih =>
    by_cases hz : k.size = 0
    · rw [List.filter_cons_of_neg (by simp [hz]), ih, List.map_cons, List.flatten_cons, kidAll_empty hz, List.nil_append]
    · rw [List.filter_cons_of_pos (by simp [hz]), List.map_cons, List.map_cons, List.flatten_cons, List.flatten_cons, ih]
theorem kidsAll_snoc (ks : List ByteArray) (q : Nat) (h : q < ks.length) : kidsAll (ks.take (q + 1)) = kidsAll (ks.take q) ++ kidAll (ks.getD q eB) := by
  have e : ks.getD q eB = ks[q] := by simp [List.getD, h]
  unfold kidsAll
  rw [List.take_succ_eq_append_getElem h, e, List.map_append, List.flatten_append]
  simp
/-! how many there are -/
def ownS (k : ByteArray) : Nat := if k.size < 32 then k.size else 0
theorem own_plain {k : ByteArray} (h : plainB k = true) : ownS k = 0 := by
  unfold ownS
  have := plain_size h
  split <;> omega
theorem kid_own {x : It} {k : ByteArray} (h : kidP x = some k) : ownS k ≤ x.bytes.length := by
  rcases kidP_size h with hp | ⟨h1, h2⟩
  · rw [own_plain hp]; omega
  · unfold ownS; rw [if_pos h2]; omega
theorem allK_own : ∀ {xs : List It} {ks : List ByteArray}, allK xs = some ks → (ks.map ownS).sum ≤ ((xs.map It.bytes).flatten).length
  | [], ks, h => by
    obtain rfl := Option.some.inj h
    simp
  | x :: xs, ks, h => by
    unfold allK at h
    split at h
    · cases h
    · rename_i k hk
      split at h
      · cases h
      · rename_i ks' hks
        obtain rfl := Option.some.inj h
        have h1 := allK_own hks
        have h2 := kid_own hk
        rw [List.map_cons, List.sum_cons, List.map_cons, List.flatten_cons, List.length_append]
        omega
theorem sum_zero : ∀ (m : Nat), ((List.replicate m eB).map ownS).sum = 0
  | 0 => rfl
  | m + 1 => by rw [List.replicate_succ, List.map_cons, List.sum_cons, sum_zero m]; rfl
theorem take_flat (xs : List It) (q : Nat) : (((xs.take q).map It.bytes).flatten).length ≤ ((xs.map It.bytes).flatten).length := by
  have h : (xs.map It.bytes).flatten = ((xs.take q).map It.bytes).flatten ++ ((xs.drop q).map It.bytes).flatten := by
    rw [← List.flatten_append, ← List.map_append, List.take_append_drop]
  rw [h, List.length_append]
  omega
theorem readP_own {xs : List It} {n : Nd} (h : readP xs = some n) : (n.ks.map ownS).sum ≤ ((xs.map It.bytes).flatten).length := by
  unfold readP at h
  by_cases h2 : xs.length = 2
  · rw [if_pos h2] at h
    unfold readPathP at h
    split at h
    · cases h
    · split at h
      · obtain rfl := Option.some.inj h
        have : (zks.map ownS).sum = 0 := sum_zero 16
        show (zks.map ownS).sum ≤ _
        omega
      · obtain ⟨k, hk, rfl⟩ := Option.map_eq_some_iff.1 h
        have h1 := kid_own hk
        have h3 := flatten_le (getD_mem' (xs := xs) (i := 1) (by omega))
        show ((k :: List.replicate 15 eB).map ownS).sum ≤ _
        rw [List.map_cons, List.sum_cons, sum_zero]
        omega
  · rw [if_neg h2] at h
    by_cases h17 : xs.length = 17
    · rw [if_pos h17] at h
      unfold readBranchP at h
      split at h
      · cases h
      · rename_i ks hks
        split at h
        · obtain rfl := Option.some.inj h
          exact Nat.le_trans (allK_own hks) (take_flat xs 16)
        · cases h
    · rw [if_neg h17] at h; cases h
theorem read_some {xs : List It} {n : Nd} (h : readP xs = some n) : xs ≠ [] := by
  rintro rfl
  unfold readP at h
  rw [if_neg (by decide), if_neg (by decide)] at h
  cases h
theorem got_own {s : List UInt8} (hs : s.length ≤ 4294967296) {n : Nd} (h : getP s = some n) : (n.ks.map ownS).sum + 1 ≤ s.length := by
  obtain ⟨x, h1, h2, h3⟩ := getP_some hs h
  obtain ⟨g1, g2, g3⟩ := whole_back hs h1
  have hl := has_list g2 (read_some h2)
  have hb := bytes_len g2 (by rw [g1]; exact hs) hl
  have ho := readP_own h2
  have hh := headL_length ((x.xs.map It.bytes).flatten).length true
  rw [g1] at hb
  omega
theorem sum_le {f g : ByteArray → Nat} : ∀ (ks : List ByteArray), (∀ k ∈ ks, f k ≤ g k) → (ks.map f).sum ≤ (ks.map g).sum
  | [], _ => Nat.le_refl _
  | k :: ks, h => by
    have h1 := h k List.mem_cons_self
    have h2 := sum_le ks (fun j hj => h j (List.mem_cons_of_mem _ hj))
    rw [List.map_cons, List.map_cons, List.sum_cons, List.sum_cons]
    omega
theorem kidsAll_length (ks : List ByteArray) : (kidsAll ks).length = (ks.map fun k => (kidAll k).length).sum := by
  unfold kidsAll
  rw [List.length_flatten, List.map_map]
  rfl
theorem allP_length (s : List UInt8) (hs : s.length ≤ 4294967296) : (allP s).length ≤ s.length := by
  obtain ⟨N, hN⟩ : ∃ N, s.length ≤ N := ⟨_, Nat.le_refl _⟩
  induction N using Nat.strongRecOn generalizing s with
  | ind N ih =>
    cases h : getP s with
    | none => rw [allP_none h]; exact Nat.zero_le _
    | some n =>
      have h1 := got_own hs h
      rw [allP_some hs h, List.length_cons, kidsAll_length]
      have h2 := sum_le (f := fun k => (kidAll k).length) (g := ownS) n.ks (fun k hk => by
        show (kidAll k).length ≤ ownS k
        unfold kidAll
        by_cases hb : k.size ≠ 0 ∧ k.size < 32
        · rw [if_pos hb]
          unfold ownS
          rw [if_pos hb.2]
          have hl : k.size < s.length := by
            rcases (got_kids hs h).2.2 k hk with hp | hb'
            · have := plain_size hp; omega
            · exact hb'.2
          have := ih k.size (by omega) k.data.toList (by rw [len_s]; omega) (by rw [len_s]; exact Nat.le_refl _)
          rw [len_s] at this
          exact this
        · rw [if_neg hb]; exact Nat.zero_le _)
      omega
theorem kidsAll_take (ks : List ByteArray) (q : Nat) : (kidsAll (ks.take q)).length ≤ (kidsAll ks).length := by
  have h : kidsAll ks = kidsAll (ks.take q) ++ kidsAll (ks.drop q) := by
    unfold kidsAll
    rw [← List.flatten_append, ← List.map_append, List.take_append_drop]
  rw [h, List.length_append]
  omega
end Rf
end Go.Proofs.YtoeblhdddehemaaDoor

/-
  Sums as a map's keys; which texts have been seen.
-/
namespace Go.Proofs.YtoeblhdddehemaaDoor
set_option maxRecDepth 20000
open Go.RowKit Go.WideMaps

namespace Rf
open Sh Sm Ni
theorem laidOut : laidOutB Tryd.prog = true := by kernel_rfl
theorem cells_sum : Tryd.prog.cellsOf 28 = 32 := by kernel_rfl
theorem cells_u8' : Tryd.prog.cellsOf 5 = 1 := by kernel_rfl
theorem key_sum : Tryd.prog.keyType 28 = true := by kernel_rfl
theorem types_size : ∃ m, Tryd.prog.types.size = m + 1 := ⟨_, rfl⟩
theorem wide_sum : (match Tryd.prog.underlying 28 with | some (.array _ _) | some (.struct _) => true | _ => false) = true := by rw [Tryd.underlying28]
theorem lawSum : Maps.Keyed Tryd.prog 28 := .of_law (deep_law_laid laidOut (m := 2) (by omega) (of_decide_eq_true (by kernel_rfl)) (by kernel_rfl) wide_sum)
/-- what a sum reads as -/
def lits (x : List UInt8) : List Lit := x.map fun b => .int .u8 (b.toNat : Int)
def kl (x : List UInt8) : Lit := .string (keyBytes (lits x))
theorem wf_byte (b : UInt8) : (Lit.int .u8 (b.toNat : Int)).wf = true := by
  have := b.toNat_lt
  have h1 : IntKind.u8.min = 0 := rfl
  have h2 : IntKind.u8.max = 255 := rfl
  unfold Lit.wf
  simp [h1, h2]
  omega
theorem lits_mapM (D : Nat) (x : List UInt8) : ∀ (is : List Nat), (∀ i ∈ is, i < x.length) →
    (is.mapM fun i => Tryd.prog.keyLits (D + 1) 5 (((kc x).toList.drop (i * 1)).take 1)) = some (is.map fun i => [Lit.int .u8 ((x.getD i 0).toNat : Int)])
  | [], _ => rfl
  | i :: is, h => by
    have hi := h i List.mem_cons_self
    have e : ((kc x).toList.drop (i * 1)).take 1 = [Value.int .u8 ((x.getD i 0).toNat : Int)] := by
      rw [Nat.mul_one]
      have : (kc x).toList = x.map fun b => Value.int .u8 (b.toNat : Int) := by simp [kc]
      rw [this, ← List.map_drop, List.drop_eq_getElem_cons hi, List.map_cons, List.take_succ_cons, List.take_zero]
      simp [List.getD, hi]
    rw [List.mapM_cons, e, lits_mapM D x is (fun j hj => h j (List.mem_cons_of_mem _ hj))]
    have h1 : Tryd.prog.keyLits (D + 1) 5 [Value.int .u8 ((x.getD i 0).toNat : Int)] = some [Lit.int .u8 ((x.getD i 0).toNat : Int)] := by
      unfold Program.keyLits
      simp only [Tryd.underlying5]
      rw [if_pos ⟨trivial, wf_byte _⟩]
    rw [h1]
    rfl
theorem keyOf_sum (x : List UInt8) (hx : x.length = 32) : keyOf Tryd.prog 28 (.agg (kc x)) = some (kl x) := by
  obtain ⟨m, hm⟩ := types_size
  have hn : (kc x).size = 32 := by simp [kc, hx]
  obtain ⟨m', hm'⟩ : ∃ m', m = m' + 1 := ⟨Tryd.prog.types.size - 2, by have : 2 ≤ Tryd.prog.types.size := of_decide_eq_true (by kernel_rfl); omega⟩
  subst hm'
  have hl := lits_mapM (m' + 1) x (List.range 32) (fun i hi => by rw [hx]; exact List.mem_range.1 hi)
  unfold keyOf
  simp only [Tryd.underlying28]
  rw [if_pos (by simp [key_sum, Value.formed, Tryd.underlying28, cells_sum, hn]), hm]
  unfold Program.keyLits
  simp only [Tryd.underlying28, Value.cells, cells_sum, cells_u8']
  rw [if_pos (by simpa using hn), hl]
  have hfl : ((List.range 32).map fun i => [Lit.int .u8 ((x.getD i 0).toNat : Int)]).flatten = lits x := by
    have h1 : ∀ (f : Nat → Lit) (l : List Nat), (l.map fun i => [f i]).flatten = l.map f := fun f l => by
      induction l with
      | nil => rfl
      | cons a r ih => rw [List.map_cons, List.flatten_cons, ih]; rfl
    rw [h1 fun i => Lit.int .u8 ((x.getD i 0).toNat : Int)]
    apply List.ext_getElem
    · simp [lits, hx]
    · intro i h1 h2
      simp at h1
      simp [lits, List.getD, hx, h1]
  rw [Option.map_some, Option.map_some, hfl]
  rfl
theorem kc_inj {x y : List UInt8} (h : kc x = kc y) : x = y := by
  have h1 : x.map (fun b => Value.int .u8 (b.toNat : Int)) = y.map fun b => Value.int .u8 (b.toNat : Int) := by
    have := congrArg Array.toList h
    simpa [kc] using this
  have h2 : ∀ (x y : List UInt8), x.map (fun b => Value.int .u8 (b.toNat : Int)) = y.map (fun b => Value.int .u8 (b.toNat : Int)) → x = y := by
    intro x
    induction x with
    | nil => intro y h; cases y with
      | nil => rfl
      | cons b y => cases h
    | cons a x ih => intro y h; cases y with
      | nil => cases h
      | cons b y =>
        rw [List.map_cons, List.map_cons] at h
        obtain ⟨e1, e2⟩ := List.cons.inj h
        have e3 : (a.toNat : Int) = b.toNat := by simpa using e1
        rw [UInt8.toNat_inj.1 (show a.toNat = b.toNat by omega), ih y e2]
  exact h2 x y h1
theorem kl_inj {x y : List UInt8} (hx : x.length = 32) (hy : y.length = 32) (h : kl x = kl y) : x = y := by
  have h1 := keyOf_sum x hx
  have h2 := keyOf_sum y hy
  rw [h] at h1
  have := lawSum.inj h1 h2
  simp at this
  exact kc_inj this
theorem kl_key {x : List UInt8} (hx : x.length = 32) : WideAt.IsKeyLit (kl x) := lawSum.key (keyOf_sum x hx)

/-- a text's sum -/
def sumB (s : ByteArray) : List UInt8 := sumL s.data.toList
theorem sumB_length (s : ByteArray) : (sumB s).length = 32 := sumL_length _
/-- which of the first i texts have been seen -/
def Seen (xs : List ByteArray) (i : Nat) (D : DataW Unit) : Prop :=
  Maps.IsMap D ∧ (∀ j, j < i → Maps.has D (kl (sumB (xs.getD j eB))) = true) ∧
    (∀ x : List UInt8, x.length = 32 → Maps.has D (kl x) = true → ∃ j, j < i ∧ sumB (xs.getD j eB) = x ∧ ∀ z, D.atKey (kl x) z = .lit (.int .i64 (j : Nat))) ∧
    ∀ j k, j < i → k < i → sumB (xs.getD j eB) = sumB (xs.getD k eB) → xs.getD j eB = xs.getD k eB
theorem seen_none (xs : List ByteArray) : Seen xs 0 (.map []) := by
  refine ⟨Maps.isMap_empty, fun j hj => absurd hj (Nat.not_lt_zero _), fun x _ h => ?_, fun j k hj => absurd hj (Nat.not_lt_zero _)⟩
  rw [Maps.has_eq] at h
  simp at h
/-- a new one -/
theorem Seen.new {xs : List ByteArray} {i : Nat} {D : DataW Unit} (h : Seen xs i D) (hn : Maps.has D (kl (sumB (xs.getD i eB))) = false) :
    Seen xs (i + 1) (D.put (kl (sumB (xs.getD i eB))) (.lit (.int .i64 (i : Nat)))) := by
  obtain ⟨h1, h2, h3, h4⟩ := h
  have hk := kl_key (sumB_length (xs.getD i eB))
  have hap : ∀ j, j < i → sumB (xs.getD j eB) ≠ sumB (xs.getD i eB) := fun j hj e => by
    have := h2 j hj
    rw [e, hn] at this
    cases this
  refine ⟨h1.put _ _, fun j hj => ?_, fun x hx hh => ?_, fun j k hj hk e => ?_⟩
  · by_cases hji : j = i
    · subst hji
      exact Maps.has_put_same h1 hk _
    · have hlt : j < i := by omega
      rw [Maps.has_put_other (fun e => hap j hlt (kl_inj (sumB_length _) (sumB_length _) e)) _]
      exact h2 j hlt
  · by_cases hxi : x = sumB (xs.getD i eB)
    · subst hxi
      exact ⟨i, by omega, rfl, fun z => Maps.atKey_put_same h1 hk _ z⟩
    · have hne : kl x ≠ kl (sumB (xs.getD i eB)) := fun e => hxi (kl_inj hx (sumB_length _) e)
      rw [Maps.has_put_other hne] at hh
      obtain ⟨j, hj, e, hz⟩ := h3 x hx hh
      exact ⟨j, by omega, e, fun z => by rw [Maps.atKey_put_other hne]; exact hz z⟩
  · by_cases hji : j = i
    · by_cases hki : k = i
      · rw [hji, hki]
      · subst hji
        exact absurd e.symm (hap k (by omega))
    · by_cases hki : k = i
      · subst hki
        exact absurd e (hap j (by omega))
      · exact h4 j k (by omega) (by omega) e
/-- one that is like the first -/
theorem Seen.again {xs : List ByteArray} {i j : Nat} {D : DataW Unit} (h : Seen xs i D) (hj : j < i) (hs : sumB (xs.getD j eB) = sumB (xs.getD i eB)) (he : xs.getD j eB = xs.getD i eB) : Seen xs (i + 1) D := by
  obtain ⟨h1, h2, h3, h4⟩ := h
  refine ⟨h1, fun k hk => ?_, fun x hx hh => ?_, fun a b ha hb e => ?_⟩
  · by_cases hki : k = i
    · subst hki
      rw [← hs]; exact h2 j hj
    · exact h2 k (by omega)
  · obtain ⟨k, hk, e⟩ := h3 x hx hh
    exact ⟨k, by omega, e⟩
  · by_cases hai : a = i
    · by_cases hbi : b = i
      · rw [hai, hbi]
      · subst hai
        rw [← he]
        exact h4 j b hj (by omega) (by rw [hs]; exact e)
    · by_cases hbi : b = i
      · subst hbi
        rw [← he]
        exact h4 a j (by omega) hj (by rw [hs]; exact e)
      · exact h4 a b (by omega) (by omega) e
/-- what Clash may tell -/
def ClashOk (xs : List ByteArray) (a b : Nat) (c : Bool) : Prop :=
  if c then a < b ∧ b < xs.length ∧ sumB (xs.getD a eB) = sumB (xs.getD b eB) ∧ xs.getD a eB ≠ xs.getD b eB
  else a = 0 ∧ b = 0 ∧ ∀ j k, j < xs.length → k < xs.length → sumB (xs.getD j eB) = sumB (xs.getD k eB) → xs.getD j eB = xs.getD k eB
end Rf
end Go.Proofs.YtoeblhdddehemaaDoor

/-
  The contract of refs.Kind.
-/
namespace Go.Proofs.YtoeblhdddehemaaDoor
set_option maxRecDepth 20000
open Go.RowKit

namespace Rf
open Rl Ni No
def kindP (k : ByteArray) : Nat := if k.size = 0 then 0 else if k.size = 32 then 1 else if refP k then 2 else 3
theorem kind_any (k : ByteArray) (hk : k.size ≤ maxLen) (w : World) :
    Calls Tryd.prog 14 #[.string k] w fun e w' => e = .returned (.int .i64 (kindP k)) ∧ Below w.heap.size w w' := by
  unfold maxLen at hk
  have HR := Lib.hid (ref_any k (by omega) w)
  by_cases h0 : k.size = 0
  · obtain rfl := size_zero h0
    have HF : Hid (kindP eB = 0) := Lib.hid rfl
    rw [HF.out]
    clear HR hk h0 HF
    go_enter Tryd.func14, Tryd.ntmps14
    go_wp2
    go_ret
    exact ⟨rfl, Below.refl _ _⟩
  have hne := Ni.not_empty (s := k) (by omega)
  by_cases h32 : k.size = 32
  · have HF : Hid (kindP k = 1) := Lib.hid (by unfold kindP; rw [if_neg h0, if_pos h32])
    have hd : (((k.size : Int) == 32) : Bool) = true := by simp; omega
    rw [HF.out]
    clear HR HF h0 h32
    go_enter Tryd.func14, Tryd.ntmps14
    go_wp2
    go_ret
    exact ⟨rfl, Below.refl _ _⟩
  have HF : Hid (kindP k = if refP k then 2 else 3) := Lib.hid (by unfold kindP; rw [if_neg h0, if_neg h32])
  have hd : (((k.size : Int) == 32) : Bool) = false := by simp; omega
  rw [HF.out]
  obtain ⟨r, hr⟩ : ∃ r, refP k = r := ⟨_, rfl⟩
  rw [hr] at HR
  rw [hr]
  clear HF h0 h32 hr
  cases r
  all_goals
    go_enter Tryd.func14, Tryd.ntmps14
    go_wp2_with fail
    refine HR.out.mono ?_
    rintro e w1 ⟨rfl, hb1⟩
    go_wp2
    go_ret
    exact ⟨rfl, hb1⟩
end Rf
end Go.Proofs.YtoeblhdddehemaaDoor
