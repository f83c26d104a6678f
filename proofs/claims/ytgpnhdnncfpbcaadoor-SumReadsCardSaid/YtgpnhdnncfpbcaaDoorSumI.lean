/-
  The plain answers' Sum; sums are equal to themselves; digits and back.
-/
import Derived.Test.YtgpnhdnncfpbcaaDoorSumH
import Derived.Test.YtgpnhdnncfpbcaaDoorShaD
import Derived.Laws.StructEq
import Derived.ChangeKeysEq
namespace Go.Proofs.YtgpnhdnncfpbcaaDoor
open Go.RowKit

namespace Sm
open Sh
theorem info_u8 : (Tryd.prog.info? 5).map (fun i => (i.zero, i.size, i.bytes)) = some (some (.int .u8 0), 1, 1) := by kernel_rfl
theorem part_byte (k : List UInt8) (i : Nat) (hi : i < k.length) (w : World) : (part 5 (kc k) i).run Tryd.prog w = .ok (.int .u8 (k.getD i 0).toNat) w := by
  have hagg : (isAgg 5).run Tryd.prog w = .ok false w := by kernel_rfl
  have hg : (kc k)[i]? = some (.int .u8 (k.getD i 0).toNat) := by simp [kc, List.getD, hi]
  unfold part
  rw [Sem.run_bind, hagg]
  simp [hg]
theorem items_same (k : List UInt8) (w : World) (d : Nat) : ∀ is : List Nat, (∀ i ∈ is, i < k.length) → (Op.eqItems (d + 1) 5 1 (kc k) (kc k) is).run Tryd.prog w = .ok true w
  | [], _ => by simp [Op.eqItems]
  | i :: is, h => by
    have ih := items_same k w d is (fun j hj => h j (List.mem_cons_of_mem _ hj))
    have hp := part_byte k i (h i (List.mem_cons_self ..)) w
    unfold Op.eqItems
    rw [Nat.mul_one]
    simp only [Sem.run_bind, hp, Result.andThen_ok, run_equalIn_int w d 5 .u8 .u8 _ _ Tryd.underlying5, beq_self_eq_true, Bool.not_true, Bool.false_eq_true, if_false]
    exact ih
theorem cells_u8 : Tryd.prog.cellsOf 5 = 1 := by kernel_rfl
theorem equal_sum (k : List UInt8) (hk : k.length = 32) (w : World) : (Op.equalIn 10000 27 (.agg (kc k)) (.agg (kc k))).run Tryd.prog w = .ok true w := by
  obtain ⟨i0, hi, _⟩ := info_parts info_u8
  rw [show (10000 : Nat) = 9999 + 1 from rfl, run_equalIn_array w 9999 (kc k) (kc k) Tryd.underlying27 hi, cells_u8]
  exact items_same k w 9998 (List.range 32) (fun i h => by rw [hk]; simpa using h)
theorem eql_sum (k : List UInt8) (hk : k.length = 32) (w : World) : (binOp .eql 27 (.agg (kc k)) (.agg (kc k))).run Tryd.prog w = .ok (.bool true) w := by
  rw [run_eql_struct, equal_sum k hk w]
  rfl
theorem neq_sum (k : List UInt8) (hk : k.length = 32) (w : World) : (binOp .neq 27 (.agg (kc k)) (.agg (kc k))).run Tryd.prog w = .ok (.bool false) w := by
  rw [run_neq_struct, equal_sum k hk w]
  rfl
theorem guard_sum : Tryd.prog.eqGuardType Tryd.prog.depth 27 = false := by kernel_rfl
theorem run_neq_op (ev : Operand → Value) (o : Oper) (k : List UInt8) (hk : k.length = 32) (w : World) (h : ∃ x y, o.op = .binOp .neq 27 x y 27 ∧ ev x = .agg (kc k) ∧ ev y = .agg (kc k)) :
    (execOp ev o).run Tryd.prog w = .ok (.value (.bool false)) w := by
  obtain ⟨x, y, ho, hx, hy⟩ := h
  unfold execOp
  simp [ho, hx, hy, run_eqGuard_agg, neq_sum k hk w, Result.andThen]
theorem run_eql_op (ev : Operand → Value) (o : Oper) (k : List UInt8) (hk : k.length = 32) (w : World) (h : ∃ x y, o.op = .binOp .eql 27 x y 27 ∧ ev x = .agg (kc k) ∧ ev y = .agg (kc k)) :
    (execOp ev o).run Tryd.prog w = .ok (.value (.bool true)) w := by
  obtain ⟨x, y, ho, hx, hy⟩ := h
  unfold execOp
  simp [ho, hx, hy, run_eqGuard_agg, eql_sum k hk w, Result.andThen]
theorem run_load_sum (ev : Operand → Value) (o : Oper) (w : World) (g : Nat) (l : List UInt8) (hl : l.length = 32) (h : ∃ x, o.op = .load 27 x ∧ ev x = .pointer (some ⟨g, 0, none⟩)) (hg : Rg.Own w g (kc l) 27) :
    (execOp ev o).run Tryd.prog w = .ok (.value (.agg (kc l))) w := by
  obtain ⟨x, ho, hx⟩ := h
  have hr := run_loadVar_row (P := Tryd.prog) w g 27 27 (kc l) (0, 0) _ hg.2 Tryd.underlying27 rfl (info_kc l hl)
  unfold execOp
  simp only [ho, hx, Instr.loadAt, Instr.sureAddr, Sem.run_bind, Sem.run_pure, Result.andThen_ok, hr]

/-- digits and back -/
theorem list_ext {a b : List UInt8} (hl : a.length = b.length) (h : ∀ i, i < a.length → a.getD i 0 = b.getD i 0) : a = b := by
  apply List.ext_getElem hl
  intro i h1 h2
  have := h i h1
  simpa only [List.getD, List.getElem?_eq_getElem h1, List.getElem?_eq_getElem h2, Option.getD_some] using this
theorem hexK_getD (l : List UInt8) : ∀ k, k ≤ l.length → ∀ j, j < k → (hexK l k).getD (2 * j) 0 = hexD ((l.getD j 0).toNat / 16) ∧ (hexK l k).getD (2 * j + 1) 0 = hexD ((l.getD j 0).toNat % 16)
  | 0, _, j, hj => by omega
  | k + 1, hk, j, hj => by
    have hl := hexK_length l k (by omega)
    rw [hexK_snoc l k (by omega)]
    by_cases e : j = k
    · subst e
      simp only [List.getD]
      rw [List.getElem?_append_right (by omega), List.getElem?_append_right (by omega), hl, show 2 * j - 2 * j = 0 by omega, show 2 * j + 1 - 2 * j = 1 by omega]
      exact ⟨rfl, rfl⟩
    · have ih := hexK_getD l k (by omega) j (by omega)
      simp only [List.getD] at ih ⊢
      rw [List.getElem?_append_left (by omega), List.getElem?_append_left (by omega)]
      exact ih
theorem hv_hexD : ∀ x : Fin 16, hvN (hexD x).toNat = x := by decide +kernel
theorem hexD_hv : ∀ c : Fin 256, hvN c < 16 → hexD (hvN c) = UInt8.ofNat c := by decide +kernel
theorem hex_ok (x : List UInt8) (hx : x.length = 32) : okH (hexK x 32) = true := by
  refine (okH_iff _).2 ⟨hexK_length x 32 (by omega), fun j hj => ?_⟩
  obtain ⟨h1, h2⟩ := hexK_getD x 32 (by omega) (j / 2) (by omega)
  have hb : (x.getD (j / 2) 0).toNat < 256 := UInt8.toNat_lt _
  rcases Nat.mod_two_eq_zero_or_one j with e | e
  · rw [show 2 * (j / 2) = j by omega] at h1
    have := hv_hexD ⟨(x.getD (j / 2) 0).toNat / 16, by omega⟩
    simp only at this
    rw [h1, this]; omega
  · rw [show 2 * (j / 2) + 1 = j by omega] at h2
    have := hv_hexD ⟨(x.getD (j / 2) 0).toNat % 16, by omega⟩
    simp only at this
    rw [h2, this]; omega
theorem unhexL_getD (l : List UInt8) (j : Nat) (hj : j < 32) : (unhexL l).getD j 0 = UInt8.ofNat (pairH l j) := by simp [unhexL, List.getD, hj]
theorem hex_unhex (x : List UInt8) (hx : x.length = 32) : unhexL (hexK x 32) = x := by
  apply list_ext (by rw [unhexL_length, hx])
  intro j hj
  rw [unhexL_length] at hj
  obtain ⟨h1, h2⟩ := hexK_getD x 32 (by omega) j hj
  have hb : (x.getD j 0).toNat < 256 := UInt8.toNat_lt _
  have e1 := hv_hexD ⟨(x.getD j 0).toNat / 16, by omega⟩
  have e2 := hv_hexD ⟨(x.getD j 0).toNat % 16, by omega⟩
  simp only at e1 e2
  rw [unhexL_getD _ j hj]
  unfold pairH
  rw [h1, h2, e1, e2, show 16 * ((x.getD j 0).toNat / 16) + (x.getD j 0).toNat % 16 = (x.getD j 0).toNat by omega]
  simp
theorem join_div (a b : Nat) (h : b < 16) : (16 * a + b) / 16 = a := by omega
theorem join_mod (a b : Nat) (h : b < 16) : (16 * a + b) % 16 = b := by omega
theorem unhex_hex (s : List UInt8) (hs : okH s = true) : hexK (unhexL s) 32 = s := by
  obtain ⟨hl, hv⟩ := (okH_iff s).1 hs
  have hul := unhexL_length s
  apply list_ext (by rw [hexK_length _ _ (by omega), hl])
  intro i hi
  rw [hexK_length _ _ (by omega)] at hi
  obtain ⟨h1, h2⟩ := hexK_getD (unhexL s) 32 (by omega) (i / 2) (by omega)
  have e := unhexL_getD s (i / 2) (by omega)
  have v1 := hv (2 * (i / 2)) (by omega)
  have v2 := hv (2 * (i / 2) + 1) (by omega)
  have d1 := hexD_hv ⟨(s.getD (2 * (i / 2)) 0).toNat, UInt8.toNat_lt _⟩ v1
  have d2 := hexD_hv ⟨(s.getD (2 * (i / 2) + 1) 0).toNat, UInt8.toNat_lt _⟩ v2
  simp only [UInt8.ofNat_toNat] at d1 d2
  have hp : (UInt8.ofNat (pairH s (i / 2))).toNat = 16 * hvN (s.getD (2 * (i / 2)) 0).toNat + hvN (s.getD (2 * (i / 2) + 1) 0).toNat := by
    unfold pairH
    simp only [UInt8.toNat_ofNat']
    omega
  rw [e, hp] at h1 h2
  rcases Nat.mod_two_eq_zero_or_one i with ev | ev
  · rw [show 2 * (i / 2) = i by omega] at h1 d1 v2
    rw [h1, join_div _ _ v2]
    exact d1
  · rw [show 2 * (i / 2) + 1 = i by omega] at h2 d2 v2
    rw [h2, join_mod _ _ v2]
    exact d2
/-- the digits of the sum of abc -/
def abcH : ByteArray := ⟨#[98, 97, 55, 56, 49, 54, 98, 102, 56, 102, 48, 49, 99, 102, 101, 97, 52, 49, 52, 49, 52, 48, 100, 101, 53, 100, 97, 101, 50, 50, 50, 51, 98, 48, 48, 51, 54, 49, 97, 51, 57, 54, 49, 55, 55, 97, 57, 99, 98, 52, 49, 48, 102, 102, 54, 49, 102, 50, 48, 48, 49, 53, 97, 100]⟩
theorem abc_hex : (⟨(hexK abcL 32).toArray⟩ : ByteArray) = abcH := by decide +kernel

set_option maxHeartbeats 2000000 in
theorem rsum_any (l : List UInt8) (hl : l.length ≤ 900000) (w : World) :
    Calls Tryd.prog 11 #[.string ⟨l.toArray⟩] w fun e w' => e = .returned (.agg (kc (sumL l))) ∧ Below w.heap.size w w' := by
  have HOf := Lib.hid (rof_any l hl (w.alloc (.cells (kc zk) 27)))
  obtain ⟨s, hs⟩ : ∃ s, (⟨l.toArray⟩ : ByteArray) = s := ⟨_, rfl⟩
  have hKl := sumL_length l
  obtain ⟨k, hk⟩ : ∃ k, sumL l = k := ⟨_, rfl⟩
  rw [hs, hk] at HOf
  rw [hs, hk]
  rw [hk] at hKl
  clear hs hk hl
  have hts : (⟨k.toArray⟩ : ByteArray).size = 32 := by rw [ba_size]; exact hKl
  have HQ := Lib.hid (byteAt_eq ⟨k.toArray⟩)
  have HBy : Hid (∀ j, byteAt ⟨k.toArray⟩ j = (k.getD j 0).toNat) := Lib.hid (fun j => by unfold byteAt; simp)
  have HKl := Lib.hid hKl
  obtain ⟨t, ht⟩ : ∃ t, (⟨k.toArray⟩ : ByteArray) = t := ⟨_, rfl⟩
  rw [ht] at HOf hts HQ HBy
  clear ht hKl
  go_enter Tryd.func11, Tryd.ntmps11
  go_wp2_with (refine wpList_run (o := ⟨some 2, _, _, _, _, _⟩) rfl _ _ (run_alloc_sum _ _ rfl _ w.heap.size rfl) ?_)
  refine HOf.out.mono ?_
  rintro e w1 ⟨rfl, hb1⟩
  have HB1 := Lib.hid (((Below.refl w.heap.size w).alloc (Nat.le_refl _) (.cells (kc zk) 27)).trans (hb1.mono (by simp)))
  have HO1 := Lib.hid ((Rg.Own.new w (kc zk) 27).below hb1)
  clear hb1 HOf
  obtain ⟨m, hm⟩ : ∃ m, w1.heap.size = m := ⟨_, rfl⟩
  have hlm : w.heap.size < m := by rw [← hm]; exact HO1.out.1
  have HO2 : Hid (Rg.Own (w1.alloc (.cells (kc zk) 27)) w.heap.size (kc zk) 27) := Lib.hid (HO1.out.below ((Below.refl _ _).alloc (Nat.le_refl _) _))
  have HB2 : Hid (Below w.heap.size w (w1.alloc (.cells (kc zk) 27))) := Lib.hid (HB1.out.alloc (by omega) _)
  have HR0 : Hid ((w1.alloc (.cells (kc zk) 27)).rowIs m 27 32 (fun j => .int .u8 (if j < 0 then (k.getD j 0).toNat else 0 : Nat))) := Lib.hid ((zk_row (by rw [← hm]; exact heap_alloc_new _ _)).congr (fun j _ => by rw [if_neg (by omega)]; rfl))
  go_wp2_with (refine wpList_run (o := ⟨some 4, _, _, _, _, _⟩) rfl _ _ (run_alloc_sum _ _ rfl _ m hm) ?_)
  go_loopw [5] (fun i wr => ∃ q : Nat, q ≤ 32 ∧ i = .int .i64 q ∧ Hid (wr.rowIs m 27 32 (fun j => .int .u8 (if j < q then (k.getD j 0).toNat else 0 : Nat))) ∧ Hid (Rg.Own wr w.heap.size (kc zk) 27) ∧ Hid (Below w.heap.size w wr)) (fun i _ => 32 - (intOf i).toNat)
  case atStart => exact ⟨0, by omega, rfl, HR0, HO2, HB2⟩
  case round =>
    clear HR0 HO2 HB2 HB1 HO1 hm
    obtain ⟨q, hq, rfl, HR, HO, HB⟩ := hrel
    by_cases hlt : q < 32
    · have q0 := HQ.out q (by omega)
      rw [HBy.out] at q0
      have hc := HR.out.cell (i := q) hlt
      have hf := HR.out.frozen q
      have HS := Lib.hid ((HR.out.set q (.int .u8 ((k.getD q 0).toNat : Nat))).congr (g := fun j => .int .u8 (if j < q + 1 then (k.getD j 0).toNat else 0 : Nat)) (fun j _ => by
        by_cases e : j = q
        · subst e; simp
        · have : j < q + 1 ↔ j < q := by omega
          simp [e, this]))
      have Q0 := sec q0
      clear q0
      go_wp2
      go_roundw
      case rel => exact ⟨q + 1, by omega, by go_num, by rw [Q0.out]; exact HS, Lib.hid ⟨by simpa using HO.out.1, (heap_setCell_other _ _ _ _ (by simp; omega)).trans HO.out.2⟩, Lib.hid (HB.out.setCell (p := ⟨m, q, none⟩) (by simp; omega) _)⟩
      case measure => simp [intOf]; omega
    · obtain rfl : q = 32 := by omega
      have HF : Hid (wr.heap[m]? = some (.cells (kc k) 27 (0, 0))) := Lib.hid (kc_row _ HR.out HKl.out (fun j hj => by rw [if_pos hj]))
      clear HR
      go_wp2_with (first | (refine wpList_load_row rfl _ _ rfl m rfl 27 (kc k) (0, 0) _ HF.out Tryd.underlying27 rfl (info_kc k HKl.out) ?_) | (refine wpList_store_rowTo rfl 27 _ _ rfl rfl _ (kc k) rfl rfl 27 (kc zk) HO.out.2 (info_kc k HKl.out) (by rw [kc_size, kc_size, HKl.out]; rfl) (kc_one _) ?_))
      exact bodyPost_ret (results_cell_row rfl _ _ w.heap.size 27 (kc k) (0, 0) _ rfl (setRow_heap _ _ _ _ _ _ HO.out.2) Tryd.underlying27 rfl (info_kc k HKl.out)) rfl ⟨rfl, below_row HB.out (Nat.le_refl _) _⟩
end Sm
end Go.Proofs.YtgpnhdnncfpbcaaDoor
