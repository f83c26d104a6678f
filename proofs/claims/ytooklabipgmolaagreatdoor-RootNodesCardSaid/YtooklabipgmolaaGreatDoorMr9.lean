/-
 Contracts of sum.right, sum.lay, sum.end.
-/
import Derived.Test.YtooklabipgmolaaGreatDoorMr8
import Derived.Test.YtooklabipgmolaaGreatDoorMr2
import Derived.Laws.BitsAllLaws
import Derived.IntWalk
import Derived.Laws.Rows
import Derived.Laws.NewBlocks
import Derived.BigRegion
import Derived.Great.BuildSlice
import Derived.Laws.ResultCell
open Go.Lib (hid)
set_option linter.unusedSimpArgs false
set_option linter.unusedVariables false
set_option maxHeartbeats 40000000
set_option maxRecDepth 100000
namespace Go.Proofs.YtooklabipgmolaaGreatDoor
section
open Go.RowKit
namespace Sm
open Sh
theorem ret_u32 {a b : Int} (h : a = b) : Ending.returned (.int .u32 a) = .returned (.int .u32 b) := by rw [h]
theorem rot_and (n : Nat) (h1 : 1 ≤ n) (h2 : n ≤ 31) : bits .and .u64 (IntKind.u64.wrap (-(n : Int))) 31 = 32 - (n : Int) := by
 have e : IntKind.u64.wrap (-(n : Int)) = ((18446744073709551616 - n : Nat) : Int) := by rw [IntKind.wrap_u64]; omega
 rw [e, show (31 : Int) = ((31 : Nat) : Int) from rfl, u64_and_nat _ _ (by omega) (by omega), nat_mask5]
 omega
theorem rot_or (x n : Nat) (hx : x < 4294967296) (h2 : n ≤ 31) :
  bits .or .u32 ((x : Int) * 2 ^ (32 - n) % 4294967296) ((x : Int) / 2 ^ (32 - (32 - n))) = (turnN x n : Nat) := by
 have e0 : 32 - (32 - n) = n := by omega
 have hp : 2 ^ n * 2 ^ (32 - n) = 4294967296 := by rw [← Nat.pow_add, show n + (32 - n) = 32 by omega]
 have e1 : x * 2 ^ (32 - n) % 4294967296 = x % 2 ^ n * 2 ^ (32 - n) := by rw [← hp, Nat.mul_mod_mul_right]
 have hb : x / 2 ^ n < 2 ^ (32 - n) := by
  rw [Nat.div_lt_iff_lt_mul (Nat.pow_pos (by omega)), Nat.mul_comm, hp]; exact hx
 have ha : x * 2 ^ (32 - n) % 4294967296 < 4294967296 := Nat.mod_lt _ (by omega)
 have c1 : ((x : Int) * 2 ^ (32 - n) % 4294967296) = ((x * 2 ^ (32 - n) % 4294967296 : Nat) : Int) := by simp
 have c2 : ((x : Int) / 2 ^ n) = ((x / 2 ^ n : Nat) : Int) := by simp
 rw [e0, c1, c2, u32_or_nat _ _ ha (Nat.lt_of_le_of_lt (Nat.div_le_self _ _) hx), e1, nat_join (32 - n) _ _ (Nat.mul_mod_left _ _) hb, turnN_eq n x hx (by omega), Nat.add_comm]
theorem rot_any (x n : Nat) (hx : x < 4294967296) (h1 : 1 ≤ n) (h2 : n ≤ 31) (w : World) :
  Calls Tryz.prog 148 #[.int .u32 x, .int .i64 (-(n : Int))] w fun e w' => e = .returned (.int .u32 (turnN x n : Nat)) ∧ w = w' := by
 have hA := rot_and n h1 h2
 have HO := hid (rot_or x n hx h2)
 go_enter Tryz.func148, Tryz.ntmps148
 go_wp2
 go_ret
 exact ⟨ret_u32 HO.out, rfl⟩
theorem right_any (x n : Nat) (N : Int) (hN : N = n) (hx : x < 4294967296) (h1 : 1 ≤ n) (h2 : n ≤ 31) (w : World) :
  Calls Tryz.prog 123 #[.int .u32 x, .int .i64 N] w fun e w' => e = .returned (.int .u32 (turnN x n : Nat)) ∧ w = w' := by
 subst hN
 have HR := hid (rot_any x n hx h1 h2)
 go_enter Tryz.func123, Tryz.ntmps123
 go_wp2_with (go_at_call 148; refine (HR.out _).mono ?_; rintro e w1 ⟨rfl, rfl⟩)
 go_ret
 exact ⟨rfl, rfl⟩
def upB (m n k : Nat) : Nat := n / 256 ^ (m - 1 - k) % 256
def laidN (w : World) (g off m n : Nat) : Nat → World
 | 0 => w
 | k + 1 => (laidN w g off m n k).setCell ⟨g, off + k, none⟩ (.int .u8 (upB m n k : Nat))
theorem laidN_row {w : World} {g off m n N : Nat} {t : TypeId} {f : Nat → Value} (h : w.rowIs g t N f) : ∀ k, (laidN w g off m n k).rowIs g t N (fun j => if off ≤ j ∧ j < off + k then .int .u8 (upB m n (j - off) : Nat) else f j)
 | 0 => h.congr (fun j _ => by rw [if_neg (by omega)])
 | k + 1 => ((laidN_row h k).set (off + k) _).congr (fun j _ => by
  by_cases e : j = off + k
  ·subst e; simp
  ·by_cases e2 : off ≤ j ∧ j < off + k
   ·rw [if_neg e, if_pos e2, if_pos (by omega)]
   ·rw [if_neg e, if_neg e2, if_neg (by omega)])
theorem laidN_below {B : Nat} {w0 w : World} (h : Below B w0 w) {g off m n : Nat} (hg : B ≤ g) : ∀ k, Below B w0 (laidN w g off m n k)
 | 0 => h
 | k + 1 => (laidN_below h hg k).setCell (p := ⟨g, off + k, none⟩) hg _
theorem lay_any (g off m c n N : Nat) (t : TypeId) (f : Nat → Value) (w : World) (h : w.rowIs g t N f) (hm : off + m ≤ N) (hm8 : m ≤ 8) :
  Calls Tryz.prog 73 #[.slice (some ⟨g, off, none⟩) m c, .int .u64 n] w fun e w' => e = .returned (.tuple #[]) ∧ w' = laidN w g off m n m := by
 have HROW := hid (fun k => laidN_row (off := off) (m := m) (n := n) h k)
 clear h
 go_enter Tryz.func73, Tryz.ntmps73
 go_wp2
 go_loopw [7] (fun i wr => ∃ k : Nat, k ≤ m ∧ i = .int .i64 k ∧ wr = laidN w g off m n k) (fun i _ => m - (intOf i).toNat)
 case atStart => exact ⟨0, Nat.zero_le _, rfl, rfl⟩
 case round =>
  obtain ⟨k, hk, rfl, rfl⟩ := hrel
  by_cases hlt : k < m
  ·have hr := HROW.out k
   have hc := hr.cell (i := off + k) (by omega)
   rw [if_neg (by omega)] at hc
   have hf := hr.frozen (off + k)
   clear hr
   have HN : Hid ((laidN w g off m n k).setCell ⟨g, off + k, none⟩ (.int .u8 (upB m n k : Nat)) = laidN w g off m n (k + 1)) := hid rfl
   obtain ⟨wk, hwk⟩ : ∃ wk, laidN w g off m n k = wk := ⟨_, rfl⟩
   rw [hwk] at hc hf HN ⊢
   clear hwk
   go_wp2
   have HE : ((n : Int) / 2 ^ (8 * (m - 1 - k)) % 256) = (upB m n k : Nat) := by
    unfold upB
    rw [show 2 ^ (8 * (m - 1 - k)) = ((256 ^ (m - 1 - k) : Nat) : Int) by rw [Int.natCast_pow, show ((256 : Nat) : Int) = 2 ^ 8 from rfl, ← Int.pow_mul]]
    simp
   go_roundw
   case rel => exact ⟨k + 1, by omega, by go_num, by rw [HE, HN.out]⟩
   case measure => simp [intOf]; omega
  ·obtain rfl : k = m := by omega
   have HW : Hid (laidN w g off k n k = laidN w g off k n k) := hid rfl
   obtain ⟨wk, hwk⟩ : ∃ wk, laidN w g off k n k = wk := ⟨_, rfl⟩
   have HWK := hid hwk
   rw [hwk]
   clear HROW hwk HW
   go_wp2
   go_end0
   exact ⟨rfl, HWK.out.symm⟩
def endL (n : Nat) : List UInt8 := [128] ++ List.replicate (zerosN n) 0 ++ beK (8 * n) 8
theorem fillL_end (l : List UInt8) : fillL l = l ++ endL l.length := by simp [fillL, fillK, endL]
theorem endL_length (n : Nat) : (endL n).length = zerosN n + 9 := by simp [endL, beK_length]
theorem beK_getD (n j : Nat) (h : j < 8) : ((beK n 8).getD j 0).toNat = upB 8 n j := by
 unfold upB
 have : (beK n 8).getD j 0 = UInt8.ofNat (n / 256 ^ (7 - j) % 256) := by
  unfold beK
  rw [List.getD, List.getElem?_reverse (by simpa using h)]
  simp only [List.length_map, List.length_range, List.getElem?_map]
  rw [List.getElem?_range (by omega)]
  simp only [Option.map_some, Option.getD_some]
 rw [this]
 simp
theorem endL_getD (n j : Nat) (h : j < zerosN n + 9) : ((endL n).getD j 0).toNat = if j = 0 then 128 else if 1 + zerosN n ≤ j then upB 8 (8 * n) (j - (1 + zerosN n)) else 0 := by
 unfold endL
 by_cases h0 : j = 0
 ·subst h0; simp
 ·rw [if_neg h0]
  by_cases h1 : 1 + zerosN n ≤ j
  ·rw [if_pos h1, List.getD, List.getElem?_append_right (by simp; omega)]
   rw [← beK_getD _ _ (by omega), List.getD]
   congr 3
   simp
   omega
  ·rw [if_neg h1, List.getD, List.getElem?_append_left (by simp; omega), List.getElem?_append_right (by simp; omega)]
   simp only [List.length_singleton, List.getElem?_replicate]
   rw [if_pos (by omega)]
   rfl
theorem end_any (n : Nat) (hn : n ≤ 1000000) (w : World) :
  Calls Tryz.prog 72 #[.int .i64 n] w fun e w' => e = .returned (.string ⟨(endL n).toArray⟩) ∧ Below w.heap.size w w' := by
 have hz : zerosN n < 64 := Nat.mod_lt _ (by omega)
 obtain ⟨z, hze⟩ : ∃ z, zerosN n = z := ⟨_, rfl⟩
 obtain ⟨m, hm⟩ : ∃ m, z + 9 = m := ⟨_, rfl⟩
 have hmk := run_make_row' (P := Tryz.prog) 51 5 (.int .u8 0) 1 Tryz.underlying51 Bu.info_byte rfl .i64 .i64 m (by omega) (by omega)
 have e : ((m : Nat) : Int) = 1 + (z : Int) + 8 := by omega
 rw [e] at hmk
 have hr : (w.alloc (.cells ((madeCells #[Value.int IntKind.u8 0] m).setIfInBounds 0 (.int .u8 128)) 5)).rowIs w.heap.size 5 m (fun j => if j = 0 then .int .u8 128 else .int .u8 0) := by
  have h0 := (World.rowIs_made w (.int .u8 0) m 5).set 0 (.int .u8 128)
  rw [World.setCell_alloc_at _ _ _ _ _ rfl] at h0
  exact h0
 have hm8 : m - (1 + z) = 8 := by omega
 have hc0 := (World.rowIs_made w (.int .u8 0) m 5).cell (i := 0) (by omega)
 have hf0 := (World.rowIs_made w (.int .u8 0) m 5).frozen 0
 have HL := lay_any w.heap.size (1 + z) (m - (1 + z)) (m - (1 + z)) (8 * n) m 5 _ _ hr (by omega) (by omega)
 rw [show ((8 * n : Nat) : Int) = 8 * (n : Int) by omega] at HL
 have HL := hid HL
 have hR := laidN_row (off := 1 + z) (m := m - (1 + z)) (n := 8 * n) hr (m - (1 + z))
 have hB := laidN_below (g := w.heap.size) (off := 1 + z) (m := m - (1 + z)) (n := 8 * n) ((Below.refl w.heap.size w).alloc (Nat.le_refl _) (.cells ((madeCells #[Value.int IntKind.u8 0] m).setIfInBounds 0 (.int .u8 128)) 5)) (Nat.le_refl _) (m - (1 + z))
 obtain ⟨W, hW⟩ : ∃ W, laidN (w.alloc (.cells ((madeCells #[Value.int IntKind.u8 0] m).setIfInBounds 0 (.int .u8 128)) 5)) w.heap.size (1 + z) (m - (1 + z)) (8 * n) (m - (1 + z)) = W := ⟨_, rfl⟩
 rw [hW] at hR hB HL
 have hI : IsBs W (some ⟨w.heap.size, 0, none⟩) m m (endL n) := by
  refine IsBs.ofRow (endL n) (by unfold maxLen; omega) hR (by rw [endL_length, hze, hm]) (fun j hj => ?_)
  rw [endL_getD n j (by omega), hze, hm8]
  by_cases h0 : j = 0
  ·subst h0; simp
  ·by_cases h1 : 1 + z ≤ j
   ·rw [if_pos ⟨h1, by omega⟩, if_neg h0, if_pos h1]
   ·rw [if_neg (by omega), if_neg h0, if_neg h0, if_neg h1]; rfl
 have hcv := conv_bs hI
 have hzi : (119 - (n : Int) % 64) % 64 = z := by unfold zerosN at hze; omega
 clear hr e hR hI hW hze hm8
 go_enter Tryz.func72, Tryz.ntmps72
 go_wp2_with fail
 refine HL.out.mono ?_
 rintro e w1 ⟨rfl, rfl⟩
 clear hmk hc0 hf0
 go_wp2
 go_ret
 exact ⟨rfl, hB⟩
end Sm
end
section
open Go.RowKit
namespace Sm
open Sh
def ac (l : List Nat) : Array Value := (l.map fun (x : Nat) => Value.int .u32 (x : Int)).toArray
theorem ac_size (l : List Nat) : (ac l).size = l.length := by simp [ac]
theorem ac_get (l : List Nat) (j : Nat) (h : j < l.length) : (ac l)[j]? = some (.int .u32 (l.getD j 0 : Nat)) := by simp [ac, List.getD, h]
theorem ac_one (l : List Nat) : (ac l).all (·.oneCell') = true := by
 rw [Array.all_eq_true]
 intro i hi
 simp [ac]
 rfl
theorem info_64 : (Tryz.prog.info? 141).map (·.size) = some 64 := by kernel_rfl
theorem info_8 : (Tryz.prog.info? 119).map (·.size) = some 8 := by kernel_rfl
theorem ac_of {w : World} {g : Nat} {t : TypeId} {n : Nat} {f : Nat → Value} (l : List Nat) (h : w.rowIs g t n f) (hl : l.length = n) (hf : ∀ j, j < n → f j = .int .u32 (l.getD j 0 : Nat)) : w.heap[g]? = some (.cells (ac l) t (0, 0)) := by
 obtain ⟨c, hg, hs, hc⟩ := h
 have : c = ac l := by
  apply Array.ext
  ·rw [hs, ac_size, hl]
  ·intro i hi _
   have h1 := hc i (by omega)
   rw [hf i (by omega), ← ac_get l i (by omega)] at h1
   have h2 : c[i]? = some c[i] := Array.getElem?_eq_getElem hi
   rw [h2] at h1
   have h3 : i < (ac l).size := by rw [ac_size]; omega
   rw [Array.getElem?_eq_getElem h3] at h1
   exact Option.some.inj h1
 rw [hg, this]
theorem below_row {B : Nat} {w w1 : World} (h : Below B w w1) {g : Nat} (hg : B ≤ g) (cs : Array Value) : Below B w (w1.setRow g cs) :=
 h.trans ⟨rfl, rfl, rfl, by simp, fun k hk => setRow_other w1 g k cs (by omega)⟩
def Row (w : World) (g : Nat) (t : TypeId) (n : Nat) (l : List Nat) : Prop := w.rowIs g t n (fun j => .int .u32 (l.getD j 0 : Nat))
theorem Row.put {w : World} {g : Nat} {t : TypeId} {n : Nat} {l : List Nat} (h : Row w g t n l) (x : Nat) : Row (w.setCell ⟨g, l.length, none⟩ (.int .u32 x)) g t n (l ++ [x]) :=
 (World.rowIs.set h l.length _).congr fun j _ => by
  by_cases e : j = l.length
  ·subst e; simp
  ·rw [if_neg e]
   by_cases e2 : j < l.length
   ·simp [List.getD, List.getElem?_append_left e2]
   ·rw [List.getD, List.getElem?_eq_none (by omega), List.getD, List.getElem?_eq_none (by simp; omega)]
def za (n : Nat) : Array Value := ac (List.replicate n 0)
theorem Row.zero (w : World) (t : TypeId) (n : Nat) : Row (w.alloc (.cells (za n) t)) w.heap.size t n [] := by
 have h := World.rowIs_alloc w (za n) t (fun _ => .int .u32 (([] : List Nat).getD 0 0 : Nat)) (fun i hi => by
  have hi' : i < n := by simpa [za, ac] using hi
  simp [za, ac, hi'])
 have e : (za n).size = n := by simp [za, ac]
 rw [e] at h
 exact h.congr fun j _ => by simp
theorem run_alloc_64 (ev : Operand → Value) (o : Oper) (ho : o.op = .alloc 141) (w : World) :
  (execOp ev o).run Tryz.prog w = .ok (.value (.pointer (some ⟨w.heap.size, 0, none⟩))) (w.alloc (.cells (za 64) 141)) := by
 unfold execOp
 rw [ho]
 kernel_rfl
theorem run_alloc_8 (ev : Operand → Value) (o : Oper) (ho : o.op = .alloc 119) (w : World) :
  (execOp ev o).run Tryz.prog w = .ok (.value (.pointer (some ⟨w.heap.size, 0, none⟩))) (w.alloc (.cells (za 8) 119)) := by
 unfold execOp
 rw [ho]
 kernel_rfl
theorem or_1 (a b : Nat) (ha : a < 256) (hb : b < 256) : bits .or .u32 ((a : Int) * 16777216) ((b : Int) * 65536) = ((a * 16777216 + b * 65536 : Nat) : Int) := by
 have := u32_or_nat (a * 16777216) (b * 65536) (by omega) (by omega)
 rw [nat_join 24 _ _ (by omega) (by omega)] at this
 simpa using this
theorem or_2 (a c : Nat) (ha : a < 65536) (hc : c < 256) : bits .or .u32 ((a * 65536 : Nat) : Int) ((c : Int) * 256) = ((a * 65536 + c * 256 : Nat) : Int) := by
 have := u32_or_nat (a * 65536) (c * 256) (by omega) (by omega)
 rw [nat_join 16 _ _ (by omega) (by omega)] at this
 simpa using this
theorem or_3 (a d : Nat) (ha : a < 16777216) (hd : d < 256) : bits .or .u32 ((a * 256 : Nat) : Int) (d : Int) = ((a * 256 + d : Nat) : Int) := by
 have := u32_or_nat (a * 256) d (by omega) (by omega)
 rw [nat_join 8 _ _ (by omega) (by omega)] at this
 simpa using this
theorem wordP_4 (g : Nat → Nat) (k : Nat) : wordP g k 4 = ((g (4 * k) * 256 + g (4 * k + 1)) * 256 + g (4 * k + 2)) * 256 + g (4 * k + 3) := by
 simp only [wordP, Nat.add_zero]
 omega
theorem run_index_at (t : TypeId) (ht : Tryz.prog.underlying t = some .string) (s : ByteArray) (i v : Nat) (n : Int) (hn : n = i) (hi : i < s.size) (hv : s[i].toNat = v) (w : World) :
  (Instr.index t (.string s) (.int .i64 n)).run Tryz.prog w = .ok (.int .u8 v) w := by
 subst hn hv
 rw [run_index_string w _ _ _ _ ht]
 simp [hi]
theorem run_index_op (ev : Operand → Value) (o : Oper) (T : TypeId) (hT : Tryz.prog.underlying T = some .string) (s : ByteArray) (i v : Nat) (n : Int) (ho : ∃ x y, o.op = .index T x y ∧ ev x = .string s ∧ ev y = .int .i64 n) (hn : n = i)
  (hv : ∃ h : i < s.size, s[i].toNat = v) (w : World) : (execOp ev o).run Tryz.prog w = .ok (.value (.int .u8 v)) w := by
 obtain ⟨x, y, ho, hx, hy⟩ := ho
 have h := run_index_at T hT s i v n hn hv.1 hv.2 w
 unfold execOp
 rw [ho]
 simp only [hx, hy]
 simp [h]
theorem schedule_any (s : ByteArray) (hs : 64 ≤ s.size) (hsm : s.size ≤ 1000000) (w : World) :
  Calls Tryz.prog 95 #[.string s] w fun e w' => e = .returned (.agg (ac (schW (byteAt s) 64))) ∧ Below w.heap.size w w' := by
 have HQ := hid (byteAt_eq s)
 have HG := hid (byteAt_lt s)
 have hR0 := Row.zero (w.alloc (.cells (za 64) 141)) 141 64
 rw [show (w.alloc (.cells (za 64) 141)).heap.size = w.heap.size + 1 by simp] at hR0
 have HR0 := hid hR0
 clear hR0
 obtain ⟨g, hg⟩ : ∃ g, byteAt s = g := ⟨_, rfl⟩
 rw [hg] at HQ HG ⊢
 clear hg
 go_enter Tryz.func95, Tryz.ntmps95
 go_wp2_with (refine wpList_run rfl _ _ (run_alloc_64 _ _ rfl _) ?_)
 go_loopw [8] (fun i wr => ∃ k : Nat, k ≤ 16 ∧ i = .int .i64 k ∧ Hid (Row wr (w.heap.size + 1) 141 64 (schW g k)) ∧ Below (w.heap.size + 1) (w.alloc (.cells (za 64) 141)) wr) (fun i _ => 16 - (intOf i).toNat)
 case atStart => exact ⟨0, by omega, rfl, HR0, (Below.refl _ _).alloc (by simp) _⟩
 case round =>
  obtain ⟨k, hk, rfl, HR, hB⟩ := hrel
  by_cases hlt : k < 16
  ·have p0 : 4 * k < s.size := by omega
   have p1 : 4 * k + 1 < s.size := by omega
   have p2 : 4 * k + 2 < s.size := by omega
   have p3 : 4 * k + 3 < s.size := by omega
   have q0 := HQ.out _ p0
   have q1 := HQ.out _ p1
   have q2 := HQ.out _ p2
   have q3 := HQ.out _ p3
   have g0 := HG.out (4 * k)
   have g1 := HG.out (4 * k + 1)
   have g2 := HG.out (4 * k + 2)
   have g3 := HG.out (4 * k + 3)
   have hc := HR.out.cell (i := k) (by omega)
   have hf := HR.out.frozen k
   have HN : Hid (Row (wr.setCell ⟨w.heap.size + 1, k, none⟩ (.int .u32 (wordP g k 4 : Nat))) (w.heap.size + 1) 141 64 (schW g (k + 1))) := hid (by
    have := Row.put HR.out (wordP g k 4)
    rw [schW_length] at this
    rw [schW, nextW, if_pos hlt]
    exact this)
   have HW := sec (wordP_4 g k)
   obtain ⟨a, ha⟩ : ∃ a, g (4 * k) = a := ⟨_, rfl⟩
   obtain ⟨b, hb⟩ : ∃ a, g (4 * k + 1) = a := ⟨_, rfl⟩
   obtain ⟨c, hc'⟩ : ∃ a, g (4 * k + 2) = a := ⟨_, rfl⟩
   obtain ⟨d, hd⟩ : ∃ a, g (4 * k + 3) = a := ⟨_, rfl⟩
   rw [ha, hb, hc', hd] at HW
   rw [ha] at q0 g0
   rw [hb] at q1 g1
   rw [hc'] at q2 g2
   rw [hd] at q3 g3
   clear ha hb hc' hd
   have o1 := or_1 a b g0 g1
   have o2 := or_2 (a * 256 + b) c (by omega) g2
   have o3 := or_3 ((a * 256 + b) * 256 + c) d (by omega) g3
   rw [show (a * 256 + b) * 65536 = a * 16777216 + b * 65536 by omega] at o2
   rw [show ((a * 256 + b) * 256 + c) * 256 = a * 16777216 + b * 65536 + c * 256 by omega] at o3
   rw [show a * 16777216 + b * 65536 + c * 256 + d = wordP g k 4 by rw [HW.out]; omega] at o3
   obtain ⟨y2, hy2⟩ : ∃ y, a * 16777216 + b * 65536 + c * 256 = y := ⟨_, rfl⟩
   rw [hy2] at o2 o3
   obtain ⟨y1, hy1⟩ : ∃ y, a * 16777216 + b * 65536 = y := ⟨_, rfl⟩
   rw [hy1] at o1 o2
   clear hy1 hy2
   obtain ⟨W, hWe⟩ : ∃ W, wordP g k 4 = W := ⟨_, rfl⟩
   rw [hWe] at o3 HN
   clear hWe HW
   have O1 := sec o1
   have O2 := sec o2
   have O3 := sec o3
   clear o1 o2 o3
   have l4 : (0 : Int) ≤ (k : Int) := by omega
   have l5 : (k : Int) < 64 := by omega
   have va : IntKind.u32.wrap (a : Int) = a := by rw [IntKind.wrap_u32']; omega
   have vb : IntKind.u32.wrap (b : Int) = b := by rw [IntKind.wrap_u32']; omega
   have vc : IntKind.u32.wrap (c : Int) = c := by rw [IntKind.wrap_u32']; omega
   have vd : IntKind.u32.wrap (d : Int) = d := by rw [IntKind.wrap_u32']; omega
   have va2 : IntKind.u32.wrap ((a : Int) * 16777216) = (a : Int) * 16777216 := by rw [IntKind.wrap_u32']; omega
   have vb2 : IntKind.u32.wrap ((b : Int) * 65536) = (b : Int) * 65536 := by rw [IntKind.wrap_u32']; omega
   have vc2 : IntKind.u32.wrap ((c : Int) * 256) = (c : Int) * 256 := by rw [IntKind.wrap_u32']; omega
   have w0 : IntKind.i64.wrap (4 * (k : Int)) = 4 * (k : Int) := IntWalk.i64_in _ (by omega)
   have w1 : IntKind.i64.wrap (4 * (k : Int) + 1) = 4 * (k : Int) + 1 := IntWalk.i64_in _ (by omega)
   have w2 : IntKind.i64.wrap (4 * (k : Int) + 2) = 4 * (k : Int) + 2 := IntWalk.i64_in _ (by omega)
   have w3 : IntKind.i64.wrap (4 * (k : Int) + 3) = 4 * (k : Int) + 3 := IntWalk.i64_in _ (by omega)
   have Q0 : Sec (∃ h : 4 * k < s.size, s[4 * k].toNat = a) := sec ⟨p0, q0⟩
   have Q1 : Sec (∃ h : 4 * k + 1 < s.size, s[4 * k + 1].toNat = b) := sec ⟨p1, q1⟩
   have Q2 : Sec (∃ h : 4 * k + 2 < s.size, s[4 * k + 2].toNat = c) := sec ⟨p2, q2⟩
   have Q3 : Sec (∃ h : 4 * k + 3 < s.size, s[4 * k + 3].toNat = d) := sec ⟨p3, q3⟩
   clear p0 p1 p2 p3 q0 q1 q2 q3
   go_wp2_with fail
   refine wp_region_noPanic ?_
   refine wp_region_held_drew (S := fun _ => True) (by kernel_rfl) (trivial) (fun hld => ?_)
   refine Rg.tk (i := 0) rfl ?_
   try simp only [Act.put, Rg.s]
   refine Rg.tk (i := 1) rfl ?_
   try simp only [Act.put, Rg.s]
   refine Rg.tk (i := 2) rfl ?_
   try simp only [Act.put, Rg.s]
   refine Rg.tk (i := 3) rfl ?_
   try simp only [Act.put, Rg.s]
   refine Rg.tk (i := 4) rfl ?_ (hy := by intro wz hSw; refine run_index_op _ _ 9 Tryz.underlying9 s (4 * k) a (4 * (k : Int)) ?_ (by omega) Q0.out wz; exact ⟨_, _, rfl, rfl, rfl⟩)
   try simp only [Act.put, Rg.s]
   refine Rg.tk (i := 5) rfl ?_
   try simp only [Act.put, Rg.s]
   refine Rg.tk (i := 6) rfl ?_
   try simp only [Act.put, Rg.s]
   refine Rg.tk (i := 7) rfl ?_
   try simp only [Act.put, Rg.s]
   refine Rg.tk (i := 8) rfl ?_
   try simp only [Act.put, Rg.s]
   refine Rg.tk (i := 9) rfl ?_
   try simp only [Act.put, Rg.s]
   refine Rg.tk (i := 10) rfl ?_
   try simp only [Act.put, Rg.s]
   refine Rg.tk (i := 11) rfl ?_ (hy := by intro wz hSw; refine run_index_op _ _ 9 Tryz.underlying9 s (4 * k + 1) b (4 * (k : Int) + 1) ?_ (by omega) Q1.out wz; exact ⟨_, _, rfl, rfl, rfl⟩)
   try simp only [Act.put, Rg.s]
   refine Rg.tk (i := 12) rfl ?_
   try simp only [Act.put, Rg.s]
   refine Rg.tk (i := 13) rfl ?_
   try simp only [Act.put, Rg.s]
   refine Rg.tk (i := 14) rfl ?_
   try simp only [Act.put, Rg.s]
   refine Rg.tk (i := 15) rfl ?_
   try simp only [Act.put, Rg.s]
   refine Rg.tk (i := 16) rfl ?_
   try simp only [Act.put, Rg.s]
   refine Rg.tk (i := 17) rfl ?_
   try simp only [Act.put, Rg.s]
   refine Rg.tk (i := 18) rfl ?_
   try simp only [Act.put, Rg.s]
   refine Rg.tk (i := 19) rfl ?_ (hy := by intro wz hSw; refine run_index_op _ _ 9 Tryz.underlying9 s (4 * k + 2) c (4 * (k : Int) + 2) ?_ (by omega) Q2.out wz; exact ⟨_, _, rfl, rfl, rfl⟩)
   try simp only [Act.put, Rg.s]
   refine Rg.tk (i := 20) rfl ?_
   try simp only [Act.put, Rg.s]
   refine Rg.tk (i := 21) rfl ?_
   try simp only [Act.put, Rg.s]
   refine Rg.tk (i := 22) rfl ?_
   try simp only [Act.put, Rg.s]
   refine Rg.tk (i := 23) rfl ?_
   try simp only [Act.put, Rg.s]
   refine Rg.tk (i := 24) rfl ?_
   try simp only [Act.put, Rg.s]
   refine Rg.tk (i := 25) rfl ?_
   try simp only [Act.put, Rg.s]
   refine Rg.tk (i := 26) rfl ?_
   try simp only [Act.put, Rg.s]
   refine Rg.tk (i := 27) rfl ?_ (hy := by intro wz hSw; refine run_index_op _ _ 9 Tryz.underlying9 s (4 * k + 3) d (4 * (k : Int) + 3) ?_ (by omega) Q3.out wz; exact ⟨_, _, rfl, rfl, rfl⟩)
   try simp only [Act.put, Rg.s]
   refine Rg.tk (i := 28) rfl ?_
   try simp only [Act.put, Rg.s]
   refine Rg.tk (i := 29) rfl ?_
   try simp only [Act.put, Rg.s]
   refine Rg.tk (i := 30) rfl ?_
   try simp only [Act.put, Rg.s]
   refine Rg.rd (i := 31) rfl fun K hK => ?_
   go_simp
   refine hK.out _ _ ?_ (fun hld => ?_)
   ·trivial
   clear hK K
   try simp only [Act.put, Rg.s]
   refine wpAnyH_done (by kernel_rfl) ?_ _
   refine NoPanic.normal ?_
   go_wp2
   go_roundw
   case rel => exact ⟨k + 1, by omega, by go_num, by rw [O1.out, O2.out, O3.out]; exact HN, (hB.setCell (p := ⟨w.heap.size + 1, k, none⟩) (by simp) _).drew⟩
   case measure => simp [intOf]; omega
  ·have hk16 : k = 16 := by omega
   rw [hk16] at HR
   clear hk16
   go_wp2
   go_loopw [5, 6, 7] (fun i _ _ wr => ∃ k : Nat, 16 ≤ k ∧ k ≤ 64 ∧ i = .int .i64 k ∧ Hid (Row wr (w.heap.size + 1) 141 64 (schW g k)) ∧ Below (w.heap.size + 1) (w.alloc (.cells (za 64) 141)) wr) (fun i _ _ _ => 64 - (intOf i).toNat)
   case atStart => exact ⟨16, by omega, by omega, rfl, HR, hB⟩
   case round =>
    clear HR hB hk hlt
    obtain ⟨k, h16, hk, rfl, HR, hB⟩ := hrel
    by_cases hlt : k < 64
    ·obtain ⟨p, rfl⟩ : ∃ p, k = p + 16 := ⟨k - 16, by omega⟩
     obtain ⟨l, hl⟩ : ∃ l, schW g (p + 16) = l := ⟨_, rfl⟩
     have hll : l.length = p + 16 := by rw [← hl]; exact schW_length g _
     have hlb := fun j => getD_lt (l := l) (by rw [← hl]; exact schW_lt g HG.out _) j
     have hR := HR.out
     rw [hl] at hR
     have c0 := hR.cell (i := p) (by omega)
     have c1 := hR.cell (i := p + 1) (by omega)
     have c9 := hR.cell (i := p + 9) (by omega)
     have c14 := hR.cell (i := p + 14) (by omega)
     have cs := hR.cell (i := p + 16) (by omega)
     have hfr := hR.frozen (p + 16)
     have HN : Hid (Row (wr.setCell ⟨w.heap.size + 1, p + 16, none⟩ (.int .u32 ((l.getD p 0 + sg0 (l.getD (p + 1) 0) + l.getD (p + 9) 0 + sg1 (l.getD (p + 14) 0)) % 4294967296 : Nat))) (w.heap.size + 1) 141 64 (schW g (p + 16 + 1))) := hid (by
      have := Row.put hR ((l.getD p 0 + sg0 (l.getD (p + 1) 0) + l.getD (p + 9) 0 + sg1 (l.getD (p + 14) 0)) % 4294967296)
      rw [hll] at this
      rw [schW, hl, nextW, if_neg (by omega), show p + 16 - 16 = p by omega, show p + 16 - 15 = p + 1 by omega, show p + 16 - 7 = p + 9 by omega, show p + 16 - 2 = p + 14 by omega]
      exact this)
     have b0 := hlb p
     have b1 := hlb (p + 1)
     have b9 := hlb (p + 9)
     have b14 := hlb (p + 14)
     clear HR hl hll hlb hR
     obtain ⟨x0, hx0⟩ : ∃ x, l.getD p 0 = x := ⟨_, rfl⟩
     obtain ⟨x1, hx1⟩ : ∃ x, l.getD (p + 1) 0 = x := ⟨_, rfl⟩
     obtain ⟨x9, hx9⟩ : ∃ x, l.getD (p + 9) 0 = x := ⟨_, rfl⟩
     obtain ⟨x14, hx14⟩ : ∃ x, l.getD (p + 14) 0 = x := ⟨_, rfl⟩
     rw [hx0] at HN c0 b0
     rw [hx1] at HN c1 b1
     rw [hx9] at HN c9 b9
     rw [hx14] at HN c14 b14
     clear hx0 hx1 hx9 hx14
     have HT1 := hid (right_any x1 7 7 rfl b1 (by omega) (by omega))
     have HT2 := hid (right_any x1 18 18 rfl b1 (by omega) (by omega))
     have HT4 := hid (right_any x14 17 17 rfl b14 (by omega) (by omega))
     have HT5 := hid (right_any x14 19 19 rfl b14 (by omega) (by omega))
     have e1 := u32_xor_nat (turnN x1 7) (turnN x1 18) (turnN_lt 7 x1 b1) (turnN_lt 18 x1 b1)
     have e2 := u32_xor_nat (turnN x1 7 ^^^ turnN x1 18) (x1 / 8) (Nat.xor_lt_two_pow (n := 32) (turnN_lt 7 x1 b1) (turnN_lt 18 x1 b1)) (by omega)
     have e4 := u32_xor_nat (turnN x14 17) (turnN x14 19) (turnN_lt 17 x14 b14) (turnN_lt 19 x14 b14)
     have e5 := u32_xor_nat (turnN x14 17 ^^^ turnN x14 19) (x14 / 1024) (Nat.xor_lt_two_pow (n := 32) (turnN_lt 17 x14 b14) (turnN_lt 19 x14 b14)) (by omega)
     have q1 : turnN x1 7 ^^^ turnN x1 18 ^^^ (x1 / 8) = sg0 x1 := by unfold sg0; rw [shiftN_eq]
     have q2 : turnN x14 17 ^^^ turnN x14 19 ^^^ (x14 / 1024) = sg1 x14 := by unfold sg1; rw [shiftN_eq]
     rw [q1] at e2
     rw [q2] at e5
     have s0b := sg0_lt x1 b1
     have s1b := sg1_lt x14 b14
     obtain ⟨z0, hz0⟩ : ∃ y, sg0 x1 = y := ⟨_, rfl⟩
     obtain ⟨z1, hz1⟩ : ∃ y, sg1 x14 = y := ⟨_, rfl⟩
     rw [hz0] at HN e2 s0b
     rw [hz1] at HN e5 s1b
     clear hz0 hz1 q1 q2
     generalize turnN x1 7 ^^^ turnN x1 18 = y1 at e1 e2
     generalize turnN x14 17 ^^^ turnN x14 19 = y4 at e4 e5
     generalize turnN x1 7 = a1 at HT1 e1
     generalize turnN x1 18 = a2 at HT2 e1
     generalize turnN x14 17 = a4 at HT4 e4
     generalize turnN x14 19 = a5 at HT5 e4
     have E1 := sec e1
     have E2 := sec e2
     have E4 := sec e4
     have E5 := sec e5
     clear e1 e2 e4 e5
     have l0 : (0 : Int) ≤ (p : Int) + 1 := by omega
     have l1 : (p : Int) + 1 < 64 := by omega
     have l2 : (0 : Int) ≤ (p : Int) + 14 := by omega
     have l3 : (p : Int) + 14 < 64 := by omega
     have l4 : ((p : Int) + 14).toNat = p + 14 := by omega
     have l5 : ((p : Int) + 1).toNat = p + 1 := by omega
     have w1 : IntKind.i64.wrap ((p : Int) + 16 - 15) = (p : Int) + 1 := by rw [IntKind.wrap_i64]; omega
     have w14 : IntKind.i64.wrap ((p : Int) + 16 - 2) = (p : Int) + 14 := by rw [IntKind.wrap_i64]; omega
     go_wp2_with fail
     go_quiet (fail)
     obtain ⟨n1, rfl⟩ : ∃ n, n = nq := ⟨_, rfl⟩
     clear l0 l1 l2 l3 l4 l5 w1 w14 c1 c14
     have e1 := E1.out
     have e2 := E2.out
     have e4 := E4.out
     have e5 := E5.out
     rw [show ((x1 / 8 : Nat) : Int) = (x1 : Int) / 8 by omega] at e2
     rw [show ((x14 / 1024 : Nat) : Int) = (x14 : Int) / 1024 by omega] at e5
     clear E1 E2 E4 E5
     go_wp2_with fail
     (with_reducible refine (HT1.out _).mono ?_)
     rintro e w3 ⟨rfl, rfl⟩
     go_wp2_with fail
     (with_reducible refine (HT2.out _).mono ?_)
     rintro e w3 ⟨rfl, rfl⟩
     go_wp2_with fail
     (with_reducible refine (HT4.out _).mono ?_)
     rintro e w3 ⟨rfl, rfl⟩
     go_wp2_with fail
     (with_reducible refine (HT5.out _).mono ?_)
     rintro e w3 ⟨rfl, rfl⟩
     go_wp2_with fail
     clear HT1 HT2 HT4 HT5 e1 e2 e4 e5
     have l0 : (0 : Int) ≤ (p : Int) := by omega
     have l1 : (p : Int) < 64 := by omega
     have l2 : (0 : Int) ≤ (p : Int) + 9 := by omega
     have l3 : (p : Int) + 9 < 64 := by omega
     have l4 : ((p : Int) + 9).toNat = p + 9 := by omega
     have w1 : IntKind.i64.wrap (p : Int) = (p : Int) := by rw [IntKind.wrap_i64]; omega
     have w9 : IntKind.i64.wrap ((p : Int) + 16 - 7) = (p : Int) + 9 := by rw [IntKind.wrap_i64]; omega
     have l6 : (0 : Int) ≤ (p : Int) + 16 := by omega
     have l7 : (p : Int) + 16 < 64 := by omega
     have l8 : ((p : Int) + 16).toNat = p + 16 := by omega
     have HV : Sec (((((x0 : Int) + z0) % 4294967296 + x9) % 4294967296 + z1) % 4294967296 = ((x0 + z0 + x9 + z1) % 4294967296 : Nat)) := sec (by omega)
     refine wp_region_noPanic ?_
     refine wp_region_held_drew (S := fun w' => w'.cell? ⟨w.heap.size + 1, p, none⟩ = some (.int .u32 (x0 : Nat)) ∧ w'.cell? ⟨w.heap.size + 1, p + 9, none⟩ = some (.int .u32 (x9 : Nat))) (by kernel_rfl) (⟨c0, c9⟩) (fun hld => ?_)
     refine Rg.tk (i := 0) rfl ?_
     try simp only [Act.put, Rg.s]
     refine Rg.tk (i := 1) rfl ?_
     try simp only [Act.put, Rg.s]
     refine Rg.tk (i := 2) rfl ?_
     try simp only [Act.put, Rg.s]
     refine Rg.tk (i := 3) rfl ?_
     try simp only [Act.put, Rg.s]
     refine Rg.tk (i := 4) rfl ?_
     try simp only [Act.put, Rg.s]
     refine Rg.tk (i := 5) rfl ?_
     try simp only [Act.put, Rg.s]
     refine Rg.tk (i := 6) rfl ?_
     try simp only [Act.put, Rg.s]
     refine Rg.tk (i := 7) rfl ?_
     try simp only [Act.put, Rg.s]
     refine Rg.tk (i := 8) rfl ?_
     try simp only [Act.put, Rg.s]
     refine Rg.tk (i := 9) rfl ?_
     try simp only [Act.put, Rg.s]
     refine Rg.tk (i := 10) rfl ?_
     try simp only [Act.put, Rg.s]
     refine Rg.tk (i := 11) rfl ?_
     try simp only [Act.put, Rg.s]
     refine Rg.tk (i := 12) rfl ?_
     try simp only [Act.put, Rg.s]
     refine Rg.tk (i := 13) rfl ?_
     try simp only [Act.put, Rg.s]
     refine Rg.tk (i := 14) rfl ?_
     try simp only [Act.put, Rg.s]
     refine Rg.rd (i := 15) rfl fun K hK => ?_
     go_simp
     refine hK.out _ _ ?_ (fun hld => ?_)
     ·exact ⟨by rw [World.cell?_setCell_other _ _ _ _ (by simp; try omega)]; exact c0, by rw [World.cell?_setCell_other _ _ _ _ (by simp; try omega)]; exact c9⟩
     clear hK K
     try simp only [Act.put, Rg.s]
     refine wpAnyH_done (by kernel_rfl) ?_ _
     refine NoPanic.normal ?_
     clear l0 l1 l2 l3 l4 l6 l7 l8 w1 w9 hld
     go_wp2
     go_roundw
     case rel => exact ⟨p + 16 + 1, by omega, by omega, by go_num, hid (by rw [HV.out]; exact HN.out), (below_drewN hB (n1 + 1)).setCell (p := ⟨w.heap.size + 1, p + 16, none⟩) (by simp) _⟩
     case measure => simp [intOf]; omega
    ·obtain rfl : k = 64 := by omega
     have HG2 := hid (ac_of (schW g 64) HR.out (schW_length g 64) (fun _ _ => rfl))
     have HB0 : Hid (wr.heap[w.heap.size]? = some (.cells (za 64) 141 (0, 0))) := hid (by rw [hB.block _ (by simp)]; exact heap_alloc_new _ _)
     obtain ⟨l, hl⟩ : ∃ l, schW g 64 = l := ⟨_, rfl⟩
     have hll : l.length = 64 := by rw [← hl]; exact schW_length g _
     rw [hl] at HG2
     have HLs := sec hl
     clear HR hl
     go_wp2_with (first | (refine wpList_load_row rfl _ _ rfl (w.heap.size + 1) rfl 141 (ac l) (0, 0) _ HG2.out Tryz.underlying141 rfl (by rw [ac_size, hll]; exact info_64) ?_) | (refine wpList_store_rowTo rfl 141 _ _ rfl rfl _ (ac l) rfl rfl 141 (za 64) HB0.out (by rw [ac_size, hll]; exact info_64) (by rw [ac_size, hll, za, ac_size]; simp) (ac_one _) ?_))
     exact bodyPost_ret (results_cell_row rfl _ _ w.heap.size 141 (ac l) (0, 0) _ rfl (setRow_heap _ _ _ _ _ _ HB0.out) Tryz.underlying141 rfl (by rw [ac_size, hll]; exact info_64)) rfl ⟨by rw [HLs.out], below_row (((Below.refl w.heap.size w).alloc (Nat.le_refl _) _).trans (hB.mono (by simp))) (Nat.le_refl _) _⟩
end Sm
end
end Go.Proofs.YtooklabipgmolaaGreatDoor
