/-
  Contracts of sum.right, sum.lay, sum.end.
-/
import Derived.Test.YtgpnhdnncfpbcaaDoorShaB
import Derived.Test.YtgpnhdnncfpbcaaDoorBu
import Derived.Laws.BitsAllLaws
import Derived.IntWalk
import Derived.Laws.Rows
import Derived.Laws.NewBlocks
namespace Go.Proofs.YtgpnhdnncfpbcaaDoor
open Go.RowKit

namespace Sm
open Sh
theorem ret_u32 {a b : Int} (h : a = b) : Ending.returned (.int .u32 a) = .returned (.int .u32 b) := by rw [h]
theorem rot_and (n : Nat) (h1 : 1 ≤ n) (h2 : n ≤ 31) : bits .and .u64 (IntKind.u64.wrap (-(n : Int))) 31 = 32 - (n : Int) := by
  have e : IntKind.u64.wrap (-(n : Int)) = ((18446744073709551616 - n : Nat) : Int) := by rw [IntKind.wrap_u64]; omega
  rw [e, show (31 : Int) = ((31 : Nat) : Int) from rfl, u64_and_nat _ _ (by omega) (by omega), nat_mask5]
  omega
/-- shifted left and right, and joined -/
theorem rot_or (x n : Nat) (hx : x < 4294967296) (h2 : n ≤ 31) :
    bits .or .u32 ((x : Int) * 2 ^ (32 - n) % 4294967296) ((x : Int) / 2 ^ (32 - (32 - n))) = (turnN x n : Nat) := by
  have e0 : 32 - (32 - n) = n := by omega
  have hp : 2 ^ n * 2 ^ (32 - n) = 4294967296 := by rw [← Nat.pow_add, show n + (32 - n) = 32 by omega]
  have e1 : x * 2 ^ (32 - n) % 4294967296 = x % 2 ^ n * 2 ^ (32 - n) := by rw [← hp, Nat.mul_mod_mul_right]
  have hb : x / 2 ^ n < 2 ^ (32 - n) := by
    rw [Nat.div_lt_iff_lt_mul (Nat.pow_pos (by omega)), Nat.mul_comm, hp]; exact hx
  have ha : x * 2 ^ (32 - n) % 4294967296 < 4294967296 := Nat.mod_lt _ (by omega)
  have c1 : ((x : Int) * 2 ^ (32 - n) % 4294967296) = ((x * 2 ^ (32 - n) % 4294967296 : Nat) : Int) := by simp
  have c2 : ((x : Int) / 2 ^ n) = ((x / 2 ^ n : Nat) : Int) := by simp
  rw [e0, c1, c2, u32_or_nat _ _ ha (Nat.lt_of_le_of_lt (Nat.div_le_self _ _) hx), e1, nat_join (32 - n) _ _ (Nat.mul_mod_left _ _) hb, turnN_eq n x hx (by omega), Nat.add_comm]

set_option maxHeartbeats 400000 in
theorem rot_any (x n : Nat) (hx : x < 4294967296) (h1 : 1 ≤ n) (h2 : n ≤ 31) (w : World) :
    Calls Tryd.prog 45 #[.int .u32 x, .int .i64 (-(n : Int))] w fun e w' => e = .returned (.int .u32 (turnN x n : Nat)) ∧ w = w' := by
  have hA := rot_and n h1 h2
  have HO := Lib.hid (rot_or x n hx h2)
  go_enter Tryd.func45, Tryd.ntmps45
  go_wp2
  go_ret
  exact ⟨ret_u32 HO.out, rfl⟩

theorem right_any (x n : Nat) (N : Int) (hN : N = n) (hx : x < 4294967296) (h1 : 1 ≤ n) (h2 : n ≤ 31) (w : World) :
    Calls Tryd.prog 39 #[.int .u32 x, .int .i64 N] w fun e w' => e = .returned (.int .u32 (turnN x n : Nat)) ∧ w = w' := by
  subst hN
  have HR := Lib.hid (rot_any x n hx h1 h2)
  go_enter Tryd.func39, Tryd.ntmps39
  go_wp2_with (go_at_call 45; refine (HR.out _).mono ?_; rintro e w1 ⟨rfl, rfl⟩)
  go_ret
  exact ⟨rfl, rfl⟩

/-- a number's byte at a place, the upper one first -/
def upB (m n k : Nat) : Nat := n / 256 ^ (m - 1 - k) % 256
/-- the world behind k bytes that were laid -/
def laidN (w : World) (g off m n : Nat) : Nat → World
  | 0 => w
  | k + 1 => (laidN w g off m n k).setCell ⟨g, off + k, none⟩ (.int .u8 (upB m n k : Nat))
theorem laidN_row {w : World} {g off m n N : Nat} {t : TypeId} {f : Nat → Value} (h : w.rowIs g t N f) : ∀ k, (laidN w g off m n k).rowIs g t N (fun j => if off ≤ j ∧ j < off + k then .int .u8 (upB m n (j - off) : Nat) else f j)
  | 0 => h.congr (fun j _ => by rw [if_neg (by omega)])
  | k + 1 => ((laidN_row h k).set (off + k) _).congr (fun j _ => by
    by_cases e : j = off + k
    · subst e; simp
    · by_cases e2 : off ≤ j ∧ j < off + k
      · rw [if_neg e, if_pos e2, if_pos (by omega)]
      · rw [if_neg e, if_neg e2, if_neg (by omega)])
theorem laidN_below {B : Nat} {w0 w : World} (h : Below B w0 w) {g off m n : Nat} (hg : B ≤ g) : ∀ k, Below B w0 (laidN w g off m n k)
  | 0 => h
  | k + 1 => (laidN_below h hg k).setCell (p := ⟨g, off + k, none⟩) hg _
theorem laidN_block {w : World} {g off m n b : Nat} (hb : b ≠ g) : ∀ k, (laidN w g off m n k).heap[b]? = w.heap[b]?
  | 0 => rfl
  | k + 1 => (heap_setCell_other _ ⟨g, off + k, none⟩ _ _ hb).trans (laidN_block hb k)
theorem laidN_size {w : World} {g off m n : Nat} : ∀ k, (laidN w g off m n k).heap.size = w.heap.size
  | 0 => rfl
  | k + 1 => by
    rw [laidN]
    simp [laidN_size k]

set_option maxHeartbeats 1000000 in
theorem lay_any (g off m c n N : Nat) (t : TypeId) (f : Nat → Value) (w : World) (h : w.rowIs g t N f) (hm : off + m ≤ N) (hm8 : m ≤ 8) :
    Calls Tryd.prog 20 #[.slice (some ⟨g, off, none⟩) m c, .int .u64 n] w fun e w' => e = .returned (.tuple #[]) ∧ w' = laidN w g off m n m := by
  have HROW := Lib.hid (fun k => laidN_row (off := off) (m := m) (n := n) h k)
  clear h
  go_enter Tryd.func20, Tryd.ntmps20
  go_wp2
  go_loopw [7] (fun i wr => ∃ k : Nat, k ≤ m ∧ i = .int .i64 k ∧ wr = laidN w g off m n k) (fun i _ => m - (intOf i).toNat)
  case atStart => exact ⟨0, Nat.zero_le _, rfl, rfl⟩
  case round =>
    obtain ⟨k, hk, rfl, rfl⟩ := hrel
    by_cases hlt : k < m
    · have hr := HROW.out k
      have hc := hr.cell (i := off + k) (by omega)
      rw [if_neg (by omega)] at hc
      have hf := hr.frozen (off + k)
      clear hr
      have HN : Hid ((laidN w g off m n k).setCell ⟨g, off + k, none⟩ (.int .u8 (upB m n k : Nat)) = laidN w g off m n (k + 1)) := Lib.hid rfl
      obtain ⟨wk, hwk⟩ : ∃ wk, laidN w g off m n k = wk := ⟨_, rfl⟩
      rw [hwk] at hc hf HN ⊢
      clear hwk
      go_wp2
      have HE : ((n : Int) / 2 ^ (8 * (m - 1 - k)) % 256) = (upB m n k : Nat) := by
        unfold upB
        rw [show 2 ^ (8 * (m - 1 - k)) = ((256 ^ (m - 1 - k) : Nat) : Int) by rw [Int.natCast_pow, show ((256 : Nat) : Int) = 2 ^ 8 from rfl, ← Int.pow_mul]]
        simp
      go_roundw
      case rel => exact ⟨k + 1, by omega, by go_num, by rw [HE, HN.out]⟩
      case measure => simp [intOf]; omega
    · obtain rfl : k = m := by omega
      have HW : Hid (laidN w g off k n k = laidN w g off k n k) := Lib.hid rfl
      obtain ⟨wk, hwk⟩ : ∃ wk, laidN w g off k n k = wk := ⟨_, rfl⟩
      have HWK := Lib.hid hwk
      rw [hwk]
      clear HROW hwk HW
      go_wp2
      go_end0
      exact ⟨rfl, HWK.out.symm⟩

/-- what stands behind a text of n bytes -/
def endL (n : Nat) : List UInt8 := [128] ++ List.replicate (zerosN n) 0 ++ beK (8 * n) 8
theorem fillL_end (l : List UInt8) : fillL l = l ++ endL l.length := by simp [fillL, fillK, endL]
theorem endL_length (n : Nat) : (endL n).length = zerosN n + 9 := by simp [endL, beK_length]
theorem beK_getD (n j : Nat) (h : j < 8) : ((beK n 8).getD j 0).toNat = upB 8 n j := by
  unfold upB
  have : (beK n 8).getD j 0 = UInt8.ofNat (n / 256 ^ (7 - j) % 256) := by
    unfold beK
    rw [List.getD, List.getElem?_reverse (by simpa using h)]
    simp only [List.length_map, List.length_range, List.getElem?_map]
    rw [List.getElem?_range (by omega)]
    simp only [Option.map_some, Option.getD_some]
  rw [this]
  simp
theorem endL_getD (n j : Nat) (h : j < zerosN n + 9) : ((endL n).getD j 0).toNat = if j = 0 then 128 else if 1 + zerosN n ≤ j then upB 8 (8 * n) (j - (1 + zerosN n)) else 0 := by
  unfold endL
  by_cases h0 : j = 0
  · subst h0; simp
  · rw [if_neg h0]
    by_cases h1 : 1 + zerosN n ≤ j
    · rw [if_pos h1, List.getD, List.getElem?_append_right (by simp; omega)]
      rw [← beK_getD _ _ (by omega), List.getD]
      congr 3
      simp
      omega
    · rw [if_neg h1, List.getD, List.getElem?_append_left (by simp; omega), List.getElem?_append_right (by simp; omega)]
      simp only [List.length_singleton, List.getElem?_replicate]
      rw [if_pos (by omega)]
      rfl

set_option maxHeartbeats 1000000 in
theorem end_any (n : Nat) (hn : n ≤ 1000000) (w : World) :
    Calls Tryd.prog 19 #[.int .i64 n] w fun e w' => e = .returned (.string ⟨(endL n).toArray⟩) ∧ Below w.heap.size w w' := by
  have hz : zerosN n < 64 := Nat.mod_lt _ (by omega)
  obtain ⟨z, hze⟩ : ∃ z, zerosN n = z := ⟨_, rfl⟩
  obtain ⟨m, hm⟩ : ∃ m, z + 9 = m := ⟨_, rfl⟩
  have hmk := run_make_row' (P := Tryd.prog) 38 5 (.int .u8 0) 1 Tryd.underlying38 Bu.info_byte rfl .i64 .i64 m (by omega) (by omega)
  have e : ((m : Nat) : Int) = 1 + (z : Int) + 8 := by omega
  rw [e] at hmk
  have hr : (w.alloc (.cells ((madeCells #[Value.int IntKind.u8 0] m).setIfInBounds 0 (.int .u8 128)) 5)).rowIs w.heap.size 5 m (fun j => if j = 0 then .int .u8 128 else .int .u8 0) := by
    have h0 := (World.rowIs_made w (.int .u8 0) m 5).set 0 (.int .u8 128)
    rw [World.setCell_alloc_at _ _ _ _ _ rfl] at h0
    exact h0
  have hm8 : m - (1 + z) = 8 := by omega
  have hc0 := (World.rowIs_made w (.int .u8 0) m 5).cell (i := 0) (by omega)
  have hf0 := (World.rowIs_made w (.int .u8 0) m 5).frozen 0
  have HL := lay_any w.heap.size (1 + z) (m - (1 + z)) (m - (1 + z)) (8 * n) m 5 _ _ hr (by omega) (by omega)
  rw [show ((8 * n : Nat) : Int) = 8 * (n : Int) by omega] at HL
  have HL := Lib.hid HL
  have hR := laidN_row (off := 1 + z) (m := m - (1 + z)) (n := 8 * n) hr (m - (1 + z))
  have hB := laidN_below (g := w.heap.size) (off := 1 + z) (m := m - (1 + z)) (n := 8 * n) ((Below.refl w.heap.size w).alloc (Nat.le_refl _) (.cells ((madeCells #[Value.int IntKind.u8 0] m).setIfInBounds 0 (.int .u8 128)) 5)) (Nat.le_refl _) (m - (1 + z))
  obtain ⟨W, hW⟩ : ∃ W, laidN (w.alloc (.cells ((madeCells #[Value.int IntKind.u8 0] m).setIfInBounds 0 (.int .u8 128)) 5)) w.heap.size (1 + z) (m - (1 + z)) (8 * n) (m - (1 + z)) = W := ⟨_, rfl⟩
  rw [hW] at hR hB HL
  have hI : IsBs W (some ⟨w.heap.size, 0, none⟩) m m (endL n) := by
    refine IsBs.ofRow (endL n) (by unfold maxLen; omega) hR (by rw [endL_length, hze, hm]) (fun j hj => ?_)
    rw [endL_getD n j (by omega), hze, hm8]
    by_cases h0 : j = 0
    · subst h0; simp
    · by_cases h1 : 1 + z ≤ j
      · rw [if_pos ⟨h1, by omega⟩, if_neg h0, if_pos h1]
      · rw [if_neg (by omega), if_neg h0, if_neg h0, if_neg h1]; rfl
  have hcv := conv_bs hI
  have hzi : (119 - (n : Int) % 64) % 64 = z := by unfold zerosN at hze; omega
  clear hr e hR hI hW hze hm8
  go_enter Tryd.func19, Tryd.ntmps19
  go_wp2_with fail
  refine HL.out.mono ?_
  rintro e w1 ⟨rfl, rfl⟩
  clear hmk hc0 hf0
  go_wp2
  go_ret
  exact ⟨rfl, hB⟩
end Sm
end Go.Proofs.YtgpnhdnncfpbcaaDoor
