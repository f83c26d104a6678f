/-
  Plain facts on numbers in bytes, the lowest first: no program is named here.
-/
import Derived.Laws.Bits64b
import Derived.WalkKit
import Derived.Test.YtoeblhdddehemaaDoorRows
import Derived.WalkSpells
import Derived.WalkLawsBesides
import Derived.Lib.Hide
import Derived.Laws.IdiomStrings
import Derived.LoopN
import Derived.Test.YtoeblhdddehemaaDoorMg1
import Derived.Test.YtoeblhdddehemaaDoorMg4
import Derived.Lib.BufferWrite
import Derived.Lib.SlBuf
import Derived.Laws.ResultCell
import Derived.Lib.Bytealg
import Derived.Laws.Externs
import Derived.Test.YtoeblhdddehemaaDoorMg5
import Derived.Laws.StructEq
import Derived.ChangeKeysEq
import Derived.ProofKit
import Derived.SliceStrings
import Derived.Deep.DeepCutAuto
import Derived.LaidMore
import Derived.OpenShut
import Derived.ShutString
import Derived.Stop.Joined
namespace Go.Proofs.YtoeblhdddehemaaDoor
namespace WideP

/-- the number of a list of bytes, the lowest first -/
def valL (l : List UInt8) : Nat := l.foldr (fun b a => b.toNat + 256 * a) 0
/-- n's lowest k bytes -/
def numL (n k : Nat) : List UInt8 := (List.range k).map fun i => UInt8.ofNat (n / 256 ^ i)

theorem valL_nil : valL [] = 0 := rfl
theorem valL_cons (b : UInt8) (l : List UInt8) : valL (b :: l) = b.toNat + 256 * valL l := rfl
theorem valL_lt (l : List UInt8) : valL l < 256 ^ l.length := by
  induction l with
  | nil => simp [valL]
  | cons b l ih =>
    rw [valL_cons, List.length_cons, Nat.pow_succ]
    have := b.toNat_lt
    omega
theorem valL_snoc (l : List UInt8) (b : UInt8) : valL (l ++ [b]) = valL l + b.toNat * 256 ^ l.length := by
  induction l with
  | nil => simp [valL]
  | cons c l ih =>
    rw [List.cons_append, valL_cons, valL_cons, ih, List.length_cons, Nat.pow_succ, Nat.mul_add]
    have : 256 * (b.toNat * 256 ^ l.length) = b.toNat * (256 ^ l.length * 256) := by
      rw [Nat.mul_comm 256, Nat.mul_assoc]
    omega
theorem pow8 (k : Nat) : 2 ^ (8 * k) = 256 ^ k := by
  rw [Nat.pow_mul]
theorem pow_le8 (k : Nat) (h : k ≤ 8) : 256 ^ k ≤ 18446744073709551616 := by
  have : (256 : Nat) ^ k ≤ 256 ^ 8 := Nat.pow_le_pow_right (by omega) h
  simpa using this
theorem valL_lt64 (l : List UInt8) (h : l.length ≤ 8) : valL l < 18446744073709551616 :=
  Nat.lt_of_lt_of_le (valL_lt l) (pow_le8 _ h)

theorem numL_length (n k : Nat) : (numL n k).length = k := by simp [numL]
theorem numL_zero (n : Nat) : numL n 0 = [] := rfl
theorem numL_snoc (n k : Nat) : numL n (k + 1) = numL n k ++ [UInt8.ofNat (n / 256 ^ k)] := by
  simp [numL, List.range_succ]
theorem numL_succ (n k : Nat) : numL n (k + 1) = UInt8.ofNat n :: numL (n / 256) k := by
  simp only [numL, List.range_succ_eq_map, List.map_cons, List.map_map]
  congr 1
  · simp
  · apply List.map_congr_left
    intro i _
    simp only [Function.comp]
    rw [Nat.pow_succ, Nat.div_div_eq_div_mul, Nat.mul_comm]
theorem numL_take (n k m : Nat) (h : m ≤ k) : (numL n k).take m = numL n m := by
  simp only [numL, ← List.map_take, List.take_range, Nat.min_eq_left h]

theorem valL_numL (n k : Nat) : valL (numL n k) = n % 256 ^ k := by
  induction k generalizing n with
  | zero => simp [numL, valL, Nat.mod_one]
  | succ k ih =>
    rw [numL_succ, valL_cons, ih, Nat.pow_succ, Nat.mul_comm (256 ^ k) 256, Nat.mod_mul]
    simp

/-- a byte or'ed above what is less than its place -/
theorem or_shl (l : List UInt8) (b : UInt8) (h : l.length < 8) :
    bits .or .u64 (valL l : Int) (IntKind.u64.wrap (IntKind.u64.wrap (b.toNat : Int) * 2 ^ (8 * l.length))) = (valL (l ++ [b]) : Int) := by
  have hb := b.toNat_lt
  have hl := valL_lt l
  have hp : 256 ^ l.length * 256 ≤ 18446744073709551616 := by
    rw [← Nat.pow_succ]; exact pow_le8 _ (by omega)
  have hm : b.toNat * 256 ^ l.length < 18446744073709551616 := by
    have : b.toNat * 256 ^ l.length < 256 * 256 ^ l.length := Nat.mul_lt_mul_of_pos_right hb (Nat.pow_pos (by omega))
    omega
  have e1 : IntKind.u64.wrap (b.toNat : Int) = (b.toNat : Int) := by rw [IntKind.wrap_u64]; omega
  have e2 : ((b.toNat : Int) * 2 ^ (8 * l.length)) = ((b.toNat * 256 ^ l.length : Nat) : Int) := by
    rw [Int.natCast_mul, ← pow8]; simp
  rw [e1, e2]
  have e3 : IntKind.u64.wrap ((b.toNat * 256 ^ l.length : Nat) : Int) = ((b.toNat * 256 ^ l.length : Nat) : Int) := by
    rw [IntKind.wrap_u64]; omega
  rw [e3, bits_or_u64_nat _ _ (by omega) hm, valL_snoc]
  congr 1
  rw [Nat.or_comm, ← pow8, Nat.mul_comm b.toNat, ← Nat.two_pow_add_eq_or_of_lt (by rw [pow8]; exact hl)]
  omega

/-- a byte times its place's worth, added -/
theorem add_mul (l : List UInt8) (b : UInt8) (h : l.length < 8) :
    IntKind.u64.wrap ((valL l : Int) + IntKind.u64.wrap ((256 ^ l.length : Int) % 18446744073709551616 * IntKind.u64.wrap (b.toNat : Int))) = (valL (l ++ [b]) : Int) := by
  have hb := b.toNat_lt
  have hl := valL_lt64 (l ++ [b]) (by simp; omega)
  have hp : 256 ^ l.length * 256 ≤ 18446744073709551616 := by
    rw [← Nat.pow_succ]; exact pow_le8 _ (by omega)
  have hpos : 0 < 256 ^ l.length := Nat.pow_pos (by omega)
  have e1 : IntKind.u64.wrap (b.toNat : Int) = (b.toNat : Int) := by rw [IntKind.wrap_u64]; omega
  have e2 : ((256 : Int) ^ l.length) = ((256 ^ l.length : Nat) : Int) := by simp
  rw [valL_snoc] at hl ⊢
  rw [e1, e2]
  have e3 : ((256 ^ l.length : Nat) : Int) % 18446744073709551616 = ((256 ^ l.length : Nat) : Int) := by omega
  have e4 : ((256 ^ l.length : Nat) : Int) * (b.toNat : Int) = ((b.toNat * 256 ^ l.length : Nat) : Int) := by
    rw [Int.natCast_mul, Int.mul_comm]
  rw [e3, e4, IntKind.wrap_u64, IntKind.wrap_u64]
  generalize b.toNat * 256 ^ l.length = x at *
  omega
theorem pow_step (k : Nat) : IntKind.u64.wrap ((256 ^ k : Int) % 18446744073709551616 * 256) = ((256 ^ (k + 1) % 18446744073709551616 : Nat) : Int) := by
  have e2 : ((256 : Int) ^ k) = ((256 ^ k : Nat) : Int) := by simp
  rw [e2, IntKind.wrap_u64, Nat.pow_succ]
  generalize 256 ^ k = x at *
  omega
/-- the byte that the plain answer lays, and what is left of the number -/
theorem byte_step (n j : Nat) : UInt8.ofNat (((n : Int) / 256 ^ j).tmod 256 % 256).toNat = UInt8.ofNat (n / 256 ^ j) := by
  have e : (n : Int) / 256 ^ j = ((n / 256 ^ j : Nat) : Int) := by simp
  rw [e]
  generalize n / 256 ^ j = x
  rw [Int.tmod_eq_emod_of_nonneg (by omega)]
  have : (((x : Int) % 256 % 256).toNat) = x % 256 := by omega
  rw [this]
  apply UInt8.toNat_inj.1
  simp
theorem div_step (n j : Nat) (hn : n < 2 ^ 64) : IntKind.u64.wrap (((n : Int) / 256 ^ j).tdiv 256) = ((n / 256 ^ (j + 1) : Nat) : Int) := by
  have e : (n : Int) / 256 ^ j = ((n / 256 ^ j : Nat) : Int) := by simp
  have hx : n / 256 ^ j < 2 ^ 64 := Nat.lt_of_le_of_lt (Nat.div_le_self _ _) hn
  rw [e, Nat.pow_succ, ← Nat.div_div_eq_div_mul]
  generalize n / 256 ^ j = x at *
  rw [Int.tdiv_eq_ediv_of_nonneg (by omega), IntKind.wrap_u64]
  omega
theorem ba_append (a b : List UInt8) : (⟨a.toArray⟩ : ByteArray) ++ ⟨b.toArray⟩ = ⟨(a ++ b).toArray⟩ := by
  apply ByteArray.ext
  simp
theorem ba_snoc (n j : Nat) : (⟨(numL n j).toArray⟩ : ByteArray) ++ ⟨#[UInt8.ofNat (((n : Int) / 256 ^ j).tmod 256 % 256).toNat]⟩ = ⟨(numL n (j + 1)).toArray⟩ := by
  rw [byte_step, numL_snoc]
  exact ba_append _ [_]

end WideP
end Go.Proofs.YtoeblhdddehemaaDoor

/-
  Contracts of wide.Num, wide.Val and the plain answers' Num, Val, Low, High.
-/
namespace Go.Proofs.YtoeblhdddehemaaDoor
open Go.RowKit WideP

theorem ret_u64 {a b : Nat} (h : a = b) : Ending.returned (.int .u64 a) = .returned (.int .u64 b) := by rw [h]
theorem take_snoc (s : ByteArray) (k : Nat) (h : k < s.size) : s.data.toList.take (k + 1) = s.data.toList.take k ++ [s[k]] := by
  rw [List.take_succ_eq_append_getElem (by simpa using h)]; rfl

theorem numL_get (n k j : Nat) (h : j < (numL n k).length) : ((numL n k)[j].toNat : Int) = (n : Int) / (256 ^ j : Nat) % 256 := by
  simp only [numL, List.getElem_map, List.getElem_range]
  simp

/-- how many bytes Num lays -/
def clampW (k : Int) : Nat := if k ≤ 0 then 0 else if k ≤ 8 then k.toNat else 8

end Go.Proofs.YtoeblhdddehemaaDoor

/-
  Contracts of the plain answers' Num, Val, Text, Low, High.
-/
namespace Go.Proofs.YtoeblhdddehemaaDoor
open Go.RowKit WideP

/-- one byte as a text -/
theorem conv_one (w : World) (n : Int) :
    Sem.run Tryd.prog (convert 42 9 (Value.slice (some ⟨w.heap.size, 0, none⟩) 1 1)) (w.alloc (.cells #[.int .u8 n] 5))
    = .ok (.string ⟨#[UInt8.ofNat n.toNat]⟩) (w.alloc (.cells #[.int .u8 n] 5)) := by
  have h := run_convert_bytes_arg (P := Tryd.prog) (w.alloc (.cells #[.int .u8 n] 5)) 42 5 Tryd.underlying42 Tryd.underlying5 w.heap.size 0 1 1 [n] rfl
    (fun i hi => by
      obtain rfl : i = 0 := by omega
      simp [World.cell?_alloc_mark]) 9 Tryd.underlying9
  rw [h]
  rfl

end Go.Proofs.YtoeblhdddehemaaDoor

/-
  Contracts of wide.Texts and of what it lays texts with; of the plain answers' Text, Low, High.
-/
namespace Go.Proofs.YtoeblhdddehemaaDoor
open Go.RowKit WideP

namespace Tx
/-- texts within a text -/
def textsL (xs : List ByteArray) : List UInt8 := xs.flatMap fun x => numL x.size 4 ++ x.data.toList
theorem textsL_snoc (xs : List ByteArray) (x : ByteArray) : textsL (xs ++ [x]) = textsL xs ++ (numL x.size 4 ++ x.data.toList) := by simp [textsL]

/-- what holds at the head of a round of Texts: k texts are laid -/
def Laid (w : World) (xs : List ByteArray) (k : Nat) (wr : World) : Prop :=
  Bu.Is w.heap.size w.heap.size (Lib.byteCells (textsL (xs.take k))) wr ∧ wr.heap[w.heap.size + 1]? = some (.cells #[.pointer (some ⟨w.heap.size, 0, none⟩)] 91 (0, 0)) ∧ Below w.heap.size w wr

theorem heap_new (w : World) (o : Obj) : (w.alloc o).heap[w.heap.size]? = some o := by
  show (w.heap.push o)[w.heap.size]? = some o
  simp
theorem heap_new_at {w : World} {n : Nat} (o : Obj) (h : n = w.heap.size) : (w.alloc o).heap[n]? = some o := by
  subst h; exact heap_new w o
theorem Laid.start (w : World) (xs : List ByteArray) :
    Laid w xs 0 ((w.alloc (.cells #[.pointer none, .slice none 0 0] 93)).alloc (.cells #[.pointer (some ⟨w.heap.size, 0, none⟩)] 91)) := by
  refine ⟨?_, ?_, ((Below.refl _ _).alloc (Nat.le_refl _) _).alloc (by simp) _⟩
  · exact Bu.fresh (Nat.le_refl _) ((Lib.alloc_old _ _ _ (by simp)).trans (heap_new _ _))
  · exact heap_new_at _ (by simp)

theorem textsL_take (xs : List ByteArray) (k : Nat) (h : k < xs.length) : textsL (xs.take (k + 1)) = textsL (xs.take k) ++ (numL (xs.getD k ByteArray.empty).size 4 ++ (xs.getD k ByteArray.empty).data.toList) := by
  rw [List.take_succ_eq_append_getElem h, textsL_snoc]
  simp [List.getD, h]
theorem textsL_take_le (xs : List ByteArray) (k : Nat) : (textsL (xs.take k)).length ≤ (textsL xs).length := by
  conv => rhs; rw [← List.take_append_drop k xs]
  unfold textsL
  rw [List.flatMap_append, List.length_append]
  exact Nat.le_add_right _ _

/-- a round's end -/
theorem Laid.next {w wr w1 w2 : World} {xs : List ByteArray} {k : Nat} (h : Laid w xs k wr) (hk : k < xs.length) (x : ByteArray) (hx : xs.getD k ByteArray.empty = x) (hb1 : Below wr.heap.size wr w1) (o : Obj)
    (h2 : Bu.Is w.heap.size w.heap.size (Lib.byteCells (textsL (xs.take k)) ++ Lib.strCells ⟨(numL x.size 4).toArray⟩ ++ Lib.strCells x) w2)
    (hb2 : Below w.heap.size (w1.alloc o) w2) (hk2 : Lib.OthersKept 5 (some w.heap.size) (w1.alloc o) w2) : Laid w xs (k + 1) w2 := by
  obtain ⟨hi, hb, hl⟩ := h
  have hlt : w.heap.size + 1 < wr.heap.size := (Array.getElem?_eq_some_iff.1 hb).1
  have hs1 := hb1.size
  refine ⟨?_, ?_, ?_⟩
  · rw [textsL_take xs k hk, hx, Lib.byteCells_append, Lib.byteCells_append]
    simpa [Lib.strCells_eq] using h2
  · refine hk2 _ _ ?_ (by simp) (by intro c fz e; cases e)
    rw [Lib.alloc_old w1 _ _ (by omega), hb1.block _ hlt]
    exact hb
  · exact ((hl.trans (hb1.mono (by omega))).alloc (by have := hl.size; omega) o).trans hb2

end Tx

namespace Rx
end Rx
end Go.Proofs.YtoeblhdddehemaaDoor

/-
  Contracts of sum.Parts, sum.Text, sum.Less, sum.From.
-/
namespace Go.Proofs.YtoeblhdddehemaaDoor
set_option maxRecDepth 20000
open Go.RowKit

namespace Sm
open Sh
/-- the rounds' numbers lie where they ought to -/
def Tab (w : World) : Prop := ∀ i, i < 64 → w.cell? ⟨0, i, none⟩ = some (.int .u32 (kN i : Nat))
theorem Tab.pos {w : World} (h : Tab w) : 0 < w.heap.size := World.block_lt_of_cell? w _ (h 0 (by omega))
theorem Tab.below {w w' : World} (h : Tab w) {B : Nat} (hb : Below B w w') (hB : 0 < B) : Tab w' := fun i hi => (hb.cell (p := ⟨0, i, none⟩) hB).trans (h i hi)

/-- an array's cells, boxed, as a slice of bytes -/
theorem isBs_kc (w : World) (k : List UInt8) (hk : k.length = 32) : IsBs (w.alloc (.cells (kc k) 28)) (some ⟨w.heap.size, 0, none⟩) 32 32 k := by
  have h := IsBs.new w k (by unfold maxLen; omega) (kc k) 28 rfl
  rw [hk] at h
  exact h

set_option maxHeartbeats 1000000 in
theorem text_any (k : List UInt8) (hk : k.length = 32) (w : World) :
    Calls Tryd.prog 25 #[.agg (kc k)] w fun e w' => e = .returned (.string ⟨k.toArray⟩) ∧ Below w.heap.size w w' := by
  have hcv := conv_bs (isBs_kc w k hk)
  obtain ⟨C, hC⟩ : ∃ C, kc k = C := ⟨_, rfl⟩
  obtain ⟨T, hT⟩ : ∃ T, (⟨k.toArray⟩ : ByteArray) = T := ⟨_, rfl⟩
  rw [hC, hT] at hcv
  rw [hC, hT]
  clear hC hT hk
  go_enter Tryd.func25, Tryd.ntmps25
  go_wp2
  go_ret
  exact ⟨rfl, (Below.refl _ _).alloc (Nat.le_refl _) _⟩

/-- two blocks for a sum, the second one's cells out into the first -/
theorem res_sum {fn : Func} (hfn : fn.results = #[.cell 2 28, .tmp 3]) (tmps : Array Value) (w : World) (g : Nat) (cs : Array Value) (e : Int) (hp : tmps.getD 2 undef = .pointer (some ⟨g, 0, none⟩)) (he : tmps.getD 3 undef = .int .i64 e)
    (hg : w.heap[g]? = some (.cells cs 28 (0, 0))) (hs : cs.size = 32) : (results fn tmps).run Tryd.prog w = .ok (.tuple #[.agg cs, .int .i64 e]) w := by
  rw [results_cell_tmp (fn := fn) (p := 2) (u := 3) (ty := 28) hfn, hp, he]
  have := run_loadVar_row (P := Tryd.prog) w g 28 28 cs (0, 0) _ hg Tryd.underlying28 rfl (by rw [hs]; exact info_sum)
  simp [asAddr, this]

end Sm
end Go.Proofs.YtoeblhdddehemaaDoor

/-
  Contracts of sum.Hex, strings.IndexByte, sum.Read.
-/
namespace Go.Proofs.YtoeblhdddehemaaDoor
set_option maxRecDepth 20000
open Go.RowKit

namespace Sm
open Sh
theorem run_index_kc (k : List UInt8) (j : Nat) (hj : j < 32) (hk : k.length = 32) (w : World) :
    (Instr.index 28 (.agg (kc k)) (.int .i64 j)).run Tryd.prog w = .ok (.int .u8 (k.getD j 0).toNat) w := by
  have hs : (sizeOf 5).run Tryd.prog w = .ok 1 w := by kernel_rfl
  have hp : (part 5 (kc k) j).run Tryd.prog w = .ok (.int .u8 (k.getD j 0).toNat) w := by
    have hc : (kc k)[j]? = some (.int .u8 (k.getD j 0).toNat) := by simp [kc, List.getD, hk, hj]
    have ha : (isAgg 5).run Tryd.prog w = .ok false w := by kernel_rfl
    simp [part, Sem.run_bind, ha, hc]
  have hj2 : 0 ≤ (j : Int) ∧ (j : Int) < 32 := by omega
  have hj3 : (if (0 : Int) ≤ j ∧ (j : Int) < 32 then part 5 (kc k) j else boundsPanic .i64 j 32 .index) = part 5 (kc k) j := if_pos hj2
  simp [Instr.index, asIntOf, run_underlying Tryd.underlying28, hs]
  rw [if_pos hj]
  simpa using hp

theorem hexD_at : ∀ x : Fin 16, (⟨#[48, 49, 50, 51, 52, 53, 54, 55, 56, 57, 97, 98, 99, 100, 101, 102]⟩ : ByteArray)[(x : Nat)]'(by have := x.2; show (x : Nat) < 16; omega) = hexD x := by decide +kernel
/-- what holds at the head of a round of Hex: k bytes are told -/
def Hx (w : World) (l : List UInt8) (k : Nat) (wr : World) : Prop :=
  Bu.Is w.heap.size (w.heap.size + 1) (Lib.byteCells (hexK l k)) wr ∧ Below w.heap.size w wr

end Sm
end Go.Proofs.YtoeblhdddehemaaDoor

/-
  Contracts of strings.IndexByte, sum.Read.
-/
namespace Go.Proofs.YtoeblhdddehemaaDoor
set_option maxRecDepth 20000
open Go.RowKit

namespace Sm
open Sh
theorem ofInt_i64 (a : Nat) (ha : a < 9223372036854775808) : (BitVec.ofInt 64 (a : Int)).toNat = a := by
  rw [BitVec.ofInt_natCast, BitVec.toNat_ofNat]; exact Nat.mod_eq_of_lt (by omega)
theorem i64_or_nat (a b : Nat) (ha : a < 9223372036854775808) (hb : b < 9223372036854775808) : bits .or .i64 (a : Int) (b : Int) = ((a ||| b : Nat) : Int) := by
  have hx : a ||| b < 2 ^ 63 := Nat.or_lt_two_pow (by omega) (by omega)
  show IntKind.i64.wrap ((BitVec.ofInt 64 (a : Int) ||| BitVec.ofInt 64 (b : Int)).toNat : Int) = _
  rw [BitVec.toNat_or, ofInt_i64 a ha, ofInt_i64 b hb, IntKind.wrap_i64]
  omega
/-- a digit's number; 16: no digit -/
def hvN (c : Nat) : Nat := if 48 ≤ c ∧ c ≤ 57 then c - 48 else if 97 ≤ c ∧ c ≤ 102 then c - 87 else 16
def digs : List UInt8 := [48, 49, 50, 51, 52, 53, 54, 55, 56, 57, 97, 98, 99, 100, 101, 102]
theorem ix_digs : ∀ c : Fin 256, Lib.indexByte digs (UInt8.ofNat c) = if hvN c < 16 then (hvN c : Int) else -1 := by decide +kernel
/-- are these 64 digits; their bytes -/
def okH (l : List UInt8) : Bool := l.length == 64 && l.all fun c => decide (hvN c.toNat < 16)
def pairH (l : List UInt8) (i : Nat) : Nat := 16 * hvN (l.getD (2 * i) 0).toNat + hvN (l.getD (2 * i + 1) 0).toNat
def unhexL (l : List UInt8) : List UInt8 := (List.range 32).map fun i => UInt8.ofNat (pairH l i)
theorem unhexL_length (l : List UInt8) : (unhexL l).length = 32 := by simp [unhexL]
theorem okH_iff (l : List UInt8) : okH l = true ↔ l.length = 64 ∧ ∀ j, j < 64 → hvN (l.getD j 0).toNat < 16 := by
  unfold okH
  rw [Bool.and_eq_true, beq_iff_eq, List.all_eq_true]
  constructor
  · rintro ⟨h1, h2⟩
    refine ⟨h1, fun j hj => ?_⟩
    have h3 : j < l.length := by omega
    have := h2 l[j] (List.getElem_mem _)
    simpa [List.getD, h3] using this
  · rintro ⟨h1, h2⟩
    refine ⟨h1, fun x hx => ?_⟩
    obtain ⟨j, hj, rfl⟩ := List.getElem_of_mem hx
    have := h2 j (by omega)
    simpa [List.getD, hj] using this
theorem run_build_sum (ev : Operand → Value) (o : Oper) (ho : o.op = .build 28 #[]) (w : World) :
    (execOp ev o).run Tryd.prog w = .ok (.value (.agg (kc zk))) w := by
  unfold execOp
  rw [ho]
  kernel_rfl

/-- what Read tells -/
def readOk (l : List UInt8) : Ending := .returned (.tuple #[.agg (kc (unhexL l)), .int .i64 0])
def readNo : Ending := .returned (.tuple #[.agg (kc zk), .int .i64 6])
def readE (l : List UInt8) : Ending := if okH l = true then readOk l else readNo
theorem readE_no {l : List UInt8} (h : okH l = false) : readE l = readNo := by unfold readE; rw [h]; rfl
theorem readE_ok {l : List UInt8} (h : okH l = true) : readE l = readOk l := by unfold readE; rw [h]; rfl

end Sm
end Go.Proofs.YtoeblhdddehemaaDoor

/-
  Contracts of the plain answers' Of and Sum.
-/
namespace Go.Proofs.YtoeblhdddehemaaDoor
set_option maxRecDepth 20000
open Go.RowKit

namespace Sh
theorem IsWs.new (w : World) (l : List Nat) (hl : l.length = 8) (t : TypeId) : IsWs (w.alloc (.cells (wc l) t)) (some ⟨w.heap.size, 0, none⟩) 8 8 l :=
  ⟨by omega, by unfold maxLen; omega, hl, fun e => (by cases e), fun j hj => ⟨w.heap.size, 0, rfl, by simp, by rw [Nat.zero_add]; exact wc_cell w l t j (by omega)⟩⟩
theorem byteAt_cut (t : ByteArray) (k q : Nat) (hq : q < 64) : byteAt (t.extract (64 * k) (64 * k + 64)) q = byteK t.data.toList k q := by
  unfold byteAt byteK
  have e : (t.extract (64 * k) (64 * k + 64)).data.toList = (t.data.toList.drop (64 * k)).take 64 := by
    simp only [ByteArray.data_extract, Array.toList_extract, List.extract_eq_take_drop]
    rw [show 64 * k + 64 - 64 * k = 64 by omega]
  rw [e, List.getD, List.getD, List.getElem?_take_of_lt hq, List.getElem?_drop]
theorem of_block (t : ByteArray) (k : Nat) (h : List Nat) : blockL (byteAt (t.extract (64 * k) (64 * k + 64))) h = blockL (byteK t.data.toList k) h :=
  blockL_congr (fun q hq => byteAt_cut t k q hq) h

set_option maxRecDepth 100000 in
set_option maxHeartbeats 4000000 in
theorem rof_any (l : List UInt8) (hl : l.length ≤ 900000) (w : World) :
    Calls Tryd.prog 20 #[.string ⟨l.toArray⟩] w fun e w' => e = .returned (.string ⟨(sumL l).toArray⟩) ∧ Below w.heap.size w w' := by
  have hlen := fillL_length l
  have hmod := fillL_mod l
  have hz : zerosN l.length < 64 := Nat.mod_lt _ (by omega)
  have HW0 := Lib.hid (IsWs.new w Sh.start rfl 56)
  have HFi := Lib.hid (fill_any l (by omega))
  obtain ⟨t, ht⟩ : ∃ t, (⟨(fillL l).toArray⟩ : ByteArray) = t := ⟨_, rfl⟩
  have htd : t.data.toList = fillL l := by rw [← ht]
  have hts : t.size = (fillL l).length := by rw [← ht, ba_size]
  rw [ht] at HFi
  have HS := sec (show outK (hashK (fillL l) ((fillL l).length / 64)) 32 = sumL l from rfl)
  rw [← htd] at HS
  rw [show t.data.toList.length = t.size by simp] at HS
  have hb : t.size ≤ 900100 := by omega
  rw [← hts] at hmod
  have HT := sec htd
  have HL := Lib.hid (fun k => hashK_length t.data.toList k)
  have HTl := Lib.hid (fun k => hashK_lt t.data.toList k)
  clear ht htd hts hlen hz hl
  obtain ⟨s, hs⟩ : ∃ s, (⟨l.toArray⟩ : ByteArray) = s := ⟨_, rfl⟩
  rw [hs] at HFi ⊢
  clear hs
  go_enter Tryd.func20, Tryd.ntmps20
  go_wp2_with (first | (refine wpList_run (o := ⟨some 10, _, _, _, _, _⟩) rfl (.slice (some ⟨w.heap.size, 0, none⟩) 8 8) (w.alloc (.cells (wc Sh.start) 56)) (by kernel_rfl) ?_))
  refine (HFi.out _).mono ?_
  rintro e w1 ⟨rfl, hb1⟩
  have HW1 := Lib.hid (HW0.out.below hb1)
  have HB1 := Lib.hid (((Below.refl w.heap.size w).alloc (Nat.le_refl _) (.cells (wc Sh.start) 56)).trans (hb1.mono (by simp)))
  clear hb1 HFi HW0
  go_wp2
  go_loopw [3, 5] (fun v i wr => ∃ (k : Nat) (a : Option Addr) (cap : Nat), 64 * k ≤ t.size ∧ i = .int .i64 (64 * k : Nat) ∧ v = .slice a 8 cap ∧ Hid (IsWs wr a 8 cap (hashK t.data.toList k)) ∧ Hid (Below w.heap.size w wr)) (fun _ i _ => t.size - (intOf i).toNat)
  case atStart => exact ⟨0, _, _, by omega, rfl, rfl, HW1, HB1⟩
  case round =>
    clear HW1 HB1
    obtain ⟨k, a, cap, hk, rfl, rfl, HW, HB⟩ := hrel
    by_cases hlt : 64 * k < t.size
    · have hk64 : 64 * k + 64 ≤ t.size := by omega
      have hBl := block_any a cap (hashK t.data.toList k) (t.extract (64 * k) (64 * k + 64)) (by simp; omega) wr HW.out (HTl.out k)
      rw [of_block t k] at hBl
      have HBl := Lib.hid hBl
      obtain ⟨p, hp⟩ : ∃ p, 64 * k = p := ⟨_, rfl⟩
      have HBl : Hid (Calls Tryd.prog 34 #[.slice a 8 cap, .string (t.extract p (p + 64))] wr (GotWs wr (blockL (byteK t.data.toList k) (hashK t.data.toList k)))) := Lib.hid (by rw [← hp]; exact HBl.out)
      rw [hp] at hk64 hlt hk ⊢
      have HP := Lib.hid hp
      clear hBl hp
      go_wp2_with fail
      refine HBl.out.mono ?_
      rintro e w2 ⟨a2, cap2, rfl, hw2, hb2⟩
      have HW2 := Lib.hid hw2
      have HB2 := Lib.hid (HB.out.trans (hb2.mono HB.out.size))
      clear hw2 hb2 HBl
      go_wp2
      go_roundw
      case rel => exact ⟨k + 1, a2, cap2, by have := HP.out; omega, by have := HP.out; go_num, rfl, HW2, HB2⟩
      case measure => have := HP.out; simp [intOf]; omega
    · have hke : k = t.size / 64 := by omega
      have HSk : Sec (outK (hashK t.data.toList k) 32 = sumL l) := sec (by rw [hke]; exact HS.out)
      have hbd := HTl.out k
      obtain ⟨M, hM⟩ : ∃ M, hashK t.data.toList k = M := ⟨_, rfl⟩
      rw [hM] at HW HSk hbd
      have HMb := Lib.hid (fun j => getD_lt hbd j)
      clear hbd hM hke HS HL HTl HT
      obtain ⟨b, off, rfl, hlb, hx0⟩ := HW.out.2.2.2.2 0 (by omega)
      have HC : Hid (∀ j, j < 8 → wr.cell? ⟨b, off + j, none⟩ = some (.int .u64 (M.getD j 0 : Nat))) := Lib.hid (fun j hj => by
        obtain ⟨b', off', e, _, hc⟩ := HW.out.2.2.2.2 j hj
        cases e
        exact hc)
      obtain ⟨wo, rfl⟩ : ∃ wo : World, wo = wr := ⟨_, rfl⟩
      have hlb' : Hid (b < wo.heap.size) := Lib.hid hlb
      clear hx0 hlb
      go_wp2
      clear hlt hk hmod hb
      go_loopw [6, 7, 8, 9] (fun o i _ _ wx => ∃ q : Nat, q ≤ 32 ∧ i = .int .i64 q ∧ o = .string ⟨(outK M q).toArray⟩ ∧ Hid (Below wo.heap.size wo wx)) (fun _ i _ _ _ => 32 - (intOf i).toNat)
      case atStart => exact ⟨0, by omega, rfl, rfl, Lib.hid (Below.refl _ _)⟩
      case round =>
        obtain ⟨q, hq, rfl, rfl, HBx⟩ := hrel
        by_cases hlt : q < 32
        · have hq4 : q / 4 < 8 := by omega
          have hc := (HBx.out.cell (p := ⟨b, off + q / 4, none⟩) hlb'.out).trans (HC.out (q / 4) hq4)
          have hxb := HMb.out (q / 4)
          have HSn := sec (outK_snoc M q)
          have HWb := sec (show wByte M q = M.getD (q / 4) 0 / 256 ^ (3 - q % 4) % 256 from rfl)
          obtain ⟨x, hx⟩ : ∃ x, M.getD (q / 4) 0 = x := ⟨_, rfl⟩
          rw [hx] at hc hxb HWb
          clear hx
          obtain ⟨r, hr⟩ : ∃ r, q % 4 = r := ⟨_, rfl⟩
          have hr4 : r < 4 := by omega
          have hqr : (q : Int) % 4 = r := by omega
          rw [hr] at HWb
          clear hr
          have hbs := HBx.out.size
          have hol : (⟨(outK M q).toArray⟩ : ByteArray).size ≤ 32 := by rw [ba_size, outK_length]; exact hq
          have HCat : Hid ((⟨(outK M q).toArray⟩ : ByteArray) ++ ⟨#[UInt8.ofNat (wByte M q)]⟩ = ⟨(outK M (q + 1)).toArray⟩) := Lib.hid (by rw [HSn.out]; exact ba_cat _ [_])
          obtain ⟨O, hO⟩ : ∃ O, (⟨(outK M q).toArray⟩ : ByteArray) = O := ⟨_, rfl⟩
          rw [hO] at hol HCat ⊢
          clear hO
          have HQR := Lib.hid hqr
          go_wp2
          clear hqr hc
          go_loop [8, 9] (fun v kk => ∃ d : Nat, r + d ≤ 3 ∧ kk = .int .i64 (r + d : Nat) ∧ v = .int .u64 (x / 256 ^ d : Nat)) (fun _ kk => 3 - (intOf kk).toNat)
          case atStart => exact ⟨0, by omega, by rw [HQR.out]; rfl, by simp⟩
          case round =>
            obtain ⟨d, hd, rfl, rfl⟩ := hrel
            have hD : Hid (x / 256 ^ (d + 1) = x / 256 ^ d / 256) := Lib.hid (by rw [Nat.pow_succ, Nat.div_div_eq_div_mul])
            have hyb : x / 256 ^ d < 4294967296 := Nat.lt_of_le_of_lt (Nat.div_le_self _ _) hxb
            obtain ⟨p, hp⟩ : ∃ p, r + d = p := ⟨_, rfl⟩
            rw [hp] at hd ⊢
            have HP := Lib.hid hp
            by_cases hl3 : p < 3
            · obtain ⟨y, hy⟩ : ∃ y, x / 256 ^ d = y := ⟨_, rfl⟩
              rw [hy] at hD hyb ⊢
              clear hy hp
              go_wp2
              go_round
              case rel => exact ⟨d + 1, by have := HP.out; omega, by have := HP.out; go_num, by rw [hD.out]; go_num⟩
              case measure => simp [intOf]; omega
            · have hd3 : 3 - r = d := by omega
              rw [hd3] at HWb
              obtain ⟨y, hy⟩ : ∃ y, x / 256 ^ d = y := ⟨_, rfl⟩
              rw [hy] at hyb HWb ⊢
              clear hy hp hd3 hD
              have hcv := conv_one ((y : Int) % 256) (y % 256) (by omega) (by omega) wr
              rw [← HWb.out] at hcv
              obtain ⟨C, hC⟩ : ∃ C, (⟨#[UInt8.ofNat (wByte M q)]⟩ : ByteArray) = C := ⟨_, rfl⟩
              have hCs : C.size ≤ 1 := by rw [← hC]; exact Nat.le_refl _
              rw [hC] at hcv HCat
              clear hC
              go_wp2
              go_roundw
              case rel => exact ⟨q + 1, by omega, by go_num, by rw [HCat.out], Lib.hid (HBx.out.alloc hbs _)⟩
              case measure => simp [intOf]; omega
        · obtain rfl : q = 32 := by omega
          have hB2 := HB.out.trans (HBx.out.mono HB.out.size)
          clear HBx
          go_wp2
          go_ret
          exact ⟨by rw [← HSk.out]; rfl, hB2⟩
end Sh
end Go.Proofs.YtoeblhdddehemaaDoor

/-
  The plain answers' Sum; sums are equal to themselves; digits and back.
-/
namespace Go.Proofs.YtoeblhdddehemaaDoor
set_option maxRecDepth 20000
open Go.RowKit

namespace Sm
open Sh
theorem info_u8 : (Tryd.prog.info? 5).map (fun i => (i.zero, i.size, i.bytes)) = some (some (.int .u8 0), 1, 1) := by kernel_rfl
theorem part_byte (k : List UInt8) (i : Nat) (hi : i < k.length) (w : World) : (part 5 (kc k) i).run Tryd.prog w = .ok (.int .u8 (k.getD i 0).toNat) w := by
  have hagg : (isAgg 5).run Tryd.prog w = .ok false w := by kernel_rfl
  have hg : (kc k)[i]? = some (.int .u8 (k.getD i 0).toNat) := by simp [kc, List.getD, hi]
  unfold part
  rw [Sem.run_bind, hagg]
  simp [hg]
theorem items_same (k : List UInt8) (w : World) (d : Nat) : ∀ is : List Nat, (∀ i ∈ is, i < k.length) → (Op.eqItems (d + 1) 5 1 (kc k) (kc k) is).run Tryd.prog w = .ok true w
  | [], _ => by simp [Op.eqItems]
  | i :: is, h => by
    have ih := items_same k w d is (fun j hj => h j (List.mem_cons_of_mem _ hj))
    have hp := part_byte k i (h i (List.mem_cons_self ..)) w
    unfold Op.eqItems
    rw [Nat.mul_one]
    simp only [Sem.run_bind, hp, Result.andThen_ok, run_equalIn_int w d 5 .u8 .u8 _ _ Tryd.underlying5, beq_self_eq_true, Bool.not_true, Bool.false_eq_true, if_false]
    exact ih
theorem cells_u8 : Tryd.prog.cellsOf 5 = 1 := by kernel_rfl
theorem equal_sum (k : List UInt8) (hk : k.length = 32) (w : World) : (Op.equalIn 10000 28 (.agg (kc k)) (.agg (kc k))).run Tryd.prog w = .ok true w := by
  obtain ⟨i0, hi, _⟩ := info_parts info_u8
  rw [show (10000 : Nat) = 9999 + 1 from rfl, run_equalIn_array w 9999 (kc k) (kc k) Tryd.underlying28 hi, cells_u8]
  exact items_same k w 9998 (List.range 32) (fun i h => by rw [hk]; simpa using h)
theorem eql_sum (k : List UInt8) (hk : k.length = 32) (w : World) : (binOp .eql 28 (.agg (kc k)) (.agg (kc k))).run Tryd.prog w = .ok (.bool true) w := by
  rw [run_eql_struct, equal_sum k hk w]
  rfl
theorem neq_sum (k : List UInt8) (hk : k.length = 32) (w : World) : (binOp .neq 28 (.agg (kc k)) (.agg (kc k))).run Tryd.prog w = .ok (.bool false) w := by
  rw [run_neq_struct, equal_sum k hk w]
  rfl
theorem guard_sum : Tryd.prog.eqGuardType Tryd.prog.depth 28 = false := by kernel_rfl
theorem run_neq_op (ev : Operand → Value) (o : Oper) (k : List UInt8) (hk : k.length = 32) (w : World) (h : ∃ x y, o.op = .binOp .neq 28 x y 28 ∧ ev x = .agg (kc k) ∧ ev y = .agg (kc k)) :
    (execOp ev o).run Tryd.prog w = .ok (.value (.bool false)) w := by
  obtain ⟨x, y, ho, hx, hy⟩ := h
  unfold execOp
  simp [ho, hx, hy, run_eqGuard_agg, neq_sum k hk w, Result.andThen]
theorem run_eql_op (ev : Operand → Value) (o : Oper) (k : List UInt8) (hk : k.length = 32) (w : World) (h : ∃ x y, o.op = .binOp .eql 28 x y 28 ∧ ev x = .agg (kc k) ∧ ev y = .agg (kc k)) :
    (execOp ev o).run Tryd.prog w = .ok (.value (.bool true)) w := by
  obtain ⟨x, y, ho, hx, hy⟩ := h
  unfold execOp
  simp [ho, hx, hy, run_eqGuard_agg, eql_sum k hk w, Result.andThen]
theorem run_load_sum (ev : Operand → Value) (o : Oper) (w : World) (g : Nat) (l : List UInt8) (hl : l.length = 32) (h : ∃ x, o.op = .load 28 x ∧ ev x = .pointer (some ⟨g, 0, none⟩)) (hg : Rg.Own w g (kc l) 28) :
    (execOp ev o).run Tryd.prog w = .ok (.value (.agg (kc l))) w := by
  obtain ⟨x, ho, hx⟩ := h
  have hr := run_loadVar_row (P := Tryd.prog) w g 28 28 (kc l) (0, 0) _ hg.2 Tryd.underlying28 rfl (info_kc l hl)
  unfold execOp
  simp only [ho, hx, Instr.loadAt, Instr.sureAddr, Sem.run_bind, Sem.run_pure, Result.andThen_ok, hr]

/-- digits and back -/
theorem list_ext {a b : List UInt8} (hl : a.length = b.length) (h : ∀ i, i < a.length → a.getD i 0 = b.getD i 0) : a = b := by
  apply List.ext_getElem hl
  intro i h1 h2
  have := h i h1
  simpa only [List.getD, List.getElem?_eq_getElem h1, List.getElem?_eq_getElem h2, Option.getD_some] using this
theorem hexK_getD (l : List UInt8) : ∀ k, k ≤ l.length → ∀ j, j < k → (hexK l k).getD (2 * j) 0 = hexD ((l.getD j 0).toNat / 16) ∧ (hexK l k).getD (2 * j + 1) 0 = hexD ((l.getD j 0).toNat % 16)
  | 0, _, j, hj => by omega
  | k + 1, hk, j, hj => by
    have hl := hexK_length l k (by omega)
    rw [hexK_snoc l k (by omega)]
    by_cases e : j = k
    · subst e
      simp only [List.getD]
      rw [List.getElem?_append_right (by omega), List.getElem?_append_right (by omega), hl, show 2 * j - 2 * j = 0 by omega, show 2 * j + 1 - 2 * j = 1 by omega]
      exact ⟨rfl, rfl⟩
    · have ih := hexK_getD l k (by omega) j (by omega)
      simp only [List.getD] at ih ⊢
      rw [List.getElem?_append_left (by omega), List.getElem?_append_left (by omega)]
      exact ih
theorem hv_hexD : ∀ x : Fin 16, hvN (hexD x).toNat = x := by decide +kernel
theorem hexD_hv : ∀ c : Fin 256, hvN c < 16 → hexD (hvN c) = UInt8.ofNat c := by decide +kernel
theorem hex_ok (x : List UInt8) (hx : x.length = 32) : okH (hexK x 32) = true := by
  refine (okH_iff _).2 ⟨hexK_length x 32 (by omega), fun j hj => ?_⟩
  obtain ⟨h1, h2⟩ := hexK_getD x 32 (by omega) (j / 2) (by omega)
  have hb : (x.getD (j / 2) 0).toNat < 256 := UInt8.toNat_lt _
  rcases Nat.mod_two_eq_zero_or_one j with e | e
  · rw [show 2 * (j / 2) = j by omega] at h1
    have := hv_hexD ⟨(x.getD (j / 2) 0).toNat / 16, by omega⟩
    simp only at this
    rw [h1, this]; omega
  · rw [show 2 * (j / 2) + 1 = j by omega] at h2
    have := hv_hexD ⟨(x.getD (j / 2) 0).toNat % 16, by omega⟩
    simp only at this
    rw [h2, this]; omega
theorem unhexL_getD (l : List UInt8) (j : Nat) (hj : j < 32) : (unhexL l).getD j 0 = UInt8.ofNat (pairH l j) := by simp [unhexL, List.getD, hj]
theorem hex_unhex (x : List UInt8) (hx : x.length = 32) : unhexL (hexK x 32) = x := by
  apply list_ext (by rw [unhexL_length, hx])
  intro j hj
  rw [unhexL_length] at hj
  obtain ⟨h1, h2⟩ := hexK_getD x 32 (by omega) j hj
  have hb : (x.getD j 0).toNat < 256 := UInt8.toNat_lt _
  have e1 := hv_hexD ⟨(x.getD j 0).toNat / 16, by omega⟩
  have e2 := hv_hexD ⟨(x.getD j 0).toNat % 16, by omega⟩
  simp only at e1 e2
  rw [unhexL_getD _ j hj]
  unfold pairH
  rw [h1, h2, e1, e2, show 16 * ((x.getD j 0).toNat / 16) + (x.getD j 0).toNat % 16 = (x.getD j 0).toNat by omega]
  simp
theorem join_div (a b : Nat) (h : b < 16) : (16 * a + b) / 16 = a := by omega
theorem join_mod (a b : Nat) (h : b < 16) : (16 * a + b) % 16 = b := by omega
theorem unhex_hex (s : List UInt8) (hs : okH s = true) : hexK (unhexL s) 32 = s := by
  obtain ⟨hl, hv⟩ := (okH_iff s).1 hs
  have hul := unhexL_length s
  apply list_ext (by rw [hexK_length _ _ (by omega), hl])
  intro i hi
  rw [hexK_length _ _ (by omega)] at hi
  obtain ⟨h1, h2⟩ := hexK_getD (unhexL s) 32 (by omega) (i / 2) (by omega)
  have e := unhexL_getD s (i / 2) (by omega)
  have v1 := hv (2 * (i / 2)) (by omega)
  have v2 := hv (2 * (i / 2) + 1) (by omega)
  have d1 := hexD_hv ⟨(s.getD (2 * (i / 2)) 0).toNat, UInt8.toNat_lt _⟩ v1
  have d2 := hexD_hv ⟨(s.getD (2 * (i / 2) + 1) 0).toNat, UInt8.toNat_lt _⟩ v2
  simp only [UInt8.ofNat_toNat] at d1 d2
  have hp : (UInt8.ofNat (pairH s (i / 2))).toNat = 16 * hvN (s.getD (2 * (i / 2)) 0).toNat + hvN (s.getD (2 * (i / 2) + 1) 0).toNat := by
    unfold pairH
    simp only [UInt8.toNat_ofNat']
    omega
  rw [e, hp] at h1 h2
  rcases Nat.mod_two_eq_zero_or_one i with ev | ev
  · rw [show 2 * (i / 2) = i by omega] at h1 d1 v2
    rw [h1, join_div _ _ v2]
    exact d1
  · rw [show 2 * (i / 2) + 1 = i by omega] at h2 d2 v2
    rw [h2, join_mod _ _ v2]
    exact d2
/-- the digits of the sum of abc -/
def abcH : ByteArray := ⟨#[98, 97, 55, 56, 49, 54, 98, 102, 56, 102, 48, 49, 99, 102, 101, 97, 52, 49, 52, 49, 52, 48, 100, 101, 53, 100, 97, 101, 50, 50, 50, 51, 98, 48, 48, 51, 54, 49, 97, 51, 57, 54, 49, 55, 55, 97, 57, 99, 98, 52, 49, 48, 102, 102, 54, 49, 102, 50, 48, 48, 49, 53, 97, 100]⟩
theorem abc_hex : (⟨(hexK abcL 32).toArray⟩ : ByteArray) = abcH := by decide +kernel

set_option maxHeartbeats 2000000 in
theorem rsum_any (l : List UInt8) (hl : l.length ≤ 900000) (w : World) :
    Calls Tryd.prog 27 #[.string ⟨l.toArray⟩] w fun e w' => e = .returned (.agg (kc (sumL l))) ∧ Below w.heap.size w w' := by
  have HOf := Lib.hid (rof_any l hl (w.alloc (.cells (kc zk) 28)))
  obtain ⟨s, hs⟩ : ∃ s, (⟨l.toArray⟩ : ByteArray) = s := ⟨_, rfl⟩
  have hKl := sumL_length l
  obtain ⟨k, hk⟩ : ∃ k, sumL l = k := ⟨_, rfl⟩
  rw [hs, hk] at HOf
  rw [hs, hk]
  rw [hk] at hKl
  clear hs hk hl
  have hts : (⟨k.toArray⟩ : ByteArray).size = 32 := by rw [ba_size]; exact hKl
  have HQ := Lib.hid (byteAt_eq ⟨k.toArray⟩)
  have HBy : Hid (∀ j, byteAt ⟨k.toArray⟩ j = (k.getD j 0).toNat) := Lib.hid (fun j => by unfold byteAt; simp)
  have HKl := Lib.hid hKl
  obtain ⟨t, ht⟩ : ∃ t, (⟨k.toArray⟩ : ByteArray) = t := ⟨_, rfl⟩
  rw [ht] at HOf hts HQ HBy
  clear ht hKl
  go_enter Tryd.func27, Tryd.ntmps27
  go_wp2_with (refine wpList_run (o := ⟨some 2, _, _, _, _, _⟩) rfl _ _ (run_alloc_sum _ _ rfl _ w.heap.size rfl) ?_)
  refine HOf.out.mono ?_
  rintro e w1 ⟨rfl, hb1⟩
  have HB1 := Lib.hid (((Below.refl w.heap.size w).alloc (Nat.le_refl _) (.cells (kc zk) 28)).trans (hb1.mono (by simp)))
  have HO1 := Lib.hid ((Rg.Own.new w (kc zk) 28).below hb1)
  clear hb1 HOf
  obtain ⟨m, hm⟩ : ∃ m, w1.heap.size = m := ⟨_, rfl⟩
  have hlm : w.heap.size < m := by rw [← hm]; exact HO1.out.1
  have HO2 : Hid (Rg.Own (w1.alloc (.cells (kc zk) 28)) w.heap.size (kc zk) 28) := Lib.hid (HO1.out.below ((Below.refl _ _).alloc (Nat.le_refl _) _))
  have HB2 : Hid (Below w.heap.size w (w1.alloc (.cells (kc zk) 28))) := Lib.hid (HB1.out.alloc (by omega) _)
  have HR0 : Hid ((w1.alloc (.cells (kc zk) 28)).rowIs m 28 32 (fun j => .int .u8 (if j < 0 then (k.getD j 0).toNat else 0 : Nat))) := Lib.hid ((zk_row (by rw [← hm]; exact heap_alloc_new _ _)).congr (fun j _ => by rw [if_neg (by omega)]; rfl))
  go_wp2_with (refine wpList_run (o := ⟨some 4, _, _, _, _, _⟩) rfl _ _ (run_alloc_sum _ _ rfl _ m hm) ?_)
  go_loopw [5] (fun i wr => ∃ q : Nat, q ≤ 32 ∧ i = .int .i64 q ∧ Hid (wr.rowIs m 28 32 (fun j => .int .u8 (if j < q then (k.getD j 0).toNat else 0 : Nat))) ∧ Hid (Rg.Own wr w.heap.size (kc zk) 28) ∧ Hid (Below w.heap.size w wr)) (fun i _ => 32 - (intOf i).toNat)
  case atStart => exact ⟨0, by omega, rfl, HR0, HO2, HB2⟩
  case round =>
    clear HR0 HO2 HB2 HB1 HO1 hm
    obtain ⟨q, hq, rfl, HR, HO, HB⟩ := hrel
    by_cases hlt : q < 32
    · have q0 := HQ.out q (by omega)
      rw [HBy.out] at q0
      have hc := HR.out.cell (i := q) hlt
      have hf := HR.out.frozen q
      have HS := Lib.hid ((HR.out.set q (.int .u8 ((k.getD q 0).toNat : Nat))).congr (g := fun j => .int .u8 (if j < q + 1 then (k.getD j 0).toNat else 0 : Nat)) (fun j _ => by
        by_cases e : j = q
        · subst e; simp
        · have : j < q + 1 ↔ j < q := by omega
          simp [e, this]))
      have Q0 := sec q0
      clear q0
      go_wp2
      go_roundw
      case rel => exact ⟨q + 1, by omega, by go_num, by rw [Q0.out]; exact HS, Lib.hid ⟨by simpa using HO.out.1, (heap_setCell_other _ _ _ _ (by simp; omega)).trans HO.out.2⟩, Lib.hid (HB.out.setCell (p := ⟨m, q, none⟩) (by simp; omega) _)⟩
      case measure => simp [intOf]; omega
    · obtain rfl : q = 32 := by omega
      have HF : Hid (wr.heap[m]? = some (.cells (kc k) 28 (0, 0))) := Lib.hid (kc_row _ HR.out HKl.out (fun j hj => by rw [if_pos hj]))
      clear HR
      go_wp2_with (first | (refine wpList_load_row rfl _ _ rfl m rfl 28 (kc k) (0, 0) _ HF.out Tryd.underlying28 rfl (info_kc k HKl.out) ?_) | (refine wpList_store_rowTo rfl 28 _ _ rfl rfl _ (kc k) rfl rfl 28 (kc zk) HO.out.2 (info_kc k HKl.out) (by rw [kc_size, kc_size, HKl.out]; rfl) (kc_one _) ?_))
      exact bodyPost_ret (results_cell_row rfl _ _ w.heap.size 28 (kc k) (0, 0) _ rfl (setRow_heap _ _ _ _ _ _ HO.out.2) Tryd.underlying28 rfl (info_kc k HKl.out)) rfl ⟨rfl, below_row HB.out (Nat.le_refl _) _⟩
end Sm
end Go.Proofs.YtoeblhdddehemaaDoor

/-
  What comes at any rate (the law's awake of layer 3): it is so.
-/
namespace Go.Proofs.YtoeblhdddehemaaDoor
set_option maxRecDepth 20000
open Go.RowKit

namespace Sm
open Sh
theorem less_self : ∀ l : List UInt8, Op.bytesLess l l = false
  | [] => by simp [Op.bytesLess]
  | a :: l => by
    have h : ¬ a < a := by simp
    simp [Op.bytesLess, less_self l]
/-- a sum, put into a block of its own -/
theorem box {w w1 : World} (h : Below w.heap.size w w1) (k : List UInt8) :
    Rg.Own ((w1.alloc (.cells (kc zk) 28)).setRow w1.heap.size (kc k)) w1.heap.size (kc k) 28 ∧ Below w.heap.size w ((w1.alloc (.cells (kc zk) 28)).setRow w1.heap.size (kc k)) ∧ Below w1.heap.size w1 ((w1.alloc (.cells (kc zk) 28)).setRow w1.heap.size (kc k)) :=
  ⟨⟨by simp, setRow_heap _ _ _ _ _ _ (heap_alloc_new _ _)⟩, below_row (h.alloc h.size _) h.size _, below_row ((Below.refl _ _).alloc (Nat.le_refl _) _) (Nat.le_refl _) _⟩
theorem box_cells (w1 : World) : (w1.alloc (.cells (kc zk) 28)).heap[w1.heap.size]? = some (.cells (kc zk) 28 (0, 0)) := heap_alloc_new _ _

end Sm
end Go.Proofs.YtoeblhdddehemaaDoor

/-
  What a slice of strings that came in is, as a walk takes it.
-/
namespace Go.Proofs.YtoeblhdddehemaaDoor
open Go.RowKit Go.ChangeShapes Go.WideShapes

/-- each of its len elements lies where it ought to -/
def IsStrs (w : World) (a : Option Addr) (len cap : Nat) (xs : List ByteArray) : Prop :=
  len ≤ cap ∧ cap ≤ maxLen ∧ xs.length = len ∧ ∀ j, j < len → ∃ b off, a = some ⟨b, off, none⟩ ∧ b < w.heap.size ∧ w.cell? ⟨b, off + j, none⟩ = some (.string (xs.getD j ByteArray.empty)) ∧ (xs.getD j ByteArray.empty).size ≤ maxLen

theorem lt_of_cell {w : World} {p : Addr} {v : Value} (h : w.cell? p = some v) : p.block < w.heap.size := by
  rcases Nat.lt_or_ge p.block w.heap.size with h' | h'
  · exact h'
  · simp [World.cell?, Array.getElem?_eq_none h'] at h

theorem isStrs_of {H : Type} {enc : TypeId × Value → H} {P : Program} {w : World} {t e : TypeId} {a : Option Addr} {len cap : Nat} {d : DataW H} {p : List MemPlace}
    (ht : P.underlying t = some (.slice e)) (he : P.underlying e = some .string) (hc : P.cellsOf e = 1)
    (h : DataW.Trod enc P w 0 (fun _ => true) true t (.slice a len cap) d p) : ∃ xs, IsStrs w a len cap xs := by
  obtain ⟨fuel, hf⟩ := h
  rcases open_strings ht he hc hf with ⟨hcs, _⟩ | ⟨x, l, c, ss, hcs, _, hl, hm, hz, _, hcell, hws⟩
  · simp [Value.cells] at hcs
    obtain ⟨rfl, rfl, rfl⟩ := hcs
    exact ⟨[], Nat.le_refl _, Nat.zero_le _, rfl, fun j hj => absurd hj (Nat.not_lt_zero _)⟩
  · simp [Value.cells] at hcs
    obtain ⟨rfl, rfl, rfl⟩ := hcs
    have hz' : ss.length = cap := by simpa using hz
    refine ⟨ss.take len, hl, hm, by rw [List.length_take]; omega, fun j hj => ?_⟩
    have hcj := hcell j (by omega)
    obtain ⟨b, off, spot⟩ := x
    have hspot : spot = none := by simpa [Addr.add] using World.cell?_spot (hcell 0 (by omega))
    subst hspot
    have e1 : (ss.take len).getD j ByteArray.empty = ss.getD j ByteArray.empty := by
      simp [List.getD, List.getElem?_take_of_lt hj]
    have e2 : (⟨b, off, none⟩ : Addr).add j = ⟨b, off + j, none⟩ := by unfold Addr.add; split <;> simp_all
    rw [e2] at hcj
    refine ⟨b, off, rfl, lt_of_cell hcj, by rw [e1]; exact hcj, ?_⟩
    rw [e1]
    have hj' : j < ss.length := by omega
    have e3 : ss.getD j ByteArray.empty = ss[j] := by simp [List.getD, hj']
    rw [e3]
    exact hws _ (List.getElem_mem _)
end Go.Proofs.YtoeblhdddehemaaDoor

/-
  The rounds' table, out of the row's condition; SumOf's walk.
-/
namespace Go.Proofs.YtoeblhdddehemaaDoor
set_option maxRecDepth 20000
open Go.ChangeShapes Go.WideShapes Go.ChangeAt Go.WideMaps Go.WideElems Go.RowKit

namespace Sm
open Sh
theorem gRounds : Tryd.prog.globalNamed "dormouse/sum.rounds" = some 0 := by kernel_rfl
theorem tRounds : (Tryd.prog.globals[0]?).map (·.type) = some 100 := by kernel_rfl
theorem laid_eq {H : Type} : (Rows.laid_dormouse_sum_rounds : DataW H) = .agg ((List.range 64).map fun i => .lit (.int .u32 (kN i : Nat))) := rfl
theorem cells_u32 : Tryd.prog.cellsOf 66 = 1 := by kernel_rfl
theorem tab_of_laid {W : World} (h : laidMetH Tryd.prog [("dormouse/sum.rounds", Rows.laid_dormouse_sum_rounds)] W) : Tab W := by
  rw [MakeChecks.laidMetH_plain _ _ _ (by kernel_rfl)] at h
  obtain ⟨ps, ⟨g0, t0, cs0, f0, p0, q0, hg0, ht0, hv0, hd0, _⟩, _, _⟩ := h
  obtain rfl := Option.some.inj (gRounds.symm.trans hg0)
  obtain rfl := Option.some.inj (tRounds.symm.trans ht0)
  obtain ⟨xs, m1, rfl, hx1, hlen, hn3, hel⟩ := DataW.trod_array Tryd.underlying100 hd0
  rw [laid_eq] at hx1
  simp only [Prod.mk.injEq, DataW.agg.injEq] at hx1
  intro i hi
  have h1 := hel i hi
  rw [cells_u32, Nat.mul_one] at h1
  have hi2 : i < xs.length := by omega
  rw [List.getElem?_eq_getElem hi2] at h1
  obtain ⟨n, e1, e2, _⟩ := DataW.trod_int Tryd.underlying66 h1
  have e3 := congrArg (fun l => l[i]?) hx1.1
  simp only [List.getElem?_map, List.getElem?_eq_getElem hi2, List.getElem?_range hi, Option.map_some, e2] at e3
  have e4 : n = (kN i : Nat) := by
    have := Option.some.inj e3
    simpa using this.symm
  subst e4
  rw [World.var?_cell hg0 hv0 i]
  obtain ⟨l⟩ := cs0
  have e5 := congrArg (fun l => l[0]?) e1
  simp only [List.getElem?_take, List.getElem?_drop, Nat.add_zero] at e5
  simpa using e5
end Sm
end Go.Proofs.YtoeblhdddehemaaDoor
