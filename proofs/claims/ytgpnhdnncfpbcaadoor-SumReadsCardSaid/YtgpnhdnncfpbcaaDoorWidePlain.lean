/-
  Plain facts on numbers in bytes, the lowest first: no program is named here.
-/
import Derived.Laws.Bits64b
import Derived.WalkKit
namespace Go.Proofs.YtgpnhdnncfpbcaaDoor
namespace WideP

/-- the number of a list of bytes, the lowest first -/
def valL (l : List UInt8) : Nat := l.foldr (fun b a => b.toNat + 256 * a) 0
/-- n's lowest k bytes -/
def numL (n k : Nat) : List UInt8 := (List.range k).map fun i => UInt8.ofNat (n / 256 ^ i)

theorem valL_nil : valL [] = 0 := rfl
theorem valL_cons (b : UInt8) (l : List UInt8) : valL (b :: l) = b.toNat + 256 * valL l := rfl
theorem valL_lt (l : List UInt8) : valL l < 256 ^ l.length := by
  induction l with
  | nil => simp [valL]
  | cons b l ih =>
    rw [valL_cons, List.length_cons, Nat.pow_succ]
    have := b.toNat_lt
    omega
theorem valL_snoc (l : List UInt8) (b : UInt8) : valL (l ++ [b]) = valL l + b.toNat * 256 ^ l.length := by
  induction l with
  | nil => simp [valL]
  | cons c l ih =>
    rw [List.cons_append, valL_cons, valL_cons, ih, List.length_cons, Nat.pow_succ, Nat.mul_add]
    have : 256 * (b.toNat * 256 ^ l.length) = b.toNat * (256 ^ l.length * 256) := by
      rw [Nat.mul_comm 256, Nat.mul_assoc]
    omega
theorem pow8 (k : Nat) : 2 ^ (8 * k) = 256 ^ k := by
  rw [Nat.pow_mul]
theorem pow_le8 (k : Nat) (h : k ≤ 8) : 256 ^ k ≤ 18446744073709551616 := by
  have : (256 : Nat) ^ k ≤ 256 ^ 8 := Nat.pow_le_pow_right (by omega) h
  simpa using this
theorem valL_lt64 (l : List UInt8) (h : l.length ≤ 8) : valL l < 18446744073709551616 :=
  Nat.lt_of_lt_of_le (valL_lt l) (pow_le8 _ h)

theorem numL_length (n k : Nat) : (numL n k).length = k := by simp [numL]
theorem numL_zero (n : Nat) : numL n 0 = [] := rfl
theorem numL_snoc (n k : Nat) : numL n (k + 1) = numL n k ++ [UInt8.ofNat (n / 256 ^ k)] := by
  simp [numL, List.range_succ]
theorem numL_succ (n k : Nat) : numL n (k + 1) = UInt8.ofNat n :: numL (n / 256) k := by
  simp only [numL, List.range_succ_eq_map, List.map_cons, List.map_map]
  congr 1
  · simp
  · apply List.map_congr_left
    intro i _
    simp only [Function.comp]
    rw [Nat.pow_succ, Nat.div_div_eq_div_mul, Nat.mul_comm]
theorem numL_take (n k m : Nat) (h : m ≤ k) : (numL n k).take m = numL n m := by
  simp only [numL, ← List.map_take, List.take_range, Nat.min_eq_left h]

theorem valL_numL (n k : Nat) : valL (numL n k) = n % 256 ^ k := by
  induction k generalizing n with
  | zero => simp [numL, valL, Nat.mod_one]
  | succ k ih =>
    rw [numL_succ, valL_cons, ih, Nat.pow_succ, Nat.mul_comm (256 ^ k) 256, Nat.mod_mul]
    simp

/-- a byte or'ed above what is less than its place -/
theorem or_shl (l : List UInt8) (b : UInt8) (h : l.length < 8) :
    bits .or .u64 (valL l : Int) (IntKind.u64.wrap (IntKind.u64.wrap (b.toNat : Int) * 2 ^ (8 * l.length))) = (valL (l ++ [b]) : Int) := by
  have hb := b.toNat_lt
  have hl := valL_lt l
  have hp : 256 ^ l.length * 256 ≤ 18446744073709551616 := by
    rw [← Nat.pow_succ]; exact pow_le8 _ (by omega)
  have hm : b.toNat * 256 ^ l.length < 18446744073709551616 := by
    have : b.toNat * 256 ^ l.length < 256 * 256 ^ l.length := Nat.mul_lt_mul_of_pos_right hb (Nat.pow_pos (by omega))
    omega
  have e1 : IntKind.u64.wrap (b.toNat : Int) = (b.toNat : Int) := by rw [IntKind.wrap_u64]; omega
  have e2 : ((b.toNat : Int) * 2 ^ (8 * l.length)) = ((b.toNat * 256 ^ l.length : Nat) : Int) := by
    rw [Int.natCast_mul, ← pow8]; simp
  rw [e1, e2]
  have e3 : IntKind.u64.wrap ((b.toNat * 256 ^ l.length : Nat) : Int) = ((b.toNat * 256 ^ l.length : Nat) : Int) := by
    rw [IntKind.wrap_u64]; omega
  rw [e3, bits_or_u64_nat _ _ (by omega) hm, valL_snoc]
  congr 1
  rw [Nat.or_comm, ← pow8, Nat.mul_comm b.toNat, ← Nat.two_pow_add_eq_or_of_lt (by rw [pow8]; exact hl)]
  omega

/-- a byte times its place's worth, added -/
theorem add_mul (l : List UInt8) (b : UInt8) (h : l.length < 8) :
    IntKind.u64.wrap ((valL l : Int) + IntKind.u64.wrap ((256 ^ l.length : Int) % 18446744073709551616 * IntKind.u64.wrap (b.toNat : Int))) = (valL (l ++ [b]) : Int) := by
  have hb := b.toNat_lt
  have hl := valL_lt64 (l ++ [b]) (by simp; omega)
  have hp : 256 ^ l.length * 256 ≤ 18446744073709551616 := by
    rw [← Nat.pow_succ]; exact pow_le8 _ (by omega)
  have hpos : 0 < 256 ^ l.length := Nat.pow_pos (by omega)
  have e1 : IntKind.u64.wrap (b.toNat : Int) = (b.toNat : Int) := by rw [IntKind.wrap_u64]; omega
  have e2 : ((256 : Int) ^ l.length) = ((256 ^ l.length : Nat) : Int) := by simp
  rw [valL_snoc] at hl ⊢
  rw [e1, e2]
  have e3 : ((256 ^ l.length : Nat) : Int) % 18446744073709551616 = ((256 ^ l.length : Nat) : Int) := by omega
  have e4 : ((256 ^ l.length : Nat) : Int) * (b.toNat : Int) = ((b.toNat * 256 ^ l.length : Nat) : Int) := by
    rw [Int.natCast_mul, Int.mul_comm]
  rw [e3, e4, IntKind.wrap_u64, IntKind.wrap_u64]
  generalize b.toNat * 256 ^ l.length = x at *
  omega
theorem pow_step (k : Nat) : IntKind.u64.wrap ((256 ^ k : Int) % 18446744073709551616 * 256) = ((256 ^ (k + 1) % 18446744073709551616 : Nat) : Int) := by
  have e2 : ((256 : Int) ^ k) = ((256 ^ k : Nat) : Int) := by simp
  rw [e2, IntKind.wrap_u64, Nat.pow_succ]
  generalize 256 ^ k = x at *
  omega
/-- the byte that the plain answer lays, and what is left of the number -/
theorem byte_step (n j : Nat) : UInt8.ofNat (((n : Int) / 256 ^ j).tmod 256 % 256).toNat = UInt8.ofNat (n / 256 ^ j) := by
  have e : (n : Int) / 256 ^ j = ((n / 256 ^ j : Nat) : Int) := by simp
  rw [e]
  generalize n / 256 ^ j = x
  rw [Int.tmod_eq_emod_of_nonneg (by omega)]
  have : (((x : Int) % 256 % 256).toNat) = x % 256 := by omega
  rw [this]
  apply UInt8.toNat_inj.1
  simp
theorem div_step (n j : Nat) (hn : n < 2 ^ 64) : IntKind.u64.wrap (((n : Int) / 256 ^ j).tdiv 256) = ((n / 256 ^ (j + 1) : Nat) : Int) := by
  have e : (n : Int) / 256 ^ j = ((n / 256 ^ j : Nat) : Int) := by simp
  have hx : n / 256 ^ j < 2 ^ 64 := Nat.lt_of_le_of_lt (Nat.div_le_self _ _) hn
  rw [e, Nat.pow_succ, ← Nat.div_div_eq_div_mul]
  generalize n / 256 ^ j = x at *
  rw [Int.tdiv_eq_ediv_of_nonneg (by omega), IntKind.wrap_u64]
  omega
theorem ba_append (a b : List UInt8) : (⟨a.toArray⟩ : ByteArray) ++ ⟨b.toArray⟩ = ⟨(a ++ b).toArray⟩ := by
  apply ByteArray.ext
  simp
theorem ba_snoc (n j : Nat) : (⟨(numL n j).toArray⟩ : ByteArray) ++ ⟨#[UInt8.ofNat (((n : Int) / 256 ^ j).tmod 256 % 256).toNat]⟩ = ⟨(numL n (j + 1)).toArray⟩ := by
  rw [byte_step, numL_snoc]
  exact ba_append _ [_]

end WideP
end Go.Proofs.YtgpnhdnncfpbcaaDoor
