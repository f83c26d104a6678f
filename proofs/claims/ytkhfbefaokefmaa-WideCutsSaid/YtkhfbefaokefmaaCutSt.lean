/-
  A cut of a text s at a place 'at': what its methods answer while there is enough, and behind a cut that failed.
-/
import Derived.Test.YtkhfbefaokefmaaCut
import Derived.Test.YtkhfbefaokefmaaWideR
import Derived.Lib.Strings
namespace Go.Proofs.Ytkhfbefaokefmaa
open Go.RowKit WideP

namespace Cs
theorem ba_ext {a b : ByteArray} (h : a.data.toList = b.data.toList) : a = b := by
  apply ByteArray.ext
  exact Array.toList_inj.1 h
theorem ext_ext (s : ByteArray) (i n : Nat) (h : i + n ≤ s.size) : (s.extract i s.size).extract 0 n = s.extract i (i + n) := by
  apply ba_ext
  rw [Lib.extract_data, Lib.extract_data, Lib.extract_data, List.drop_zero, Nat.sub_zero, List.take_take]
  congr 1
  omega
theorem ext_drop (s : ByteArray) (i n : Nat) (_h : i + n ≤ s.size) : (s.extract i s.size).extract n (s.extract i s.size).size = s.extract (i + n) s.size := by
  apply ba_ext
  rw [Lib.extract_data, Lib.extract_data, Lib.extract_data, List.drop_take, List.drop_drop, List.take_take]
  congr 1
  simp
  omega
theorem ext_size (s : ByteArray) (i : Nat) : (s.extract i s.size).size = s.size - i := by simp

theorem okN_in (s : ByteArray) (i n : Nat) (h : i + n ≤ s.size) : Cu.okN (s.extract i s.size) n = true := by
  unfold Cu.okN; rw [ext_size]; simp; omega
theorem okN_out (s : ByteArray) (i : Nat) (n : Int) (h : n < 0 ∨ (s.size : Int) < i + n) (_hi : i ≤ s.size) : Cu.okN (s.extract i s.size) n = false := by
  unfold Cu.okN; rw [ext_size]; simp; omega

theorem outN_in (s : ByteArray) (i n : Nat) (h : i + n ≤ s.size) : Cu.outN (s.extract i s.size) n = s.extract i (i + n) := by
  unfold Cu.outN; rw [okN_in s i n h, if_pos rfl, Int.toNat_natCast, ext_ext s i n h]
theorem leftN_in (s : ByteArray) (i n : Nat) (h : i + n ≤ s.size) : Cu.leftN (s.extract i s.size) n = s.extract (i + n) s.size := by
  unfold Cu.leftN; rw [okN_in s i n h, if_pos rfl, Int.toNat_natCast, ext_drop s i n h]
theorem errN_in (s : ByteArray) (i n : Nat) (h : i + n ≤ s.size) : Cu.errN (s.extract i s.size) 0 n = 0 := by
  unfold Cu.errN; rw [okN_in s i n h, if_pos rfl]
theorem outN_out (s : ByteArray) (i : Nat) (n : Int) (h : n < 0 ∨ (s.size : Int) < i + n) (hi : i ≤ s.size) : Cu.outN (s.extract i s.size) n = ByteArray.empty := by
  unfold Cu.outN; rw [okN_out s i n h hi]; rfl
theorem leftN_out (s : ByteArray) (i : Nat) (n : Int) (h : n < 0 ∨ (s.size : Int) < i + n) (hi : i ≤ s.size) : Cu.leftN (s.extract i s.size) n = ByteArray.empty := by
  unfold Cu.leftN; rw [okN_out s i n h hi]; rfl
theorem errN_out (s : ByteArray) (i : Nat) (n : Int) (h : n < 0 ∨ (s.size : Int) < i + n) (hi : i ≤ s.size) : Cu.errN (s.extract i s.size) 0 n = 5 := by
  unfold Cu.errN; rw [okN_out s i n h hi]; rfl
theorem empty_ext (n : Nat) : (ByteArray.empty).extract 0 n = ByteArray.empty := by
  apply ba_ext; rw [Lib.extract_data]; simp
theorem empty_ext' (n : Nat) : (ByteArray.empty).extract n 0 = ByteArray.empty := by
  apply ba_ext; rw [Lib.extract_data]; simp
theorem outN_e (n : Int) : Cu.outN ByteArray.empty n = ByteArray.empty := by
  unfold Cu.outN; split
  · exact empty_ext _
  · rfl
theorem leftN_e (n : Int) : Cu.leftN ByteArray.empty n = ByteArray.empty := by
  unfold Cu.leftN; split
  · exact empty_ext' _
  · rfl
theorem errN_e (n : Int) : Cu.errN ByteArray.empty 5 n = 5 := by
  unfold Cu.errN; split <;> rfl
theorem val_e : valL (ByteArray.empty.data.toList.take 8) = 0 := rfl

/-- the number of what stands in a text -/
def numAt (s : ByteArray) (i n : Nat) : Nat := valL ((s.extract i (i + n)).data.toList.take 8)

variable (c : Nat) (s : ByteArray) (i : Nat) (w : World)

theorem rval_in (n : Nat) (hs : s.size ≤ 300) :
    Calls Try.prog 16 #[.string (s.extract i (i + n))] w fun e w' => e = .returned (.int .u64 (numAt s i n)) ∧ w = w' :=
  rval_any _ w (by unfold maxLen; simp; omega)
theorem rval_e : Calls Try.prog 16 #[.string ⟨#[]⟩] w fun e w' => e = .returned (.int .u64 0) ∧ w = w' :=
  rval_any _ w (by unfold maxLen; exact Nat.zero_le _)

theorem take_in (n : Nat) (h : i + n ≤ s.size) (hA : Cu.At c (s.extract i s.size) 0 w) :
    Calls Try.prog 20 #[.pointer (some ⟨c, 0, none⟩), .int .i64 n] w fun e w' => e = .returned (.string (s.extract i (i + n))) ∧ Cu.At c (s.extract (i + n) s.size) 0 w' ∧ w.grownBy w' (some c) := by
  have := Cu.take_any c _ 0 n w hA
  rwa [outN_in s i n h, leftN_in s i n h, errN_in s i n h] at this
theorem take_out (n : Int) (h : n < 0 ∨ (s.size : Int) < i + n) (hi : i ≤ s.size) (hA : Cu.At c (s.extract i s.size) 0 w) :
    Calls Try.prog 20 #[.pointer (some ⟨c, 0, none⟩), .int .i64 n] w fun e w' => e = .returned (.string ByteArray.empty) ∧ Cu.At c ByteArray.empty 5 w' ∧ w.grownBy w' (some c) := by
  have := Cu.take_any c _ 0 n w hA
  rwa [outN_out s i n h hi, leftN_out s i n h hi, errN_out s i n h hi] at this
theorem take_e (n : Int) (hA : Cu.At c ByteArray.empty 5 w) :
    Calls Try.prog 20 #[.pointer (some ⟨c, 0, none⟩), .int .i64 n] w fun e w' => e = .returned (.string ByteArray.empty) ∧ Cu.At c ByteArray.empty 5 w' ∧ w.grownBy w' (some c) := by
  have := Cu.take_any c _ 5 n w hA
  rwa [outN_e, leftN_e, errN_e] at this
theorem num_in (n : Nat) (h1 : 1 ≤ n) (h8 : n ≤ 8) (h : i + n ≤ s.size) (hs : s.size ≤ 300) (hA : Cu.At c (s.extract i s.size) 0 w) :
    Calls Try.prog 19 #[.pointer (some ⟨c, 0, none⟩), .int .i64 n] w fun e w' => e = .returned (.int .u64 (numAt s i n)) ∧ Cu.At c (s.extract (i + n) s.size) 0 w' ∧ w.grownBy w' (some c) := by
  have := Cu.num_any c _ 0 n (by rw [ext_size]; unfold maxLen; omega) w hA
  rwa [show Cu.widN n = n by unfold Cu.widN; rw [if_pos (by omega)], outN_in s i n h, leftN_in s i n h, errN_in s i n h] at this
theorem num_out (b : Int) (h : Cu.widN b < 0 ∨ (s.size : Int) < i + Cu.widN b) (hi : i ≤ s.size) (hs : s.size ≤ 300) (hA : Cu.At c (s.extract i s.size) 0 w) :
    Calls Try.prog 19 #[.pointer (some ⟨c, 0, none⟩), .int .i64 b] w fun e w' => e = .returned (.int .u64 0) ∧ Cu.At c ByteArray.empty 5 w' ∧ w.grownBy w' (some c) := by
  have := Cu.num_any c _ 0 b (by rw [ext_size]; unfold maxLen; omega) w hA
  rwa [outN_out s i _ h hi, leftN_out s i _ h hi, errN_out s i _ h hi, val_e] at this
theorem num_e (b : Int) (hA : Cu.At c ByteArray.empty 5 w) :
    Calls Try.prog 19 #[.pointer (some ⟨c, 0, none⟩), .int .i64 b] w fun e w' => e = .returned (.int .u64 0) ∧ Cu.At c ByteArray.empty 5 w' ∧ w.grownBy w' (some c) := by
  have := Cu.num_any c _ 5 b (Nat.zero_le _) w hA
  rwa [outN_e, leftN_e, errN_e, val_e] at this
theorem lenT_in (h : i + 4 ≤ s.size) : Cu.lenT (s.extract i s.size) = numAt s i 4 := by
  unfold Cu.lenT numAt
  rw [show Cu.outN (s.extract i s.size) 4 = s.extract i (i + 4) from outN_in s i 4 h]
theorem text_in (h : i + 4 ≤ s.size) (hm : i + 4 + numAt s i 4 ≤ s.size) (hs : s.size ≤ 300) (hA : Cu.At c (s.extract i s.size) 0 w) :
    Calls Try.prog 13 #[.pointer (some ⟨c, 0, none⟩)] w fun e w' => e = .returned (.string (s.extract (i + 4) (i + 4 + numAt s i 4))) ∧ Cu.At c (s.extract (i + 4 + numAt s i 4) s.size) 0 w' ∧ w.grownBy w' (some c) := by
  have := Cu.text_any c _ 0 (by rw [ext_size]; unfold maxLen; omega) w hA
  have e1 : Cu.leftN (s.extract i s.size) 4 = s.extract (i + 4) s.size := leftN_in s i 4 h
  have e2 : Cu.errN (s.extract i s.size) 0 4 = 0 := errN_in s i 4 h
  unfold Cu.outT Cu.leftT Cu.errT at this
  rwa [lenT_in s i h, e1, e2, outN_in s (i + 4) _ hm, leftN_in s (i + 4) _ hm, errN_in s (i + 4) _ hm] at this
theorem text_out1 (h : s.size < i + 4) (hi : i ≤ s.size) (_hs : s.size ≤ 300) (hA : Cu.At c (s.extract i s.size) 0 w) :
    Calls Try.prog 13 #[.pointer (some ⟨c, 0, none⟩)] w fun e w' => e = .returned (.string ByteArray.empty) ∧ Cu.At c ByteArray.empty 5 w' ∧ w.grownBy w' (some c) := by
  have := Cu.text_any c _ 0 (by rw [ext_size]; unfold maxLen; omega) w hA
  have e1 : Cu.leftN (s.extract i s.size) 4 = ByteArray.empty := leftN_out s i 4 (by omega) hi
  have e2 : Cu.errN (s.extract i s.size) 0 4 = 5 := errN_out s i 4 (by omega) hi
  unfold Cu.outT Cu.leftT Cu.errT at this
  rwa [e1, e2, outN_e, leftN_e, errN_e] at this
theorem text_out2 (h : i + 4 ≤ s.size) (hm : s.size < i + 4 + numAt s i 4) (hs : s.size ≤ 300) (hA : Cu.At c (s.extract i s.size) 0 w) :
    Calls Try.prog 13 #[.pointer (some ⟨c, 0, none⟩)] w fun e w' => e = .returned (.string ByteArray.empty) ∧ Cu.At c ByteArray.empty 5 w' ∧ w.grownBy w' (some c) := by
  have := Cu.text_any c _ 0 (by rw [ext_size]; unfold maxLen; omega) w hA
  have e1 : Cu.leftN (s.extract i s.size) 4 = s.extract (i + 4) s.size := leftN_in s i 4 h
  have e2 : Cu.errN (s.extract i s.size) 0 4 = 0 := errN_in s i 4 h
  have ho : ((numAt s i 4 : Nat) : Int) < 0 ∨ (s.size : Int) < (i + 4 : Nat) + ((numAt s i 4 : Nat) : Int) := by omega
  unfold Cu.outT Cu.leftT Cu.errT at this
  rwa [lenT_in s i h, e1, e2, outN_out s (i + 4) _ ho h, leftN_out s (i + 4) _ ho h, errN_out s (i + 4) _ ho h] at this
theorem text_e (hA : Cu.At c ByteArray.empty 5 w) :
    Calls Try.prog 13 #[.pointer (some ⟨c, 0, none⟩)] w fun e w' => e = .returned (.string ByteArray.empty) ∧ Cu.At c ByteArray.empty 5 w' ∧ w.grownBy w' (some c) := by
  have := Cu.text_any c _ 5 (Nat.zero_le _) w hA
  unfold Cu.outT Cu.leftT Cu.errT at this
  rwa [leftN_e, errN_e, outN_e, leftN_e, errN_e] at this
theorem rest_q (err : Int) (n : Nat) (hA : Cu.At c s err w) :
    Calls Try.prog 17 #[.pointer (some ⟨c, 0, none⟩)] (w.drewN n) fun e w' => e = .returned (.string s) ∧ w' = w.drewN n :=
  (Cu.rest_any c s err (w.drewN n) hA).mono fun _ _ ⟨a, b⟩ => ⟨a, b.symm⟩
theorem err_q (err : Int) (n : Nat) (hA : Cu.At c s err w) :
    Calls Try.prog 18 #[.pointer (some ⟨c, 0, none⟩)] (w.drewN n) fun e w' => e = .returned (.int .i64 err) ∧ w' = w.drewN n :=
  (Cu.err_any c s err (w.drewN n) hA).mono fun _ _ ⟨a, b⟩ => ⟨a, b.symm⟩
end Cs
end Go.Proofs.Ytkhfbefaokefmaa
