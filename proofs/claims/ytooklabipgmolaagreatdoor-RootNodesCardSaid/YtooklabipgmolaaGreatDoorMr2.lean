/-
 What stands ahead, read; the contract of rlp.head.
-/
import Derived.Test.YtooklabipgmolaaGreatDoorMr1
import Derived.Laws.BitsAllLaws
import Derived.WalkKit
import Derived.Deep.RegionHeld3
import Derived.Laws.Rows
import Derived.Below
import Derived.ChangeAlike
import Derived.Lib.AppendZeros
import Derived.Laws.AppendOwnNone
import Derived.Test.YtooklabipgmolaaGreatDoorRows
import Derived.WalkSpells
import Derived.WalkLawsBesides
import Derived.Lib.Hide
import Derived.RegionTactic
import Derived.Lib.Strings
import Derived.Lib.Slices
import Derived.Lib.Walk
import Derived.Lib.Builder
import Derived.Lib.AppendStr
import Derived.Lib.UnsafeStr
import Derived.Laws.Externs
import Derived.Lib.OthersKept
import Derived.OwnWalk
open Go.Lib (hid)
set_option linter.unusedSimpArgs false
set_option linter.unusedVariables false
set_option maxHeartbeats 40000000
set_option maxRecDepth 100000
namespace Go.Proofs.YtooklabipgmolaaGreatDoor
section
open Go.RowKit
namespace Rl
open Pk
def valB (l : List UInt8) : Nat := l.foldl (fun a b => a * 256 + b.toNat) 0
theorem valB_snoc (l : List UInt8) (c : UInt8) : valB (l ++ [c]) = valB l * 256 + c.toNat := by simp [valB]
theorem valB_from (l : List UInt8) : ∀ a, l.foldl (fun a b => a * 256 + b.toNat) a < (a + 1) * 256 ^ l.length := by
 induction l with
 | nil => intro a; simp
 | cons c l ih =>
  intro a
  rw [List.foldl_cons, List.length_cons, Nat.pow_succ]
  have h1 := ih (a * 256 + c.toNat)
  have h2 := c.toNat_lt
  have h3 : (a * 256 + c.toNat + 1) * 256 ^ l.length ≤ ((a + 1) * 256) * 256 ^ l.length := Nat.mul_le_mul_right _ (by omega)
  have h4 : (a + 1) * (256 ^ l.length * 256) = ((a + 1) * 256) * 256 ^ l.length := by
   rw [Nat.mul_comm (256 ^ l.length) 256, Nat.mul_assoc]
  omega
theorem valB_lt (l : List UInt8) : valB l < 256 ^ l.length := by
 have := valB_from l 0
 simpa [valB] using this
def headE : List UInt8 → Except Int (Bool × Nat × Nat)
 | [] => .error 5
 | c :: t =>
  if c.toNat < 128 then .ok (false, 0, 1)
  else if c.toNat - (if 192 ≤ c.toNat then 192 else 128) ≤ 55 then .ok (decide (192 ≤ c.toNat), 1, c.toNat - (if 192 ≤ c.toNat then 192 else 128))
  else if t.length < c.toNat - (if 192 ≤ c.toNat then 192 else 128) - 55 then .error 5
  else if t.headD 0 = 0 ∨ valB (t.take (c.toNat - (if 192 ≤ c.toNat then 192 else 128) - 55)) ≤ 55 then .error 6
  else .ok (decide (192 ≤ c.toNat), 1 + (c.toNat - (if 192 ≤ c.toNat then 192 else 128) - 55), valB (t.take (c.toNat - (if 192 ≤ c.toNat then 192 else 128) - 55)))
def HeadsTo (s : ByteArray) : Except Int (Bool × Nat × Nat) → Prop
 | .error c => ∀ w, Calls Tryz.prog 171 #[.string s] w fun e w' => e = .panicked [errP c] ∧ w = w'
 | .ok (l, a, v) => ∀ w, Calls Tryz.prog 171 #[.string s] w fun e w' => e = .returned (.tuple #[.bool l, .int .i64 a, .int .u64 v]) ∧ w = w'
theorem size_len (s : ByteArray) : s.size = s.data.toList.length := by rw [Array.length_toList]; rfl
theorem get_at (s : ByteArray) (i : Nat) (h : i < s.size) : s[i] = s.data.toList.getD i 0 := by
 have h' : i < s.data.toList.length := by rw [← size_len]; exact h
 rw [List.getD_eq_getElem?_getD, List.getElem?_eq_getElem h']
 simp
 rfl
theorem head_nil (s : ByteArray) (h : s.data.toList = []) : HeadsTo s (.error 5) := by
 intro w
 have hs : s.size = 0 := by rw [size_len, h]; rfl
 have hnil : (s.toList == []) = true := by rw [ByteArray.toList_eq, h]; rfl
 go_enter Tryz.func171, Tryz.ntmps171
 go_wp2_with (go_at_call 130; refine (fail_any _ _).mono ?_; rintro e w1 ⟨rfl, rfl⟩)
 simp [bodyPost]
theorem head_text (s : ByteArray) (c : UInt8) (t : List UInt8) (h : s.data.toList = c :: t) (hc : c.toNat < 128) : HeadsTo s (.ok (false, 0, 1)) := by
 intro w
 have hs : 0 < s.size := by rw [size_len, h]; simp
 have hnil : (s.toList == []) = false := by rw [ByteArray.toList_eq, h]; rfl
 have h0 : s[0] = c := by rw [get_at s 0 hs, h]; rfl
 have hlt : s[0].toNat < 128 := by rw [h0]; exact hc
 clear h h0 hc
 go_enter Tryz.func171, Tryz.ntmps171
 go_wp2
 go_ret3
 exact ⟨rfl, rfl⟩
def firstN (c : UInt8) : Nat := c.toNat - (if 192 ≤ c.toNat then 192 else 128)
theorem head_short (s : ByteArray) (c : UInt8) (t : List UInt8) (h : s.data.toList = c :: t) (hc : ¬ c.toNat < 128) (hn : firstN c ≤ 55) : HeadsTo s (.ok (decide (192 ≤ c.toNat), 1, firstN c)) := by
 intro w
 have hs : 0 < s.size := by rw [size_len, h]; simp
 have hnil : (s.toList == []) = false := by rw [ByteArray.toList_eq, h]; rfl
 have h0 : s[0] = c := by rw [get_at s 0 hs, h]; rfl
 clear h
 unfold firstN at hn ⊢
 by_cases h192 : 192 ≤ c.toNat
 ·rw [if_pos h192] at hn ⊢
  obtain ⟨m, hm⟩ : ∃ m : Nat, c.toNat = 192 + m := ⟨c.toNat - 192, by omega⟩
  rw [← h0] at hm
  have hd : Hid (decide (192 ≤ c.toNat) = decide ((192 : Int) ≤ 192 + (m : Int))) := hid (by rw [← h0, hm]; apply decide_eq_decide.2; omega)
  have hv : Hid (((c.toNat - 192 : Nat) : Int) = 192 + (m : Int) - 192) := hid (by rw [← h0, hm]; omega)
  have hm2 : m ≤ 55 := by rw [← h0] at hn; omega
  skip
  clear h192 hn h0 hc
  go_enter Tryz.func171, Tryz.ntmps171
  go_wp2
  go_ret3
  exact ⟨by rw [hd.out, hv.out]; rfl, rfl⟩
 ·rw [if_neg h192] at hn ⊢
  obtain ⟨m, hm⟩ : ∃ m : Nat, c.toNat = 128 + m := ⟨c.toNat - 128, by omega⟩
  rw [← h0] at hm
  have hd : Hid (decide (192 ≤ c.toNat) = decide ((192 : Int) ≤ 128 + (m : Int))) := hid (by rw [← h0, hm]; apply decide_eq_decide.2; omega)
  have hv : Hid (((c.toNat - 128 : Nat) : Int) = 128 + (m : Int) - 128) := hid (by rw [← h0, hm]; omega)
  have hm2 : m ≤ 55 := by rw [← h0] at hn; omega
  have hlt : m < 64 := by rw [← h0] at h192; omega
  clear h192 hn h0 hc
  go_enter Tryz.func171, Tryz.ntmps171
  go_wp2
  go_ret3
  exact ⟨by rw [hd.out, hv.out]; rfl, rfl⟩
theorem or_byte (x b : Nat) (hx : x < 72057594037927936) (hb : b < 256) : bits .or .u64 (IntKind.u64.wrap ((x : Int) * 256)) (IntKind.u64.wrap (b : Int)) = ((x * 256 + b : Nat) : Int) := by
 have e1 : IntKind.u64.wrap ((x : Int) * 256) = ((x * 256 : Nat) : Int) := by rw [IntKind.wrap_u64]; omega
 have e2 : IntKind.u64.wrap (b : Int) = ((b : Nat) : Int) := by rw [IntKind.wrap_u64]; omega
 rw [e1, e2, u64_or_nat _ _ (by omega) (by omega), nat_join 8 _ _ (by omega) (by omega)]
theorem take_next (l : List UInt8) (q : Nat) (h1 : 1 ≤ q) (hq : q < l.length) : (l.drop 1).take q = (l.drop 1).take (q - 1) ++ [l.getD q 0] := by
 have h2 : q - 1 < (l.drop 1).length := by rw [List.length_drop]; omega
 have := List.take_succ_eq_append_getElem h2
 rw [show q - 1 + 1 = q by omega] at this
 rw [this]
 congr 2
 rw [List.getElem_drop, List.getD_eq_getElem?_getD, List.getElem?_eq_getElem hq]
 simp [show 1 + (q - 1) = q by omega]
theorem pow_le7 {k n : Nat} (h : n < 256 ^ k) (hk : k ≤ 7) : n < 72057594037927936 := Nat.lt_of_lt_of_le h (Nat.pow_le_pow_right (by omega) hk)
theorem first_of' {s : ByteArray} (h : 0 < s.size) : s.data.toList.headD 0 = s[0] := by
 obtain ⟨⟨l⟩⟩ := s
 cases l with
 | nil => simp [ByteArray.size] at h
 | cons c l => rfl
theorem head_cutL (s : ByteArray) (m : Nat) (hm : s.data.toList.headD 0 = UInt8.ofNat (192 + m)) (h56 : 56 ≤ m) (h64 : m ≤ 63) (hs : 0 < s.size) (hcut : s.size < m - 54) : HeadsTo s (.error 5) := by
 intro w
 have hnil : (s.toList == []) = false := by
  rw [beq_eq_false_iff_ne, ByteArray.toList_eq]
  intro e
  rw [size_len, e] at hs
  simp at hs
 have h0 : s[0].toNat = 192 + m := by
  rw [← first_of' hs, hm]
  simp
  omega
 clear hm
 go_enter Tryz.func171, Tryz.ntmps171
 go_wp2_with (go_at_call 130; refine (fail_any _ _).mono ?_; rintro e w1 ⟨rfl, rfl⟩)
 simp [bodyPost]
theorem head_cutT (s : ByteArray) (m : Nat) (hm : s.data.toList.headD 0 = UInt8.ofNat (128 + m)) (h56 : 56 ≤ m) (h64 : m ≤ 63) (hs : 0 < s.size) (hcut : s.size < m - 54) : HeadsTo s (.error 5) := by
 intro w
 have hnil : (s.toList == []) = false := by
  rw [beq_eq_false_iff_ne, ByteArray.toList_eq]
  intro e
  rw [size_len, e] at hs
  simp at hs
 have h0 : s[0].toNat = 128 + m := by
  rw [← first_of' hs, hm]
  simp
  omega
 clear hm
 go_enter Tryz.func171, Tryz.ntmps171
 go_wp2_with (go_at_call 130; refine (fail_any _ _).mono ?_; rintro e w1 ⟨rfl, rfl⟩)
 simp [bodyPost]
theorem head_longL (s : ByteArray) (m : Nat) (hm : s.data.toList.headD 0 = UInt8.ofNat (192 + m)) (h56 : 56 ≤ m) (h64 : m ≤ 63) (hcut : m - 54 ≤ s.size) (hgood : s.data.toList.getD 1 0 ≠ 0 ∧ 55 < valB ((s.data.toList.drop 1).take (m - 55))) : HeadsTo s (.ok (true, m - 54, valB ((s.data.toList.drop 1).take (m - 55)))) := by
 intro w
 have hs : 0 < s.size := by omega
 have hnil : (s.toList == []) = false := by
  rw [beq_eq_false_iff_ne, ByteArray.toList_eq]
  intro e
  rw [size_len, e] at hs
  simp at hs
 have h0 : s[0].toNat = 192 + m := by
  rw [← first_of' hs, hm]
  simp
  omega
 obtain ⟨V, hV⟩ : ∃ V, valB ((s.data.toList.drop 1).take (m - 55)) = V := ⟨_, rfl⟩
 rw [hV] at hgood ⊢
 have HV := hid hV
 clear hm hV
 go_enter Tryz.func171, Tryz.ntmps171
 go_wp2
 go_loop [4, 6] (fun v i => ∃ q x : Nat, 1 ≤ q ∧ q ≤ m - 54 ∧ i = .int .i64 q ∧ v = .int .u64 x ∧ Hid (x = valB ((s.data.toList.drop 1).take (q - 1)))) (fun _ i => m - (intOf i).toNat)
 case atStart => exact ⟨1, 0, by omega, by omega, rfl, rfl, hid rfl⟩
 case round =>
  obtain ⟨q, x, hq1, hq, rfl, rfl, HX⟩ := hrel
  by_cases hlt : q < m - 54
  ·have hqs : q < s.size := by omega
   have hx : x < 72057594037927936 := by
    rw [HX.out]
    exact pow_le7 (valB_lt _) (by rw [List.length_take, List.length_drop]; omega)
   have HS : Hid (bits .or .u64 ((x : Int) * 256) (IntKind.u64.wrap (s[q].toNat : Int)) = ((x * 256 + s[q].toNat : Nat) : Int)) := hid (by rw [← or_byte _ _ hx s[q].toNat_lt, show IntKind.u64.wrap ((x : Int) * 256) = (x : Int) * 256 by rw [IntKind.wrap_u64]; omega])
   have HN : Hid (x * 256 + s[q].toNat = valB ((s.data.toList.drop 1).take (q + 1 - 1))) := hid (by
    rw [show q + 1 - 1 = q by omega, take_next _ q hq1 (by rw [← size_len]; exact hqs), valB_snoc, ← HX.out, get_at s q hqs])
   go_wp2
   go_round
   case rel => exact ⟨q + 1, _, by omega, by omega, by go_num, by rw [HS.out], hid HN.out⟩
   case measure => simp [intOf]; omega
  ·obtain rfl : q = m - 54 := by omega
   have hv : x = V := by rw [HX.out, ← HV.out, show m - 54 - 1 = m - 55 by omega]
   have hs1 : 1 < s.size := by omega
   have h1 : s[1].toNat ≠ 0 := by
    rw [get_at s 1 hs1]
    intro e
    exact hgood.1 (UInt8.toNat_inj.1 e)
   have hb1 : ((s[1].toNat : Int) == 0) = false := by simp; omega
   have hV := hgood.2
   subst hv
   have hA : Hid (((m - 54 : Nat) : Int) = 1 + (192 + (m : Int) - 192) - 55) := hid (by omega)
   clear HX HV hgood hlt h1
   go_wp2
   go_ret3
   exact ⟨by rw [hA.out]; rfl, rfl⟩
theorem head_longT (s : ByteArray) (m : Nat) (hm : s.data.toList.headD 0 = UInt8.ofNat (128 + m)) (h56 : 56 ≤ m) (h64 : m ≤ 63) (hcut : m - 54 ≤ s.size) (hgood : s.data.toList.getD 1 0 ≠ 0 ∧ 55 < valB ((s.data.toList.drop 1).take (m - 55))) : HeadsTo s (.ok (false, m - 54, valB ((s.data.toList.drop 1).take (m - 55)))) := by
 intro w
 have hs : 0 < s.size := by omega
 have hnil : (s.toList == []) = false := by
  rw [beq_eq_false_iff_ne, ByteArray.toList_eq]
  intro e
  rw [size_len, e] at hs
  simp at hs
 have h0 : s[0].toNat = 128 + m := by
  rw [← first_of' hs, hm]
  simp
  omega
 obtain ⟨V, hV⟩ : ∃ V, valB ((s.data.toList.drop 1).take (m - 55)) = V := ⟨_, rfl⟩
 rw [hV] at hgood ⊢
 have HV := hid hV
 clear hm hV
 go_enter Tryz.func171, Tryz.ntmps171
 go_wp2
 go_loop [4, 6] (fun v i => ∃ q x : Nat, 1 ≤ q ∧ q ≤ m - 54 ∧ i = .int .i64 q ∧ v = .int .u64 x ∧ Hid (x = valB ((s.data.toList.drop 1).take (q - 1)))) (fun _ i => m - (intOf i).toNat)
 case atStart => exact ⟨1, 0, by omega, by omega, rfl, rfl, hid rfl⟩
 case round =>
  obtain ⟨q, x, hq1, hq, rfl, rfl, HX⟩ := hrel
  by_cases hlt : q < m - 54
  ·have hqs : q < s.size := by omega
   have hx : x < 72057594037927936 := by
    rw [HX.out]
    exact pow_le7 (valB_lt _) (by rw [List.length_take, List.length_drop]; omega)
   have HS : Hid (bits .or .u64 ((x : Int) * 256) (IntKind.u64.wrap (s[q].toNat : Int)) = ((x * 256 + s[q].toNat : Nat) : Int)) := hid (by rw [← or_byte _ _ hx s[q].toNat_lt, show IntKind.u64.wrap ((x : Int) * 256) = (x : Int) * 256 by rw [IntKind.wrap_u64]; omega])
   have HN : Hid (x * 256 + s[q].toNat = valB ((s.data.toList.drop 1).take (q + 1 - 1))) := hid (by
    rw [show q + 1 - 1 = q by omega, take_next _ q hq1 (by rw [← size_len]; exact hqs), valB_snoc, ← HX.out, get_at s q hqs])
   go_wp2
   go_round
   case rel => exact ⟨q + 1, _, by omega, by omega, by go_num, by rw [HS.out], hid HN.out⟩
   case measure => simp [intOf]; omega
  ·obtain rfl : q = m - 54 := by omega
   have hv : x = V := by rw [HX.out, ← HV.out, show m - 54 - 1 = m - 55 by omega]
   have hs1 : 1 < s.size := by omega
   have h1 : s[1].toNat ≠ 0 := by
    rw [get_at s 1 hs1]
    intro e
    exact hgood.1 (UInt8.toNat_inj.1 e)
   have hb1 : ((s[1].toNat : Int) == 0) = false := by simp; omega
   have hV := hgood.2
   subst hv
   have hF : Hid (decide ((192 : Int) ≤ 128 + (m : Int)) = false) := hid (by simp; omega)
   have hA : Hid (((m - 54 : Nat) : Int) = 1 + (128 + (m : Int) - 128) - 55) := hid (by omega)
   clear HX HV hgood hlt h1
   go_wp2
   go_ret3
   refine ⟨?_, rfl⟩
   rw [hA.out]
   show Ending.returned (.tuple #[.bool (decide ((192 : Int) ≤ 128 + (m : Int))), _, _]) = _
   rw [hF.out]
   rfl
theorem head_badL (s : ByteArray) (m : Nat) (hm : s.data.toList.headD 0 = UInt8.ofNat (192 + m)) (h56 : 56 ≤ m) (h64 : m ≤ 63) (hcut : m - 54 ≤ s.size) (hbad : s.data.toList.getD 1 0 = 0 ∨ valB ((s.data.toList.drop 1).take (m - 55)) ≤ 55) : HeadsTo s (.error 6) := by
 intro w
 have hs : 0 < s.size := by omega
 have hnil : (s.toList == []) = false := by
  rw [beq_eq_false_iff_ne, ByteArray.toList_eq]
  intro e
  rw [size_len, e] at hs
  simp at hs
 have h0 : s[0].toNat = 192 + m := by
  rw [← first_of' hs, hm]
  simp
  omega
 obtain ⟨V, hV⟩ : ∃ V, valB ((s.data.toList.drop 1).take (m - 55)) = V := ⟨_, rfl⟩
 rw [hV] at hbad
 have HV := hid hV
 clear hm hV
 go_enter Tryz.func171, Tryz.ntmps171
 go_wp2
 go_loop [4, 6] (fun v i => ∃ q x : Nat, 1 ≤ q ∧ q ≤ m - 54 ∧ i = .int .i64 q ∧ v = .int .u64 x ∧ Hid (x = valB ((s.data.toList.drop 1).take (q - 1)))) (fun _ i => m - (intOf i).toNat)
 case atStart => exact ⟨1, 0, by omega, by omega, rfl, rfl, hid rfl⟩
 case round =>
  obtain ⟨q, x, hq1, hq, rfl, rfl, HX⟩ := hrel
  by_cases hlt : q < m - 54
  ·have hqs : q < s.size := by omega
   have hx : x < 72057594037927936 := by
    rw [HX.out]
    exact pow_le7 (valB_lt _) (by rw [List.length_take, List.length_drop]; omega)
   have HS : Hid (bits .or .u64 ((x : Int) * 256) (IntKind.u64.wrap (s[q].toNat : Int)) = ((x * 256 + s[q].toNat : Nat) : Int)) := hid (by rw [← or_byte _ _ hx s[q].toNat_lt, show IntKind.u64.wrap ((x : Int) * 256) = (x : Int) * 256 by rw [IntKind.wrap_u64]; omega])
   have HN : Hid (x * 256 + s[q].toNat = valB ((s.data.toList.drop 1).take (q + 1 - 1))) := hid (by
    rw [show q + 1 - 1 = q by omega, take_next _ q hq1 (by rw [← size_len]; exact hqs), valB_snoc, ← HX.out, get_at s q hqs])
   go_wp2
   go_round
   case rel => exact ⟨q + 1, _, by omega, by omega, by go_num, by rw [HS.out], hid HN.out⟩
   case measure => simp [intOf]; omega
  ·obtain rfl : q = m - 54 := by omega
   have hv : x = V := by rw [HX.out, ← HV.out, show m - 54 - 1 = m - 55 by omega]
   have hs1 : 1 < s.size := by omega
   have h1 : s[1].toNat = 0 ∨ x ≤ 55 := by
    rw [get_at s 1 hs1, hv]
    rcases hbad with h | h
    ·exact .inl (by rw [h]; rfl)
    ·exact .inr h
   subst hv
   clear HX HV hbad hlt
   by_cases hz : s[1].toNat = 0
   ·have hb1 : ((s[1].toNat : Int) == 0) = true := by simp; omega
    clear hz h1
    go_wp2_with (go_at_call 130; refine (fail_any _ _).mono ?_; rintro e w1 ⟨rfl, rfl⟩)
    simp [bodyPost]
   ·have hb1 : ((s[1].toNat : Int) == 0) = false := by simp; omega
    have hx55 : x ≤ 55 := by omega
    clear hz h1
    go_wp2_with (go_at_call 130; refine (fail_any _ _).mono ?_; rintro e w1 ⟨rfl, rfl⟩)
    simp [bodyPost]
theorem head_badT (s : ByteArray) (m : Nat) (hm : s.data.toList.headD 0 = UInt8.ofNat (128 + m)) (h56 : 56 ≤ m) (h64 : m ≤ 63) (hcut : m - 54 ≤ s.size) (hbad : s.data.toList.getD 1 0 = 0 ∨ valB ((s.data.toList.drop 1).take (m - 55)) ≤ 55) : HeadsTo s (.error 6) := by
 intro w
 have hs : 0 < s.size := by omega
 have hnil : (s.toList == []) = false := by
  rw [beq_eq_false_iff_ne, ByteArray.toList_eq]
  intro e
  rw [size_len, e] at hs
  simp at hs
 have h0 : s[0].toNat = 128 + m := by
  rw [← first_of' hs, hm]
  simp
  omega
 obtain ⟨V, hV⟩ : ∃ V, valB ((s.data.toList.drop 1).take (m - 55)) = V := ⟨_, rfl⟩
 rw [hV] at hbad
 have HV := hid hV
 clear hm hV
 go_enter Tryz.func171, Tryz.ntmps171
 go_wp2
 go_loop [4, 6] (fun v i => ∃ q x : Nat, 1 ≤ q ∧ q ≤ m - 54 ∧ i = .int .i64 q ∧ v = .int .u64 x ∧ Hid (x = valB ((s.data.toList.drop 1).take (q - 1)))) (fun _ i => m - (intOf i).toNat)
 case atStart => exact ⟨1, 0, by omega, by omega, rfl, rfl, hid rfl⟩
 case round =>
  obtain ⟨q, x, hq1, hq, rfl, rfl, HX⟩ := hrel
  by_cases hlt : q < m - 54
  ·have hqs : q < s.size := by omega
   have hx : x < 72057594037927936 := by
    rw [HX.out]
    exact pow_le7 (valB_lt _) (by rw [List.length_take, List.length_drop]; omega)
   have HS : Hid (bits .or .u64 ((x : Int) * 256) (IntKind.u64.wrap (s[q].toNat : Int)) = ((x * 256 + s[q].toNat : Nat) : Int)) := hid (by rw [← or_byte _ _ hx s[q].toNat_lt, show IntKind.u64.wrap ((x : Int) * 256) = (x : Int) * 256 by rw [IntKind.wrap_u64]; omega])
   have HN : Hid (x * 256 + s[q].toNat = valB ((s.data.toList.drop 1).take (q + 1 - 1))) := hid (by
    rw [show q + 1 - 1 = q by omega, take_next _ q hq1 (by rw [← size_len]; exact hqs), valB_snoc, ← HX.out, get_at s q hqs])
   go_wp2
   go_round
   case rel => exact ⟨q + 1, _, by omega, by omega, by go_num, by rw [HS.out], hid HN.out⟩
   case measure => simp [intOf]; omega
  ·obtain rfl : q = m - 54 := by omega
   have hv : x = V := by rw [HX.out, ← HV.out, show m - 54 - 1 = m - 55 by omega]
   have hs1 : 1 < s.size := by omega
   have h1 : s[1].toNat = 0 ∨ x ≤ 55 := by
    rw [get_at s 1 hs1, hv]
    rcases hbad with h | h
    ·exact .inl (by rw [h]; rfl)
    ·exact .inr h
   subst hv
   clear HX HV hbad hlt
   by_cases hz : s[1].toNat = 0
   ·have hb1 : ((s[1].toNat : Int) == 0) = true := by simp; omega
    clear hz h1
    go_wp2_with (go_at_call 130; refine (fail_any _ _).mono ?_; rintro e w1 ⟨rfl, rfl⟩)
    simp [bodyPost]
   ·have hb1 : ((s[1].toNat : Int) == 0) = false := by simp; omega
    have hx55 : x ≤ 55 := by omega
    clear hz h1
    go_wp2_with (go_at_call 130; refine (fail_any _ _).mono ?_; rintro e w1 ⟨rfl, rfl⟩)
    simp [bodyPost]
theorem head_tells (s : ByteArray) : HeadsTo s (headE s.data.toList) := by
 obtain ⟨l, hl⟩ : ∃ l, s.data.toList = l := ⟨_, rfl⟩
 cases l with
 | nil => rw [hl]; exact head_nil s hl
 | cons c t =>
  have hsz : s.size = t.length + 1 := by rw [size_len, hl]; rfl
  have hh : s.data.toList.headD 0 = c := by rw [hl]; rfl
  have hd1 : s.data.toList.drop 1 = t := by rw [hl]; rfl
  have hg1 : s.data.toList.getD 1 0 = t.headD 0 := by rw [hl]; cases t <;> rfl
  have hc := c.toNat_lt
  have hof : ∀ k, c.toNat = k → c = UInt8.ofNat k := fun k e => by rw [← e]; simp
  rw [hl]
  dsimp only [headE]
  by_cases h1 : c.toNat < 128
  ·rw [if_pos h1]; exact head_text s c t hl h1
  ·rw [if_neg h1]
   by_cases h2 : c.toNat - (if 192 ≤ c.toNat then 192 else 128) ≤ 55
   ·rw [if_pos h2]; exact head_short s c t hl h1 h2
   ·rw [if_neg h2]
    by_cases h192 : 192 ≤ c.toNat
    ·simp only [if_pos h192, decide_eq_true h192] at h2 ⊢
     have hcm : c = UInt8.ofNat (192 + (c.toNat - 192)) := hof _ (by omega)
     by_cases h3 : t.length < c.toNat - 192 - 55
     ·rw [if_pos h3]
      exact head_cutL s (c.toNat - 192) (by rw [hh]; exact hcm) (by omega) (by omega) (by omega) (by omega)
     ·rw [if_neg h3]
      by_cases h4 : t.headD 0 = 0 ∨ valB (t.take (c.toNat - 192 - 55)) ≤ 55
      ·rw [if_pos h4]
       exact head_badL s (c.toNat - 192) (by rw [hh]; exact hcm) (by omega) (by omega) (by omega) (by rw [hd1, hg1]; exact h4)
      ·rw [if_neg h4]
       have := head_longL s (c.toNat - 192) (by rw [hh]; exact hcm) (by omega) (by omega) (by omega) (by
        rw [hd1, hg1]
        exact ⟨fun e => h4 (.inl e), by omega⟩)
       rw [hd1, show c.toNat - 192 - 54 = 1 + (c.toNat - 192 - 55) by omega] at this
       exact this
    ·simp only [if_neg h192, decide_eq_false h192] at h2 ⊢
     have hcm : c = UInt8.ofNat (128 + (c.toNat - 128)) := hof _ (by omega)
     by_cases h3 : t.length < c.toNat - 128 - 55
     ·rw [if_pos h3]
      exact head_cutT s (c.toNat - 128) (by rw [hh]; exact hcm) (by omega) (by omega) (by omega) (by omega)
     ·rw [if_neg h3]
      by_cases h4 : t.headD 0 = 0 ∨ valB (t.take (c.toNat - 128 - 55)) ≤ 55
      ·rw [if_pos h4]
       exact head_badT s (c.toNat - 128) (by rw [hh]; exact hcm) (by omega) (by omega) (by omega) (by rw [hd1, hg1]; exact h4)
      ·rw [if_neg h4]
       have := head_longT s (c.toNat - 128) (by rw [hh]; exact hcm) (by omega) (by omega) (by omega) (by
        rw [hd1, hg1]
        exact ⟨fun e => h4 (.inl e), by omega⟩)
       rw [hd1, show c.toNat - 128 - 54 = 1 + (c.toNat - 128 - 55) by omega] at this
       exact this
end Rl
end
section
open Go.RowKit
namespace Rg
def nthO : List Oper → Nat → Option Oper
 | [], _ => none
 | o :: _, 0 => some o
 | _ :: l, n + 1 => nthO l n
theorem nthO_eq : ∀ (l : List Oper) (n : Nat), l[n]? = nthO l n
 | [], _ => by simp [nthO]
 | _ :: _, 0 => by simp [nthO]
 | _ :: l, n + 1 => by simpa [nthO] using nthO_eq l n
theorem takeL {P : Program} {md : Region.Mode} {l : List Oper} {Q : Exit → Act → World → Prop} {S : World → Prop} {i : Nat} {oi : Oper} {v : Value} {fuel : Nat} {listed : Array Bool} {a : Act} {w : World} (hi : nthO l i = some oi)
  (hs : Region.noSelect l.toArray = true) (hf : Region.free md l.toArray listed i = true) (hr : (Region.ready md l.toArray listed).contains i = true)
  (hQ : ∀ c a w, Q (.panic c) (a.put oi.dst v) w → Q (.panic c) a w) (hy : YieldsIf P l.toArray S oi v a) (hS : S w)
  (h : wpAnyH P md l.toArray Q S fuel (listed.setIfInBounds i true) (a.put oi.dst v) w) : wpAnyH P md l.toArray Q S (fuel + 1) listed a w :=
 wpAnyH_take (by rw [List.getElem?_toArray, nthO_eq]; exact hi) hs hf hr hQ hy hS h
theorem readyL {P : Program} {md : Region.Mode} {l : List Oper} {Q : Exit → Act → World → Prop} {S : World → Prop} {fuel : Nat} {listed : Array Bool} {a : Act} {w : World} {i : Nat} {o : Oper} (ho : nthO l i = some o)
  (h : ∀ K' : Act → World → Prop, Shut (∀ a w, S w → (S w → wpAnyH P md l.toArray Q S fuel (listed.setIfInBounds i true) a w) → K' a w) → if Region.wanted o (yielded l.toArray a.tmps) = true then Oper.wp P o a w K' Q else K' (a.put o.dst undef) w) : AllReadyH P md l.toArray Q S fuel listed a w [i] :=
 AllReadyH.cons (by rw [List.getElem?_toArray, nthO_eq]; exact ho) h AllReadyH.nil
theorem readyC {P : Program} {md : Region.Mode} {l : List Oper} {Q : Exit → Act → World → Prop} {S : World → Prop} {fuel : Nat} {listed : Array Bool} {a : Act} {w : World} {i : Nat} {rs : List Nat} {o : Oper} (ho : nthO l i = some o)
  (h : ∀ K' : Act → World → Prop, Shut (∀ a w, S w → (S w → wpAnyH P md l.toArray Q S fuel (listed.setIfInBounds i true) a w) → K' a w) → if Region.wanted o (yielded l.toArray a.tmps) = true then Oper.wp P o a w K' Q else K' (a.put o.dst undef) w)
  (hs : AllReadyH P md l.toArray Q S fuel listed a w rs) : AllReadyH P md l.toArray Q S fuel listed a w (i :: rs) :=
 AllReadyH.cons (by rw [List.getElem?_toArray, nthO_eq]; exact ho) h hs
theorem s {α : Type} : (∀ (l : List α) (i : Nat) (x : α), l.toArray.setIfInBounds i x = (l.set i x).toArray) ∧ (∀ (l : List α) (x y : α), (y :: l).set 0 x = x :: l) ∧ ∀ (l : List α) (i : Nat) (x y : α), (y :: l).set (i + 1) x = y :: l.set i x :=
 ⟨fun _ _ _ => List.setIfInBounds_toArray .., fun _ _ _ => List.set_cons_zero .., fun _ _ _ _ => List.set_cons_succ ..⟩
theorem tk {P : Program} {md : Region.Mode} {l : List Oper} {Q : Exit → Act → World → Prop} {S : World → Prop} {i : Nat} {oi : Oper} {v : Value} {fuel : Nat} {listed : Array Bool} {a : Act} {w : World} (hi : nthO l i = some oi)
  (h : wpAnyH P md l.toArray Q S fuel (listed.setIfInBounds i true) (a.put oi.dst v) w) (hs : Region.noSelect l.toArray = true := by kernel_rfl) (hf : Region.free md l.toArray listed i = true := by kernel_rfl) (hr : (Region.ready md l.toArray listed).contains i = true := by kernel_rfl)
  (hQ : ∀ c a w, Q (.panic c) (a.put oi.dst v) w → Q (.panic c) a w := by exact fun _ _ _ h => h) (hw : Region.wanted oi (yielded l.toArray a.tmps) = true := by rfl) (hS : S w := by assumption)
  (hy : ∀ wz, S wz → (execOp a.eval oi).run P wz = .ok (.value v) wz := by intro wz hSw; (try dsimp only at hSw); go_simp <;> with_reducible rfl) :
  wpAnyH P md l.toArray Q S (fuel + 1) listed a w := takeL hi hs hf hr hQ (Or.inl ⟨hw, hy⟩) hS h
theorem rd {P : Program} {md : Region.Mode} {l : List Oper} {Q : Exit → Act → World → Prop} {S : World → Prop} {fuel : Nat} {listed : Array Bool} {a : Act} {w : World} {i : Nat} {o : Oper} (ho : nthO l i = some o)
  (h : ∀ K' : Act → World → Prop, Shut (∀ a w, S w → (S w → wpAnyH P md l.toArray Q S fuel (listed.setIfInBounds i true) a w) → K' a w) → if Region.wanted o (yielded l.toArray a.tmps) = true then Oper.wp P o a w K' Q else K' (a.put o.dst undef) w) (hr : Region.ready md l.toArray listed = [i] := by kernel_rfl) :
  wpAnyH P md l.toArray Q S (fuel + 1) listed a w := wpAnyH_ready hr (by simp) (readyL ho h)
theorem meet {P : Program} {o : Oper} {a : Act} {w : World} {K : Act → World → Prop} {Q : Exit → Act → World → Prop} {ops : Array Oper} (hw : Region.wanted o (yielded ops a.tmps) = true) (v : Value) (w' : World)
  (hr : (execOp a.eval o).run P w = .ok (.value v) w') (h : K (a.put o.dst v) w') : if Region.wanted o (yielded ops a.tmps) = true then Oper.wp P o a w K Q else K (a.put o.dst undef) w := by
 rw [if_pos hw]
 unfold Oper.wp
 rw [hr]
 exact h
theorem want {P : Program} {o : Oper} {a : Act} {w : World} {K : Act → World → Prop} {Q : Exit → Act → World → Prop} {ops : Array Oper} (hw : Region.wanted o (yielded ops a.tmps) = true)
  (h : Oper.wp P o a w K Q) : if Region.wanted o (yielded ops a.tmps) = true then Oper.wp P o a w K Q else K (a.put o.dst undef) w := by
 rw [if_pos hw]
 exact h
def Own (w : World) (b : Nat) (cs : Array Value) (T : TypeId) : Prop := b < w.heap.size ∧ w.heap[b]? = some (.cells cs T (0, 0))
theorem Own.below {w w' : World} {b : Nat} {cs : Array Value} {T : TypeId} (h : Own w b cs T) (hb : Below w.heap.size w w') : Own w' b cs T :=
 ⟨Nat.lt_of_lt_of_le h.1 hb.size, (hb.block _ h.1).trans h.2⟩
theorem Own.new (w : World) (cs : Array Value) (T : TypeId) : Own (w.alloc (.cells cs T)) w.heap.size cs T :=
 ⟨by simp, by show (w.heap.push _)[w.heap.size]? = _; simp⟩
theorem Own.drew {w : World} {b : Nat} {cs : Array Value} {T : TypeId} (h : Own w b cs T) : Own w.drew b cs T := h
structure Upd (w : World) (b : Nat) (w' : World) : Prop where
 os : w'.os = w.os
 tape : w'.tape = w.tape
 output : w'.output = w.output
 size : w'.heap.size = w.heap.size
 block : ∀ k, k ≠ b → w'.heap[k]? = w.heap[k]?
theorem Own.upd {w w' : World} {b b' : Nat} {cs : Array Value} {T : TypeId} (h : Own w b cs T) (hu : Upd w b' w') (hne : b ≠ b') : Own w' b cs T :=
 ⟨by rw [hu.size]; exact h.1, (hu.block _ hne).trans h.2⟩
theorem Upd.below {B : Nat} {w0 w w' : World} {b : Nat} (hu : Upd w b w') (h : Below B w0 w) (hB : B ≤ b) : Below B w0 w' :=
 ⟨hu.os.trans h.os, hu.tape.trans h.tape, hu.output.trans h.output, by rw [hu.size]; exact h.size, fun k hk => (hu.block k (by omega)).trans (h.block k hk)⟩
theorem Upd.set (w : World) (b : Nat) (cs : Array Value) : Upd w b (w.setRow b cs) :=
 ⟨rfl, rfl, rfl, by simp, fun k hk => setRow_other w b k cs hk⟩
theorem meetAlloc {P : Program} {o : Oper} {a : Act} {w : World} {K : Act → World → Prop} {Q : Exit → Act → World → Prop} {ops : Array Oper} (hw : Region.wanted o (yielded ops a.tmps) = true) {cs : Array Value} {T : TypeId}
  (hr : (execOp a.eval o).run P w = .ok (.value (.pointer (some ⟨w.heap.size, 0, none⟩))) (w.alloc (.cells cs T)))
  (h : ∀ w' b, b = w.heap.size → Own w' b cs T → Below w.heap.size w w' → K (a.put o.dst (.pointer (some ⟨b, 0, none⟩))) w') : if Region.wanted o (yielded ops a.tmps) = true then Oper.wp P o a w K Q else K (a.put o.dst undef) w :=
 meet hw _ _ hr (h _ _ rfl (Own.new _ _ _) ((Below.refl _ _).alloc (Nat.le_refl _) _))
theorem meetStore {P : Program} {o : Oper} {a : Act} {w : World} {K : Act → World → Prop} {Q : Exit → Act → World → Prop} {ops : Array Oper} (hw : Region.wanted o (yielded ops a.tmps) = true) {g : Nat} {old : Array Value} {T : TypeId} (hg : Own w g old T)
  (ty : TypeId) (cells : Array Value) (ho : ∃ x y, o.op = .store ty x y ∧ a.eval x = .pointer (some ⟨g, 0, none⟩) ∧ a.eval y = .agg cells)
  (hi : (P.info? ty).map (·.size) = some cells.size) (hold : old.size = cells.size) (h1 : cells.all (·.oneCell') = true)
  (h : ∀ w', Own w' g cells T → Upd w g w' → K (a.put o.dst undef) w') : if Region.wanted o (yielded ops a.tmps) = true then Oper.wp P o a w K Q else K (a.put o.dst undef) w := by
 obtain ⟨x, y, ho, hx, hy⟩ := ho
 exact want hw (wp_store_row ty x y ho g cells hx hy T old hg.2 hi hold h1 (h _ ⟨by simp; exact hg.1, setRow_heap _ _ _ _ _ _ hg.2⟩ (Upd.set _ _ _)))
theorem run {P : Program} {w : World} {ops : Array Oper} {rest : List Oper} {o : Oper} {a : Act} {Q : Exit → Act → World → Prop} (hgd : o.guard = none) (v : Value) (w' : World)
  (hr : (execOp a.eval o).run P w = .ok (.value v) w') (h : wpList P ops Q rest (a.put o.dst v) w') : wpList P ops Q (o :: rest) a w :=
 wpList_plain hgd fun K hK => by
  unfold Oper.wp
  rw [hr]
  exact hK _ _ h
theorem runW {P : Program} {w : World} {ops : Array Oper} {rest : List Oper} {o : Oper} {a : Act} {Q : Exit → Act → World → Prop} (hw : Region.wanted o (yielded ops a.tmps) = true) (v : Value) (w' : World)
  (hr : (execOp a.eval o).run P w = .ok (.value v) w') (h : wpList P ops Q rest (a.put o.dst v) w') : wpList P ops Q (o :: rest) a w :=
 wpList_step fun K hK => by
  rw [if_pos hw]
  unfold Oper.wp
  rw [hr]
  exact hK _ _ h
end Rg
end
section
open Go.RowKit
namespace Rv
def turned (f : Nat → Value) (n k : Nat) : Nat → Value := fun j => if j < n ∧ (j < k ∨ n - 1 - j < k) then f (n - 1 - j) else f j
theorem turned_zero (f : Nat → Value) (n : Nat) : turned f n 0 = f := by
 funext j
 simp [turned]
theorem turned_step (f : Nat → Value) (n k : Nat) (h : k < n - 1 - k) (j : Nat) :
  (if j = n - 1 - k then turned f n k k else if j = k then turned f n k (n - 1 - k) else turned f n k j) = turned f n (k + 1) j := by
 unfold turned
 repeat' split
 all_goals first | rfl | (congr 1; omega) | omega
theorem turned_int (f : Nat → Value) (n k : Nat) (hf : ∀ j, j < n → ∃ z : Int, f j = .int .u8 z) (j : Nat) (hj : j < n) : ∃ z : Int, turned f n k j = .int .u8 z := by
 unfold turned
 split
 ·exact hf _ (by omega)
 ·exact hf _ hj
theorem turned_all (f : Nat → Value) (n k : Nat) (h : ¬ k < n - 1 - k) (j : Nat) : turned f n k j = turned f n n j := by
 unfold turned
 repeat' split
 all_goals first | rfl | (congr 1; omega) | omega
theorem upd_set {w w1 : World} {g : Nat} (h : Rg.Upd w g w1) (i : Nat) (v : Value) : Rg.Upd w g (w1.setCell ⟨g, i, none⟩ v) :=
 ⟨h.os, h.tape, h.output, by rw [← h.size]; simp, fun k hk => (Below.heap_setCell w1 ⟨g, i, none⟩ v k hk).trans (h.block k hk)⟩
theorem upd_drew {w w1 : World} {g : Nat} (h : Rg.Upd w g w1) : Rg.Upd w g w1.drew := ⟨h.os, h.tape, h.output, h.size, h.block⟩
theorem step {w wr : World} {g n cap k m : Nat} {T : TypeId} {f : Nat → Value} (h : wr.rowIs g T cap (turned f n k) ∧ Rg.Upd w g wr) (hk : k < m) (hm : m + 1 + k = n) {x y : Value} (hx : turned f n k k = x) (hy : turned f n k m = y) :
  ((wr.setCell ⟨g, k, none⟩ y).setCell ⟨g, m, none⟩ x).drew.rowIs g T cap (turned f n (k + 1)) ∧ Rg.Upd w g ((wr.setCell ⟨g, k, none⟩ y).setCell ⟨g, m, none⟩ x).drew := by
 refine ⟨(((h.1.set k y).set m x).congr (fun j _ => ?_)).drew, upd_drew (upd_set (upd_set h.2 k y) m x)⟩
 rw [← turned_step f n k (by omega) j, hx, show n - 1 - k = m by omega, hy]
theorem reverse_any (g n cap : Nat) (T : TypeId) (f : Nat → Value) (h0 : 0 < n) (hn : n ≤ cap) (hcap : cap ≤ maxLen) (w : World) (h : w.rowIs g T cap f) (hf : ∀ j, j < n → ∃ z : Int, f j = .int .u8 z) :
  Calls Tryz.prog 174 #[.slice (some ⟨g, 0, none⟩) n cap] w fun e w' => e = .returned (.tuple #[]) ∧ w'.rowIs g T cap (turned f n n) ∧ Rg.Upd w g w' := by
 unfold maxLen at hcap
 go_enter Tryz.func174, Tryz.ntmps174
 go_wp2
 go_loopw [2, 3] (fun i j wr => ∃ k m : Nat, 2 * k ≤ n ∧ m + 1 + k = n ∧ i = .int .i64 k ∧ j = .int .i64 m ∧ Hid (wr.rowIs g T cap (turned f n k) ∧ Rg.Upd w g wr)) (fun i _ _ => n - (intOf i).toNat)
 case atStart => exact ⟨0, n - 1, by omega, by omega, by go_num, by go_num, hid ⟨by rw [turned_zero]; exact h, rfl, rfl, rfl, rfl, fun _ _ => rfl⟩⟩
 case round =>
  obtain ⟨k, m, hk, hm, rfl, rfl, HR⟩ := hrel
  clear h
  by_cases hlt : k < m
  ·obtain ⟨hr, hu⟩ := HR.out
   have ci := hr.cell (i := k) (by omega)
   have cj := hr.cell (i := m) (by omega)
   have fi := hr.frozen k
   have fj := hr.frozen m
   clear hr hu
   obtain ⟨x, hx⟩ := turned_int f n k hf k (by omega)
   obtain ⟨y, hy⟩ := turned_int f n k hf m (by omega)
   rw [hx] at ci
   rw [hy] at cj
   have HX := hid hx
   have HY := hid hy
   clear hx hy hf
   go_wp2_with fail
   go_region
   go_wp2
   go_roundw
   case rel => exact ⟨k + 1, m - 1, by omega, by omega, by go_num, by go_num, hid (step HR.out hlt hm HX.out HY.out)⟩
   case measure => simp [intOf]; omega
  ·obtain ⟨hr, hu⟩ := HR.out
   have HE := hid hr
   have HU := hid hu
   clear hr hu HR
   go_wp2
   go_end0
   exact ⟨rfl, HE.out.congr (fun j _ => turned_all f n k (by omega) j), HU.out⟩
end Rv
end
section
open Go.RowKit
namespace Cc
theorem info_u8 : (Tryz.prog.info? 5).map (fun i => (i.zero, i.size, i.bytes)) = some (some (.int .u8 0), 1, 1) := by kernel_rfl
def GotRow (w : World) (l : List UInt8) (e : Ending) (w' : World) : Prop :=
 ∃ v, e = .returned v ∧ w'.ownsRow w.heap.size 5 1 v l.length (l.map fun x => Value.int .u8 x.toNat) ∧ Below w.heap.size w w'
theorem grow_zero (w : World) :
  Calls Tryz.prog 166 #[.slice none 0 0, .int .i64 0] w (GotRow w []) := by
 go_enter Tryz.func166, Tryz.ntmps166
 go_wp2
 go_ret
 exact ⟨_, rfl, World.ownsRow_nil _ _ _ _, Below.refl _ _⟩
theorem grow_pos (n : Nat) (h0 : 0 < n) (hn : n ≤ 1099511627776) (w : World) :
  Calls Tryz.prog 166 #[.slice none 0 0, .int .i64 n] w (GotRow w []) := by
 obtain ⟨i0, hi, hz0, hz1, hz2⟩ := info_parts info_u8
 have hr := Lib.run_append_nil_zeros (P := Tryz.prog) w 51 3 51 5 i0 (.int .u8 0) .i64 .i64 Tryz.underlying51 Tryz.underlying3 hi hz0 n h0 (by omega) (by omega) (by rw [hz2]; omega)
 have hge := grownCap_ge w n 0 5
 have hle := grownCap_le_maxLen w n 0 5 (by unfold maxLen; omega)
 have HO : Hid ((w.drew.alloc (.cells (Builtin.zeroCells (Value.int IntKind.u8 0).cells n ++ Builtin.zeroCells (Value.int IntKind.u8 0).cells (grownCap w n 0 5 - n)) 5)).ownsRow w.heap.size 5 1 (.slice (some ⟨w.heap.size, 0, none⟩) 0 (grownCap w n 0 5)) 0 []) := hid (by
  refine ⟨rfl, .inr ⟨w.heap.size, _, _, rfl, Nat.le_refl _, heap_alloc_new w.drew _, Nat.zero_le _, hle, ?_, by simp⟩⟩
  have hz1 : (Value.int IntKind.u8 0).cells.size = 1 := rfl
  simp only [Array.size_append, size_zeroCells, hz1]
  omega)
 obtain ⟨c, hc⟩ : ∃ c, grownCap w n 0 5 = c := ⟨_, rfl⟩
 rw [hc] at hr hge hle HO
 obtain ⟨o, ho⟩ : ∃ o, Obj.cells (Builtin.zeroCells (Value.int IntKind.u8 0).cells n ++ Builtin.zeroCells (Value.int IntKind.u8 0).cells (c - n)) 5 = o := ⟨_, rfl⟩
 rw [ho] at hr HO
 have HR := hid hr
 clear hr ho hc hi hz0 hz1 hz2
 unfold maxLen at hle
 go_enter Tryz.func166, Tryz.ntmps166
 go_wp2_with (at_builtin; refine Lib.wpList_append_run _ rfl _ _ _ _ rfl _ _ rfl rfl _ _ HR.out ?_)
 go_wp2
 go_ret
 exact ⟨_, rfl, HO.out, (Below.drew (Below.refl _ _)).alloc (Nat.le_refl _) _⟩
theorem grow_any (n : Nat) (hn : n ≤ 1099511627776) (w : World) :
  Calls Tryz.prog 166 #[.slice none 0 0, .int .i64 n] w (GotRow w []) := by
 by_cases h0 : n = 0
 ·subst h0; exact grow_zero w
 ·exact grow_pos n (by omega) hn w
def IsRows (w : World) (a : Option Addr) (n : Nat) (ls : List (List UInt8)) : Prop :=
 ls.length = n ∧ ∀ j, j < n → ∃ b off, a = some ⟨b, off, none⟩ ∧ b < w.heap.size ∧ ∃ a' n' c', w.cell? ⟨b, off + j, none⟩ = some (.slice a' n' c') ∧ IsBs w a' n' c' (ls.getD j [])
def joinK (ls : List (List UInt8)) (k : Nat) : List UInt8 := (ls.take k).flatten
theorem joinK_snoc (ls : List (List UInt8)) (k : Nat) (h : k < ls.length) : joinK ls (k + 1) = joinK ls k ++ ls.getD k [] := by
 unfold joinK
 have e : ls.getD k [] = ls[k] := by simp [List.getD, h]
 rw [List.take_succ_eq_append_getElem h, e, List.flatten_append]
 congr 1
 exact List.append_nil _
theorem joinK_le (ls : List (List UInt8)) (k : Nat) : (joinK ls k).length ≤ ls.flatten.length := by
 unfold joinK
 conv => rhs; rw [← List.take_append_drop k ls]
 rw [List.flatten_append, List.length_append]
 exact Nat.le_add_right _ _
theorem news_cells {w : World} {a : Option Addr} {n cap : Nat} {l : List UInt8} (h : IsBs w a n cap l) (ad : Addr) (ha : a = some ad) :
  ∀ j u, (l.map fun x => Value.int .u8 x.toNat)[j]? = some u → w.cell? (ad.add j) = some u := by
 intro j u hu
 have hl := h.len
 have hj : j < n := by
  rcases Nat.lt_or_ge j n with h' | h'
  ·exact h'
  ·rw [List.getElem?_eq_none (by simp [hl]; exact h')] at hu; cases hu
 obtain ⟨b, off, h1, _, h3⟩ := h.at' j hj
 rw [ha] at h1
 injection h1 with h1
 subst h1
 have e : (⟨b, off, none⟩ : Addr).add j = ⟨b, off + j, none⟩ := by unfold Addr.add; split <;> simp_all
 rw [e, h3]
 rw [← hu]
 simp [List.getD, hl, hj]
theorem concat_any (a : Option Addr) (n cap : Nat) (ls : List (List UInt8)) (hn : n ≤ 1000000) (hL : ls.flatten.length ≤ 1099511627776) (w : World) (h : IsRows w a n ls) :
  Calls Tryz.prog 154 #[.slice a n cap] w (GotRow w ls.flatten) := by
 have H := hid h
 have HN := hid h.1
 have HL := hid hL
 obtain ⟨i0, hi, hz0, hz1, hz2⟩ := info_parts info_u8
 have HI : Hid (_ ∧ _ ∧ _ ∧ _) := hid ⟨hi, hz0, hz1, hz2⟩
 clear h hL hi hz0 hz1 hz2
 go_enter Tryz.func154, Tryz.ntmps154
 go_wp2
 go_loop [3, 11] (fun s i => ∃ k : Nat, k ≤ n ∧ i = .int .i64 k ∧ s = .int .i64 ((joinK ls k).length : Nat)) (fun _ i => n - (intOf i).toNat)
 case atStart => exact ⟨0, Nat.zero_le _, rfl, rfl⟩
 case round =>
  obtain ⟨k, hk, rfl, rfl⟩ := hrel
  by_cases hlt : k < n
  ·obtain ⟨b, off, rfl, hb, a', n', c', hc, hx⟩ := H.out.2 k hlt
   have hj := joinK_snoc ls k (by rw [HN.out]; exact hlt)
   have hl1 := joinK_le ls (k + 1)
   have hl2 := HL.out
   have hxl := hx.len
   have hs : (joinK ls (k + 1)).length = (joinK ls k).length + n' := by rw [hj, List.length_append, hxl]
   obtain ⟨p, hp⟩ : ∃ p, (joinK ls k).length = p := ⟨_, rfl⟩
   have hpn : p + n' ≤ 1099511627776 := by omega
   rw [hp] at hs ⊢
   have HS := hid hs
   clear hs hj hl1 hl2 hxl hp hx
   go_wp2
   go_round
   case rel => exact ⟨k + 1, by omega, by go_num, by rw [HS.out]; go_num⟩
   case measure => simp [intOf]; omega
  ·obtain rfl : k = n := by omega
   have hlen : (joinK ls k).length ≤ 1099511627776 := Nat.le_trans (joinK_le ls k) HL.out
   clear hlt hk
   obtain ⟨p, hp⟩ : ∃ p, (joinK ls k).length = p := ⟨_, rfl⟩
   rw [hp] at hlen ⊢
   clear hp
   go_wp2_with fail
   refine (grow_any p hlen _).mono ?_
   rintro e w1 ⟨v, rfl, hown, hb1⟩
   go_wp2
   go_loopw [6, 27] (fun v i wr => ∃ q : Nat, q ≤ k ∧ i = .int .i64 q ∧ Hid (wr.ownsRow w.heap.size 5 1 v (joinK ls q).length ((joinK ls q).map fun x => Value.int .u8 x.toNat)) ∧ Below w.heap.size w wr) (fun _ i _ => k - (intOf i).toNat)
   case atStart => exact ⟨0, Nat.zero_le _, rfl, hid hown, hb1⟩
   case round =>
    obtain ⟨q, hq, rfl, HO, hB⟩ := hrel
    by_cases hqt : q < k
    ·obtain ⟨b, off, rfl, hb, a', n', c', hc, hx⟩ := H.out.2 q hqt
     have hj := joinK_snoc ls q (by rw [HN.out]; exact hqt)
     have hl1 := joinK_le ls (q + 1)
     have hl2 := HL.out
     have hxl := hx.len
     have hs : (joinK ls (q + 1)).length = (joinK ls q).length + n' := by rw [hj, List.length_append, hxl]
     have hbd : (joinK ls q).length + n' ≤ 1099511627776 := by omega
     have hc2 : wr.cell? ⟨b, off + q, none⟩ = some (.slice a' n' c') := by rw [hB.cell (p := ⟨b, off + q, none⟩) hb]; exact hc
     have hx2 := hid (news_cells (hx.below hB))
     have HS := hid hs
     have HJ := hid hj
     have hsz := hB.size
     clear hs hj hl1 hl2 hxl hc
     rcases a' with _ | ad
     ·obtain ⟨rfl, rfl, hnil⟩ := hx.capNone
      have HJ2 : Hid (joinK ls (q + 1) = joinK ls q) := hid (by rw [HJ.out, hnil, List.append_nil])
      clear hx hnil hbd
      go_wp2_with (at_builtin; refine wpList_append_own_none rfl _ _ 51 rfl w.heap.size 5 i0 1 Tryz.underlying51 HI.out.1 _ _ _ rfl HO.out rfl ?_)
      go_wp2
      go_roundw
      case rel => exact ⟨q + 1, by omega, by go_num, by rw [HJ2.out]; exact HO, hB⟩
      case measure => simp [intOf]; omega
     ·have HX := hid hx.len
      clear hx
      go_wp2_with (at_builtin; refine wpList_append_own _ rfl _ _ 51 rfl w.heap.size 5 i0 (.int .u8 0) 1 1 Tryz.underlying51 HI.out.1 HI.out.2.1 HI.out.2.2.1 HI.out.2.2.2 rfl (by decide) _ _ _ rfl HO.out ad n' c' ((ls.getD q []).map fun x => Value.int .u8 x.toNat) rfl ?c0 ?c1 ?c2 ?c3 ?c4 ?c5 ?_)
      case c0 => rw [List.length_map, Nat.mul_one]; exact HX.out
      case c1 => exact hx2.out ad rfl
      case c2 => intro u hu; simp at hu; obtain ⟨_, _, rfl⟩ := hu; rfl
      case c3 => unfold maxLen; omega
      case c4 => omega
      case c5 => exact hsz
      intro v' w2 hown2 hgrow _
      have hlt' := HO.out.lt
      go_wp2
      go_roundw
      case rel =>
       refine ⟨q + 1, by omega, by go_num, hid ?_, hB.grown hgrow hsz (fun g hg => (hlt' g hg).1)⟩
       rw [HS.out, HJ.out, List.map_append]
       exact hown2
      case measure => simp [intOf]; omega
    ·obtain rfl : q = k := by omega
     have HE : Hid (joinK ls q = ls.flatten) := hid (by
      unfold joinK; rw [List.take_of_length_le (by rw [HN.out]; exact Nat.le_refl _)])
     have hO := HO.out
     rw [HE.out] at hO
     have HG := hid hO
     clear hO
     go_wp2
     go_ret
     exact ⟨_, rfl, HG.out, hB⟩
end Cc
end
section
open Go.RowKit
namespace Bu
theorem size_bu : (Tryz.prog.info? 153).map (·.size) = some 2 := by kernel_rfl
theorem lies_bu : liesAt Tryz.prog Tryz.prog.depth 153 (2 / Tryz.prog.cellsOf 153) 0 153 1 = true := by kernel_rfl
theorem info_byte : (Tryz.prog.info? 5).map (fun i => (i.zero, i.size, i.bytes)) = some (some (.int .u8 0), 1, 1) := by kernel_rfl
theorem cells_byte : Tryz.prog.cellsOf 5 = 1 := by kernel_rfl
def Is (B b : Nat) (bs : List Value) (w : World) : Prop := Lib.IsBuilder 153 5 B b bs w
theorem fresh {B b : Nat} {w : World} (hB : B ≤ b) (h : w.heap[b]? = some (.cells #[.pointer none, .slice none 0 0] 153 (0, 0))) : Is B b [] w :=
 Or.inl ⟨hB, .slice none 0 0, h, World.ownsRow_nil _ _ _ _, by simp [Value.ownBlock]⟩
theorem check_used (b : Nat) (w : World) (h0 : w.cell? ⟨b, 0, none⟩ = some (.pointer (some ⟨b, 0, none⟩))) :
  Calls Tryz.prog 150 #[.pointer (some ⟨b, 0, none⟩)] w fun e w' => e = .returned (.tuple #[]) ∧ w' = w := by
 obtain ⟨j, hj, _⟩ := Option.map_eq_some_iff.1 size_bu
 go_enter Tryz.func150, Tryz.ntmps150
 go_wp2
 rw [Lib.run_neq_ptr_same w _ Tryz.underlying151 hj]
 go_wp2
 go_end0
 exact ⟨rfl, rfl⟩
theorem check_fresh (b : Nat) (w : World) (h0 : w.cell? ⟨b, 0, none⟩ = some (.pointer none)) (hsh : w.shape? b = some (153, 2)) (hfz : w.frozen? ⟨b, 0, none⟩ = false) :
  Calls Tryz.prog 150 #[.pointer (some ⟨b, 0, none⟩)] w fun e w' => e = .returned (.tuple #[]) ∧ w' = w.setCell ⟨b, 0, none⟩ (.pointer (some ⟨b, 0, none⟩)) := by
 obtain ⟨j, hj, hjs⟩ := Option.map_eq_some_iff.1 size_bu
 have hto := Lib.run_to_unsafe (P := Tryz.prog) w ⟨b, 0, none⟩ Tryz.underlying151 Tryz.underlying208 hj (by rw [hjs]; decide) hsh (Nat.zero_lt_succ 1)
 have hfrom := Lib.run_from_unsafe (P := Tryz.prog) w ⟨b, 0, none⟩ Tryz.underlying208 Tryz.underlying151 hj hsh lies_bu
 have hno : ∀ (a : Addr) (wx : World), (callFunc 164 #[.pointer (some a)]).run Tryz.prog wx = .ok (.value (.pointer (some a))) wx := fun a wx => by
  rw [run_callFunc_extern Tryz.func164 (by kernel_rfl) (by kernel_rfl) (by kernel_rfl) (e := Extern.AbiNoEscape.same) (by kernel_rfl), Lib.run_noEscape]
  rfl
 clear hj hjs
 go_enter Tryz.func150, Tryz.ntmps150
 go_wp2
 go_end0
 exact ⟨rfl, rfl⟩
theorem check {B b : Nat} {bs : List Value} {w : World} (h : Is B b bs w) :
  Calls Tryz.prog 150 #[.pointer (some ⟨b, 0, none⟩)] w fun e w' => e = .returned (.tuple #[]) ∧ (Lib.BuilderAt 153 5 B b (.pointer (some ⟨b, 0, none⟩)) bs w' ∧ Below B w w' ∧ Lib.OthersKept 5 (some b) w w') := by
 rcases h with h | h
 ·refine (check_fresh b w h.cell0 h.shape h.frozen0).mono ?_
  rintro e w' ⟨rfl, rfl⟩
  exact ⟨rfl, h.used _, (Below.refl B w).setCell (p := ⟨b, 0, none⟩) h.1 _, (Lib.OthersKept.refl _ _ _).setCell ⟨b, 0, none⟩ rfl _⟩
 ·refine (check_used b w h.cell0).mono ?_
  rintro e w' ⟨rfl, rfl⟩
  exact ⟨rfl, h, Below.refl B _, Lib.OthersKept.refl _ _ _⟩
theorem row_kind {w : World} {B : Nat} {e : TypeId} {v : Value} {n : Nat} {xs : List Value} (h : w.ownsRow B e 1 v n xs) : ∀ g, v.ownBlock = some g → ∃ c fz, w.heap[g]? = some (.cells c e fz) := by
 intro g hg
 rcases h.2 with ⟨rfl, _⟩ | ⟨g', cap, cur, rfl, _, hgg, _⟩
 ·simp [Value.ownBlock] at hg
 ·simp [Value.ownBlock] at hg
  subst hg
  exact ⟨cur, _, hgg⟩
theorem Is.not_at {B b : Nat} {bs : List Value} {w : World} (h : Is B b bs w) {k : Nat} {cs : Array Value} {T : TypeId} {fr : Nat × Nat} (hk : w.heap[k]? = some (.cells cs T fr)) (hT : T ≠ 153) : k ≠ b := by
 intro e
 subst e
 rcases h with ⟨_, v, hb, _⟩ | ⟨_, v, hb, _⟩ <;> (rw [hb] at hk; simp at hk; exact hT hk.2.1.symm)
theorem Is.kept {B b : Nat} {bs : List Value} {w w' : World} (h : Is B b bs w) (hg : w.grownBy w' none) : Is B b bs w' := by
 rcases h with ⟨hB, v, hb, ho, hn⟩ | ⟨hB, v, hb, ho, hn⟩
 ·have hlt : b < w.heap.size := (Array.getElem?_eq_some_iff.1 hb).1
  exact Or.inl ⟨hB, v, by rw [hg.block b hlt (by simp)]; exact hb, ho.kept hg (by cases v.ownBlock <;> simp), hn⟩
 ·have hlt : b < w.heap.size := (Array.getElem?_eq_some_iff.1 hb).1
  exact Or.inr ⟨hB, v, by rw [hg.block b hlt (by simp)]; exact hb, ho.kept hg (by cases v.ownBlock <;> simp), hn⟩
theorem grown_below {w w' : World} (h : Below w.heap.size w w') : w.grownBy w' none := ⟨h.os, h.tape, h.output, h.size, fun k hk _ => h.block k hk⟩
theorem text_none (W : World) (q : Option Addr) : (Builtin.unsafeString_ #[182, 3] 9 #[.pointer q, .int .i64 0]).run Tryz.prog W = .ok (.string .empty) W :=
 Lib.run_unsafeString_none W _ _ _ q
theorem text {B b : Nat} {l : List UInt8} {w : World} (h : Is B b (Lib.byteCells l) w) (hBw : B ≤ w.heap.size) :
  Calls Tryz.prog 103 #[.pointer (some ⟨b, 0, none⟩)] w fun e w' => e = .returned (.string ⟨l.toArray⟩) ∧ Below B w w' := by
 obtain ⟨p, hB, v, hbk, hown, hne⟩ : ∃ p, Lib.BuilderAt 153 5 B b p (Lib.byteCells l) w := by
  rcases h with h | h
  ·exact ⟨_, h⟩
  ·exact ⟨_, h⟩
 rw [Lib.byteCells_length] at hown
 have hUS0 := text_none
 by_cases h0 : l = []
 ·subst h0
  rcases hown.2 with ⟨rfl, hz⟩ | ⟨g, cap, cur, rfl, hbg, hg, hnc, hcm, hcs, htake⟩
  ·have c1 : w.drew.cell? ⟨b, 1, none⟩ = some (.slice none 0 0) := by
    have : w.drew.heap[b]? = some (.cells #[p, .slice none 0 0] 153 (0, 0)) := hbk
    rw [Lib.cell_of_heap this]; rfl
   have hSD : (Builtin.unsafeSliceData_ #[51] 182 #[.slice none 0 0]).run Tryz.prog w.drew = .ok (.pointer none) w.drew := rfl
   clear hown hbk hne hBw
   go_enter Tryz.func103, Tryz.ntmps103
   go_wp2
   go_region
   all_goals (go_wp2; go_ret; exact ⟨rfl, Below.drew (Below.refl B w)⟩)
  ·have hlt : b < w.heap.size := by
    rcases Nat.lt_or_ge b w.heap.size with h' | h'
    ·exact h'
    ·simp [Array.getElem?_eq_none h'] at hbk
   have hg' : w.drew.heap[g]? = some (.cells cur 5 (0, 0)) := hg
   by_cases hc0 : cap = 0
   ·subst hc0
    have c1 : w.drew.cell? ⟨b, 1, none⟩ = some (.slice (some ⟨g, 0, none⟩) 0 0) := by
     have : w.drew.heap[b]? = some (.cells #[p, .slice (some ⟨g, 0, none⟩) 0 0] 153 (0, 0)) := hbk
     rw [Lib.cell_of_heap this]; rfl
    have hSD : (Builtin.unsafeSliceData_ #[51] 182 #[.slice (some ⟨g, 0, none⟩) 0 0]).run Tryz.prog w.drew = .ok (.pointer (some ⟨w.drew.heap.size, 0, none⟩)) (w.drew.alloc (.view ⟨g, 0, none⟩ 5)) :=
     Lib.run_unsafeSliceData_zero w.drew _ _ 5 Tryz.underlying182 ⟨g, 0, none⟩ 0 (5, cur.size) (by simp [World.shape?, hg'])
    have c2 : (w.drew.alloc (.view ⟨g, 0, none⟩ 5)).cell? ⟨b, 1, none⟩ = some (.slice (some ⟨g, 0, none⟩) 0 0) := by
     have : (w.drew.alloc (.view ⟨g, 0, none⟩ 5)).heap[b]? = _ := (Lib.alloc_old w.drew _ b hlt).trans hbk
     rw [Lib.cell_of_heap this]; rfl
    have c3 : (w.alloc (.view ⟨g, 0, none⟩ 5)).drew.cell? ⟨b, 1, none⟩ = some (.slice (some ⟨g, 0, none⟩) 0 0) := c2
    have c0 : w.cell? ⟨b, 1, none⟩ = some (.slice (some ⟨g, 0, none⟩) 0 0) := c1
    clear hown hbk hne hnc hcm hcs htake hg hg' hlt
    go_enter Tryz.func103, Tryz.ntmps103
    go_wp2
    go_region
    all_goals (go_wp2; go_ret; exact ⟨rfl, (Below.drew (Below.refl B w)).alloc hBw _⟩)
   ·have c1 : w.drew.cell? ⟨b, 1, none⟩ = some (.slice (some ⟨g, 0, none⟩) 0 cap) := by
     have : w.drew.heap[b]? = some (.cells #[p, .slice (some ⟨g, 0, none⟩) 0 cap] 153 (0, 0)) := hbk
     rw [Lib.cell_of_heap this]; rfl
    have hSD : (Builtin.unsafeSliceData_ #[51] 182 #[.slice (some ⟨g, 0, none⟩) 0 cap]).run Tryz.prog w.drew = .ok (.pointer (some ⟨g, 0, none⟩)) w.drew :=
     Lib.run_unsafeSliceData_row _ _ _ _ _ _ hc0
    clear hown hbk hne hnc hcm hcs htake hg hg' hlt hc0 hBw
    go_enter Tryz.func103, Tryz.ntmps103
    go_wp2
    go_region
    all_goals (go_wp2; go_ret; exact ⟨rfl, Below.drew (Below.refl B w)⟩)
 ·have hl0 : l.length ≠ 0 := by simpa using h0
  obtain ⟨g, cap, cur, rfl, hbg, hg, hnc, hcm, hcs, htake⟩ : ∃ g cap cur, v = .slice (some ⟨g, 0, none⟩) l.length cap ∧ B ≤ g ∧ w.heap[g]? = some (.cells cur 5 (0, 0)) ∧ l.length ≤ cap ∧ cap ≤ maxLen ∧ cur.size = cap * 1 ∧ cur.toList.take (l.length * 1) = Lib.byteCells l := by
   rcases hown.2 with ⟨_, hz⟩ | ⟨g, cap, cur, hv, r⟩
   ·exact absurd hz hl0
   ·exact ⟨g, cap, cur, hv, r⟩
  have c1 : w.drew.cell? ⟨b, 1, none⟩ = some (.slice (some ⟨g, 0, none⟩) l.length cap) := by
   have : w.drew.heap[b]? = some (.cells #[p, .slice (some ⟨g, 0, none⟩) l.length cap] 153 (0, 0)) := hbk
   rw [Lib.cell_of_heap this]; rfl
  have hg' : w.drew.heap[g]? = some (.cells cur 5 (0, 0)) := hg
  have hSD : (Builtin.unsafeSliceData_ #[51] 182 #[.slice (some ⟨g, 0, none⟩) l.length cap]).run Tryz.prog w.drew = .ok (.pointer (some ⟨g, 0, none⟩)) w.drew :=
   Lib.run_unsafeSliceData_row _ _ _ _ _ _ (by omega)
  have hUS : (Builtin.unsafeString_ #[182, 3] 9 #[.pointer (some ⟨g, 0, none⟩), .int .i64 l.length]).run Tryz.prog w.drew = .ok (.string ⟨l.toArray⟩) (w.drew.freeze ⟨g, 0, none⟩ l.length) := by
   refine Lib.run_unsafeString_row w.drew 182 3 9 5 Tryz.underlying182 cells_byte g cur.size (by simp [World.shape?, hg']) l h0 (by omega) (by unfold maxLen at hcm; omega) ?_
   intro j x hx
   have := hown.cells (g := g) rfl j (.int .u8 x.toNat) (by simp [Lib.byteCells, hx])
   exact this
  clear hown hbk hne hnc hcm hcs htake hg hg' h0 hl0 hBw hUS0
  go_enter Tryz.func103, Tryz.ntmps103
  go_wp2
  go_region
  all_goals (go_wp2; go_ret; exact ⟨rfl, Lib.below_freeze (Below.drew (Below.refl B w)) (p := ⟨g, 0, none⟩) hbg _⟩)
end Bu
end
section
open Go.RowKit
namespace Bu
theorem cell_one_new' (w : World) (v : Value) (t : TypeId) (fz : Nat × Nat) : ∀ j u, [v][j]? = some u → (w.alloc (.cells #[v] t fz)).cell? ((⟨w.heap.size, 0, none⟩ : Addr).add j) = some u := by
 intro j u hj
 match j, hj with
 | 0, hj => simp at hj; subst hj; simp [Addr.add, World.cell?_alloc_mark]
theorem writeByte {B b : Nat} {bs : List Value} {w : World} (c : Int) (h : Is B b bs w) (hlen : bs.length + 1 ≤ 140737488355328) (hBw : B ≤ w.heap.size) :
  Calls Tryz.prog 153 #[.pointer (some ⟨b, 0, none⟩), .int .u8 c] w fun e w' => e = .returned .nilIface ∧ (Is B b (bs ++ [.int .u8 c]) w' ∧ Below B w w' ∧ Lib.OthersKept 5 (some b) w w') := by
 obtain ⟨i0, hi, hz0, hz1, hz2⟩ := info_parts info_byte
 go_enter Tryz.func153, Tryz.ntmps153
 go_wp2_with (go_at_call 150; refine (check h).mono ?_)
 rintro e w1 ⟨rfl, h1, hb1, hk1⟩
 obtain ⟨hB, v, hbk, hown, hne⟩ := h1
 have c0 : w1.cell? ⟨b, 0, none⟩ = some (.pointer (some ⟨b, 0, none⟩)) := by rw [Lib.cell_of_heap hbk]; rfl
 have c1 : w1.cell? ⟨b, 1, none⟩ = some v := by rw [Lib.cell_of_heap hbk]; rfl
 have hlt : b < w1.heap.size := by
  rcases Nat.lt_or_ge b w1.heap.size with h' | h'
  ·exact h'
  ·simp [Array.getElem?_eq_none h'] at hbk
 go_wp2_with (at_builtin; refine wpList_append_own _ rfl _ _ 51 rfl B 5 i0 (.int .u8 0) 1 1 Tryz.underlying51 hi hz0 hz1 hz2 rfl (by decide) _ _ _ rfl (hown.alloc _) ⟨w1.heap.size, 0, none⟩ 1 1 [.int .u8 c] rfl rfl ?c1 ?c2 ?c3 ?c4 ?c5 ?_)
 case c1 => exact cell_one_new' _ _ _ _
 case c2 => intro u hu; simp at hu; subst hu; rfl
 case c3 => unfold maxLen; omega
 case c4 => omega
 case c5 => have := hb1.size; simp; omega
 intro v' w2 hown' hgrow _
 have hb2 : w2.heap[b]? = some (.cells #[.pointer (some ⟨b, 0, none⟩), v] 153 (0, 0)) := by
  rw [hgrow.block b (by simp; omega) (fun e => hne e.symm), Lib.alloc_old w1 _ b hlt]
  exact hbk
 have d1 : w2.cell? ⟨b, 1, none⟩ = some v := by rw [Lib.cell_of_heap hb2]; rfl
 have f1 : w2.frozen? ⟨b, 1, none⟩ = false := Lib.frozen_of_heap hb2 1
 obtain ⟨ao, n', cap, rfl⟩ : ∃ ao n' cap, v' = .slice ao n' cap := by
  rcases hown'.2 with ⟨hv, _⟩ | ⟨g, cap, cur, hv, _⟩
  ·exact ⟨_, _, _, hv⟩
  ·exact ⟨_, _, _, hv⟩
 go_wp2
 go_ret
 refine ⟨rfl, Or.inr ?_, ?_, ?_⟩
 ·exact Lib.BuilderAt.put (T := 153) (e := 5) hB hb2 (bs' := bs ++ [.int .u8 c]) (by simpa using hown') (by decide)
 ·exact ((hb1.alloc (by have := hb1.size; omega) _).grown hgrow (by have := hb1.size; simp; omega) (fun k hk => (hown.lt k hk).1)).setCell (p := ⟨b, 1, none⟩) hB _
 ·exact ((hk1.alloc _).grown hgrow (row_kind (hown.alloc _))).setCell ⟨b, 1, none⟩ rfl _
end Bu
end
end Go.Proofs.YtooklabipgmolaaGreatDoor
