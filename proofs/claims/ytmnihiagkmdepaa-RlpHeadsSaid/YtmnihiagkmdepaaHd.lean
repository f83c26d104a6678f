/-
  What stands ahead, read; the contract of rlp.head.
-/
import Derived.Test.YtmnihiagkmdepaaPk
import Derived.Test.YtmnihiagkmdepaaBs
import Derived.Laws.BitsAllLaws
namespace Go.Proofs.Ytmnihiagkmdepaa
open Go.RowKit

namespace Rl
open Pk
/-- the number of bytes, the highest first -/
def valB (l : List UInt8) : Nat := l.foldl (fun a b => a * 256 + b.toNat) 0
theorem valB_snoc (l : List UInt8) (c : UInt8) : valB (l ++ [c]) = valB l * 256 + c.toNat := by simp [valB]
theorem valB_from (l : List UInt8) : ∀ a, l.foldl (fun a b => a * 256 + b.toNat) a < (a + 1) * 256 ^ l.length := by
  induction l with
  | nil => intro a; simp
  | cons c l ih =>
    intro a
    rw [List.foldl_cons, List.length_cons, Nat.pow_succ]
    have h1 := ih (a * 256 + c.toNat)
    have h2 := c.toNat_lt
    have h3 : (a * 256 + c.toNat + 1) * 256 ^ l.length ≤ ((a + 1) * 256) * 256 ^ l.length := Nat.mul_le_mul_right _ (by omega)
    have h4 : (a + 1) * (256 ^ l.length * 256) = ((a + 1) * 256) * 256 ^ l.length := by
      rw [Nat.mul_comm (256 ^ l.length) 256, Nat.mul_assoc]
    omega
theorem valB_lt (l : List UInt8) : valB l < 256 ^ l.length := by
  have := valB_from l 0
  simpa [valB] using this

/-- what stands ahead of the item that bytes begin with: an error, or whether it is a list's, how many bytes it has, how many stand behind -/
def headE : List UInt8 → Except Int (Bool × Nat × Nat)
  | [] => .error 5
  | c :: t =>
    if c.toNat < 128 then .ok (false, 0, 1)
    else if c.toNat - (if 192 ≤ c.toNat then 192 else 128) ≤ 55 then .ok (decide (192 ≤ c.toNat), 1, c.toNat - (if 192 ≤ c.toNat then 192 else 128))
    else if t.length < c.toNat - (if 192 ≤ c.toNat then 192 else 128) - 55 then .error 5
    else if t.headD 0 = 0 ∨ valB (t.take (c.toNat - (if 192 ≤ c.toNat then 192 else 128) - 55)) ≤ 55 then .error 6
    else .ok (decide (192 ≤ c.toNat), 1 + (c.toNat - (if 192 ≤ c.toNat then 192 else 128) - 55), valB (t.take (c.toNat - (if 192 ≤ c.toNat then 192 else 128) - 55)))

/-- head tells this -/
def HeadsTo (s : ByteArray) : Except Int (Bool × Nat × Nat) → Prop
  | .error c => ∀ w, Calls Try.prog 38 #[.string s] w fun e w' => e = .panicked [errP c] ∧ w = w'
  | .ok (l, a, v) => ∀ w, Calls Try.prog 38 #[.string s] w fun e w' => e = .returned (.tuple #[.bool l, .int .i64 a, .int .u64 v]) ∧ w = w'

theorem size_len (s : ByteArray) : s.size = s.data.toList.length := by rw [Array.length_toList]; rfl
theorem get_at (s : ByteArray) (i : Nat) (h : i < s.size) : s[i] = s.data.toList.getD i 0 := by
  have h' : i < s.data.toList.length := by rw [← size_len]; exact h
  rw [List.getD_eq_getElem?_getD, List.getElem?_eq_getElem h']
  simp
  rfl

set_option maxRecDepth 100000 in
set_option maxHeartbeats 4000000 in
theorem head_nil (s : ByteArray) (h : s.data.toList = []) : HeadsTo s (.error 5) := by
  intro w
  have hs : s.size = 0 := by rw [size_len, h]; rfl
  have hnil : (s.toList == []) = true := by rw [ByteArray.toList_eq, h]; rfl
  go_enter Try.func38, Try.ntmps38
  go_wp2_with (go_at_call 34; refine (fail_any _ _).mono ?_; rintro e w1 ⟨rfl, rfl⟩)
  simp [bodyPost]

set_option maxRecDepth 100000 in
set_option maxHeartbeats 4000000 in
theorem head_text (s : ByteArray) (c : UInt8) (t : List UInt8) (h : s.data.toList = c :: t) (hc : c.toNat < 128) : HeadsTo s (.ok (false, 0, 1)) := by
  intro w
  have hs : 0 < s.size := by rw [size_len, h]; simp
  have hnil : (s.toList == []) = false := by rw [ByteArray.toList_eq, h]; rfl
  have h0 : s[0] = c := by rw [get_at s 0 hs, h]; rfl
  have hlt : s[0].toNat < 128 := by rw [h0]; exact hc
  clear h h0 hc
  go_enter Try.func38, Try.ntmps38
  go_wp2
  go_ret3
  exact ⟨rfl, rfl⟩

/-- the number that the first byte tells -/
def firstN (c : UInt8) : Nat := c.toNat - (if 192 ≤ c.toNat then 192 else 128)

set_option maxRecDepth 100000 in
set_option maxHeartbeats 4000000 in
theorem head_short (s : ByteArray) (c : UInt8) (t : List UInt8) (h : s.data.toList = c :: t) (hc : ¬ c.toNat < 128) (hn : firstN c ≤ 55) : HeadsTo s (.ok (decide (192 ≤ c.toNat), 1, firstN c)) := by
  intro w
  have hs : 0 < s.size := by rw [size_len, h]; simp
  have hnil : (s.toList == []) = false := by rw [ByteArray.toList_eq, h]; rfl
  have h0 : s[0] = c := by rw [get_at s 0 hs, h]; rfl
  clear h
  unfold firstN at hn ⊢
  by_cases h192 : 192 ≤ c.toNat
  · rw [if_pos h192] at hn ⊢
    obtain ⟨m, hm⟩ : ∃ m : Nat, c.toNat = 192 + m := ⟨c.toNat - 192, by omega⟩
    rw [← h0] at hm
    have hd : Hid (decide (192 ≤ c.toNat) = decide ((192 : Int) ≤ 192 + (m : Int))) := Lib.hid (by rw [← h0, hm]; apply decide_eq_decide.2; omega)
    have hv : Hid (((c.toNat - 192 : Nat) : Int) = 192 + (m : Int) - 192) := Lib.hid (by rw [← h0, hm]; omega)
    have hm2 : m ≤ 55 := by rw [← h0] at hn; omega
    skip
    clear h192 hn h0 hc
    go_enter Try.func38, Try.ntmps38
    go_wp2
    go_ret3
    exact ⟨by rw [hd.out, hv.out]; rfl, rfl⟩
  · rw [if_neg h192] at hn ⊢
    obtain ⟨m, hm⟩ : ∃ m : Nat, c.toNat = 128 + m := ⟨c.toNat - 128, by omega⟩
    rw [← h0] at hm
    have hd : Hid (decide (192 ≤ c.toNat) = decide ((192 : Int) ≤ 128 + (m : Int))) := Lib.hid (by rw [← h0, hm]; apply decide_eq_decide.2; omega)
    have hv : Hid (((c.toNat - 128 : Nat) : Int) = 128 + (m : Int) - 128) := Lib.hid (by rw [← h0, hm]; omega)
    have hm2 : m ≤ 55 := by rw [← h0] at hn; omega
    have hlt : m < 64 := by rw [← h0] at h192; omega
    clear h192 hn h0 hc
    go_enter Try.func38, Try.ntmps38
    go_wp2
    go_ret3
    exact ⟨by rw [hd.out, hv.out]; rfl, rfl⟩
theorem or_byte (x b : Nat) (hx : x < 72057594037927936) (hb : b < 256) : bits .or .u64 (IntKind.u64.wrap ((x : Int) * 256)) (IntKind.u64.wrap (b : Int)) = ((x * 256 + b : Nat) : Int) := by
  have e1 : IntKind.u64.wrap ((x : Int) * 256) = ((x * 256 : Nat) : Int) := by rw [IntKind.wrap_u64]; omega
  have e2 : IntKind.u64.wrap (b : Int) = ((b : Nat) : Int) := by rw [IntKind.wrap_u64]; omega
  rw [e1, e2, u64_or_nat _ _ (by omega) (by omega), nat_join 8 _ _ (by omega) (by omega)]
theorem take_next (l : List UInt8) (q : Nat) (h1 : 1 ≤ q) (hq : q < l.length) : (l.drop 1).take q = (l.drop 1).take (q - 1) ++ [l.getD q 0] := by
  have h2 : q - 1 < (l.drop 1).length := by rw [List.length_drop]; omega
  have := List.take_succ_eq_append_getElem h2
  rw [show q - 1 + 1 = q by omega] at this
  rw [this]
  congr 2
  rw [List.getElem_drop, List.getD_eq_getElem?_getD, List.getElem?_eq_getElem hq]
  simp [show 1 + (q - 1) = q by omega]
theorem pow_le7 {k n : Nat} (h : n < 256 ^ k) (hk : k ≤ 7) : n < 72057594037927936 := Nat.lt_of_lt_of_le h (Nat.pow_le_pow_right (by omega) hk)
theorem first_of' {s : ByteArray} (h : 0 < s.size) : s.data.toList.headD 0 = s[0] := by
  obtain ⟨⟨l⟩⟩ := s
  cases l with
  | nil => simp [ByteArray.size] at h
  | cons c l => rfl

set_option maxRecDepth 100000 in
set_option maxHeartbeats 4000000 in
theorem head_cutL (s : ByteArray) (m : Nat) (hm : s.data.toList.headD 0 = UInt8.ofNat (192 + m)) (h56 : 56 ≤ m) (h64 : m ≤ 63) (hs : 0 < s.size) (hcut : s.size < m - 54) : HeadsTo s (.error 5) := by
  intro w
  have hnil : (s.toList == []) = false := by
    rw [beq_eq_false_iff_ne, ByteArray.toList_eq]
    intro e
    rw [size_len, e] at hs
    simp at hs
  have h0 : s[0].toNat = 192 + m := by
    rw [← first_of' hs, hm]
    simp
    omega
  clear hm
  go_enter Try.func38, Try.ntmps38
  go_wp2_with (go_at_call 34; refine (fail_any _ _).mono ?_; rintro e w1 ⟨rfl, rfl⟩)
  simp [bodyPost]

set_option maxRecDepth 100000 in
set_option maxHeartbeats 4000000 in
theorem head_cutT (s : ByteArray) (m : Nat) (hm : s.data.toList.headD 0 = UInt8.ofNat (128 + m)) (h56 : 56 ≤ m) (h64 : m ≤ 63) (hs : 0 < s.size) (hcut : s.size < m - 54) : HeadsTo s (.error 5) := by
  intro w
  have hnil : (s.toList == []) = false := by
    rw [beq_eq_false_iff_ne, ByteArray.toList_eq]
    intro e
    rw [size_len, e] at hs
    simp at hs
  have h0 : s[0].toNat = 128 + m := by
    rw [← first_of' hs, hm]
    simp
    omega
  clear hm
  go_enter Try.func38, Try.ntmps38
  go_wp2_with (go_at_call 34; refine (fail_any _ _).mono ?_; rintro e w1 ⟨rfl, rfl⟩)
  simp [bodyPost]

set_option maxRecDepth 100000 in
set_option maxHeartbeats 8000000 in
theorem head_longL (s : ByteArray) (m : Nat) (hm : s.data.toList.headD 0 = UInt8.ofNat (192 + m)) (h56 : 56 ≤ m) (h64 : m ≤ 63) (hcut : m - 54 ≤ s.size) (hgood : s.data.toList.getD 1 0 ≠ 0 ∧ 55 < valB ((s.data.toList.drop 1).take (m - 55))) : HeadsTo s (.ok (true, m - 54, valB ((s.data.toList.drop 1).take (m - 55)))) := by
  intro w
  have hs : 0 < s.size := by omega
  have hnil : (s.toList == []) = false := by
    rw [beq_eq_false_iff_ne, ByteArray.toList_eq]
    intro e
    rw [size_len, e] at hs
    simp at hs
  have h0 : s[0].toNat = 192 + m := by
    rw [← first_of' hs, hm]
    simp
    omega
  obtain ⟨V, hV⟩ : ∃ V, valB ((s.data.toList.drop 1).take (m - 55)) = V := ⟨_, rfl⟩
  rw [hV] at hgood ⊢
  have HV := Lib.hid hV
  clear hm hV
  go_enter Try.func38, Try.ntmps38
  go_wp2
  go_loop [4, 6] (fun v i => ∃ q x : Nat, 1 ≤ q ∧ q ≤ m - 54 ∧ i = .int .i64 q ∧ v = .int .u64 x ∧ Hid (x = valB ((s.data.toList.drop 1).take (q - 1)))) (fun _ i => m - (intOf i).toNat)
  case atStart => exact ⟨1, 0, by omega, by omega, rfl, rfl, Lib.hid rfl⟩
  case round =>
    obtain ⟨q, x, hq1, hq, rfl, rfl, HX⟩ := hrel
    by_cases hlt : q < m - 54
    · have hqs : q < s.size := by omega
      have hx : x < 72057594037927936 := by
        rw [HX.out]
        exact pow_le7 (valB_lt _) (by rw [List.length_take, List.length_drop]; omega)
      have HS : Hid (bits .or .u64 ((x : Int) * 256) (IntKind.u64.wrap (s[q].toNat : Int)) = ((x * 256 + s[q].toNat : Nat) : Int)) := Lib.hid (by rw [← or_byte _ _ hx s[q].toNat_lt, show IntKind.u64.wrap ((x : Int) * 256) = (x : Int) * 256 by rw [IntKind.wrap_u64]; omega])
      have HN : Hid (x * 256 + s[q].toNat = valB ((s.data.toList.drop 1).take (q + 1 - 1))) := Lib.hid (by
        rw [show q + 1 - 1 = q by omega, take_next _ q hq1 (by rw [← size_len]; exact hqs), valB_snoc, ← HX.out, get_at s q hqs])
      go_wp2
      go_round
      case rel => exact ⟨q + 1, _, by omega, by omega, by go_num, by rw [HS.out], Lib.hid HN.out⟩
      case measure => simp [intOf]; omega
    · obtain rfl : q = m - 54 := by omega
      have hv : x = V := by rw [HX.out, ← HV.out, show m - 54 - 1 = m - 55 by omega]
      have hs1 : 1 < s.size := by omega
      have h1 : s[1].toNat ≠ 0 := by
        rw [get_at s 1 hs1]
        intro e
        exact hgood.1 (UInt8.toNat_inj.1 e)
      have hb1 : ((s[1].toNat : Int) == 0) = false := by simp; omega
      have hV := hgood.2
      subst hv
      have hA : Hid (((m - 54 : Nat) : Int) = 1 + (192 + (m : Int) - 192) - 55) := Lib.hid (by omega)
      clear HX HV hgood hlt h1
      go_wp2
      go_ret3
      exact ⟨by rw [hA.out]; rfl, rfl⟩

set_option maxRecDepth 100000 in
set_option maxHeartbeats 8000000 in
theorem head_longT (s : ByteArray) (m : Nat) (hm : s.data.toList.headD 0 = UInt8.ofNat (128 + m)) (h56 : 56 ≤ m) (h64 : m ≤ 63) (hcut : m - 54 ≤ s.size) (hgood : s.data.toList.getD 1 0 ≠ 0 ∧ 55 < valB ((s.data.toList.drop 1).take (m - 55))) : HeadsTo s (.ok (false, m - 54, valB ((s.data.toList.drop 1).take (m - 55)))) := by
  intro w
  have hs : 0 < s.size := by omega
  have hnil : (s.toList == []) = false := by
    rw [beq_eq_false_iff_ne, ByteArray.toList_eq]
    intro e
    rw [size_len, e] at hs
    simp at hs
  have h0 : s[0].toNat = 128 + m := by
    rw [← first_of' hs, hm]
    simp
    omega
  obtain ⟨V, hV⟩ : ∃ V, valB ((s.data.toList.drop 1).take (m - 55)) = V := ⟨_, rfl⟩
  rw [hV] at hgood ⊢
  have HV := Lib.hid hV
  clear hm hV
  go_enter Try.func38, Try.ntmps38
  go_wp2
  go_loop [4, 6] (fun v i => ∃ q x : Nat, 1 ≤ q ∧ q ≤ m - 54 ∧ i = .int .i64 q ∧ v = .int .u64 x ∧ Hid (x = valB ((s.data.toList.drop 1).take (q - 1)))) (fun _ i => m - (intOf i).toNat)
  case atStart => exact ⟨1, 0, by omega, by omega, rfl, rfl, Lib.hid rfl⟩
  case round =>
    obtain ⟨q, x, hq1, hq, rfl, rfl, HX⟩ := hrel
    by_cases hlt : q < m - 54
    · have hqs : q < s.size := by omega
      have hx : x < 72057594037927936 := by
        rw [HX.out]
        exact pow_le7 (valB_lt _) (by rw [List.length_take, List.length_drop]; omega)
      have HS : Hid (bits .or .u64 ((x : Int) * 256) (IntKind.u64.wrap (s[q].toNat : Int)) = ((x * 256 + s[q].toNat : Nat) : Int)) := Lib.hid (by rw [← or_byte _ _ hx s[q].toNat_lt, show IntKind.u64.wrap ((x : Int) * 256) = (x : Int) * 256 by rw [IntKind.wrap_u64]; omega])
      have HN : Hid (x * 256 + s[q].toNat = valB ((s.data.toList.drop 1).take (q + 1 - 1))) := Lib.hid (by
        rw [show q + 1 - 1 = q by omega, take_next _ q hq1 (by rw [← size_len]; exact hqs), valB_snoc, ← HX.out, get_at s q hqs])
      go_wp2
      go_round
      case rel => exact ⟨q + 1, _, by omega, by omega, by go_num, by rw [HS.out], Lib.hid HN.out⟩
      case measure => simp [intOf]; omega
    · obtain rfl : q = m - 54 := by omega
      have hv : x = V := by rw [HX.out, ← HV.out, show m - 54 - 1 = m - 55 by omega]
      have hs1 : 1 < s.size := by omega
      have h1 : s[1].toNat ≠ 0 := by
        rw [get_at s 1 hs1]
        intro e
        exact hgood.1 (UInt8.toNat_inj.1 e)
      have hb1 : ((s[1].toNat : Int) == 0) = false := by simp; omega
      have hV := hgood.2
      subst hv
      have hF : Hid (decide ((192 : Int) ≤ 128 + (m : Int)) = false) := Lib.hid (by simp; omega)
      have hA : Hid (((m - 54 : Nat) : Int) = 1 + (128 + (m : Int) - 128) - 55) := Lib.hid (by omega)
      clear HX HV hgood hlt h1
      go_wp2
      go_ret3
      refine ⟨?_, rfl⟩
      rw [hA.out]
      show Ending.returned (.tuple #[.bool (decide ((192 : Int) ≤ 128 + (m : Int))), _, _]) = _
      rw [hF.out]
      rfl

set_option maxRecDepth 100000 in
set_option maxHeartbeats 8000000 in
theorem head_badL (s : ByteArray) (m : Nat) (hm : s.data.toList.headD 0 = UInt8.ofNat (192 + m)) (h56 : 56 ≤ m) (h64 : m ≤ 63) (hcut : m - 54 ≤ s.size) (hbad : s.data.toList.getD 1 0 = 0 ∨ valB ((s.data.toList.drop 1).take (m - 55)) ≤ 55) : HeadsTo s (.error 6) := by
  intro w
  have hs : 0 < s.size := by omega
  have hnil : (s.toList == []) = false := by
    rw [beq_eq_false_iff_ne, ByteArray.toList_eq]
    intro e
    rw [size_len, e] at hs
    simp at hs
  have h0 : s[0].toNat = 192 + m := by
    rw [← first_of' hs, hm]
    simp
    omega
  obtain ⟨V, hV⟩ : ∃ V, valB ((s.data.toList.drop 1).take (m - 55)) = V := ⟨_, rfl⟩
  rw [hV] at hbad
  have HV := Lib.hid hV
  clear hm hV
  go_enter Try.func38, Try.ntmps38
  go_wp2
  go_loop [4, 6] (fun v i => ∃ q x : Nat, 1 ≤ q ∧ q ≤ m - 54 ∧ i = .int .i64 q ∧ v = .int .u64 x ∧ Hid (x = valB ((s.data.toList.drop 1).take (q - 1)))) (fun _ i => m - (intOf i).toNat)
  case atStart => exact ⟨1, 0, by omega, by omega, rfl, rfl, Lib.hid rfl⟩
  case round =>
    obtain ⟨q, x, hq1, hq, rfl, rfl, HX⟩ := hrel
    by_cases hlt : q < m - 54
    · have hqs : q < s.size := by omega
      have hx : x < 72057594037927936 := by
        rw [HX.out]
        exact pow_le7 (valB_lt _) (by rw [List.length_take, List.length_drop]; omega)
      have HS : Hid (bits .or .u64 ((x : Int) * 256) (IntKind.u64.wrap (s[q].toNat : Int)) = ((x * 256 + s[q].toNat : Nat) : Int)) := Lib.hid (by rw [← or_byte _ _ hx s[q].toNat_lt, show IntKind.u64.wrap ((x : Int) * 256) = (x : Int) * 256 by rw [IntKind.wrap_u64]; omega])
      have HN : Hid (x * 256 + s[q].toNat = valB ((s.data.toList.drop 1).take (q + 1 - 1))) := Lib.hid (by
        rw [show q + 1 - 1 = q by omega, take_next _ q hq1 (by rw [← size_len]; exact hqs), valB_snoc, ← HX.out, get_at s q hqs])
      go_wp2
      go_round
      case rel => exact ⟨q + 1, _, by omega, by omega, by go_num, by rw [HS.out], Lib.hid HN.out⟩
      case measure => simp [intOf]; omega
    · obtain rfl : q = m - 54 := by omega
      have hv : x = V := by rw [HX.out, ← HV.out, show m - 54 - 1 = m - 55 by omega]
      have hs1 : 1 < s.size := by omega
      have h1 : s[1].toNat = 0 ∨ x ≤ 55 := by
        rw [get_at s 1 hs1, hv]
        rcases hbad with h | h
        · exact .inl (by rw [h]; rfl)
        · exact .inr h
      subst hv
      clear HX HV hbad hlt
      by_cases hz : s[1].toNat = 0
      · have hb1 : ((s[1].toNat : Int) == 0) = true := by simp; omega
        clear hz h1
        go_wp2_with (go_at_call 34; refine (fail_any _ _).mono ?_; rintro e w1 ⟨rfl, rfl⟩)
        simp [bodyPost]
      · have hb1 : ((s[1].toNat : Int) == 0) = false := by simp; omega
        have hx55 : x ≤ 55 := by omega
        clear hz h1
        go_wp2_with (go_at_call 34; refine (fail_any _ _).mono ?_; rintro e w1 ⟨rfl, rfl⟩)
        simp [bodyPost]

set_option maxRecDepth 100000 in
set_option maxHeartbeats 8000000 in
theorem head_badT (s : ByteArray) (m : Nat) (hm : s.data.toList.headD 0 = UInt8.ofNat (128 + m)) (h56 : 56 ≤ m) (h64 : m ≤ 63) (hcut : m - 54 ≤ s.size) (hbad : s.data.toList.getD 1 0 = 0 ∨ valB ((s.data.toList.drop 1).take (m - 55)) ≤ 55) : HeadsTo s (.error 6) := by
  intro w
  have hs : 0 < s.size := by omega
  have hnil : (s.toList == []) = false := by
    rw [beq_eq_false_iff_ne, ByteArray.toList_eq]
    intro e
    rw [size_len, e] at hs
    simp at hs
  have h0 : s[0].toNat = 128 + m := by
    rw [← first_of' hs, hm]
    simp
    omega
  obtain ⟨V, hV⟩ : ∃ V, valB ((s.data.toList.drop 1).take (m - 55)) = V := ⟨_, rfl⟩
  rw [hV] at hbad
  have HV := Lib.hid hV
  clear hm hV
  go_enter Try.func38, Try.ntmps38
  go_wp2
  go_loop [4, 6] (fun v i => ∃ q x : Nat, 1 ≤ q ∧ q ≤ m - 54 ∧ i = .int .i64 q ∧ v = .int .u64 x ∧ Hid (x = valB ((s.data.toList.drop 1).take (q - 1)))) (fun _ i => m - (intOf i).toNat)
  case atStart => exact ⟨1, 0, by omega, by omega, rfl, rfl, Lib.hid rfl⟩
  case round =>
    obtain ⟨q, x, hq1, hq, rfl, rfl, HX⟩ := hrel
    by_cases hlt : q < m - 54
    · have hqs : q < s.size := by omega
      have hx : x < 72057594037927936 := by
        rw [HX.out]
        exact pow_le7 (valB_lt _) (by rw [List.length_take, List.length_drop]; omega)
      have HS : Hid (bits .or .u64 ((x : Int) * 256) (IntKind.u64.wrap (s[q].toNat : Int)) = ((x * 256 + s[q].toNat : Nat) : Int)) := Lib.hid (by rw [← or_byte _ _ hx s[q].toNat_lt, show IntKind.u64.wrap ((x : Int) * 256) = (x : Int) * 256 by rw [IntKind.wrap_u64]; omega])
      have HN : Hid (x * 256 + s[q].toNat = valB ((s.data.toList.drop 1).take (q + 1 - 1))) := Lib.hid (by
        rw [show q + 1 - 1 = q by omega, take_next _ q hq1 (by rw [← size_len]; exact hqs), valB_snoc, ← HX.out, get_at s q hqs])
      go_wp2
      go_round
      case rel => exact ⟨q + 1, _, by omega, by omega, by go_num, by rw [HS.out], Lib.hid HN.out⟩
      case measure => simp [intOf]; omega
    · obtain rfl : q = m - 54 := by omega
      have hv : x = V := by rw [HX.out, ← HV.out, show m - 54 - 1 = m - 55 by omega]
      have hs1 : 1 < s.size := by omega
      have h1 : s[1].toNat = 0 ∨ x ≤ 55 := by
        rw [get_at s 1 hs1, hv]
        rcases hbad with h | h
        · exact .inl (by rw [h]; rfl)
        · exact .inr h
      subst hv
      clear HX HV hbad hlt
      by_cases hz : s[1].toNat = 0
      · have hb1 : ((s[1].toNat : Int) == 0) = true := by simp; omega
        clear hz h1
        go_wp2_with (go_at_call 34; refine (fail_any _ _).mono ?_; rintro e w1 ⟨rfl, rfl⟩)
        simp [bodyPost]
      · have hb1 : ((s[1].toNat : Int) == 0) = false := by simp; omega
        have hx55 : x ≤ 55 := by omega
        clear hz h1
        go_wp2_with (go_at_call 34; refine (fail_any _ _).mono ?_; rintro e w1 ⟨rfl, rfl⟩)
        simp [bodyPost]

set_option maxRecDepth 100000 in
/-- head, of any bytes -/
theorem head_tells (s : ByteArray) : HeadsTo s (headE s.data.toList) := by
  obtain ⟨l, hl⟩ : ∃ l, s.data.toList = l := ⟨_, rfl⟩
  cases l with
  | nil => rw [hl]; exact head_nil s hl
  | cons c t =>
    have hsz : s.size = t.length + 1 := by rw [size_len, hl]; rfl
    have hh : s.data.toList.headD 0 = c := by rw [hl]; rfl
    have hd1 : s.data.toList.drop 1 = t := by rw [hl]; rfl
    have hg1 : s.data.toList.getD 1 0 = t.headD 0 := by rw [hl]; cases t <;> rfl
    have hc := c.toNat_lt
    have hof : ∀ k, c.toNat = k → c = UInt8.ofNat k := fun k e => by rw [← e]; simp
    rw [hl]
    dsimp only [headE]
    by_cases h1 : c.toNat < 128
    · rw [if_pos h1]; exact head_text s c t hl h1
    · rw [if_neg h1]
      by_cases h2 : c.toNat - (if 192 ≤ c.toNat then 192 else 128) ≤ 55
      · rw [if_pos h2]; exact head_short s c t hl h1 h2
      · rw [if_neg h2]
        by_cases h192 : 192 ≤ c.toNat
        · simp only [if_pos h192, decide_eq_true h192] at h2 ⊢
          have hcm : c = UInt8.ofNat (192 + (c.toNat - 192)) := hof _ (by omega)
          by_cases h3 : t.length < c.toNat - 192 - 55
          · rw [if_pos h3]
            exact head_cutL s (c.toNat - 192) (by rw [hh]; exact hcm) (by omega) (by omega) (by omega) (by omega)
          · rw [if_neg h3]
            by_cases h4 : t.headD 0 = 0 ∨ valB (t.take (c.toNat - 192 - 55)) ≤ 55
            · rw [if_pos h4]
              exact head_badL s (c.toNat - 192) (by rw [hh]; exact hcm) (by omega) (by omega) (by omega) (by rw [hd1, hg1]; exact h4)
            · rw [if_neg h4]
              have := head_longL s (c.toNat - 192) (by rw [hh]; exact hcm) (by omega) (by omega) (by omega) (by
                rw [hd1, hg1]
                exact ⟨fun e => h4 (.inl e), by omega⟩)
              rw [hd1, show c.toNat - 192 - 54 = 1 + (c.toNat - 192 - 55) by omega] at this
              exact this
        · simp only [if_neg h192, decide_eq_false h192] at h2 ⊢
          have hcm : c = UInt8.ofNat (128 + (c.toNat - 128)) := hof _ (by omega)
          by_cases h3 : t.length < c.toNat - 128 - 55
          · rw [if_pos h3]
            exact head_cutT s (c.toNat - 128) (by rw [hh]; exact hcm) (by omega) (by omega) (by omega) (by omega)
          · rw [if_neg h3]
            by_cases h4 : t.headD 0 = 0 ∨ valB (t.take (c.toNat - 128 - 55)) ≤ 55
            · rw [if_pos h4]
              exact head_badT s (c.toNat - 128) (by rw [hh]; exact hcm) (by omega) (by omega) (by omega) (by rw [hd1, hg1]; exact h4)
            · rw [if_neg h4]
              have := head_longT s (c.toNat - 128) (by rw [hh]; exact hcm) (by omega) (by omega) (by omega) (by
                rw [hd1, hg1]
                exact ⟨fun e => h4 (.inl e), by omega⟩)
              rw [hd1, show c.toNat - 128 - 54 = 1 + (c.toNat - 128 - 55) by omega] at this
              exact this
end Rl
end Go.Proofs.Ytmnihiagkmdepaa
