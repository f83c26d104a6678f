/-
 The contract of nib.Unpack.
-/
import Derived.Test.YtooklabipgmolaaGreatDoorMr6
open Go.Lib (hid)
set_option linter.unusedSimpArgs false
set_option linter.unusedVariables false
set_option maxHeartbeats 40000000
set_option maxRecDepth 100000
namespace Go.Proofs.YtooklabipgmolaaGreatDoor
section
open Go.RowKit
namespace Ni
theorem teller_0 (c : Nat) (s : ByteArray) (hs : s.size ≤ maxLen) (hi : 0 < s.size) (w : World) (hc : w.cell? ⟨c, 0, none⟩ = some (.string s)) :
  Calls Tryz.prog 118 #[.int .i64 0, .pointer (some ⟨c, 0, none⟩)] w fun e w' => e = .returned (.int .u8 (nibAt s 0 : Nat)) ∧ w = w' :=
 teller1_any c s 0 hs hi w hc
theorem teller_1 (c : Nat) (s : ByteArray) (hs : s.size ≤ maxLen) (hi : 0 < s.size) (w : World) (hc : w.cell? ⟨c, 0, none⟩ = some (.string s)) :
  Calls Tryz.prog 118 #[.int .i64 1, .pointer (some ⟨c, 0, none⟩)] w fun e w' => e = .returned (.int .u8 (nibAt s 1 : Nat)) ∧ w = w' :=
 teller1_any c s 1 hs hi w hc
theorem and1f : ∀ x : Fin 16, bits .and .u8 ((x : Nat) : Int) 1 = (((x : Nat) % 2 : Nat) : Int) := by decide +kernel
theorem and2f : ∀ x : Fin 16, bits .and .u8 ((x : Nat) : Int) 2 = ((2 * ((x : Nat) / 2 % 2) : Nat) : Int) := by decide +kernel
theorem and1 (x : Nat) (h : x < 16) : bits .and .u8 (x : Int) 1 = ((x % 2 : Nat) : Int) := and1f ⟨x, h⟩
theorem and2 (x : Nat) (h : x < 16) : bits .and .u8 (x : Int) 2 = ((2 * (x / 2 % 2) : Nat) : Int) := and2f ⟨x, h⟩
def Bad (s : ByteArray) : Prop := (nibAt s 0 % 2 = 0 ∧ (33 < s.size ∨ 3 < nibAt s 0 ∨ nibAt s 1 ≠ 0)) ∨ (nibAt s 0 % 2 = 1 ∧ (32 < s.size ∨ 3 < nibAt s 0))
def leafB (s : ByteArray) : Bool := decide (nibAt s 0 / 2 % 2 = 1)
def pathL (s : ByteArray) : List UInt8 := (nibsL s).drop (2 - nibAt s 0 % 2)
theorem unpack_nil (w : World) :
  Calls Tryz.prog 161 #[.string ByteArray.empty] w fun e w' => e = .returned (.tuple #[.slice none 0 0, .bool false, .int .i64 5]) ∧ w = w' := by
 go_enter Tryz.func161, Tryz.ntmps161
 go_wp2
 go_ret3
 exact ⟨rfl, rfl⟩
theorem not_empty {s : ByteArray} (h : 0 < s.size) : s.toList.isEmpty = false := by
 rw [ByteArray.toList_eq]
 cases hd : s.data.toList with
 | nil =>
  have h1 : s.data.toList.length = 0 := by rw [hd]; rfl
  have h2 : s.data.toList.length = s.size := by simp
  omega
 | cons => rfl
theorem unpack_bad (s : ByteArray) (h0 : 0 < s.size) (hs : s.size ≤ 1000000) (hb : Bad s) (w : World) :
  Calls Tryz.prog 161 #[.string s] w fun e w' => e = .returned (.tuple #[.slice none 0 0, .bool false, .int .i64 6]) ∧ Below w.heap.size w w' := by
 have hmax : s.size ≤ maxLen := by unfold maxLen; omega
 have HC : Hid (∀ wx : World, (wx.alloc (.cells #[.string s] 9)).cell? ⟨wx.heap.size, 0, none⟩ = some (.string s)) := hid (fun wx => by simp)
 have hne := not_empty h0
 have hx16 := nibAt_lt s 0
 have hand := and1 (nibAt s 0) hx16
 have T0 := hid (fun c wx hc => teller_0 c s hmax h0 wx hc)
 have T1 := hid (fun c wx hc => teller_1 c s hmax h0 wx hc)
 unfold Bad at hb
 obtain ⟨x, hx⟩ : ∃ x, nibAt s 0 = x := ⟨_, rfl⟩
 obtain ⟨y, hy⟩ : ∃ y, nibAt s 1 = y := ⟨_, rfl⟩
 rw [hx] at hb hand hx16
 rw [hy] at hb
 simp only [hx] at T0
 simp only [hy] at T1
 clear hx hy hmax
 rcases hb with ⟨hp, hb⟩ | ⟨hp, hb⟩
 ·have hand0 : bits .and .u8 (x : Int) 1 = 0 := by rw [hand, hp]; rfl
  clear hand hp
  by_cases hb1 : 33 < s.size
  ·clear hb
   go_enter Tryz.func161, Tryz.ntmps161
   go_wp2_with fail
   refine (teller_any _ _).mono ?_
   rintro e w1 ⟨rfl, rfl⟩
   go_wp2_with fail
   refine (T0.out _ _ (HC.out _)).mono ?_
   rintro e w2 ⟨rfl, rfl⟩
   go_wp2
   go_ret3
   exact ⟨rfl, (Below.refl _ _).alloc (Nat.le_refl _) _⟩
  ·by_cases hb2 : 3 < x
   ·clear hb
    go_enter Tryz.func161, Tryz.ntmps161
    go_wp2_with fail
    refine (teller_any _ _).mono ?_
    rintro e w1 ⟨rfl, rfl⟩
    go_wp2_with fail
    refine (T0.out _ _ (HC.out _)).mono ?_
    rintro e w2 ⟨rfl, rfl⟩
    go_wp2
    go_ret3
    exact ⟨rfl, (Below.refl _ _).alloc (Nat.le_refl _) _⟩
   ·have hb3 : ((y : Int) != 0) = true := by simp; omega
    clear hb
    go_enter Tryz.func161, Tryz.ntmps161
    go_wp2_with fail
    refine (teller_any _ _).mono ?_
    rintro e w1 ⟨rfl, rfl⟩
    go_wp2_with fail
    refine (T0.out _ _ (HC.out _)).mono ?_
    rintro e w2 ⟨rfl, rfl⟩
    go_wp2_with fail
    refine (T1.out _ _ (HC.out _)).mono ?_
    rintro e w2 ⟨rfl, rfl⟩
    go_wp2
    go_ret3
    exact ⟨rfl, (Below.refl _ _).alloc (Nat.le_refl _) _⟩
 ·have hand0 : bits .and .u8 (x : Int) 1 = 1 := by rw [hand, hp]; rfl
  clear hand hp
  by_cases hb1 : 32 < s.size
  ·clear hb
   go_enter Tryz.func161, Tryz.ntmps161
   go_wp2_with fail
   refine (teller_any _ _).mono ?_
   rintro e w1 ⟨rfl, rfl⟩
   go_wp2_with fail
   refine (T0.out _ _ (HC.out _)).mono ?_
   rintro e w2 ⟨rfl, rfl⟩
   go_wp2
   go_ret3
   exact ⟨rfl, (Below.refl _ _).alloc (Nat.le_refl _) _⟩
  ·have hb2 : 3 < x := by omega
   clear hb
   go_enter Tryz.func161, Tryz.ntmps161
   go_wp2_with fail
   refine (teller_any _ _).mono ?_
   rintro e w1 ⟨rfl, rfl⟩
   go_wp2_with fail
   refine (T0.out _ _ (HC.out _)).mono ?_
   rintro e w2 ⟨rfl, rfl⟩
   go_wp2
   go_ret3
   exact ⟨rfl, (Below.refl _ _).alloc (Nat.le_refl _) _⟩
theorem nibsL_right (s : ByteArray) : rightB (nibsL s) = true := by
 unfold rightB nibsL
 rw [List.all_eq_true]
 intro x hx
 simp only [List.mem_map, List.mem_range] at hx
 obtain ⟨i, _, rfl⟩ := hx
 have := nibAt_lt s i
 simp only [UInt8.toNat_ofNat', decide_eq_true_eq]; omega
theorem cut_path (s : ByteArray) (a : Option Addr) (n cap : Nat) (w : World) (h : IsBs w a n cap (nibsL s)) (k : Nat) (hk : k ≤ n) (ki : Int) (hki : ki = k) :
  Calls Tryz.prog 136 #[.slice a n cap, .int .i64 ki, .int .i64 n] w fun e w' => ∃ a' n' c', e = .returned (.slice a' n' c') ∧ IsBs w a' n' c' ((nibsL s).drop k) ∧ w = w' := by
 subst hki
 refine (cut_bs a n cap (nibsL s) k n hk (Nat.le_refl _) w h).mono ?_
 rintro e w' ⟨a', c', rfl, ⟨hx, _⟩, rfl⟩
 have e : ((nibsL s).drop k).take (n - k) = (nibsL s).drop k := List.take_of_length_le (by rw [List.length_drop, h.len]; exact Nat.le_refl _)
 rw [e] at hx
 exact ⟨a', _, c', rfl, hx, rfl⟩
def Unp (w : World) (s : ByteArray) (e : Ending) (w' : World) : Prop :=
 ∃ a n cap, e = .returned (.tuple #[.slice a n cap, .bool (leafB s), .int .i64 0]) ∧ IsBs w' a n cap (pathL s) ∧ Below w.heap.size w w'
theorem unpack_ok (s : ByteArray) (h0 : 0 < s.size) (hb : ¬ Bad s) (w : World) :
  Calls Tryz.prog 161 #[.string s] w (Unp w s) := by
 have hx16 := nibAt_lt s 0
 have hs33 : s.size ≤ 33 := by unfold Bad at hb; omega
 have hmax : s.size ≤ maxLen := by unfold maxLen; omega
 have HC : Hid (∀ wx : World, (wx.alloc (.cells #[.string s] 9)).cell? ⟨wx.heap.size, 0, none⟩ = some (.string s)) := hid (fun wx => by simp)
 have hne := not_empty h0
 have hand := and1 (nibAt s 0) hx16
 have hand2 := and2 (nibAt s 0) hx16
 have T0 := hid (fun c wx hc => teller_0 c s hmax h0 wx hc)
 have T1 := hid (fun c wx hc => teller_1 c s hmax h0 wx hc)
 have SP := hid (fun wx => spread_any s (by omega) wx)
 have CP := hid (cut_path s)
 have hlen := nibsL_length s
 have hlf : leafB s = decide (nibAt s 0 / 2 % 2 = 1) := rfl
 have hpl : pathL s = (nibsL s).drop (2 - nibAt s 0 % 2) := rfl
 unfold Bad at hb
 obtain ⟨x, hx⟩ : ∃ x, nibAt s 0 = x := ⟨_, rfl⟩
 obtain ⟨y, hy⟩ : ∃ y, nibAt s 1 = y := ⟨_, rfl⟩
 rw [hx] at hb hand hx16 hand2 hlf hpl
 rw [hy] at hb
 simp only [hx] at T0
 simp only [hy] at T1
 clear hx hy hmax
 have HL := hid hlen
 have hx3 : x ≤ 3 := by omega
 by_cases hp : x % 2 = 0
 ·have hy0 : y = 0 := by omega
  subst hy0
  have hand0 : bits .and .u8 (x : Int) 1 = 0 := by rw [hand, hp]; rfl
  have HP : Hid (pathL s = (nibsL s).drop 2) := hid (by rw [hpl, hp])
  clear hand hpl hb hp hlen
  by_cases hl : x / 2 % 2 = 1
  ·have hl2 : bits .and .u8 (x : Int) 2 = 2 := by rw [hand2, hl]; rfl
   have HLf : Hid (leafB s = true) := hid (by rw [hlf]; exact decide_eq_true hl)
   clear hand2 hl hlf
   go_enter Tryz.func161, Tryz.ntmps161
   go_wp2_with fail
   refine (teller_any _ _).mono ?_
   rintro e w1 ⟨rfl, rfl⟩
   go_wp2_with fail
   refine (T0.out _ _ (HC.out _)).mono ?_
   rintro e w2 ⟨rfl, rfl⟩
   go_wp2_with fail
   refine (T1.out _ _ (HC.out _)).mono ?_
   rintro e w2 ⟨rfl, rfl⟩
   go_wp2_with fail
   refine (SP.out _).mono ?_
   rintro e w3 ⟨a, n, cap, rfl, hx, hb3⟩
   have hn2 : 2 ≤ n := by have := hx.len; rw [HL.out] at this; omega
   have HX := hid hx
   clear hx
   go_wp2_with fail
   refine (CP.out a n cap _ HX.out 2 (by omega) 2 rfl).mono ?_
   rintro e w4 ⟨a4, n4, c4, rfl, hx4, rfl⟩
   have HX4 := hid hx4
   clear hx4
   go_wp2
   go_ret3
   exact ⟨a4, n4, c4, by rw [HLf.out]; rfl, by rw [HP.out]; exact HX4.out, ((Below.refl w.heap.size w).alloc (Nat.le_refl _) _).trans (hb3.mono (by simp))⟩
  ·have hl2 : bits .and .u8 (x : Int) 2 = 0 := by rw [hand2, show x / 2 % 2 = 0 by omega]; rfl
   have HLf : Hid (leafB s = false) := hid (by rw [hlf]; exact decide_eq_false hl)
   clear hand2 hl hlf
   go_enter Tryz.func161, Tryz.ntmps161
   go_wp2_with fail
   refine (teller_any _ _).mono ?_
   rintro e w1 ⟨rfl, rfl⟩
   go_wp2_with fail
   refine (T0.out _ _ (HC.out _)).mono ?_
   rintro e w2 ⟨rfl, rfl⟩
   go_wp2_with fail
   refine (T1.out _ _ (HC.out _)).mono ?_
   rintro e w2 ⟨rfl, rfl⟩
   go_wp2_with fail
   refine (SP.out _).mono ?_
   rintro e w3 ⟨a, n, cap, rfl, hx, hb3⟩
   have hn2 : 2 ≤ n := by have := hx.len; rw [HL.out] at this; omega
   have HX := hid hx
   clear hx
   go_wp2_with fail
   refine (CP.out a n cap _ HX.out 2 (by omega) 2 rfl).mono ?_
   rintro e w4 ⟨a4, n4, c4, rfl, hx4, rfl⟩
   have HX4 := hid hx4
   clear hx4
   go_wp2
   go_ret3
   exact ⟨a4, n4, c4, by rw [HLf.out]; rfl, by rw [HP.out]; exact HX4.out, ((Below.refl w.heap.size w).alloc (Nat.le_refl _) _).trans (hb3.mono (by simp))⟩
 ·have hp1 : x % 2 = 1 := by omega
  have hs32 : s.size ≤ 32 := by omega
  have hand0 : bits .and .u8 (x : Int) 1 = 1 := by rw [hand, hp1]; rfl
  have HP : Hid (pathL s = (nibsL s).drop 1) := hid (by rw [hpl, hp1])
  clear hand hpl hb hp hp1 hlen T1
  by_cases hl : x / 2 % 2 = 1
  ·have hl2 : bits .and .u8 (x : Int) 2 = 2 := by rw [hand2, hl]; rfl
   have HLf : Hid (leafB s = true) := hid (by rw [hlf]; exact decide_eq_true hl)
   clear hand2 hl hlf
   go_enter Tryz.func161, Tryz.ntmps161
   go_wp2_with fail
   refine (teller_any _ _).mono ?_
   rintro e w1 ⟨rfl, rfl⟩
   go_wp2_with fail
   refine (T0.out _ _ (HC.out _)).mono ?_
   rintro e w2 ⟨rfl, rfl⟩
   go_wp2_with fail
   refine (SP.out _).mono ?_
   rintro e w3 ⟨a, n, cap, rfl, hx, hb3⟩
   have hn2 : 2 ≤ n := by have := hx.len; rw [HL.out] at this; omega
   have HX := hid hx
   clear hx
   go_wp2_with fail
   refine (CP.out a n cap _ HX.out 1 (by omega) 1 rfl).mono ?_
   rintro e w4 ⟨a4, n4, c4, rfl, hx4, rfl⟩
   have HX4 := hid hx4
   clear hx4
   go_wp2
   go_ret3
   exact ⟨a4, n4, c4, by rw [HLf.out]; rfl, by rw [HP.out]; exact HX4.out, ((Below.refl w.heap.size w).alloc (Nat.le_refl _) _).trans (hb3.mono (by simp))⟩
  ·have hl2 : bits .and .u8 (x : Int) 2 = 0 := by rw [hand2, show x / 2 % 2 = 0 by omega]; rfl
   have HLf : Hid (leafB s = false) := hid (by rw [hlf]; exact decide_eq_false hl)
   clear hand2 hl hlf
   go_enter Tryz.func161, Tryz.ntmps161
   go_wp2_with fail
   refine (teller_any _ _).mono ?_
   rintro e w1 ⟨rfl, rfl⟩
   go_wp2_with fail
   refine (T0.out _ _ (HC.out _)).mono ?_
   rintro e w2 ⟨rfl, rfl⟩
   go_wp2_with fail
   refine (SP.out _).mono ?_
   rintro e w3 ⟨a, n, cap, rfl, hx, hb3⟩
   have hn2 : 2 ≤ n := by have := hx.len; rw [HL.out] at this; omega
   have HX := hid hx
   clear hx
   go_wp2_with fail
   refine (CP.out a n cap _ HX.out 1 (by omega) 1 rfl).mono ?_
   rintro e w4 ⟨a4, n4, c4, rfl, hx4, rfl⟩
   have HX4 := hid hx4
   clear hx4
   go_wp2
   go_ret3
   exact ⟨a4, n4, c4, by rw [HLf.out]; rfl, by rw [HP.out]; exact HX4.out, ((Below.refl w.heap.size w).alloc (Nat.le_refl _) _).trans (hb3.mono (by simp))⟩
end Ni
end
end Go.Proofs.YtooklabipgmolaaGreatDoor
