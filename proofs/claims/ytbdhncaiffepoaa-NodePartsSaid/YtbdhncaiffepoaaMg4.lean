/-
  The contract of nib.Unpack.
-/
import Derived.Test.YtbdhncaiffepoaaMg3
import Derived.Test.YtbdhncaiffepoaaMg2
import Derived.Test.YtbdhncaiffepoaaMg1
namespace Go.Proofs.Ytbdhncaiffepoaa
set_option maxRecDepth 20000
open Go.RowKit

namespace Ni
theorem teller_0 (c : Nat) (s : ByteArray) (hs : s.size ≤ maxLen) (hi : 0 < s.size) (w : World) (hc : w.cell? ⟨c, 0, none⟩ = some (.string s)) :
    Calls Try.prog 86 #[.int .i64 0, .pointer (some ⟨c, 0, none⟩)] w fun e w' => e = .returned (.int .u8 (nibAt s 0 : Nat)) ∧ w = w' :=
  teller1_any c s 0 hs hi w hc
theorem teller_1 (c : Nat) (s : ByteArray) (hs : s.size ≤ maxLen) (hi : 0 < s.size) (w : World) (hc : w.cell? ⟨c, 0, none⟩ = some (.string s)) :
    Calls Try.prog 86 #[.int .i64 1, .pointer (some ⟨c, 0, none⟩)] w fun e w' => e = .returned (.int .u8 (nibAt s 1 : Nat)) ∧ w = w' :=
  teller1_any c s 1 hs hi w hc
theorem and1f : ∀ x : Fin 16, bits .and .u8 ((x : Nat) : Int) 1 = (((x : Nat) % 2 : Nat) : Int) := by decide +kernel
theorem and2f : ∀ x : Fin 16, bits .and .u8 ((x : Nat) : Int) 2 = ((2 * ((x : Nat) / 2 % 2) : Nat) : Int) := by decide +kernel

theorem and1 (x : Nat) (h : x < 16) : bits .and .u8 (x : Int) 1 = ((x % 2 : Nat) : Int) := and1f ⟨x, h⟩
theorem and2 (x : Nat) (h : x < 16) : bits .and .u8 (x : Int) 2 = ((2 * (x / 2 % 2) : Nat) : Int) := and2f ⟨x, h⟩

/-- which texts are no hex-prefix -/
def Bad (s : ByteArray) : Prop := (nibAt s 0 % 2 = 0 ∧ (33 < s.size ∨ 3 < nibAt s 0 ∨ nibAt s 1 ≠ 0)) ∨ (nibAt s 0 % 2 = 1 ∧ (32 < s.size ∨ 3 < nibAt s 0))
def leafB (s : ByteArray) : Bool := decide (nibAt s 0 / 2 % 2 = 1)
def pathL (s : ByteArray) : List UInt8 := (nibsL s).drop (2 - nibAt s 0 % 2)

theorem unpack_nil (w : World) :
    Calls Try.prog 71 #[.string ByteArray.empty] w fun e w' => e = .returned (.tuple #[.slice none 0 0, .bool false, .int .i64 5]) ∧ w = w' := by
  go_enter Try.func71, Try.ntmps71
  go_wp2
  go_ret3
  exact ⟨rfl, rfl⟩

theorem not_empty {s : ByteArray} (h : 0 < s.size) : s.toList.isEmpty = false := by
  rw [ByteArray.toList_eq]
  cases hd : s.data.toList with
  | nil =>
    have h1 : s.data.toList.length = 0 := by rw [hd]; rfl
    have h2 : s.data.toList.length = s.size := by simp
    omega
  | cons => rfl

set_option maxHeartbeats 1000000 in
theorem unpack_bad (s : ByteArray) (h0 : 0 < s.size) (hs : s.size ≤ 1000000) (hb : Bad s) (w : World) :
    Calls Try.prog 71 #[.string s] w fun e w' => e = .returned (.tuple #[.slice none 0 0, .bool false, .int .i64 6]) ∧ Below w.heap.size w w' := by
  have hmax : s.size ≤ maxLen := by unfold maxLen; omega
  have HC : Hid (∀ wx : World, (wx.alloc (.cells #[.string s] 9)).cell? ⟨wx.heap.size, 0, none⟩ = some (.string s)) := Lib.hid (fun wx => by simp)
  have hne := not_empty h0
  have hx16 := nibAt_lt s 0
  have hand := and1 (nibAt s 0) hx16
  have T0 := Lib.hid (fun c wx hc => teller_0 c s hmax h0 wx hc)
  have T1 := Lib.hid (fun c wx hc => teller_1 c s hmax h0 wx hc)
  unfold Bad at hb
  obtain ⟨x, hx⟩ : ∃ x, nibAt s 0 = x := ⟨_, rfl⟩
  obtain ⟨y, hy⟩ : ∃ y, nibAt s 1 = y := ⟨_, rfl⟩
  rw [hx] at hb hand hx16
  rw [hy] at hb
  simp only [hx] at T0
  simp only [hy] at T1
  clear hx hy hmax
  rcases hb with ⟨hp, hb⟩ | ⟨hp, hb⟩
  · have hand0 : bits .and .u8 (x : Int) 1 = 0 := by rw [hand, hp]; rfl
    clear hand hp
    by_cases hb1 : 33 < s.size
    · clear hb
      go_enter Try.func71, Try.ntmps71
      go_wp2_with fail
      refine (teller_any _ _).mono ?_
      rintro e w1 ⟨rfl, rfl⟩
      go_wp2_with fail
      refine (T0.out _ _ (HC.out _)).mono ?_
      rintro e w2 ⟨rfl, rfl⟩
      go_wp2
      go_ret3
      exact ⟨rfl, (Below.refl _ _).alloc (Nat.le_refl _) _⟩
    · by_cases hb2 : 3 < x
      · clear hb
        go_enter Try.func71, Try.ntmps71
        go_wp2_with fail
        refine (teller_any _ _).mono ?_
        rintro e w1 ⟨rfl, rfl⟩
        go_wp2_with fail
        refine (T0.out _ _ (HC.out _)).mono ?_
        rintro e w2 ⟨rfl, rfl⟩
        go_wp2
        go_ret3
        exact ⟨rfl, (Below.refl _ _).alloc (Nat.le_refl _) _⟩
      · have hb3 : ((y : Int) != 0) = true := by simp; omega
        clear hb
        go_enter Try.func71, Try.ntmps71
        go_wp2_with fail
        refine (teller_any _ _).mono ?_
        rintro e w1 ⟨rfl, rfl⟩
        go_wp2_with fail
        refine (T0.out _ _ (HC.out _)).mono ?_
        rintro e w2 ⟨rfl, rfl⟩
        go_wp2_with fail
        refine (T1.out _ _ (HC.out _)).mono ?_
        rintro e w2 ⟨rfl, rfl⟩
        go_wp2
        go_ret3
        exact ⟨rfl, (Below.refl _ _).alloc (Nat.le_refl _) _⟩
  · have hand0 : bits .and .u8 (x : Int) 1 = 1 := by rw [hand, hp]; rfl
    clear hand hp
    by_cases hb1 : 32 < s.size
    · clear hb
      go_enter Try.func71, Try.ntmps71
      go_wp2_with fail
      refine (teller_any _ _).mono ?_
      rintro e w1 ⟨rfl, rfl⟩
      go_wp2_with fail
      refine (T0.out _ _ (HC.out _)).mono ?_
      rintro e w2 ⟨rfl, rfl⟩
      go_wp2
      go_ret3
      exact ⟨rfl, (Below.refl _ _).alloc (Nat.le_refl _) _⟩
    · have hb2 : 3 < x := by omega
      clear hb
      go_enter Try.func71, Try.ntmps71
      go_wp2_with fail
      refine (teller_any _ _).mono ?_
      rintro e w1 ⟨rfl, rfl⟩
      go_wp2_with fail
      refine (T0.out _ _ (HC.out _)).mono ?_
      rintro e w2 ⟨rfl, rfl⟩
      go_wp2
      go_ret3
      exact ⟨rfl, (Below.refl _ _).alloc (Nat.le_refl _) _⟩

theorem nibsL_right (s : ByteArray) : rightB (nibsL s) = true := by
  unfold rightB nibsL
  rw [List.all_eq_true]
  intro x hx
  simp only [List.mem_map, List.mem_range] at hx
  obtain ⟨i, _, rfl⟩ := hx
  have := nibAt_lt s i
  simp only [UInt8.toNat_ofNat', decide_eq_true_eq]; omega

/-- spread's answer is cut behind its head -/
theorem cut_path (s : ByteArray) (a : Option Addr) (n cap : Nat) (w : World) (h : IsBs w a n cap (nibsL s)) (k : Nat) (hk : k ≤ n) (ki : Int) (hki : ki = k) :
    Calls Try.prog 65 #[.slice a n cap, .int .i64 ki, .int .i64 n] w fun e w' => ∃ a' n' c', e = .returned (.slice a' n' c') ∧ IsBs w a' n' c' ((nibsL s).drop k) ∧ w = w' := by
  subst hki
  refine (cut_bs a n cap (nibsL s) k n hk (Nat.le_refl _) w h).mono ?_
  rintro e w' ⟨a', c', rfl, ⟨hx, _⟩, rfl⟩
  have e : ((nibsL s).drop k).take (n - k) = (nibsL s).drop k := List.take_of_length_le (by rw [List.length_drop, h.len]; exact Nat.le_refl _)
  rw [e] at hx
  exact ⟨a', _, c', rfl, hx, rfl⟩

/-- a path is unpacked -/
def Unp (w : World) (s : ByteArray) (e : Ending) (w' : World) : Prop :=
  ∃ a n cap, e = .returned (.tuple #[.slice a n cap, .bool (leafB s), .int .i64 0]) ∧ IsBs w' a n cap (pathL s) ∧ Below w.heap.size w w'

set_option maxHeartbeats 1000000 in
theorem unpack_ok (s : ByteArray) (h0 : 0 < s.size) (hb : ¬ Bad s) (w : World) :
    Calls Try.prog 71 #[.string s] w (Unp w s) := by
  have hx16 := nibAt_lt s 0
  have hs33 : s.size ≤ 33 := by unfold Bad at hb; omega
  have hmax : s.size ≤ maxLen := by unfold maxLen; omega
  have HC : Hid (∀ wx : World, (wx.alloc (.cells #[.string s] 9)).cell? ⟨wx.heap.size, 0, none⟩ = some (.string s)) := Lib.hid (fun wx => by simp)
  have hne := not_empty h0
  have hand := and1 (nibAt s 0) hx16
  have hand2 := and2 (nibAt s 0) hx16
  have T0 := Lib.hid (fun c wx hc => teller_0 c s hmax h0 wx hc)
  have T1 := Lib.hid (fun c wx hc => teller_1 c s hmax h0 wx hc)
  have SP := Lib.hid (fun wx => spread_any s (by omega) wx)
  have CP := Lib.hid (cut_path s)
  have hlen := nibsL_length s
  have hlf : leafB s = decide (nibAt s 0 / 2 % 2 = 1) := rfl
  have hpl : pathL s = (nibsL s).drop (2 - nibAt s 0 % 2) := rfl
  unfold Bad at hb
  obtain ⟨x, hx⟩ : ∃ x, nibAt s 0 = x := ⟨_, rfl⟩
  obtain ⟨y, hy⟩ : ∃ y, nibAt s 1 = y := ⟨_, rfl⟩
  rw [hx] at hb hand hx16 hand2 hlf hpl
  rw [hy] at hb
  simp only [hx] at T0
  simp only [hy] at T1
  clear hx hy hmax
  have HL := Lib.hid hlen
  have hx3 : x ≤ 3 := by omega
  by_cases hp : x % 2 = 0
  · have hy0 : y = 0 := by omega
    subst hy0
    have hand0 : bits .and .u8 (x : Int) 1 = 0 := by rw [hand, hp]; rfl
    have HP : Hid (pathL s = (nibsL s).drop 2) := Lib.hid (by rw [hpl, hp])
    clear hand hpl hb hp hlen
    by_cases hl : x / 2 % 2 = 1
    · have hl2 : bits .and .u8 (x : Int) 2 = 2 := by rw [hand2, hl]; rfl
      have HLf : Hid (leafB s = true) := Lib.hid (by rw [hlf]; exact decide_eq_true hl)
      clear hand2 hl hlf
      go_enter Try.func71, Try.ntmps71
      go_wp2_with fail
      refine (teller_any _ _).mono ?_
      rintro e w1 ⟨rfl, rfl⟩
      go_wp2_with fail
      refine (T0.out _ _ (HC.out _)).mono ?_
      rintro e w2 ⟨rfl, rfl⟩
      go_wp2_with fail
      refine (T1.out _ _ (HC.out _)).mono ?_
      rintro e w2 ⟨rfl, rfl⟩
      go_wp2_with fail
      refine (SP.out _).mono ?_
      rintro e w3 ⟨a, n, cap, rfl, hx, hb3⟩
      have hn2 : 2 ≤ n := by have := hx.len; rw [HL.out] at this; omega
      have HX := Lib.hid hx
      clear hx
      go_wp2_with fail
      refine (CP.out a n cap _ HX.out 2 (by omega) 2 rfl).mono ?_
      rintro e w4 ⟨a4, n4, c4, rfl, hx4, rfl⟩
      have HX4 := Lib.hid hx4
      clear hx4
      go_wp2
      go_ret3
      exact ⟨a4, n4, c4, by rw [HLf.out]; rfl, by rw [HP.out]; exact HX4.out, ((Below.refl w.heap.size w).alloc (Nat.le_refl _) _).trans (hb3.mono (by simp))⟩
    · have hl2 : bits .and .u8 (x : Int) 2 = 0 := by rw [hand2, show x / 2 % 2 = 0 by omega]; rfl
      have HLf : Hid (leafB s = false) := Lib.hid (by rw [hlf]; exact decide_eq_false hl)
      clear hand2 hl hlf
      go_enter Try.func71, Try.ntmps71
      go_wp2_with fail
      refine (teller_any _ _).mono ?_
      rintro e w1 ⟨rfl, rfl⟩
      go_wp2_with fail
      refine (T0.out _ _ (HC.out _)).mono ?_
      rintro e w2 ⟨rfl, rfl⟩
      go_wp2_with fail
      refine (T1.out _ _ (HC.out _)).mono ?_
      rintro e w2 ⟨rfl, rfl⟩
      go_wp2_with fail
      refine (SP.out _).mono ?_
      rintro e w3 ⟨a, n, cap, rfl, hx, hb3⟩
      have hn2 : 2 ≤ n := by have := hx.len; rw [HL.out] at this; omega
      have HX := Lib.hid hx
      clear hx
      go_wp2_with fail
      refine (CP.out a n cap _ HX.out 2 (by omega) 2 rfl).mono ?_
      rintro e w4 ⟨a4, n4, c4, rfl, hx4, rfl⟩
      have HX4 := Lib.hid hx4
      clear hx4
      go_wp2
      go_ret3
      exact ⟨a4, n4, c4, by rw [HLf.out]; rfl, by rw [HP.out]; exact HX4.out, ((Below.refl w.heap.size w).alloc (Nat.le_refl _) _).trans (hb3.mono (by simp))⟩
  · have hp1 : x % 2 = 1 := by omega
    have hs32 : s.size ≤ 32 := by omega
    have hand0 : bits .and .u8 (x : Int) 1 = 1 := by rw [hand, hp1]; rfl
    have HP : Hid (pathL s = (nibsL s).drop 1) := Lib.hid (by rw [hpl, hp1])
    clear hand hpl hb hp hp1 hlen T1
    by_cases hl : x / 2 % 2 = 1
    · have hl2 : bits .and .u8 (x : Int) 2 = 2 := by rw [hand2, hl]; rfl
      have HLf : Hid (leafB s = true) := Lib.hid (by rw [hlf]; exact decide_eq_true hl)
      clear hand2 hl hlf
      go_enter Try.func71, Try.ntmps71
      go_wp2_with fail
      refine (teller_any _ _).mono ?_
      rintro e w1 ⟨rfl, rfl⟩
      go_wp2_with fail
      refine (T0.out _ _ (HC.out _)).mono ?_
      rintro e w2 ⟨rfl, rfl⟩
      go_wp2_with fail
      refine (SP.out _).mono ?_
      rintro e w3 ⟨a, n, cap, rfl, hx, hb3⟩
      have hn2 : 2 ≤ n := by have := hx.len; rw [HL.out] at this; omega
      have HX := Lib.hid hx
      clear hx
      go_wp2_with fail
      refine (CP.out a n cap _ HX.out 1 (by omega) 1 rfl).mono ?_
      rintro e w4 ⟨a4, n4, c4, rfl, hx4, rfl⟩
      have HX4 := Lib.hid hx4
      clear hx4
      go_wp2
      go_ret3
      exact ⟨a4, n4, c4, by rw [HLf.out]; rfl, by rw [HP.out]; exact HX4.out, ((Below.refl w.heap.size w).alloc (Nat.le_refl _) _).trans (hb3.mono (by simp))⟩
    · have hl2 : bits .and .u8 (x : Int) 2 = 0 := by rw [hand2, show x / 2 % 2 = 0 by omega]; rfl
      have HLf : Hid (leafB s = false) := Lib.hid (by rw [hlf]; exact decide_eq_false hl)
      clear hand2 hl hlf
      go_enter Try.func71, Try.ntmps71
      go_wp2_with fail
      refine (teller_any _ _).mono ?_
      rintro e w1 ⟨rfl, rfl⟩
      go_wp2_with fail
      refine (T0.out _ _ (HC.out _)).mono ?_
      rintro e w2 ⟨rfl, rfl⟩
      go_wp2_with fail
      refine (SP.out _).mono ?_
      rintro e w3 ⟨a, n, cap, rfl, hx, hb3⟩
      have hn2 : 2 ≤ n := by have := hx.len; rw [HL.out] at this; omega
      have HX := Lib.hid hx
      clear hx
      go_wp2_with fail
      refine (CP.out a n cap _ HX.out 1 (by omega) 1 rfl).mono ?_
      rintro e w4 ⟨a4, n4, c4, rfl, hx4, rfl⟩
      have HX4 := Lib.hid hx4
      clear hx4
      go_wp2
      go_ret3
      exact ⟨a4, n4, c4, by rw [HLf.out]; rfl, by rw [HP.out]; exact HX4.out, ((Below.refl w.heap.size w).alloc (Nat.le_refl _) _).trans (hb3.mono (by simp))⟩

end Ni
end Go.Proofs.Ytbdhncaiffepoaa

/-
  Contracts of slices.Clone over bytes, node.plain, node.Leaf, node.Ext.
-/
namespace Go.Proofs.Ytbdhncaiffepoaa
set_option maxRecDepth 20000
open Go.RowKit

namespace No
/-- stands a text as itself? -/
def plainB (s : ByteArray) : Bool := decide (s.size = 0 ∨ s.size = 32)
theorem size_zero {s : ByteArray} (h : s.size = 0) : s = eB := by
  cases s with
  | mk d =>
    have : d = #[] := Array.eq_empty_of_size_eq_zero h
    rw [this]
set_option maxHeartbeats 1000000 in
theorem plain_any (s : ByteArray) (w : World) : Calls Try.prog 40 #[.string s] w fun e w' => e = .returned (.bool (plainB s)) ∧ w = w' := by
  by_cases h0 : s.size = 0
  · obtain rfl := size_zero h0
    go_enter Try.func40, Try.ntmps40
    go_wp2
    go_ret
    exact ⟨rfl, rfl⟩
  · have hne := Ni.not_empty (s := s) (by omega)
    by_cases h32 : s.size = 32
    · have hq : ((s.size : Int) == 32) = true := by simp; omega
      have HP : Hid (plainB s = true) := Lib.hid (by simp [plainB, h32])
      rw [HP.out]
      go_enter Try.func40, Try.ntmps40
      go_wp2
      go_ret
      exact ⟨rfl, rfl⟩
    · have hq : ((s.size : Int) == 32) = false := by simp; omega
      have HP : Hid (plainB s = false) := Lib.hid (by simp [plainB, h32, h0])
      rw [HP.out]
      go_enter Try.func40, Try.ntmps40
      go_wp2
      go_ret
      exact ⟨rfl, rfl⟩

theorem nil_bs (w : World) : (binOp .eql 22 (.slice none 0 0) (.slice none 0 0)).run Try.prog w = .ok (.bool true) w := by kernel_rfl
theorem some_bs (a : Addr) (n cap : Nat) (w : World) : (binOp .eql 22 (.slice (some a) n cap) (.slice none 0 0)).run Try.prog w = .ok (.bool false) w := by kernel_rfl
/-- a slice of these bytes is handed back, in new memory -/
def GotBsF (w : World) (l : List UInt8) (e : Ending) (w' : World) : Prop := ∃ a n cap, e = .returned (.slice a n cap) ∧ BsF w.heap.size w' a n cap l ∧ Below w.heap.size w w'
theorem ofOwnF {w : World} {B : Nat} {t : TypeId} {v : Value} {n : Nat} {l : List UInt8} (h : w.ownsRow B t 1 v n (l.map fun x => Value.int .u8 x.toNat)) : ∃ a cap, v = .slice a n cap ∧ BsF B w a n cap l := by
  obtain ⟨a, cap, rfl, hB⟩ := IsBs.ofOwn h
  refine ⟨a, cap, rfl, hB, fun ad e => ?_⟩
  subst e
  rcases h.2 with ⟨e, _⟩ | ⟨g, cap', cur, e, hbg, _⟩
  · cases e
  · cases e
    exact hbg
set_option maxHeartbeats 1000000 in
theorem cloneB_any (a : Option Addr) (n cap : Nat) (l : List UInt8) (hn : n ≤ 1000000) (w : World) (h : IsBs w a n cap l) :
    Calls Try.prog 38 #[.slice a n cap] w (GotBsF w l) := by
  cases a with
  | none =>
    obtain ⟨rfl, rfl, rfl⟩ := h.capNone
    have hnil := nil_bs
    go_enter Try.func38, Try.ntmps38
    go_wp2
    go_ret
    exact ⟨none, 0, 0, rfl, BsF.nil _ _, Below.refl _ _⟩
  | some ad =>
    obtain ⟨i0, hi, hz0, hz1, hz2⟩ := info_parts Cc.info_u8
    have HI : Hid (_ ∧ _ ∧ _ ∧ _) := Lib.hid ⟨hi, hz0, hz1, hz2⟩
    have HC := Lib.hid (Cc.news_cells h ad rfl)
    have HL := Lib.hid h.len
    have HH := Lib.hid h
    have hnil := some_bs ad n cap
    have HO : Hid ((w.alloc (.cells #[] 5)).ownsRow w.heap.size 5 1 (.slice (some ⟨w.heap.size, 0, none⟩) 0 0) 0 []) := Lib.hid (World.ownsRow_made w #[] 0 (Nat.le_refl _) (Nat.zero_le _) (by simp))
    clear h hi hz0 hz1 hz2
    go_enter Try.func38, Try.ntmps38
    go_wp2_with (at_builtin; refine wpList_append_own _ rfl _ _ 22 rfl w.heap.size 5 i0 (.int .u8 0) 1 1 Try.underlying22 HI.out.1 HI.out.2.1 HI.out.2.2.1 HI.out.2.2.2 rfl (by decide) _ _ _ rfl HO.out ad n cap (l.map fun x => Value.int .u8 x.toNat) rfl (by simp [HL.out]) ?c2 ?c6 ?c3 ?c4 ?c5 ?_)
    case c2 =>
      intro j u hu
      have hj : j < n := by rw [← HL.out]; have := (List.getElem?_eq_some_iff.1 hu).1; simpa using this
      obtain ⟨b, off, e, hb, _⟩ := HH.out.at' j hj
      obtain rfl := Option.some.inj e
      rw [(al1 w _).cell (by rw [Addr.add_mid]; exact hb)]
      exact HC.out j u hu
    case c6 =>
      intro u hu
      simp at hu
      obtain ⟨x, _, rfl⟩ := hu
      rfl
    case c3 => unfold maxLen; omega
    case c4 => omega
    case c5 => simp
    intro v' w2 hown2 hgrow hnil'
    have HG : Hid (∃ a c, v' = .slice a n c ∧ BsF w.heap.size w2 a n c l) := Lib.hid (by
      have := ofOwnF (l := l) (v := v') (n := n) (by simpa using hown2)
      exact this)
    have HB : Hid (Below w.heap.size w w2) := Lib.hid ((al1 w _).grown hgrow (by simp) (fun k hk => by simp [Value.ownBlock] at hk; omega))
    clear hown2 hgrow hnil'
    go_wp2
    go_ret
    obtain ⟨a', c', e, hB⟩ := HG.out
    exact ⟨a', n, c', by rw [e]; rfl, hB, HB.out⟩

set_option maxHeartbeats 2000000 in
theorem leaf_any (a : Option Addr) (n cap : Nat) (l : List UInt8) (hn : n ≤ 1000000) (v : ByteArray) (w : World) (h : IsBs w a n cap l) :
    Calls Try.prog 15 #[.slice a n cap, .string v] w (GotNd w ⟨1, l, v, zks⟩) := by
  obtain ⟨w2, hw2⟩ : ∃ w2, w2 = w.alloc (.cells (ndC nd0 none 0 0) 25) := ⟨_, rfl⟩
  have HC := Lib.hid (cloneB_any a n cap l hn w2 (by rw [hw2]; exact h.alloc _))
  have HO : Hid (OwnN w2 w.heap.size nd0 none 0 0) := Lib.hid (by rw [hw2]; exact Rg.Own.new _ _ _)
  have HB : Hid (Below w.heap.size w w2) := Lib.hid (by rw [hw2]; exact al1 _ _)
  clear h
  subst hw2
  go_enter Try.func15, Try.ntmps15
  go_wp2_with (refine Rg.run rfl _ _ (run_alloc_nd _ _ _ w.heap.size rfl rfl) ?_)
  refine HC.out.mono ?_
  rintro e w3 ⟨a3, n3, c3, rfl, hB3, hb3⟩
  have HO3 := Lib.hid (HO.out.below hb3)
  have HB3 := Lib.hid (below_step' HB.out hb3)
  have HI3 := Lib.hid hB3
  clear hB3 hb3 HO HC
  go_wp2_with (first
    | (refine Rg.run rfl _ _ (op_build (built_leaf a3 n3 c3 l v) ?_) ?_; · exact ⟨_, rfl, rfl⟩)
    | (refine wpl_store_nd HO3.out rfl ⟨1, l, v, zks⟩ a3 n3 c3 rfl rfl _ _ rfl rfl rfl rfl ?_))
  exact bodyPost_ret (res_nd rfl _ rfl (own_rowN HO3.out) rfl) rfl ⟨a3, n3, c3, rfl, (HI3.out.row (by simp) _).weak (by simp), rfl, below_rowN HB3.out (Nat.le_refl _) _⟩

set_option maxHeartbeats 2000000 in
theorem ext_any (a : Option Addr) (n cap : Nat) (l : List UInt8) (hn : n ≤ 1000000) (v : ByteArray) (w : World) (h : IsBs w a n cap l) :
    Calls Try.prog 16 #[.slice a n cap, .string v] w (GotNd w ⟨2, l, eB, v :: List.replicate 15 eB⟩) := by
  obtain ⟨w2, hw2⟩ : ∃ w2, w2 = w.alloc (.cells (ndC nd0 none 0 0) 25) := ⟨_, rfl⟩
  have HC := Lib.hid (cloneB_any a n cap l hn w2 (by rw [hw2]; exact h.alloc _))
  have HO : Hid (OwnN w2 w.heap.size nd0 none 0 0) := Lib.hid (by rw [hw2]; exact Rg.Own.new _ _ _)
  have HB : Hid (Below w.heap.size w w2) := Lib.hid (by rw [hw2]; exact al1 _ _)
  clear h
  subst hw2
  go_enter Try.func16, Try.ntmps16
  go_wp2_with (refine Rg.run rfl _ _ (run_alloc_nd _ _ _ w.heap.size rfl rfl) ?_)
  refine HC.out.mono ?_
  rintro e w3 ⟨a3, n3, c3, rfl, hB3, hb3⟩
  have HO3 := Lib.hid (HO.out.below hb3)
  have HB3 := Lib.hid (below_step' HB.out hb3)
  have HI3 := Lib.hid hB3
  clear hB3 hb3 HO HC
  go_wp2_with (first
    | (refine Rg.run rfl _ _ (op_build (built_one v) ?_) ?_; · exact ⟨_, rfl, rfl⟩)
    | (refine Rg.run rfl _ _ (op_build (built_ext 2 a3 n3 c3 l (v :: List.replicate 15 eB) rfl) ?_) ?_; · exact ⟨_, rfl, rfl⟩)
    | (refine wpl_store_nd HO3.out rfl ⟨2, l, eB, v :: List.replicate 15 eB⟩ a3 n3 c3 rfl rfl _ _ rfl rfl rfl rfl ?_))
  exact bodyPost_ret (res_nd rfl _ rfl (own_rowN HO3.out) rfl) rfl ⟨a3, n3, c3, rfl, (HI3.out.row (by simp) _).weak (by simp), rfl, below_rowN HB3.out (Nat.le_refl _) _⟩
end No
end Go.Proofs.Ytbdhncaiffepoaa

/-
  References in a row: contracts of node.Kids, of the plain answers' kids, of Light; of the plain Same over texts.
-/
namespace Go.Proofs.Ytbdhncaiffepoaa
set_option maxRecDepth 20000
open Go.RowKit

/-- the slice's elements are these texts -/
def IsSt (w : World) (a : Option Addr) (n cap : Nat) (xs : List ByteArray) : Prop :=
  n ≤ cap ∧ cap ≤ maxLen ∧ xs.length = n ∧ ∀ j, j < n → ∃ b off, a = some ⟨b, off, none⟩ ∧ b < w.heap.size ∧ w.cell? ⟨b, off + j, none⟩ = some (.string (xs.getD j eB))
namespace IsSt
variable {w w' : World} {a : Option Addr} {n cap : Nat} {xs : List ByteArray}
theorem len (h : IsSt w a n cap xs) : xs.length = n := h.2.2.1
theorem at' (h : IsSt w a n cap xs) (j : Nat) (hj : j < n) : ∃ b off, a = some ⟨b, off, none⟩ ∧ b < w.heap.size ∧ w.cell? ⟨b, off + j, none⟩ = some (.string (xs.getD j eB)) := h.2.2.2 j hj
theorem below (h : IsSt w a n cap xs) (hb : Below w.heap.size w w') : IsSt w' a n cap xs := by
  refine ⟨h.1, h.2.1, h.2.2.1, fun j hj => ?_⟩
  obtain ⟨b, off, h1, h2, h3⟩ := h.2.2.2 j hj
  exact ⟨b, off, h1, Nat.lt_of_lt_of_le h2 hb.size, by rw [hb.cell (p := ⟨b, off + j, none⟩) h2]; exact h3⟩
end IsSt
theorem IsSt.ofOwn {w : World} {B : Nat} {t : TypeId} {v : Value} {n : Nat} {xs : List ByteArray} (h : w.ownsRow B t 1 v n (xs.map Value.string)) : ∃ a cap, v = .slice a n cap ∧ IsSt w a n cap xs := by
  have hl : xs.length = n := by simpa using h.1
  rcases h.2 with ⟨rfl, hz⟩ | ⟨g, cap, cur, rfl, hbg, hg, hnc, hcm, hcs, htake⟩
  · subst hz
    exact ⟨none, 0, rfl, Nat.le_refl _, Nat.zero_le _, hl, fun j hj => absurd hj (Nat.not_lt_zero _)⟩
  · refine ⟨_, _, rfl, hnc, hcm, hl, fun j hj => ⟨g, 0, rfl, (Array.getElem?_eq_some_iff.1 hg).1, ?_⟩⟩
    have := h.cells (g := g) rfl j (.string (xs.getD j eB)) (by simp [List.getD, hl, hj])
    rwa [Addr.add_mid] at this
theorem info_st : (Try.prog.info? 9).map (fun i => (i.zero, i.size, i.bytes)) = some (some (.string ⟨#[]⟩), 1, 16) := by kernel_rfl
theorem info_st_parts : ∃ i, Try.prog.info? 9 = some i ∧ i.zero = some (.string ⟨#[]⟩) ∧ i.size = 1 ∧ i.bytes = 16 := by
  have h := info_st
  cases hi : Try.prog.info? 9 with
  | none => rw [hi] at h; simp at h
  | some i =>
    rw [hi] at h
    simp at h
    exact ⟨i, rfl, h.1, h.2.1, h.2.2⟩

/-- those that are not empty -/
def kidsL (ks : List ByteArray) : List ByteArray := ks.filter fun k => decide (k.size ≠ 0)
theorem kidsL_snoc (ks : List ByteArray) (q : Nat) (h : q < ks.length) : kidsL (ks.take (q + 1)) = kidsL (ks.take q) ++ (if (ks.getD q eB).size ≠ 0 then [ks.getD q eB] else []) := by
  unfold kidsL
  have e : ks.getD q eB = ks[q] := by simp [List.getD, h]
  rw [List.take_succ_eq_append_getElem h, e, List.filter_append]
  congr 1
  by_cases hz : ks[q].size = 0
  · simp only [ne_eq, hz, not_true_eq_false, decide_false, Bool.false_eq_true, not_false_eq_true, List.filter_cons_of_neg, List.filter_nil, if_false]
  · simp only [ne_eq, hz, not_false_eq_true, decide_true, List.filter_cons_of_pos, List.filter_nil, if_true]
theorem kidsL_len (ks : List ByteArray) (q : Nat) : (kidsL (ks.take q)).length ≤ q := Nat.le_trans (List.length_filter_le _ _) (by rw [List.length_take]; exact Nat.min_le_left _ _)

theorem cells_st : Try.prog.cellsOf 9 = 1 := by kernel_rfl
theorem part_st (ks : List ByteArray) (q : Nat) (h : q < ks.length) (w : World) : (part 9 (kidC ks) q).run Try.prog w = .ok (.string (ks.getD q eB)) w := by
  have hagg : (isAgg 9).run Try.prog w = .ok false w := by kernel_rfl
  have hg : (kidC ks)[q]? = some (.string (ks.getD q eB)) := by simp [kidC, List.getD, h]
  unfold part
  rw [Sem.run_bind, hagg]
  simp [hg]
theorem op_index_ks {ev : Operand → Value} {o : Oper} {w : World} {ks : List ByteArray} {q : Nat} (hl : ks.length = 16) (hq : q < 16) (ho : ∃ x y, o.op = .index 23 x y ∧ ev x = .agg (kidC ks) ∧ ev y = .int .i64 q) :
    (execOp ev o).run Try.prog w = .ok (.value (.string (ks.getD q eB))) w := by
  obtain ⟨x, y, ho, hx, hy⟩ := ho
  obtain ⟨i0, hi, _, hs, _⟩ := info_st_parts
  have hp := part_st ks q (by omega) w
  have h1 : (Instr.index 23 (.agg (kidC ks)) (.int .i64 q)).run Try.prog w = .ok (.string (ks.getD q eB)) w := by
    have hq2 : (0 : Int) ≤ q ∧ (q : Int) < ((16 : Nat) : Int) := ⟨by omega, by omega⟩
    simp only [Instr.index, Sem.run_bind, asIntOf, Sem.run_pure, Result.andThen_ok, run_underlying Try.underlying23]
    rw [if_pos hq2]
    simp only [sizeOf, typeInfo, Sem.run_bind]
    simp [hi, hs, hp]
  unfold execOp
  simp only [ho, hx, hy, Sem.run_bind, Sem.run_pure, Result.andThen_ok, h1]

namespace No
/-- new texts are handed back -/
def GotSt (w : World) (xs : List ByteArray) (e : Ending) (w' : World) : Prop := ∃ a n cap, e = .returned (.slice a n cap) ∧ IsSt w' a n cap xs ∧ Below w.heap.size w w'

set_option maxHeartbeats 2000000 in
theorem kids_any (N : Nd) (a : Option Addr) (n c : Nat) (hl : N.ks.length = 16) (w : World) : Calls Try.prog 19 #[.agg (ndC N a n c)] w (GotSt w (kidsL N.ks)) := by
  obtain ⟨i0, hi, hz0, hz1, hz2⟩ := info_st_parts
  have HI : Hid (_ ∧ _ ∧ _ ∧ _) := Lib.hid ⟨hi, hz0, hz1, hz2⟩
  have HO : Hid (OwnN (w.alloc (.cells (ndC N a n c) 25)) w.heap.size N a n c) := Lib.hid (Rg.Own.new _ _ _)
  have HL := Lib.hid hl
  clear hi hz0 hz1 hz2 hl
  go_enter Try.func19, Try.ntmps19
  go_wp2_with (refine Rg.run rfl _ _ (op_load_ks HO.out HL.out ⟨_, rfl, rfl⟩) ?_)
  go_loopw [3, 8] (fun v i wr => ∃ j : Nat, j ≤ 16 ∧ i = .int .i64 j ∧ Hid (wr.ownsRow (w.heap.size + 1) 9 1 v (kidsL (N.ks.take j)).length ((kidsL (N.ks.take j)).map Value.string)) ∧ Below (w.heap.size + 1) (w.alloc (.cells (ndC N a n c) 25)) wr) (fun _ i _ => 16 - (intOf i).toNat)
  case atStart => exact ⟨0, Nat.zero_le _, rfl, Lib.hid (World.ownsRow_nil _ _ _ _), Below.refl _ _⟩
  case round =>
    obtain ⟨j, hj, rfl, HR, hB⟩ := hrel
    have hsz : w.heap.size + 1 ≤ wr.heap.size := by have := hB.size; simp at this; omega
    by_cases hlt : j < 16
    · have HS := Lib.hid (kidsL_snoc N.ks j (by rw [HL.out]; exact hlt))
      have hkl := kidsL_len N.ks j
      obtain ⟨L, hL⟩ : ∃ L, kidsL (N.ks.take j) = L := ⟨_, rfl⟩
      rw [hL] at HS hkl HR
      clear hL
      by_cases hk : (N.ks.getD j eB).size = 0
      · have HS' : Hid (kidsL (N.ks.take (j + 1)) = L) := Lib.hid (by rw [HS.out, if_neg (by simpa using hk), List.append_nil])
        have HE : Hid (N.ks.getD j eB = eB) := Lib.hid (size_zero hk)
        clear hk
        go_wp2_with (refine Rg.run rfl (.string (N.ks.getD j eB)) _ (op_index_ks HL.out hlt ⟨_, _, rfl, rfl, rfl⟩) ?_; rw [HE.out])
        go_roundw
        case rel => exact ⟨j + 1, by omega, by go_num, by rw [HS'.out]; exact HR, hB⟩
        case measure => simp [intOf]; omega
      · have HS' : Hid (kidsL (N.ks.take (j + 1)) = L ++ [N.ks.getD j eB]) := Lib.hid (by rw [HS.out, if_pos hk])
        have hne := Ni.not_empty (s := N.ks.getD j eB) (by omega)
        obtain ⟨K, hK⟩ : ∃ K, N.ks.getD j eB = K := ⟨_, rfl⟩
        have HK := Lib.hid hK
        rw [hK] at hne HS'
        clear hK hk HS
        go_wp2_with (first
          | (refine Rg.run rfl (.string (N.ks.getD j eB)) _ (op_index_ks HL.out hlt ⟨_, _, rfl, rfl, rfl⟩) ?_; rw [HK.out])
          | (at_builtin; refine wpList_append_own _ rfl _ _ 39 rfl (w.heap.size + 1) 9 i0 (.string ⟨#[]⟩) 1 16 Try.underlying39 HI.out.1 HI.out.2.1 HI.out.2.2.1 HI.out.2.2.2 rfl (by decide) _ _ _ rfl (HR.out.alloc _) ⟨wr.heap.size, 0, none⟩ 1 1 [.string K] rfl rfl ?d1 ?d2 ?d3 ?d4 ?d5 ?_))
        case d1 => exact Bu.cell_one_new' _ _ _ _
        case d2 => intro u hu; simp at hu; subst hu; rfl
        case d3 => unfold maxLen; omega
        case d4 => omega
        case d5 => simp; omega
        intro v' w2 hown2 hgrow _
        have hlt' := HR.out.lt
        go_wp2
        go_roundw
        case rel => exact ⟨j + 1, by omega, by go_num, Lib.hid (by rw [HS'.out, List.length_append, List.map_append]; exact hown2), (hB.alloc hsz _).grown hgrow (by simp; omega) (fun g hg => (hlt' g hg).1)⟩
        case measure => simp [intOf]; omega
    · obtain rfl : j = 16 := by omega
      have hO := HR.out
      rw [List.take_of_length_le (by rw [HL.out]; exact Nat.le_refl _)] at hO
      obtain ⟨a', cap', rfl, hb⟩ := IsSt.ofOwn hO
      have HB := Lib.hid hb
      have HBe : Hid (Below w.heap.size w wr) := Lib.hid (of_al hB)
      clear hO hb
      go_wp2
      go_ret
      exact ⟨a', _, cap', rfl, HB.out, HBe.out⟩
set_option maxHeartbeats 2000000 in
theorem rkids_any (N : Nd) (a : Option Addr) (n c : Nat) (hl : N.ks.length = 16) (w : World) : Calls Try.prog 26 #[.agg (ndC N a n c)] w fun e w' => e = .returned (.int .i64 (kidsL N.ks).length) ∧ Below w.heap.size w w' := by
  have HO : Hid (OwnN (w.alloc (.cells (ndC N a n c) 25)) w.heap.size N a n c) := Lib.hid (Rg.Own.new _ _ _)
  have HL := Lib.hid hl
  clear hl
  go_enter Try.func26, Try.ntmps26
  go_wp2
  go_loop [3, 4] (fun v i => ∃ j : Nat, j ≤ 16 ∧ i = .int .i64 j ∧ v = .int .i64 (kidsL (N.ks.take j)).length) (fun _ i => 16 - (intOf i).toNat)
  case atStart => exact ⟨0, Nat.zero_le _, rfl, rfl⟩
  case round =>
    obtain ⟨j, hj, rfl, rfl⟩ := hrel
    by_cases hlt : j < 16
    · have HS := Lib.hid (kidsL_snoc N.ks j (by rw [HL.out]; exact hlt))
      have hkl := kidsL_len N.ks j
      have hc := nd_kid HO.out HL.out j hlt
      obtain ⟨L, hL⟩ : ∃ L, (kidsL (N.ks.take j)).length = L := ⟨_, rfl⟩
      have HS2 : Hid ((kidsL (N.ks.take (j + 1))).length = L + if (N.ks.getD j eB).size ≠ 0 then 1 else 0) := Lib.hid (by
        rw [HS.out, List.length_append, hL]
        split <;> rfl)
      rw [hL] at hkl ⊢
      clear hL HS
      obtain ⟨K, hK⟩ : ∃ K, N.ks.getD j eB = K := ⟨_, rfl⟩
      rw [hK] at hc HS2
      clear hK
      by_cases hk : K.size = 0
      · obtain rfl := size_zero hk
        go_wp2
        go_round
        case rel => exact ⟨j + 1, by omega, by go_num, by rw [HS2.out]; rfl⟩
        case measure => simp [intOf]; omega
      · have hne := Ni.not_empty (s := K) (by omega)
        have HS3 : Hid ((kidsL (N.ks.take (j + 1))).length = L + 1) := Lib.hid (by rw [HS2.out, if_pos hk])
        clear hk HS2
        go_wp2
        go_round
        case rel => exact ⟨j + 1, by omega, by go_num, by rw [HS3.out]; go_num⟩
        case measure => simp [intOf]; omega
    · obtain rfl : j = 16 := by omega
      have e : N.ks.take 16 = N.ks := List.take_of_length_le (by rw [HL.out]; exact Nat.le_refl _)
      rw [e]
      obtain ⟨L, hL⟩ : ∃ L, (kidsL N.ks).length = L := ⟨_, rfl⟩
      have HLL := Lib.hid hL
      rw [hL]
      clear hL e
      go_wp2
      go_ret
      exact ⟨by rw [HLL.out]; rfl, al1 _ _⟩

/-- a node that is not far too great -/
def lightB (N : Nd) : Bool := N.ks.all (fun k => decide (k.size ≤ 100)) && decide (N.p.length ≤ 100) && decide (N.v.size ≤ 500)
set_option maxHeartbeats 2000000 in
theorem light_any (N : Nd) (a : Option Addr) (n c : Nat) (hl : N.ks.length = 16) (hp : N.p.length = n) (hm : n ≤ maxLen) (w : World) : Calls Try.prog 6 #[.agg (ndC N a n c)] w fun e w' => e = .returned (.bool (lightB N)) ∧ Below w.heap.size w w' := by
  have HO : Hid (OwnN (w.alloc (.cells (ndC N a n c) 25)) w.heap.size N a n c) := Lib.hid (Rg.Own.new _ _ _)
  have HL := Lib.hid hl
  have HP := Lib.hid hp
  unfold maxLen at hm
  clear hl hp
  go_enter Try.func6, Try.ntmps6
  go_wp2
  go_loop [3] (fun i => ∃ j : Nat, j ≤ 16 ∧ i = .int .i64 j ∧ Hid ((N.ks.take j).all (fun k => decide (k.size ≤ 100)) = true)) (fun i => 16 - (intOf i).toNat)
  case atStart => exact ⟨0, Nat.zero_le _, rfl, Lib.hid rfl⟩
  case round =>
    obtain ⟨j, hj, rfl, HJ⟩ := hrel
    by_cases hlt : j < 16
    · have hc := nd_kid HO.out HL.out j hlt
      have hj' : j < N.ks.length := by rw [HL.out]; exact hlt
      have e : N.ks.getD j eB = N.ks[j] := by simp [List.getD, hj']
      have HE := Lib.hid e
      have HT : Hid (N.ks.take (j + 1) = N.ks.take j ++ [N.ks[j]]) := Lib.hid (List.take_succ_eq_append_getElem hj')
      have HM : Hid (N.ks[j] ∈ N.ks) := Lib.hid (List.getElem_mem hj')
      rw [e] at hc
      clear e HE
      obtain ⟨K, hK⟩ : ∃ K, N.ks[j] = K := ⟨_, rfl⟩
      rw [hK] at hc HT HM
      clear hK
      by_cases hk : K.size ≤ 100
      · have HJ' : Hid ((N.ks.take (j + 1)).all (fun k => decide (k.size ≤ 100)) = true) := Lib.hid (by rw [HT.out, List.all_append, HJ.out]; simp [hk])
        go_wp2
        go_round
        case rel => exact ⟨j + 1, by omega, by go_num, HJ'⟩
        case measure => simp [intOf]; omega
      · have HF : Hid (lightB N = false) := Lib.hid (by
          have : N.ks.all (fun k => decide (k.size ≤ 100)) = false := by
            rw [List.all_eq_false]
            exact ⟨K, HM.out, by simp; omega⟩
          unfold lightB
          rw [this]
          rfl)
        go_wp2
        go_ret
        exact ⟨by rw [HF.out]; rfl, al1 _ _⟩
    · obtain rfl : j = 16 := by omega
      have e : N.ks.take 16 = N.ks := List.take_of_length_le (by rw [HL.out]; exact Nat.le_refl _)
      have HA : Hid (lightB N = (decide (n ≤ 100) && decide (N.v.size ≤ 500))) := Lib.hid (by
        have := HJ.out
        rw [e] at this
        unfold lightB
        rw [this, HP.out]
        simp)
      obtain ⟨c0, c1, c2⟩ := nd_cells HO.out
      clear e HJ
      by_cases h1 : n ≤ 100
      · by_cases h2 : N.v.size ≤ 500
        all_goals
          go_wp2
          go_ret
          exact ⟨by rw [HA.out]; simp [h1, h2]; omega, al1 _ _⟩
      · go_wp2
        go_ret
        exact ⟨by rw [HA.out]; simp [h1], al1 _ _⟩
end No
end Go.Proofs.Ytbdhncaiffepoaa

/-
  Contracts of the plain answers' Right and Pack.
-/
namespace Go.Proofs.Ytbdhncaiffepoaa
set_option maxRecDepth 20000
open Go.RowKit

namespace Ni
set_option maxHeartbeats 400000 in
theorem rright_any (a : Option Addr) (n cap : Nat) (l : List UInt8) (w : World) (h : IsBs w a n cap l) :
    Calls Try.prog 25 #[.slice a n cap] w fun e w' => e = .returned (.bool (rightB l)) ∧ w = w' := by
  have hm := h.2.1
  have hnc := h.1
  unfold maxLen at hm
  have H := Lib.hid h
  clear h
  go_enter Try.func25, Try.ntmps25
  go_wp2
  go_loop [3] (fun i => ∃ k : Nat, k ≤ n ∧ i = .int .i64 k ∧ Hid (rightB (l.take k) = true)) (fun i => n - (intOf i).toNat)
  case atStart => exact ⟨0, Nat.zero_le _, rfl, Lib.hid rfl⟩
  case round =>
    obtain ⟨k, hk, rfl, HR⟩ := hrel
    by_cases hlt : k < n
    · obtain ⟨b, off, rfl, hb, hc⟩ := H.out.at' k hlt
      have hl : k < l.length := by rw [H.out.len]; exact hlt
      have HT := Lib.hid (rightB_take l k hl)
      obtain ⟨x, hx⟩ : ∃ x, (l.getD k 0).toNat = x := ⟨_, rfl⟩
      rw [hx] at hc HT
      by_cases h15 : 15 < x
      · have HN := Lib.hid (rightB_no l k hl (by omega))
        clear hx hl
        go_wp2
        go_ret
        exact ⟨by rw [HN.out]; rfl, rfl⟩
      · clear hx hl
        go_wp2
        go_round
        case rel => exact ⟨k + 1, by omega, by go_num, Lib.hid (by rw [HT.out, HR.out]; simp; omega)⟩
        case measure => simp [intOf]; omega
    · obtain rfl : k = n := by omega
      have HE : Hid (rightB l = true) := Lib.hid (by
        have := HR.out
        rwa [List.take_of_length_le (by rw [H.out.len]; exact Nat.le_refl _)] at this)
      go_wp2
      go_ret
      exact ⟨by rw [HE.out]; rfl, rfl⟩

/-- the first k + 1 bytes of a hex-prefix, as the plain answer lays them -/
def headN (l : List UInt8) (leaf : Bool) : Nat := 16 * markN l.length leaf + if l.length % 2 = 1 then (l.getD 0 0).toNat else 0
def rpackK (l : List UInt8) (leaf : Bool) (k : Nat) : List UInt8 := UInt8.ofNat (headN l leaf) :: (List.range k).map fun j => UInt8.ofNat (16 * (l.getD (l.length % 2 + 2 * j) 0).toNat + (l.getD (l.length % 2 + (2 * j + 1)) 0).toNat)
theorem rpackK_snoc (l : List UInt8) (leaf : Bool) (k : Nat) : rpackK l leaf (k + 1) = rpackK l leaf k ++ [UInt8.ofNat (16 * (l.getD (l.length % 2 + 2 * k) 0).toNat + (l.getD (l.length % 2 + (2 * k + 1)) 0).toNat)] := by
  simp [rpackK, List.range_succ]
theorem full_0 (l : List UInt8) (leaf : Bool) : ((fullL l leaf).getD 0 0).toNat = markN l.length leaf := by
  have : markN l.length leaf ≤ 3 := by unfold markN; cases leaf <;> simp <;> omega
  simp [fullL]; omega
theorem full_1 (l : List UInt8) (leaf : Bool) : ((fullL l leaf).getD 1 0).toNat = if l.length % 2 = 1 then (l.getD 0 0).toNat else 0 := by
  unfold fullL
  by_cases h : l.length % 2 = 1
  · cases l with
    | nil => simp at h
    | cons x r =>
      have h' : (r.length + 1) % 2 = 1 := by simpa using h
      simp [h']
  · simp [h]
theorem full_2 (l : List UInt8) (leaf : Bool) (q : Nat) : (fullL l leaf).getD (2 + q) 0 = l.getD (l.length % 2 + q) 0 := by
  unfold fullL
  by_cases h : l.length % 2 = 1
  · cases l with
    | nil => simp at h
    | cons x r =>
      rw [if_pos h, h]
      have e : (2 + q) = q + 1 + 1 := by omega
      rw [e, show 1 + q = q + 1 by omega]
      simp [List.getD]
  · have h0 : l.length % 2 = 0 := by omega
    rw [if_neg h, h0]
    have e : (2 + q) = q + 1 + 1 := by omega
    rw [e]
    simp [List.getD]
/-- both lay the same -/
theorem packL_eq (l : List UInt8) (leaf : Bool) : packL l leaf = rpackK l leaf (l.length / 2) := by
  unfold packL pairsK rpackK headN
  rw [List.range_succ_eq_map, List.map_cons, List.map_map]
  have e0 := full_0 l leaf
  have e1 := full_1 l leaf
  congr 1
  · simp only [Nat.mul_zero, Nat.zero_add]
    rw [e0, e1]
  · apply List.map_congr_left
    intro j _
    have f0 := full_2 l leaf (2 * j)
    have f1 := full_2 l leaf (2 * j + 1)
    simp only [Function.comp]
    rw [show 2 * (j.succ) = 2 + 2 * j by omega, show 2 + 2 * j + 1 = 2 + (2 * j + 1) by omega, f0, f1]

/-- a new slice of one byte, as a text -/
theorem conv_one (v : Int) (x : Nat) (hx : x < 256) (hv : v = x) (w : World) :
    Sem.run Try.prog (convert 22 9 (Value.slice (some ⟨w.heap.size, 0, none⟩) 1 1)) (w.alloc (.cells #[.int .u8 v] 5)) = .ok (.string ⟨#[UInt8.ofNat x]⟩) (w.alloc (.cells #[.int .u8 v] 5)) := by
  subst hv
  have h := run_convert_bytes_back (P := Try.prog) (w.alloc (.cells #[.int .u8 x] 5)) 22 9 5 ⟨w.heap.size, 0, none⟩ 1 [UInt8.ofNat x] Try.underlying22 Try.underlying5 Try.underlying9
    (fun j hj => by
      obtain rfl : j = 0 := by simpa using hj
      have e : (UInt8.ofNat x).toNat = x := by simp; omega
      simp [Addr.add, e])
  exact h

theorem ba_snoc (l : List UInt8) (x : UInt8) : (⟨l.toArray⟩ : ByteArray) ++ ⟨#[x]⟩ = ⟨(l ++ [x]).toArray⟩ := by
  have h : ((⟨l.toArray⟩ : ByteArray) ++ ⟨#[x]⟩).data = (l ++ [x]).toArray := by
    rw [ByteArray.data_append]; simp
  cases e : ((⟨l.toArray⟩ : ByteArray) ++ ⟨#[x]⟩) with
  | mk d => rw [e] at h; simp only at h; rw [h]

set_option maxHeartbeats 2000000 in
theorem rpack_any (a : Option Addr) (n cap : Nat) (l : List UInt8) (leaf : Bool) (hr : rightB l = true) (hn : n ≤ 64) (w : World) (h : IsBs w a n cap l) :
    Calls Try.prog 32 #[.slice a n cap, .bool leaf] w fun e w' => e = .returned (.string ⟨(packL l leaf).toArray⟩) ∧ Below w.heap.size w w' := by
  rw [packL_eq]
  have H := Lib.hid h
  have HL := Lib.hid h.len
  have HR := Lib.hid (rightB_getD l hr)
  have hmk : headN l leaf = 16 * (l.length % 2) + 32 * (if leaf then 1 else 0) + if l.length % 2 = 1 then (l.getD 0 0).toNat else 0 := by
    unfold headN markN; cases leaf <;> simp <;> omega
  have hnc := h.1
  have hcm := h.2.1
  unfold maxLen at hcm
  rw [h.len] at hmk
  clear h hr
  by_cases hp : n % 2 = 1
  · have hp0 : (n : Int) % 2 = 1 := by omega
    have hn1 : 1 ≤ n := by omega
    rw [if_pos hp, hp] at hmk
    have HP := Lib.hid hp
    clear hp
    obtain ⟨b0, off0, rfl, hb0, hc0⟩ := H.out.at' 0 (by omega)
    have hx0 := HR.out 0
    obtain ⟨z, hz⟩ : ∃ z, (l.getD 0 0).toNat = z := ⟨_, rfl⟩
    rw [hz] at hc0 hx0 hmk
    rw [Nat.add_zero] at hc0
    clear hz
    cases leaf
    · have hm2 : headN l false = 16 + z := by rw [hmk]; simp
      have hcv := conv_one (16 + (z : Int)) (headN l false) (by omega) (by omega)
      clear hmk hm2
      go_enter Try.func32, Try.ntmps32
      go_wp2
      clear hcv
      go_loopw [7, 8] (fun s i wr => ∃ k q : Nat, Hid (q = 1 + 2 * k) ∧ q ≤ n ∧ i = .int .i64 q ∧ s = .string ⟨(rpackK l false k).toArray⟩ ∧ Below w.heap.size w wr) (fun _ i _ => n - (intOf i).toNat)
      case atStart => exact ⟨0, 1, Lib.hid rfl, by omega, rfl, rfl, (Below.refl _ _).alloc (Nat.le_refl _) _⟩
      case round =>
        obtain ⟨k, q, HQ, hq, rfl, rfl, hB⟩ := hrel
        by_cases hlt : q < n
        · have hlt1 : q + 1 < n := by have := HP.out; have := HQ.out; omega
          obtain ⟨b, off, h0, hb, hc⟩ := H.out.at' q hlt
          simp at h0
          obtain ⟨rfl, rfl⟩ := h0
          obtain ⟨b', off', h1, _, hc'⟩ := H.out.at' (q + 1) hlt1
          simp at h1
          obtain ⟨rfl, rfl⟩ := h1
          have hx := HR.out q
          have hy := HR.out (q + 1)
          obtain ⟨x, hxe⟩ : ∃ x, (l.getD q 0).toNat = x := ⟨_, rfl⟩
          obtain ⟨y, hye⟩ : ∃ y, (l.getD (q + 1) 0).toNat = y := ⟨_, rfl⟩
          rw [hxe] at hc hx
          rw [hye] at hc' hy
          rw [← hB.cell (p := ⟨b0, off0 + q, none⟩) hb] at hc
          rw [← hB.cell (p := ⟨b0, off0 + (q + 1), none⟩) hb] at hc'
          have hcv : Sem.run Try.prog (convert 22 9 (Value.slice (some ⟨wr.heap.size, 0, none⟩) 1 1)) (wr.alloc (.cells #[.int .u8 (16 * (x : Int) + (y : Int))] 5)).drew = .ok (.string ⟨#[UInt8.ofNat (16 * x + y)]⟩) (wr.alloc (.cells #[.int .u8 (16 * (x : Int) + (y : Int))] 5)).drew :=
            conv_one (16 * x + y) (16 * x + y) (by omega) (by omega) wr.drew
          obtain ⟨S, hS⟩ : ∃ S, (⟨(rpackK l false k).toArray⟩ : ByteArray) = S := ⟨_, rfl⟩
          obtain ⟨C, hC⟩ : ∃ C, (⟨#[UInt8.ofNat (16 * x + y)]⟩ : ByteArray) = C := ⟨_, rfl⟩
          have hSz : S.size ≤ 100 := by
            rw [← hS]; show (rpackK l false k).toArray.size ≤ 100; have := HQ.out; simp [rpackK]; omega
          have hCz : C.size ≤ 1 := by rw [← hC]; exact Nat.le_refl _
          have HN : Hid (S ++ C = ⟨(rpackK l false (k + 1)).toArray⟩) := Lib.hid (by
            rw [← hS, ← hC, ba_snoc, rpackK_snoc, HL.out, HP.out, ← HQ.out, show 1 + (2 * k + 1) = q + 1 by have := HQ.out; omega, hxe, hye])
          rw [hC] at hcv
          rw [hS]
          clear hxe hye hS hC
          go_wp2_with fail
          go_region
          all_goals clear hcv
          all_goals go_wp2
          all_goals
            go_roundw
            case rel => exact ⟨k + 1, q + 2, Lib.hid (by have := HQ.out; omega), by omega, by go_num, by rw [HN.out], hB.drew.alloc hB.size _⟩
            case measure => simp [intOf]; omega
        · have HE : Hid (k = l.length / 2) := Lib.hid (by rw [HL.out]; have := HP.out; have := HQ.out; omega)
          go_wp2
          go_ret
          exact ⟨by rw [← HE.out]; rfl, hB⟩
    · have hm2 : headN l true = 48 + z := by rw [hmk]; simp
      have hcv := conv_one (48 + (z : Int)) (headN l true) (by omega) (by omega)
      clear hmk hm2
      go_enter Try.func32, Try.ntmps32
      go_wp2
      clear hcv
      go_loopw [7, 8] (fun s i wr => ∃ k q : Nat, Hid (q = 1 + 2 * k) ∧ q ≤ n ∧ i = .int .i64 q ∧ s = .string ⟨(rpackK l true k).toArray⟩ ∧ Below w.heap.size w wr) (fun _ i _ => n - (intOf i).toNat)
      case atStart => exact ⟨0, 1, Lib.hid rfl, by omega, rfl, rfl, (Below.refl _ _).alloc (Nat.le_refl _) _⟩
      case round =>
        obtain ⟨k, q, HQ, hq, rfl, rfl, hB⟩ := hrel
        by_cases hlt : q < n
        · have hlt1 : q + 1 < n := by have := HP.out; have := HQ.out; omega
          obtain ⟨b, off, h0, hb, hc⟩ := H.out.at' q hlt
          simp at h0
          obtain ⟨rfl, rfl⟩ := h0
          obtain ⟨b', off', h1, _, hc'⟩ := H.out.at' (q + 1) hlt1
          simp at h1
          obtain ⟨rfl, rfl⟩ := h1
          have hx := HR.out q
          have hy := HR.out (q + 1)
          obtain ⟨x, hxe⟩ : ∃ x, (l.getD q 0).toNat = x := ⟨_, rfl⟩
          obtain ⟨y, hye⟩ : ∃ y, (l.getD (q + 1) 0).toNat = y := ⟨_, rfl⟩
          rw [hxe] at hc hx
          rw [hye] at hc' hy
          rw [← hB.cell (p := ⟨b0, off0 + q, none⟩) hb] at hc
          rw [← hB.cell (p := ⟨b0, off0 + (q + 1), none⟩) hb] at hc'
          have hcv : Sem.run Try.prog (convert 22 9 (Value.slice (some ⟨wr.heap.size, 0, none⟩) 1 1)) (wr.alloc (.cells #[.int .u8 (16 * (x : Int) + (y : Int))] 5)).drew = .ok (.string ⟨#[UInt8.ofNat (16 * x + y)]⟩) (wr.alloc (.cells #[.int .u8 (16 * (x : Int) + (y : Int))] 5)).drew :=
            conv_one (16 * x + y) (16 * x + y) (by omega) (by omega) wr.drew
          obtain ⟨S, hS⟩ : ∃ S, (⟨(rpackK l true k).toArray⟩ : ByteArray) = S := ⟨_, rfl⟩
          obtain ⟨C, hC⟩ : ∃ C, (⟨#[UInt8.ofNat (16 * x + y)]⟩ : ByteArray) = C := ⟨_, rfl⟩
          have hSz : S.size ≤ 100 := by
            rw [← hS]; show (rpackK l true k).toArray.size ≤ 100; have := HQ.out; simp [rpackK]; omega
          have hCz : C.size ≤ 1 := by rw [← hC]; exact Nat.le_refl _
          have HN : Hid (S ++ C = ⟨(rpackK l true (k + 1)).toArray⟩) := Lib.hid (by
            rw [← hS, ← hC, ba_snoc, rpackK_snoc, HL.out, HP.out, ← HQ.out, show 1 + (2 * k + 1) = q + 1 by have := HQ.out; omega, hxe, hye])
          rw [hC] at hcv
          rw [hS]
          clear hxe hye hS hC
          go_wp2_with fail
          go_region
          all_goals clear hcv
          all_goals go_wp2
          all_goals
            go_roundw
            case rel => exact ⟨k + 1, q + 2, Lib.hid (by have := HQ.out; omega), by omega, by go_num, by rw [HN.out], hB.drew.alloc hB.size _⟩
            case measure => simp [intOf]; omega
        · have HE : Hid (k = l.length / 2) := Lib.hid (by rw [HL.out]; have := HP.out; have := HQ.out; omega)
          go_wp2
          go_ret
          exact ⟨by rw [← HE.out]; rfl, hB⟩
  · have hp0 : (n : Int) % 2 = 0 := by omega
    have hpn : n % 2 = 0 := by omega
    rw [if_neg hp, hpn] at hmk
    have HP := Lib.hid hpn
    clear hp hpn
    cases leaf
    · have hcv := conv_one 0 (headN l false) (by rw [hmk]; decide) (by rw [hmk]; rfl)
      clear hmk
      go_enter Try.func32, Try.ntmps32
      go_wp2
      clear hcv
      go_loopw [7, 8] (fun s i wr => ∃ k q : Nat, Hid (q = 0 + 2 * k) ∧ q ≤ n ∧ i = .int .i64 q ∧ s = .string ⟨(rpackK l false k).toArray⟩ ∧ Below w.heap.size w wr) (fun _ i _ => n - (intOf i).toNat)
      case atStart => exact ⟨0, 0, Lib.hid rfl, by omega, rfl, rfl, (Below.refl _ _).alloc (Nat.le_refl _) _⟩
      case round =>
        obtain ⟨k, q, HQ, hq, rfl, rfl, hB⟩ := hrel
        by_cases hlt : q < n
        · have hlt1 : q + 1 < n := by have := HP.out; have := HQ.out; omega
          obtain ⟨b, off, rfl, hb, hc⟩ := H.out.at' q hlt
          obtain ⟨b', off', h1, _, hc'⟩ := H.out.at' (q + 1) hlt1
          simp at h1
          obtain ⟨rfl, rfl⟩ := h1
          have hx := HR.out q
          have hy := HR.out (q + 1)
          obtain ⟨x, hxe⟩ : ∃ x, (l.getD q 0).toNat = x := ⟨_, rfl⟩
          obtain ⟨y, hye⟩ : ∃ y, (l.getD (q + 1) 0).toNat = y := ⟨_, rfl⟩
          rw [hxe] at hc hx
          rw [hye] at hc' hy
          rw [← hB.cell (p := ⟨b, off + q, none⟩) hb] at hc
          rw [← hB.cell (p := ⟨b, off + (q + 1), none⟩) hb] at hc'
          have hcv : Sem.run Try.prog (convert 22 9 (Value.slice (some ⟨wr.heap.size, 0, none⟩) 1 1)) (wr.alloc (.cells #[.int .u8 (16 * (x : Int) + (y : Int))] 5)).drew = .ok (.string ⟨#[UInt8.ofNat (16 * x + y)]⟩) (wr.alloc (.cells #[.int .u8 (16 * (x : Int) + (y : Int))] 5)).drew :=
            conv_one (16 * x + y) (16 * x + y) (by omega) (by omega) wr.drew
          obtain ⟨S, hS⟩ : ∃ S, (⟨(rpackK l false k).toArray⟩ : ByteArray) = S := ⟨_, rfl⟩
          obtain ⟨C, hC⟩ : ∃ C, (⟨#[UInt8.ofNat (16 * x + y)]⟩ : ByteArray) = C := ⟨_, rfl⟩
          have hSz : S.size ≤ 100 := by
            rw [← hS]; show (rpackK l false k).toArray.size ≤ 100; have := HQ.out; simp [rpackK]; omega
          have hCz : C.size ≤ 1 := by rw [← hC]; exact Nat.le_refl _
          have HN : Hid (S ++ C = ⟨(rpackK l false (k + 1)).toArray⟩) := Lib.hid (by
            rw [← hS, ← hC, ba_snoc, rpackK_snoc, HL.out, HP.out, ← HQ.out, show 0 + (2 * k + 1) = q + 1 by have := HQ.out; omega, hxe, hye])
          rw [hC] at hcv
          rw [hS]
          clear hxe hye hS hC
          go_wp2_with fail
          go_region
          all_goals clear hcv
          all_goals go_wp2
          all_goals
            go_roundw
            case rel => exact ⟨k + 1, q + 2, Lib.hid (by have := HQ.out; omega), by omega, by go_num, by rw [HN.out], hB.drew.alloc hB.size _⟩
            case measure => simp [intOf]; omega
        · have HE : Hid (k = l.length / 2) := Lib.hid (by rw [HL.out]; have := HP.out; have := HQ.out; omega)
          go_wp2
          go_ret
          exact ⟨by rw [← HE.out]; rfl, hB⟩
    · have hcv := conv_one 32 (headN l true) (by rw [hmk]; decide) (by rw [hmk]; rfl)
      clear hmk
      go_enter Try.func32, Try.ntmps32
      go_wp2
      clear hcv
      go_loopw [7, 8] (fun s i wr => ∃ k q : Nat, Hid (q = 0 + 2 * k) ∧ q ≤ n ∧ i = .int .i64 q ∧ s = .string ⟨(rpackK l true k).toArray⟩ ∧ Below w.heap.size w wr) (fun _ i _ => n - (intOf i).toNat)
      case atStart => exact ⟨0, 0, Lib.hid rfl, by omega, rfl, rfl, (Below.refl _ _).alloc (Nat.le_refl _) _⟩
      case round =>
        obtain ⟨k, q, HQ, hq, rfl, rfl, hB⟩ := hrel
        by_cases hlt : q < n
        · have hlt1 : q + 1 < n := by have := HP.out; have := HQ.out; omega
          obtain ⟨b, off, rfl, hb, hc⟩ := H.out.at' q hlt
          obtain ⟨b', off', h1, _, hc'⟩ := H.out.at' (q + 1) hlt1
          simp at h1
          obtain ⟨rfl, rfl⟩ := h1
          have hx := HR.out q
          have hy := HR.out (q + 1)
          obtain ⟨x, hxe⟩ : ∃ x, (l.getD q 0).toNat = x := ⟨_, rfl⟩
          obtain ⟨y, hye⟩ : ∃ y, (l.getD (q + 1) 0).toNat = y := ⟨_, rfl⟩
          rw [hxe] at hc hx
          rw [hye] at hc' hy
          rw [← hB.cell (p := ⟨b, off + q, none⟩) hb] at hc
          rw [← hB.cell (p := ⟨b, off + (q + 1), none⟩) hb] at hc'
          have hcv : Sem.run Try.prog (convert 22 9 (Value.slice (some ⟨wr.heap.size, 0, none⟩) 1 1)) (wr.alloc (.cells #[.int .u8 (16 * (x : Int) + (y : Int))] 5)).drew = .ok (.string ⟨#[UInt8.ofNat (16 * x + y)]⟩) (wr.alloc (.cells #[.int .u8 (16 * (x : Int) + (y : Int))] 5)).drew :=
            conv_one (16 * x + y) (16 * x + y) (by omega) (by omega) wr.drew
          obtain ⟨S, hS⟩ : ∃ S, (⟨(rpackK l true k).toArray⟩ : ByteArray) = S := ⟨_, rfl⟩
          obtain ⟨C, hC⟩ : ∃ C, (⟨#[UInt8.ofNat (16 * x + y)]⟩ : ByteArray) = C := ⟨_, rfl⟩
          have hSz : S.size ≤ 100 := by
            rw [← hS]; show (rpackK l true k).toArray.size ≤ 100; have := HQ.out; simp [rpackK]; omega
          have hCz : C.size ≤ 1 := by rw [← hC]; exact Nat.le_refl _
          have HN : Hid (S ++ C = ⟨(rpackK l true (k + 1)).toArray⟩) := Lib.hid (by
            rw [← hS, ← hC, ba_snoc, rpackK_snoc, HL.out, HP.out, ← HQ.out, show 0 + (2 * k + 1) = q + 1 by have := HQ.out; omega, hxe, hye])
          rw [hC] at hcv
          rw [hS]
          clear hxe hye hS hC
          go_wp2_with fail
          go_region
          all_goals clear hcv
          all_goals go_wp2
          all_goals
            go_roundw
            case rel => exact ⟨k + 1, q + 2, Lib.hid (by have := HQ.out; omega), by omega, by go_num, by rw [HN.out], hB.drew.alloc hB.size _⟩
            case measure => simp [intOf]; omega
        · have HE : Hid (k = l.length / 2) := Lib.hid (by rw [HL.out]; have := HP.out; have := HQ.out; omega)
          go_wp2
          go_ret
          exact ⟨by rw [← HE.out]; rfl, hB⟩

end Ni
end Go.Proofs.Ytbdhncaiffepoaa
