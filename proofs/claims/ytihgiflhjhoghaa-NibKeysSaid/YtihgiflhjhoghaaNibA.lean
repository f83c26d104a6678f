/-
  Contracts of nib.Right, nib.teller and what it makes, nib.cut.
-/
import Derived.Test.YtihgiflhjhoghaaBs
import Derived.LoopN
import Derived.Deep.Draws
namespace Go.Proofs.Ytihgiflhjhoghaa
open Go.RowKit

namespace Ni
def rightB (l : List UInt8) : Bool := l.all (fun b => decide (b.toNat ≤ 15))
theorem take_snoc_getD (l : List UInt8) (k : Nat) (h : k < l.length) : l.take (k + 1) = l.take k ++ [l.getD k 0] := by
  rw [List.take_succ_eq_append_getElem h]; simp [List.getD, h]
theorem rightB_take (l : List UInt8) (k : Nat) (h : k < l.length) : rightB (l.take (k + 1)) = (rightB (l.take k) && decide ((l.getD k 0).toNat ≤ 15)) := by
  rw [take_snoc_getD l k h]; simp [rightB, List.all_append]
theorem rightB_no (l : List UInt8) (k : Nat) (h : k < l.length) (hk : 15 < (l.getD k 0).toNat) : rightB l = false := by
  unfold rightB
  rw [List.all_eq_false]
  exact ⟨l.getD k 0, by simp [List.getD, h], by simpa using hk⟩

set_option maxHeartbeats 400000 in
theorem right_any (a : Option Addr) (n cap : Nat) (l : List UInt8) (w : World) (h : IsBs w a n cap l) :
    Calls Try.prog 11 #[.slice a n cap] w fun e w' => e = .returned (.bool (rightB l)) ∧ w = w' := by
  have hm := h.2.1
  have hnc := h.1
  unfold maxLen at hm
  have H := Lib.hid h
  clear h
  go_enter Try.func11, Try.ntmps11
  go_wp2
  go_loop [7] (fun i => ∃ k : Nat, k ≤ n ∧ i = .int .i64 k ∧ Hid (rightB (l.take k) = true)) (fun i => n - (intOf i).toNat)
  case atStart => exact ⟨0, Nat.zero_le _, rfl, Lib.hid rfl⟩
  case round =>
    obtain ⟨k, hk, rfl, HR⟩ := hrel
    by_cases hlt : k < n
    · obtain ⟨b, off, rfl, hb, hc⟩ := H.out.at' k hlt
      have hl : k < l.length := by rw [H.out.len]; exact hlt
      have HT := Lib.hid (rightB_take l k hl)
      obtain ⟨x, hx⟩ : ∃ x, (l.getD k 0).toNat = x := ⟨_, rfl⟩
      rw [hx] at hc HT
      by_cases h15 : 15 < x
      · have HN := Lib.hid (rightB_no l k hl (by omega))
        clear hx hl
        go_wp2
        go_ret
        exact ⟨by rw [HN.out]; rfl, rfl⟩
      · clear hx hl
        go_wp2
        go_round
        case rel => exact ⟨k + 1, by omega, by go_num, Lib.hid (by rw [HT.out, HR.out]; simp; omega)⟩
        case measure => simp [intOf]; omega
    · obtain rfl : k = n := by omega
      have HE : Hid (rightB l = true) := Lib.hid (by
        have := HR.out
        rwa [List.take_of_length_le (by rw [H.out.len]; exact Nat.le_refl _)] at this)
      go_wp2
      go_ret
      exact ⟨by rw [HE.out]; rfl, rfl⟩

theorem teller_any (s : ByteArray) (w : World) :
    Calls Try.prog 24 #[.string s] w fun e w' => e = .returned (.func (Fn.func 29) #[] #[.pointer (some ⟨w.heap.size, 0, none⟩)]) ∧ w' = w.alloc (.cells #[.string s] 9) := by
  go_enter Try.func24, Try.ntmps24
  go_wp2
  go_ret
  exact ⟨rfl, rfl⟩

/-- the nibble at a place of a text -/
def nibAt (s : ByteArray) (i : Nat) : Nat := if i % 2 = 0 then (s.data.toList.getD (i / 2) 0).toNat / 16 else (s.data.toList.getD (i / 2) 0).toNat % 16

theorem and15 : ∀ x : Fin 256, bits .and .u8 ((x : Nat) : Int) 15 = (((x : Nat) % 16 : Nat) : Int) := by decide +kernel

theorem getD_data (s : ByteArray) (k : Nat) (h : k < s.size) : s.data.toList.getD k 0 = s[k] := by
  have e : k < s.data.toList.length := by simpa using h
  rw [List.getD, List.getElem?_eq_getElem e]; rfl
theorem ret_u8 {a b : Int} (h : a = b) : Ending.returned (.int .u8 a) = .returned (.int .u8 b) := by rw [h]

set_option maxHeartbeats 400000 in
theorem teller1_any (c : Nat) (s : ByteArray) (i : Nat) (hs : s.size ≤ maxLen) (hi : i / 2 < s.size) (w : World) (hc : w.cell? ⟨c, 0, none⟩ = some (.string s)) :
    Calls Try.prog 29 #[.int .i64 i, .pointer (some ⟨c, 0, none⟩)] w fun e w' => e = .returned (.int .u8 (nibAt s i : Nat)) ∧ w = w' := by
  unfold maxLen at hs
  by_cases h2 : i % 2 = 0
  · have HE : Hid ((s[i / 2].toNat : Int) / 16 = (nibAt s i : Nat)) := Lib.hid (by
      unfold nibAt; rw [if_pos h2, getD_data s _ hi]; omega)
    go_enter Try.func29, Try.ntmps29
    go_wp2
    go_ret
    exact ⟨ret_u8 HE.out, rfl⟩
  · have HE : Hid (bits .and .u8 (s[i / 2].toNat : Int) 15 = (nibAt s i : Nat)) := Lib.hid (by
      unfold nibAt; rw [if_neg h2, getD_data s _ hi]
      exact and15 ⟨s[i / 2].toNat, UInt8.toNat_lt _⟩)
    go_enter Try.func29, Try.ntmps29
    go_wp2
    go_ret
    exact ⟨ret_u8 HE.out, rfl⟩

theorem cut_zero (a : Option Addr) (n cap : Nat) (w : World) :
    Calls Try.prog 23 #[.slice a n cap, .int .i64 0, .int .i64 0] w fun e w' => e = .returned (.slice a 0 0) ∧ w = w' := by
  go_enter Try.func23, Try.ntmps23
  go_wp2
  go_ret
  exact ⟨rfl, rfl⟩

theorem cut_zero_q (a : Option Addr) (n cap : Nat) (w : World) :
    Calls Try.prog 23 #[.slice a n cap, .int .i64 0, .int .i64 0] w fun e w' => e = .returned (.slice a 0 0) ∧ w' = w.drewN 0 := by
  refine (cut_zero a n cap w).mono ?_
  rintro e w' ⟨rfl, rfl⟩
  exact ⟨rfl, rfl⟩
def cutAt (off i j : Nat) : Nat := if j = i then off else off + i
set_option maxHeartbeats 400000 in
theorem cut_any (b off n cap : Nat) (i j : Nat) (hij : i ≤ j) (hj : j ≤ cap) (_hcap : cap ≤ 2 ^ 63 - 1) (w : World) :
    Calls Try.prog 23 #[.slice (some ⟨b, off, none⟩) n cap, .int .i64 i, .int .i64 j] w fun e w' => e = .returned (.slice (some ⟨b, cutAt off i j, none⟩) (j - i) (j - i)) ∧ w = w' := by
  go_enter Try.func23, Try.ntmps23
  go_wp2
  · go_ret
    exact ⟨by subst h; simp [cutAt], rfl⟩
  · go_ret
    exact ⟨by simp [cutAt, h], rfl⟩

theorem cut_one_q (b off n cap : Nat) (h1 : 1 ≤ cap) (w : World) (hcap : cap ≤ 2 ^ 63 - 1) :
    Calls Try.prog 23 #[.slice (some ⟨b, off, none⟩) n cap, .int .i64 0, .int .i64 1] w fun e w' => e = .returned (.slice (some ⟨b, off, none⟩) 1 1) ∧ w' = w.drewN 0 := by
  refine (cut_any b off n cap 0 1 (by omega) h1 hcap w).mono ?_
  rintro e w' ⟨rfl, rfl⟩
  exact ⟨by simp [cutAt], rfl⟩

/-- a piece of a slice of bytes -/
theorem cut_bs (a : Option Addr) (n cap : Nat) (l : List UInt8) (i j : Nat) (hij : i ≤ j) (hj : j ≤ n) (w : World) (h : IsBs w a n cap l) :
    Calls Try.prog 23 #[.slice a n cap, .int .i64 i, .int .i64 j] w fun e w' => ∃ a' c', e = .returned (.slice a' (j - i) c') ∧ (IsBs w a' (j - i) c' ((l.drop i).take (j - i)) ∧ c' = j - i) ∧ w = w' := by
  by_cases h0 : n = 0
  · subst h0
    obtain rfl : j = 0 := by omega
    obtain rfl : i = 0 := by omega
    refine (cut_zero a 0 cap w).mono ?_
    rintro e w' ⟨rfl, rfl⟩
    exact ⟨a, 0, rfl, ⟨⟨Nat.le_refl _, Nat.zero_le _, by simp, fun _ => rfl, fun q hq => absurd hq (Nat.not_lt_zero _)⟩, rfl⟩, rfl⟩
  · obtain ⟨b, off, rfl, _⟩ := h.at' 0 (by omega)
    refine (cut_any b off n cap i j hij (Nat.le_trans hj h.1) h.2.1 w).mono ?_
    rintro e w' ⟨rfl, rfl⟩
    refine ⟨_, _, rfl, ⟨⟨Nat.le_refl _, by have := h.2.1; have := h.1; omega, ?_, (fun e => by cases e), fun q hq => ?_⟩, rfl⟩, rfl⟩
    · rw [List.length_take, List.length_drop, h.len]; omega
    · obtain ⟨b', off', h1, h2, h3⟩ := h.at' (i + q) (by omega)
      simp at h1
      obtain ⟨rfl, rfl⟩ := h1
      refine ⟨b, off + i, by simp [cutAt]; omega, h2, ?_⟩
      have e : ((l.drop i).take (j - i)).getD q 0 = l.getD (i + q) 0 := by
        simp [List.getD, List.getElem?_take_of_lt hq]
      rw [e, Nat.add_assoc]
      exact h3

end Ni
end Go.Proofs.Ytihgiflhjhoghaa
