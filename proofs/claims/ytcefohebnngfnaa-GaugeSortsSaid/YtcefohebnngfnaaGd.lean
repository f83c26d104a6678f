/-
  Contracts of slices.MinFunc and slices.MaxFunc at numbers in the order of all, of gauge.Least and gauge.Most.
-/
import Derived.Test.YtcefohebnngfnaaGc
namespace Go.Proofs.Ytcefohebnngfnaa
open Go.RowKit

namespace Fw
open Fl

/-- the first: of these, one that no other one is ahead of, as it were -/
def leastB (l : List UInt64) (k : Nat) (m : UInt64) : Prop := (∃ j, j < k ∧ l.getD j 0 = m) ∧ ∀ j, j < k → key m.toNat ≤ key (l.getD j 0).toNat
set_option maxHeartbeats 4000000 in
theorem leastF_any (b off B n cap : Nat) (l : List UInt64) (w : World) (h : IsFs w (some ⟨b, off, none⟩) n cap l) (hn : 0 < n) (hB : w.cell? ⟨B, 0, none⟩ = some (.func (Fn.func 30) #[] #[])) :
    Calls Try.prog 35 #[.slice (some ⟨b, off, none⟩) n cap, .func (Fn.func 39) #[] #[.pointer (some ⟨B, 0, none⟩)]] w fun e w' => ∃ m : UInt64, e = .returned (.float .f64 m.toNat) ∧ leastB l n m ∧ ∃ q, w' = w.drewN q := by
  have hm := h.2.1
  have hnc := h.1
  unfold maxLen at hm
  have H := Lib.hid h
  have HB := Lib.hid hB
  obtain ⟨b', off', e0, _, hc0⟩ := h.at' 0 hn
  obtain ⟨rfl, rfl⟩ : b = b' ∧ off = off' := by simpa using e0
  rw [Nat.add_zero] at hc0
  have h1 : ¬ (n : Int) < 1 := by omega
  clear h hB e0
  obtain ⟨x0, hx0⟩ : ∃ x0, l.getD 0 0 = x0 := ⟨_, rfl⟩
  have H0 : Hid (leastB l 1 x0) := Lib.hid (by
    refine ⟨⟨0, by omega, hx0⟩, fun j hj => ?_⟩
    obtain rfl : j = 0 := by omega
    rw [hx0]; exact Nat.le_refl _)
  rw [hx0] at hc0
  clear hx0
  go_enter Try.func35, Try.ntmps35
  go_wp2
  go_loopw [5, 6] (fun t i wr => ∃ (k : Nat) (m : UInt64) (q : Nat), 1 ≤ k ∧ k ≤ n ∧ i = .int .i64 k ∧ t = .float .f64 m.toNat ∧ Hid (leastB l k m) ∧ wr = w.drewN q) (fun _ i _ => n - (intOf i).toNat)
  case atStart => exact ⟨1, x0, 0, by omega, by omega, rfl, rfl, H0, rfl⟩
  case round =>
    clear hc0 H0 h1
    obtain ⟨k, m, q, hk1, hk, rfl, rfl, HR, rfl⟩ := hrel
    by_cases hlt : k < n
    · obtain ⟨b', off', e0, _, hc⟩ := H.out.at' k hlt
      obtain ⟨rfl, rfl⟩ : b = b' ∧ off = off' := by simpa using e0
      clear e0
      obtain ⟨x, hx⟩ : ∃ x, l.getD k 0 = x := ⟨_, rfl⟩
      rw [hx] at hc
      have HX := Lib.hid hx
      clear hx
      have HO := Lib.hid (order1_any x.toNat m.toNat B (lt64 x) (lt64 m) (w.drewN q) HB.out)
      have HK : Hid (decide ((cmpK x.toNat m.toNat) < 0) = decide (key x.toNat < key m.toNat)) := Lib.hid (by
        unfold cmpK
        by_cases h : key x.toNat < key m.toNat
        · simp [h] <;> omega
        · by_cases h2 : key m.toNat < key x.toNat <;> simp [h, h2] <;> omega)
      generalize cmpK x.toNat m.toNat = c at *
      cases hd : decide (key x.toNat < key m.toNat)
      · have hc' : decide (c < 0) = false := HK.out.trans hd
        have HD : Hid (leastB l (k + 1) m) := Lib.hid (by
          obtain ⟨⟨j, hj, hjm⟩, hall⟩ := HR.out
          refine ⟨⟨j, by omega, hjm⟩, fun i hi => ?_⟩
          by_cases hik : i = k
          · subst hik; rw [HX.out]; exact Nat.not_lt.1 (of_decide_eq_false hd)
          · exact hall i (by omega))
        clear hd HK
        go_wp2_with fail
        refine HO.out.mono ?_
        rintro e w1 ⟨rfl, q2, rfl⟩
        go_wp2
        go_roundw
        case rel => exact ⟨k + 1, m, _, by omega, by omega, by go_num, rfl, HD, rfl⟩
        case measure => simp [intOf]; omega
      · have hc' : decide (c < 0) = true := HK.out.trans hd
        have HD : Hid (leastB l (k + 1) x) := Lib.hid (by
          obtain ⟨⟨j, hj, hjm⟩, hall⟩ := HR.out
          have hlt := of_decide_eq_true hd
          refine ⟨⟨k, by omega, HX.out⟩, fun i hi => ?_⟩
          by_cases hik : i = k
          · subst hik; rw [HX.out]; exact Nat.le_refl _
          · have := hall i (by omega); omega)
        clear hd HK
        go_wp2_with fail
        refine HO.out.mono ?_
        rintro e w1 ⟨rfl, q2, rfl⟩
        go_wp2
        go_roundw
        case rel => exact ⟨k + 1, x, _, by omega, by omega, by go_num, rfl, HD, rfl⟩
        case measure => simp [intOf]; omega
    · obtain rfl : k = n := by omega
      go_wp2
      go_ret
      exact ⟨m, rfl, HR.out, _, rfl⟩

set_option maxHeartbeats 1000000 in
theorem least_any (a : Option Addr) (n cap : Nat) (l : List UInt64) (w : World) (h : IsFs w a n cap l) (hn : 0 < n) :
    Calls Try.prog 20 #[.slice a n cap] w fun e w' => ∃ m : UInt64, e = .returned (.float .f64 m.toNat) ∧ leastB l n m ∧ Below w.heap.size w w' := by
  obtain ⟨b, off, rfl, _, _⟩ := h.at' 0 hn
  have h0 : ((n : Int) == 0) = false := by simp; omega
  have HF := Lib.hid (leastF_any b off w.heap.size n cap l (w.alloc (.cells #[.func (Fn.func 30) #[] #[]] 42)) (h.alloc _) hn (by simp))
  clear h
  go_enter Try.func20, Try.ntmps20
  go_wp2_with fail
  refine (order_any w).mono ?_
  rintro e w1 ⟨rfl, rfl⟩
  go_wp2_with fail
  refine HF.out.mono ?_
  rintro e w1 ⟨m, rfl, hm, q, rfl⟩
  have HM := Lib.hid hm
  clear hm
  go_wp2
  go_ret
  exact ⟨m, rfl, HM.out, below_drewN ((Below.refl _ _).alloc (Nat.le_refl _) _) q⟩
theorem least_none (w : World) :
    Calls Try.prog 20 #[.slice none 0 0] w fun e w' => e = .returned (.float .f64 0) ∧ w = w' := by
  go_enter Try.func20, Try.ntmps20
  go_wp2
  go_ret
  exact ⟨rfl, rfl⟩

/-- the last: of these, one that no other one is ahead of, as it were -/
def mostB (l : List UInt64) (k : Nat) (m : UInt64) : Prop := (∃ j, j < k ∧ l.getD j 0 = m) ∧ ∀ j, j < k → key (l.getD j 0).toNat ≤ key m.toNat
set_option maxHeartbeats 4000000 in
theorem mostF_any (b off B n cap : Nat) (l : List UInt64) (w : World) (h : IsFs w (some ⟨b, off, none⟩) n cap l) (hn : 0 < n) (hB : w.cell? ⟨B, 0, none⟩ = some (.func (Fn.func 30) #[] #[])) :
    Calls Try.prog 36 #[.slice (some ⟨b, off, none⟩) n cap, .func (Fn.func 39) #[] #[.pointer (some ⟨B, 0, none⟩)]] w fun e w' => ∃ m : UInt64, e = .returned (.float .f64 m.toNat) ∧ mostB l n m ∧ ∃ q, w' = w.drewN q := by
  have hm := h.2.1
  have hnc := h.1
  unfold maxLen at hm
  have H := Lib.hid h
  have HB := Lib.hid hB
  obtain ⟨b', off', e0, _, hc0⟩ := h.at' 0 hn
  obtain ⟨rfl, rfl⟩ : b = b' ∧ off = off' := by simpa using e0
  rw [Nat.add_zero] at hc0
  have h1 : ¬ (n : Int) < 1 := by omega
  clear h hB e0
  obtain ⟨x0, hx0⟩ : ∃ x0, l.getD 0 0 = x0 := ⟨_, rfl⟩
  have H0 : Hid (mostB l 1 x0) := Lib.hid (by
    refine ⟨⟨0, by omega, hx0⟩, fun j hj => ?_⟩
    obtain rfl : j = 0 := by omega
    rw [hx0]; exact Nat.le_refl _)
  rw [hx0] at hc0
  clear hx0
  go_enter Try.func36, Try.ntmps36
  go_wp2
  go_loopw [5, 6] (fun t i wr => ∃ (k : Nat) (m : UInt64) (q : Nat), 1 ≤ k ∧ k ≤ n ∧ i = .int .i64 k ∧ t = .float .f64 m.toNat ∧ Hid (mostB l k m) ∧ wr = w.drewN q) (fun _ i _ => n - (intOf i).toNat)
  case atStart => exact ⟨1, x0, 0, by omega, by omega, rfl, rfl, H0, rfl⟩
  case round =>
    clear hc0 H0 h1
    obtain ⟨k, m, q, hk1, hk, rfl, rfl, HR, rfl⟩ := hrel
    by_cases hlt : k < n
    · obtain ⟨b', off', e0, _, hc⟩ := H.out.at' k hlt
      obtain ⟨rfl, rfl⟩ : b = b' ∧ off = off' := by simpa using e0
      clear e0
      obtain ⟨x, hx⟩ : ∃ x, l.getD k 0 = x := ⟨_, rfl⟩
      rw [hx] at hc
      have HX := Lib.hid hx
      clear hx
      have HO := Lib.hid (order1_any x.toNat m.toNat B (lt64 x) (lt64 m) (w.drewN q) HB.out)
      have HK : Hid (decide (0 < (cmpK x.toNat m.toNat)) = decide (key m.toNat < key x.toNat)) := Lib.hid (by
        unfold cmpK
        by_cases h : key x.toNat < key m.toNat
        · simp [h] <;> omega
        · by_cases h2 : key m.toNat < key x.toNat <;> simp [h, h2] <;> omega)
      generalize cmpK x.toNat m.toNat = c at *
      cases hd : decide (key m.toNat < key x.toNat)
      · have hc' : decide (0 < c) = false := HK.out.trans hd
        have HD : Hid (mostB l (k + 1) m) := Lib.hid (by
          obtain ⟨⟨j, hj, hjm⟩, hall⟩ := HR.out
          refine ⟨⟨j, by omega, hjm⟩, fun i hi => ?_⟩
          by_cases hik : i = k
          · subst hik; rw [HX.out]; exact Nat.not_lt.1 (of_decide_eq_false hd)
          · exact hall i (by omega))
        clear hd HK
        go_wp2_with fail
        refine HO.out.mono ?_
        rintro e w1 ⟨rfl, q2, rfl⟩
        go_wp2
        go_roundw
        case rel => exact ⟨k + 1, m, _, by omega, by omega, by go_num, rfl, HD, rfl⟩
        case measure => simp [intOf]; omega
      · have hc' : decide (0 < c) = true := HK.out.trans hd
        have HD : Hid (mostB l (k + 1) x) := Lib.hid (by
          obtain ⟨⟨j, hj, hjm⟩, hall⟩ := HR.out
          have hlt := of_decide_eq_true hd
          refine ⟨⟨k, by omega, HX.out⟩, fun i hi => ?_⟩
          by_cases hik : i = k
          · subst hik; rw [HX.out]; exact Nat.le_refl _
          · have := hall i (by omega); omega)
        clear hd HK
        go_wp2_with fail
        refine HO.out.mono ?_
        rintro e w1 ⟨rfl, q2, rfl⟩
        go_wp2
        go_roundw
        case rel => exact ⟨k + 1, x, _, by omega, by omega, by go_num, rfl, HD, rfl⟩
        case measure => simp [intOf]; omega
    · obtain rfl : k = n := by omega
      go_wp2
      go_ret
      exact ⟨m, rfl, HR.out, _, rfl⟩

set_option maxHeartbeats 1000000 in
theorem most_any (a : Option Addr) (n cap : Nat) (l : List UInt64) (w : World) (h : IsFs w a n cap l) (hn : 0 < n) :
    Calls Try.prog 21 #[.slice a n cap] w fun e w' => ∃ m : UInt64, e = .returned (.float .f64 m.toNat) ∧ mostB l n m ∧ Below w.heap.size w w' := by
  obtain ⟨b, off, rfl, _, _⟩ := h.at' 0 hn
  have h0 : ((n : Int) == 0) = false := by simp; omega
  have HF := Lib.hid (mostF_any b off w.heap.size n cap l (w.alloc (.cells #[.func (Fn.func 30) #[] #[]] 42)) (h.alloc _) hn (by simp))
  clear h
  go_enter Try.func21, Try.ntmps21
  go_wp2_with fail
  refine (order_any w).mono ?_
  rintro e w1 ⟨rfl, rfl⟩
  go_wp2_with fail
  refine HF.out.mono ?_
  rintro e w1 ⟨m, rfl, hm, q, rfl⟩
  have HM := Lib.hid hm
  clear hm
  go_wp2
  go_ret
  exact ⟨m, rfl, HM.out, below_drewN ((Below.refl _ _).alloc (Nat.le_refl _) _) q⟩
theorem most_none (w : World) :
    Calls Try.prog 21 #[.slice none 0 0] w fun e w' => e = .returned (.float .f64 0) ∧ w = w' := by
  go_enter Try.func21, Try.ntmps21
  go_wp2
  go_ret
  exact ⟨rfl, rfl⟩
end Fw
end Go.Proofs.Ytcefohebnngfnaa
