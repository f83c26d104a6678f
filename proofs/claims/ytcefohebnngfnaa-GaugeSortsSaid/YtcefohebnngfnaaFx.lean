/-
  Contracts of the function that orders numbers, and of gauge.Less.
-/
import Derived.Test.YtcefohebnngfnaaFw
import Derived.Deep.QuietTactic
import Derived.BigQuiet
import Derived.WalkSpells
namespace Go.Proofs.Ytcefohebnngfnaa
open Go.RowKit

namespace Fw
open Fl
def cmpK (a b : Nat) : Int := if key a < key b then -1 else if key b < key a then 1 else 0
theorem isnan_any (a : Nat) (w : World) :
    Calls Try.prog 43 #[.int .u64 a] w fun e w' => e = .returned (.bool false) ∧ w = w' := by
  go_enter Try.func43, Try.ntmps43
  go_wp2
  go_ret
  exact ⟨rfl, rfl⟩
def cmpN (a b : Nat) : Int := if a < b then -1 else if b < a then 1 else 0
theorem compare_any (a b : Nat) (w : World) :
    Calls Try.prog 40 #[.int .u64 a, .int .u64 b] w fun e w' => e = .returned (.int .i64 (cmpN a b)) ∧ w = w' := by
  have hk : Hid (cmpN a b = if a < b then -1 else if b < a then 1 else 0) := Lib.hid rfl
  generalize cmpN a b = r at hk ⊢
  rcases Nat.lt_trichotomy a b with h | h | h
  · have HK : Hid (r = -1) := Lib.hid (by rw [hk.out, if_pos h])
    clear hk
    go_enter Try.func40, Try.ntmps40
    go_wp2_with fail
    refine (isnan_any a w).mono ?_
    rintro e w1 ⟨rfl, rfl⟩
    go_wp2_with fail
    refine (isnan_any b w).mono ?_
    rintro e w1 ⟨rfl, rfl⟩
    go_wp2
    go_ret
    exact ⟨by rw [HK.out]; rfl, rfl⟩
  · subst h
    have HK : Hid (r = 0) := Lib.hid (by rw [hk.out, if_neg (by omega), if_neg (by omega)])
    clear hk
    go_enter Try.func40, Try.ntmps40
    go_wp2_with fail
    refine (isnan_any a w).mono ?_
    rintro e w1 ⟨rfl, rfl⟩
    go_wp2_with fail
    refine (isnan_any a w).mono ?_
    rintro e w1 ⟨rfl, rfl⟩
    go_wp2
    go_ret
    exact ⟨by rw [HK.out]; rfl, rfl⟩
  · have HK : Hid (r = 1) := Lib.hid (by rw [hk.out, if_neg (by omega), if_pos h])
    have h' : ¬ a < b := by omega
    clear hk
    go_enter Try.func40, Try.ntmps40
    go_wp2_with fail
    refine (isnan_any a w).mono ?_
    rintro e w1 ⟨rfl, rfl⟩
    go_wp2_with fail
    refine (isnan_any b w).mono ?_
    rintro e w1 ⟨rfl, rfl⟩
    go_wp2
    go_ret
    exact ⟨by rw [HK.out]; rfl, rfl⟩

/-- place, as a value -/
def pl : Value := .func (Fn.func 30) #[] #[]
theorem order_any (w : World) :
    Calls Try.prog 29 #[.func (Fn.func 30) #[] #[]] w fun e w' => e = .returned (.func (Fn.func 39) #[] #[.pointer (some ⟨w.heap.size, 0, none⟩)]) ∧ w' = w.alloc (.cells #[.func (Fn.func 30) #[] #[]] 42) := by
  go_enter Try.func29, Try.ntmps29
  go_wp2
  go_ret
  exact ⟨rfl, rfl⟩

theorem bits_quiet (b : Nat) (w : World) (n : Nat) :
    Calls Try.prog 12 #[.float .f64 b] (w.drewN n) fun e w' => e = .returned (.int .u64 b) ∧ w' = w.drewN n := (bits_any b _).mono fun _ _ h => ⟨h.1, h.2.symm⟩
theorem place_quiet (b : Nat) (h : b < 18446744073709551616) (w : World) (n : Nat) :
    Calls Try.prog 30 #[.int .u64 b] (w.drewN n) fun e w' => e = .returned (.int .u64 (key b : Nat)) ∧ w' = w.drewN n := (place_any b h _).mono fun _ _ h => ⟨h.1, h.2.symm⟩
theorem compare_quiet (a b : Nat) (w : World) (n : Nat) :
    Calls Try.prog 40 #[.int .u64 a, .int .u64 b] (w.drewN n) fun e w' => e = .returned (.int .i64 (cmpN a b)) ∧ w' = w.drewN n := (compare_any a b _).mono fun _ _ h => ⟨h.1, h.2.symm⟩

set_option maxHeartbeats 2000000 in
theorem order1_any (a b B : Nat) (ha : a < 18446744073709551616) (hb : b < 18446744073709551616) (w : World) (hc : w.cell? ⟨B, 0, none⟩ = some (.func (Fn.func 30) #[] #[])) :
    Calls Try.prog 39 #[.float .f64 a, .float .f64 b, .pointer (some ⟨B, 0, none⟩)] w fun e w' => e = .returned (.int .i64 (cmpK a b)) ∧ ∃ n, w' = w.drewN n := by
  have HK : Hid (cmpK a b = cmpN (key a) (key b)) := Lib.hid rfl
  go_enter Try.func39, Try.ntmps39
  go_wp2_with fail
  go_quiet (first | (go_at_call 12; with_reducible exact Calls.quiet_of_same (bits_quiet _ _ _)) | (go_at_call 30; with_reducible exact Calls.quiet_of_same (place_quiet _ (by assumption) _ _)) | (go_at_call 40; with_reducible exact Calls.quiet_of_same (compare_quiet _ _ _ _)))
  go_wp2
  go_ret
  exact ⟨by rw [HK.out]; rfl, _, rfl⟩
end Fw
end Go.Proofs.Ytcefohebnngfnaa
