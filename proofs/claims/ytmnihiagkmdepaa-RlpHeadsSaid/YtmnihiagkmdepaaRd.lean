/-
  The contract of slices.Reverse over a row of bytes of the call's own.
-/
import Derived.Test.YtmnihiagkmdepaaBs
import Derived.Test.YtmnihiagkmdepaaRegion
import Derived.ChangeAlike
namespace Go.Proofs.Ytmnihiagkmdepaa
open Go.RowKit

namespace Rv
/-- behind so many exchanges -/
def turned (f : Nat → Value) (n k : Nat) : Nat → Value := fun j => if j < n ∧ (j < k ∨ n - 1 - j < k) then f (n - 1 - j) else f j
theorem turned_zero (f : Nat → Value) (n : Nat) : turned f n 0 = f := by
  funext j
  simp [turned]
theorem turned_step (f : Nat → Value) (n k : Nat) (h : k < n - 1 - k) (j : Nat) :
    (if j = n - 1 - k then turned f n k k else if j = k then turned f n k (n - 1 - k) else turned f n k j) = turned f n (k + 1) j := by
  unfold turned
  repeat' split
  all_goals first | rfl | (congr 1; omega) | omega
theorem turned_int (f : Nat → Value) (n k : Nat) (hf : ∀ j, j < n → ∃ z : Int, f j = .int .u8 z) (j : Nat) (hj : j < n) : ∃ z : Int, turned f n k j = .int .u8 z := by
  unfold turned
  split
  · exact hf _ (by omega)
  · exact hf _ hj
theorem turned_end (f : Nat → Value) (n k : Nat) (h : ¬ k < n - 1 - k) (j : Nat) (hj : j < n) : turned f n k j = f (n - 1 - j) := by
  unfold turned
  split
  · rfl
  · congr 1; omega

theorem turned_all (f : Nat → Value) (n k : Nat) (h : ¬ k < n - 1 - k) (j : Nat) : turned f n k j = turned f n n j := by
  unfold turned
  repeat' split
  all_goals first | rfl | (congr 1; omega) | omega
theorem upd_set {w w1 : World} {g : Nat} (h : Rg.Upd w g w1) (i : Nat) (v : Value) : Rg.Upd w g (w1.setCell ⟨g, i, none⟩ v) :=
  ⟨h.os, h.tape, h.output, by rw [← h.size]; simp, fun k hk => (Below.heap_setCell w1 ⟨g, i, none⟩ v k hk).trans (h.block k hk)⟩
theorem upd_drew {w w1 : World} {g : Nat} (h : Rg.Upd w g w1) : Rg.Upd w g w1.drew := ⟨h.os, h.tape, h.output, h.size, h.block⟩
theorem step {w wr : World} {g n cap k m : Nat} {T : TypeId} {f : Nat → Value} (h : wr.rowIs g T cap (turned f n k) ∧ Rg.Upd w g wr) (hk : k < m) (hm : m + 1 + k = n) {x y : Value} (hx : turned f n k k = x) (hy : turned f n k m = y) :
    ((wr.setCell ⟨g, k, none⟩ y).setCell ⟨g, m, none⟩ x).drew.rowIs g T cap (turned f n (k + 1)) ∧ Rg.Upd w g ((wr.setCell ⟨g, k, none⟩ y).setCell ⟨g, m, none⟩ x).drew := by
  refine ⟨(((h.1.set k y).set m x).congr (fun j _ => ?_)).drew, upd_drew (upd_set (upd_set h.2 k y) m x)⟩
  rw [← turned_step f n k (by omega) j, hx, show n - 1 - k = m by omega, hy]

set_option maxHeartbeats 4000000 in
theorem reverse_any (g n cap : Nat) (T : TypeId) (f : Nat → Value) (h0 : 0 < n) (hn : n ≤ cap) (hcap : cap ≤ maxLen) (w : World) (h : w.rowIs g T cap f) (hf : ∀ j, j < n → ∃ z : Int, f j = .int .u8 z) :
    Calls Try.prog 30 #[.slice (some ⟨g, 0, none⟩) n cap] w fun e w' => e = .returned (.tuple #[]) ∧ w'.rowIs g T cap (turned f n n) ∧ Rg.Upd w g w' := by
  unfold maxLen at hcap
  go_enter Try.func30, Try.ntmps30
  go_wp2
  go_loopw [2, 3] (fun i j wr => ∃ k m : Nat, 2 * k ≤ n ∧ m + 1 + k = n ∧ i = .int .i64 k ∧ j = .int .i64 m ∧ Hid (wr.rowIs g T cap (turned f n k) ∧ Rg.Upd w g wr)) (fun i _ _ => n - (intOf i).toNat)
  case atStart => exact ⟨0, n - 1, by omega, by omega, by go_num, by go_num, Lib.hid ⟨by rw [turned_zero]; exact h, rfl, rfl, rfl, rfl, fun _ _ => rfl⟩⟩
  case round =>
    obtain ⟨k, m, hk, hm, rfl, rfl, HR⟩ := hrel
    clear h
    by_cases hlt : k < m
    · obtain ⟨hr, hu⟩ := HR.out
      have ci := hr.cell (i := k) (by omega)
      have cj := hr.cell (i := m) (by omega)
      have fi := hr.frozen k
      have fj := hr.frozen m
      clear hr hu
      obtain ⟨x, hx⟩ := turned_int f n k hf k (by omega)
      obtain ⟨y, hy⟩ := turned_int f n k hf m (by omega)
      rw [hx] at ci
      rw [hy] at cj
      have HX := Lib.hid hx
      have HY := Lib.hid hy
      clear hx hy hf
      go_wp2_with fail
      go_region
      go_wp2
      go_roundw
      case rel => exact ⟨k + 1, m - 1, by omega, by omega, by go_num, by go_num, Lib.hid (step HR.out hlt hm HX.out HY.out)⟩
      case measure => simp [intOf]; omega
    · obtain ⟨hr, hu⟩ := HR.out
      have HE := Lib.hid hr
      have HU := Lib.hid hu
      clear hr hu HR
      go_wp2
      go_end0
      exact ⟨rfl, HE.out.congr (fun j _ => turned_all f n k (by omega) j), HU.out⟩
end Rv
end Go.Proofs.Ytmnihiagkmdepaa
