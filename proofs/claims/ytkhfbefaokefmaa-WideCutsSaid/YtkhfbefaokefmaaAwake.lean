/-
  What comes at any rate (the law's awake): it is so.
-/
import Derived.Test.YtkhfbefaokefmaaWideT
import Derived.Test.YtkhfbefaokefmaaCut
namespace Go.Proofs.Ytkhfbefaokefmaa
open Go.RowKit WideP

namespace Aw
theorem n258 (w : World) :
    Calls Try.prog 10 #[.int .u64 258, .int .i64 2] w fun e w' => e = .returned (.string ⟨#[2, 1]⟩) ∧ Below w.heap.size w w' :=
  num_in 258 (by omega) 2 (by omega) (by omega) w
theorem tab (w : World) (sb : Nat) (h : sb < w.heap.size) (hc : w.cell? ⟨sb, 0, none⟩ = some (.string ⟨#[97, 98]⟩)) :
    Calls Try.prog 12 #[.slice (some ⟨sb, 0, none⟩) 1 1] w fun e w' => e = .returned (.string ⟨#[2, 0, 0, 0, 97, 98]⟩) ∧ Below w.heap.size w w' :=
  Tx.texts_any (some ⟨sb, 0, none⟩) 1 1 [⟨#[97, 98]⟩] w rfl (by unfold maxLen; omega)
    (fun j hj => by obtain rfl : j = 0 := by omega
                    exact ⟨sb, 0, rfl, h, hc⟩)
    (fun j hj => by obtain rfl : j = 0 := by omega
                    show (2 : Nat) < _; omega)
    (by show (6 : Nat) ≤ _; omega)
def S0 : ByteArray := ⟨#[2, 1, 2, 0, 0, 0, 97, 98, 120]⟩
def S1 : ByteArray := ⟨#[2, 0, 0, 0, 97, 98, 120]⟩
def S2 : ByteArray := ⟨#[120]⟩
theorem cnum (c : Nat) (w : World) (h : Cu.At c S0 0 w) :
    Calls Try.prog 19 #[.pointer (some ⟨c, 0, none⟩), .int .i64 2] w fun e w' => e = .returned (.int .u64 258) ∧ Cu.At c S1 0 w' ∧ w.grownBy w' (some c) :=
  Cu.num_any c S0 0 2 (by show (9 : Nat) ≤ _; unfold maxLen; omega) w h
theorem ctext (c : Nat) (w : World) (h : Cu.At c S1 0 w) :
    Calls Try.prog 13 #[.pointer (some ⟨c, 0, none⟩)] w fun e w' => e = .returned (.string ⟨#[97, 98]⟩) ∧ Cu.At c S2 0 w' ∧ w.grownBy w' (some c) :=
  Cu.text_any c S1 0 (by show (7 : Nat) ≤ _; unfold maxLen; omega) w h
theorem v258 (w : World) :
    Calls Try.prog 15 #[.string ⟨#[2, 1]⟩] w fun e w' => e = .returned (.int .u64 258) ∧ w = w' :=
  val_any ⟨#[2, 1]⟩ w (by show (2 : Nat) ≤ _; unfold maxLen; omega)
theorem joined : (⟨#[2, 1]⟩ : ByteArray) ++ ⟨#[2, 0, 0, 0, 97, 98]⟩ ++ ⟨#[120]⟩ = S0 := by decide +kernel

set_option maxHeartbeats 2000000 in
theorem awake_any (w : World) :
    Calls Try.prog 8 #[] w fun e w' => e = .returned (.bool true) ∧ Below w.heap.size w w' := by
  go_enter Try.func8, Try.ntmps8
  go_wp2_with fail
  refine (n258 _).mono ?_
  rintro e w1 ⟨rfl, hb1⟩
  have hz1 := hb1.size
  go_wp2_with fail
  refine (tab _ _ (by simp) (by simp [World.cell?_alloc_mark])).mono ?_
  rintro e w2 ⟨rfl, hb2⟩
  go_wp2_with fail
  rw [joined]
  refine (Cu.on_any _ _).mono ?_
  rintro e w3 ⟨rfl, rfl⟩
  have hA : Cu.At w2.heap.size S0 0 (w2.alloc (.cells #[.string S0, .int .i64 0] 46)) := Tx.heap_new _ _
  have hz2 := hb2.size
  have hw3 : Below w.heap.size w (w2.alloc (.cells #[.string S0, .int .i64 0] 46)) :=
    (((hb1.alloc hz1 _).trans (hb2.mono (by simp; omega))).alloc (by simp at hz2; omega) _)
  have hle : w.heap.size ≤ w2.heap.size := by simp at hz2; omega
  obtain ⟨c, hc⟩ : ∃ c, w2.heap.size = c := ⟨_, rfl⟩
  obtain ⟨w3, hw⟩ : ∃ w3, w2.alloc (.cells #[.string S0, .int .i64 0] 46) = w3 := ⟨_, rfl⟩
  rw [hw] at hA hw3
  rw [hc] at hA hle
  rw [hw]
  rw [hc]
  clear hw hc hz2 hb2 hz1 hb1
  go_wp2_with fail
  refine (cnum _ _ hA).mono ?_
  rintro e w4 ⟨rfl, hA4, hg4⟩
  go_wp2_with fail
  refine (ctext _ _ hA4).mono ?_
  rintro e w5 ⟨rfl, hA5, hg5⟩
  have hw5 : Below w.heap.size w w5 := (hw3.grown hg4 hw3.size (fun k hk => by cases hk; exact hle)).grown hg5 (Nat.le_trans hw3.size hg4.size) (fun k hk => by cases hk; exact hle)
  clear hA hw3 hA4 hg4 hg5
  go_wp2_with fail
  refine (n258 _).mono ?_
  rintro e w6 ⟨rfl, hb6⟩
  have hA6 := hA5.below hb6
  have hw6 := hw5.trans (hb6.mono hw5.size)
  clear hA5 hw5 hb6
  go_wp2_with fail
  refine (v258 _).mono ?_
  rintro e w7 ⟨rfl, rfl⟩
  go_wp2_with fail
  refine (Cu.rest_any c ⟨#[120]⟩ 0 _ hA6).mono ?_
  rintro e w7 ⟨rfl, rfl⟩
  go_wp2_with fail
  refine (Cu.err_any _ _ _ _ hA6).mono ?_
  rintro e w7 ⟨rfl, rfl⟩
  go_wp2
  go_ret
  exact ⟨rfl, hw6⟩
end Aw
end Go.Proofs.Ytkhfbefaokefmaa
