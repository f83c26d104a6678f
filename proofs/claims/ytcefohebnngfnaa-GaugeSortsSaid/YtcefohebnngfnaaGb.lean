/-
  Slices of numbers; sums, means and what follows a number, as words; contracts of gauge.Mean and gauge.Smooth.
-/
import Derived.Test.YtcefohebnngfnaaGa
import Derived.Test.YtcefohebnngfnaaRows
import Derived.WalkSpells
import Derived.WalkLawsBesides
import Derived.ProofKit
import Derived.OpenShut
import Derived.Deep.OwnRows
import Derived.OwnWalk
import Derived.Laws.OwnMore
namespace Go.Proofs.Ytcefohebnngfnaa
open Go.RowKit Go.ChangeShapes Go.WideShapes

namespace Fw
open Fl
/-- a number, by its word -/
def encF (u : UInt64) : Value := .float .f64 u.toNat
theorem lt64 (u : UInt64) : u.toNat < 18446744073709551616 := u.toNat_lt
/-- the slice's elements are these numbers -/
def IsFs (w : World) (a : Option Addr) (n cap : Nat) (l : List UInt64) : Prop :=
  n ≤ cap ∧ cap ≤ maxLen ∧ l.length = n ∧ (a = none → cap = 0) ∧ ∀ j, j < n → ∃ b off, a = some ⟨b, off, none⟩ ∧ b < w.heap.size ∧ w.cell? ⟨b, off + j, none⟩ = some (.float .f64 (l.getD j 0).toNat)
namespace IsFs
variable {w w' : World} {a : Option Addr} {n cap : Nat} {l : List UInt64}
theorem len (h : IsFs w a n cap l) : l.length = n := h.2.2.1
theorem at' (h : IsFs w a n cap l) (j : Nat) (hj : j < n) : ∃ b off, a = some ⟨b, off, none⟩ ∧ b < w.heap.size ∧ w.cell? ⟨b, off + j, none⟩ = some (.float .f64 (l.getD j 0).toNat) := h.2.2.2.2 j hj
theorem kept (h : IsFs w a n cap l) (hs : w.heap.size ≤ w'.heap.size) (hc : ∀ b o, b < w.heap.size → w'.cell? ⟨b, o, none⟩ = w.cell? ⟨b, o, none⟩) : IsFs w' a n cap l := by
  refine ⟨h.1, h.2.1, h.2.2.1, h.2.2.2.1, fun j hj => ?_⟩
  obtain ⟨b, off, h1, h2, h3⟩ := h.2.2.2.2 j hj
  exact ⟨b, off, h1, Nat.lt_of_lt_of_le h2 hs, by rw [hc b _ h2]; exact h3⟩
theorem below (h : IsFs w a n cap l) (hb : Below w.heap.size w w') : IsFs w' a n cap l := h.kept hb.size fun b o hlt => hb.cell (p := ⟨b, o, none⟩) hlt
theorem alloc (h : IsFs w a n cap l) (o : Obj) : IsFs (w.alloc o) a n cap l := h.below ((Below.refl _ _).alloc (Nat.le_refl _) _)
theorem drewN (h : IsFs w a n cap l) (q : Nat) : IsFs (w.drewN q) a n cap l := h
theorem nil (w : World) : IsFs w none 0 0 [] := ⟨Nat.le_refl _, Nat.zero_le _, rfl, fun _ => rfl, fun _ hj => absurd hj (Nat.not_lt_zero _)⟩
theorem new (w : World) (l : List UInt64) (hl : l.length ≤ maxLen) (cs : Array Value) (t : TypeId) (hc : cs = (l.map encF).toArray) : IsFs (w.alloc (.cells cs t)) (some ⟨w.heap.size, 0, none⟩) l.length l.length l := by
  subst hc
  refine ⟨Nat.le_refl _, hl, rfl, fun e => (by cases e), fun j hj => ⟨w.heap.size, 0, rfl, by simp, ?_⟩⟩
  rw [Nat.zero_add, World.cell?_alloc_mark]
  simp [List.getD, hj, encF]
end IsFs

/-- the sum, from the left on -/
def addO (o : Option Nat) (x : Nat) : Option Nat := match o with | some a => floatBits .add .f64 a x | none => none
def sumO (l : List UInt64) : Option Nat := l.foldl (fun o u => addO o u.toNat) (some 0)
theorem sumO_take (l : List UInt64) (k : Nat) (h : k < l.length) : sumO (l.take (k + 1)) = addO (sumO (l.take k)) (l.getD k 0).toNat := by
  unfold sumO
  rw [List.take_succ_eq_append_getElem h, List.foldl_append]
  simp [List.getD, h]
theorem add_step (o : Option Nat) (t x : Nat) (ht : Rep o t) (w : World) :
    ∃ r n, (binOp .add 23 (.float .f64 t) (.float .f64 x)).run Try.prog w = .ok (.float .f64 r) (w.drewN n) ∧ Rep (addO o x) r := by
  obtain ⟨r, n, h1, h2⟩ := arith_run .add rfl 23 t x w
  refine ⟨r, n, h1, ?_⟩
  obtain ⟨ht1, ht2⟩ := ht
  cases o with
  | some a => obtain ⟨rfl, _⟩ := ht2; exact h2
  | none => rw [none_left .add ht1 ht2] at h2; exact h2
def meanO (l : List UInt64) : Option Nat := match sumO l with | some a => floatBits .quo .f64 a (floatOfInt .f64 (l.length : Nat)) | none => none
theorem mean_nil : meanO [] = none := by decide +kernel
theorem quo_step (l : List UInt64) (t : Nat) (ht : Rep (sumO l) t) (w : World) :
    ∃ r n, (binOp .quo 23 (.float .f64 t) (.float .f64 (floatOfInt .f64 (l.length : Nat)))).run Try.prog w = .ok (.float .f64 r) (w.drewN n) ∧ Rep (meanO l) r := by
  obtain ⟨r, n, h1, h2⟩ := arith_run .quo rfl 23 t (floatOfInt .f64 (l.length : Nat)) w
  refine ⟨r, n, h1, ?_⟩
  obtain ⟨ht1, ht2⟩ := ht
  unfold meanO
  cases hs : sumO l with
  | some a => rw [hs] at ht2; obtain ⟨rfl, _⟩ := ht2; exact h2
  | none => rw [hs] at ht2; rw [none_left .quo ht1 ht2] at h2; exact h2
/-- an answer that stands for this is handed back -/
def GotF (w : World) (o : Option Nat) (e : Ending) (w' : World) : Prop := ∃ v m, e = .returned (.float .f64 v) ∧ Rep o v ∧ w' = w.drewN m
theorem rep_nan : Rep none 9221120237041090561 := ⟨by decide, by show nan 9221120237041090561 = true; decide +kernel⟩
theorem rep_zero : Rep (some 0) 0 := ⟨by decide, rfl, rfl⟩

set_option maxHeartbeats 1000000 in
theorem mean_any (a : Option Addr) (n cap : Nat) (l : List UInt64) (w : World) (h : IsFs w a n cap l) :
    Calls Try.prog 25 #[.slice a n cap] w (GotF w (meanO l)) := by
  have hm := h.2.1
  have hnc := h.1
  unfold maxLen at hm
  have H := Lib.hid h
  clear h
  go_enter Try.func25, Try.ntmps25
  go_wp2
  go_loopw [3, 8] (fun t i wr => ∃ k s m : Nat, k ≤ n ∧ i = .int .i64 k ∧ t = .float .f64 s ∧ Hid (Rep (sumO (l.take k)) s) ∧ wr = w.drewN m) (fun _ i _ => n - (intOf i).toNat)
  case atStart => exact ⟨0, 0, 0, Nat.zero_le _, rfl, rfl, Lib.hid rep_zero, rfl⟩
  case round =>
    obtain ⟨k, s, m, hk, rfl, rfl, HR, rfl⟩ := hrel
    by_cases hlt : k < n
    · obtain ⟨b, off, rfl, hb, hc⟩ := H.out.at' k hlt
      obtain ⟨r, q, hrun, hrep⟩ := add_step _ s (l.getD k 0).toNat HR.out (w.drewN m)
      rw [← sumO_take l k (by rw [H.out.len]; exact hlt)] at hrep
      have HR' := Lib.hid hrep
      clear hrep
      generalize (l.getD k 0).toNat = x at *
      go_wp2
      go_roundw
      case rel => exact ⟨k + 1, r, _, by omega, by go_num, rfl, HR', rfl⟩
      case measure => simp [intOf]; omega
    · obtain rfl : k = n := by omega
      have hl := H.out.len
      have HS : Hid (Rep (sumO l) s) := Lib.hid (by
        have := HR.out
        rwa [List.take_of_length_le (by omega)] at this)
      have hs := HS.out
      have HN := Lib.hid (mnan_any s hs.1 (w.drewN m))
      clear HR hk hlt
      by_cases h0 : k = 0
      · subst h0
        have hl0 : l = [] := List.eq_nil_of_length_eq_zero hl
        have HM : Hid (meanO l = none) := Lib.hid (by rw [hl0]; exact mean_nil)
        clear hl hl0 hs HS
        cases hn : nan s
        all_goals
          rw [hn] at HN
          clear hn
          go_wp2_with (first | (go_at_call 31; refine HN.out.mono ?_; rintro e w1 ⟨rfl, rfl⟩) | (go_at_call 37; refine (nan_any _).mono ?_; rintro e w1 ⟨rfl, rfl⟩))
          go_ret
          exact ⟨_, m, rfl, by rw [HM.out]; exact rep_nan, rfl⟩
      · have h0' : decide ((k : Int) = 0) = false := by simp; omega
        cases hn : nan s
        · obtain ⟨r, q, hrun, hrep⟩ := quo_step l s hs (w.drewN m)
          rw [hl] at hrun
          have HR := Lib.hid hrep
          rw [hn] at HN
          clear hrep hs HS hn hl
          go_wp2_with (go_at_call 31; refine HN.out.mono ?_; rintro e w1 ⟨rfl, rfl⟩)
          go_ret
          exact ⟨_, _, rfl, HR.out, rfl⟩
        · have HM : Hid (meanO l = none) := Lib.hid (by
            unfold meanO
            cases hss : sumO l with
            | none => rfl
            | some z => rw [hss] at hs; obtain ⟨_, rfl, h2⟩ := hs; rw [hn] at h2; cases h2)
          rw [hn] at HN
          clear hs HS hn hl
          go_wp2_with (first | (go_at_call 31; refine HN.out.mono ?_; rintro e w1 ⟨rfl, rfl⟩) | (go_at_call 37; refine (nan_any _).mono ?_; rintro e w1 ⟨rfl, rfl⟩))
          go_ret
          exact ⟨_, m, rfl, by rw [HM.out]; exact rep_nan, rfl⟩
end Fw
end Go.Proofs.Ytcefohebnngfnaa
