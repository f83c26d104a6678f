/-
  The contract of rlp.Put, of an item that may be.
-/
import Derived.Test.YtmnihiagkmdepaaRl
namespace Go.Proofs.Ytmnihiagkmdepaa
open Go.RowKit

namespace Rl
open Pk
theorem own_gb {w w' : World} {b g : Nat} {cs : Array Value} {T : TypeId} (h : Rg.Own w b cs T) (hg : w.grownBy w' (some g)) (hne : b ≠ g) : Rg.Own w' b cs T :=
  ⟨Nat.lt_of_lt_of_le h.1 hg.size, (hg.block b h.1 (fun e => hne (Option.some.inj e))).trans h.2⟩
theorem own_set {w : World} {b g : Nat} {cs : Array Value} {T : TypeId} (h : Rg.Own w b cs T) (v : Value) (hne : b ≠ g) : Rg.Own (w.setCell ⟨g, 0, none⟩ v) b cs T := own_gb h (gb_set w g 0 v) hne
theorem own_one {w : World} {b : Nat} {v : Value} {T : TypeId} (h : Rg.Own w b #[v] T) : w.cell? ⟨b, 0, none⟩ = some v ∧ w.frozen? ⟨b, 0, none⟩ = false := by
  refine ⟨?_, ?_⟩
  · simp [World.cell?, h.2]
  · simp [World.frozen?, h.2]

set_option maxHeartbeats 2000000 in
theorem putDo_any (x : It) (g b : Nat) (w0 w : World) (a : Option Addr) (n cap : Nat) (h : IsIts w0 x.xs a n cap) (hB : Below w0.heap.size w0 w) (hg : w0.heap.size ≤ g) (hF : Fits 0 x) (hk : x.size ≤ 4096) (hT : Tal w g 0) (hO : Rg.Own w b (itC x a n cap) 24) :
    Calls Try.prog 24 #[.pointer (some ⟨g, 0, none⟩), .pointer (some ⟨b, 0, none⟩)] w fun e w' => e = .returned (.tuple #[]) ∧ w.grownBy w' (some g) := by
  obtain ⟨c0, c1, c2⟩ := lies_row hO.2
  have HC := Lib.hid (check_any x 0 0 g 0 w0 w (itV x a n cap) rfl ⟨a, n, cap, rfl, h⟩ hB hg hF (by omega) hT)
  unfold itV at HC
  clear h hB hF hk hT hO
  go_enter Try.func24, Try.ntmps24
  go_wp2_with fail
  with_reducible refine HC.out.mono ?_
  rintro e w1 ⟨rfl, _, hg1⟩
  have HG := Lib.hid hg1
  clear hg1
  go_wp2
  go_end0
  exact ⟨rfl, HG.out⟩

set_option maxHeartbeats 4000000 in
theorem put_any (x : It) (w : World) (v : Value) (h : IsIt w x v) (hF : Fits 0 x) (hk : x.size ≤ 4096) (hl : x.bytes.length ≤ 1099511627776) :
    Calls Try.prog 15 #[v] w fun e w' => e = .returned (.tuple #[.string ⟨x.bytes.toArray⟩, .int .i64 0]) ∧ Below w.heap.size w w' := by
  obtain ⟨a, n, cap, rfl, h⟩ := h
  have hmf : ∀ (fn : Fn) (first cap : Array Value) (w : World), (Instr.makeFunc fn first cap).run Try.prog w = .ok (.func fn first cap) w := fun _ _ _ _ => rfl
  obtain ⟨w2, hw2⟩ : ∃ w2, w2 = (w.alloc (.cells (itC x a n cap) 24)).alloc (.cells #[.int .i64 0] 52) := ⟨_, rfl⟩
  have ho1 : Rg.Own w2 w.heap.size (itC x a n cap) 24 := by rw [hw2]; exact (Rg.Own.new _ _ _).below (al1 _ _)
  have ho2 : Rg.Own w2 (w.heap.size + 1) #[.int .i64 0] 52 := by
    rw [hw2]
    have := Rg.Own.new (w.alloc (.cells (itC x a n cap) 24)) #[.int .i64 0] 52
    simpa using this
  have hb2 : Below w.heap.size w w2 := by rw [hw2]; exact al2 _ _ _
  have hs2 : w2.heap.size = w.heap.size + 2 := by rw [hw2]; simp
  have hoE : Rg.Own (w2.alloc (.cells #[.int .i64 0] 37)) w2.heap.size #[.int .i64 0] 37 := Rg.Own.new _ _ _
  have ho1' := ho1.below (al1 w2 (.cells #[.int .i64 0] 37))
  have ho2' := ho2.below (al1 w2 (.cells #[.int .i64 0] 37))
  have hbE := hb2.alloc hb2.size (.cells #[.int .i64 0] 37)
  have HC := Lib.hid (caught_ok 24 #[.pointer (some ⟨w.heap.size + 1, 0, none⟩), .pointer (some ⟨w.heap.size, 0, none⟩)] (by intro wx; kernel_rfl) w2
    (fun w' => (w2.alloc (.cells #[.int .i64 0] 37)).grownBy w' (some (w.heap.size + 1))) (by
      refine (putDo_any x (w.heap.size + 1) w.heap.size w _ a n cap h hbE (by omega) hF hk (own_one ho2') ho1').mono ?_
      rintro e w' ⟨rfl, hg⟩
      exact ⟨rfl, own_one (own_gb hoE hg (by omega)), hg⟩))
  have hlay := fun (w' : World) hb hIs => lay_any x 0 (w'.heap.size) w (w'.alloc (.cells #[.pointer none, .slice none 0 0] 57)) (itV x a n cap) [] ⟨a, n, cap, rfl, h⟩ hb hF (by simpa using hl) hIs
  have HLy := Lib.hid hlay
  clear hlay h hF hk hl
  unfold itV at HLy ⊢
  unfold itC at hw2
  go_enter Try.func15, Try.ntmps15
  go_wp2_with fail
  rw [← hw2]
  refine HC.out.mono ?_
  rintro e w3 ⟨rfl, w1, hg1, hw3⟩
  have ho3 : Rg.Own w3 w.heap.size (itC x a n cap) 24 := by rw [hw3]; exact own_set (own_gb ho1' hg1 (by omega)) _ (by omega)
  have hb3 : Below w.heap.size w w3 := by
    rw [hw3]
    exact (gb_below hbE hg1 (Nat.le_refl _) (by omega)).setCell (p := ⟨w2.heap.size, 0, none⟩) (by show w.heap.size ≤ w2.heap.size; omega) _
  have HB3 := Lib.hid hb3
  have hB3 : Below w.heap.size w (w3.alloc (.cells #[.pointer none, .slice none 0 0] 57)) := hb3.alloc hb3.size _
  have HLx := Lib.hid (HLy.out w3 hB3 (Bu.fresh (b := w3.heap.size) hb3.size (heap_alloc_new _ _)))
  obtain ⟨c0, c1, c2⟩ := lies_row (ho3.below (al1 w3 (.cells #[.pointer none, .slice none 0 0] 57))).2
  clear hw3 ho3 hb3 hB3 HLy HC hg1 hbE ho2' ho1' hoE hs2 hb2 ho2 ho1 hw2
  go_wp2_with fail
  with_reducible refine HLx.out.mono ?_
  rintro e w4 ⟨rfl, hI4, hb4⟩
  rw [List.nil_append] at hI4
  have HI4 := Lib.hid hI4
  have HB4 := Lib.hid hb4
  clear hI4 hb4 c0 c1 c2 HLx
  go_wp2_with fail
  with_reducible refine (Bu.text HI4.out HB4.out.size).mono ?_
  rintro e w5 ⟨rfl, hb5⟩
  have HB5 := Lib.hid (HB4.out.trans hb5)
  clear hb5
  go_wp2
  go_ret2
  exact ⟨rfl, HB5.out⟩
end Rl
end Go.Proofs.Ytmnihiagkmdepaa
