/-
  Contracts of the plain answers' Size; of light.
-/
import Derived.Test.YtmnihiagkmdepaaIt
import Derived.Test.YtmnihiagkmdepaaLh
namespace Go.Proofs.Ytmnihiagkmdepaa
open Go.RowKit

namespace Rl
set_option maxHeartbeats 1000000 in
theorem text_any (s : ByteArray) (w : World) :
    Calls Try.prog 12 #[.string s] w fun e w' => e = .returned (itV (.mk false s []) none 0 0) ∧ Below w.heap.size w w' := by
  go_enter Try.func12, Try.ntmps12
  go_wp2
  exact bodyPost_ret (res_item rfl _ rfl (lies_new w (.mk false s []) none 0 0 _)) rfl ⟨rfl, (Below.refl _ _).alloc (Nat.le_refl _) _⟩

set_option maxHeartbeats 2000000 in
theorem size_any (x : It) : ∀ (w : World) (v : Value), IsIt w x v →
    Calls Try.prog 14 #[v] w fun e w' => ∃ d n : Int, e = .returned (.tuple #[.int .i64 d, .int .i64 n]) ∧ Below w.heap.size w w' := by
  induction x using It.ind with
  | h l s xs ih =>
    rintro w v ⟨a, n, cap, rfl, h⟩
    have hm := h.max
    have hnc := h.le
    unfold maxLen at hm
    have H := Lib.hid h
    clear h
    unfold itV
    dsimp only [It.l, It.s, It.xs] at *
    go_enter Try.func14, Try.ntmps14
    go_wp2
    go_loopw [4, 5, 6] (fun d k i wr => ∃ (q : Nat) (d' k' : Int), q ≤ n ∧ i = .int .i64 q ∧ d = .int .i64 d' ∧ k = .int .i64 k' ∧ Below (w.heap.size + 1) (w.alloc (.cells #[.bool l, .string s, .slice a n cap] 24)) wr) (fun _ _ i _ => n - (intOf i).toNat)
    case atStart => exact ⟨0, 0, 1, Nat.zero_le _, rfl, rfl, rfl, Below.refl _ _⟩
    case round =>
      obtain ⟨q, d', k', hq, rfl, rfl, rfl, hB⟩ := hrel
      have c2 : wr.cell? ⟨w.heap.size, 2, none⟩ = some (.slice a n cap) := by
        rw [hB.cell (p := ⟨w.heap.size, 2, none⟩) (Nat.lt_succ_self _), World.cell?_alloc_mark]; rfl
      have HB := Lib.hid hB
      clear hB
      by_cases hlt : q < n
      · obtain ⟨x, b, off, A, N, C, hx, rfl, hb, hL, hI⟩ := H.out.at' q hlt
        have hBw := of_al HB.out
        obtain ⟨e0, e1, e2⟩ := hL.stays hBw hb
        have HI := Lib.hid (ih x (List.mem_of_getElem? hx) wr _ ⟨A, N, C, rfl, hI.stays hBw⟩)
        unfold itV at HI
        clear hL hI hBw ih hx
        go_wp2_with fail
        refine HI.out.mono ?_
        rintro e w1 ⟨d1, n1, rfl, hb1⟩
        go_wp2_with (go_at_call 6; refine (Lh.high_any _ _ _).mono ?_; rintro e w2 ⟨rfl, rfl⟩)
        go_roundw
        case rel => exact ⟨q + 1, _, _, by omega, by go_num, rfl, rfl, al_step HB.out hb1⟩
        case measure => simp [intOf]; omega
      · obtain rfl : q = n := by omega
        go_wp2
        go_ret2
        exact ⟨_, _, rfl, of_al HB.out⟩

/-- whether it is so, whichever -/
def GotBool (w : World) (e : Ending) (w' : World) : Prop := ∃ b : Bool, e = .returned (.bool b) ∧ Below w.heap.size w w'
set_option maxHeartbeats 2000000 in
theorem light_any (x : It) (w : World) (v : Value) (h : IsIt w x v) :
    Calls Try.prog 4 #[v] w (GotBool w) := by
  obtain ⟨a, n, cap, rfl, h⟩ := h
  have HS := Lib.hid (fun w1 hb => size_any x w1 (itV x a n cap) ⟨a, n, cap, rfl, h.stays (w' := w1) hb⟩)
  clear h
  unfold itV at *
  go_enter Try.func4, Try.ntmps4
  go_wp2_with fail
  refine (HS.out _ ((Below.refl _ _).alloc (Nat.le_refl _) _)).mono ?_
  rintro e w1 ⟨d, k, rfl, hb⟩
  by_cases h1 : d ≤ 90
  · by_cases h2 : k ≤ 300
    all_goals
      go_wp2
      go_ret
      exact ⟨_, rfl, of_al (al_of hb)⟩
  · go_wp2
    go_ret
    exact ⟨_, rfl, of_al (al_of hb)⟩
end Rl
end Go.Proofs.Ytmnihiagkmdepaa
