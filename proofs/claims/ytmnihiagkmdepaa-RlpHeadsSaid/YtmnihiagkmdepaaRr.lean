/-
  The contract of rlp.Whole, of any bytes.
-/
import Derived.Test.YtmnihiagkmdepaaRq
namespace Go.Proofs.Ytmnihiagkmdepaa
open Go.RowKit

namespace Rl
open Pk
/-- what Whole tells: it is read whole -/
def wholeL (s : List UInt8) : Except Int It :=
  match readL s 0 0 with
  | .error c => .error c
  | .ok (x, n, _) => if n < s.length then .error 6 else .ok x
def WholePost (w : World) : Except Int It → Ending → World → Prop
  | .error c => fun e w' => e = .returned (.tuple #[itV it0 none 0 0, .int .i64 c]) ∧ Below w.heap.size w w'
  | .ok x => fun e w' => ∃ a nn cap, e = .returned (.tuple #[itV x a nn cap, .int .i64 0]) ∧ ItsIn w.heap.size w' x.xs a nn cap ∧ Below w.heap.size w w'
theorem head_codes {s : List UInt8} {c : Int} (h : headE s = .error c) : 0 < c := by
  cases s with
  | nil => cases h; decide
  | cons d t =>
    dsimp only [headE] at h
    generalize (if 192 ≤ d.toNat then 192 else 128) = M at h
    split at h
    · cases h
    · split at h
      · cases h
      · split at h
        · cases h; decide
        · split at h
          · cases h; decide
          · cases h
theorem codes (N : Nat) : (∀ (s : List UInt8) (around k : Nat) (c : Int), s.length ≤ N → readL s around k = .error c → 0 < c) ∧ (∀ (s : List UInt8) (around k : Nat) (c : Int), s.length ≤ N → allL s around k = .error c → 0 < c) := by
  induction N using Nat.strongRecOn with
  | ind N ih =>
    have hread : ∀ (s : List UInt8) (around k : Nat) (c : Int), s.length ≤ N → readL s around k = .error c → 0 < c := by
      intro s around k c hN h
      cases s with
      | nil =>
        rw [readL] at h
        split at h
        · cases h; decide
        · split at h <;> (cases h; decide)
      | cons d t =>
        rw [readL] at h
        split at h
        · cases h; decide
        · split at h
          · cases h; decide
          · split at h
            · rename_i hh; cases h; exact head_codes hh
            · rename_i a v hh
              split at h
              · cases h; decide
              · split at h
                · rename_i ha
                  cases h
                  rw [List.length_cons] at hN
                  exact (ih (N - 1) (by omega)).2 _ _ _ _ (by rw [List.length_take, List.length_drop]; omega) ha
                · cases h
            · split at h
              · cases h; decide
              · split at h
                · cases h; decide
                · cases h
    refine ⟨hread, fun s around k c hN h => ?_⟩
    cases s with
    | nil => rw [allL] at h; cases h
    | cons d t =>
      rw [allL] at h
      split at h
      · rename_i hr; cases h; exact hread _ _ _ _ hN hr
      · split at h
        · rename_i ha
          cases h
          rw [List.length_cons] at hN
          exact (ih (N - 1) (by omega)).2 _ _ _ _ (by rw [List.length_drop]; omega) ha
        · cases h

set_option maxRecDepth 100000 in
set_option maxHeartbeats 4000000 in
theorem whole_any (s : ByteArray) (hsz : s.size ≤ 9223372036854775807) (w : World) : Calls Try.prog 16 #[.string s] w (WholePost w (wholeL s.data.toList)) := by
  have hg := get_any s hsz (w.alloc (.cells #[.bool false, .string ⟨#[]⟩, .slice none 0 0] 24))
  unfold wholeL
  have hO : Rg.Own (w.alloc (.cells #[.bool false, .string ⟨#[]⟩, .slice none 0 0] 24)) w.heap.size (itC it0 none 0 0) 24 := Rg.Own.new _ _ _
  have HO := Lib.hid hO
  clear hO
  cases hr : readL s.data.toList 0 0 with
  | error c =>
    have hc : 0 < c := (codes s.data.toList.length).1 _ _ _ _ (Nat.le_refl _) hr
    rw [hr] at hg
    have HG : Hid (Calls Try.prog 17 #[.string s] (w.alloc (.cells #[.bool false, .string ⟨#[]⟩, .slice none 0 0] 24)) fun e w' => e = .returned (.tuple #[itV it0 none 0 0, .int .i64 0, .int .i64 c]) ∧ Below (w.alloc (.cells #[.bool false, .string ⟨#[]⟩, .slice none 0 0] 24)).heap.size (w.alloc (.cells #[.bool false, .string ⟨#[]⟩, .slice none 0 0] 24)) w') := Lib.hid hg
    have hne : (c != 0) = true := by simp; omega
    clear hg hr hc
    dsimp only [WholePost]
    unfold itV at HG
    dsimp only [it0, It.l, It.s] at HG
    go_enter Try.func16, Try.ntmps16
    go_wp2_with fail
    with_reducible refine HG.out.mono ?_
    rintro e w1 ⟨rfl, hb⟩
    have HO1 := Lib.hid ((HO.out.below hb).below (al1 w1 (.cells #[.bool false, .string ⟨#[]⟩, .slice none 0 0] 24)))
    have HB1 := Lib.hid (below_step' (of_al (al_of hb)) (al1 w1 (.cells #[.bool false, .string ⟨#[]⟩, .slice none 0 0] 24)))
    clear hb
    go_wp2_with (refine wpList_store_rowTo rfl 24 _ _ rfl rfl w.heap.size (itC it0 none 0 0) rfl rfl 24 (itC it0 none 0 0) HO1.out.2 (info_itC _ _ _ _) rfl (itC_one _ _ _ _) ?_)
    exact bodyPost_ret (res_item1 rfl _ rfl (lies_row (setRow_heap _ _ _ _ _ _ HO1.out.2))) rfl ⟨rfl, below_row HB1.out (Nat.le_refl _) _⟩
  | ok q =>
    obtain ⟨x, n, k'⟩ := q
    obtain ⟨_, p2, _, _⟩ := (props s.data.toList.length).1 _ _ _ _ _ _ (Nat.le_refl _) hr
    rw [hr] at hg
    have HG : Hid (Calls Try.prog 17 #[.string s] (w.alloc (.cells #[.bool false, .string ⟨#[]⟩, .slice none 0 0] 24)) fun e w' => ∃ a nn cap, e = .returned (.tuple #[itV x a nn cap, .int .i64 n, .int .i64 0]) ∧
      ItsIn (w.alloc (.cells #[.bool false, .string ⟨#[]⟩, .slice none 0 0] 24)).heap.size w' x.xs a nn cap ∧ Below (w.alloc (.cells #[.bool false, .string ⟨#[]⟩, .slice none 0 0] 24)).heap.size (w.alloc (.cells #[.bool false, .string ⟨#[]⟩, .slice none 0 0] 24)) w') := Lib.hid hg
    clear hg hr
    unfold itV at HG
    dsimp only
    rw [← size_len] at p2 ⊢
    by_cases hlt : n < s.size
    · rw [if_pos hlt]
      dsimp only [WholePost]
      go_enter Try.func16, Try.ntmps16
      go_wp2_with fail
      with_reducible refine HG.out.mono ?_
      rintro e w1 ⟨a, nn, cap, rfl, _, hb⟩
      have HO1 := Lib.hid ((HO.out.below hb).below (al1 w1 (.cells #[.bool x.l, .string x.s, .slice a nn cap] 24)))
      have HB1 := Lib.hid (below_step' (of_al (al_of hb)) (al1 w1 (.cells #[.bool x.l, .string x.s, .slice a nn cap] 24)))
      clear hb
      go_wp2_with (refine wpList_store_rowTo rfl 24 _ _ rfl rfl w.heap.size (itC it0 none 0 0) rfl rfl 24 (itC it0 none 0 0) HO1.out.2 (info_itC _ _ _ _) rfl (itC_one _ _ _ _) ?_)
      exact bodyPost_ret (res_item1 rfl _ rfl (lies_row (setRow_heap _ _ _ _ _ _ HO1.out.2))) rfl ⟨rfl, below_row HB1.out (Nat.le_refl _) _⟩
    · rw [if_neg hlt]
      dsimp only [WholePost]
      go_enter Try.func16, Try.ntmps16
      go_wp2_with fail
      with_reducible refine HG.out.mono ?_
      rintro e w1 ⟨a, nn, cap, rfl, hI, hb⟩
      have HO1 := Lib.hid ((HO.out.below hb).below (al1 w1 (.cells #[.bool x.l, .string x.s, .slice a nn cap] 24)))
      have HB1 := Lib.hid (below_step' (of_al (al_of hb)) (al1 w1 (.cells #[.bool x.l, .string x.s, .slice a nn cap] 24)))
      have HI := Lib.hid (hI.alloc (.cells #[.bool x.l, .string x.s, .slice a nn cap] 24))
      clear hb hI
      go_wp2_with (refine wpList_store_rowTo rfl 24 _ _ rfl rfl w.heap.size (itC x a nn cap) rfl rfl 24 (itC it0 none 0 0) HO1.out.2 (info_itC _ _ _ _) rfl (itC_one _ _ _ _) ?_)
      exact bodyPost_ret (res_item1 rfl _ rfl (lies_row (setRow_heap _ _ _ _ _ _ HO1.out.2))) rfl ⟨a, nn, cap, rfl, ItsIn.weak (ItsIn_row HI.out (by simp) _) (by simp), below_row HB1.out (Nat.le_refl _) _⟩
end Rl
end Go.Proofs.Ytmnihiagkmdepaa
