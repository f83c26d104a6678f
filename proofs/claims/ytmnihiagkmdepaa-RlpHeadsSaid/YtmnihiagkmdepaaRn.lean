/-
  What reading tells of bytes: the item that they begin with, or what is wrong; the items that they are.
-/
import Derived.Test.YtmnihiagkmdepaaHd
import Derived.Test.YtmnihiagkmdepaaRm
namespace Go.Proofs.Ytmnihiagkmdepaa
open Go.RowKit

namespace Rl
mutual
/-- the item that bytes begin with, how many bytes it has, how many items were met -/
def readL : List UInt8 → Nat → Nat → Except Int (It × Nat × Nat)
  | [], around, k => if 64 < around then .error 17 else if 4096 < k + 1 then .error 4 else .error 5
  | c :: t, around, k =>
    if 64 < around then .error 17 else if 4096 < k + 1 then .error 4 else
    match headE (c :: t) with
    | .error e => .error e
    | .ok (true, a, v) => if t.length + 1 - a < v then .error 5 else
      match allL ((t.drop (a - 1)).take v) (around + 1) (k + 1) with
      | .error e => .error e
      | .ok (xs, k') => .ok (.mk true ⟨#[]⟩ xs, a + v, k')
    | .ok (false, a, v) => if t.length + 1 - a < v then .error 5 else
      if a = 1 ∧ v = 1 ∧ (t.headD 0).toNat < 128 then .error 6 else .ok (.mk false ⟨(((c :: t).drop a).take v).toArray⟩ [], a + v, k + 1)
termination_by s => (s.length, 0)
decreasing_by
  apply Prod.Lex.left
  rw [List.length_take, List.length_drop, List.length_cons]
  omega
/-- the items that bytes are -/
def allL : List UInt8 → Nat → Nat → Except Int (List It × Nat)
  | [], _, k => .ok ([], k)
  | c :: t, around, k =>
    match readL (c :: t) around k with
    | .error e => .error e
    | .ok (x, n, k') =>
      match allL (t.drop (n - 1)) around k' with
      | .error e => .error e
      | .ok (xs, k'') => .ok (x :: xs, k'')
termination_by s => (s.length, 1)
decreasing_by
  · apply Prod.Lex.right
    omega
  · apply Prod.Lex.left
    rw [List.length_drop, List.length_cons]
    omega
end

theorem ok_inj {α β : Type} {x y : α} (h : (Except.ok x : Except β α) = .ok y) : x = y := by cases h; rfl
theorem headE_props {c : UInt8} {t : List UInt8} {l : Bool} {a v : Nat} (h : headE (c :: t) = .ok (l, a, v)) : a ≤ t.length + 1 ∧ 1 ≤ a + v ∧ v < 2 ^ 64 ∧ a ≤ 9 ∧ (l = true → 1 ≤ a) := by
  have hc := c.toNat_lt
  obtain ⟨M, hM, hM2⟩ : ∃ M, (if 192 ≤ c.toNat then 192 else 128) = M ∧ (M = 192 ∨ M = 128 ∧ c.toNat < 192) := ⟨_, rfl, by
    by_cases e : 192 ≤ c.toNat
    · exact .inl (if_pos e)
    · exact .inr ⟨if_neg e, by omega⟩⟩
  dsimp only [headE] at h
  rw [hM] at h
  clear hM
  by_cases h1 : c.toNat < 128
  · rw [if_pos h1] at h
    have := ok_inj h
    simp only [Prod.mk.injEq] at this
    obtain ⟨rfl, rfl, rfl⟩ := this
    refine ⟨by omega, by omega, by omega, by omega, fun e => by cases e⟩
  · rw [if_neg h1] at h
    by_cases h2 : c.toNat - M ≤ 55
    · rw [if_pos h2] at h
      have := ok_inj h
      simp only [Prod.mk.injEq] at this
      obtain ⟨rfl, rfl, rfl⟩ := this
      refine ⟨by omega, by omega, by omega, by omega, fun _ => by omega⟩
    · rw [if_neg h2] at h
      by_cases h3 : t.length < c.toNat - M - 55
      · rw [if_pos h3] at h; cases h
      · rw [if_neg h3] at h
        by_cases h4 : t.headD 0 = 0 ∨ valB (t.take (c.toNat - M - 55)) ≤ 55
        · rw [if_pos h4] at h; cases h
        · rw [if_neg h4] at h
          have := ok_inj h
          simp only [Prod.mk.injEq] at this
          obtain ⟨rfl, rfl, rfl⟩ := this
          have hl := valB_lt (t.take (c.toNat - M - 55))
          have h8 : (t.take (c.toNat - M - 55)).length ≤ 8 := by
            rw [List.length_take]; omega
          refine ⟨by omega, by omega, ?_, by omega, fun _ => by omega⟩
          exact Nat.lt_of_lt_of_le hl (Nat.le_trans (Nat.pow_le_pow_right (by omega) h8) (by decide))

/-- of what is read -/
theorem props (N : Nat) : (∀ (s : List UInt8) (around k : Nat) (x : It) (n k' : Nat), s.length ≤ N → readL s around k = .ok (x, n, k') → 1 ≤ n ∧ n ≤ s.length ∧ k < k' ∧ k' ≤ 4096) ∧
    (∀ (s : List UInt8) (around k : Nat) (xs : List It) (k' : Nat), s.length ≤ N → k ≤ 4096 → allL s around k = .ok (xs, k') → k + xs.length ≤ k' ∧ k' ≤ 4096) := by
  induction N using Nat.strongRecOn with
  | ind N ih =>
    have hread : ∀ (s : List UInt8) (around k : Nat) (x : It) (n k' : Nat), s.length ≤ N → readL s around k = .ok (x, n, k') → 1 ≤ n ∧ n ≤ s.length ∧ k < k' ∧ k' ≤ 4096 := by
      intro s around k x n k' hN h
      cases s with
      | nil =>
        rw [readL] at h
        split at h
        · cases h
        · split at h <;> cases h
      | cons c t =>
        rw [readL] at h
        split at h
        · cases h
        · split at h
          · cases h
          · rename_i hk
            split at h
            · cases h
            · rename_i a v hh
              obtain ⟨h1, h2, h3, h4, h5⟩ := headE_props hh
              have h6 := h5 rfl
              split at h
              · cases h
              · rename_i hv
                split at h
                · cases h
                · rename_i xs k2 ha
                  have := ok_inj h
                  simp only [Prod.mk.injEq] at this
                  obtain ⟨rfl, rfl, rfl⟩ := this
                  rw [List.length_cons] at hN ⊢
                  obtain ⟨g1, g2⟩ := (ih (N - 1) (by omega)).2 _ _ _ _ _ (by rw [List.length_take, List.length_drop]; omega) (by omega) ha
                  omega
            · rename_i a v hh
              obtain ⟨h1, h2, h3, h4, h5⟩ := headE_props hh
              split at h
              · cases h
              · rename_i hv
                split at h
                · cases h
                · have := ok_inj h
                  simp only [Prod.mk.injEq] at this
                  obtain ⟨rfl, rfl, rfl⟩ := this
                  rw [List.length_cons]
                  omega
    refine ⟨hread, fun s around k xs k' hN hk h => ?_⟩
    cases s with
    | nil =>
      rw [allL] at h
      have := ok_inj h
      simp only [Prod.mk.injEq] at this
      obtain ⟨rfl, rfl⟩ := this
      simp
      omega
    | cons c t =>
      rw [allL] at h
      split at h
      · cases h
      · rename_i x n k2 hr
        obtain ⟨g1, g2, g3, g4⟩ := hread _ _ _ _ _ _ hN hr
        split at h
        · cases h
        · rename_i ys k3 ha
          have := ok_inj h
          simp only [Prod.mk.injEq] at this
          obtain ⟨rfl, rfl⟩ := this
          rw [List.length_cons] at hN
          obtain ⟨e1, e2⟩ := (ih (N - 1) (by omega)).2 _ _ _ _ _ (by rw [List.length_drop]; omega) g4 ha
          rw [List.length_cons]
          omega
end Rl
end Go.Proofs.Ytmnihiagkmdepaa
