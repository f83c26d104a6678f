/-
  What the plain answer's Get tells, plain: of each way through it, which node bytes are.
-/
import Derived.Test.YtbdhncaiffepoaaMg8
namespace Go.Proofs.Ytbdhncaiffepoaa
set_option maxRecDepth 20000
open Go.RowKit

namespace No
open Rl Ni
theorem kidR_of {x : It} {k : ByteArray} (h : kidP x = some k) (hr : refP k = true) : kidR x = (k, true) := by
  unfold kidP at h
  unfold kidR
  split at h
  · rename_i hl
    rw [if_pos hl]
    split at h
    · rename_i hb
      obtain rfl := Option.some.inj h
      rw [if_pos hb, hr]
    · cases h
  · rename_i hl
    rw [if_neg hl]
    split at h
    · obtain rfl := Option.some.inj h
      rw [hr]
    · cases h
theorem allK_kidR : ∀ {l : List It} {ks : List ByteArray}, allK l = some ks → (∀ k ∈ ks, refP k = true) → l.map kidR = ks.map fun k => (k, true)
  | [], ks, h, _ => by obtain rfl := Option.some.inj h; rfl
  | x :: l, ks, h, hr => by
    unfold allK at h
    cases hk : kidP x with
    | none => rw [hk] at h; cases h
    | some k =>
      rw [hk] at h
      dsimp only at h
      cases ha : allK l with
      | none => rw [ha] at h; cases h
      | some ks' =>
        rw [ha] at h
        obtain rfl := Option.some.inj h
        rw [List.map_cons, List.map_cons, kidR_of hk (hr k List.mem_cons_self), allK_kidR ha (fun q hq => hr q (List.mem_cons_of_mem _ hq))]
theorem get_if {s : List UInt8} (hs : s.length ≤ 1000000) {N : Nd} (hl : N.ks.length = 16) (h : ∀ M, getP s = some M → M = N) : getP s = if mayW refP N = true ∧ putP N = s then some N else none := by
  by_cases hc : mayW refP N = true ∧ putP N = s
  · rw [if_pos hc]
    have := get_put hl hc.1
    rw [hc.2] at this
    exact this
  · rw [if_neg hc]
    cases hg : getP s with
    | none => rfl
    | some M =>
      obtain rfl := h M hg
      obtain ⟨_, h2, h3, _⟩ := whole_get hs hg
      exact absurd ⟨h3, h2⟩ hc
theorem whole_err {s : List UInt8} {c : Int} (h : readL s 0 0 = .error c) : wholeL s = .error c := by
  unfold wholeL
  rw [h]
theorem whole_long {s : List UInt8} {x : It} {n k : Nat} (h : readL s 0 0 = .ok (x, n, k)) (hn : n < s.length) : wholeL s = .error 6 := by
  unfold wholeL
  rw [h]
  exact if_pos hn
theorem whole_is {s : List UInt8} {x : It} {n k : Nat} (h : readL s 0 0 = .ok (x, n, k)) (hn : ¬ n < s.length) : wholeL s = .ok x := by
  unfold wholeL
  rw [h]
  exact if_neg hn
theorem get_err {s : List UInt8} (hs : s.length ≤ 1000000) {c : Int} (hw : wholeL s = .error c) : getP s = none := by rw [getP_eq s (by omega), hw]
theorem get_few {s : List UInt8} (hs : s.length ≤ 1000000) {x : It} (hw : wholeL s = .ok x) (h2 : x.xs.length ≠ 2) (h17 : x.xs.length ≠ 17) : getP s = none := by
  rw [getP_eq s (by omega), hw]
  dsimp only
  rw [show readP x.xs = none by unfold readP; rw [if_neg h2, if_neg h17]]
theorem get_bad {s : List UInt8} (hs : s.length ≤ 1000000) {x : It} (hw : wholeL s = .ok x) (h2 : x.xs.length = 2) (hb : (x.xs.getD 0 it0).s.size = 0 ∨ Bad (x.xs.getD 0 it0).s) : getP s = none := by
  rw [getP_eq s (by omega), hw]
  dsimp only
  rw [show readP x.xs = none by unfold readP readPathP; rw [if_pos h2, if_pos hb]]
/-- a leaf of these items -/
def leafN (y z : It) : Nd := ⟨1, pathL y.s, z.s, zks⟩
theorem get_leaf {s : List UInt8} (hs : s.length ≤ 1000000) {x : It} (hw : wholeL s = .ok x) (h2 : x.xs.length = 2) (hb : ¬ ((x.xs.getD 0 it0).s.size = 0 ∨ Bad (x.xs.getD 0 it0).s)) (hlf : leafB (x.xs.getD 0 it0).s = true) :
    getP s = if mayW refP (leafN (x.xs.getD 0 it0) (x.xs.getD 1 it0)) = true then some (leafN (x.xs.getD 0 it0) (x.xs.getD 1 it0)) else none := by
  rw [getP_eq s (by omega), hw]
  dsimp only
  rw [show readP x.xs = some (leafN (x.xs.getD 0 it0) (x.xs.getD 1 it0)) by unfold readP readPathP; rw [if_pos h2, if_neg hb, if_pos hlf]; rfl]
theorem leaf_text {y z : It} {d : Nat} (hf : Fits d z) (hm : mayW refP (leafN y z) = true) : z.l = false := by
  rcases may_kinds (n := leafN y z) zks_length hm with ⟨_, h, _⟩ | ⟨h, _⟩ | ⟨h, _⟩
  · exact congrArg It.l (text_of hf h)
  · exact absurd (show (1 : Int) = 2 from h) (by decide)
  · exact absurd (show (1 : Int) = 3 from h) (by decide)
/-- an extension of these items -/
def extN (y z : It) : Nd := ⟨2, pathL y.s, eB, one16 (kidR z).1⟩
theorem extN_length (y z : It) : (extN y z).ks.length = 16 := one16_length _
theorem get_ext {s : List UInt8} (hs : s.length ≤ 1000000) {x : It} (hw : wholeL s = .ok x) (h2 : x.xs.length = 2) (hb : ¬ ((x.xs.getD 0 it0).s.size = 0 ∨ Bad (x.xs.getD 0 it0).s)) (hlf : leafB (x.xs.getD 0 it0).s = false) :
    ∀ M, getP s = some M → (kidR (x.xs.getD 1 it0)).2 = true ∧ M = extN (x.xs.getD 0 it0) (x.xs.getD 1 it0) := by
  intro M hM
  obtain ⟨x', hw', hr, hm⟩ := getP_some (by omega) hM
  obtain rfl := ok_inj (hw.symm.trans hw')
  unfold readP readPathP at hr
  rw [if_pos h2, if_neg hb, if_neg (by rw [hlf]; decide)] at hr
  obtain ⟨k, hk, rfl⟩ := Option.map_eq_some_iff.1 hr
  have := kidR_of hk (may_refs (one16_length k) hm k List.mem_cons_self)
  unfold extN
  rw [this]
  exact ⟨rfl, rfl⟩
/-- a branch of these items -/
def brN (xs : List It) : Nd := ⟨3, [], eB, (xs.take 16).map fun x => (kidR x).1⟩
theorem brN_length {xs : List It} (h : xs.length = 17) : (brN xs).ks.length = 16 := by simp [brN, h]
theorem get_branch {s : List UInt8} (hs : s.length ≤ 1000000) {x : It} (hw : wholeL s = .ok x) (h17 : x.xs.length = 17) :
    ∀ M, getP s = some M → (∀ y ∈ x.xs.take 16, (kidR y).2 = true) ∧ M = brN x.xs := by
  intro M hM
  obtain ⟨x', hw', hr, hm⟩ := getP_some (by omega) hM
  obtain rfl := ok_inj (hw.symm.trans hw')
  unfold readP readBranchP at hr
  rw [if_neg (by omega), if_pos h17] at hr
  cases ha : allK (x.xs.take 16) with
  | none => rw [ha] at hr; cases hr
  | some ks =>
    rw [ha] at hr
    dsimp only at hr
    split at hr
    · obtain rfl := Option.some.inj hr
      have hkl : ks.length = 16 := by rw [allK_len ha]; simp [h17]
      have hrf := may_refs hkl hm
      have hmap := allK_kidR ha hrf
      refine ⟨fun y hy => ?_, ?_⟩
      · have h1 : kidR y ∈ (x.xs.take 16).map kidR := List.mem_map_of_mem hy
        rw [hmap] at h1
        obtain ⟨k, _, h1⟩ := List.mem_map.1 h1
        rw [← h1]
      · have h1 := congrArg (List.map Prod.fst) hmap
        rw [List.map_map, List.map_map] at h1
        unfold brN
        have h2 : ((x.xs.take 16).map fun x => (kidR x).1) = ks := by
          have e1 : (Prod.fst ∘ kidR) = fun x => (kidR x).1 := rfl
          have e2 : (Prod.fst ∘ fun k : ByteArray => (k, true)) = id := rfl
          rw [e1, e2, List.map_id] at h1
          exact h1
        rw [h2]
    · cases hr
end No
end Go.Proofs.Ytbdhncaiffepoaa
