/-
  What a slice of numbers that came in is, as a walk takes it; its first sixty.
-/
import Derived.Test.YtcefohebnngfnaaGe
import Derived.ChangeArms
import Derived.Deep.Slices
import Derived.Deep.Fields
import Derived.Lib.SmallJoins
namespace Go.Proofs.Ytcefohebnngfnaa
open Go.RowKit Go.ChangeShapes Go.WideShapes Go.Deep

namespace Fw
section
variable {H : Type} {enc : TypeId × Value → H} {P : Program} {w : World} {base : Nat} {spare : Nat → Bool} {held : Bool} {fuel : Nat} {t : TypeId} {cs : List Value} {x : DataW H × List MemPlace}
theorem trod_float (ht : P.underlying t = some (.float .f64)) (h : DataW.trod enc P w base spare held fuel t cs = some x) : ∃ n, cs = [.float .f64 n] ∧ x = (.lit (.float .f64 n), []) ∧ n < 18446744073709551616 := by
  cases fuel with
  | zero => simp [DataW.trod] at h
  | succ n =>
    unfold DataW.trod at h
    rw [ht] at h
    split at h <;> simp_all only [reduceCtorEq, Option.some.injEq, TypeDesc.float.injEq]
    rename_i k' b hk
    subst hk
    split at h
    · rename_i hw
      obtain ⟨rfl, hw⟩ := hw
      cases h
      exact ⟨_, rfl, rfl, of_decide_eq_true hw⟩
    · cases h
theorem addr_add (b off j : Nat) : (⟨b, off, none⟩ : Addr).add j = ⟨b, off + j, none⟩ := by unfold Addr.add; split <;> simp_all
theorem addr_add0 (a : Addr) : a.add 0 = a := by unfold Addr.add; split <;> simp_all
theorem isFs_of {e : TypeId} (ht : P.underlying t = some (.slice e)) (he : P.underlying e = some (.float .f64)) (hc : P.cellsOf e = 1)
    (h : DataW.trod enc P w 0 (fun _ => true) true fuel t cs = some x) : ∃ a n cap l, cs = [.slice a n cap] ∧ IsFs w a n cap l := by
  rcases open_slice ht h with ⟨rfl, _⟩ | ⟨ad, len, cap, m, n, D, Pl, rfl, _, hl, hm, hmm, _, hel⟩
  · exact ⟨none, 0, 0, [], rfl, IsFs.nil w⟩
  · have hmm' : m = cap := by simpa using hmm
    subst hmm'
    have cell : ∀ i, i < m → ∃ z, w.cell? (ad.add i) = some (.float .f64 z) ∧ z < 18446744073709551616 := by
      intro i hi
      obtain ⟨cs', h1, h2⟩ := hel i hi
      obtain ⟨z, rfl, _, hz⟩ := trod_float he h2
      obtain ⟨_, hcl, hat⟩ := World.cells?_some h1
      rw [hc] at hat
      have := hat 0 (by omega)
      rw [Nat.mul_one] at this
      refine ⟨z, ?_, hz⟩
      rw [addr_add0] at this
      simpa using this
    refine ⟨some ad, len, m, (List.range len).map fun i => UInt64.ofNat (match w.cell? (ad.add i) with | some (.float _ z) => z | _ => 0), rfl, hl, hm, by simp, fun e => (by cases e), fun j hj => ?_⟩
    obtain ⟨b, off, spot⟩ := ad
    obtain ⟨z0, hz0, _⟩ := cell 0 (by omega)
    have hspot : spot = none := by simpa [Addr.add] using World.cell?_spot hz0
    subst hspot
    obtain ⟨z, hz, hzl⟩ := cell j (by omega)
    have e2 := addr_add b off j
    rw [e2] at hz
    refine ⟨b, off, rfl, ?_, ?_⟩
    · rcases Nat.lt_or_ge b w.heap.size with h' | h'
      · exact h'
      · simp [World.cell?, Array.getElem?_eq_none h'] at hz
    · rw [hz]
      have e3 : ((List.range len).map fun i => UInt64.ofNat (match w.cell? ((⟨b, off, none⟩ : Addr).add i) with | some (.float _ z) => z | _ => 0)).getD j 0 = UInt64.ofNat z := by
        clear hzl
        simp [List.getD, hj, e2, hz]
      rw [e3]
      congr 2
      simp only [UInt64.toNat_ofNat']
      omega
end
/-- no more than sixty of them -/
theorem IsFs.first {w : World} {a : Option Addr} {n cap : Nat} {l : List UInt64} (h : IsFs w a n cap l) (k : Nat) (hk : k ≤ n) : IsFs w a k cap (l.take k) := by
  have h1 := h.1
  have h2 := h.len
  refine ⟨by omega, h.2.1, by rw [List.length_take]; omega, h.2.2.2.1, fun j hj => ?_⟩
  obtain ⟨b, off, e1, e2, e3⟩ := h.at' j (by omega)
  refine ⟨b, off, e1, e2, ?_⟩
  rw [e3]
  simp [List.getD, hj]
end Fw
end Go.Proofs.Ytcefohebnngfnaa
