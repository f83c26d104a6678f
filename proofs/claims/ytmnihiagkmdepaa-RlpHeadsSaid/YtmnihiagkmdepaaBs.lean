/-
  Slices of bytes: what one is, as a walk takes it (nil among them); what is kept of it; the text of it.
-/
import Derived.Test.YtmnihiagkmdepaaRows
import Derived.WalkKit
import Derived.WalkSpells
import Derived.WalkLawsBesides
import Derived.ProofKit
import Derived.OpenShut
import Derived.DataBytes
import Derived.Below
import Derived.Lib.Hide
import Derived.Laws.BytesString
import Derived.Laws.IdiomStrings
import Derived.Deep.OwnRows
import Derived.Deep.Draws
import Derived.OwnWalk
import Derived.Laws.OwnMore
namespace Go.Proofs.Ytmnihiagkmdepaa
open Go.RowKit Go.ChangeShapes Go.WideShapes

/-- a fact that no tactic looks into ('contradiction' looks through Hid, and reckons both sides of a closed equation) -/
def Sec (p : Prop) : Prop := Unit → p
theorem Sec.out {p : Prop} (h : Sec p) : p := h ()
theorem sec {p : Prop} (h : p) : Sec p := fun _ => h

theorem below_drewN {B : Nat} {w w' : World} (h : Below B w w') (q : Nat) : Below B w (w'.drewN q) := ⟨h.os, h.tape, h.output, h.size, h.block⟩

/-- the slice's elements are these bytes -/
def IsBs (w : World) (a : Option Addr) (n cap : Nat) (l : List UInt8) : Prop :=
  n ≤ cap ∧ cap ≤ maxLen ∧ l.length = n ∧ (a = none → cap = 0) ∧ ∀ j, j < n → ∃ b off, a = some ⟨b, off, none⟩ ∧ b < w.heap.size ∧ w.cell? ⟨b, off + j, none⟩ = some (.int .u8 (l.getD j 0).toNat)

namespace IsBs
theorem len {w : World} {a : Option Addr} {n cap : Nat} {l : List UInt8} (h : IsBs w a n cap l) : l.length = n := h.2.2.1
theorem at' {w : World} {a : Option Addr} {n cap : Nat} {l : List UInt8} (h : IsBs w a n cap l) (j : Nat) (hj : j < n) : ∃ b off, a = some ⟨b, off, none⟩ ∧ b < w.heap.size ∧ w.cell? ⟨b, off + j, none⟩ = some (.int .u8 (l.getD j 0).toNat) := h.2.2.2.2 j hj
/-- what keeps all old cells keeps it -/
theorem kept {w w' : World} {a : Option Addr} {n cap : Nat} {l : List UInt8} (h : IsBs w a n cap l) (hs : w.heap.size ≤ w'.heap.size)
    (hc : ∀ b o, b < w.heap.size → w'.cell? ⟨b, o, none⟩ = w.cell? ⟨b, o, none⟩) : IsBs w' a n cap l := by
  refine ⟨h.1, h.2.1, h.2.2.1, h.2.2.2.1, fun j hj => ?_⟩
  obtain ⟨b, off, h1, h2, h3⟩ := h.2.2.2.2 j hj
  exact ⟨b, off, h1, Nat.lt_of_lt_of_le h2 hs, by rw [hc b _ h2]; exact h3⟩
theorem below {w w' : World} {a : Option Addr} {n cap : Nat} {l : List UInt8} (h : IsBs w a n cap l) (hb : Below w.heap.size w w') : IsBs w' a n cap l :=
  h.kept hb.size fun b o hlt => hb.cell (p := ⟨b, o, none⟩) hlt
theorem alloc {w : World} {a : Option Addr} {n cap : Nat} {l : List UInt8} (h : IsBs w a n cap l) (o : Obj) : IsBs (w.alloc o) a n cap l :=
  h.below ((Below.refl _ _).alloc (Nat.le_refl _) _)
theorem grown {w w' : World} {a : Option Addr} {n cap : Nat} {l : List UInt8} (h : IsBs w a n cap l) (hg : w.grownBy w' none) : IsBs w' a n cap l :=
  h.below ((Below.refl _ _).grown hg (Nat.le_refl _) (fun k hk => by cases hk))
theorem drewN {w : World} {a : Option Addr} {n cap : Nat} {l : List UInt8} (h : IsBs w a n cap l) (q : Nat) : IsBs (w.drewN q) a n cap l := h
theorem capNone {w : World} {n cap : Nat} {l : List UInt8} (h : IsBs w none n cap l) : n = 0 ∧ cap = 0 ∧ l = [] := by
  have hc := h.2.2.2.1 rfl
  have h1 := h.1
  have h2 := h.len
  have : n = 0 := by omega
  subst this
  exact ⟨rfl, hc, List.eq_nil_of_length_eq_zero h2⟩
theorem nil (w : World) : IsBs w none 0 0 [] := ⟨Nat.le_refl _, Nat.zero_le _, rfl, fun _ => rfl, fun _ hj => absurd hj (Nat.not_lt_zero _)⟩
end IsBs

/-- a slice of these bytes is handed back; the world is as it was -/
def SameBs (w : World) (l : List UInt8) (e : Ending) (w' : World) : Prop := ∃ a n cap, e = .returned (.slice a n cap) ∧ IsBs w a n cap l ∧ w = w'
/-- a slice of these bytes is handed back; what was there is as it was -/
def GotBs (w : World) (l : List UInt8) (e : Ending) (w' : World) : Prop := ∃ a n cap, e = .returned (.slice a n cap) ∧ IsBs w' a n cap l ∧ Below w.heap.size w w'

/-- a row of the call's own, as a slice of bytes -/
theorem IsBs.ofRow {w : World} {b n : Nat} {f : Nat → Value} {t : TypeId} (l : List UInt8) (hn : n ≤ maxLen) (h : w.rowIs b t n f) (hl : l.length = n) (hf : ∀ j, j < n → f j = .int .u8 (l.getD j 0).toNat) : IsBs w (some ⟨b, 0, none⟩) n n l :=
  ⟨Nat.le_refl _, hn, hl, (fun e => by cases e), fun j hj => ⟨b, 0, rfl, h.lt, by rw [Nat.zero_add, ← hf j hj]; exact h.cell hj⟩⟩
theorem IsBs.ofOwn {w : World} {B : Nat} {t : TypeId} {v : Value} {n : Nat} {l : List UInt8} (h : w.ownsRow B t 1 v n (l.map fun x => Value.int .u8 x.toNat)) : ∃ a cap, v = .slice a n cap ∧ IsBs w a n cap l := by
  have hl : l.length = n := by simpa using h.1
  rcases h.2 with ⟨rfl, hz⟩ | ⟨g, cap, cur, rfl, hbg, hg, hnc, hcm, hcs, htake⟩
  · have e : l = [] := List.eq_nil_of_length_eq_zero (by rw [hl]; exact hz)
    subst e
    subst hz
    exact ⟨none, 0, rfl, IsBs.nil w⟩
  · refine ⟨_, _, rfl, hnc, hcm, hl, fun e => (by cases e), fun j hj => ⟨g, 0, rfl, (Array.getElem?_eq_some_iff.1 hg).1, ?_⟩⟩
    have := h.cells (g := g) rfl j (.int .u8 (l.getD j 0).toNat) (by simp [List.getD, hl, hj])
    have e : (⟨g, 0, none⟩ : Addr).add j = ⟨g, 0 + j, none⟩ := by unfold Addr.add; split <;> simp_all
    rw [e] at this
    exact this

/-- a new row of the call's own, as a slice of bytes -/
theorem IsBs.new (w : World) (l : List UInt8) (hl : l.length ≤ maxLen) (cs : Array Value) (t : TypeId) (hc : cs = (l.map fun x => Value.int .u8 x.toNat).toArray) : IsBs (w.alloc (.cells cs t)) (some ⟨w.heap.size, 0, none⟩) l.length l.length l := by
  subst hc
  refine ⟨Nat.le_refl _, hl, rfl, fun e => (by cases e), fun j hj => ⟨w.heap.size, 0, rfl, by simp, ?_⟩⟩
  rw [Nat.zero_add, World.cell?_alloc_mark]
  simp [List.getD, hj]

/-- a slice of bytes, as a text -/
theorem conv_bs {w : World} {a : Option Addr} {n cap : Nat} {l : List UInt8} (h : IsBs w a n cap l) :
    Sem.run Try.prog (convert 46 9 (Value.slice a n cap)) w = .ok (.string ⟨l.toArray⟩) w := by
  by_cases h0 : n = 0
  · subst h0
    have e : l = [] := List.eq_nil_of_length_eq_zero h.len
    subst e
    have := run_convert_bytes_string (P := Try.prog) w 46 9 5 a 0 cap Try.underlying46 Try.underlying5 Try.underlying9
    rw [this]
    cases a <;> simp [Conv.bytesToString, loadCells]
    all_goals rfl
  · obtain ⟨b, off, rfl, hb, hc⟩ := h.at' 0 (by omega)
    have hl := h.len
    have := run_convert_bytes_back (P := Try.prog) w 46 9 5 ⟨b, off, none⟩ cap l Try.underlying46 Try.underlying5 Try.underlying9 (fun j hj => by
      obtain ⟨b', off', e, _, hc'⟩ := h.at' j (by omega)
      simp at e
      obtain ⟨rfl, rfl⟩ := e
      have e2 : (⟨b, off, none⟩ : Addr).add j = ⟨b, off + j, none⟩ := by unfold Addr.add; split <;> simp_all
      rw [e2, hc']
      simp [List.getD, hj])
    rw [hl] at this
    exact this
end Go.Proofs.Ytmnihiagkmdepaa
