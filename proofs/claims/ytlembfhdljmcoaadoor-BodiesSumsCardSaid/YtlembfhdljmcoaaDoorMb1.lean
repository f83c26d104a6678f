/-
  Regions that draw their order, walked by hand: one operation at a time, over the list of operations; operations whose run is known.
-/
import Derived.WalkKit
import Derived.Deep.RegionHeld3
import Derived.Laws.Rows
import Derived.Below
import Derived.Test.YtlembfhdljmcoaaDoorRows
import Derived.WalkSpells
import Derived.WalkLawsBesides
import Derived.ProofKit
import Derived.OpenShut
import Derived.DataBytes
import Derived.Lib.Hide
import Derived.Laws.BytesString
import Derived.Laws.IdiomStrings
import Derived.Deep.OwnRows
import Derived.Deep.Draws
import Derived.OwnWalk
import Derived.Laws.OwnMore
import Derived.Deep.MidRow
import Derived.Deep.Slices
import Derived.Handy
import Derived.Laws.NewBlocks
import Derived.Laws.ResultCell
import Derived.Laws.Tables
import Derived.Great.BuildSlice
import Derived.Maps.AppendAt
import Derived.Laws.AppendOwnNone
set_option linter.unusedSimpArgs false
set_option linter.unusedVariables false
namespace Go.Proofs.YtlembfhdljmcoaaDoor
open Go.RowKit

namespace Rg
/-- the operation at a place of a region -/
def nthO : List Oper → Nat → Option Oper
  | [], _ => none
  | o :: _, 0 => some o
  | _ :: l, n + 1 => nthO l n
theorem nthO_eq : ∀ (l : List Oper) (n : Nat), l[n]? = nthO l n
  | [], _ => by simp [nthO]
  | _ :: _, 0 => by simp [nthO]
  | _ :: l, n + 1 => by simpa [nthO] using nthO_eq l n
/-- an operation is taken first that yields its value in every world that meets S -/
theorem takeL {P : Program} {md : Region.Mode} {l : List Oper} {Q : Exit → Act → World → Prop} {S : World → Prop} {i : Nat} {oi : Oper} {v : Value} {fuel : Nat} {listed : Array Bool} {a : Act} {w : World} (hi : nthO l i = some oi)
    (hs : Region.noSelect l.toArray = true) (hf : Region.free md l.toArray listed i = true) (hr : (Region.ready md l.toArray listed).contains i = true)
    (hQ : ∀ c a w, Q (.panic c) (a.put oi.dst v) w → Q (.panic c) a w) (hy : YieldsIf P l.toArray S oi v a) (hS : S w)
    (h : wpAnyH P md l.toArray Q S fuel (listed.setIfInBounds i true) (a.put oi.dst v) w) : wpAnyH P md l.toArray Q S (fuel + 1) listed a w :=
  wpAnyH_take (by rw [List.getElem?_toArray, nthO_eq]; exact hi) hs hf hr hQ hy hS h
/-- the one operation that may come up -/
theorem readyL {P : Program} {md : Region.Mode} {l : List Oper} {Q : Exit → Act → World → Prop} {S : World → Prop} {fuel : Nat} {listed : Array Bool} {a : Act} {w : World} {i : Nat} {o : Oper} (ho : nthO l i = some o)
    (h : ∀ K' : Act → World → Prop, Shut (∀ a w, S w → (S w → wpAnyH P md l.toArray Q S fuel (listed.setIfInBounds i true) a w) → K' a w) → if Region.wanted o (yielded l.toArray a.tmps) = true then Oper.wp P o a w K' Q else K' (a.put o.dst undef) w) : AllReadyH P md l.toArray Q S fuel listed a w [i] :=
  AllReadyH.cons (by rw [List.getElem?_toArray, nthO_eq]; exact ho) h AllReadyH.nil
/-- .. and those that may come up besides -/
theorem readyC {P : Program} {md : Region.Mode} {l : List Oper} {Q : Exit → Act → World → Prop} {S : World → Prop} {fuel : Nat} {listed : Array Bool} {a : Act} {w : World} {i : Nat} {rs : List Nat} {o : Oper} (ho : nthO l i = some o)
    (h : ∀ K' : Act → World → Prop, Shut (∀ a w, S w → (S w → wpAnyH P md l.toArray Q S fuel (listed.setIfInBounds i true) a w) → K' a w) → if Region.wanted o (yielded l.toArray a.tmps) = true then Oper.wp P o a w K' Q else K' (a.put o.dst undef) w)
    (hs : AllReadyH P md l.toArray Q S fuel listed a w rs) : AllReadyH P md l.toArray Q S fuel listed a w (i :: rs) :=
  AllReadyH.cons (by rw [List.getElem?_toArray, nthO_eq]; exact ho) h hs
/-- an operation whose run is known, met -/
theorem meet {P : Program} {o : Oper} {a : Act} {w : World} {K : Act → World → Prop} {Q : Exit → Act → World → Prop} {ops : Array Oper} (hw : Region.wanted o (yielded ops a.tmps) = true) (v : Value) (w' : World)
    (hr : (execOp a.eval o).run P w = .ok (.value v) w') (h : K (a.put o.dst v) w') : if Region.wanted o (yielded ops a.tmps) = true then Oper.wp P o a w K Q else K (a.put o.dst undef) w := by
  rw [if_pos hw]
  unfold Oper.wp
  rw [hr]
  exact h
theorem want {P : Program} {o : Oper} {a : Act} {w : World} {K : Act → World → Prop} {Q : Exit → Act → World → Prop} {ops : Array Oper} (hw : Region.wanted o (yielded ops a.tmps) = true)
    (h : Oper.wp P o a w K Q) : if Region.wanted o (yielded ops a.tmps) = true then Oper.wp P o a w K Q else K (a.put o.dst undef) w := by
  rw [if_pos hw]
  exact h
/-- a block of the call's own, known whole -/
def Own (w : World) (b : Nat) (cs : Array Value) (T : TypeId) : Prop := b < w.heap.size ∧ w.heap[b]? = some (.cells cs T (0, 0))
theorem Own.below {w w' : World} {b : Nat} {cs : Array Value} {T : TypeId} (h : Own w b cs T) (hb : Below w.heap.size w w') : Own w' b cs T :=
  ⟨Nat.lt_of_lt_of_le h.1 hb.size, (hb.block _ h.1).trans h.2⟩
theorem Own.new (w : World) (cs : Array Value) (T : TypeId) : Own (w.alloc (.cells cs T)) w.heap.size cs T :=
  ⟨by simp, by show (w.heap.push _)[w.heap.size]? = _; simp⟩
theorem Own.drew {w : World} {b : Nat} {cs : Array Value} {T : TypeId} (h : Own w b cs T) : Own w.drew b cs T := h
/-- block b alone is turned -/
structure Upd (w : World) (b : Nat) (w' : World) : Prop where
  os : w'.os = w.os
  tape : w'.tape = w.tape
  output : w'.output = w.output
  size : w'.heap.size = w.heap.size
  block : ∀ k, k ≠ b → w'.heap[k]? = w.heap[k]?
theorem Own.upd {w w' : World} {b b' : Nat} {cs : Array Value} {T : TypeId} (h : Own w b cs T) (hu : Upd w b' w') (hne : b ≠ b') : Own w' b cs T :=
  ⟨by rw [hu.size]; exact h.1, (hu.block _ hne).trans h.2⟩
theorem Upd.below {B : Nat} {w0 w w' : World} {b : Nat} (hu : Upd w b w') (h : Below B w0 w) (hB : B ≤ b) : Below B w0 w' :=
  ⟨hu.os.trans h.os, hu.tape.trans h.tape, hu.output.trans h.output, by rw [hu.size]; exact h.size, fun k hk => (hu.block k (by omega)).trans (h.block k hk)⟩
theorem Upd.set (w : World) (b : Nat) (cs : Array Value) : Upd w b (w.setRow b cs) :=
  ⟨rfl, rfl, rfl, by simp, fun k hk => setRow_other w b k cs hk⟩
/-- a block is made: the world behind it is a letter -/
theorem meetAlloc {P : Program} {o : Oper} {a : Act} {w : World} {K : Act → World → Prop} {Q : Exit → Act → World → Prop} {ops : Array Oper} (hw : Region.wanted o (yielded ops a.tmps) = true) {cs : Array Value} {T : TypeId}
    (hr : (execOp a.eval o).run P w = .ok (.value (.pointer (some ⟨w.heap.size, 0, none⟩))) (w.alloc (.cells cs T)))
    (h : ∀ w' b, b = w.heap.size → Own w' b cs T → Below w.heap.size w w' → K (a.put o.dst (.pointer (some ⟨b, 0, none⟩))) w') : if Region.wanted o (yielded ops a.tmps) = true then Oper.wp P o a w K Q else K (a.put o.dst undef) w :=
  meet hw _ _ hr (h _ _ rfl (Own.new _ _ _) ((Below.refl _ _).alloc (Nat.le_refl _) _))
/-- a block of the call's own is written whole -/
theorem meetStore {P : Program} {o : Oper} {a : Act} {w : World} {K : Act → World → Prop} {Q : Exit → Act → World → Prop} {ops : Array Oper} (hw : Region.wanted o (yielded ops a.tmps) = true) {g : Nat} {old : Array Value} {T : TypeId} (hg : Own w g old T)
    (ty : TypeId) (cells : Array Value) (ho : ∃ x y, o.op = .store ty x y ∧ a.eval x = .pointer (some ⟨g, 0, none⟩) ∧ a.eval y = .agg cells)
    (hi : (P.info? ty).map (·.size) = some cells.size) (hold : old.size = cells.size) (h1 : cells.all (·.oneCell') = true)
    (h : ∀ w', Own w' g cells T → Upd w g w' → K (a.put o.dst undef) w') : if Region.wanted o (yielded ops a.tmps) = true then Oper.wp P o a w K Q else K (a.put o.dst undef) w := by
  obtain ⟨x, y, ho, hx, hy⟩ := ho
  exact want hw (wp_store_row ty x y ho g cells hx hy T old hg.2 hi hold h1 (h _ ⟨by simp; exact hg.1, setRow_heap _ _ _ _ _ _ hg.2⟩ (Upd.set _ _ _)))
/-- another S from here on, that says more -/
theorem moreS {P : Program} {md : Region.Mode} {ops : Array Oper} {Q : Exit → Act → World → Prop} {S S' : World → Prop} (hi : ∀ w, S' w → S w) :
    ∀ {fuel : Nat} {listed : Array Bool} {a : Act} {w : World}, wpAnyH P md ops Q S' fuel listed a w → wpAnyH P md ops Q S fuel listed a w
  | 0, _, _, _, h => h
  | _ + 1, _, _, _, h => ⟨h.1, fun i hr => wpOp_mono (fun _ w' h' => ⟨hi w' h'.1, moreS hi h'.2⟩) (h.2 i hr)⟩

/-- an operation whose run is known; one of a guarded place -/
theorem run {P : Program} {w : World} {ops : Array Oper} {rest : List Oper} {o : Oper} {a : Act} {Q : Exit → Act → World → Prop} (hgd : o.guard = none) (v : Value) (w' : World)
    (hr : (execOp a.eval o).run P w = .ok (.value v) w') (h : wpList P ops Q rest (a.put o.dst v) w') : wpList P ops Q (o :: rest) a w :=
  wpList_plain hgd fun K hK => by
    unfold Oper.wp
    rw [hr]
    exact hK _ _ h
theorem runW {P : Program} {w : World} {ops : Array Oper} {rest : List Oper} {o : Oper} {a : Act} {Q : Exit → Act → World → Prop} (hw : Region.wanted o (yielded ops a.tmps) = true) (v : Value) (w' : World)
    (hr : (execOp a.eval o).run P w = .ok (.value v) w') (h : wpList P ops Q rest (a.put o.dst v) w') : wpList P ops Q (o :: rest) a w :=
  wpList_step fun K hK => by
    rw [if_pos hw]
    unfold Oper.wp
    rw [hr]
    exact hK _ _ h
end Rg
end Go.Proofs.YtlembfhdljmcoaaDoor

/-
  Slices of bytes: what one is, as a walk takes it (nil among them); what is kept of it; the text of it.
-/
namespace Go.Proofs.YtlembfhdljmcoaaDoor
open Go.RowKit Go.ChangeShapes Go.WideShapes

/-- a fact that no tactic looks into ('contradiction' looks through Hid, and reckons both sides of a closed equation) -/
def Sec (p : Prop) : Prop := Unit → p
theorem Sec.out {p : Prop} (h : Sec p) : p := h ()
theorem sec {p : Prop} (h : p) : Sec p := fun _ => h

theorem below_drewN {B : Nat} {w w' : World} (h : Below B w w') (q : Nat) : Below B w (w'.drewN q) := ⟨h.os, h.tape, h.output, h.size, h.block⟩

/-- the slice's elements are these bytes -/
def IsBs (w : World) (a : Option Addr) (n cap : Nat) (l : List UInt8) : Prop :=
  n ≤ cap ∧ cap ≤ maxLen ∧ l.length = n ∧ (a = none → cap = 0) ∧ ∀ j, j < n → ∃ b off, a = some ⟨b, off, none⟩ ∧ b < w.heap.size ∧ w.cell? ⟨b, off + j, none⟩ = some (.int .u8 (l.getD j 0).toNat)

namespace IsBs
theorem len {w : World} {a : Option Addr} {n cap : Nat} {l : List UInt8} (h : IsBs w a n cap l) : l.length = n := h.2.2.1
theorem at' {w : World} {a : Option Addr} {n cap : Nat} {l : List UInt8} (h : IsBs w a n cap l) (j : Nat) (hj : j < n) : ∃ b off, a = some ⟨b, off, none⟩ ∧ b < w.heap.size ∧ w.cell? ⟨b, off + j, none⟩ = some (.int .u8 (l.getD j 0).toNat) := h.2.2.2.2 j hj
/-- what keeps all old cells keeps it -/
theorem kept {w w' : World} {a : Option Addr} {n cap : Nat} {l : List UInt8} (h : IsBs w a n cap l) (hs : w.heap.size ≤ w'.heap.size)
    (hc : ∀ b o, b < w.heap.size → w'.cell? ⟨b, o, none⟩ = w.cell? ⟨b, o, none⟩) : IsBs w' a n cap l := by
  refine ⟨h.1, h.2.1, h.2.2.1, h.2.2.2.1, fun j hj => ?_⟩
  obtain ⟨b, off, h1, h2, h3⟩ := h.2.2.2.2 j hj
  exact ⟨b, off, h1, Nat.lt_of_lt_of_le h2 hs, by rw [hc b _ h2]; exact h3⟩
theorem below {w w' : World} {a : Option Addr} {n cap : Nat} {l : List UInt8} (h : IsBs w a n cap l) (hb : Below w.heap.size w w') : IsBs w' a n cap l :=
  h.kept hb.size fun b o hlt => hb.cell (p := ⟨b, o, none⟩) hlt
theorem alloc {w : World} {a : Option Addr} {n cap : Nat} {l : List UInt8} (h : IsBs w a n cap l) (o : Obj) : IsBs (w.alloc o) a n cap l :=
  h.below ((Below.refl _ _).alloc (Nat.le_refl _) _)
theorem grown {w w' : World} {a : Option Addr} {n cap : Nat} {l : List UInt8} (h : IsBs w a n cap l) (hg : w.grownBy w' none) : IsBs w' a n cap l :=
  h.below ((Below.refl _ _).grown hg (Nat.le_refl _) (fun k hk => by cases hk))
theorem drewN {w : World} {a : Option Addr} {n cap : Nat} {l : List UInt8} (h : IsBs w a n cap l) (q : Nat) : IsBs (w.drewN q) a n cap l := h
theorem capNone {w : World} {n cap : Nat} {l : List UInt8} (h : IsBs w none n cap l) : n = 0 ∧ cap = 0 ∧ l = [] := by
  have hc := h.2.2.2.1 rfl
  have h1 := h.1
  have h2 := h.len
  have : n = 0 := by omega
  subst this
  exact ⟨rfl, hc, List.eq_nil_of_length_eq_zero h2⟩
theorem nil (w : World) : IsBs w none 0 0 [] := ⟨Nat.le_refl _, Nat.zero_le _, rfl, fun _ => rfl, fun _ hj => absurd hj (Nat.not_lt_zero _)⟩
end IsBs

/-- a slice of these bytes is handed back; the world is as it was -/
def SameBs (w : World) (l : List UInt8) (e : Ending) (w' : World) : Prop := ∃ a n cap, e = .returned (.slice a n cap) ∧ IsBs w a n cap l ∧ w = w'
/-- a slice of these bytes is handed back; what was there is as it was -/
def GotBs (w : World) (l : List UInt8) (e : Ending) (w' : World) : Prop := ∃ a n cap, e = .returned (.slice a n cap) ∧ IsBs w' a n cap l ∧ Below w.heap.size w w'

/-- a row of the call's own, as a slice of bytes -/
theorem IsBs.ofRow {w : World} {b n : Nat} {f : Nat → Value} {t : TypeId} (l : List UInt8) (hn : n ≤ maxLen) (h : w.rowIs b t n f) (hl : l.length = n) (hf : ∀ j, j < n → f j = .int .u8 (l.getD j 0).toNat) : IsBs w (some ⟨b, 0, none⟩) n n l :=
  ⟨Nat.le_refl _, hn, hl, (fun e => by cases e), fun j hj => ⟨b, 0, rfl, h.lt, by rw [Nat.zero_add, ← hf j hj]; exact h.cell hj⟩⟩
theorem IsBs.ofOwn {w : World} {B : Nat} {t : TypeId} {v : Value} {n : Nat} {l : List UInt8} (h : w.ownsRow B t 1 v n (l.map fun x => Value.int .u8 x.toNat)) : ∃ a cap, v = .slice a n cap ∧ IsBs w a n cap l := by
  have hl : l.length = n := by simpa using h.1
  rcases h.2 with ⟨rfl, hz⟩ | ⟨g, cap, cur, rfl, hbg, hg, hnc, hcm, hcs, htake⟩
  · have e : l = [] := List.eq_nil_of_length_eq_zero (by rw [hl]; exact hz)
    subst e
    subst hz
    exact ⟨none, 0, rfl, IsBs.nil w⟩
  · refine ⟨_, _, rfl, hnc, hcm, hl, fun e => (by cases e), fun j hj => ⟨g, 0, rfl, (Array.getElem?_eq_some_iff.1 hg).1, ?_⟩⟩
    have := h.cells (g := g) rfl j (.int .u8 (l.getD j 0).toNat) (by simp [List.getD, hl, hj])
    have e : (⟨g, 0, none⟩ : Addr).add j = ⟨g, 0 + j, none⟩ := by unfold Addr.add; split <;> simp_all
    rw [e] at this
    exact this

/-- a new row of the call's own, as a slice of bytes -/
theorem IsBs.new (w : World) (l : List UInt8) (hl : l.length ≤ maxLen) (cs : Array Value) (t : TypeId) (hc : cs = (l.map fun x => Value.int .u8 x.toNat).toArray) : IsBs (w.alloc (.cells cs t)) (some ⟨w.heap.size, 0, none⟩) l.length l.length l := by
  subst hc
  refine ⟨Nat.le_refl _, hl, rfl, fun e => (by cases e), fun j hj => ⟨w.heap.size, 0, rfl, by simp, ?_⟩⟩
  rw [Nat.zero_add, World.cell?_alloc_mark]
  simp [List.getD, hj]

/-- a slice of bytes, as a text -/
theorem conv_bs {w : World} {a : Option Addr} {n cap : Nat} {l : List UInt8} (h : IsBs w a n cap l) :
    Sem.run Tryd.prog (convert 66 9 (Value.slice a n cap)) w = .ok (.string ⟨l.toArray⟩) w := by
  by_cases h0 : n = 0
  · subst h0
    have e : l = [] := List.eq_nil_of_length_eq_zero h.len
    subst e
    have := run_convert_bytes_string (P := Tryd.prog) w 66 9 5 a 0 cap Tryd.underlying66 Tryd.underlying5 Tryd.underlying9
    rw [this]
    cases a <;> simp [Conv.bytesToString, loadCells]
    all_goals rfl
  · obtain ⟨b, off, rfl, hb, hc⟩ := h.at' 0 (by omega)
    have hl := h.len
    have := run_convert_bytes_back (P := Tryd.prog) w 66 9 5 ⟨b, off, none⟩ cap l Tryd.underlying66 Tryd.underlying5 Tryd.underlying9 (fun j hj => by
      obtain ⟨b', off', e, _, hc'⟩ := h.at' j (by omega)
      simp at e
      obtain ⟨rfl, rfl⟩ := e
      have e2 : (⟨b, off, none⟩ : Addr).add j = ⟨b, off + j, none⟩ := by unfold Addr.add; split <;> simp_all
      rw [e2, hc']
      simp [List.getD, hj])
    rw [hl] at this
    exact this
end Go.Proofs.YtlembfhdljmcoaaDoor

/-
  Items (texts and lists within one another): what one is in memory, as a walk takes it.
-/
namespace Go.Proofs.YtlembfhdljmcoaaDoor
open Go.RowKit Go.ChangeShapes Go.WideShapes

/-- an item: whether it is a list, its text, its items -/
inductive It where
  | mk (l : Bool) (s : ByteArray) (xs : List It)

namespace It
def l : It → Bool | .mk l _ _ => l
def s : It → ByteArray | .mk _ s _ => s
def xs : It → List It | .mk _ _ xs => xs
theorem eta (x : It) : x = .mk x.l x.s x.xs := by cases x; rfl
theorem ind {P : It → Prop} (h : ∀ l s xs, (∀ y ∈ xs, P y) → P (.mk l s xs)) : ∀ x, P x
  | .mk l s xs => h l s xs (fun y _ => ind h y)
termination_by x => SizeOf.sizeOf x
decreasing_by
  have := List.sizeOf_lt_of_mem ‹y ∈ xs›
  simp
  omega
end It

/-- an item lies there -/
def Lies (w : World) (b o : Nat) (x : It) (A : Option Addr) (N C : Nat) : Prop :=
  w.cell? ⟨b, o, none⟩ = some (.bool x.l) ∧ w.cell? ⟨b, o + 1, none⟩ = some (.string x.s) ∧ w.cell? ⟨b, o + 2, none⟩ = some (.slice A N C)
theorem Lies.stays {B : Nat} {w w' : World} {b o : Nat} {x : It} {A : Option Addr} {N C : Nat} (h : Lies w b o x A N C) (hb : Below B w w') (hlt : b < B) : Lies w' b o x A N C :=
  ⟨by rw [hb.cell (p := ⟨b, _, none⟩) hlt]; exact h.1, by rw [hb.cell (p := ⟨b, _, none⟩) hlt]; exact h.2.1, by rw [hb.cell (p := ⟨b, _, none⟩) hlt]; exact h.2.2⟩

/-- the slice's elements are these items, in such blocks -/
inductive ItsP (p : Nat → Prop) (w : World) : List It → Option Addr → Nat → Nat → Prop
  | mk {xs : List It} {a : Option Addr} {n cap : Nat} (A : Nat → Option Addr) (N C : Nat → Nat) (hl : xs.length = n) (hc : n ≤ cap) (hm : cap ≤ maxLen) (hw : n ≤ 2932031007402) (hn : a = none → cap = 0)
      (h : ∀ (j : Nat) (x : It), xs[j]? = some x → ∃ b off, a = some ⟨b, off, none⟩ ∧ p b ∧ b < w.heap.size ∧ Lies w b (off + j * 3) x (A j) (N j) (C j))
      (hi : ∀ (j : Nat) (x : It), xs[j]? = some x → ItsP p w x.xs (A j) (N j) (C j)) : ItsP p w xs a n cap
/-- .. in blocks from B on -/
abbrev ItsIn (B : Nat) (w : World) (xs : List It) (a : Option Addr) (n cap : Nat) : Prop := ItsP (fun b => B ≤ b) w xs a n cap
/-- .. in whatever blocks -/
abbrev IsIts (w : World) (xs : List It) (a : Option Addr) (n cap : Nat) : Prop := ItsIn 0 w xs a n cap

/-- an item as a value -/
def itV (x : It) (a : Option Addr) (n cap : Nat) : Value := .agg #[.bool x.l, .string x.s, .slice a n cap]
/-- the value is this item -/
def IsIt (w : World) (x : It) (v : Value) : Prop := ∃ a n cap, v = itV x a n cap ∧ IsIts w x.xs a n cap

namespace ItsP
variable {p : Nat → Prop} {w w' : World} {xs : List It} {a : Option Addr} {n cap : Nat}
theorem len (h : ItsP p w xs a n cap) : xs.length = n := by cases h; assumption
theorem le (h : ItsP p w xs a n cap) : n ≤ cap := by cases h; assumption
theorem max (h : ItsP p w xs a n cap) : cap ≤ maxLen := by cases h; assumption
theorem few (h : ItsP p w xs a n cap) : n ≤ 2932031007402 := by cases h; assumption
theorem none' (h : ItsP p w xs a n cap) : a = none → cap = 0 := by cases h; assumption
/-- what keeps the cells keeps the items -/
theorem kept (h : ItsP p w xs a n cap) (hs : w.heap.size ≤ w'.heap.size) (hk : ∀ b o, p b → b < w.heap.size → w'.cell? ⟨b, o, none⟩ = w.cell? ⟨b, o, none⟩) : ItsP p w' xs a n cap := by
  induction h with
  | mk A N C hl hc hm hw hn h hi ih =>
    refine .mk A N C hl hc hm hw hn (fun j x hx => ?_) ih
    obtain ⟨b, off, e, hB, hlt, c0, c1, c2⟩ := h j x hx
    exact ⟨b, off, e, hB, Nat.lt_of_lt_of_le hlt hs, by rw [hk b _ hB hlt, c0], by rw [hk b _ hB hlt, c1], by rw [hk b _ hB hlt, c2]⟩
theorem stays (h : ItsP p w xs a n cap) (hb : Below w.heap.size w w') : ItsP p w' xs a n cap := h.kept hb.size fun b o _ hlt => hb.cell (p := ⟨b, o, none⟩) hlt
theorem to {p' : Nat → Prop} (h : ItsP p w xs a n cap) (hp : ∀ b, b < w.heap.size → p b → p' b) : ItsP p' w xs a n cap := by
  induction h with
  | mk A N C hl hc hm hw hn h hi ih =>
    refine .mk A N C hl hc hm hw hn (fun j x hx => ?_) ih
    obtain ⟨b, off, e, hb, hlt, r⟩ := h j x hx
    exact ⟨b, off, e, hp b hlt hb, hlt, r⟩
theorem at' (h : ItsP p w xs a n cap) (j : Nat) (hj : j < n) : ∃ x b off A N C, xs[j]? = some x ∧ a = some ⟨b, off, none⟩ ∧ b < w.heap.size ∧ Lies w b (off + j * 3) x A N C ∧ ItsP p w x.xs A N C := by
  cases h with
  | mk A N C hl hc hm hw hn h hi =>
    have hx : xs[j]? = some (xs[j]'(by omega)) := List.getElem?_eq_getElem (by omega)
    obtain ⟨b, off, e, _, hlt, hL⟩ := h j _ hx
    exact ⟨_, b, off, A j, N j, C j, hx, e, hlt, hL, hi j _ hx⟩
theorem nil (p : Nat → Prop) (w : World) : ItsP p w [] none 0 0 := .mk (fun _ => none) (fun _ => 0) (fun _ => 0) rfl (Nat.le_refl _) (Nat.zero_le _) (by omega) (fun _ => rfl) (fun _ _ h => by simp at h) (fun _ _ h => by simp at h)
theorem drewN (h : ItsP p w xs a n cap) (q : Nat) : ItsP p (w.drewN q) xs a n cap := h.stays (below_drewN (Below.refl _ _) q)
theorem alloc (h : ItsP p w xs a n cap) (o : Obj) : ItsP p (w.alloc o) xs a n cap := h.stays ((Below.refl _ _).alloc (Nat.le_refl _) _)
end ItsP
namespace ItsIn
variable {B : Nat} {w w' : World} {xs : List It} {a : Option Addr} {n cap : Nat}
theorem kept (h : ItsIn B w xs a n cap) (hs : w.heap.size ≤ w'.heap.size) (hk : ∀ b o, B ≤ b → b < w.heap.size → w'.cell? ⟨b, o, none⟩ = w.cell? ⟨b, o, none⟩) : ItsIn B w' xs a n cap := ItsP.kept h hs hk
theorem weak {B' : Nat} (h : ItsIn B w xs a n cap) (hB : B' ≤ B) : ItsIn B' w xs a n cap := ItsP.to h fun _ _ hb => Nat.le_trans hB hb
theorem nil (B : Nat) (w : World) : ItsIn B w [] none 0 0 := ItsP.nil _ _
end ItsIn
theorem IsIt.stays {w w' : World} {x : It} {v : Value} (h : IsIt w x v) (hb : Below w.heap.size w w') : IsIt w' x v := by
  obtain ⟨a, n, cap, rfl, h⟩ := h
  exact ⟨a, n, cap, rfl, h.stays hb⟩

/-- behind a block of the call's own: what was ahead of it -/
theorem of_al {w wr : World} {o : Obj} (h : Below (w.heap.size + 1) (w.alloc o) wr) : Below w.heap.size w wr := ((Below.refl _ _).alloc (Nat.le_refl _) _).trans (h.mono (Nat.le_succ _))
theorem al_size {w wr : World} {o : Obj} (h : Below (w.heap.size + 1) (w.alloc o) wr) : w.heap.size + 1 ≤ wr.heap.size := by
  have := h.size
  simpa using this
theorem al_size2 {w wr : World} {o o' : Obj} (h : Below (w.heap.size + 2) ((w.alloc o).alloc o') wr) : w.heap.size + 2 ≤ wr.heap.size := by
  have := h.size
  simpa using this
theorem al_of {w wr : World} {o : Obj} (h : Below (w.alloc o).heap.size (w.alloc o) wr) : Below (w.heap.size + 1) (w.alloc o) wr := h.mono (by simp)
theorem al_step {w wr w2 : World} {o : Obj} (h : Below (w.heap.size + 1) (w.alloc o) wr) (h2 : Below wr.heap.size wr w2) : Below (w.heap.size + 1) (w.alloc o) w2 := h.trans (h2.mono (al_size h))

theorem al1 (w : World) (o : Obj) : Below w.heap.size w (w.alloc o) := (Below.refl _ _).alloc (Nat.le_refl _) _
theorem al2 (w : World) (o o' : Obj) : Below w.heap.size w ((w.alloc o).alloc o') := (al1 w o).alloc (by simp) _
theorem below_step {B : Nat} {w w1 w2 : World} (h : Below B w w1) (h2 : Below w1.heap.size w1 w2) (hB : B ≤ w.heap.size) : Below B w w2 := h.trans (h2.mono (Nat.le_trans hB h.size))
theorem below_step' {w w1 w2 : World} (h : Below w.heap.size w w1) (h2 : Below w1.heap.size w1 w2) : Below w.heap.size w w2 := below_step h h2 (Nat.le_refl _)

theorem Lies.range {w : World} {b o : Nat} {x : It} {A : Option Addr} {N C : Nat} (h : Lies w b o x A N C) : w.rangeAt b o [.bool x.l, .string x.s, .slice A N C] := fun i v hv => by
  match i, hv with
  | 0, hv => cases hv; exact h.1
  | 1, hv => cases hv; exact h.2.1
  | 2, hv => cases hv; exact h.2.2
theorem lies_new (w : World) (x : It) (A : Option Addr) (N C : Nat) (t : TypeId) : Lies (w.alloc (.cells #[.bool x.l, .string x.s, .slice A N C] t)) w.heap.size 0 x A N C :=
  ⟨by rw [World.cell?_alloc_mark]; rfl, by rw [World.cell?_alloc_mark]; rfl, by rw [World.cell?_alloc_mark]; rfl⟩
end Go.Proofs.YtlembfhdljmcoaaDoor

/-
  Nodes: what one is in memory, as a walk takes it; how one is made, loaded, stored.
-/
namespace Go.Proofs.YtlembfhdljmcoaaDoor
set_option maxRecDepth 20000
open Go.RowKit

/-- a node: its kind, its path, its value, its references -/
structure Nd where
  kd : Int
  p : List UInt8
  v : ByteArray
  ks : List ByteArray

/-- no bytes -/
abbrev eB : ByteArray := ⟨#[]⟩
/-- no references -/
def zks : List ByteArray := List.replicate 16 eB
theorem zks_length : zks.length = 16 := rfl
/-- the cells of references -/
def kidC (ks : List ByteArray) : Array Value := (ks.map Value.string).toArray
/-- the cells of a node -/
def ndC (N : Nd) (a : Option Addr) (n c : Nat) : Array Value := (Value.int .i64 N.kd :: Value.slice a n c :: Value.string N.v :: N.ks.map Value.string).toArray
/-- nothing -/
def nd0 : Nd := ⟨0, [], eB, zks⟩
/-- a slice of bytes in blocks from B on -/
def BsF (B : Nat) (w : World) (a : Option Addr) (n c : Nat) (l : List UInt8) : Prop := IsBs w a n c l ∧ ∀ ad, a = some ad → B ≤ ad.block
theorem BsF.below {B : Nat} {w w' : World} {a : Option Addr} {n c : Nat} {l : List UInt8} (h : BsF B w a n c l) (hb : Below w.heap.size w w') : BsF B w' a n c l := ⟨h.1.below hb, h.2⟩
theorem BsF.weak {B B' : Nat} {w : World} {a : Option Addr} {n c : Nat} {l : List UInt8} (h : BsF B w a n c l) (hB : B' ≤ B) : BsF B' w a n c l := ⟨h.1, fun ad e => Nat.le_trans hB (h.2 ad e)⟩
theorem BsF.upd {B g : Nat} {w w' : World} {a : Option Addr} {n c : Nat} {l : List UInt8} (h : BsF B w a n c l) (hu : Rg.Upd w g w') (hg : g < B) : BsF B w' a n c l := by
  refine ⟨⟨h.1.1, h.1.2.1, h.1.2.2.1, h.1.2.2.2.1, fun j hj => ?_⟩, h.2⟩
  obtain ⟨b, off, e, hlt, hc⟩ := h.1.2.2.2.2 j hj
  have hB : B ≤ b := h.2 _ e
  exact ⟨b, off, e, by rw [hu.size]; exact hlt, by rw [World.cell?_of_block (hu.block b (by omega))]; exact hc⟩
theorem BsF.row {B g : Nat} {w : World} {a : Option Addr} {n c : Nat} {l : List UInt8} (h : BsF B w a n c l) (hg : g < B) (cs : Array Value) : BsF B (w.setRow g cs) a n c l := h.upd (Rg.Upd.set _ _ _) hg
theorem BsF.nil (B : Nat) (w : World) : BsF B w none 0 0 [] := ⟨IsBs.nil w, fun _ e => by cases e⟩
/-- the value is this node -/
def IsNd (w : World) (N : Nd) (v : Value) : Prop := ∃ a n c, v = .agg (ndC N a n c) ∧ IsBs w a n c N.p ∧ N.ks.length = 16
theorem kidC_size (ks : List ByteArray) : (kidC ks).size = ks.length := by simp [kidC]
theorem ndC_size (N : Nd) (a : Option Addr) (n c : Nat) (h : N.ks.length = 16) : (ndC N a n c).size = 19 := by simp [ndC, h]
theorem kidC_one (ks : List ByteArray) : (kidC ks).all (·.oneCell') = true := by
  rw [Array.all_eq_true]
  intro i hi
  simp [kidC]
  rfl
theorem ndC_one (N : Nd) (a : Option Addr) (n c : Nat) : (ndC N a n c).all (·.oneCell') = true := by
  unfold ndC
  simp [Value.oneCell']
theorem IsNd.stays {w w' : World} {N : Nd} {v : Value} (h : IsNd w N v) (hb : Below w.heap.size w w') : IsNd w' N v := by
  obtain ⟨a, n, c, e, hB, hl⟩ := h
  exact ⟨a, n, c, e, hB.below hb, hl⟩

theorem own_free {w : World} {b j : Nat} {cs : Array Value} {T : TypeId} (h : Rg.Own w b cs T) : w.frozen? ⟨b, j, none⟩ = false := by
  simp [World.frozen?, h.2]

/-- sixteen references, one by one -/
theorem sixteen {α : Type} (l : List α) (h : l.length = 16) : ∃ a b c d e f g i j k m n o p q r, l = [a, b, c, d, e, f, g, i, j, k, m, n, o, p, q, r] := by
  match l, h with
  | [a, b, c, d, e, f, g, i, j, k, m, n, o, p, q, r], _ => exact ⟨_, _, _, _, _, _, _, _, _, _, _, _, _, _, _, _, rfl⟩

theorem run_built {t : TypeId} {parts : Array (Nat × Value)} {l : List (Nat × Value)} {cells : Array Value} (w : World) (hl : parts.toList = l) (h : Tryd.prog.built t l = some cells) : (Instr.build t parts).run Tryd.prog w = .ok (.agg cells) w :=
  run_build w t parts cells (by rw [hl]; exact h)

theorem below_rowN {B : Nat} {w w1 : World} (h : Below B w w1) {g : Nat} (hg : B ≤ g) (cs : Array Value) : Below B w (w1.setRow g cs) :=
  h.trans ⟨rfl, rfl, rfl, by simp, fun k hk => setRow_other w1 g k cs (by omega)⟩

theorem op_build {ev : Operand → Value} {o : Oper} {w : World} {t : TypeId} {l : List (Nat × Value)} {cells : Array Value} (h : Tryd.prog.built t l = some cells) (ho : ∃ ps, o.op = .build t ps ∧ (ps.toList.map fun p => (p.1, ev p.2)) = l) :
    (execOp ev o).run Tryd.prog w = .ok (.value (.agg cells)) w := by
  obtain ⟨ps, ho, hx⟩ := ho
  unfold execOp
  simp only [ho, Sem.run_bind, Sem.run_pure, Result.andThen_ok, run_built w (l := l) (by rw [Array.toList_map]; exact hx) h]
end Go.Proofs.YtlembfhdljmcoaaDoor

/-
  Texts in slices; two texts that are equal.
-/
namespace Go.Proofs.YtlembfhdljmcoaaDoor
set_option maxRecDepth 20000
open Go.RowKit

/-- the slice's elements are these texts -/
def IsSt (w : World) (a : Option Addr) (n cap : Nat) (xs : List ByteArray) : Prop :=
  n ≤ cap ∧ cap ≤ maxLen ∧ xs.length = n ∧ ∀ j, j < n → ∃ b off, a = some ⟨b, off, none⟩ ∧ b < w.heap.size ∧ w.cell? ⟨b, off + j, none⟩ = some (.string (xs.getD j eB))
namespace IsSt
variable {w w' : World} {a : Option Addr} {n cap : Nat} {xs : List ByteArray}
theorem len (h : IsSt w a n cap xs) : xs.length = n := h.2.2.1
theorem at' (h : IsSt w a n cap xs) (j : Nat) (hj : j < n) : ∃ b off, a = some ⟨b, off, none⟩ ∧ b < w.heap.size ∧ w.cell? ⟨b, off + j, none⟩ = some (.string (xs.getD j eB)) := h.2.2.2 j hj
theorem below (h : IsSt w a n cap xs) (hb : Below w.heap.size w w') : IsSt w' a n cap xs := by
  refine ⟨h.1, h.2.1, h.2.2.1, fun j hj => ?_⟩
  obtain ⟨b, off, h1, h2, h3⟩ := h.2.2.2 j hj
  exact ⟨b, off, h1, Nat.lt_of_lt_of_le h2 hb.size, by rw [hb.cell (p := ⟨b, off + j, none⟩) h2]; exact h3⟩
end IsSt
theorem IsSt.ofOwn {w : World} {B : Nat} {t : TypeId} {v : Value} {n : Nat} {xs : List ByteArray} (h : w.ownsRow B t 1 v n (xs.map Value.string)) : ∃ a cap, v = .slice a n cap ∧ IsSt w a n cap xs := by
  have hl : xs.length = n := by simpa using h.1
  rcases h.2 with ⟨rfl, hz⟩ | ⟨g, cap, cur, rfl, hbg, hg, hnc, hcm, hcs, htake⟩
  · subst hz
    exact ⟨none, 0, rfl, Nat.le_refl _, Nat.zero_le _, hl, fun j hj => absurd hj (Nat.not_lt_zero _)⟩
  · refine ⟨_, _, rfl, hnc, hcm, hl, fun j hj => ⟨g, 0, rfl, (Array.getElem?_eq_some_iff.1 hg).1, ?_⟩⟩
    have := h.cells (g := g) rfl j (.string (xs.getD j eB)) (by simp [List.getD, hl, hj])
    rwa [Addr.add_mid] at this
theorem info_st : (Tryd.prog.info? 9).map (fun i => (i.zero, i.size, i.bytes)) = some (some (.string ⟨#[]⟩), 1, 16) := by kernel_rfl
theorem info_st_parts : ∃ i, Tryd.prog.info? 9 = some i ∧ i.zero = some (.string ⟨#[]⟩) ∧ i.size = 1 ∧ i.bytes = 16 := by
  have h := info_st
  cases hi : Tryd.prog.info? 9 with
  | none => rw [hi] at h; simp at h
  | some i =>
    rw [hi] at h
    simp at h
    exact ⟨i, rfl, h.1, h.2.1, h.2.2⟩

namespace Rf
theorem str_eq (a b : ByteArray) : (a.toList == b.toList) = decide (a = b) := by
  by_cases h : a = b
  · subst h; simp
  · rw [decide_eq_false h, beq_eq_false_iff_ne]
    intro e
    apply h
    rw [ByteArray.toList_eq, ByteArray.toList_eq] at e
    apply ByteArray.ext
    exact Array.ext' e
end Rf
end Go.Proofs.YtlembfhdljmcoaaDoor

/-
  Layer 12: rows of who holds which text: plain, in slices; appended to rows of the call's own.
-/
namespace Go.Proofs.YtlembfhdljmcoaaDoor
set_option maxRecDepth 20000
open Go.RowKit

namespace Bd
open Rf
/-- a text that an epoch holds, how often -/
structure Rw where
  e : Int
  n : Int
  s : ByteArray
def rw0 : Rw := ⟨0, 0, eB⟩
theorem Rw.ext' {x y : Rw} (h1 : x.e = y.e) (h2 : x.n = y.n) (h3 : x.s = y.s) : x = y := by
  cases x; cases y; cases h1; cases h2; cases h3; rfl
/-- its cells -/
def rwC (x : Rw) : List Value := [.int .i64 x.e, .int .i64 x.n, .string x.s]
def rwA (x : Rw) : Array Value := #[.int .i64 x.e, .int .i64 x.n, .string x.s]
theorem rwC_one (x : Rw) : ∀ u ∈ rwC x, u.oneCell' = true := fun u hu => by
  simp only [rwC, List.mem_cons, List.not_mem_nil, or_false] at hu
  rcases hu with rfl | rfl | rfl <;> rfl
theorem info_rw : (Tryd.prog.info? 58).map (fun i => (i.size, i.bytes)) = some (3, 32) := by kernel_rfl
theorem info_rw_zero : ((Tryd.prog.info? 58).bind (·.zero)).isSome = true := by kernel_rfl
theorem info_rw_cells : ((Tryd.prog.info? 58).bind (·.zero)).map (·.cells.size) = some 3 := by kernel_rfl
theorem info_rw_parts : ∃ i z, Tryd.prog.info? 58 = some i ∧ i.zero = some z ∧ i.size = 3 ∧ i.bytes = 32 ∧ z.cells.size = 3 := by
  have h1 := info_rw
  have h2 := info_rw_zero
  have h3 := info_rw_cells
  cases hi : Tryd.prog.info? 58 with
  | none => rw [hi] at h1; simp at h1
  | some i =>
    rw [hi] at h1 h2 h3
    simp at h1 h2 h3
    cases hz : i.zero with
    | none => rw [hz] at h2; simp at h2
    | some z =>
      rw [hz] at h3
      simp at h3
      exact ⟨i, z, rfl, hz, h1.1, h1.2, h3⟩
/-- the cells of rows, one behind the other -/
def rowR (l : List Rw) : List Value := l.flatMap rwC
theorem rowR_append (l m : List Rw) : rowR (l ++ m) = rowR l ++ rowR m := by simp [rowR]
theorem rowR_len : ∀ (l : List Rw), (rowR l).length = l.length * 3
  | [] => rfl
  | x :: l => by
    show (rwC x ++ rowR l).length = _
    rw [List.length_append, rowR_len l, List.length_cons]
    show 3 + _ = _
    omega
theorem rowR_at : ∀ (l : List Rw) (j i : Nat), j < l.length → i < 3 → (rowR l)[j * 3 + i]? = (rwC (l.getD j rw0))[i]?
  | [], _, _, h, _ => absurd h (Nat.not_lt_zero _)
  | x :: l, 0, i, _, hi => by
    show (rwC x ++ rowR l)[0 * 3 + i]? = _
    rw [Nat.zero_mul, Nat.zero_add, List.getElem?_append_left (by exact hi)]
    rfl
  | x :: l, j + 1, i, hj, hi => by
    show (rwC x ++ rowR l)[(j + 1) * 3 + i]? = _
    have hx : (rwC x).length = 3 := rfl
    rw [List.getElem?_append_right (by omega), hx, show (j + 1) * 3 + i - 3 = j * 3 + i by omega, rowR_at l j i (by simpa using hj) hi]
    rfl
theorem rowR_one (l : List Rw) : ∀ u ∈ rowR l, u.oneCell' = true := fun u hu => by
  obtain ⟨x, _, h⟩ := List.mem_flatMap.1 hu
  exact rwC_one x u h
/-- the slice's elements are these rows -/
def IsRw (w : World) (a : Option Addr) (n c : Nat) (l : List Rw) : Prop :=
  n ≤ c ∧ c ≤ maxLen ∧ l.length = n ∧ (a = none → c = 0) ∧ ∀ j, j < n → ∃ b off, a = some ⟨b, off, none⟩ ∧ b < w.heap.size ∧ w.cell? ⟨b, off + j * 3, none⟩ = some (.int .i64 (l.getD j rw0).e) ∧
    w.cell? ⟨b, off + j * 3 + 1, none⟩ = some (.int .i64 (l.getD j rw0).n) ∧ w.cell? ⟨b, off + j * 3 + 2, none⟩ = some (.string (l.getD j rw0).s)
theorem IsRw.len {w : World} {a : Option Addr} {n c : Nat} {l : List Rw} (h : IsRw w a n c l) : l.length = n := h.2.2.1
theorem IsRw.at' {w : World} {a : Option Addr} {n c : Nat} {l : List Rw} (h : IsRw w a n c l) (j : Nat) (hj : j < n) : ∃ b off, a = some ⟨b, off, none⟩ ∧ b < w.heap.size ∧ w.cell? ⟨b, off + j * 3, none⟩ = some (.int .i64 (l.getD j rw0).e) ∧
    w.cell? ⟨b, off + j * 3 + 1, none⟩ = some (.int .i64 (l.getD j rw0).n) ∧ w.cell? ⟨b, off + j * 3 + 2, none⟩ = some (.string (l.getD j rw0).s) := h.2.2.2.2 j hj
theorem IsRw.below {w w' : World} {a : Option Addr} {n c : Nat} {l : List Rw} (h : IsRw w a n c l) (hb : Below w.heap.size w w') : IsRw w' a n c l :=
  ⟨h.1, h.2.1, h.2.2.1, h.2.2.2.1, fun j hj => by
    obtain ⟨b, off, e, hlt, h1, h2, h3⟩ := h.2.2.2.2 j hj
    exact ⟨b, off, e, Nat.lt_of_lt_of_le hlt hb.size, (hb.cell (p := ⟨b, _, none⟩) hlt).trans h1, (hb.cell (p := ⟨b, _, none⟩) hlt).trans h2, (hb.cell (p := ⟨b, _, none⟩) hlt).trans h3⟩⟩
theorem IsRw.nil (w : World) : IsRw w none 0 0 [] := ⟨Nat.le_refl _, Nat.zero_le _, rfl, fun _ => rfl, fun _ h => absurd h (Nat.not_lt_zero _)⟩
/-- a row of the call's own -/
def RowW (B : Nat) (w : World) (v : Value) (l : List Rw) : Prop := w.ownsRow B 58 3 v l.length (rowR l)
theorem RowW.nil (B : Nat) (w : World) : RowW B w (.slice none 0 0) [] := World.ownsRow_nil _ _ _ _
theorem IsRw.ofOwn {w : World} {B : Nat} {v : Value} {l : List Rw} (h : RowW B w v l) : ∃ a cap, v = .slice a l.length cap ∧ IsRw w a l.length cap l ∧ ∀ b off, a = some ⟨b, off, none⟩ → B ≤ b ∧ b < w.heap.size := by
  rcases h.2 with ⟨rfl, hz⟩ | ⟨g, cap, cur, rfl, hbg, hg, hnc, hcm, hcs, htake⟩
  · obtain rfl : l = [] := List.eq_nil_of_length_eq_zero hz
    exact ⟨none, 0, rfl, IsRw.nil w, fun _ _ e => (by cases e)⟩
  · refine ⟨_, _, rfl, ⟨hnc, hcm, rfl, fun e => (by cases e), fun j hj => ?_⟩, fun b off e => by injection e with e; injection e with e1 e2; subst e1; exact ⟨hbg, (Array.getElem?_eq_some_iff.1 hg).1⟩⟩
    have hc : ∀ i, i < 3 → ∀ u, (rwC (l.getD j rw0))[i]? = some u → w.cell? ⟨g, 0 + j * 3 + i, none⟩ = some u := fun i hi u hu => by
      have := h.cells (g := g) rfl (j * 3 + i) u (by rw [rowR_at l j i hj hi]; exact hu)
      rw [Addr.add_mid] at this
      rw [Nat.add_assoc]
      exact this
    exact ⟨g, 0, rfl, (Array.getElem?_eq_some_iff.1 hg).1, hc 0 (by decide) _ rfl, hc 1 (by decide) _ rfl, hc 2 (by decide) _ rfl⟩
/-- rows are appended to a row of the call's own -/
theorem wpl_append_rw {ops : Array Oper} {rest : List Oper} {o : Oper} {a : Go.Act} {w : World} {Q : Exit → Go.Act → World → Prop} {B : Nat} {v : Value} {ad : Option Addr} {nx m c : Nat} {xs ys : List Rw} (hgd : o.guard = none) (s x : Operand) (ho : o.op = .call { callee := .builtin .append, args := #[s, x], argTypes := #[26, 26] })
    (hs : a.eval s = v) (hx : a.eval x = .slice ad m c) (hR : w.ownsRow B 58 3 v nx (rowR xs)) (hS : IsRw w ad m c ys) (hn : nx + m ≤ 1000000) (hB : B ≤ w.heap.size)
    (h : ∀ v' w', w'.ownsRow B 58 3 v' (nx + m) (rowR (xs ++ ys)) → w.grownBy w' v.ownBlock → (v'.ownBlock = v.ownBlock ∨ v'.ownBlock = some w.heap.size) → wpList Tryd.prog ops Q rest (a.put o.dst v') w') : wpList Tryd.prog ops Q (o :: rest) a w := by
  obtain ⟨i0, z0, hi, hz, hsz, hby, hzc⟩ := info_rw_parts
  have hl := hS.len
  rcases ad with _ | ad
  · have hc : c = 0 := hS.2.2.2.1 rfl
    have hm : m = 0 := by have := hS.1; omega
    subst hc
    subst hm
    have hy : ys = [] := List.length_eq_zero_iff.1 hl
    subst hy
    refine wpList_append_own_none hgd s x 26 ho B 58 i0 3 Tryd.underlying26 hi v nx (rowR xs) hs hR hx (h v w ?_ ⟨rfl, rfl, rfl, Nat.le_refl _, fun _ _ _ => rfl⟩ (.inl rfl))
    rw [List.append_nil]
    exact hR
  · refine wpList_append_own_at w hgd s x 26 ho B 58 i0 z0 3 32 Tryd.underlying26 hi hz hsz hby hzc (by decide) v nx (rowR xs) hs hR ad m c (rowR ys) hx (by rw [rowR_len ys, hl]) (fun j u hu => ?_) (rowR_one ys) (by unfold maxLen; omega) (by omega) hB (fun v' w' h1 h2 _ h4 => h v' w' ?_ h2 h4)
    · have hj : j < ys.length * 3 := by
        have := (List.getElem?_eq_some_iff.1 hu).1
        rwa [rowR_len ys] at this
      obtain ⟨b, off, e, _, h0, h1, h2⟩ := hS.2.2.2.2 (j / 3) (by omega)
      obtain rfl := Option.some.inj e
      have hk : (rowR ys)[j / 3 * 3 + j % 3]? = (rwC (ys.getD (j / 3) rw0))[j % 3]? := rowR_at ys (j / 3) (j % 3) (by omega) (Nat.mod_lt _ (by decide))
      rw [show j / 3 * 3 + j % 3 = j by omega, hu] at hk
      rw [Addr.add_mid, show off + j = off + j / 3 * 3 + j % 3 by omega]
      have h3 : j % 3 < 3 := Nat.mod_lt _ (by decide)
      obtain ⟨q, hq⟩ : ∃ q, j % 3 = q := ⟨_, rfl⟩
      rw [hq] at hk h3 ⊢
      match q, h3 with
      | 0, _ => exact h0.trans hk.symm
      | 1, _ => exact h1.trans hk.symm
      | 2, _ => exact h2.trans hk.symm
    · rw [rowR_append]
      exact h1
/-- one that lies in a box -/
theorem IsRw.one {w : World} {b : Nat} {x : Rw} {t : TypeId} (h : Rg.Own w b (rwA x) t) : IsRw w (some ⟨b, 0, none⟩) 1 1 [x] := by
  refine ⟨Nat.le_refl _, by unfold maxLen; decide, rfl, fun e => (by cases e), fun j hj => ?_⟩
  obtain rfl : j = 0 := by omega
  have hc : ∀ i u, (rwA x)[i]? = some u → w.cell? ⟨b, i, none⟩ = some u := fun i u hu => by
    rw [cell_of_row w b _ _ _ _ h.2]
    exact hu
  exact ⟨b, 0, rfl, h.1, hc 0 _ rfl, hc 1 _ rfl, hc 2 _ rfl⟩
end Bd
end Go.Proofs.YtlembfhdljmcoaaDoor

/-
  Layer 12, plain: where a row is, rows with a text held once more, once less, of other epochs; all texts.
-/
namespace Go.Proofs.YtlembfhdljmcoaaDoor
set_option maxRecDepth 20000

namespace Bd
open Rf
/-- the row of an epoch and a text -/
def hitR (e : Int) (s : ByteArray) (x : Rw) : Bool := decide (x.e = e) && decide (x.s = s)
theorem hit_iff {e : Int} {s : ByteArray} {x : Rw} : hitR e s x = true ↔ x.e = e ∧ x.s = s := by simp [hitR]
/-- no row ahead of j is it -/
def NoHit (l : List Rw) (e : Int) (s : ByteArray) (j : Nat) : Prop := ∀ q, q < j → hitR e s (l.getD q rw0) = false
theorem NoHit.zero (l : List Rw) (e : Int) (s : ByteArray) : NoHit l e s 0 := fun _ h => absurd h (Nat.not_lt_zero _)
theorem NoHit.step {l : List Rw} {e : Int} {s : ByteArray} {j : Nat} (h : NoHit l e s j) (hj : hitR e s (l.getD j rw0) = false) : NoHit l e s (j + 1) := fun q hq => by
  by_cases e : q = j
  · rw [e]; exact hj
  · exact h q (by omega)
/-- where it is; how many rows there are, if it is nowhere -/
def posR : List Rw → Int → ByteArray → Nat
  | [], _, _ => 0
  | x :: l, e, s => if hitR e s x then 0 else posR l e s + 1
theorem pos_at : ∀ {l : List Rw} {e : Int} {s : ByteArray} {j : Nat}, NoHit l e s j → j < l.length → hitR e s (l.getD j rw0) = true → posR l e s = j
  | [], _, _, _, _, h, _ => absurd h (Nat.not_lt_zero _)
  | x :: l, e, s, 0, _, _, h => by
    have h' : hitR e s x = true := h
    simp [posR, h']
  | x :: l, e, s, j + 1, hn, hj, h => by
    have h0 : hitR e s x = false := hn 0 (Nat.succ_pos _)
    have ih := pos_at (l := l) (e := e) (s := s) (j := j) (fun q hq => by simpa using hn (q + 1) (by omega)) (by simpa using hj) (by simpa using h)
    simp [posR, h0, ih]
theorem pos_none : ∀ {l : List Rw} {e : Int} {s : ByteArray}, NoHit l e s l.length → posR l e s = l.length
  | [], _, _, _ => rfl
  | x :: l, e, s, hn => by
    have h0 : hitR e s x = false := hn 0 (by simp)
    have ih := pos_none (l := l) (e := e) (s := s) (fun q hq => by simpa using hn (q + 1) (by simpa using hq))
    simp [posR, h0, ih]
theorem pos_le : ∀ (l : List Rw) (e : Int) (s : ByteArray), posR l e s ≤ l.length
  | [], _, _ => Nat.le_refl _
  | x :: l, e, s => by
    have := pos_le l e s
    unfold posR
    split
    · exact Nat.zero_le _
    · simp only [List.length_cons]; omega
theorem pos_hit : ∀ {l : List Rw} {e : Int} {s : ByteArray}, posR l e s < l.length → hitR e s (l.getD (posR l e s) rw0) = true
  | [], _, _, h => absurd h (Nat.not_lt_zero _)
  | x :: l, e, s, h => by
    unfold posR at h ⊢
    split
    · rename_i hx; exact hx
    · rename_i hx
      rw [if_neg hx] at h
      simpa using pos_hit (l := l) (e := e) (s := s) (by simpa using h)
theorem pos_lt_iff : ∀ {l : List Rw} {e : Int} {s : ByteArray}, posR l e s < l.length ↔ ∃ x ∈ l, x.e = e ∧ x.s = s
  | [], _, _ => by simp [posR]
  | x :: l, e, s => by
    have ih := pos_lt_iff (l := l) (e := e) (s := s)
    unfold posR
    by_cases hx : hitR e s x = true
    · rw [if_pos hx]
      exact ⟨fun _ => ⟨x, List.mem_cons_self, hit_iff.1 hx⟩, fun _ => by simp⟩
    · rw [if_neg hx]
      simp only [List.length_cons, List.mem_cons]
      constructor
      · intro h
        obtain ⟨y, hy, hh⟩ := ih.1 (by omega)
        exact ⟨y, .inr hy, hh⟩
      · rintro ⟨y, rfl | hy, hh⟩
        · exact absurd (hit_iff.2 hh) hx
        · have := ih.2 ⟨y, hy, hh⟩
          omega
/-- what Find tells -/
def findR (l : List Rw) (e : Int) (s : ByteArray) : Int := if posR l e s < l.length then posR l e s else -1
/-- held once more -/
def putR (l : List Rw) (e : Int) (s : ByteArray) : List Rw :=
  if posR l e s < l.length then l.set (posR l e s) { l.getD (posR l e s) rw0 with n := (l.getD (posR l e s) rw0).n + 1 } else l ++ [⟨e, 1, s⟩]
/-- held once less -/
def lessR (e : Int) (s : ByteArray) (x : Rw) : Rw := if hitR e s x then { x with n := x.n - 1 } else x
def keptR (x : Rw) : List Rw := if 0 < x.n then [x] else []
def freeR (l : List Rw) (e : Int) (s : ByteArray) : List Rw := l.flatMap fun x => keptR (lessR e s x)
/-- of other epochs -/
def dropR (l : List Rw) (e : Int) : List Rw := l.filter fun x => decide (x.e ≠ e)
/-- all texts, each once -/
def hasT (acc : List ByteArray) (s : ByteArray) : Bool := acc.any fun t => decide (t = s)
theorem has_iff {acc : List ByteArray} {s : ByteArray} : hasT acc s = true ↔ s ∈ acc := by simp [hasT]
def addT (acc : List ByteArray) (s : ByteArray) : List ByteArray := if hasT acc s then acc else acc ++ [s]
def textsR (l : List Rw) : List ByteArray := l.foldl (fun acc x => addT acc x.s) []
theorem take_row {l : List Rw} {j : Nat} (h : j < l.length) : l.take (j + 1) = l.take j ++ [l.getD j rw0] := by
  have e : l.getD j rw0 = l[j] := by simp [List.getD, h]
  rw [List.take_succ_eq_append_getElem h, e]
theorem free_snoc {l : List Rw} {e : Int} {s : ByteArray} {j : Nat} (h : j < l.length) : freeR (l.take (j + 1)) e s = freeR (l.take j) e s ++ keptR (lessR e s (l.getD j rw0)) := by
  rw [take_row h]; simp [freeR]
theorem drop_snoc {l : List Rw} {e : Int} {j : Nat} (h : j < l.length) : dropR (l.take (j + 1)) e = dropR (l.take j) e ++ (if (l.getD j rw0).e ≠ e then [l.getD j rw0] else []) := by
  rw [take_row h]
  unfold dropR
  rw [List.filter_append]
  congr 1
  by_cases hx : (l.getD j rw0).e = e
  · rw [if_neg (fun k => k hx), List.filter_cons_of_neg (by simp only [ne_eq, hx, not_true_eq_false, decide_false]; decide), List.filter_nil]
  · rw [if_pos hx, List.filter_cons_of_pos (by simp only [ne_eq, hx, not_false_eq_true, decide_true]), List.filter_nil]
theorem texts_snoc {l : List Rw} {j : Nat} (h : j < l.length) : textsR (l.take (j + 1)) = addT (textsR (l.take j)) (l.getD j rw0).s := by
  rw [take_row h]; simp [textsR]
theorem free_len (l : List Rw) (e : Int) (s : ByteArray) : (freeR l e s).length ≤ l.length := by
  induction l with
  | nil => exact Nat.le_refl _
  | cons x l ih =>
    show (keptR (lessR e s x) ++ freeR l e s).length ≤ _
    rw [List.length_append, List.length_cons]
    have : (keptR (lessR e s x)).length ≤ 1 := by unfold keptR; split <;> simp
    omega
theorem drop_len (l : List Rw) (e : Int) : (dropR l e).length ≤ l.length := List.length_filter_le _ _
theorem add_len (acc : List ByteArray) (s : ByteArray) : (addT acc s).length ≤ acc.length + 1 := by
  unfold addT
  split
  · omega
  · simp
theorem texts_len : ∀ (l : List Rw) (j : Nat), j ≤ l.length → (textsR (l.take j)).length ≤ j
  | l, 0, _ => by simp [textsR]
  | l, j + 1, h => by
    rw [texts_snoc (by omega)]
    have := texts_len l j (by omega)
    have := add_len (textsR (l.take j)) (l.getD j rw0).s
    omega
theorem put_len (l : List Rw) (e : Int) (s : ByteArray) : (putR l e s).length ≤ l.length + 1 := by
  unfold putR
  split
  · rw [List.length_set]; omega
  · simp
/-- what texts there are -/
theorem mem_add {acc : List ByteArray} {s t : ByteArray} : t ∈ addT acc s ↔ t ∈ acc ∨ t = s := by
  unfold addT
  split
  · rename_i h
    exact ⟨.inl, fun g => g.elim id fun e => e ▸ has_iff.1 h⟩
  · simp
theorem mem_fold (t : ByteArray) : ∀ (l : List Rw) (acc : List ByteArray), t ∈ l.foldl (fun acc x => addT acc x.s) acc ↔ t ∈ acc ∨ ∃ x ∈ l, x.s = t
  | [], acc => by simp
  | x :: l, acc => by
    rw [List.foldl_cons, mem_fold t l, mem_add]
    constructor
    · rintro ((h | rfl) | ⟨y, hy, hh⟩)
      · exact .inl h
      · exact .inr ⟨x, List.mem_cons_self, rfl⟩
      · exact .inr ⟨y, List.mem_cons_of_mem _ hy, hh⟩
    · rintro (h | ⟨y, hy, hh⟩)
      · exact .inl (.inl h)
      · rcases List.mem_cons.1 hy with rfl | hy
        · exact .inl (.inr hh.symm)
        · exact .inr ⟨y, hy, hh⟩
theorem mem_texts {l : List Rw} {t : ByteArray} : t ∈ textsR l ↔ ∃ x ∈ l, x.s = t := by
  unfold textsR
  rw [mem_fold]
  simp
theorem nodup_add {acc : List ByteArray} {s : ByteArray} (h : acc.Nodup) : (addT acc s).Nodup := by
  unfold addT
  split
  · exact h
  · rename_i hs
    rw [List.nodup_append]
    refine ⟨h, by simp, fun a ha b hb => ?_⟩
    rw [List.mem_singleton] at hb
    rintro rfl
    exact hs (has_iff.2 (hb ▸ ha))
theorem nodup_fold : ∀ (l : List Rw) (acc : List ByteArray), acc.Nodup → (l.foldl (fun acc x => addT acc x.s) acc).Nodup
  | [], _, h => h
  | x :: l, acc, h => by
    rw [List.foldl_cons]
    exact nodup_fold l _ (nodup_add h)
theorem nodup_texts (l : List Rw) : (textsR l).Nodup := nodup_fold l [] List.nodup_nil
end Bd
end Go.Proofs.YtlembfhdljmcoaaDoor

/-
  Layer 12, plain: how often an epoch holds a text, behind each call.
-/
namespace Go.Proofs.YtlembfhdljmcoaaDoor
set_option maxRecDepth 20000

namespace Bd
open Rf
/-- how often an epoch holds a text -/
def cntR : List Rw → Int → ByteArray → Int
  | [], _, _ => 0
  | x :: l, e, s => (if hitR e s x then x.n else 0) + cntR l e s
/-- rows as they are kept: each holds at least once, and no two are of one epoch and one text -/
structure OkR (l : List Rw) : Prop where
  n : ∀ x ∈ l, 1 ≤ x.n
  u : l.Pairwise fun x y => ¬ (x.e = y.e ∧ x.s = y.s)
theorem OkR.nil : OkR [] := ⟨fun _ h => (by cases h), List.Pairwise.nil⟩
theorem OkR.tail {x : Rw} {l : List Rw} (h : OkR (x :: l)) : OkR l := ⟨fun y hy => h.n y (List.mem_cons_of_mem _ hy), (List.pairwise_cons.1 h.u).2⟩
theorem OkR.head {x : Rw} {l : List Rw} (h : OkR (x :: l)) {y : Rw} (hy : y ∈ l) : ¬ (x.e = y.e ∧ x.s = y.s) := (List.pairwise_cons.1 h.u).1 y hy
theorem cnt_nonneg : ∀ {l : List Rw}, (∀ x ∈ l, 1 ≤ x.n) → ∀ e s, 0 ≤ cntR l e s
  | [], _, _, _ => Int.le_refl _
  | x :: l, h, e, s => by
    have ih := cnt_nonneg (l := l) (fun y hy => h y (List.mem_cons_of_mem _ hy)) e s
    have hx := h x List.mem_cons_self
    unfold cntR
    split <;> omega
theorem cnt_pos : ∀ {l : List Rw}, (∀ x ∈ l, 1 ≤ x.n) → ∀ {e s}, 0 < cntR l e s ↔ ∃ x ∈ l, x.e = e ∧ x.s = s
  | [], _, e, s => by simp [cntR]
  | x :: l, h, e, s => by
    have hl : ∀ y ∈ l, 1 ≤ y.n := fun y hy => h y (List.mem_cons_of_mem _ hy)
    have ih := cnt_pos (l := l) hl (e := e) (s := s)
    have h0 := cnt_nonneg hl e s
    have hx := h x List.mem_cons_self
    unfold cntR
    by_cases g : hitR e s x = true
    · rw [if_pos g]
      exact ⟨fun _ => ⟨x, List.mem_cons_self, hit_iff.1 g⟩, fun _ => by omega⟩
    · rw [if_neg g, Int.zero_add]
      rw [ih]
      constructor
      · rintro ⟨y, hy, hh⟩
        exact ⟨y, List.mem_cons_of_mem _ hy, hh⟩
      · rintro ⟨y, hy, hh⟩
        rcases List.mem_cons.1 hy with rfl | hy
        · exact absurd (hit_iff.2 hh) g
        · exact ⟨y, hy, hh⟩
theorem cnt_none {l : List Rw} {e : Int} {s : ByteArray} (h : ∀ x ∈ l, ¬ (x.e = e ∧ x.s = s)) : cntR l e s = 0 := by
  induction l with
  | nil => rfl
  | cons x l ih =>
    unfold cntR
    rw [if_neg (fun g => h x List.mem_cons_self (hit_iff.1 g)), ih fun y hy => h y (List.mem_cons_of_mem _ hy)]
    rfl
theorem find_iff {l : List Rw} (h : ∀ x ∈ l, 1 ≤ x.n) {e : Int} {s : ByteArray} : findR l e s < 0 ↔ cntR l e s = 0 := by
  have h0 := cnt_nonneg h e s
  have h1 := cnt_pos h (e := e) (s := s)
  have h2 := pos_lt_iff (l := l) (e := e) (s := s)
  unfold findR
  by_cases g : posR l e s < l.length
  · rw [if_pos g]
    have := h1.2 (h2.1 g)
    omega
  · rw [if_neg g]
    have : ¬ 0 < cntR l e s := fun k => g (h2.2 (h1.1 k))
    omega
/-- put, row by row -/
theorem put_nil (e : Int) (s : ByteArray) : putR [] e s = [⟨e, 1, s⟩] := by simp [putR, posR]
theorem put_cons (x : Rw) (l : List Rw) (e : Int) (s : ByteArray) : putR (x :: l) e s = if hitR e s x then { x with n := x.n + 1 } :: l else x :: putR l e s := by
  unfold putR
  by_cases g : hitR e s x = true
  · have hp : posR (x :: l) e s = 0 := by simp [posR, g]
    rw [if_pos g, hp, if_pos (by simp)]
    rfl
  · have hp : posR (x :: l) e s = posR l e s + 1 := by simp [posR, g]
    rw [if_neg g, hp]
    by_cases k : posR l e s < l.length
    · rw [if_pos (by simpa using k), if_pos k]
      rfl
    · rw [if_neg (by simpa using k), if_neg k]
      rfl
theorem cnt_put (e : Int) (s : ByteArray) (e' : Int) (s' : ByteArray) : ∀ l : List Rw, cntR (putR l e s) e' s' = cntR l e' s' + if e' = e ∧ s' = s then 1 else 0
  | [] => by
    show (if hitR e' s' ⟨e, 1, s⟩ then (1 : Int) else 0) + 0 = 0 + _
    by_cases g : e' = e ∧ s' = s
    · rw [if_pos g, if_pos (hit_iff.2 ⟨g.1.symm, g.2.symm⟩)]
      rfl
    · rw [if_neg g, if_neg (fun k => g ⟨(hit_iff.1 k).1.symm, (hit_iff.1 k).2.symm⟩)]
  | x :: l => by
    rw [put_cons]
    by_cases g : hitR e s x = true
    · rw [if_pos g]
      obtain ⟨h1, h2⟩ := hit_iff.1 g
      unfold cntR
      by_cases k : e' = e ∧ s' = s
      · have hk : hitR e' s' x = true := hit_iff.2 ⟨h1.trans k.1.symm, h2.trans k.2.symm⟩
        have hk' : hitR e' s' { x with n := x.n + 1 } = true := hk
        rw [if_pos k, if_pos hk, if_pos hk']
        show x.n + 1 + _ = _
        omega
      · have hk : ¬ hitR e' s' x = true := fun q => k ⟨(hit_iff.1 q).1.symm.trans h1, (hit_iff.1 q).2.symm.trans h2⟩
        have hk' : ¬ hitR e' s' { x with n := x.n + 1 } = true := hk
        rw [if_neg k, if_neg hk, if_neg hk']
        omega
    · rw [if_neg g]
      have ih := cnt_put e s e' s' l
      show (if hitR e' s' x then x.n else 0) + cntR (putR l e s) e' s' = (if hitR e' s' x then x.n else 0) + cntR l e' s' + _
      rw [ih]
      omega
theorem mem_put {e : Int} {s : ByteArray} : ∀ {l : List Rw} {y : Rw}, y ∈ putR l e s → (∃ x ∈ l, y.e = x.e ∧ y.s = x.s ∧ x.n ≤ y.n) ∨ y = ⟨e, 1, s⟩
  | [], y, h => .inr (by rw [put_nil] at h; exact List.mem_singleton.1 h)
  | x :: l, y, h => by
    rw [put_cons] at h
    by_cases g : hitR e s x = true
    · rw [if_pos g] at h
      rcases List.mem_cons.1 h with rfl | h
      · exact .inl ⟨x, List.mem_cons_self, rfl, rfl, by show x.n ≤ x.n + 1; omega⟩
      · exact .inl ⟨y, List.mem_cons_of_mem _ h, rfl, rfl, Int.le_refl _⟩
    · rw [if_neg g] at h
      rcases List.mem_cons.1 h with rfl | h
      · exact .inl ⟨y, List.mem_cons_self, rfl, rfl, Int.le_refl _⟩
      · rcases mem_put h with ⟨z, hz, hh⟩ | hh
        · exact .inl ⟨z, List.mem_cons_of_mem _ hz, hh⟩
        · exact .inr hh
theorem OkR.put {e : Int} {s : ByteArray} : ∀ {l : List Rw}, OkR l → OkR (putR l e s)
  | [], _ => by
    rw [put_nil]
    exact ⟨fun x hx => by rw [List.mem_singleton.1 hx]; exact Int.le_refl _, List.pairwise_singleton _ _⟩
  | x :: l, h => by
    rw [put_cons]
    by_cases g : hitR e s x = true
    · rw [if_pos g]
      refine ⟨fun y hy => ?_, List.pairwise_cons.2 ⟨fun y hy => h.head hy, (List.pairwise_cons.1 h.u).2⟩⟩
      rcases List.mem_cons.1 hy with rfl | hy
      · have := h.n x List.mem_cons_self
        show 1 ≤ x.n + 1
        omega
      · exact h.n y (List.mem_cons_of_mem _ hy)
    · rw [if_neg g]
      have ih := OkR.put (e := e) (s := s) h.tail
      refine ⟨fun y hy => ?_, List.pairwise_cons.2 ⟨fun y hy => ?_, ih.u⟩⟩
      · rcases List.mem_cons.1 hy with rfl | hy
        · exact h.n y List.mem_cons_self
        · exact ih.n y hy
      · rcases mem_put hy with ⟨z, hz, h1, h2, _⟩ | rfl
        · rw [h1, h2]; exact h.head hz
        · exact fun k => g (hit_iff.2 k)
/-- free -/
theorem free_cons (x : Rw) (l : List Rw) (e : Int) (s : ByteArray) : freeR (x :: l) e s = keptR (lessR e s x) ++ freeR l e s := rfl
theorem mem_free {e : Int} {s : ByteArray} : ∀ {l : List Rw} {y : Rw}, y ∈ freeR l e s → 0 < y.n ∧ ∃ x ∈ l, y = lessR e s x
  | [], _, h => by cases h
  | x :: l, y, h => by
    rw [free_cons] at h
    rcases List.mem_append.1 h with h | h
    · unfold keptR at h
      split at h
      · rename_i hp
        obtain rfl := List.mem_singleton.1 h
        exact ⟨hp, x, List.mem_cons_self, rfl⟩
      · cases h
    · obtain ⟨h1, z, hz, hh⟩ := mem_free h
      exact ⟨h1, z, List.mem_cons_of_mem _ hz, hh⟩
theorem less_e (e : Int) (s : ByteArray) (x : Rw) : (lessR e s x).e = x.e := by unfold lessR; split <;> rfl
theorem less_s (e : Int) (s : ByteArray) (x : Rw) : (lessR e s x).s = x.s := by unfold lessR; split <;> rfl
theorem cnt_append (l m : List Rw) (e : Int) (s : ByteArray) : cntR (l ++ m) e s = cntR l e s + cntR m e s := by
  induction l with
  | nil => simp [cntR]
  | cons x l ih =>
    show (if hitR e s x then x.n else 0) + cntR (l ++ m) e s = (if hitR e s x then x.n else 0) + cntR l e s + _
    rw [ih]
    omega
theorem OkR.free {e : Int} {s : ByteArray} : ∀ {l : List Rw}, OkR l → OkR (freeR l e s)
  | [], _ => OkR.nil
  | x :: l, h => by
    have ih := OkR.free (e := e) (s := s) h.tail
    refine ⟨fun y hy => by have := (mem_free hy).1; omega, ?_⟩
    rw [free_cons]
    unfold keptR
    split
    · refine List.pairwise_cons.2 ⟨fun y hy => ?_, ih.u⟩
      obtain ⟨_, z, hz, rfl⟩ := mem_free hy
      rw [less_e, less_s, less_e, less_s]
      exact h.head hz
    · exact ih.u
theorem cnt_free (e : Int) (s : ByteArray) (e' : Int) (s' : ByteArray) : ∀ {l : List Rw}, OkR l → cntR (freeR l e s) e' s' = cntR l e' s' - if (e' = e ∧ s' = s) ∧ 0 < cntR l e s then 1 else 0
  | [], _ => by simp [freeR, cntR]
  | x :: l, h => by
    have ih := cnt_free e s e' s' h.tail
    have hx := h.n x List.mem_cons_self
    rw [free_cons, cnt_append, ih]
    have hk : cntR (keptR (lessR e s x)) e' s' = if hitR e' s' x then (lessR e s x).n else 0 := by
      have hh : hitR e' s' (lessR e s x) = hitR e' s' x := by unfold hitR; rw [less_e, less_s]
      unfold keptR
      by_cases p : 0 < (lessR e s x).n
      · rw [if_pos p]
        show (if hitR e' s' (lessR e s x) then (lessR e s x).n else 0) + 0 = _
        rw [hh, Int.add_zero]
      · rw [if_neg p]
        have : (lessR e s x).n = 0 := by
          unfold lessR at p ⊢
          split at p
          · rename_i q
            rw [if_pos q]
            show x.n - 1 = 0
            have : ¬ 0 < x.n - 1 := p
            omega
          · omega
        rw [this]
        show (0 : Int) = _
        split <;> rfl
    rw [hk]
    by_cases g : hitR e s x = true
    · obtain ⟨h1, h2⟩ := hit_iff.1 g
      have hn : cntR l e s = 0 := cnt_none fun y hy k => h.head hy ⟨h1.trans k.1.symm, h2.trans k.2.symm⟩
      have hless : (lessR e s x).n = x.n - 1 := by unfold lessR; rw [if_pos g]
      have hc : cntR (x :: l) e s = x.n := by
        unfold cntR
        rw [if_pos g, hn, Int.add_zero]
      rw [hn, hc, hless]
      show _ = (if hitR e' s' x then x.n else 0) + cntR l e' s' - _
      by_cases k : e' = e ∧ s' = s
      · have hk' : hitR e' s' x = true := hit_iff.2 ⟨h1.trans k.1.symm, h2.trans k.2.symm⟩
        rw [if_pos hk', if_pos hk', if_pos (show (e' = e ∧ s' = s) ∧ 0 < x.n from ⟨k, by omega⟩), if_neg (show ¬ ((e' = e ∧ s' = s) ∧ (0 : Int) < 0) from fun q => absurd q.2 (by decide))]
        omega
      · have hk' : ¬ hitR e' s' x = true := fun q => k ⟨(hit_iff.1 q).1.symm.trans h1, (hit_iff.1 q).2.symm.trans h2⟩
        rw [if_neg hk', if_neg hk', if_neg (fun q => k q.1), if_neg (fun q => k q.1)]
        omega
    · have hless : lessR e s x = x := by unfold lessR; rw [if_neg g]
      have hc : cntR (x :: l) e s = cntR l e s := by
        show (if hitR e s x then x.n else 0) + _ = _
        rw [if_neg g, Int.zero_add]
      rw [hless, hc]
      show _ = (if hitR e' s' x then x.n else 0) + cntR l e' s' - _
      omega
/-- drop -/
theorem mem_drop {l : List Rw} {e : Int} {y : Rw} : y ∈ dropR l e ↔ y ∈ l ∧ y.e ≠ e := by simp [dropR]
theorem OkR.drop {l : List Rw} {e : Int} (h : OkR l) : OkR (dropR l e) := ⟨fun x hx => h.n x (mem_drop.1 hx).1, List.Pairwise.sublist List.filter_sublist h.u⟩
theorem cnt_drop (e e' : Int) (s' : ByteArray) : ∀ l : List Rw, cntR (dropR l e) e' s' = if e' = e then 0 else cntR l e' s'
  | [] => by simp [dropR, cntR]
  | x :: l => by
    have ih := cnt_drop e e' s' l
    have hd : dropR (x :: l) e = if x.e = e then dropR l e else x :: dropR l e := by
      unfold dropR
      by_cases g : x.e = e
      · rw [if_pos g, List.filter_cons_of_neg (by simp [g])]
      · rw [if_neg g, List.filter_cons_of_pos (by simp [g])]
    rw [hd]
    show _ = if e' = e then 0 else (if hitR e' s' x then x.n else 0) + cntR l e' s'
    by_cases g : x.e = e
    · rw [if_pos g, ih]
      by_cases k : e' = e
      · rw [if_pos k, if_pos k]
      · rw [if_neg k, if_neg k, if_neg (fun q => k ((hit_iff.1 q).1.symm.trans g)), Int.zero_add]
    · rw [if_neg g]
      show (if hitR e' s' x then x.n else 0) + cntR (dropR l e) e' s' = _
      rw [ih]
      by_cases k : e' = e
      · rw [if_pos k, if_pos k, if_neg (fun q => g ((hit_iff.1 q).1.trans k))]
        rfl
      · rw [if_neg k, if_neg k]
/-- which texts there are, which epochs hold something -/
theorem texts_cnt {l : List Rw} (h : OkR l) {t : ByteArray} : t ∈ textsR l ↔ ∃ e, 0 < cntR l e t := by
  rw [mem_texts]
  constructor
  · rintro ⟨x, hx, rfl⟩
    exact ⟨x.e, (cnt_pos h.n).2 ⟨x, hx, rfl, rfl⟩⟩
  · rintro ⟨e, he⟩
    obtain ⟨x, hx, _, hs⟩ := (cnt_pos h.n).1 he
    exact ⟨x, hx, hs⟩
theorem epoch_cnt {l : List Rw} (h : OkR l) {e : Int} : (∃ x ∈ l, x.e = e) ↔ ∃ s, 0 < cntR l e s := by
  constructor
  · rintro ⟨x, hx, rfl⟩
    exact ⟨x.s, (cnt_pos h.n).2 ⟨x, hx, rfl, rfl⟩⟩
  · rintro ⟨s, he⟩
    obtain ⟨x, hx, hh, _⟩ := (cnt_pos h.n).1 he
    exact ⟨x, hx, hh⟩
/-- an epoch that holds something, by how many rows others have -/
theorem drop_same {l : List Rw} {e : Int} : (dropR l e).length = l.length ↔ ∀ x ∈ l, x.e ≠ e := by
  unfold dropR
  rw [List.length_filter_eq_length_iff]
  simp
end Bd
end Go.Proofs.YtlembfhdljmcoaaDoor

/-
  Layer 12: the contracts of the plain answers' Find, Drop.
-/
namespace Go.Proofs.YtlembfhdljmcoaaDoor
set_option maxRecDepth 20000
open Go.RowKit

namespace Bd
open Rf
set_option maxHeartbeats 4000000 in
theorem rfind_any (l : List Rw) (a : Option Addr) (n c : Nat) (e : Int) (s : ByteArray) (w : World) (h : IsRw w a n c l) :
    Calls Tryd.prog 7 #[.slice a n c, .int .i64 e, .string s] w fun en w' => en = .returned (.int .i64 (findR l e s)) ∧ w = w' := by
  have hm := h.2.1
  have hnc := h.1
  have hl := h.len
  unfold maxLen at hm
  have H := Lib.hid h
  have HL := Lib.hid hl
  clear h hl
  go_enter Tryd.func7, Tryd.ntmps7
  go_wp2
  go_loop [7] (fun i => ∃ j : Nat, j ≤ n ∧ i = .int .i64 j ∧ Hid (NoHit l e s j)) (fun i => n - (intOf i).toNat)
  case atStart => exact ⟨0, Nat.zero_le _, rfl, Lib.hid (NoHit.zero l e s)⟩
  case round =>
    obtain ⟨j, hj, rfl, HJ⟩ := hrel
    by_cases hlt : j < n
    · obtain ⟨b, off, rfl, hblt, c0, c1, c2⟩ := H.out.at' j hlt
      have HK : Hid (j < l.length) := Lib.hid (by rw [HL.out]; exact hlt)
      have HS : Hid (hitR e s (l.getD j rw0) = false → NoHit l e s (j + 1)) := Lib.hid fun g => HJ.out.step g
      have HF : Hid (hitR e s (l.getD j rw0) = true → findR l e s = (j : Int)) := Lib.hid fun g => by
        have := pos_at HJ.out HK.out g
        unfold findR
        rw [this, if_pos HK.out]
      obtain ⟨x, hx⟩ : ∃ x, l.getD j rw0 = x := ⟨_, rfl⟩
      rw [hx] at c0 c1 c2 HS HF
      clear hx HJ
      by_cases h1 : x.e = e
      · have q1 : (x.e == e) = true := by simpa using h1
        have q1' : decide (x.e = e) = true := decide_eq_true h1
        by_cases h2 : x.s = s
        · have q2 : (x.s.toList == s.toList) = true := by rw [str_eq, decide_eq_true h2]
          have HF' : Hid (findR l e s = (j : Int)) := Lib.hid (HF.out (hit_iff.2 ⟨h1, h2⟩))
          clear HF HS
          obtain ⟨xe, hxe⟩ : ∃ xe, x.e = xe := ⟨_, rfl⟩
          obtain ⟨xs, hxs⟩ : ∃ xs, x.s = xs := ⟨_, rfl⟩
          rw [hxe] at c0 q1 q1'
          rw [hxs] at c2 q2
          clear h1 h2 hxe hxs
          go_wp2
          go_ret
          exact ⟨by rw [HF'.out]; rfl, rfl⟩
        · have q2 : (x.s.toList == s.toList) = false := by rw [str_eq, decide_eq_false h2]
          have HS' : Hid (NoHit l e s (j + 1)) := Lib.hid (HS.out (by rw [← Bool.not_eq_true, hit_iff]; exact fun k => h2 k.2))
          clear HF HS
          obtain ⟨xe, hxe⟩ : ∃ xe, x.e = xe := ⟨_, rfl⟩
          obtain ⟨xs, hxs⟩ : ∃ xs, x.s = xs := ⟨_, rfl⟩
          rw [hxe] at c0 q1 q1'
          rw [hxs] at c2 q2
          clear h1 h2 hxe hxs
          go_wp2
          go_round
          case rel => exact ⟨j + 1, by omega, by go_num, HS'⟩
          case measure => simp [intOf]; omega
      · have q1 : (x.e == e) = false := by simpa using h1
        have q1' : decide (x.e = e) = false := decide_eq_false h1
        have HS' : Hid (NoHit l e s (j + 1)) := Lib.hid (HS.out (by rw [← Bool.not_eq_true, hit_iff]; exact fun k => h1 k.1))
        clear HF HS
        obtain ⟨xe, hxe⟩ : ∃ xe, x.e = xe := ⟨_, rfl⟩
        rw [hxe] at c0 q1 q1'
        clear h1 hxe
        go_wp2
        go_round
        case rel => exact ⟨j + 1, by omega, by go_num, HS'⟩
        case measure => simp [intOf]; omega
    · obtain rfl : j = n := by omega
      have HF : Hid (findR l e s = -1) := Lib.hid (by
        have := pos_none (l := l) (e := e) (s := s) (by rw [HL.out]; exact HJ.out)
        unfold findR
        rw [this, if_neg (Nat.lt_irrefl _)])
      go_wp2
      go_ret
      exact ⟨by rw [HF.out]; rfl, rfl⟩
end Bd
end Go.Proofs.YtlembfhdljmcoaaDoor

/-
  Layer 12: the contract of the plain answer's Drop.
-/
namespace Go.Proofs.YtlembfhdljmcoaaDoor
set_option maxRecDepth 20000
open Go.RowKit

namespace Bd
open Rf
/-- rows are handed back -/
def GotRw (w : World) (l : List Rw) (e : Ending) (w' : World) : Prop := ∃ a cap, e = .returned (.slice a l.length cap) ∧ IsRw w' a l.length cap l ∧ Below w.heap.size w w' ∧ ∀ b off, a = some ⟨b, off, none⟩ → w.heap.size ≤ b ∧ b < w'.heap.size
theorem op_load_rw {ev : Operand → Value} {o : Oper} {w : World} {b off : Nat} {x : Rw} (c0 : w.cell? ⟨b, off, none⟩ = some (.int .i64 x.e)) (c1 : w.cell? ⟨b, off + 1, none⟩ = some (.int .i64 x.n)) (c2 : w.cell? ⟨b, off + 2, none⟩ = some (.string x.s))
    (ho : ∃ y, o.op = .load 58 y ∧ ev y = .pointer (some ⟨b, off, none⟩)) : (execOp ev o).run Tryd.prog w = .ok (.value (.agg (rwA x))) w := by
  obtain ⟨y, ho, hx⟩ := ho
  have hl := run_loadAt_mid (P := Tryd.prog) w b off 58 (rwC x) _ (fun i v hv => by
    match i, hv with
    | 0, hv => exact c0.trans hv
    | 1, hv => exact c1.trans hv
    | 2, hv => exact c2.trans hv) Tryd.underlying58 rfl (by
    have := info_rw
    cases hi : Tryd.prog.info? 58 with
    | none => rw [hi] at this; simp at this
    | some i => rw [hi] at this; simp at this; simp [this.1]; rfl)
  unfold execOp
  simp only [ho, hx, Sem.run_bind, Sem.run_pure, Result.andThen_ok, hl]
  rfl
theorem op_lit_rw {ev : Operand → Value} {o : Oper} {w : World} {x : Rw} (b : Nat) (hb : b = w.heap.size) (ho : ∃ y, o.op = .buildSlice 26 1 #[(0, y)] ∧ ev y = .agg (rwA x)) :
    (execOp ev o).run Tryd.prog w = .ok (.value (.slice (some ⟨b, 0, none⟩) 1 1)) (w.alloc (.cells (rwA x) 58)) := by
  obtain ⟨y, ho, hx⟩ := ho
  subst hb
  unfold execOp
  simp only [ho, List.map_toArray, List.map_cons, List.map_nil, hx]
  kernel_rfl
set_option maxHeartbeats 4000000 in
theorem rdrop_any (l : List Rw) (a : Option Addr) (n c : Nat) (e : Int) (w : World) (h : IsRw w a n c l) (hn : n ≤ 1000) :
    Calls Tryd.prog 10 #[.slice a n c, .int .i64 e] w (GotRw w (dropR l e)) := by
  have hm := h.2.1
  have hnc := h.1
  have hl := h.len
  unfold maxLen at hm
  have H := Lib.hid h
  have HL := Lib.hid hl
  clear h hl
  go_enter Tryd.func10, Tryd.ntmps10
  go_wp2
  go_loopw [5, 6] (fun v i wr => ∃ j : Nat, j ≤ n ∧ i = .int .i64 j ∧ Hid (RowW w.heap.size wr v (dropR (l.take j) e)) ∧ Hid (Below w.heap.size w wr)) (fun _ i _ => n - (intOf i).toNat)
  case atStart => exact ⟨0, Nat.zero_le _, rfl, Lib.hid (RowW.nil _ _), Lib.hid (Below.refl _ _)⟩
  case round =>
    obtain ⟨j, hj, rfl, HR, HB⟩ := hrel
    by_cases hlt : j < n
    · obtain ⟨b, off, rfl, hblt, c0, c1, c2⟩ := (H.out.below HB.out).at' j hlt
      have HS := Lib.hid (drop_snoc (l := l) (e := e) (j := j) (by rw [HL.out]; exact hlt))
      have HK : Hid ((dropR (l.take j) e).length ≤ j) := Lib.hid (Nat.le_trans (drop_len _ _) (by rw [List.length_take]; exact Nat.min_le_left _ _))
      obtain ⟨x, hx⟩ : ∃ x, l.getD j rw0 = x := ⟨_, rfl⟩
      obtain ⟨L, hL⟩ : ∃ L, dropR (l.take j) e = L := ⟨_, rfl⟩
      rw [hx] at c0 c1 c2 HS
      rw [hL] at HR HK HS
      clear hx hL
      by_cases h1 : x.e = e
      · have q1 : (x.e != e) = false := by simpa using h1
        have q1' : decide (x.e ≠ e) = false := by simpa using h1
        have HS' : Hid (dropR (l.take (j + 1)) e = L) := Lib.hid (by rw [HS.out, if_neg (fun k => k h1), List.append_nil])
        clear HS
        obtain ⟨xe, hxe⟩ : ∃ xe, x.e = xe := ⟨_, rfl⟩
        rw [hxe] at c0 q1 q1'
        clear h1 hxe c1 c2
        go_wp2
        go_roundw
        case rel => exact ⟨j + 1, by omega, by go_num, Lib.hid (by rw [HS'.out]; exact HR.out), HB⟩
        case measure => simp [intOf]; omega
      · have q1 : (x.e != e) = true := by simpa using h1
        have q1' : decide (x.e ≠ e) = true := by simpa using h1
        have HS' : Hid (dropR (l.take (j + 1)) e = L ++ [x]) := Lib.hid (by rw [HS.out, if_pos h1])
        have H0 := Lib.hid c0
        have H1 := Lib.hid c1
        have H2 := Lib.hid c2
        have hsz : w.heap.size ≤ wr.heap.size := HB.out.size
        have HN := Lib.hid (IsRw.one (t := 58) (Rg.Own.new wr (rwA x) 58))
        have HRa : Hid ((wr.alloc (.cells (rwA x) 58)).ownsRow w.heap.size 58 3 u5 L.length (rowR L)) := Lib.hid (HR.out.alloc _)
        have hq : L.length + 1 ≤ 1000000 := by have := HK.out; omega
        have hs : w.heap.size ≤ (wr.alloc (.cells (rwA x) 58)).heap.size := by simp; omega
        clear HS c1 c2
        obtain ⟨xe, hxe⟩ : ∃ xe, x.e = xe := ⟨_, rfl⟩
        rw [hxe] at c0 q1 q1'
        clear h1 hxe
        go_wp2_with (first
          | (refine Rg.run rfl _ _ (op_load_rw (x := x) H0.out H1.out H2.out ⟨_, rfl, rfl⟩) ?_)
          | (refine Rg.run rfl _ _ (op_lit_rw (x := x) wr.heap.size rfl ⟨_, rfl, rfl⟩) ?_)
          | (at_builtin; refine wpl_append_rw (xs := L) (ys := [x]) rfl _ _ rfl rfl rfl HRa.out HN.out hq hs ?_))
        intro v' w2 hown2 hgrow _
        have hlt' := HR.out.lt
        go_wp2
        go_roundw
        case rel => exact ⟨j + 1, by omega, by go_num, Lib.hid (by rw [HS'.out]; unfold RowW; rw [List.length_append]; exact hown2), Lib.hid ((HB.out.alloc hsz _).grown hgrow (by simp; omega) (fun g hg => (hlt' g hg).1))⟩
        case measure => simp [intOf]; omega
    · obtain rfl : j = n := by omega
      have hO := HR.out
      rw [List.take_of_length_le (by rw [HL.out]; exact Nat.le_refl _)] at hO
      obtain ⟨a', cap', rfl, hb⟩ := IsRw.ofOwn hO
      have HBq := Lib.hid hb
      clear hO hb
      go_wp2
      go_ret
      exact ⟨a', cap', rfl, HBq.out.1, HB.out, HBq.out.2⟩
end Bd
end Go.Proofs.YtlembfhdljmcoaaDoor

/-
  Layer 12: the contract of the plain answer's Free.
-/
namespace Go.Proofs.YtlembfhdljmcoaaDoor
set_option maxRecDepth 20000
open Go.RowKit

namespace Bd
open Rf
theorem own_set {w : World} {b o : Nat} {cs : Array Value} {t : TypeId} (h : Rg.Own w b cs t) (v : Value) : Rg.Own (w.setCell ⟨b, o, none⟩ v) b (cs.setIfInBounds o v) t := by
  refine ⟨by simp; exact h.1, ?_⟩
  have hb := h.2
  simp only [World.setCell, Array.getElem?_modify, hb]
  simp
theorem upd_set (w : World) (b o : Nat) (v : Value) : Rg.Upd w b (w.setCell ⟨b, o, none⟩ v) := ⟨rfl, rfl, rfl, by simp, fun k hk => Below.heap_setCell w _ v k hk⟩
theorem own_at {w : World} {b j : Nat} {cs : Array Value} {t : TypeId} {v : Value} (h : Rg.Own w b cs t) (hv : cs[j]? = some v) : w.cell? ⟨b, j, none⟩ = some v := by
  rw [cell_of_row w b _ _ _ _ h.2]; exact hv
theorem RowW.same {B : Nat} {w w' : World} {v : Value} {l : List Rw} (h : RowW B w v l) (hk : ∀ k, v.ownBlock = some k → w'.heap[k]? = w.heap[k]?) : RowW B w' v l := by
  obtain ⟨h1, h2⟩ := h
  refine ⟨h1, ?_⟩
  rcases h2 with h2 | ⟨g, cap, cur, rfl, hg, hh, hr⟩
  · exact .inl h2
  · exact .inr ⟨g, cap, cur, rfl, hg, (hk g rfl).trans hh, hr⟩
/-- an int is stored into a block of the call's own -/
theorem wpl_store_int {ops : Array Oper} {rest : List Oper} {o : Oper} {act : Go.Act} {w : World} {Q : Exit → Go.Act → World → Prop} {b off : Nat} {cs : Array Value} {t : TypeId} (h : Rg.Own w b cs t) (hof : off < cs.size) (x : Int)
    (hgd : o.guard = none) (p q : Operand) (ho : o.op = .store 3 p q) (hx : act.eval p = .pointer (some ⟨b, off, none⟩)) (hy : act.eval q = .int .i64 x)
    (hQ : ∀ w', Rg.Own w' b (cs.setIfInBounds off (.int .i64 x)) t → Rg.Upd w b w' → wpList Tryd.prog ops Q rest (act.put o.dst undef) w') : wpList Tryd.prog ops Q (o :: rest) act w :=
  wpList_plain hgd fun K hK => by
    have hc : w.cell? ⟨b, off, none⟩ = some cs[off] := own_at h (Array.getElem?_eq_getElem hof)
    have hz : w.frozen? ⟨b, off, none⟩ = false := own_free h
    have hst : (Instr.storeAt 3 (.pointer (some ⟨b, off, none⟩)) (.int .i64 x)).run Tryd.prog w = .ok () (w.setCell ⟨b, off, none⟩ (.int .i64 x)) := by
      simp [go_sem, hc, hz]
    unfold Oper.wp execOp
    simp only [ho, hx, hy, Sem.run_bind, Sem.run_pure, Result.andThen_ok, hst]
    exact hK _ _ (hQ _ (own_set h _) (upd_set _ _ _ _))
theorem run_alloc_rw (ev : Operand → Value) (o : Oper) (w : World) (b : Nat) (hb : b = w.heap.size) (ho : o.op = .alloc 58) : (execOp ev o).run Tryd.prog w = .ok (.value (.pointer (some ⟨b, 0, none⟩))) (w.alloc (.cells (rwA rw0) 58)) := by
  subst hb
  unfold execOp
  rw [ho]
  kernel_rfl
theorem info_rw1 : (Tryd.prog.info? 58).map (·.size) = some 3 := by kernel_rfl
theorem wpl_store_rw {ops : Array Oper} {rest : List Oper} {o : Oper} {act : Go.Act} {w : World} {Q : Exit → Go.Act → World → Prop} {b : Nat} {x : Rw} (h : Rg.Own w b (rwA x) 58) (y : Rw)
    (hgd : o.guard = none) (p q : Operand) (ho : o.op = .store 58 p q) (hx : act.eval p = .pointer (some ⟨b, 0, none⟩)) (hy : act.eval q = .agg (rwA y)) (hd : o.dst = none)
    (hQ : ∀ w', Rg.Own w' b (rwA y) 58 → Rg.Upd w b w' → wpList Tryd.prog ops Q rest act w') : wpList Tryd.prog ops Q (o :: rest) act w :=
  wpList_store_rowTo hgd 58 p q ho hd b _ hx hy 58 _ h.2 info_rw1 rfl (by simp [rwA, Value.oneCell']) (hQ _ ⟨by simp; exact h.1, setRow_heap _ _ _ _ _ _ h.2⟩ (Rg.Upd.set _ _ _))
theorem op_load_rwO {ev : Operand → Value} {o : Oper} {w : World} {b : Nat} {x : Rw} (h : Rg.Own w b (rwA x) 58) (ho : ∃ y, o.op = .load 58 y ∧ ev y = .pointer (some ⟨b, 0, none⟩)) :
    (execOp ev o).run Tryd.prog w = .ok (.value (.agg (rwA x))) w := op_load_rw (own_at h rfl) (own_at h rfl) (own_at h rfl) ho
set_option maxHeartbeats 8000000 in
theorem rfree_any (l : List Rw) (a : Option Addr) (n c : Nat) (e : Int) (s : ByteArray) (w : World) (h : IsRw w a n c l) (hn : n ≤ 1000) (hN : ∀ x ∈ l, 1 ≤ x.n ∧ x.n ≤ 1000000) :
    Calls Tryd.prog 9 #[.slice a n c, .int .i64 e, .string s] w (GotRw w (freeR l e s)) := by
  have hm := h.2.1
  have hnc := h.1
  have hl := h.len
  unfold maxLen at hm
  have H := Lib.hid h
  have HL := Lib.hid hl
  have HNN := Lib.hid hN
  clear h hl hN
  go_enter Tryd.func9, Tryd.ntmps9
  go_wp2
  go_loopw [7, 8] (fun v i wr => ∃ j : Nat, j ≤ n ∧ i = .int .i64 j ∧ Hid (RowW w.heap.size wr v (freeR (l.take j) e s)) ∧ Hid (Below w.heap.size w wr)) (fun _ i _ => n - (intOf i).toNat)
  case atStart => exact ⟨0, Nat.zero_le _, rfl, Lib.hid (RowW.nil _ _), Lib.hid (Below.refl _ _)⟩
  case round =>
    obtain ⟨j, hj, rfl, HR, HB⟩ := hrel
    by_cases hlt : j < n
    · obtain ⟨b, off, rfl, hblt, c0, c1, c2⟩ := (H.out.below HB.out).at' j hlt
      have hjl : j < l.length := by rw [HL.out]; exact hlt
      have HS := Lib.hid (free_snoc (l := l) (e := e) (s := s) hjl)
      have HK : Hid ((freeR (l.take j) e s).length ≤ j) := Lib.hid (Nat.le_trans (free_len _ _ _) (by rw [List.length_take]; exact Nat.min_le_left _ _))
      have HX := HNN.out (l.getD j rw0) (by rw [List.getD_eq_getElem?_getD, List.getElem?_eq_getElem hjl]; exact List.getElem_mem _)
      have hlt' := HR.out.lt
      have HLT := Lib.hid hlt'
      have hsz : w.heap.size ≤ wr.heap.size := HB.out.size
      clear hjl hlt'
      obtain ⟨x, hx⟩ : ∃ x, l.getD j rw0 = x := ⟨_, rfl⟩
      obtain ⟨L, hL⟩ : ∃ L, freeR (l.take j) e s = L := ⟨_, rfl⟩
      rw [hx] at c0 c1 c2 HS HX
      rw [hL] at HR HK HS
      clear hx hL
      obtain ⟨hX1, hX2⟩ := HX
      have H0 := Lib.hid c0
      have H1 := Lib.hid c1
      have H2 := Lib.hid c2
      have HOz := Lib.hid (Rg.Own.new wr (rwA rw0) 58)
      have HBz : Hid (Below wr.heap.size wr (wr.alloc (.cells (rwA rw0) 58))) := Lib.hid ((Below.refl _ _).alloc (Nat.le_refl _) _)
      have hq : L.length + 1 ≤ 1000000 := by have := HK.out; omega
      clear c0 c1 c2
      by_cases h1 : x.e = e
      · by_cases h2 : x.s = s
        · by_cases h3 : 0 < x.n - 1
          · have q1 : (x.e == e) = true := by simpa using h1
            have q1' : decide (x.e = e) = true := decide_eq_true h1
            have q2 : (x.s.toList == s.toList) = true := by rw [str_eq, decide_eq_true h2]
            have hle : lessR e s x = { x with n := x.n - 1 } := by unfold lessR; rw [if_pos (hit_iff.2 ⟨h1, h2⟩)]
            have HS' : Hid (freeR (l.take (j + 1)) e s = L ++ [{ x with n := x.n - 1 }]) := Lib.hid (by rw [HS.out, hle]; unfold keptR; rw [if_pos (show 0 < x.n - 1 from h3)])
            have hw1 : IntKind.i64.wrap (x.n - 1) = x.n - 1 := by simp only [IntKind.wrap_i64, wrap64]; omega
            have q3 : decide (x.n - 1 > 0) = true := decide_eq_true h3
            have q3' : decide (0 < x.n - 1) = true := decide_eq_true h3
            have q4 : decide (1 < x.n) = true := decide_eq_true (by omega)
            have q5 : 1 < x.n := by omega
            clear HS hle h1 h2 h3
            go_wp2_with (first
              | (refine Rg.run rfl _ _ (op_load_rw (x := x) H0.out H1.out H2.out ⟨_, rfl, rfl⟩) ?_)
              | (refine Rg.run rfl _ _ (run_alloc_rw _ _ _ wr.heap.size rfl rfl) ?_)
              | (refine wpl_store_rw HOz.out x rfl _ _ rfl rfl rfl rfl ?_; intro w2 hO2 hU2; have HO2 := Lib.hid hO2; have HB2 := Lib.hid (hU2.below HBz.out (Nat.le_refl _)); have d0 : w2.cell? ⟨wr.heap.size, 0, none⟩ = some (.int .i64 x.e) := own_at hO2 rfl; have d1 : w2.cell? ⟨wr.heap.size, 1, none⟩ = some (.int .i64 x.n) := own_at hO2 rfl; have d2 : w2.cell? ⟨wr.heap.size, 2, none⟩ = some (.string x.s) := own_at hO2 rfl; clear hO2 hU2)
              | (refine wpl_store_int (off := 1) HO2.out (by simp [rwA]) (x.n - 1) rfl _ _ rfl rfl rfl ?_; intro w3 hO3 hU3; have HO3 : Hid (Rg.Own w3 wr.heap.size (rwA { x with n := x.n - 1 }) 58) := Lib.hid hO3; have HB3 := Lib.hid (hU3.below HB2.out (Nat.le_refl _)); have f1 : w3.cell? ⟨wr.heap.size, 1, none⟩ = some (.int .i64 (x.n - 1)) := own_at HO3.out rfl; clear hO3 hU3 d0 d1 d2)
              | (refine Rg.run rfl _ _ (op_load_rwO (x := { x with n := x.n - 1 }) HO3.out ⟨_, rfl, rfl⟩) ?_)
              | (refine Rg.run rfl _ _ (op_lit_rw (x := { x with n := x.n - 1 }) w3.heap.size rfl ⟨_, rfl, rfl⟩) ?_)
              | (at_builtin; refine wpl_append_rw (B := w.heap.size) (xs := L) (ys := [{ x with n := x.n - 1 }]) rfl _ _ rfl rfl rfl (World.ownsRow.alloc (RowW.same HR.out fun k e => HB3.out.block k (HLT.out k e).2) _) (IsRw.one (t := 58) (Rg.Own.new w3 _ _)) hq (by have := HB3.out.size; simp; omega) ?_))
            intro v' w5 hown2 hgrow _
            go_wp2
            go_roundw
            case rel => exact ⟨j + 1, by omega, by go_num, Lib.hid (by rw [HS'.out]; unfold RowW; rw [List.length_append]; exact hown2), Lib.hid (Below.grown ((HB.out.trans (HB3.out.mono hsz)).alloc (by have := HB3.out.size; omega) _) hgrow (by have := HB3.out.size; simp; omega) (fun g hg => (HLT.out g hg).1))⟩
            case measure => simp [intOf]; omega
          · have q1 : (x.e == e) = true := by simpa using h1
            have q1' : decide (x.e = e) = true := decide_eq_true h1
            have q2 : (x.s.toList == s.toList) = true := by rw [str_eq, decide_eq_true h2]
            have hle : lessR e s x = { x with n := x.n - 1 } := by unfold lessR; rw [if_pos (hit_iff.2 ⟨h1, h2⟩)]
            have HS' : Hid (freeR (l.take (j + 1)) e s = L) := Lib.hid (by rw [HS.out, hle]; unfold keptR; rw [if_neg (show ¬ 0 < x.n - 1 from h3), List.append_nil])
            have hw1 : IntKind.i64.wrap (x.n - 1) = x.n - 1 := by simp only [IntKind.wrap_i64, wrap64]; omega
            have q3 : decide (x.n - 1 > 0) = false := decide_eq_false h3
            have q3' : decide (0 < x.n - 1) = false := decide_eq_false h3
            have q4 : decide (1 < x.n) = false := decide_eq_false (by omega)
            have q5 : x.n ≤ 1 := by omega
            clear HS hle h1 h2 h3
            go_wp2_with (first
              | (refine Rg.run rfl _ _ (op_load_rw (x := x) H0.out H1.out H2.out ⟨_, rfl, rfl⟩) ?_)
              | (refine Rg.run rfl _ _ (run_alloc_rw _ _ _ wr.heap.size rfl rfl) ?_)
              | (refine wpl_store_rw HOz.out x rfl _ _ rfl rfl rfl rfl ?_; intro w2 hO2 hU2; have HO2 := Lib.hid hO2; have HB2 := Lib.hid (hU2.below HBz.out (Nat.le_refl _)); have d0 : w2.cell? ⟨wr.heap.size, 0, none⟩ = some (.int .i64 x.e) := own_at hO2 rfl; have d1 : w2.cell? ⟨wr.heap.size, 1, none⟩ = some (.int .i64 x.n) := own_at hO2 rfl; have d2 : w2.cell? ⟨wr.heap.size, 2, none⟩ = some (.string x.s) := own_at hO2 rfl; clear hO2 hU2)
              | (refine wpl_store_int (off := 1) HO2.out (by simp [rwA]) (x.n - 1) rfl _ _ rfl rfl rfl ?_; intro w3 hO3 hU3; have HO3 : Hid (Rg.Own w3 wr.heap.size (rwA { x with n := x.n - 1 }) 58) := Lib.hid hO3; have HB3 := Lib.hid (hU3.below HB2.out (Nat.le_refl _)); have f1 : w3.cell? ⟨wr.heap.size, 1, none⟩ = some (.int .i64 (x.n - 1)) := own_at HO3.out rfl; clear hO3 hU3 d0 d1 d2))
            go_roundw
            case rel => exact ⟨j + 1, by omega, by go_num, Lib.hid (by rw [HS'.out]; exact RowW.same HR.out fun k e => HB3.out.block k (HLT.out k e).2), Lib.hid (HB.out.trans (HB3.out.mono hsz))⟩
            case measure => simp [intOf]; omega
        · have q1 : (x.e == e) = true := by simpa using h1
          have q1' : decide (x.e = e) = true := decide_eq_true h1
          have q2 : (x.s.toList == s.toList) = false := by rw [str_eq, decide_eq_false h2]
          have hle : lessR e s x = x := by unfold lessR; rw [if_neg (fun k => h2 (hit_iff.1 k).2)]
          have HS' : Hid (freeR (l.take (j + 1)) e s = L ++ [x]) := Lib.hid (by rw [HS.out, hle]; unfold keptR; rw [if_pos (by omega)])
          have q3 : decide (x.n > 0) = true := decide_eq_true (by omega)
          have q3' : decide (0 < x.n) = true := decide_eq_true (by omega)
          clear HS hle h1 h2
          go_wp2_with (first
            | (refine Rg.run rfl _ _ (op_load_rw (x := x) H0.out H1.out H2.out ⟨_, rfl, rfl⟩) ?_)
            | (refine Rg.run rfl _ _ (run_alloc_rw _ _ _ wr.heap.size rfl rfl) ?_)
            | (refine wpl_store_rw HOz.out x rfl _ _ rfl rfl rfl rfl ?_; intro w2 hO2 hU2; have HO2 := Lib.hid hO2; have HB2 := Lib.hid (hU2.below HBz.out (Nat.le_refl _)); have d0 : w2.cell? ⟨wr.heap.size, 0, none⟩ = some (.int .i64 x.e) := own_at hO2 rfl; have d1 : w2.cell? ⟨wr.heap.size, 1, none⟩ = some (.int .i64 x.n) := own_at hO2 rfl; have d2 : w2.cell? ⟨wr.heap.size, 2, none⟩ = some (.string x.s) := own_at hO2 rfl; clear hO2 hU2)
            | (refine Rg.run rfl _ _ (op_load_rwO (x := x) HO2.out ⟨_, rfl, rfl⟩) ?_)
            | (refine Rg.run rfl _ _ (op_lit_rw (x := x) w2.heap.size rfl ⟨_, rfl, rfl⟩) ?_)
            | (at_builtin; refine wpl_append_rw (B := w.heap.size) (xs := L) (ys := [x]) rfl _ _ rfl rfl rfl (World.ownsRow.alloc (RowW.same HR.out fun k e => HB2.out.block k (HLT.out k e).2) _) (IsRw.one (t := 58) (Rg.Own.new w2 _ _)) hq (by have := HB2.out.size; simp; omega) ?_))
          intro v' w5 hown2 hgrow _
          go_wp2
          go_roundw
          case rel => exact ⟨j + 1, by omega, by go_num, Lib.hid (by rw [HS'.out]; unfold RowW; rw [List.length_append]; exact hown2), Lib.hid (Below.grown ((HB.out.trans (HB2.out.mono hsz)).alloc (by have := HB2.out.size; omega) _) hgrow (by have := HB2.out.size; simp; omega) (fun g hg => (HLT.out g hg).1))⟩
          case measure => simp [intOf]; omega
      · have q1 : (x.e == e) = false := by simpa using h1
        have q1' : decide (x.e = e) = false := decide_eq_false h1
        have hle : lessR e s x = x := by unfold lessR; rw [if_neg (fun k => h1 (hit_iff.1 k).1)]
        have HS' : Hid (freeR (l.take (j + 1)) e s = L ++ [x]) := Lib.hid (by rw [HS.out, hle]; unfold keptR; rw [if_pos (by omega)])
        have q3 : decide (x.n > 0) = true := decide_eq_true (by omega)
        have q3' : decide (0 < x.n) = true := decide_eq_true (by omega)
        clear HS hle h1
        go_wp2_with (first
          | (refine Rg.run rfl _ _ (op_load_rw (x := x) H0.out H1.out H2.out ⟨_, rfl, rfl⟩) ?_)
          | (refine Rg.run rfl _ _ (run_alloc_rw _ _ _ wr.heap.size rfl rfl) ?_)
          | (refine wpl_store_rw HOz.out x rfl _ _ rfl rfl rfl rfl ?_; intro w2 hO2 hU2; have HO2 := Lib.hid hO2; have HB2 := Lib.hid (hU2.below HBz.out (Nat.le_refl _)); have d0 : w2.cell? ⟨wr.heap.size, 0, none⟩ = some (.int .i64 x.e) := own_at hO2 rfl; have d1 : w2.cell? ⟨wr.heap.size, 1, none⟩ = some (.int .i64 x.n) := own_at hO2 rfl; have d2 : w2.cell? ⟨wr.heap.size, 2, none⟩ = some (.string x.s) := own_at hO2 rfl; clear hO2 hU2)
          | (refine Rg.run rfl _ _ (op_load_rwO (x := x) HO2.out ⟨_, rfl, rfl⟩) ?_)
          | (refine Rg.run rfl _ _ (op_lit_rw (x := x) w2.heap.size rfl ⟨_, rfl, rfl⟩) ?_)
          | (at_builtin; refine wpl_append_rw (B := w.heap.size) (xs := L) (ys := [x]) rfl _ _ rfl rfl rfl (World.ownsRow.alloc (RowW.same HR.out fun k e => HB2.out.block k (HLT.out k e).2) _) (IsRw.one (t := 58) (Rg.Own.new w2 _ _)) hq (by have := HB2.out.size; simp; omega) ?_))
        intro v' w5 hown2 hgrow _
        go_wp2
        go_roundw
        case rel => exact ⟨j + 1, by omega, by go_num, Lib.hid (by rw [HS'.out]; unfold RowW; rw [List.length_append]; exact hown2), Lib.hid (Below.grown ((HB.out.trans (HB2.out.mono hsz)).alloc (by have := HB2.out.size; omega) _) hgrow (by have := HB2.out.size; simp; omega) (fun g hg => (HLT.out g hg).1))⟩
        case measure => simp [intOf]; omega
    · obtain rfl : j = n := by omega
      have hO := HR.out
      rw [List.take_of_length_le (by rw [HL.out]; exact Nat.le_refl _)] at hO
      obtain ⟨a', cap', rfl, hb⟩ := IsRw.ofOwn hO
      have HBq := Lib.hid hb
      clear hO hb
      go_wp2
      go_ret
      exact ⟨a', cap', rfl, HBq.out.1, HB.out, HBq.out.2⟩
end Bd
end Go.Proofs.YtlembfhdljmcoaaDoor
