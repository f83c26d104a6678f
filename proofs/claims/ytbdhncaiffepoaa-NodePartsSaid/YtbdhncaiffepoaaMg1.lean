/-
  Slices of bytes: what one is, as a walk takes it (nil among them); what is kept of it; the text of it.
-/
import Derived.Test.YtbdhncaiffepoaaRows
import Derived.WalkKit
import Derived.WalkSpells
import Derived.WalkLawsBesides
import Derived.ProofKit
import Derived.OpenShut
import Derived.DataBytes
import Derived.Below
import Derived.Lib.Hide
import Derived.Laws.BytesString
import Derived.Laws.IdiomStrings
import Derived.Deep.OwnRows
import Derived.Deep.Draws
import Derived.OwnWalk
import Derived.Laws.OwnMore
import Derived.Deep.MidRow
import Derived.Deep.Slices
import Derived.Handy
import Derived.Laws.NewBlocks
import Derived.Defers
import Derived.Recover
import Derived.Laws.Pointers
import Derived.Laws.BitsAllLaws
import Derived.Deep.RegionHeld3
import Derived.Laws.Rows
import Derived.ChangeAlike
import Derived.Lib.AppendZeros
import Derived.Laws.AppendOwnNone
import Derived.RegionTactic
import Derived.Lib.Strings
import Derived.Lib.Slices
import Derived.Lib.Walk
import Derived.Lib.Builder
import Derived.Lib.AppendStr
import Derived.Lib.UnsafeStr
import Derived.Laws.Externs
import Derived.Lib.OthersKept
import Derived.Great.BuildSlice
namespace Go.Proofs.Ytbdhncaiffepoaa
open Go.RowKit Go.ChangeShapes Go.WideShapes

/-- a fact that no tactic looks into ('contradiction' looks through Hid, and reckons both sides of a closed equation) -/
def Sec (p : Prop) : Prop := Unit → p
theorem Sec.out {p : Prop} (h : Sec p) : p := h ()
theorem sec {p : Prop} (h : p) : Sec p := fun _ => h

theorem below_drewN {B : Nat} {w w' : World} (h : Below B w w') (q : Nat) : Below B w (w'.drewN q) := ⟨h.os, h.tape, h.output, h.size, h.block⟩

/-- the slice's elements are these bytes -/
def IsBs (w : World) (a : Option Addr) (n cap : Nat) (l : List UInt8) : Prop :=
  n ≤ cap ∧ cap ≤ maxLen ∧ l.length = n ∧ (a = none → cap = 0) ∧ ∀ j, j < n → ∃ b off, a = some ⟨b, off, none⟩ ∧ b < w.heap.size ∧ w.cell? ⟨b, off + j, none⟩ = some (.int .u8 (l.getD j 0).toNat)

namespace IsBs
theorem len {w : World} {a : Option Addr} {n cap : Nat} {l : List UInt8} (h : IsBs w a n cap l) : l.length = n := h.2.2.1
theorem at' {w : World} {a : Option Addr} {n cap : Nat} {l : List UInt8} (h : IsBs w a n cap l) (j : Nat) (hj : j < n) : ∃ b off, a = some ⟨b, off, none⟩ ∧ b < w.heap.size ∧ w.cell? ⟨b, off + j, none⟩ = some (.int .u8 (l.getD j 0).toNat) := h.2.2.2.2 j hj
/-- what keeps all old cells keeps it -/
theorem kept {w w' : World} {a : Option Addr} {n cap : Nat} {l : List UInt8} (h : IsBs w a n cap l) (hs : w.heap.size ≤ w'.heap.size)
    (hc : ∀ b o, b < w.heap.size → w'.cell? ⟨b, o, none⟩ = w.cell? ⟨b, o, none⟩) : IsBs w' a n cap l := by
  refine ⟨h.1, h.2.1, h.2.2.1, h.2.2.2.1, fun j hj => ?_⟩
  obtain ⟨b, off, h1, h2, h3⟩ := h.2.2.2.2 j hj
  exact ⟨b, off, h1, Nat.lt_of_lt_of_le h2 hs, by rw [hc b _ h2]; exact h3⟩
theorem below {w w' : World} {a : Option Addr} {n cap : Nat} {l : List UInt8} (h : IsBs w a n cap l) (hb : Below w.heap.size w w') : IsBs w' a n cap l :=
  h.kept hb.size fun b o hlt => hb.cell (p := ⟨b, o, none⟩) hlt
theorem alloc {w : World} {a : Option Addr} {n cap : Nat} {l : List UInt8} (h : IsBs w a n cap l) (o : Obj) : IsBs (w.alloc o) a n cap l :=
  h.below ((Below.refl _ _).alloc (Nat.le_refl _) _)
theorem grown {w w' : World} {a : Option Addr} {n cap : Nat} {l : List UInt8} (h : IsBs w a n cap l) (hg : w.grownBy w' none) : IsBs w' a n cap l :=
  h.below ((Below.refl _ _).grown hg (Nat.le_refl _) (fun k hk => by cases hk))
theorem drewN {w : World} {a : Option Addr} {n cap : Nat} {l : List UInt8} (h : IsBs w a n cap l) (q : Nat) : IsBs (w.drewN q) a n cap l := h
theorem capNone {w : World} {n cap : Nat} {l : List UInt8} (h : IsBs w none n cap l) : n = 0 ∧ cap = 0 ∧ l = [] := by
  have hc := h.2.2.2.1 rfl
  have h1 := h.1
  have h2 := h.len
  have : n = 0 := by omega
  subst this
  exact ⟨rfl, hc, List.eq_nil_of_length_eq_zero h2⟩
theorem nil (w : World) : IsBs w none 0 0 [] := ⟨Nat.le_refl _, Nat.zero_le _, rfl, fun _ => rfl, fun _ hj => absurd hj (Nat.not_lt_zero _)⟩
end IsBs

/-- a slice of these bytes is handed back; the world is as it was -/
def SameBs (w : World) (l : List UInt8) (e : Ending) (w' : World) : Prop := ∃ a n cap, e = .returned (.slice a n cap) ∧ IsBs w a n cap l ∧ w = w'
/-- a slice of these bytes is handed back; what was there is as it was -/
def GotBs (w : World) (l : List UInt8) (e : Ending) (w' : World) : Prop := ∃ a n cap, e = .returned (.slice a n cap) ∧ IsBs w' a n cap l ∧ Below w.heap.size w w'

/-- a row of the call's own, as a slice of bytes -/
theorem IsBs.ofRow {w : World} {b n : Nat} {f : Nat → Value} {t : TypeId} (l : List UInt8) (hn : n ≤ maxLen) (h : w.rowIs b t n f) (hl : l.length = n) (hf : ∀ j, j < n → f j = .int .u8 (l.getD j 0).toNat) : IsBs w (some ⟨b, 0, none⟩) n n l :=
  ⟨Nat.le_refl _, hn, hl, (fun e => by cases e), fun j hj => ⟨b, 0, rfl, h.lt, by rw [Nat.zero_add, ← hf j hj]; exact h.cell hj⟩⟩
theorem IsBs.ofOwn {w : World} {B : Nat} {t : TypeId} {v : Value} {n : Nat} {l : List UInt8} (h : w.ownsRow B t 1 v n (l.map fun x => Value.int .u8 x.toNat)) : ∃ a cap, v = .slice a n cap ∧ IsBs w a n cap l := by
  have hl : l.length = n := by simpa using h.1
  rcases h.2 with ⟨rfl, hz⟩ | ⟨g, cap, cur, rfl, hbg, hg, hnc, hcm, hcs, htake⟩
  · have e : l = [] := List.eq_nil_of_length_eq_zero (by rw [hl]; exact hz)
    subst e
    subst hz
    exact ⟨none, 0, rfl, IsBs.nil w⟩
  · refine ⟨_, _, rfl, hnc, hcm, hl, fun e => (by cases e), fun j hj => ⟨g, 0, rfl, (Array.getElem?_eq_some_iff.1 hg).1, ?_⟩⟩
    have := h.cells (g := g) rfl j (.int .u8 (l.getD j 0).toNat) (by simp [List.getD, hl, hj])
    have e : (⟨g, 0, none⟩ : Addr).add j = ⟨g, 0 + j, none⟩ := by unfold Addr.add; split <;> simp_all
    rw [e] at this
    exact this

/-- a new row of the call's own, as a slice of bytes -/
theorem IsBs.new (w : World) (l : List UInt8) (hl : l.length ≤ maxLen) (cs : Array Value) (t : TypeId) (hc : cs = (l.map fun x => Value.int .u8 x.toNat).toArray) : IsBs (w.alloc (.cells cs t)) (some ⟨w.heap.size, 0, none⟩) l.length l.length l := by
  subst hc
  refine ⟨Nat.le_refl _, hl, rfl, fun e => (by cases e), fun j hj => ⟨w.heap.size, 0, rfl, by simp, ?_⟩⟩
  rw [Nat.zero_add, World.cell?_alloc_mark]
  simp [List.getD, hj]

/-- a slice of bytes, as a text -/
theorem conv_bs {w : World} {a : Option Addr} {n cap : Nat} {l : List UInt8} (h : IsBs w a n cap l) :
    Sem.run Try.prog (convert 22 9 (Value.slice a n cap)) w = .ok (.string ⟨l.toArray⟩) w := by
  by_cases h0 : n = 0
  · subst h0
    have e : l = [] := List.eq_nil_of_length_eq_zero h.len
    subst e
    have := run_convert_bytes_string (P := Try.prog) w 22 9 5 a 0 cap Try.underlying22 Try.underlying5 Try.underlying9
    rw [this]
    cases a <;> simp [Conv.bytesToString, loadCells]
    all_goals rfl
  · obtain ⟨b, off, rfl, hb, hc⟩ := h.at' 0 (by omega)
    have hl := h.len
    have := run_convert_bytes_back (P := Try.prog) w 22 9 5 ⟨b, off, none⟩ cap l Try.underlying22 Try.underlying5 Try.underlying9 (fun j hj => by
      obtain ⟨b', off', e, _, hc'⟩ := h.at' j (by omega)
      simp at e
      obtain ⟨rfl, rfl⟩ := e
      have e2 : (⟨b, off, none⟩ : Addr).add j = ⟨b, off + j, none⟩ := by unfold Addr.add; split <;> simp_all
      rw [e2, hc']
      simp [List.getD, hj])
    rw [hl] at this
    exact this
end Go.Proofs.Ytbdhncaiffepoaa

/-
  Items (texts and lists within one another): what one is in memory, as a walk takes it.
-/
namespace Go.Proofs.Ytbdhncaiffepoaa
open Go.RowKit Go.ChangeShapes Go.WideShapes

/-- an item: whether it is a list, its text, its items -/
inductive It where
  | mk (l : Bool) (s : ByteArray) (xs : List It)

namespace It
def l : It → Bool | .mk l _ _ => l
def s : It → ByteArray | .mk _ s _ => s
def xs : It → List It | .mk _ _ xs => xs
theorem eta (x : It) : x = .mk x.l x.s x.xs := by cases x; rfl
theorem ind {P : It → Prop} (h : ∀ l s xs, (∀ y ∈ xs, P y) → P (.mk l s xs)) : ∀ x, P x
  | .mk l s xs => h l s xs (fun y _ => ind h y)
termination_by x => SizeOf.sizeOf x
decreasing_by
  have := List.sizeOf_lt_of_mem ‹y ∈ xs›
  simp
  omega
end It

/-- an item lies there -/
def Lies (w : World) (b o : Nat) (x : It) (A : Option Addr) (N C : Nat) : Prop :=
  w.cell? ⟨b, o, none⟩ = some (.bool x.l) ∧ w.cell? ⟨b, o + 1, none⟩ = some (.string x.s) ∧ w.cell? ⟨b, o + 2, none⟩ = some (.slice A N C)
theorem Lies.stays {B : Nat} {w w' : World} {b o : Nat} {x : It} {A : Option Addr} {N C : Nat} (h : Lies w b o x A N C) (hb : Below B w w') (hlt : b < B) : Lies w' b o x A N C :=
  ⟨by rw [hb.cell (p := ⟨b, _, none⟩) hlt]; exact h.1, by rw [hb.cell (p := ⟨b, _, none⟩) hlt]; exact h.2.1, by rw [hb.cell (p := ⟨b, _, none⟩) hlt]; exact h.2.2⟩

/-- the slice's elements are these items, in such blocks -/
inductive ItsP (p : Nat → Prop) (w : World) : List It → Option Addr → Nat → Nat → Prop
  | mk {xs : List It} {a : Option Addr} {n cap : Nat} (A : Nat → Option Addr) (N C : Nat → Nat) (hl : xs.length = n) (hc : n ≤ cap) (hm : cap ≤ maxLen) (hw : n ≤ 2932031007402) (hn : a = none → cap = 0)
      (h : ∀ (j : Nat) (x : It), xs[j]? = some x → ∃ b off, a = some ⟨b, off, none⟩ ∧ p b ∧ b < w.heap.size ∧ Lies w b (off + j * 3) x (A j) (N j) (C j))
      (hi : ∀ (j : Nat) (x : It), xs[j]? = some x → ItsP p w x.xs (A j) (N j) (C j)) : ItsP p w xs a n cap
/-- .. in blocks from B on -/
abbrev ItsIn (B : Nat) (w : World) (xs : List It) (a : Option Addr) (n cap : Nat) : Prop := ItsP (fun b => B ≤ b) w xs a n cap
/-- .. in whatever blocks -/
abbrev IsIts (w : World) (xs : List It) (a : Option Addr) (n cap : Nat) : Prop := ItsIn 0 w xs a n cap

/-- an item as a value -/
def itV (x : It) (a : Option Addr) (n cap : Nat) : Value := .agg #[.bool x.l, .string x.s, .slice a n cap]
/-- the value is this item -/
def IsIt (w : World) (x : It) (v : Value) : Prop := ∃ a n cap, v = itV x a n cap ∧ IsIts w x.xs a n cap

namespace ItsP
variable {p : Nat → Prop} {w w' : World} {xs : List It} {a : Option Addr} {n cap : Nat}
theorem len (h : ItsP p w xs a n cap) : xs.length = n := by cases h; assumption
theorem le (h : ItsP p w xs a n cap) : n ≤ cap := by cases h; assumption
theorem max (h : ItsP p w xs a n cap) : cap ≤ maxLen := by cases h; assumption
theorem few (h : ItsP p w xs a n cap) : n ≤ 2932031007402 := by cases h; assumption
theorem none' (h : ItsP p w xs a n cap) : a = none → cap = 0 := by cases h; assumption
/-- what keeps the cells keeps the items -/
theorem kept (h : ItsP p w xs a n cap) (hs : w.heap.size ≤ w'.heap.size) (hk : ∀ b o, p b → b < w.heap.size → w'.cell? ⟨b, o, none⟩ = w.cell? ⟨b, o, none⟩) : ItsP p w' xs a n cap := by
  induction h with
  | mk A N C hl hc hm hw hn h hi ih =>
    refine .mk A N C hl hc hm hw hn (fun j x hx => ?_) ih
    obtain ⟨b, off, e, hB, hlt, c0, c1, c2⟩ := h j x hx
    exact ⟨b, off, e, hB, Nat.lt_of_lt_of_le hlt hs, by rw [hk b _ hB hlt, c0], by rw [hk b _ hB hlt, c1], by rw [hk b _ hB hlt, c2]⟩
theorem stays (h : ItsP p w xs a n cap) (hb : Below w.heap.size w w') : ItsP p w' xs a n cap := h.kept hb.size fun b o _ hlt => hb.cell (p := ⟨b, o, none⟩) hlt
theorem to {p' : Nat → Prop} (h : ItsP p w xs a n cap) (hp : ∀ b, b < w.heap.size → p b → p' b) : ItsP p' w xs a n cap := by
  induction h with
  | mk A N C hl hc hm hw hn h hi ih =>
    refine .mk A N C hl hc hm hw hn (fun j x hx => ?_) ih
    obtain ⟨b, off, e, hb, hlt, r⟩ := h j x hx
    exact ⟨b, off, e, hp b hlt hb, hlt, r⟩
theorem at' (h : ItsP p w xs a n cap) (j : Nat) (hj : j < n) : ∃ x b off A N C, xs[j]? = some x ∧ a = some ⟨b, off, none⟩ ∧ b < w.heap.size ∧ Lies w b (off + j * 3) x A N C ∧ ItsP p w x.xs A N C := by
  cases h with
  | mk A N C hl hc hm hw hn h hi =>
    have hx : xs[j]? = some (xs[j]'(by omega)) := List.getElem?_eq_getElem (by omega)
    obtain ⟨b, off, e, _, hlt, hL⟩ := h j _ hx
    exact ⟨_, b, off, A j, N j, C j, hx, e, hlt, hL, hi j _ hx⟩
theorem nil (p : Nat → Prop) (w : World) : ItsP p w [] none 0 0 := .mk (fun _ => none) (fun _ => 0) (fun _ => 0) rfl (Nat.le_refl _) (Nat.zero_le _) (by omega) (fun _ => rfl) (fun _ _ h => by simp at h) (fun _ _ h => by simp at h)
theorem drewN (h : ItsP p w xs a n cap) (q : Nat) : ItsP p (w.drewN q) xs a n cap := h.stays (below_drewN (Below.refl _ _) q)
theorem alloc (h : ItsP p w xs a n cap) (o : Obj) : ItsP p (w.alloc o) xs a n cap := h.stays ((Below.refl _ _).alloc (Nat.le_refl _) _)
end ItsP
namespace ItsIn
variable {B : Nat} {w w' : World} {xs : List It} {a : Option Addr} {n cap : Nat}
theorem kept (h : ItsIn B w xs a n cap) (hs : w.heap.size ≤ w'.heap.size) (hk : ∀ b o, B ≤ b → b < w.heap.size → w'.cell? ⟨b, o, none⟩ = w.cell? ⟨b, o, none⟩) : ItsIn B w' xs a n cap := ItsP.kept h hs hk
theorem weak {B' : Nat} (h : ItsIn B w xs a n cap) (hB : B' ≤ B) : ItsIn B' w xs a n cap := ItsP.to h fun _ _ hb => Nat.le_trans hB hb
theorem nil (B : Nat) (w : World) : ItsIn B w [] none 0 0 := ItsP.nil _ _
end ItsIn
theorem IsIt.stays {w w' : World} {x : It} {v : Value} (h : IsIt w x v) (hb : Below w.heap.size w w') : IsIt w' x v := by
  obtain ⟨a, n, cap, rfl, h⟩ := h
  exact ⟨a, n, cap, rfl, h.stays hb⟩

/-- behind a block of the call's own: what was ahead of it -/
theorem of_al {w wr : World} {o : Obj} (h : Below (w.heap.size + 1) (w.alloc o) wr) : Below w.heap.size w wr := ((Below.refl _ _).alloc (Nat.le_refl _) _).trans (h.mono (Nat.le_succ _))
theorem al_size {w wr : World} {o : Obj} (h : Below (w.heap.size + 1) (w.alloc o) wr) : w.heap.size + 1 ≤ wr.heap.size := by
  have := h.size
  simpa using this
theorem al_size2 {w wr : World} {o o' : Obj} (h : Below (w.heap.size + 2) ((w.alloc o).alloc o') wr) : w.heap.size + 2 ≤ wr.heap.size := by
  have := h.size
  simpa using this
theorem al_of {w wr : World} {o : Obj} (h : Below (w.alloc o).heap.size (w.alloc o) wr) : Below (w.heap.size + 1) (w.alloc o) wr := h.mono (by simp)
theorem al_step {w wr w2 : World} {o : Obj} (h : Below (w.heap.size + 1) (w.alloc o) wr) (h2 : Below wr.heap.size wr w2) : Below (w.heap.size + 1) (w.alloc o) w2 := h.trans (h2.mono (al_size h))

theorem al1 (w : World) (o : Obj) : Below w.heap.size w (w.alloc o) := (Below.refl _ _).alloc (Nat.le_refl _) _
theorem al2 (w : World) (o o' : Obj) : Below w.heap.size w ((w.alloc o).alloc o') := (al1 w o).alloc (by simp) _
theorem below_step {B : Nat} {w w1 w2 : World} (h : Below B w w1) (h2 : Below w1.heap.size w1 w2) (hB : B ≤ w.heap.size) : Below B w w2 := h.trans (h2.mono (Nat.le_trans hB h.size))
theorem below_step' {w w1 w2 : World} (h : Below w.heap.size w w1) (h2 : Below w1.heap.size w1 w2) : Below w.heap.size w w2 := below_step h h2 (Nat.le_refl _)

/-- the item's type: how many cells -/
theorem info_item : (Try.prog.info? 48).map (·.size) = some 3 := by kernel_rfl
theorem Lies.range {w : World} {b o : Nat} {x : It} {A : Option Addr} {N C : Nat} (h : Lies w b o x A N C) : w.rangeAt b o [.bool x.l, .string x.s, .slice A N C] := fun i v hv => by
  match i, hv with
  | 0, hv => cases hv; exact h.1
  | 1, hv => cases hv; exact h.2.1
  | 2, hv => cases hv; exact h.2.2
/-- an item is loaded -/
theorem run_load_item {w : World} {b o : Nat} {x : It} {A : Option Addr} {N C : Nat} (h : Lies w b o x A N C) : (loadVar 48 ⟨b, o, none⟩).run Try.prog w = .ok (itV x A N C) w :=
  run_loadVar_mid w b o 48 _ _ h.range Try.underlying48 rfl info_item
/-- results that lie in a cell -/
theorem res_item {fn : Func} {p : Tmp} (hf : fn.results = #[.cell p 48]) (tmps : Array Value) {w : World} {b o : Nat} {x : It} {A : Option Addr} {N C : Nat} (hp : tmps.getD p undef = .pointer (some ⟨b, o, none⟩)) (h : Lies w b o x A N C) :
    (results fn tmps).run Try.prog w = .ok (itV x A N C) w := by
  have hp' : tmps[p]?.getD undef = .pointer (some ⟨b, o, none⟩) := by simpa using hp
  simp [results, hf, hp', asAddr, run_load_item h]
theorem res_item1 {fn : Func} {p u : Tmp} (hf : fn.results = #[.cell p 48, .tmp u]) (tmps : Array Value) {w : World} {b o : Nat} {x : It} {A : Option Addr} {N C : Nat} (hp : tmps.getD p undef = .pointer (some ⟨b, o, none⟩)) (h : Lies w b o x A N C) :
    (results fn tmps).run Try.prog w = .ok (.tuple #[itV x A N C, tmps.getD u undef]) w := by
  have hp' : tmps[p]?.getD undef = .pointer (some ⟨b, o, none⟩) := by simpa using hp
  simp [results, hf, hp', asAddr, run_load_item h]
theorem res_item2 {fn : Func} {p u z : Tmp} (hf : fn.results = #[.cell p 48, .tmp u, .tmp z]) (tmps : Array Value) {w : World} {b o : Nat} {x : It} {A : Option Addr} {N C : Nat} (hp : tmps.getD p undef = .pointer (some ⟨b, o, none⟩)) (h : Lies w b o x A N C) :
    (results fn tmps).run Try.prog w = .ok (.tuple #[itV x A N C, tmps.getD u undef, tmps.getD z undef]) w := by
  have hp' : tmps[p]?.getD undef = .pointer (some ⟨b, o, none⟩) := by simpa using hp
  simp [results, hf, hp', asAddr, run_load_item h]
theorem lies_new (w : World) (x : It) (A : Option Addr) (N C : Nat) (t : TypeId) : Lies (w.alloc (.cells #[.bool x.l, .string x.s, .slice A N C] t)) w.heap.size 0 x A N C :=
  ⟨by rw [World.cell?_alloc_mark]; rfl, by rw [World.cell?_alloc_mark]; rfl, by rw [World.cell?_alloc_mark]; rfl⟩
end Go.Proofs.Ytbdhncaiffepoaa

/-
  What is told from far within by a panic and caught: contracts of rlp.fail and rlp.caught.
-/
namespace Go.Proofs.Ytbdhncaiffepoaa
open Go.RowKit

namespace Pk
/-- an error as a panic -/
def errP (c : Int) : PanicEntry := { v := .iface 28 (.int .i64 c), recovered := false }
theorem fail_any (c : Int) (w : World) : Calls Try.prog 60 #[.int .i64 c] w fun e w' => e = .panicked [errP c] ∧ w = w' := by
  go_enter Try.func60, Try.ntmps60
  go_wp2
  simp [bodyPost, errP]

theorem catch_panicking (p : Addr) (x c : Int) (older : List PanicEntry) (w : World) (hc : w.cell? p = some (.int .i64 x)) (hz : w.frozen? p = false) :
    CallsD Try.prog 58 #[.pointer (some p)] (.panicking (errP c :: older)) w fun e u' w' =>
      e = .returned (.tuple #[]) ∧ u' = .panicking ({ errP c with recovered := true } :: older) ∧ w' = w.setCell p (.int .i64 c) := by
  refine callsD_of_wpS Try.func58 rfl fun c₀ cs hu => ?_
  apply wpS_seq
  apply wpS_region
  simp [wpOpsS, go_sem, recoverD, hu, errP, Try.ntmps58, Exit.thenS]
  apply wpS_seq
  apply wpS_region
  simp [wpOpsS, go_sem, Exit.thenS]
  refine wpS_cond (t := true) (by simp [Act.eval, Array.replicate]) ?_
  simp only [if_true]
  apply wpS_region
  have hta : (Instr.typeAssert (.iface 28 (.int .i64 c)) 20 28 false).run Try.prog w = .ok (.int .i64 c) w := by kernel_rfl
  simp [wpOpsS, go_sem, hta, hc, hz, bodyPostS, results, Try.results58]

theorem catch_idle (p : Addr) (w : World) :
    CallsD Try.prog 58 #[.pointer (some p)] .returning w fun e u' w' => e = .returned (.tuple #[]) ∧ u' = .returning ∧ w' = w := by
  refine callsD_of_wpS Try.func58 rfl fun c₀ cs hu => ?_
  apply wpS_seq
  apply wpS_region
  simp [wpOpsS, go_sem, recoverD, hu, Try.ntmps58, Exit.thenS]
  apply wpS_seq
  apply wpS_region
  simp [wpOpsS, go_sem, Exit.thenS]
  refine wpS_cond (t := false) (by simp [Act.eval, Array.replicate]) ?_
  simp only [Bool.false_eq_true, if_false]
  refine wpS_of_wp (wp_skip ?_)
  cases c₀
  simp_all [bodyPostS, results, Try.results58]

/-- what is done is done, or told of by a panic: the closure's contract, over the cell that e lies in -/
theorem caught_ok (D : FuncId) (caps : Array Value) (hD : ∀ w, (callFunc D caps).run Try.prog w = .ok (.enter D caps) w) (w : World) (R : World → Prop)
    (h : Calls Try.prog D caps (w.alloc (.cells #[.int .i64 0] 28)) fun e w' => e = .returned (.tuple #[]) ∧ (w'.cell? ⟨w.heap.size, 0, none⟩ = some (.int .i64 0) ∧ w'.frozen? ⟨w.heap.size, 0, none⟩ = false) ∧ R w') :
    Calls Try.prog 42 #[.func (.func D) #[] caps] w fun e w' => e = .returned (.int .i64 0) ∧ ∃ w1, R w1 ∧ w' = w1.setCell ⟨w.heap.size, 0, none⟩ (.int .i64 0) := by
  have hmf : ∀ (fn : Fn) (first cap : Array Value) (w : World), (Instr.makeFunc fn first cap).run Try.prog w = .ok (.func fn first cap) w := fun _ _ _ _ => rfl
  have H := Lib.hid h
  clear h
  go_enter_defers Try.func42, Try.ntmps42
  go_wp2_with fail
  refine H.out.mono ?_
  rintro e w1 ⟨rfl, ⟨hc, hz⟩, hR⟩
  have HR := Lib.hid hR
  clear hR H
  go_wp2
  refine leaves_cons (f := 58) (args := #[.pointer (some ⟨w.heap.size, 0, none⟩)]) (by simp) (by simp [go_sem]) ?_
  refine (catch_idle ⟨w.heap.size, 0, none⟩ _).mono ?_
  rintro e u' w'' ⟨rfl, rfl, rfl⟩
  simp [Leaves, settle, results, Try.results42, go_sem, hc]
  exact ⟨w1, HR.out, rfl⟩
theorem caught_err (D : FuncId) (caps : Array Value) (hD : ∀ w, (callFunc D caps).run Try.prog w = .ok (.enter D caps) w) (w : World) (c : Int) (R : World → Prop)
    (h : Calls Try.prog D caps (w.alloc (.cells #[.int .i64 0] 28)) fun e w' => e = .panicked [errP c] ∧ (w'.cell? ⟨w.heap.size, 0, none⟩ = some (.int .i64 0) ∧ w'.frozen? ⟨w.heap.size, 0, none⟩ = false) ∧ R w') :
    Calls Try.prog 42 #[.func (.func D) #[] caps] w fun e w' => e = .returned (.int .i64 c) ∧ ∃ w1, R w1 ∧ w' = w1.setCell ⟨w.heap.size, 0, none⟩ (.int .i64 c) := by
  have hmf : ∀ (fn : Fn) (first cap : Array Value) (w : World), (Instr.makeFunc fn first cap).run Try.prog w = .ok (.func fn first cap) w := fun _ _ _ _ => rfl
  have H := Lib.hid h
  clear h
  go_enter_defers Try.func42, Try.ntmps42
  go_wp2_with fail
  refine H.out.mono ?_
  rintro e w1 ⟨rfl, ⟨hc, hz⟩, hR⟩
  have HR := Lib.hid hR
  clear hR H
  go_wp2
  refine leaves_cons (f := 58) (args := #[.pointer (some ⟨w.heap.size, 0, none⟩)]) (by simp) (by simp [go_sem]) ?_
  refine (catch_panicking ⟨w.heap.size, 0, none⟩ 0 c [] _ hc hz).mono ?_
  rintro e u' w'' ⟨rfl, rfl, rfl⟩
  simp [Leaves, settle, results, Try.results42, go_sem, hc]
  exact ⟨w1, HR.out, rfl⟩
end Pk
end Go.Proofs.Ytbdhncaiffepoaa

/-
  What stands ahead, read; the contract of rlp.head.
-/
namespace Go.Proofs.Ytbdhncaiffepoaa
open Go.RowKit

namespace Rl
open Pk
/-- the number of bytes, the highest first -/
def valB (l : List UInt8) : Nat := l.foldl (fun a b => a * 256 + b.toNat) 0
theorem valB_snoc (l : List UInt8) (c : UInt8) : valB (l ++ [c]) = valB l * 256 + c.toNat := by simp [valB]
theorem valB_from (l : List UInt8) : ∀ a, l.foldl (fun a b => a * 256 + b.toNat) a < (a + 1) * 256 ^ l.length := by
  induction l with
  | nil => intro a; simp
  | cons c l ih =>
    intro a
    rw [List.foldl_cons, List.length_cons, Nat.pow_succ]
    have h1 := ih (a * 256 + c.toNat)
    have h2 := c.toNat_lt
    have h3 : (a * 256 + c.toNat + 1) * 256 ^ l.length ≤ ((a + 1) * 256) * 256 ^ l.length := Nat.mul_le_mul_right _ (by omega)
    have h4 : (a + 1) * (256 ^ l.length * 256) = ((a + 1) * 256) * 256 ^ l.length := by
      rw [Nat.mul_comm (256 ^ l.length) 256, Nat.mul_assoc]
    omega
theorem valB_lt (l : List UInt8) : valB l < 256 ^ l.length := by
  have := valB_from l 0
  simpa [valB] using this

/-- what stands ahead of the item that bytes begin with: an error, or whether it is a list's, how many bytes it has, how many stand behind -/
def headE : List UInt8 → Except Int (Bool × Nat × Nat)
  | [] => .error 5
  | c :: t =>
    if c.toNat < 128 then .ok (false, 0, 1)
    else if c.toNat - (if 192 ≤ c.toNat then 192 else 128) ≤ 55 then .ok (decide (192 ≤ c.toNat), 1, c.toNat - (if 192 ≤ c.toNat then 192 else 128))
    else if t.length < c.toNat - (if 192 ≤ c.toNat then 192 else 128) - 55 then .error 5
    else if t.headD 0 = 0 ∨ valB (t.take (c.toNat - (if 192 ≤ c.toNat then 192 else 128) - 55)) ≤ 55 then .error 6
    else .ok (decide (192 ≤ c.toNat), 1 + (c.toNat - (if 192 ≤ c.toNat then 192 else 128) - 55), valB (t.take (c.toNat - (if 192 ≤ c.toNat then 192 else 128) - 55)))

/-- head tells this -/
def HeadsTo (s : ByteArray) : Except Int (Bool × Nat × Nat) → Prop
  | .error c => ∀ w, Calls Try.prog 78 #[.string s] w fun e w' => e = .panicked [errP c] ∧ w = w'
  | .ok (l, a, v) => ∀ w, Calls Try.prog 78 #[.string s] w fun e w' => e = .returned (.tuple #[.bool l, .int .i64 a, .int .u64 v]) ∧ w = w'

theorem size_len (s : ByteArray) : s.size = s.data.toList.length := by rw [Array.length_toList]; rfl
theorem get_at (s : ByteArray) (i : Nat) (h : i < s.size) : s[i] = s.data.toList.getD i 0 := by
  have h' : i < s.data.toList.length := by rw [← size_len]; exact h
  rw [List.getD_eq_getElem?_getD, List.getElem?_eq_getElem h']
  simp
  rfl

set_option maxRecDepth 100000 in
set_option maxHeartbeats 4000000 in
theorem head_nil (s : ByteArray) (h : s.data.toList = []) : HeadsTo s (.error 5) := by
  intro w
  have hs : s.size = 0 := by rw [size_len, h]; rfl
  have hnil : (s.toList == []) = true := by rw [ByteArray.toList_eq, h]; rfl
  go_enter Try.func78, Try.ntmps78
  go_wp2_with (go_at_call 60; refine (fail_any _ _).mono ?_; rintro e w1 ⟨rfl, rfl⟩)
  simp [bodyPost]

set_option maxRecDepth 100000 in
set_option maxHeartbeats 4000000 in
theorem head_text (s : ByteArray) (c : UInt8) (t : List UInt8) (h : s.data.toList = c :: t) (hc : c.toNat < 128) : HeadsTo s (.ok (false, 0, 1)) := by
  intro w
  have hs : 0 < s.size := by rw [size_len, h]; simp
  have hnil : (s.toList == []) = false := by rw [ByteArray.toList_eq, h]; rfl
  have h0 : s[0] = c := by rw [get_at s 0 hs, h]; rfl
  have hlt : s[0].toNat < 128 := by rw [h0]; exact hc
  clear h h0 hc
  go_enter Try.func78, Try.ntmps78
  go_wp2
  go_ret3
  exact ⟨rfl, rfl⟩

/-- the number that the first byte tells -/
def firstN (c : UInt8) : Nat := c.toNat - (if 192 ≤ c.toNat then 192 else 128)

set_option maxRecDepth 100000 in
set_option maxHeartbeats 4000000 in
theorem head_short (s : ByteArray) (c : UInt8) (t : List UInt8) (h : s.data.toList = c :: t) (hc : ¬ c.toNat < 128) (hn : firstN c ≤ 55) : HeadsTo s (.ok (decide (192 ≤ c.toNat), 1, firstN c)) := by
  intro w
  have hs : 0 < s.size := by rw [size_len, h]; simp
  have hnil : (s.toList == []) = false := by rw [ByteArray.toList_eq, h]; rfl
  have h0 : s[0] = c := by rw [get_at s 0 hs, h]; rfl
  clear h
  unfold firstN at hn ⊢
  by_cases h192 : 192 ≤ c.toNat
  · rw [if_pos h192] at hn ⊢
    obtain ⟨m, hm⟩ : ∃ m : Nat, c.toNat = 192 + m := ⟨c.toNat - 192, by omega⟩
    rw [← h0] at hm
    have hd : Hid (decide (192 ≤ c.toNat) = decide ((192 : Int) ≤ 192 + (m : Int))) := Lib.hid (by rw [← h0, hm]; apply decide_eq_decide.2; omega)
    have hv : Hid (((c.toNat - 192 : Nat) : Int) = 192 + (m : Int) - 192) := Lib.hid (by rw [← h0, hm]; omega)
    have hm2 : m ≤ 55 := by rw [← h0] at hn; omega
    skip
    clear h192 hn h0 hc
    go_enter Try.func78, Try.ntmps78
    go_wp2
    go_ret3
    exact ⟨by rw [hd.out, hv.out]; rfl, rfl⟩
  · rw [if_neg h192] at hn ⊢
    obtain ⟨m, hm⟩ : ∃ m : Nat, c.toNat = 128 + m := ⟨c.toNat - 128, by omega⟩
    rw [← h0] at hm
    have hd : Hid (decide (192 ≤ c.toNat) = decide ((192 : Int) ≤ 128 + (m : Int))) := Lib.hid (by rw [← h0, hm]; apply decide_eq_decide.2; omega)
    have hv : Hid (((c.toNat - 128 : Nat) : Int) = 128 + (m : Int) - 128) := Lib.hid (by rw [← h0, hm]; omega)
    have hm2 : m ≤ 55 := by rw [← h0] at hn; omega
    have hlt : m < 64 := by rw [← h0] at h192; omega
    clear h192 hn h0 hc
    go_enter Try.func78, Try.ntmps78
    go_wp2
    go_ret3
    exact ⟨by rw [hd.out, hv.out]; rfl, rfl⟩
theorem or_byte (x b : Nat) (hx : x < 72057594037927936) (hb : b < 256) : bits .or .u64 (IntKind.u64.wrap ((x : Int) * 256)) (IntKind.u64.wrap (b : Int)) = ((x * 256 + b : Nat) : Int) := by
  have e1 : IntKind.u64.wrap ((x : Int) * 256) = ((x * 256 : Nat) : Int) := by rw [IntKind.wrap_u64]; omega
  have e2 : IntKind.u64.wrap (b : Int) = ((b : Nat) : Int) := by rw [IntKind.wrap_u64]; omega
  rw [e1, e2, u64_or_nat _ _ (by omega) (by omega), nat_join 8 _ _ (by omega) (by omega)]
theorem take_next (l : List UInt8) (q : Nat) (h1 : 1 ≤ q) (hq : q < l.length) : (l.drop 1).take q = (l.drop 1).take (q - 1) ++ [l.getD q 0] := by
  have h2 : q - 1 < (l.drop 1).length := by rw [List.length_drop]; omega
  have := List.take_succ_eq_append_getElem h2
  rw [show q - 1 + 1 = q by omega] at this
  rw [this]
  congr 2
  rw [List.getElem_drop, List.getD_eq_getElem?_getD, List.getElem?_eq_getElem hq]
  simp [show 1 + (q - 1) = q by omega]
theorem pow_le7 {k n : Nat} (h : n < 256 ^ k) (hk : k ≤ 7) : n < 72057594037927936 := Nat.lt_of_lt_of_le h (Nat.pow_le_pow_right (by omega) hk)
theorem first_of' {s : ByteArray} (h : 0 < s.size) : s.data.toList.headD 0 = s[0] := by
  obtain ⟨⟨l⟩⟩ := s
  cases l with
  | nil => simp [ByteArray.size] at h
  | cons c l => rfl

set_option maxRecDepth 100000 in
set_option maxHeartbeats 4000000 in
theorem head_cutL (s : ByteArray) (m : Nat) (hm : s.data.toList.headD 0 = UInt8.ofNat (192 + m)) (h56 : 56 ≤ m) (h64 : m ≤ 63) (hs : 0 < s.size) (hcut : s.size < m - 54) : HeadsTo s (.error 5) := by
  intro w
  have hnil : (s.toList == []) = false := by
    rw [beq_eq_false_iff_ne, ByteArray.toList_eq]
    intro e
    rw [size_len, e] at hs
    simp at hs
  have h0 : s[0].toNat = 192 + m := by
    rw [← first_of' hs, hm]
    simp
    omega
  clear hm
  go_enter Try.func78, Try.ntmps78
  go_wp2_with (go_at_call 60; refine (fail_any _ _).mono ?_; rintro e w1 ⟨rfl, rfl⟩)
  simp [bodyPost]

set_option maxRecDepth 100000 in
set_option maxHeartbeats 4000000 in
theorem head_cutT (s : ByteArray) (m : Nat) (hm : s.data.toList.headD 0 = UInt8.ofNat (128 + m)) (h56 : 56 ≤ m) (h64 : m ≤ 63) (hs : 0 < s.size) (hcut : s.size < m - 54) : HeadsTo s (.error 5) := by
  intro w
  have hnil : (s.toList == []) = false := by
    rw [beq_eq_false_iff_ne, ByteArray.toList_eq]
    intro e
    rw [size_len, e] at hs
    simp at hs
  have h0 : s[0].toNat = 128 + m := by
    rw [← first_of' hs, hm]
    simp
    omega
  clear hm
  go_enter Try.func78, Try.ntmps78
  go_wp2_with (go_at_call 60; refine (fail_any _ _).mono ?_; rintro e w1 ⟨rfl, rfl⟩)
  simp [bodyPost]

set_option maxRecDepth 100000 in
set_option maxHeartbeats 8000000 in
theorem head_longL (s : ByteArray) (m : Nat) (hm : s.data.toList.headD 0 = UInt8.ofNat (192 + m)) (h56 : 56 ≤ m) (h64 : m ≤ 63) (hcut : m - 54 ≤ s.size) (hgood : s.data.toList.getD 1 0 ≠ 0 ∧ 55 < valB ((s.data.toList.drop 1).take (m - 55))) : HeadsTo s (.ok (true, m - 54, valB ((s.data.toList.drop 1).take (m - 55)))) := by
  intro w
  have hs : 0 < s.size := by omega
  have hnil : (s.toList == []) = false := by
    rw [beq_eq_false_iff_ne, ByteArray.toList_eq]
    intro e
    rw [size_len, e] at hs
    simp at hs
  have h0 : s[0].toNat = 192 + m := by
    rw [← first_of' hs, hm]
    simp
    omega
  obtain ⟨V, hV⟩ : ∃ V, valB ((s.data.toList.drop 1).take (m - 55)) = V := ⟨_, rfl⟩
  rw [hV] at hgood ⊢
  have HV := Lib.hid hV
  clear hm hV
  go_enter Try.func78, Try.ntmps78
  go_wp2
  go_loop [4, 6] (fun v i => ∃ q x : Nat, 1 ≤ q ∧ q ≤ m - 54 ∧ i = .int .i64 q ∧ v = .int .u64 x ∧ Hid (x = valB ((s.data.toList.drop 1).take (q - 1)))) (fun _ i => m - (intOf i).toNat)
  case atStart => exact ⟨1, 0, by omega, by omega, rfl, rfl, Lib.hid rfl⟩
  case round =>
    obtain ⟨q, x, hq1, hq, rfl, rfl, HX⟩ := hrel
    by_cases hlt : q < m - 54
    · have hqs : q < s.size := by omega
      have hx : x < 72057594037927936 := by
        rw [HX.out]
        exact pow_le7 (valB_lt _) (by rw [List.length_take, List.length_drop]; omega)
      have HS : Hid (bits .or .u64 ((x : Int) * 256) (IntKind.u64.wrap (s[q].toNat : Int)) = ((x * 256 + s[q].toNat : Nat) : Int)) := Lib.hid (by rw [← or_byte _ _ hx s[q].toNat_lt, show IntKind.u64.wrap ((x : Int) * 256) = (x : Int) * 256 by rw [IntKind.wrap_u64]; omega])
      have HN : Hid (x * 256 + s[q].toNat = valB ((s.data.toList.drop 1).take (q + 1 - 1))) := Lib.hid (by
        rw [show q + 1 - 1 = q by omega, take_next _ q hq1 (by rw [← size_len]; exact hqs), valB_snoc, ← HX.out, get_at s q hqs])
      go_wp2
      go_round
      case rel => exact ⟨q + 1, _, by omega, by omega, by go_num, by rw [HS.out], Lib.hid HN.out⟩
      case measure => simp [intOf]; omega
    · obtain rfl : q = m - 54 := by omega
      have hv : x = V := by rw [HX.out, ← HV.out, show m - 54 - 1 = m - 55 by omega]
      have hs1 : 1 < s.size := by omega
      have h1 : s[1].toNat ≠ 0 := by
        rw [get_at s 1 hs1]
        intro e
        exact hgood.1 (UInt8.toNat_inj.1 e)
      have hb1 : ((s[1].toNat : Int) == 0) = false := by simp; omega
      have hV := hgood.2
      subst hv
      have hA : Hid (((m - 54 : Nat) : Int) = 1 + (192 + (m : Int) - 192) - 55) := Lib.hid (by omega)
      clear HX HV hgood hlt h1
      go_wp2
      go_ret3
      exact ⟨by rw [hA.out]; rfl, rfl⟩

set_option maxRecDepth 100000 in
set_option maxHeartbeats 8000000 in
theorem head_longT (s : ByteArray) (m : Nat) (hm : s.data.toList.headD 0 = UInt8.ofNat (128 + m)) (h56 : 56 ≤ m) (h64 : m ≤ 63) (hcut : m - 54 ≤ s.size) (hgood : s.data.toList.getD 1 0 ≠ 0 ∧ 55 < valB ((s.data.toList.drop 1).take (m - 55))) : HeadsTo s (.ok (false, m - 54, valB ((s.data.toList.drop 1).take (m - 55)))) := by
  intro w
  have hs : 0 < s.size := by omega
  have hnil : (s.toList == []) = false := by
    rw [beq_eq_false_iff_ne, ByteArray.toList_eq]
    intro e
    rw [size_len, e] at hs
    simp at hs
  have h0 : s[0].toNat = 128 + m := by
    rw [← first_of' hs, hm]
    simp
    omega
  obtain ⟨V, hV⟩ : ∃ V, valB ((s.data.toList.drop 1).take (m - 55)) = V := ⟨_, rfl⟩
  rw [hV] at hgood ⊢
  have HV := Lib.hid hV
  clear hm hV
  go_enter Try.func78, Try.ntmps78
  go_wp2
  go_loop [4, 6] (fun v i => ∃ q x : Nat, 1 ≤ q ∧ q ≤ m - 54 ∧ i = .int .i64 q ∧ v = .int .u64 x ∧ Hid (x = valB ((s.data.toList.drop 1).take (q - 1)))) (fun _ i => m - (intOf i).toNat)
  case atStart => exact ⟨1, 0, by omega, by omega, rfl, rfl, Lib.hid rfl⟩
  case round =>
    obtain ⟨q, x, hq1, hq, rfl, rfl, HX⟩ := hrel
    by_cases hlt : q < m - 54
    · have hqs : q < s.size := by omega
      have hx : x < 72057594037927936 := by
        rw [HX.out]
        exact pow_le7 (valB_lt _) (by rw [List.length_take, List.length_drop]; omega)
      have HS : Hid (bits .or .u64 ((x : Int) * 256) (IntKind.u64.wrap (s[q].toNat : Int)) = ((x * 256 + s[q].toNat : Nat) : Int)) := Lib.hid (by rw [← or_byte _ _ hx s[q].toNat_lt, show IntKind.u64.wrap ((x : Int) * 256) = (x : Int) * 256 by rw [IntKind.wrap_u64]; omega])
      have HN : Hid (x * 256 + s[q].toNat = valB ((s.data.toList.drop 1).take (q + 1 - 1))) := Lib.hid (by
        rw [show q + 1 - 1 = q by omega, take_next _ q hq1 (by rw [← size_len]; exact hqs), valB_snoc, ← HX.out, get_at s q hqs])
      go_wp2
      go_round
      case rel => exact ⟨q + 1, _, by omega, by omega, by go_num, by rw [HS.out], Lib.hid HN.out⟩
      case measure => simp [intOf]; omega
    · obtain rfl : q = m - 54 := by omega
      have hv : x = V := by rw [HX.out, ← HV.out, show m - 54 - 1 = m - 55 by omega]
      have hs1 : 1 < s.size := by omega
      have h1 : s[1].toNat ≠ 0 := by
        rw [get_at s 1 hs1]
        intro e
        exact hgood.1 (UInt8.toNat_inj.1 e)
      have hb1 : ((s[1].toNat : Int) == 0) = false := by simp; omega
      have hV := hgood.2
      subst hv
      have hF : Hid (decide ((192 : Int) ≤ 128 + (m : Int)) = false) := Lib.hid (by simp; omega)
      have hA : Hid (((m - 54 : Nat) : Int) = 1 + (128 + (m : Int) - 128) - 55) := Lib.hid (by omega)
      clear HX HV hgood hlt h1
      go_wp2
      go_ret3
      refine ⟨?_, rfl⟩
      rw [hA.out]
      show Ending.returned (.tuple #[.bool (decide ((192 : Int) ≤ 128 + (m : Int))), _, _]) = _
      rw [hF.out]
      rfl

set_option maxRecDepth 100000 in
set_option maxHeartbeats 8000000 in
theorem head_badL (s : ByteArray) (m : Nat) (hm : s.data.toList.headD 0 = UInt8.ofNat (192 + m)) (h56 : 56 ≤ m) (h64 : m ≤ 63) (hcut : m - 54 ≤ s.size) (hbad : s.data.toList.getD 1 0 = 0 ∨ valB ((s.data.toList.drop 1).take (m - 55)) ≤ 55) : HeadsTo s (.error 6) := by
  intro w
  have hs : 0 < s.size := by omega
  have hnil : (s.toList == []) = false := by
    rw [beq_eq_false_iff_ne, ByteArray.toList_eq]
    intro e
    rw [size_len, e] at hs
    simp at hs
  have h0 : s[0].toNat = 192 + m := by
    rw [← first_of' hs, hm]
    simp
    omega
  obtain ⟨V, hV⟩ : ∃ V, valB ((s.data.toList.drop 1).take (m - 55)) = V := ⟨_, rfl⟩
  rw [hV] at hbad
  have HV := Lib.hid hV
  clear hm hV
  go_enter Try.func78, Try.ntmps78
  go_wp2
  go_loop [4, 6] (fun v i => ∃ q x : Nat, 1 ≤ q ∧ q ≤ m - 54 ∧ i = .int .i64 q ∧ v = .int .u64 x ∧ Hid (x = valB ((s.data.toList.drop 1).take (q - 1)))) (fun _ i => m - (intOf i).toNat)
  case atStart => exact ⟨1, 0, by omega, by omega, rfl, rfl, Lib.hid rfl⟩
  case round =>
    obtain ⟨q, x, hq1, hq, rfl, rfl, HX⟩ := hrel
    by_cases hlt : q < m - 54
    · have hqs : q < s.size := by omega
      have hx : x < 72057594037927936 := by
        rw [HX.out]
        exact pow_le7 (valB_lt _) (by rw [List.length_take, List.length_drop]; omega)
      have HS : Hid (bits .or .u64 ((x : Int) * 256) (IntKind.u64.wrap (s[q].toNat : Int)) = ((x * 256 + s[q].toNat : Nat) : Int)) := Lib.hid (by rw [← or_byte _ _ hx s[q].toNat_lt, show IntKind.u64.wrap ((x : Int) * 256) = (x : Int) * 256 by rw [IntKind.wrap_u64]; omega])
      have HN : Hid (x * 256 + s[q].toNat = valB ((s.data.toList.drop 1).take (q + 1 - 1))) := Lib.hid (by
        rw [show q + 1 - 1 = q by omega, take_next _ q hq1 (by rw [← size_len]; exact hqs), valB_snoc, ← HX.out, get_at s q hqs])
      go_wp2
      go_round
      case rel => exact ⟨q + 1, _, by omega, by omega, by go_num, by rw [HS.out], Lib.hid HN.out⟩
      case measure => simp [intOf]; omega
    · obtain rfl : q = m - 54 := by omega
      have hv : x = V := by rw [HX.out, ← HV.out, show m - 54 - 1 = m - 55 by omega]
      have hs1 : 1 < s.size := by omega
      have h1 : s[1].toNat = 0 ∨ x ≤ 55 := by
        rw [get_at s 1 hs1, hv]
        rcases hbad with h | h
        · exact .inl (by rw [h]; rfl)
        · exact .inr h
      subst hv
      clear HX HV hbad hlt
      by_cases hz : s[1].toNat = 0
      · have hb1 : ((s[1].toNat : Int) == 0) = true := by simp; omega
        clear hz h1
        go_wp2_with (go_at_call 60; refine (fail_any _ _).mono ?_; rintro e w1 ⟨rfl, rfl⟩)
        simp [bodyPost]
      · have hb1 : ((s[1].toNat : Int) == 0) = false := by simp; omega
        have hx55 : x ≤ 55 := by omega
        clear hz h1
        go_wp2_with (go_at_call 60; refine (fail_any _ _).mono ?_; rintro e w1 ⟨rfl, rfl⟩)
        simp [bodyPost]

set_option maxRecDepth 100000 in
set_option maxHeartbeats 8000000 in
theorem head_badT (s : ByteArray) (m : Nat) (hm : s.data.toList.headD 0 = UInt8.ofNat (128 + m)) (h56 : 56 ≤ m) (h64 : m ≤ 63) (hcut : m - 54 ≤ s.size) (hbad : s.data.toList.getD 1 0 = 0 ∨ valB ((s.data.toList.drop 1).take (m - 55)) ≤ 55) : HeadsTo s (.error 6) := by
  intro w
  have hs : 0 < s.size := by omega
  have hnil : (s.toList == []) = false := by
    rw [beq_eq_false_iff_ne, ByteArray.toList_eq]
    intro e
    rw [size_len, e] at hs
    simp at hs
  have h0 : s[0].toNat = 128 + m := by
    rw [← first_of' hs, hm]
    simp
    omega
  obtain ⟨V, hV⟩ : ∃ V, valB ((s.data.toList.drop 1).take (m - 55)) = V := ⟨_, rfl⟩
  rw [hV] at hbad
  have HV := Lib.hid hV
  clear hm hV
  go_enter Try.func78, Try.ntmps78
  go_wp2
  go_loop [4, 6] (fun v i => ∃ q x : Nat, 1 ≤ q ∧ q ≤ m - 54 ∧ i = .int .i64 q ∧ v = .int .u64 x ∧ Hid (x = valB ((s.data.toList.drop 1).take (q - 1)))) (fun _ i => m - (intOf i).toNat)
  case atStart => exact ⟨1, 0, by omega, by omega, rfl, rfl, Lib.hid rfl⟩
  case round =>
    obtain ⟨q, x, hq1, hq, rfl, rfl, HX⟩ := hrel
    by_cases hlt : q < m - 54
    · have hqs : q < s.size := by omega
      have hx : x < 72057594037927936 := by
        rw [HX.out]
        exact pow_le7 (valB_lt _) (by rw [List.length_take, List.length_drop]; omega)
      have HS : Hid (bits .or .u64 ((x : Int) * 256) (IntKind.u64.wrap (s[q].toNat : Int)) = ((x * 256 + s[q].toNat : Nat) : Int)) := Lib.hid (by rw [← or_byte _ _ hx s[q].toNat_lt, show IntKind.u64.wrap ((x : Int) * 256) = (x : Int) * 256 by rw [IntKind.wrap_u64]; omega])
      have HN : Hid (x * 256 + s[q].toNat = valB ((s.data.toList.drop 1).take (q + 1 - 1))) := Lib.hid (by
        rw [show q + 1 - 1 = q by omega, take_next _ q hq1 (by rw [← size_len]; exact hqs), valB_snoc, ← HX.out, get_at s q hqs])
      go_wp2
      go_round
      case rel => exact ⟨q + 1, _, by omega, by omega, by go_num, by rw [HS.out], Lib.hid HN.out⟩
      case measure => simp [intOf]; omega
    · obtain rfl : q = m - 54 := by omega
      have hv : x = V := by rw [HX.out, ← HV.out, show m - 54 - 1 = m - 55 by omega]
      have hs1 : 1 < s.size := by omega
      have h1 : s[1].toNat = 0 ∨ x ≤ 55 := by
        rw [get_at s 1 hs1, hv]
        rcases hbad with h | h
        · exact .inl (by rw [h]; rfl)
        · exact .inr h
      subst hv
      clear HX HV hbad hlt
      by_cases hz : s[1].toNat = 0
      · have hb1 : ((s[1].toNat : Int) == 0) = true := by simp; omega
        clear hz h1
        go_wp2_with (go_at_call 60; refine (fail_any _ _).mono ?_; rintro e w1 ⟨rfl, rfl⟩)
        simp [bodyPost]
      · have hb1 : ((s[1].toNat : Int) == 0) = false := by simp; omega
        have hx55 : x ≤ 55 := by omega
        clear hz h1
        go_wp2_with (go_at_call 60; refine (fail_any _ _).mono ?_; rintro e w1 ⟨rfl, rfl⟩)
        simp [bodyPost]

set_option maxRecDepth 100000 in
/-- head, of any bytes -/
theorem head_tells (s : ByteArray) : HeadsTo s (headE s.data.toList) := by
  obtain ⟨l, hl⟩ : ∃ l, s.data.toList = l := ⟨_, rfl⟩
  cases l with
  | nil => rw [hl]; exact head_nil s hl
  | cons c t =>
    have hsz : s.size = t.length + 1 := by rw [size_len, hl]; rfl
    have hh : s.data.toList.headD 0 = c := by rw [hl]; rfl
    have hd1 : s.data.toList.drop 1 = t := by rw [hl]; rfl
    have hg1 : s.data.toList.getD 1 0 = t.headD 0 := by rw [hl]; cases t <;> rfl
    have hc := c.toNat_lt
    have hof : ∀ k, c.toNat = k → c = UInt8.ofNat k := fun k e => by rw [← e]; simp
    rw [hl]
    dsimp only [headE]
    by_cases h1 : c.toNat < 128
    · rw [if_pos h1]; exact head_text s c t hl h1
    · rw [if_neg h1]
      by_cases h2 : c.toNat - (if 192 ≤ c.toNat then 192 else 128) ≤ 55
      · rw [if_pos h2]; exact head_short s c t hl h1 h2
      · rw [if_neg h2]
        by_cases h192 : 192 ≤ c.toNat
        · simp only [if_pos h192, decide_eq_true h192] at h2 ⊢
          have hcm : c = UInt8.ofNat (192 + (c.toNat - 192)) := hof _ (by omega)
          by_cases h3 : t.length < c.toNat - 192 - 55
          · rw [if_pos h3]
            exact head_cutL s (c.toNat - 192) (by rw [hh]; exact hcm) (by omega) (by omega) (by omega) (by omega)
          · rw [if_neg h3]
            by_cases h4 : t.headD 0 = 0 ∨ valB (t.take (c.toNat - 192 - 55)) ≤ 55
            · rw [if_pos h4]
              exact head_badL s (c.toNat - 192) (by rw [hh]; exact hcm) (by omega) (by omega) (by omega) (by rw [hd1, hg1]; exact h4)
            · rw [if_neg h4]
              have := head_longL s (c.toNat - 192) (by rw [hh]; exact hcm) (by omega) (by omega) (by omega) (by
                rw [hd1, hg1]
                exact ⟨fun e => h4 (.inl e), by omega⟩)
              rw [hd1, show c.toNat - 192 - 54 = 1 + (c.toNat - 192 - 55) by omega] at this
              exact this
        · simp only [if_neg h192, decide_eq_false h192] at h2 ⊢
          have hcm : c = UInt8.ofNat (128 + (c.toNat - 128)) := hof _ (by omega)
          by_cases h3 : t.length < c.toNat - 128 - 55
          · rw [if_pos h3]
            exact head_cutT s (c.toNat - 128) (by rw [hh]; exact hcm) (by omega) (by omega) (by omega) (by omega)
          · rw [if_neg h3]
            by_cases h4 : t.headD 0 = 0 ∨ valB (t.take (c.toNat - 128 - 55)) ≤ 55
            · rw [if_pos h4]
              exact head_badT s (c.toNat - 128) (by rw [hh]; exact hcm) (by omega) (by omega) (by omega) (by rw [hd1, hg1]; exact h4)
            · rw [if_neg h4]
              have := head_longT s (c.toNat - 128) (by rw [hh]; exact hcm) (by omega) (by omega) (by omega) (by
                rw [hd1, hg1]
                exact ⟨fun e => h4 (.inl e), by omega⟩)
              rw [hd1, show c.toNat - 128 - 54 = 1 + (c.toNat - 128 - 55) by omega] at this
              exact this
end Rl
end Go.Proofs.Ytbdhncaiffepoaa

/-
  Regions that draw their order, walked by hand: one operation at a time, over the list of operations; operations whose run is known.
-/
namespace Go.Proofs.Ytbdhncaiffepoaa
open Go.RowKit

namespace Rg
/-- the operation at a place of a region -/
def nthO : List Oper → Nat → Option Oper
  | [], _ => none
  | o :: _, 0 => some o
  | _ :: l, n + 1 => nthO l n
theorem nthO_eq : ∀ (l : List Oper) (n : Nat), l[n]? = nthO l n
  | [], _ => by simp [nthO]
  | _ :: _, 0 => by simp [nthO]
  | _ :: l, n + 1 => by simpa [nthO] using nthO_eq l n
/-- an operation is taken first that yields its value in every world that meets S -/
theorem takeL {P : Program} {md : Region.Mode} {l : List Oper} {Q : Exit → Act → World → Prop} {S : World → Prop} {i : Nat} {oi : Oper} {v : Value} {fuel : Nat} {listed : Array Bool} {a : Act} {w : World} (hi : nthO l i = some oi)
    (hs : Region.noSelect l.toArray = true) (hf : Region.free md l.toArray listed i = true) (hr : (Region.ready md l.toArray listed).contains i = true)
    (hQ : ∀ c a w, Q (.panic c) (a.put oi.dst v) w → Q (.panic c) a w) (hy : YieldsIf P l.toArray S oi v a) (hS : S w)
    (h : wpAnyH P md l.toArray Q S fuel (listed.setIfInBounds i true) (a.put oi.dst v) w) : wpAnyH P md l.toArray Q S (fuel + 1) listed a w :=
  wpAnyH_take (by rw [List.getElem?_toArray, nthO_eq]; exact hi) hs hf hr hQ hy hS h
/-- the one operation that may come up -/
theorem readyL {P : Program} {md : Region.Mode} {l : List Oper} {Q : Exit → Act → World → Prop} {S : World → Prop} {fuel : Nat} {listed : Array Bool} {a : Act} {w : World} {i : Nat} {o : Oper} (ho : nthO l i = some o)
    (h : ∀ K' : Act → World → Prop, Shut (∀ a w, S w → (S w → wpAnyH P md l.toArray Q S fuel (listed.setIfInBounds i true) a w) → K' a w) → if Region.wanted o (yielded l.toArray a.tmps) = true then Oper.wp P o a w K' Q else K' (a.put o.dst undef) w) : AllReadyH P md l.toArray Q S fuel listed a w [i] :=
  AllReadyH.cons (by rw [List.getElem?_toArray, nthO_eq]; exact ho) h AllReadyH.nil
/-- .. and those that may come up besides -/
theorem readyC {P : Program} {md : Region.Mode} {l : List Oper} {Q : Exit → Act → World → Prop} {S : World → Prop} {fuel : Nat} {listed : Array Bool} {a : Act} {w : World} {i : Nat} {rs : List Nat} {o : Oper} (ho : nthO l i = some o)
    (h : ∀ K' : Act → World → Prop, Shut (∀ a w, S w → (S w → wpAnyH P md l.toArray Q S fuel (listed.setIfInBounds i true) a w) → K' a w) → if Region.wanted o (yielded l.toArray a.tmps) = true then Oper.wp P o a w K' Q else K' (a.put o.dst undef) w)
    (hs : AllReadyH P md l.toArray Q S fuel listed a w rs) : AllReadyH P md l.toArray Q S fuel listed a w (i :: rs) :=
  AllReadyH.cons (by rw [List.getElem?_toArray, nthO_eq]; exact ho) h hs
/-- an operation whose run is known, met -/
theorem meet {P : Program} {o : Oper} {a : Act} {w : World} {K : Act → World → Prop} {Q : Exit → Act → World → Prop} {ops : Array Oper} (hw : Region.wanted o (yielded ops a.tmps) = true) (v : Value) (w' : World)
    (hr : (execOp a.eval o).run P w = .ok (.value v) w') (h : K (a.put o.dst v) w') : if Region.wanted o (yielded ops a.tmps) = true then Oper.wp P o a w K Q else K (a.put o.dst undef) w := by
  rw [if_pos hw]
  unfold Oper.wp
  rw [hr]
  exact h
theorem want {P : Program} {o : Oper} {a : Act} {w : World} {K : Act → World → Prop} {Q : Exit → Act → World → Prop} {ops : Array Oper} (hw : Region.wanted o (yielded ops a.tmps) = true)
    (h : Oper.wp P o a w K Q) : if Region.wanted o (yielded ops a.tmps) = true then Oper.wp P o a w K Q else K (a.put o.dst undef) w := by
  rw [if_pos hw]
  exact h
/-- a block of the call's own, known whole -/
def Own (w : World) (b : Nat) (cs : Array Value) (T : TypeId) : Prop := b < w.heap.size ∧ w.heap[b]? = some (.cells cs T (0, 0))
theorem Own.below {w w' : World} {b : Nat} {cs : Array Value} {T : TypeId} (h : Own w b cs T) (hb : Below w.heap.size w w') : Own w' b cs T :=
  ⟨Nat.lt_of_lt_of_le h.1 hb.size, (hb.block _ h.1).trans h.2⟩
theorem Own.new (w : World) (cs : Array Value) (T : TypeId) : Own (w.alloc (.cells cs T)) w.heap.size cs T :=
  ⟨by simp, by show (w.heap.push _)[w.heap.size]? = _; simp⟩
theorem Own.drew {w : World} {b : Nat} {cs : Array Value} {T : TypeId} (h : Own w b cs T) : Own w.drew b cs T := h
/-- block b alone is turned -/
structure Upd (w : World) (b : Nat) (w' : World) : Prop where
  os : w'.os = w.os
  tape : w'.tape = w.tape
  output : w'.output = w.output
  size : w'.heap.size = w.heap.size
  block : ∀ k, k ≠ b → w'.heap[k]? = w.heap[k]?
theorem Own.upd {w w' : World} {b b' : Nat} {cs : Array Value} {T : TypeId} (h : Own w b cs T) (hu : Upd w b' w') (hne : b ≠ b') : Own w' b cs T :=
  ⟨by rw [hu.size]; exact h.1, (hu.block _ hne).trans h.2⟩
theorem Upd.below {B : Nat} {w0 w w' : World} {b : Nat} (hu : Upd w b w') (h : Below B w0 w) (hB : B ≤ b) : Below B w0 w' :=
  ⟨hu.os.trans h.os, hu.tape.trans h.tape, hu.output.trans h.output, by rw [hu.size]; exact h.size, fun k hk => (hu.block k (by omega)).trans (h.block k hk)⟩
theorem Upd.set (w : World) (b : Nat) (cs : Array Value) : Upd w b (w.setRow b cs) :=
  ⟨rfl, rfl, rfl, by simp, fun k hk => setRow_other w b k cs hk⟩
/-- a block is made: the world behind it is a letter -/
theorem meetAlloc {P : Program} {o : Oper} {a : Act} {w : World} {K : Act → World → Prop} {Q : Exit → Act → World → Prop} {ops : Array Oper} (hw : Region.wanted o (yielded ops a.tmps) = true) {cs : Array Value} {T : TypeId}
    (hr : (execOp a.eval o).run P w = .ok (.value (.pointer (some ⟨w.heap.size, 0, none⟩))) (w.alloc (.cells cs T)))
    (h : ∀ w' b, b = w.heap.size → Own w' b cs T → Below w.heap.size w w' → K (a.put o.dst (.pointer (some ⟨b, 0, none⟩))) w') : if Region.wanted o (yielded ops a.tmps) = true then Oper.wp P o a w K Q else K (a.put o.dst undef) w :=
  meet hw _ _ hr (h _ _ rfl (Own.new _ _ _) ((Below.refl _ _).alloc (Nat.le_refl _) _))
/-- a block of the call's own is written whole -/
theorem meetStore {P : Program} {o : Oper} {a : Act} {w : World} {K : Act → World → Prop} {Q : Exit → Act → World → Prop} {ops : Array Oper} (hw : Region.wanted o (yielded ops a.tmps) = true) {g : Nat} {old : Array Value} {T : TypeId} (hg : Own w g old T)
    (ty : TypeId) (cells : Array Value) (ho : ∃ x y, o.op = .store ty x y ∧ a.eval x = .pointer (some ⟨g, 0, none⟩) ∧ a.eval y = .agg cells)
    (hi : (P.info? ty).map (·.size) = some cells.size) (hold : old.size = cells.size) (h1 : cells.all (·.oneCell') = true)
    (h : ∀ w', Own w' g cells T → Upd w g w' → K (a.put o.dst undef) w') : if Region.wanted o (yielded ops a.tmps) = true then Oper.wp P o a w K Q else K (a.put o.dst undef) w := by
  obtain ⟨x, y, ho, hx, hy⟩ := ho
  exact want hw (wp_store_row ty x y ho g cells hx hy T old hg.2 hi hold h1 (h _ ⟨by simp; exact hg.1, setRow_heap _ _ _ _ _ _ hg.2⟩ (Upd.set _ _ _)))
/-- another S from here on, that says more -/
theorem moreS {P : Program} {md : Region.Mode} {ops : Array Oper} {Q : Exit → Act → World → Prop} {S S' : World → Prop} (hi : ∀ w, S' w → S w) :
    ∀ {fuel : Nat} {listed : Array Bool} {a : Act} {w : World}, wpAnyH P md ops Q S' fuel listed a w → wpAnyH P md ops Q S fuel listed a w
  | 0, _, _, _, h => h
  | _ + 1, _, _, _, h => ⟨h.1, fun i hr => wpOp_mono (fun _ w' h' => ⟨hi w' h'.1, moreS hi h'.2⟩) (h.2 i hr)⟩

/-- an operation whose run is known; one of a guarded place -/
theorem run {P : Program} {w : World} {ops : Array Oper} {rest : List Oper} {o : Oper} {a : Act} {Q : Exit → Act → World → Prop} (hgd : o.guard = none) (v : Value) (w' : World)
    (hr : (execOp a.eval o).run P w = .ok (.value v) w') (h : wpList P ops Q rest (a.put o.dst v) w') : wpList P ops Q (o :: rest) a w :=
  wpList_plain hgd fun K hK => by
    unfold Oper.wp
    rw [hr]
    exact hK _ _ h
theorem runW {P : Program} {w : World} {ops : Array Oper} {rest : List Oper} {o : Oper} {a : Act} {Q : Exit → Act → World → Prop} (hw : Region.wanted o (yielded ops a.tmps) = true) (v : Value) (w' : World)
    (hr : (execOp a.eval o).run P w = .ok (.value v) w') (h : wpList P ops Q rest (a.put o.dst v) w') : wpList P ops Q (o :: rest) a w :=
  wpList_step fun K hK => by
    rw [if_pos hw]
    unfold Oper.wp
    rw [hr]
    exact hK _ _ h
end Rg
end Go.Proofs.Ytbdhncaiffepoaa

/-
  The contract of slices.Reverse over a row of bytes of the call's own.
-/
namespace Go.Proofs.Ytbdhncaiffepoaa
open Go.RowKit

namespace Rv
/-- behind so many exchanges -/
def turned (f : Nat → Value) (n k : Nat) : Nat → Value := fun j => if j < n ∧ (j < k ∨ n - 1 - j < k) then f (n - 1 - j) else f j
theorem turned_zero (f : Nat → Value) (n : Nat) : turned f n 0 = f := by
  funext j
  simp [turned]
theorem turned_step (f : Nat → Value) (n k : Nat) (h : k < n - 1 - k) (j : Nat) :
    (if j = n - 1 - k then turned f n k k else if j = k then turned f n k (n - 1 - k) else turned f n k j) = turned f n (k + 1) j := by
  unfold turned
  repeat' split
  all_goals first | rfl | (congr 1; omega) | omega
theorem turned_int (f : Nat → Value) (n k : Nat) (hf : ∀ j, j < n → ∃ z : Int, f j = .int .u8 z) (j : Nat) (hj : j < n) : ∃ z : Int, turned f n k j = .int .u8 z := by
  unfold turned
  split
  · exact hf _ (by omega)
  · exact hf _ hj
theorem turned_end (f : Nat → Value) (n k : Nat) (h : ¬ k < n - 1 - k) (j : Nat) (hj : j < n) : turned f n k j = f (n - 1 - j) := by
  unfold turned
  split
  · rfl
  · congr 1; omega

theorem turned_all (f : Nat → Value) (n k : Nat) (h : ¬ k < n - 1 - k) (j : Nat) : turned f n k j = turned f n n j := by
  unfold turned
  repeat' split
  all_goals first | rfl | (congr 1; omega) | omega
theorem upd_set {w w1 : World} {g : Nat} (h : Rg.Upd w g w1) (i : Nat) (v : Value) : Rg.Upd w g (w1.setCell ⟨g, i, none⟩ v) :=
  ⟨h.os, h.tape, h.output, by rw [← h.size]; simp, fun k hk => (Below.heap_setCell w1 ⟨g, i, none⟩ v k hk).trans (h.block k hk)⟩
theorem upd_drew {w w1 : World} {g : Nat} (h : Rg.Upd w g w1) : Rg.Upd w g w1.drew := ⟨h.os, h.tape, h.output, h.size, h.block⟩
theorem step {w wr : World} {g n cap k m : Nat} {T : TypeId} {f : Nat → Value} (h : wr.rowIs g T cap (turned f n k) ∧ Rg.Upd w g wr) (hk : k < m) (hm : m + 1 + k = n) {x y : Value} (hx : turned f n k k = x) (hy : turned f n k m = y) :
    ((wr.setCell ⟨g, k, none⟩ y).setCell ⟨g, m, none⟩ x).drew.rowIs g T cap (turned f n (k + 1)) ∧ Rg.Upd w g ((wr.setCell ⟨g, k, none⟩ y).setCell ⟨g, m, none⟩ x).drew := by
  refine ⟨(((h.1.set k y).set m x).congr (fun j _ => ?_)).drew, upd_drew (upd_set (upd_set h.2 k y) m x)⟩
  rw [← turned_step f n k (by omega) j, hx, show n - 1 - k = m by omega, hy]

set_option maxHeartbeats 4000000 in
theorem reverse_any (g n cap : Nat) (T : TypeId) (f : Nat → Value) (h0 : 0 < n) (hn : n ≤ cap) (hcap : cap ≤ maxLen) (w : World) (h : w.rowIs g T cap f) (hf : ∀ j, j < n → ∃ z : Int, f j = .int .u8 z) :
    Calls Try.prog 87 #[.slice (some ⟨g, 0, none⟩) n cap] w fun e w' => e = .returned (.tuple #[]) ∧ w'.rowIs g T cap (turned f n n) ∧ Rg.Upd w g w' := by
  unfold maxLen at hcap
  go_enter Try.func87, Try.ntmps87
  go_wp2
  go_loopw [2, 3] (fun i j wr => ∃ k m : Nat, 2 * k ≤ n ∧ m + 1 + k = n ∧ i = .int .i64 k ∧ j = .int .i64 m ∧ Hid (wr.rowIs g T cap (turned f n k) ∧ Rg.Upd w g wr)) (fun i _ _ => n - (intOf i).toNat)
  case atStart => exact ⟨0, n - 1, by omega, by omega, by go_num, by go_num, Lib.hid ⟨by rw [turned_zero]; exact h, rfl, rfl, rfl, rfl, fun _ _ => rfl⟩⟩
  case round =>
    obtain ⟨k, m, hk, hm, rfl, rfl, HR⟩ := hrel
    clear h
    by_cases hlt : k < m
    · obtain ⟨hr, hu⟩ := HR.out
      have ci := hr.cell (i := k) (by omega)
      have cj := hr.cell (i := m) (by omega)
      have fi := hr.frozen k
      have fj := hr.frozen m
      clear hr hu
      obtain ⟨x, hx⟩ := turned_int f n k hf k (by omega)
      obtain ⟨y, hy⟩ := turned_int f n k hf m (by omega)
      rw [hx] at ci
      rw [hy] at cj
      have HX := Lib.hid hx
      have HY := Lib.hid hy
      clear hx hy hf
      go_wp2_with fail
      go_region
      go_wp2
      go_roundw
      case rel => exact ⟨k + 1, m - 1, by omega, by omega, by go_num, by go_num, Lib.hid (step HR.out hlt hm HX.out HY.out)⟩
      case measure => simp [intOf]; omega
    · obtain ⟨hr, hu⟩ := HR.out
      have HE := Lib.hid hr
      have HU := Lib.hid hu
      clear hr hu HR
      go_wp2
      go_end0
      exact ⟨rfl, HE.out.congr (fun j _ => turned_all f n k (by omega) j), HU.out⟩
end Rv
end Go.Proofs.Ytbdhncaiffepoaa

/-
  Contracts of slices.Grow of nothing, and of slices.Concat, over slices of bytes.
-/
namespace Go.Proofs.Ytbdhncaiffepoaa
set_option maxRecDepth 20000
open Go.RowKit

namespace Cc
theorem info_u8 : (Try.prog.info? 5).map (fun i => (i.zero, i.size, i.bytes)) = some (some (.int .u8 0), 1, 1) := by kernel_rfl
/-- an empty slice of the call's own -/
def GotRow (w : World) (l : List UInt8) (e : Ending) (w' : World) : Prop :=
  ∃ v, e = .returned v ∧ w'.ownsRow w.heap.size 5 1 v l.length (l.map fun x => Value.int .u8 x.toNat) ∧ Below w.heap.size w w'

theorem grow_zero (w : World) :
    Calls Try.prog 85 #[.slice none 0 0, .int .i64 0] w (GotRow w []) := by
  go_enter Try.func85, Try.ntmps85
  go_wp2
  go_ret
  exact ⟨_, rfl, World.ownsRow_nil _ _ _ _, Below.refl _ _⟩

set_option maxHeartbeats 400000 in
theorem grow_pos (n : Nat) (h0 : 0 < n) (hn : n ≤ 1099511627776) (w : World) :
    Calls Try.prog 85 #[.slice none 0 0, .int .i64 n] w (GotRow w []) := by
  obtain ⟨i0, hi, hz0, hz1, hz2⟩ := info_parts info_u8
  have hr := Lib.run_append_nil_zeros (P := Try.prog) w 22 3 22 5 i0 (.int .u8 0) .i64 .i64 Try.underlying22 Try.underlying3 hi hz0 n h0 (by omega) (by omega) (by rw [hz2]; omega)
  have hge := grownCap_ge w n 0 5
  have hle := grownCap_le_maxLen w n 0 5 (by unfold maxLen; omega)
  have HO : Hid ((w.drew.alloc (.cells (Builtin.zeroCells (Value.int IntKind.u8 0).cells n ++ Builtin.zeroCells (Value.int IntKind.u8 0).cells (grownCap w n 0 5 - n)) 5)).ownsRow w.heap.size 5 1 (.slice (some ⟨w.heap.size, 0, none⟩) 0 (grownCap w n 0 5)) 0 []) := Lib.hid (by
    refine ⟨rfl, .inr ⟨w.heap.size, _, _, rfl, Nat.le_refl _, heap_alloc_new w.drew _, Nat.zero_le _, hle, ?_, by simp⟩⟩
    have hz1 : (Value.int IntKind.u8 0).cells.size = 1 := rfl
    simp only [Array.size_append, size_zeroCells, hz1]
    omega)
  obtain ⟨c, hc⟩ : ∃ c, grownCap w n 0 5 = c := ⟨_, rfl⟩
  rw [hc] at hr hge hle HO
  obtain ⟨o, ho⟩ : ∃ o, Obj.cells (Builtin.zeroCells (Value.int IntKind.u8 0).cells n ++ Builtin.zeroCells (Value.int IntKind.u8 0).cells (c - n)) 5 = o := ⟨_, rfl⟩
  rw [ho] at hr HO
  have HR := Lib.hid hr
  clear hr ho hc hi hz0 hz1 hz2
  unfold maxLen at hle
  go_enter Try.func85, Try.ntmps85
  go_wp2_with (at_builtin; refine Lib.wpList_append_run _ rfl _ _ _ _ rfl _ _ rfl rfl _ _ HR.out ?_)
  go_wp2
  go_ret
  exact ⟨_, rfl, HO.out, (Below.drew (Below.refl _ _)).alloc (Nat.le_refl _) _⟩

theorem grow_any (n : Nat) (hn : n ≤ 1099511627776) (w : World) :
    Calls Try.prog 85 #[.slice none 0 0, .int .i64 n] w (GotRow w []) := by
  by_cases h0 : n = 0
  · subst h0; exact grow_zero w
  · exact grow_pos n (by omega) hn w

/-- slices of bytes in a row -/
def IsRows (w : World) (a : Option Addr) (n : Nat) (ls : List (List UInt8)) : Prop :=
  ls.length = n ∧ ∀ j, j < n → ∃ b off, a = some ⟨b, off, none⟩ ∧ b < w.heap.size ∧ ∃ a' n' c', w.cell? ⟨b, off + j, none⟩ = some (.slice a' n' c') ∧ IsBs w a' n' c' (ls.getD j [])
/-- all of the first k, one behind the other -/
def joinK (ls : List (List UInt8)) (k : Nat) : List UInt8 := (ls.take k).flatten
theorem joinK_snoc (ls : List (List UInt8)) (k : Nat) (h : k < ls.length) : joinK ls (k + 1) = joinK ls k ++ ls.getD k [] := by
  unfold joinK
  have e : ls.getD k [] = ls[k] := by simp [List.getD, h]
  rw [List.take_succ_eq_append_getElem h, e, List.flatten_append]
  congr 1
  exact List.append_nil _
theorem joinK_le (ls : List (List UInt8)) (k : Nat) : (joinK ls k).length ≤ ls.flatten.length := by
  unfold joinK
  conv => rhs; rw [← List.take_append_drop k ls]
  rw [List.flatten_append, List.length_append]
  exact Nat.le_add_right _ _

theorem news_cells {w : World} {a : Option Addr} {n cap : Nat} {l : List UInt8} (h : IsBs w a n cap l) (ad : Addr) (ha : a = some ad) :
    ∀ j u, (l.map fun x => Value.int .u8 x.toNat)[j]? = some u → w.cell? (ad.add j) = some u := by
  intro j u hu
  have hl := h.len
  have hj : j < n := by
    rcases Nat.lt_or_ge j n with h' | h'
    · exact h'
    · rw [List.getElem?_eq_none (by simp [hl]; exact h')] at hu; cases hu
  obtain ⟨b, off, h1, _, h3⟩ := h.at' j hj
  rw [ha] at h1
  injection h1 with h1
  subst h1
  have e : (⟨b, off, none⟩ : Addr).add j = ⟨b, off + j, none⟩ := by unfold Addr.add; split <;> simp_all
  rw [e, h3]
  rw [← hu]
  simp [List.getD, hl, hj]

set_option maxHeartbeats 1000000 in
theorem concat_any (a : Option Addr) (n cap : Nat) (ls : List (List UInt8)) (hn : n ≤ 1000000) (hL : ls.flatten.length ≤ 1099511627776) (w : World) (h : IsRows w a n ls) :
    Calls Try.prog 77 #[.slice a n cap] w (GotRow w ls.flatten) := by
  have H := Lib.hid h
  have HN := Lib.hid h.1
  have HL := Lib.hid hL
  obtain ⟨i0, hi, hz0, hz1, hz2⟩ := info_parts info_u8
  have HI : Hid (_ ∧ _ ∧ _ ∧ _) := Lib.hid ⟨hi, hz0, hz1, hz2⟩
  clear h hL hi hz0 hz1 hz2
  go_enter Try.func77, Try.ntmps77
  go_wp2
  go_loop [3, 11] (fun s i => ∃ k : Nat, k ≤ n ∧ i = .int .i64 k ∧ s = .int .i64 ((joinK ls k).length : Nat)) (fun _ i => n - (intOf i).toNat)
  case atStart => exact ⟨0, Nat.zero_le _, rfl, rfl⟩
  case round =>
    obtain ⟨k, hk, rfl, rfl⟩ := hrel
    by_cases hlt : k < n
    · obtain ⟨b, off, rfl, hb, a', n', c', hc, hx⟩ := H.out.2 k hlt
      have hj := joinK_snoc ls k (by rw [HN.out]; exact hlt)
      have hl1 := joinK_le ls (k + 1)
      have hl2 := HL.out
      have hxl := hx.len
      have hs : (joinK ls (k + 1)).length = (joinK ls k).length + n' := by rw [hj, List.length_append, hxl]
      obtain ⟨p, hp⟩ : ∃ p, (joinK ls k).length = p := ⟨_, rfl⟩
      have hpn : p + n' ≤ 1099511627776 := by omega
      rw [hp] at hs ⊢
      have HS := Lib.hid hs
      clear hs hj hl1 hl2 hxl hp hx
      go_wp2
      go_round
      case rel => exact ⟨k + 1, by omega, by go_num, by rw [HS.out]; go_num⟩
      case measure => simp [intOf]; omega
    · obtain rfl : k = n := by omega
      have hlen : (joinK ls k).length ≤ 1099511627776 := Nat.le_trans (joinK_le ls k) HL.out
      clear hlt hk
      obtain ⟨p, hp⟩ : ∃ p, (joinK ls k).length = p := ⟨_, rfl⟩
      rw [hp] at hlen ⊢
      clear hp
      go_wp2_with fail
      refine (grow_any p hlen _).mono ?_
      rintro e w1 ⟨v, rfl, hown, hb1⟩
      go_wp2
      go_loopw [6, 27] (fun v i wr => ∃ q : Nat, q ≤ k ∧ i = .int .i64 q ∧ Hid (wr.ownsRow w.heap.size 5 1 v (joinK ls q).length ((joinK ls q).map fun x => Value.int .u8 x.toNat)) ∧ Below w.heap.size w wr) (fun _ i _ => k - (intOf i).toNat)
      case atStart => exact ⟨0, Nat.zero_le _, rfl, Lib.hid hown, hb1⟩
      case round =>
        obtain ⟨q, hq, rfl, HO, hB⟩ := hrel
        by_cases hqt : q < k
        · obtain ⟨b, off, rfl, hb, a', n', c', hc, hx⟩ := H.out.2 q hqt
          have hj := joinK_snoc ls q (by rw [HN.out]; exact hqt)
          have hl1 := joinK_le ls (q + 1)
          have hl2 := HL.out
          have hxl := hx.len
          have hs : (joinK ls (q + 1)).length = (joinK ls q).length + n' := by rw [hj, List.length_append, hxl]
          have hbd : (joinK ls q).length + n' ≤ 1099511627776 := by omega
          have hc2 : wr.cell? ⟨b, off + q, none⟩ = some (.slice a' n' c') := by rw [hB.cell (p := ⟨b, off + q, none⟩) hb]; exact hc
          have hx2 := Lib.hid (news_cells (hx.below hB))
          have HS := Lib.hid hs
          have HJ := Lib.hid hj
          have hsz := hB.size
          clear hs hj hl1 hl2 hxl hc
          rcases a' with _ | ad
          · obtain ⟨rfl, rfl, hnil⟩ := hx.capNone
            have HJ2 : Hid (joinK ls (q + 1) = joinK ls q) := Lib.hid (by rw [HJ.out, hnil, List.append_nil])
            clear hx hnil hbd
            go_wp2_with (at_builtin; refine wpList_append_own_none rfl _ _ 22 rfl w.heap.size 5 i0 1 Try.underlying22 HI.out.1 _ _ _ rfl HO.out rfl ?_)
            go_wp2
            go_roundw
            case rel => exact ⟨q + 1, by omega, by go_num, by rw [HJ2.out]; exact HO, hB⟩
            case measure => simp [intOf]; omega
          · have HX := Lib.hid hx.len
            clear hx
            go_wp2_with (at_builtin; refine wpList_append_own _ rfl _ _ 22 rfl w.heap.size 5 i0 (.int .u8 0) 1 1 Try.underlying22 HI.out.1 HI.out.2.1 HI.out.2.2.1 HI.out.2.2.2 rfl (by decide) _ _ _ rfl HO.out ad n' c' ((ls.getD q []).map fun x => Value.int .u8 x.toNat) rfl ?c0 ?c1 ?c2 ?c3 ?c4 ?c5 ?_)
            case c0 => rw [List.length_map, Nat.mul_one]; exact HX.out
            case c1 => exact hx2.out ad rfl
            case c2 => intro u hu; simp at hu; obtain ⟨_, _, rfl⟩ := hu; rfl
            case c3 => unfold maxLen; omega
            case c4 => omega
            case c5 => exact hsz
            intro v' w2 hown2 hgrow _
            have hlt' := HO.out.lt
            go_wp2
            go_roundw
            case rel =>
              refine ⟨q + 1, by omega, by go_num, Lib.hid ?_, hB.grown hgrow hsz (fun g hg => (hlt' g hg).1)⟩
              rw [HS.out, HJ.out, List.map_append]
              exact hown2
            case measure => simp [intOf]; omega
        · obtain rfl : q = k := by omega
          have HE : Hid (joinK ls q = ls.flatten) := Lib.hid (by
            unfold joinK; rw [List.take_of_length_le (by rw [HN.out]; exact Nat.le_refl _)])
          have hO := HO.out
          rw [HE.out] at hO
          have HG := Lib.hid hO
          clear hO
          go_wp2
          go_ret
          exact ⟨_, rfl, HG.out, hB⟩

end Cc
end Go.Proofs.Ytbdhncaiffepoaa

/-
  Contracts of strings.Builder's copyCheck and String, over a builder that the call itself has made.
-/
namespace Go.Proofs.Ytbdhncaiffepoaa
set_option maxRecDepth 20000
open Go.RowKit

namespace Bu
theorem size_bu : (Try.prog.info? 72).map (·.size) = some 2 := by kernel_rfl
theorem lies_bu : liesAt Try.prog Try.prog.depth 72 (2 / Try.prog.cellsOf 72) 0 72 1 = true := by kernel_rfl
theorem info_byte : (Try.prog.info? 5).map (fun i => (i.zero, i.size, i.bytes)) = some (some (.int .u8 0), 1, 1) := by kernel_rfl
theorem cells_byte : Try.prog.cellsOf 5 = 1 := by kernel_rfl

/-- a builder of the call's own that holds these bytes -/
def Is (B b : Nat) (bs : List Value) (w : World) : Prop := Lib.IsBuilder 72 5 B b bs w

theorem fresh {B b : Nat} {w : World} (hB : B ≤ b) (h : w.heap[b]? = some (.cells #[.pointer none, .slice none 0 0] 72 (0, 0))) : Is B b [] w :=
  Or.inl ⟨hB, .slice none 0 0, h, World.ownsRow_nil _ _ _ _, by simp [Value.ownBlock]⟩

set_option maxHeartbeats 1000000 in
theorem check_used (b : Nat) (w : World) (h0 : w.cell? ⟨b, 0, none⟩ = some (.pointer (some ⟨b, 0, none⟩))) :
    Calls Try.prog 73 #[.pointer (some ⟨b, 0, none⟩)] w fun e w' => e = .returned (.tuple #[]) ∧ w' = w := by
  obtain ⟨j, hj, _⟩ := Option.map_eq_some_iff.1 size_bu
  go_enter Try.func73, Try.ntmps73
  go_wp2
  rw [Lib.run_neq_ptr_same w _ Try.underlying70 hj]
  go_wp2
  go_end0
  exact ⟨rfl, rfl⟩

set_option maxHeartbeats 1000000 in
theorem check_fresh (b : Nat) (w : World) (h0 : w.cell? ⟨b, 0, none⟩ = some (.pointer none)) (hsh : w.shape? b = some (72, 2)) (hfz : w.frozen? ⟨b, 0, none⟩ = false) :
    Calls Try.prog 73 #[.pointer (some ⟨b, 0, none⟩)] w fun e w' => e = .returned (.tuple #[]) ∧ w' = w.setCell ⟨b, 0, none⟩ (.pointer (some ⟨b, 0, none⟩)) := by
  obtain ⟨j, hj, hjs⟩ := Option.map_eq_some_iff.1 size_bu
  have hto := Lib.run_to_unsafe (P := Try.prog) w ⟨b, 0, none⟩ Try.underlying70 Try.underlying115 hj (by rw [hjs]; decide) hsh (Nat.zero_lt_succ 1)
  have hfrom := Lib.run_from_unsafe (P := Try.prog) w ⟨b, 0, none⟩ Try.underlying115 Try.underlying70 hj hsh lies_bu
  have hno : ∀ (a : Addr) (wx : World), (callFunc 83 #[.pointer (some a)]).run Try.prog wx = .ok (.value (.pointer (some a))) wx := fun a wx => by
    rw [run_callFunc_extern Try.func83 (by kernel_rfl) (by kernel_rfl) (by kernel_rfl) (e := Extern.AbiNoEscape.same) (by kernel_rfl), Lib.run_noEscape]
    rfl
  clear hj hjs
  go_enter Try.func73, Try.ntmps73
  go_wp2
  go_end0
  exact ⟨rfl, rfl⟩

theorem check {B b : Nat} {bs : List Value} {w : World} (h : Is B b bs w) :
    Calls Try.prog 73 #[.pointer (some ⟨b, 0, none⟩)] w fun e w' => e = .returned (.tuple #[]) ∧ (Lib.BuilderAt 72 5 B b (.pointer (some ⟨b, 0, none⟩)) bs w' ∧ Below B w w' ∧ Lib.OthersKept 5 (some b) w w') := by
  rcases h with h | h
  · refine (check_fresh b w h.cell0 h.shape h.frozen0).mono ?_
    rintro e w' ⟨rfl, rfl⟩
    exact ⟨rfl, h.used _, (Below.refl B w).setCell (p := ⟨b, 0, none⟩) h.1 _, (Lib.OthersKept.refl _ _ _).setCell ⟨b, 0, none⟩ rfl _⟩
  · refine (check_used b w h.cell0).mono ?_
    rintro e w' ⟨rfl, rfl⟩
    exact ⟨rfl, h, Below.refl B _, Lib.OthersKept.refl _ _ _⟩

set_option maxHeartbeats 2000000 in
theorem row_kind {w : World} {B : Nat} {e : TypeId} {v : Value} {n : Nat} {xs : List Value} (h : w.ownsRow B e 1 v n xs) : ∀ g, v.ownBlock = some g → ∃ c fz, w.heap[g]? = some (.cells c e fz) := by
  intro g hg
  rcases h.2 with ⟨rfl, _⟩ | ⟨g', cap, cur, rfl, _, hgg, _⟩
  · simp [Value.ownBlock] at hg
  · simp [Value.ownBlock] at hg
    subst hg
    exact ⟨cur, _, hgg⟩
theorem Is.not_at {B b : Nat} {bs : List Value} {w : World} (h : Is B b bs w) {k : Nat} {cs : Array Value} {T : TypeId} {fr : Nat × Nat} (hk : w.heap[k]? = some (.cells cs T fr)) (hT : T ≠ 72) : k ≠ b := by
  intro e
  subst e
  rcases h with ⟨_, v, hb, _⟩ | ⟨_, v, hb, _⟩ <;> (rw [hb] at hk; simp at hk; exact hT hk.2.1.symm)

theorem Is.kept {B b : Nat} {bs : List Value} {w w' : World} (h : Is B b bs w) (hg : w.grownBy w' none) : Is B b bs w' := by
  rcases h with ⟨hB, v, hb, ho, hn⟩ | ⟨hB, v, hb, ho, hn⟩
  · have hlt : b < w.heap.size := (Array.getElem?_eq_some_iff.1 hb).1
    exact Or.inl ⟨hB, v, by rw [hg.block b hlt (by simp)]; exact hb, ho.kept hg (by cases v.ownBlock <;> simp), hn⟩
  · have hlt : b < w.heap.size := (Array.getElem?_eq_some_iff.1 hb).1
    exact Or.inr ⟨hB, v, by rw [hg.block b hlt (by simp)]; exact hb, ho.kept hg (by cases v.ownBlock <;> simp), hn⟩
theorem grown_below {w w' : World} (h : Below w.heap.size w w') : w.grownBy w' none := ⟨h.os, h.tape, h.output, h.size, fun k hk _ => h.block k hk⟩

theorem text_none (W : World) (q : Option Addr) : (Builtin.unsafeString_ #[93, 3] 9 #[.pointer q, .int .i64 0]).run Try.prog W = .ok (.string .empty) W :=
  Lib.run_unsafeString_none W _ _ _ q

set_option maxHeartbeats 2000000 in
/-- String of a builder that holds bytes: the text of these; its own memory is of no use any more. -/
theorem text {B b : Nat} {l : List UInt8} {w : World} (h : Is B b (Lib.byteCells l) w) (hBw : B ≤ w.heap.size) :
    Calls Try.prog 46 #[.pointer (some ⟨b, 0, none⟩)] w fun e w' => e = .returned (.string ⟨l.toArray⟩) ∧ Below B w w' := by
  obtain ⟨p, hB, v, hbk, hown, hne⟩ : ∃ p, Lib.BuilderAt 72 5 B b p (Lib.byteCells l) w := by
    rcases h with h | h
    · exact ⟨_, h⟩
    · exact ⟨_, h⟩
  rw [Lib.byteCells_length] at hown
  have hUS0 := text_none
  by_cases h0 : l = []
  · subst h0
    rcases hown.2 with ⟨rfl, hz⟩ | ⟨g, cap, cur, rfl, hbg, hg, hnc, hcm, hcs, htake⟩
    · have c1 : w.drew.cell? ⟨b, 1, none⟩ = some (.slice none 0 0) := by
        have : w.drew.heap[b]? = some (.cells #[p, .slice none 0 0] 72 (0, 0)) := hbk
        rw [Lib.cell_of_heap this]; rfl
      have hSD : (Builtin.unsafeSliceData_ #[22] 93 #[.slice none 0 0]).run Try.prog w.drew = .ok (.pointer none) w.drew := rfl
      clear hown hbk hne hBw
      go_enter Try.func46, Try.ntmps46
      go_wp2
      go_region
      all_goals (go_wp2; go_ret; exact ⟨rfl, Below.drew (Below.refl B w)⟩)
    · have hlt : b < w.heap.size := by
        rcases Nat.lt_or_ge b w.heap.size with h' | h'
        · exact h'
        · simp [Array.getElem?_eq_none h'] at hbk
      have hg' : w.drew.heap[g]? = some (.cells cur 5 (0, 0)) := hg
      by_cases hc0 : cap = 0
      · subst hc0
        have c1 : w.drew.cell? ⟨b, 1, none⟩ = some (.slice (some ⟨g, 0, none⟩) 0 0) := by
          have : w.drew.heap[b]? = some (.cells #[p, .slice (some ⟨g, 0, none⟩) 0 0] 72 (0, 0)) := hbk
          rw [Lib.cell_of_heap this]; rfl
        have hSD : (Builtin.unsafeSliceData_ #[22] 93 #[.slice (some ⟨g, 0, none⟩) 0 0]).run Try.prog w.drew = .ok (.pointer (some ⟨w.drew.heap.size, 0, none⟩)) (w.drew.alloc (.view ⟨g, 0, none⟩ 5)) :=
          Lib.run_unsafeSliceData_zero w.drew _ _ 5 Try.underlying93 ⟨g, 0, none⟩ 0 (5, cur.size) (by simp [World.shape?, hg'])
        have c2 : (w.drew.alloc (.view ⟨g, 0, none⟩ 5)).cell? ⟨b, 1, none⟩ = some (.slice (some ⟨g, 0, none⟩) 0 0) := by
          have : (w.drew.alloc (.view ⟨g, 0, none⟩ 5)).heap[b]? = _ := (Lib.alloc_old w.drew _ b hlt).trans hbk
          rw [Lib.cell_of_heap this]; rfl
        have c3 : (w.alloc (.view ⟨g, 0, none⟩ 5)).drew.cell? ⟨b, 1, none⟩ = some (.slice (some ⟨g, 0, none⟩) 0 0) := c2
        have c0 : w.cell? ⟨b, 1, none⟩ = some (.slice (some ⟨g, 0, none⟩) 0 0) := c1
        clear hown hbk hne hnc hcm hcs htake hg hg' hlt
        go_enter Try.func46, Try.ntmps46
        go_wp2
        go_region
        all_goals (go_wp2; go_ret; exact ⟨rfl, (Below.drew (Below.refl B w)).alloc hBw _⟩)
      · have c1 : w.drew.cell? ⟨b, 1, none⟩ = some (.slice (some ⟨g, 0, none⟩) 0 cap) := by
          have : w.drew.heap[b]? = some (.cells #[p, .slice (some ⟨g, 0, none⟩) 0 cap] 72 (0, 0)) := hbk
          rw [Lib.cell_of_heap this]; rfl
        have hSD : (Builtin.unsafeSliceData_ #[22] 93 #[.slice (some ⟨g, 0, none⟩) 0 cap]).run Try.prog w.drew = .ok (.pointer (some ⟨g, 0, none⟩)) w.drew :=
          Lib.run_unsafeSliceData_row _ _ _ _ _ _ hc0
        clear hown hbk hne hnc hcm hcs htake hg hg' hlt hc0 hBw
        go_enter Try.func46, Try.ntmps46
        go_wp2
        go_region
        all_goals (go_wp2; go_ret; exact ⟨rfl, Below.drew (Below.refl B w)⟩)
  · have hl0 : l.length ≠ 0 := by simpa using h0
    obtain ⟨g, cap, cur, rfl, hbg, hg, hnc, hcm, hcs, htake⟩ : ∃ g cap cur, v = .slice (some ⟨g, 0, none⟩) l.length cap ∧ B ≤ g ∧ w.heap[g]? = some (.cells cur 5 (0, 0)) ∧ l.length ≤ cap ∧ cap ≤ maxLen ∧ cur.size = cap * 1 ∧ cur.toList.take (l.length * 1) = Lib.byteCells l := by
      rcases hown.2 with ⟨_, hz⟩ | ⟨g, cap, cur, hv, r⟩
      · exact absurd hz hl0
      · exact ⟨g, cap, cur, hv, r⟩
    have c1 : w.drew.cell? ⟨b, 1, none⟩ = some (.slice (some ⟨g, 0, none⟩) l.length cap) := by
      have : w.drew.heap[b]? = some (.cells #[p, .slice (some ⟨g, 0, none⟩) l.length cap] 72 (0, 0)) := hbk
      rw [Lib.cell_of_heap this]; rfl
    have hg' : w.drew.heap[g]? = some (.cells cur 5 (0, 0)) := hg
    have hSD : (Builtin.unsafeSliceData_ #[22] 93 #[.slice (some ⟨g, 0, none⟩) l.length cap]).run Try.prog w.drew = .ok (.pointer (some ⟨g, 0, none⟩)) w.drew :=
      Lib.run_unsafeSliceData_row _ _ _ _ _ _ (by omega)
    have hUS : (Builtin.unsafeString_ #[93, 3] 9 #[.pointer (some ⟨g, 0, none⟩), .int .i64 l.length]).run Try.prog w.drew = .ok (.string ⟨l.toArray⟩) (w.drew.freeze ⟨g, 0, none⟩ l.length) := by
      refine Lib.run_unsafeString_row w.drew 93 3 9 5 Try.underlying93 cells_byte g cur.size (by simp [World.shape?, hg']) l h0 (by omega) (by unfold maxLen at hcm; omega) ?_
      intro j x hx
      have := hown.cells (g := g) rfl j (.int .u8 x.toNat) (by simp [Lib.byteCells, hx])
      exact this
    clear hown hbk hne hnc hcm hcs htake hg hg' h0 hl0 hBw hUS0
    go_enter Try.func46, Try.ntmps46
    go_wp2
    go_region
    all_goals (go_wp2; go_ret; exact ⟨rfl, Lib.below_freeze (Below.drew (Below.refl B w)) (p := ⟨g, 0, none⟩) hbg _⟩)
end Bu
end Go.Proofs.Ytbdhncaiffepoaa

/-
  The contract of strings.Builder's WriteByte, over a builder that the call itself has made.
-/
namespace Go.Proofs.Ytbdhncaiffepoaa
set_option maxRecDepth 20000
open Go.RowKit

namespace Bu
theorem cell_one_new' (w : World) (v : Value) (t : TypeId) (fz : Nat × Nat) : ∀ j u, [v][j]? = some u → (w.alloc (.cells #[v] t fz)).cell? ((⟨w.heap.size, 0, none⟩ : Addr).add j) = some u := by
  intro j u hj
  match j, hj with
  | 0, hj => simp at hj; subst hj; simp [Addr.add, World.cell?_alloc_mark]

set_option maxHeartbeats 400000 in
/-- WriteByte: the byte goes behind those that are held. -/
theorem writeByte {B b : Nat} {bs : List Value} {w : World} (c : Int) (h : Is B b bs w) (hlen : bs.length + 1 ≤ 140737488355328) (hBw : B ≤ w.heap.size) :
    Calls Try.prog 76 #[.pointer (some ⟨b, 0, none⟩), .int .u8 c] w fun e w' => e = .returned .nilIface ∧ (Is B b (bs ++ [.int .u8 c]) w' ∧ Below B w w' ∧ Lib.OthersKept 5 (some b) w w') := by
  obtain ⟨i0, hi, hz0, hz1, hz2⟩ := info_parts info_byte
  go_enter Try.func76, Try.ntmps76
  go_wp2_with (go_at_call 73; refine (check h).mono ?_)
  rintro e w1 ⟨rfl, h1, hb1, hk1⟩
  obtain ⟨hB, v, hbk, hown, hne⟩ := h1
  have c0 : w1.cell? ⟨b, 0, none⟩ = some (.pointer (some ⟨b, 0, none⟩)) := by rw [Lib.cell_of_heap hbk]; rfl
  have c1 : w1.cell? ⟨b, 1, none⟩ = some v := by rw [Lib.cell_of_heap hbk]; rfl
  have hlt : b < w1.heap.size := by
    rcases Nat.lt_or_ge b w1.heap.size with h' | h'
    · exact h'
    · simp [Array.getElem?_eq_none h'] at hbk
  go_wp2_with (at_builtin; refine wpList_append_own _ rfl _ _ 22 rfl B 5 i0 (.int .u8 0) 1 1 Try.underlying22 hi hz0 hz1 hz2 rfl (by decide) _ _ _ rfl (hown.alloc _) ⟨w1.heap.size, 0, none⟩ 1 1 [.int .u8 c] rfl rfl ?c1 ?c2 ?c3 ?c4 ?c5 ?_)
  case c1 => exact cell_one_new' _ _ _ _
  case c2 => intro u hu; simp at hu; subst hu; rfl
  case c3 => unfold maxLen; omega
  case c4 => omega
  case c5 => have := hb1.size; simp; omega
  intro v' w2 hown' hgrow _
  have hb2 : w2.heap[b]? = some (.cells #[.pointer (some ⟨b, 0, none⟩), v] 72 (0, 0)) := by
    rw [hgrow.block b (by simp; omega) (fun e => hne e.symm), Lib.alloc_old w1 _ b hlt]
    exact hbk
  have d1 : w2.cell? ⟨b, 1, none⟩ = some v := by rw [Lib.cell_of_heap hb2]; rfl
  have f1 : w2.frozen? ⟨b, 1, none⟩ = false := Lib.frozen_of_heap hb2 1
  obtain ⟨ao, n', cap, rfl⟩ : ∃ ao n' cap, v' = .slice ao n' cap := by
    rcases hown'.2 with ⟨hv, _⟩ | ⟨g, cap, cur, hv, _⟩
    · exact ⟨_, _, _, hv⟩
    · exact ⟨_, _, _, hv⟩
  go_wp2
  go_ret
  refine ⟨rfl, Or.inr ?_, ?_, ?_⟩
  · exact Lib.BuilderAt.put (T := 72) (e := 5) hB hb2 (bs' := bs ++ [.int .u8 c]) (by simpa using hown') (by decide)
  · exact ((hb1.alloc (by have := hb1.size; omega) _).grown hgrow (by have := hb1.size; simp; omega) (fun k hk => (hown.lt k hk).1)).setCell (p := ⟨b, 1, none⟩) hB _
  · exact ((hk1.alloc _).grown hgrow (row_kind (hown.alloc _))).setCell ⟨b, 1, none⟩ rfl _
end Bu
end Go.Proofs.Ytbdhncaiffepoaa

/-
  Numbers in the fewest bytes; what stands ahead of so many bytes; contracts of rlp.number and rlp.Head.
-/
namespace Go.Proofs.Ytbdhncaiffepoaa
set_option maxRecDepth 20000
open Go.RowKit

namespace Rl
/-- the digits, the lowest first -/
def dig (n : Nat) : List UInt8 := if n = 0 then [] else UInt8.ofNat n :: dig (n / 256)
termination_by n
decreasing_by omega
theorem dig_zero : dig 0 = [] := by rw [dig]; rfl
theorem dig_pos {n : Nat} (h : 0 < n) : dig n = UInt8.ofNat n :: dig (n / 256) := by rw [dig, if_neg (by omega)]
theorem dig_length (k : Nat) : ∀ n, n < 256 ^ k → (dig n).length ≤ k := by
  induction k with
  | zero =>
    intro n hn
    obtain rfl : n = 0 := by simpa using hn
    simp [dig_zero]
  | succ k ih =>
    intro n hn
    by_cases h : n = 0
    · subst h; simp [dig_zero]
    · rw [dig_pos (by omega)]
      have := ih (n / 256) (by rw [Nat.pow_succ] at hn; omega)
      simp; omega
/-- .. the highest first -/
def bigL (n : Nat) : List UInt8 := (dig n).reverse
theorem bigL_length {n : Nat} (h : n < 2 ^ 64) : (bigL n).length ≤ 8 := by
  unfold bigL
  rw [List.length_reverse]
  exact dig_length 8 n (by simpa using h)
theorem bigL_pos {n : Nat} (h : 0 < n) : bigL n = bigL (n / 256) ++ [UInt8.ofNat n] := by
  unfold bigL
  rw [dig_pos h]
  simp
theorem bigL_zero : bigL 0 = [] := by unfold bigL; rw [dig_zero]; rfl

def encB (l : List UInt8) : List Value := l.map fun x => Value.int .u8 x.toNat
theorem encB_snoc (l : List UInt8) (n : Nat) : encB l ++ [.int .u8 (IntKind.u8.wrap (n : Int))] = encB (l ++ [UInt8.ofNat n]) := by
  unfold encB
  rw [List.map_append]
  simp [IntKind.wrap_u8]

theorem row_of_owns {w : World} {B : Nat} {t : TypeId} {v : Value} {n : Nat} {l : List UInt8} (h : w.ownsRow B t 1 v n (encB l)) (h0 : 0 < n) :
    ∃ g cap f, v = .slice (some ⟨g, 0, none⟩) n cap ∧ B ≤ g ∧ n ≤ cap ∧ cap ≤ maxLen ∧ w.rowIs g t cap f ∧ ∀ j, j < n → f j = .int .u8 ((l.getD j 0).toNat : Int) := by
  have hl : l.length = n := by simpa [encB] using h.1
  rcases h.2 with ⟨rfl, hz⟩ | ⟨g, cap, cur, rfl, hbg, hg, hnc, hcm, hcs, htake⟩
  · omega
  · refine ⟨g, cap, fun j => cur.getD j undef, rfl, hbg, hnc, hcm, ⟨cur, hg, by simpa using hcs, fun i hi => ?_⟩, fun j hj => ?_⟩
    · have : i < cur.size := by omega
      simp [this]
    · have := h.cells (g := g) rfl j (.int .u8 (l.getD j 0).toNat) (by simp [encB, List.getD, hl, hj])
      have e : (⟨g, 0, none⟩ : Addr).add j = ⟨g, 0 + j, none⟩ := by unfold Addr.add; split <;> simp_all
      rw [e] at this
      simp [World.cell?, hg] at this
      simp [this]
theorem bs_of_row {w : World} {g cap : Nat} {t : TypeId} {f : Nat → Value} {l : List UInt8} (h : w.rowIs g t cap (Rv.turned f l.length l.length)) (hnc : l.length ≤ cap) (hcm : cap ≤ maxLen) (hf : ∀ j, j < l.length → f j = .int .u8 ((l.getD j 0).toNat : Int)) :
    IsBs w (some ⟨g, 0, none⟩) l.length cap l.reverse := by
  refine ⟨hnc, hcm, by simp, fun e => (by cases e), fun j hj => ⟨g, 0, rfl, h.lt, ?_⟩⟩
  rw [Nat.zero_add, h.cell (by omega)]
  unfold Rv.turned
  rw [if_pos ⟨hj, .inl hj⟩, hf _ (by omega)]
  simp [List.getD, hj, show l.length - 1 - j < l.length by omega]

set_option maxHeartbeats 2000000 in
theorem number_any (n : Nat) (h0 : 0 < n) (hn : n < 2 ^ 64) (w : World) :
    Calls Try.prog 84 #[.int .u64 n] w fun e w' => e = .returned (.string ⟨(bigL n).toArray⟩) ∧ Below w.heap.size w w' := by
  obtain ⟨i0, hi, hz0, hz1, hz2⟩ := info_parts Cc.info_u8
  have HI : Hid (_ ∧ _ ∧ _ ∧ _) := Lib.hid ⟨hi, hz0, hz1, hz2⟩
  have HL : Hid ((dig n).length ≤ 8) := Lib.hid (dig_length 8 n (by simpa using hn))
  have HP : Hid (0 < (dig n).length) := Lib.hid (by rw [dig_pos h0]; simp)
  clear hi hz0 hz1 hz2
  go_enter Try.func84, Try.ntmps84
  go_wp2
  go_loopw [0, 3] (fun i v wr => ∃ (x : Nat) (l : List UInt8), x < 2 ^ 64 ∧ i = .int .u64 x ∧ Hid (l ++ dig x = dig n) ∧ Hid (wr.ownsRow w.heap.size 5 1 v l.length (encB l)) ∧ Below w.heap.size w wr) (fun i _ _ => (intOf i).toNat)
  case atStart => exact ⟨n, [], hn, rfl, Lib.hid rfl, Lib.hid (World.ownsRow_nil _ _ _ _), Below.refl _ _⟩
  case round =>
    obtain ⟨x, l, hx, rfl, HD, HO, hB⟩ := hrel
    have hsz := hB.size
    have HB := Lib.hid hB
    clear hB
    by_cases hlt : 0 < x
    · have HD' : Hid ((l ++ [UInt8.ofNat x]) ++ dig (x / 256) = dig n) := Lib.hid (by rw [← HD.out, dig_pos hlt]; simp)
      have hl8 : l.length ≤ 8 := by
        have := congrArg List.length HD.out
        have h8 := HL.out
        rw [List.length_append] at this
        omega
      have HE := Lib.hid (encB_snoc l x)
      go_wp2_with (at_builtin; refine wpList_append_own _ rfl _ _ 22 rfl w.heap.size 5 i0 (.int .u8 0) 1 1 Try.underlying22 HI.out.1 HI.out.2.1 HI.out.2.2.1 HI.out.2.2.2 rfl (by decide) _ _ _ rfl (HO.out.alloc _) ⟨wr.heap.size, 0, none⟩ 1 1 [.int .u8 (IntKind.u8.wrap (x : Int))] rfl rfl ?c1 ?c2 ?c3 ?c4 ?c5 ?_)
      case c1 => exact Bu.cell_one_new' _ _ _ _
      case c2 => intro u hu; simp at hu; subst hu; rfl
      case c3 => unfold maxLen; omega
      case c4 => omega
      case c5 => simp; omega
      intro v' w2 hown2 hgrow _
      have hlt' := HO.out.lt
      go_wp2
      go_roundw
      case rel => 
        exact ⟨x / 256, l ++ [UInt8.ofNat x], by omega, by go_num, Lib.hid HD'.out, Lib.hid (by rw [List.length_append, ← HE.out]; exact hown2), (HB.out.alloc hsz _).grown hgrow (by simp; omega) (fun g hg => (hlt' g hg).1)⟩
      case measure => simp [intOf]; omega
    · obtain rfl : x = 0 := by omega
      have hd := HD.out
      rw [dig_zero, List.append_nil] at hd
      obtain ⟨g, cap, f, rfl, hgB, hnc, hcm, hrow, hf⟩ := row_of_owns HO.out (by rw [hd]; exact HP.out)
      have HRv := Lib.hid (Rv.reverse_any g l.length cap 5 f (by rw [hd]; exact HP.out) hnc hcm wr hrow (fun j hj => ⟨_, hf j hj⟩))
      have HF := Lib.hid hf
      have HN : Hid (l = dig n) := Lib.hid hd
      clear hf hrow hd
      go_wp2_with (go_at_call 87; refine HRv.out.mono ?_; rintro e w1 ⟨rfl, hr1, hu1⟩; have hcv := conv_bs (bs_of_row hr1 hnc hcm HF.out); have HU := Lib.hid hu1; clear hr1 hu1)
      go_ret
      refine ⟨by rw [HN.out]; rfl, HU.out.below HB.out hgB⟩
end Rl
end Go.Proofs.Ytbdhncaiffepoaa

/-
  Contracts of the plain answer's big and Head; of rlp.Head.
-/
namespace Go.Proofs.Ytbdhncaiffepoaa
set_option maxRecDepth 20000
open Go.RowKit

namespace Rl
/-- a slice of one byte is made -/
theorem meetOne {o : Oper} {a : Act} {w : World} {K : Act → World → Prop} {Q : Exit → Act → World → Prop} {ops : Array Oper} (hw : Region.wanted o (yielded ops a.tmps) = true) {z : Int}
    (ho : ∃ x, o.op = .buildSlice 22 1 #[(0, x)] ∧ a.eval x = .int .u8 z) (hz : 0 ≤ z ∧ z < 256)
    (h : ∀ w' b, IsBs w' (some ⟨b, 0, none⟩) 1 1 [UInt8.ofNat z.toNat] → Below w.heap.size w w' → K (a.put o.dst (.slice (some ⟨b, 0, none⟩) 1 1)) w') : if Region.wanted o (yielded ops a.tmps) = true then Oper.wp Try.prog o a w K Q else K (a.put o.dst undef) w := by
  obtain ⟨x, ho, hx⟩ := ho
  have hb : IsBs (w.alloc (.cells #[.int .u8 z] 5)) (some ⟨w.heap.size, 0, none⟩) 1 1 [UInt8.ofNat z.toNat] := IsBs.new w [UInt8.ofNat z.toNat] (by unfold maxLen; simp) _ _ (by
    simp
    omega)
  obtain ⟨i0, hi, hz0, hz1, hz2⟩ := info_parts Cc.info_u8
  refine Rg.want hw (wp_buildSlice 22 5 1 _ ho #[.int .u8 z] i0 (.int .u8 0) Try.underlying22 hi hz0 (by rw [hz1]; decide) (by rw [hz1]; decide) ?_ (h _ _ hb (al1 _ _)))
  simp only [List.map_toArray, List.map_cons, List.map_nil, hx, hz1]
  kernel_rfl

set_option maxHeartbeats 4000000 in
theorem big_any (n : Nat) : n < 2 ^ 63 → ∀ w : World, Calls Try.prog 57 #[.int .i64 n] w fun e w' => e = .returned (.string ⟨(bigL n).toArray⟩) ∧ Below w.heap.size w w' := by
  induction n using Nat.strongRecOn with
  | ind n ih =>
    intro hn w
    by_cases h0 : n = 0
    · subst h0
      rw [bigL_zero]
      clear ih
      go_enter Try.func57, Try.ntmps57
      go_wp2
      go_ret
      exact ⟨rfl, Below.refl _ _⟩
    · have hi := ih (n / 256) (by omega) (by omega)
      rw [show ((n / 256 : Nat) : Int) = IntKind.i64.wrap ((n : Int) / 256) by rw [IntKind.wrap_i64]; omega] at hi
      have HI := Lib.hid hi
      have HQ : Hid (0 ≤ IntKind.u8.wrap ((n : Int).tmod 256) ∧ IntKind.u8.wrap ((n : Int).tmod 256) < 256) := Lib.hid (by rw [IntKind.wrap_u8]; omega)
      have HE : Hid (bigL n = bigL (n / 256) ++ [UInt8.ofNat (IntKind.u8.wrap ((n : Int).tmod 256)).toNat]) := Lib.hid (by
        rw [bigL_pos (n := n) (by omega)]
        congr 2
        rw [IntKind.wrap_u8, Int.tmod_eq_emod_of_nonneg (by omega), show (((n : Int) % 256) % 256).toNat = n % 256 by omega]
        apply UInt8.toNat_inj.1
        simp)
      have hlen : (bigL (n / 256)).length ≤ 8 := bigL_length (by omega)
      clear hi
      clear ih
      go_enter Try.func57, Try.ntmps57
      go_wp2_with fail
      refine wp_region_noPanic ?_
      refine wp_region_held_drew (S := fun w' => Below w.heap.size w w') (by kernel_rfl) ((Below.refl _ _).drew) (fun hHeld => ?_)
      refine Rg.takeL (i := 0) (v := ?_) rfl (by kernel_rfl) (by kernel_rfl) (by kernel_rfl) (fun _ _ _ h => h) (Or.inl ⟨by rfl, ?_⟩) (by assumption) ?_
      rotate_left
      · (intro wz hSw; (try dsimp only at hSw); go_simp <;> with_reducible rfl)
      try simp only [Act.put, List.setIfInBounds_toArray, List.set_cons_zero, List.set_cons_succ]
      refine Rg.takeL (i := 1) (v := ?_) rfl (by kernel_rfl) (by kernel_rfl) (by kernel_rfl) (fun _ _ _ h => h) (Or.inl ⟨by rfl, ?_⟩) (by assumption) ?_
      rotate_left
      · (intro wz hSw; (try dsimp only at hSw); go_simp <;> with_reducible rfl)
      try simp only [Act.put, List.setIfInBounds_toArray, List.set_cons_zero, List.set_cons_succ]
      refine Rg.takeL (i := 3) (v := ?_) rfl (by kernel_rfl) (by kernel_rfl) (by kernel_rfl) (fun _ _ _ h => h) (Or.inl ⟨by rfl, ?_⟩) (by assumption) ?_
      rotate_left
      · (intro wz hSw; (try dsimp only at hSw); go_simp <;> with_reducible rfl)
      try simp only [Act.put, List.setIfInBounds_toArray, List.set_cons_zero, List.set_cons_succ]
      refine Rg.takeL (i := 4) (v := ?_) rfl (by kernel_rfl) (by kernel_rfl) (by kernel_rfl) (fun _ _ _ h => h) (Or.inl ⟨by rfl, ?_⟩) (by assumption) ?_
      rotate_left
      · (intro wz hSw; (try dsimp only at hSw); go_simp <;> with_reducible rfl)
      try simp only [Act.put, List.setIfInBounds_toArray, List.set_cons_zero, List.set_cons_succ]
      refine Rg.takeL (i := 5) (v := ?_) rfl (by kernel_rfl) (by kernel_rfl) (by kernel_rfl) (fun _ _ _ h => h) (Or.inl ⟨by rfl, ?_⟩) (by assumption) ?_
      rotate_left
      · (intro wz hSw; (try dsimp only at hSw); go_simp <;> with_reducible rfl)
      try simp only [Act.put, List.setIfInBounds_toArray, List.set_cons_zero, List.set_cons_succ]
      refine wpAnyH_ready (rs := [2, 6]) (by kernel_rfl) (by simp) ?_
      refine Rg.readyC (i := 2) rfl (fun K hK => ?_) (Rg.readyL (i := 6) rfl (fun K hK => ?_))
      · go_simp
        go_at_call 57
        (with_reducible refine (HI.out _).mono ?_)
        rintro e wv0 ⟨rfl, hbx⟩
        refine hK.out _ _ ?_ (fun hHeld => ?_)
        · exact Below.trans hHeld (hbx.mono hHeld.size)
        clear hK K hbx
        try simp only [Act.put, List.setIfInBounds_toArray, List.set_cons_zero, List.set_cons_succ]
        refine wpAnyH_ready (rs := [6]) (by kernel_rfl) (by simp) ?_
        refine Rg.readyL (i := 6) rfl (fun K hK => ?_)
        refine meetOne (by rfl) ⟨_, rfl, rfl⟩ HQ.out ?_
        rintro wv1 b6 h6 hbx
        refine hK.out _ _ ?_ (fun hHeld => ?_)
        · exact Below.trans hHeld (hbx.mono hHeld.size)
        clear hK K hbx
        try simp only [Act.put, List.setIfInBounds_toArray, List.set_cons_zero, List.set_cons_succ]
        refine wpAnyH_ready (rs := [7]) (by kernel_rfl) (by simp) ?_
        refine Rg.readyL (i := 7) rfl (fun K hK => ?_)
        have hcv := conv_bs h6
        go_simp
        refine hK.out _ _ ?_ (fun hHeld => ?_)
        · exact hHeld
        clear hK K hcv
        try simp only [Act.put, List.setIfInBounds_toArray, List.set_cons_zero, List.set_cons_succ]
        refine Rg.takeL (i := 8) (v := ?_) rfl (by kernel_rfl) (by kernel_rfl) (by kernel_rfl) (fun _ _ _ h => h) (Or.inl ⟨by rfl, ?_⟩) (by assumption) ?_
        rotate_left
        · (intro wz hSw; have hz8 : ¬ 9223372036854775807 < (bigL (n / 256)).length + 1 := (by omega); go_simp <;> with_reducible rfl)
        try simp only [Act.put, List.setIfInBounds_toArray, List.set_cons_zero, List.set_cons_succ]
        refine Rg.takeL (i := 9) (v := ?_) rfl (by kernel_rfl) (by kernel_rfl) (by kernel_rfl) (fun _ _ _ h => h) (Or.inl ⟨by rfl, ?_⟩) (by assumption) ?_
        rotate_left
        · (intro wz hSw; (try dsimp only at hSw); go_simp <;> with_reducible rfl)
        try simp only [Act.put, List.setIfInBounds_toArray, List.set_cons_zero, List.set_cons_succ]
        refine wpAnyH_done (by kernel_rfl) ?_ _
        refine NoPanic.normal ?_
        go_wp2
        go_ret
        exact ⟨by rw [HE.out]; rfl, hHeld⟩
      · refine meetOne (by rfl) ⟨_, rfl, rfl⟩ HQ.out ?_
        rintro wv0 b6 h6 hbx
        refine hK.out _ _ ?_ (fun hHeld => ?_)
        · exact Below.trans hHeld (hbx.mono hHeld.size)
        clear hK K hbx
        try simp only [Act.put, List.setIfInBounds_toArray, List.set_cons_zero, List.set_cons_succ]
        refine wpAnyH_ready (rs := [2, 7]) (by kernel_rfl) (by simp) ?_
        refine Rg.readyC (i := 2) rfl (fun K hK => ?_) (Rg.readyL (i := 7) rfl (fun K hK => ?_))
        · go_simp
          go_at_call 57
          (with_reducible refine (HI.out _).mono ?_)
          rintro e wv1 ⟨rfl, hbx⟩
          replace h6 := h6.below hbx
          refine hK.out _ _ ?_ (fun hHeld => ?_)
          · exact Below.trans hHeld (hbx.mono hHeld.size)
          clear hK K hbx
          try simp only [Act.put, List.setIfInBounds_toArray, List.set_cons_zero, List.set_cons_succ]
          refine wpAnyH_ready (rs := [7]) (by kernel_rfl) (by simp) ?_
          refine Rg.readyL (i := 7) rfl (fun K hK => ?_)
          have hcv := conv_bs h6
          go_simp
          refine hK.out _ _ ?_ (fun hHeld => ?_)
          · exact hHeld
          clear hK K hcv
          try simp only [Act.put, List.setIfInBounds_toArray, List.set_cons_zero, List.set_cons_succ]
          refine Rg.takeL (i := 8) (v := ?_) rfl (by kernel_rfl) (by kernel_rfl) (by kernel_rfl) (fun _ _ _ h => h) (Or.inl ⟨by rfl, ?_⟩) (by assumption) ?_
          rotate_left
          · (intro wz hSw; have hz8 : ¬ 9223372036854775807 < (bigL (n / 256)).length + 1 := (by omega); go_simp <;> with_reducible rfl)
          try simp only [Act.put, List.setIfInBounds_toArray, List.set_cons_zero, List.set_cons_succ]
          refine Rg.takeL (i := 9) (v := ?_) rfl (by kernel_rfl) (by kernel_rfl) (by kernel_rfl) (fun _ _ _ h => h) (Or.inl ⟨by rfl, ?_⟩) (by assumption) ?_
          rotate_left
          · (intro wz hSw; (try dsimp only at hSw); go_simp <;> with_reducible rfl)
          try simp only [Act.put, List.setIfInBounds_toArray, List.set_cons_zero, List.set_cons_succ]
          refine wpAnyH_done (by kernel_rfl) ?_ _
          refine NoPanic.normal ?_
          go_wp2
          go_ret
          exact ⟨by rw [HE.out]; rfl, hHeld⟩
        · have hcv := conv_bs h6
          go_simp
          refine hK.out _ _ ?_ (fun hHeld => ?_)
          · exact hHeld
          clear hK K hcv
          try simp only [Act.put, List.setIfInBounds_toArray, List.set_cons_zero, List.set_cons_succ]
          refine wpAnyH_ready (rs := [2]) (by kernel_rfl) (by simp) ?_
          refine Rg.readyL (i := 2) rfl (fun K hK => ?_)
          go_simp
          go_at_call 57
          (with_reducible refine (HI.out _).mono ?_)
          rintro e wv1 ⟨rfl, hbx⟩
          replace h6 := h6.below hbx
          refine hK.out _ _ ?_ (fun hHeld => ?_)
          · exact Below.trans hHeld (hbx.mono hHeld.size)
          clear hK K hbx
          try simp only [Act.put, List.setIfInBounds_toArray, List.set_cons_zero, List.set_cons_succ]
          refine Rg.takeL (i := 8) (v := ?_) rfl (by kernel_rfl) (by kernel_rfl) (by kernel_rfl) (fun _ _ _ h => h) (Or.inl ⟨by rfl, ?_⟩) (by assumption) ?_
          rotate_left
          · (intro wz hSw; have hz8 : ¬ 9223372036854775807 < (bigL (n / 256)).length + 1 := (by omega); go_simp <;> with_reducible rfl)
          try simp only [Act.put, List.setIfInBounds_toArray, List.set_cons_zero, List.set_cons_succ]
          refine Rg.takeL (i := 9) (v := ?_) rfl (by kernel_rfl) (by kernel_rfl) (by kernel_rfl) (fun _ _ _ h => h) (Or.inl ⟨by rfl, ?_⟩) (by assumption) ?_
          rotate_left
          · (intro wz hSw; (try dsimp only at hSw); go_simp <;> with_reducible rfl)
          try simp only [Act.put, List.setIfInBounds_toArray, List.set_cons_zero, List.set_cons_succ]
          refine wpAnyH_done (by kernel_rfl) ?_ _
          refine NoPanic.normal ?_
          go_wp2
          go_ret
          exact ⟨by rw [HE.out]; rfl, hHeld⟩
end Rl
end Go.Proofs.Ytbdhncaiffepoaa

/-
  What stands ahead of so many bytes; contracts of rlp.Head and the plain answer's Head.
-/
namespace Go.Proofs.Ytbdhncaiffepoaa
set_option maxRecDepth 20000
open Go.RowKit

namespace Rl
def mark (l : Bool) : Nat := if l then 192 else 128
/-- ahead of n bytes -/
def headL (n : Nat) (l : Bool) : List UInt8 := if n < 56 then [UInt8.ofNat (mark l + n)] else UInt8.ofNat (mark l + 55 + (bigL n).length) :: bigL n
def headS (n : Nat) (l : Bool) : ByteArray := ⟨(headL n l).toArray⟩
/-- the number that it goes by -/
def clampH (n : Int) : Nat := (min (max n 0) 4294967296).toNat
theorem clampH_le (n : Int) : clampH n ≤ 4294967296 := by unfold clampH; omega
theorem headS_small {n : Nat} (h : n < 56) (l : Bool) : headS n l = ⟨#[UInt8.ofNat (mark l + n)]⟩ := by unfold headS headL; rw [if_pos h]
theorem headS_big {n : Nat} (h : ¬ n < 56) (l : Bool) : headS n l = ⟨#[UInt8.ofNat (mark l + 55 + (bigL n).length)]⟩ ++ ⟨(bigL n).toArray⟩ := by
  unfold headS headL
  rw [if_neg h]
  apply ByteArray.ext
  simp

theorem conv_new (w : World) (z : Int) (hz : 0 ≤ z ∧ z < 256) (c : UInt8) (hc : c = UInt8.ofNat z.toNat) :
    Sem.run Try.prog (convert 22 9 (Value.slice (some ⟨w.heap.size, 0, none⟩) 1 1)) (w.alloc (.cells #[.int .u8 z] 5)) = .ok (.string ⟨#[c]⟩) (w.alloc (.cells #[.int .u8 z] 5)) := by
  subst hc
  have hb : IsBs (w.alloc (.cells #[.int .u8 z] 5)) (some ⟨w.heap.size, 0, none⟩) 1 1 [UInt8.ofNat z.toNat] := IsBs.new w [UInt8.ofNat z.toNat] (by unfold maxLen; simp) _ _ (by
    simp
    omega)
  exact conv_bs hb

set_option maxHeartbeats 2000000 in
theorem head_small (n : Int) (m k : Nat) (hmax : max n 0 = m) (hmin : min (m : Int) 4294967296 = k) (hk : k < 56) (l : Bool) (w : World) :
    Calls Try.prog 74 #[.int .i64 n, .bool l] w fun e w' => e = .returned (.string (headS k l)) ∧ Below w.heap.size w w' := by
  cases l
  · obtain ⟨c, hc⟩ : ∃ c, c = UInt8.ofNat (128 + k) := ⟨_, rfl⟩
    have HS : Hid (headS k false = ⟨#[c]⟩) := Lib.hid (by rw [headS_small hk, hc]; rfl)
    have hcv := conv_new w (128 + k) (by omega) c (hc.trans (congrArg _ (by omega)))
    clear hc
    go_enter Try.func74, Try.ntmps74
    go_wp2
    go_ret
    exact ⟨by rw [HS.out]; rfl, al1 _ _⟩
  · obtain ⟨c, hc⟩ : ∃ c, c = UInt8.ofNat (192 + k) := ⟨_, rfl⟩
    have HS : Hid (headS k true = ⟨#[c]⟩) := Lib.hid (by rw [headS_small hk, hc]; rfl)
    have hcv := conv_new w (192 + k) (by omega) c (hc.trans (congrArg _ (by omega)))
    clear hc
    go_enter Try.func74, Try.ntmps74
    go_wp2
    go_ret
    exact ⟨by rw [HS.out]; rfl, al1 _ _⟩

set_option maxHeartbeats 2000000 in
theorem head_big (n : Int) (m k : Nat) (hmax : max n 0 = m) (hmin : min (m : Int) 4294967296 = k) (hm : m < 2 ^ 63) (hk : ¬ k < 56) (hk2 : k ≤ 4294967296) (l : Bool) (w : World) :
    Calls Try.prog 74 #[.int .i64 n, .bool l] w fun e w' => e = .returned (.string (headS k l)) ∧ Below w.heap.size w w' := by
  have HN := Lib.hid (fun w => number_any k (by omega) (by omega) w)
  have hlen := bigL_length (n := k) (by omega)
  cases l
  · obtain ⟨c, hc⟩ : ∃ c, c = UInt8.ofNat (183 + (bigL k).length) := ⟨_, rfl⟩
    have hs1 : headS k false = ⟨#[c]⟩ ++ ⟨(bigL k).toArray⟩ := by rw [headS_big hk, hc]; rfl
    have hcv := fun w => conv_new w (183 + (bigL k).length) (by omega) c (hc.trans (congrArg _ (by omega)))
    obtain ⟨B, hB⟩ : ∃ B, bigL k = B := ⟨_, rfl⟩
    rw [hB] at hs1 HN hlen
    simp only [hB] at hcv
    clear hB hc
    have hsz : (⟨B.toArray⟩ : ByteArray).size = B.length := by rfl
    obtain ⟨s, hs⟩ : ∃ s : ByteArray, ⟨B.toArray⟩ = s := ⟨_, rfl⟩
    rw [hs] at hsz hs1 HN
    have HS := Lib.hid hs1
    clear hs hs1
    go_enter Try.func74, Try.ntmps74
    go_wp2_with fail
    refine (HN.out _).mono ?_
    rintro e w1 ⟨rfl, hb1⟩
    have hcv1 := hcv w1
    go_wp2
    go_ret
    exact ⟨by rw [HS.out]; rfl, below_step' hb1 (al1 _ _)⟩
  · obtain ⟨c, hc⟩ : ∃ c, c = UInt8.ofNat (247 + (bigL k).length) := ⟨_, rfl⟩
    have hs1 : headS k true = ⟨#[c]⟩ ++ ⟨(bigL k).toArray⟩ := by rw [headS_big hk, hc]; rfl
    have hcv := fun w => conv_new w (247 + (bigL k).length) (by omega) c (hc.trans (congrArg _ (by omega)))
    obtain ⟨B, hB⟩ : ∃ B, bigL k = B := ⟨_, rfl⟩
    rw [hB] at hs1 HN hlen
    simp only [hB] at hcv
    clear hB hc
    have hsz : (⟨B.toArray⟩ : ByteArray).size = B.length := by rfl
    obtain ⟨s, hs⟩ : ∃ s : ByteArray, ⟨B.toArray⟩ = s := ⟨_, rfl⟩
    rw [hs] at hsz hs1 HN
    have HS := Lib.hid hs1
    clear hs hs1
    go_enter Try.func74, Try.ntmps74
    go_wp2_with fail
    refine (HN.out _).mono ?_
    rintro e w1 ⟨rfl, hb1⟩
    have hcv1 := hcv w1
    go_wp2
    go_ret
    exact ⟨by rw [HS.out]; rfl, below_step' hb1 (al1 _ _)⟩

set_option maxHeartbeats 2000000 in
theorem rhead_small (k : Nat) (hk : k < 56) (l : Bool) (w : World) :
    Calls Try.prog 34 #[.int .i64 k, .bool l] w fun e w' => e = .returned (.string (headS k l)) ∧ Below w.heap.size w w' := by
  cases l
  · obtain ⟨c, hc⟩ : ∃ c, c = UInt8.ofNat (128 + k) := ⟨_, rfl⟩
    have HS : Hid (headS k false = ⟨#[c]⟩) := Lib.hid (by rw [headS_small hk, hc]; rfl)
    have hcv := conv_new w (128 + k) (by omega) c (hc.trans (congrArg _ (by omega)))
    clear hc
    go_enter Try.func34, Try.ntmps34
    go_wp2
    go_ret
    exact ⟨by rw [HS.out]; rfl, al1 _ _⟩
  · obtain ⟨c, hc⟩ : ∃ c, c = UInt8.ofNat (192 + k) := ⟨_, rfl⟩
    have HS : Hid (headS k true = ⟨#[c]⟩) := Lib.hid (by rw [headS_small hk, hc]; rfl)
    have hcv := conv_new w (192 + k) (by omega) c (hc.trans (congrArg _ (by omega)))
    clear hc
    go_enter Try.func34, Try.ntmps34
    go_wp2
    go_ret
    exact ⟨by rw [HS.out]; rfl, al1 _ _⟩

set_option maxHeartbeats 2000000 in
theorem rhead_big (k : Nat) (hk : ¬ k < 56) (hk2 : k ≤ 4294967296) (l : Bool) (w : World) :
    Calls Try.prog 34 #[.int .i64 k, .bool l] w fun e w' => e = .returned (.string (headS k l)) ∧ Below w.heap.size w w' := by
  have HN := Lib.hid (fun w => big_any k (by omega) w)
  have hlen := bigL_length (n := k) (by omega)
  cases l
  · obtain ⟨c, hc⟩ : ∃ c, c = UInt8.ofNat (183 + (bigL k).length) := ⟨_, rfl⟩
    have hs1 : headS k false = ⟨#[c]⟩ ++ ⟨(bigL k).toArray⟩ := by rw [headS_big hk, hc]; rfl
    have hcv := fun w => conv_new w (183 + (bigL k).length) (by omega) c (hc.trans (congrArg _ (by omega)))
    obtain ⟨B, hB⟩ : ∃ B, bigL k = B := ⟨_, rfl⟩
    rw [hB] at hs1 HN hlen
    simp only [hB] at hcv
    clear hB hc
    have hsz : (⟨B.toArray⟩ : ByteArray).size = B.length := by rfl
    obtain ⟨s, hs⟩ : ∃ s : ByteArray, ⟨B.toArray⟩ = s := ⟨_, rfl⟩
    rw [hs] at hsz hs1 HN
    have HS := Lib.hid hs1
    clear hs hs1
    go_enter Try.func34, Try.ntmps34
    go_wp2_with fail
    refine (HN.out _).mono ?_
    rintro e w1 ⟨rfl, hb1⟩
    have hcv1 := hcv w1
    go_wp2
    go_ret
    exact ⟨by rw [HS.out]; rfl, below_step' hb1 (al1 _ _)⟩
  · obtain ⟨c, hc⟩ : ∃ c, c = UInt8.ofNat (247 + (bigL k).length) := ⟨_, rfl⟩
    have hs1 : headS k true = ⟨#[c]⟩ ++ ⟨(bigL k).toArray⟩ := by rw [headS_big hk, hc]; rfl
    have hcv := fun w => conv_new w (247 + (bigL k).length) (by omega) c (hc.trans (congrArg _ (by omega)))
    obtain ⟨B, hB⟩ : ∃ B, bigL k = B := ⟨_, rfl⟩
    rw [hB] at hs1 HN hlen
    simp only [hB] at hcv
    clear hB hc
    have hsz : (⟨B.toArray⟩ : ByteArray).size = B.length := by rfl
    obtain ⟨s, hs⟩ : ∃ s : ByteArray, ⟨B.toArray⟩ = s := ⟨_, rfl⟩
    rw [hs] at hsz hs1 HN
    have HS := Lib.hid hs1
    clear hs hs1
    go_enter Try.func34, Try.ntmps34
    go_wp2_with fail
    refine (HN.out _).mono ?_
    rintro e w1 ⟨rfl, hb1⟩
    have hcv1 := hcv w1
    go_wp2
    go_ret
    exact ⟨by rw [HS.out]; rfl, below_step' hb1 (al1 _ _)⟩

theorem head_any (n : Int) (hn : n < 2 ^ 63) (l : Bool) (w : World) :
    Calls Try.prog 74 #[.int .i64 n, .bool l] w fun e w' => e = .returned (.string (headS (clampH n) l)) ∧ Below w.heap.size w w' := by
  have h1 : max n 0 = ((max n 0).toNat : Int) := by omega
  have h2 : min (((max n 0).toNat : Nat) : Int) 4294967296 = clampH n := by unfold clampH; omega
  by_cases hk : clampH n < 56
  · exact head_small n _ _ h1 h2 hk l w
  · exact head_big n _ _ h1 h2 (by omega) hk (clampH_le n) l w
theorem rhead_any (k : Nat) (hk2 : k ≤ 4294967296) (l : Bool) (w : World) :
    Calls Try.prog 34 #[.int .i64 k, .bool l] w fun e w' => e = .returned (.string (headS k l)) ∧ Below w.heap.size w w' := by
  by_cases hk : k < 56
  · exact rhead_small k hk l w
  · exact rhead_big k hk hk2 l w
end Rl
end Go.Proofs.Ytbdhncaiffepoaa

/-
  Contracts of the plain answers' Low and High.
-/
namespace Go.Proofs.Ytbdhncaiffepoaa
open Go.RowKit

namespace Lh
end Lh
end Go.Proofs.Ytbdhncaiffepoaa

/-
  Contracts of the plain answers' Size; of light.
-/
namespace Go.Proofs.Ytbdhncaiffepoaa
open Go.RowKit

namespace Rl
set_option maxHeartbeats 1000000 in
theorem text_any (s : ByteArray) (w : World) :
    Calls Try.prog 50 #[.string s] w fun e w' => e = .returned (itV (.mk false s []) none 0 0) ∧ Below w.heap.size w w' := by
  go_enter Try.func50, Try.ntmps50
  go_wp2
  exact bodyPost_ret (res_item rfl _ rfl (lies_new w (.mk false s []) none 0 0 _)) rfl ⟨rfl, (Below.refl _ _).alloc (Nat.le_refl _) _⟩

/-- whether it is so, whichever -/
def GotBool (w : World) (e : Ending) (w' : World) : Prop := ∃ b : Bool, e = .returned (.bool b) ∧ Below w.heap.size w w'
end Rl
end Go.Proofs.Ytbdhncaiffepoaa

/-
  Contracts of rlp.Count, rlp.Same and the plain answer's Same.
-/
namespace Go.Proofs.Ytbdhncaiffepoaa
open Go.RowKit

namespace It
/-- how many items -/
def size : It → Nat
  | .mk _ _ xs => 1 + (xs.map size).sum
termination_by x => SizeOf.sizeOf x
decreasing_by
  rename_i h
  have := List.sizeOf_lt_of_mem h
  simp
  omega
theorem size_mk (l : Bool) (s : ByteArray) (xs : List It) : (It.mk l s xs).size = 1 + (xs.map size).sum := by rw [size]
end It

namespace Rl
theorem wrap_step (a b c : Int) (h : b = wrap64 a) : wrap64 (b + wrap64 c) = wrap64 (a + c) := by
  subst h
  simp only [wrap64]
  omega
theorem sum_take (xs : List It) (q : Nat) (x : It) (h : xs[q]? = some x) : (((xs.take (q + 1)).map It.size).sum : Nat) = ((xs.take q).map It.size).sum + x.size := by
  rw [List.take_add_one, h]
  simp

open Classical in
/-- the same? -/
noncomputable def sameB {α : Type} (x y : α) : Bool := decide (x = y)
theorem sameB_true {α : Type} {x y : α} (h : x = y) : sameB x y = true := by simp [sameB, h]
theorem sameB_false {α : Type} {x y : α} (h : x ≠ y) : sameB x y = false := by simp [sameB, h]
/-- what it tells of two items -/
def Tells (f : FuncId) (x : It) : Prop := ∀ (y : It) (w : World) (u v : Value), IsIt w x u → IsIt w y v → Calls Try.prog f #[u, v] w fun e w' => e = .returned (.bool (sameB x y)) ∧ Below w.heap.size w w'
theorem differ (xs ys : List It) (q : Nat) (x y : It) (hx : xs[q]? = some x) (hy : ys[q]? = some y) (h : x ≠ y) : xs ≠ ys := by
  rintro rfl
  exact h (Option.some.inj (hx.symm.trans hy))
theorem take_eq (xs ys : List It) (q : Nat) (x : It) (hx : xs[q]? = some x) (hy : ys[q]? = some x) (h : xs.take q = ys.take q) : xs.take (q + 1) = ys.take (q + 1) := by
  rw [List.take_add_one, List.take_add_one, hx, hy, h]

theorem text_ne {s s' : ByteArray} (h : s ≠ s') : (s.toList == s'.toList) = false := by
  rw [beq_eq_false_iff_ne, ByteArray.toList_eq, ByteArray.toList_eq]
  exact fun e => h (ByteArray.ext (Array.toList_inj.mp e))
theorem it_ne {l l' : Bool} {s s' : ByteArray} {xs ys : List It} (h : l ≠ l' ∨ s ≠ s' ∨ xs ≠ ys) : It.mk l s xs ≠ It.mk l' s' ys := by
  rintro ⟨⟩
  simp at h

end Rl
end Go.Proofs.Ytbdhncaiffepoaa

/-
  The contract of slices.Clone over items.
-/
namespace Go.Proofs.Ytbdhncaiffepoaa
set_option maxRecDepth 20000
open Go.RowKit

namespace Rl
theorem info_it : (Try.prog.info? 48).map (fun i => (i.size, i.bytes)) = some (3, 48) := by kernel_rfl
theorem info_it_zero : ((Try.prog.info? 48).bind (·.zero)).isSome = true := by kernel_rfl
theorem info_it_cells : ((Try.prog.info? 48).bind (·.zero)).map (·.cells.size) = some 3 := by kernel_rfl
theorem info_it_parts : ∃ i z, Try.prog.info? 48 = some i ∧ i.zero = some z ∧ i.size = 3 ∧ i.bytes = 48 ∧ z.cells.size = 3 := by
  have h1 := info_it
  have h2 := info_it_zero
  have h3 := info_it_cells
  cases hi : Try.prog.info? 48 with
  | none => rw [hi] at h1; simp at h1
  | some i =>
    rw [hi] at h1 h2 h3
    simp at h1 h2 h3
    cases hz : i.zero with
    | none => rw [hz] at h2; simp at h2
    | some z =>
      rw [hz] at h3
      simp at h3
      exact ⟨i, z, rfl, hz, h1.1, h1.2, h3⟩

/-- one of an item's three cells -/
def OneOf : Value → Prop
  | .bool _ | .string _ | .slice _ _ _ => True
  | _ => False
theorem OneOf.one {v : Value} (h : OneOf v) : v.oneCell' = true := by
  cases v <;> first | rfl | exact h.elim
/-- the cells of a slice of items, one behind the other -/
theorem cells_of {w : World} {xs : List It} {ad : Addr} {n cap : Nat} (h : IsIts w xs (some ad) n cap) (i : Nat) (hi : i < n * 3) : ∃ v, w.cell? (ad.add i) = some v ∧ OneOf v := by
  obtain ⟨x, b, off, A, N, C, _, e, _, ⟨c0, c1, c2⟩, _⟩ := h.at' (i / 3) (by omega)
  obtain rfl := Option.some.inj e
  rw [Addr.add_mid]
  have h3 : i % 3 = 0 ∨ i % 3 = 1 ∨ i % 3 = 2 := by omega
  rcases h3 with h3 | h3 | h3
  · exact ⟨.bool x.l, (by rw [← c0]; congr 2; omega), True.intro⟩
  · exact ⟨.string x.s, (by rw [← c1]; congr 2; omega), True.intro⟩
  · exact ⟨.slice A N C, (by rw [← c2]; congr 2; omega), True.intro⟩

/-- a new slice whose elements' cells are those of the old one -/
def GotClone (w : World) (ad : Addr) (n : Nat) (e : Ending) (w' : World) : Prop :=
  ∃ g cap f, e = .returned (.slice (some ⟨g, 0, none⟩) n cap) ∧ w.heap.size ≤ g ∧ n ≤ cap ∧ cap ≤ maxLen ∧ w'.rowIs g 48 (cap * 3) f ∧ (∀ i, i < n * 3 → w.cell? (ad.add i) = some (f i)) ∧ Below w.heap.size w w'

theorem nil_nil (w : World) : (binOp .eql 46 (.slice none 0 0) (.slice none 0 0)).run Try.prog w = .ok (.bool true) w := by kernel_rfl
theorem some_nil (a : Addr) (n cap : Nat) (w : World) : (binOp .eql 46 (.slice (some a) n cap) (.slice none 0 0)).run Try.prog w = .ok (.bool false) w := by kernel_rfl
theorem clone_nil (w : World) : Calls Try.prog 75 #[.slice none 0 0] w fun e w' => e = .returned (.slice none 0 0) ∧ w = w' := by
  have hnil := nil_nil
  go_enter Try.func75, Try.ntmps75
  go_wp2
  go_ret
  exact ⟨rfl, rfl⟩

theorem got_of_owns {w w' : World} {ad : Addr} {n : Nat} {v : Value} {news : List Value} (ho : w'.ownsRow w.heap.size 48 3 v n news) (hne : v ≠ .slice none 0 0) (hc : ∀ i u, news[i]? = some u → w.cell? (ad.add i) = some u) (hb : Below w.heap.size w w') :
    GotClone w ad n (.returned v) w' := by
  rcases ho.2 with ⟨rfl, hz⟩ | ⟨g, cap, cur, rfl, hbg, hg, hnc, hcm, hcs, htake⟩
  · exact absurd rfl hne
  · refine ⟨g, cap, fun j => cur.getD j undef, rfl, hbg, hnc, hcm, ⟨cur, hg, hcs, fun i hi => ?_⟩, fun i hi => ?_, hb⟩
    · have : i < cur.size := by omega
      simp [this]
    · have hlt : i < cur.size := by
        have : n * 3 ≤ cap * 3 := Nat.mul_le_mul_right 3 hnc
        omega
      apply hc
      rw [← htake, List.getElem?_take, if_pos hi]
      simp [hlt]

set_option maxHeartbeats 2000000 in
theorem clone_any (xs : List It) (ad : Addr) (n cap : Nat) (w : World) (h : IsIts w xs (some ad) n cap) :
    Calls Try.prog 75 #[.slice (some ad) n cap] w (GotClone w ad n) := by
  obtain ⟨i0, z0, hi, hz, hs, hby, hzc⟩ := info_it_parts
  have HI : Hid (_ ∧ _ ∧ _ ∧ _ ∧ _) := Lib.hid ⟨hi, hz, hs, hby, hzc⟩
  obtain ⟨news, hl, hc, h1⟩ : ∃ news : List Value, news.length = n * 3 ∧ (∀ i u, news[i]? = some u → w.cell? (ad.add i) = some u) ∧ ∀ u ∈ news, u.oneCell' = true := by
    refine ⟨(List.range (n * 3)).map fun i => (w.cell? (ad.add i)).getD undef, by simp, fun i u hu => ?_, fun u hu => ?_⟩
    · by_cases hi : i < n * 3
      · obtain ⟨v, hv, _⟩ := cells_of h i hi
        simp [hi, hv] at hu
        rw [hv, hu]
      · simp [hi] at hu
    · simp at hu
      obtain ⟨i, hi, rfl⟩ := hu
      obtain ⟨v, hv, ho⟩ := cells_of h i hi
      rw [hv]
      exact ho.one
  have hfew := h.few
  have HN : Hid (_ ∧ _ ∧ _) := Lib.hid ⟨hl, hc, h1⟩
  have hlt : ∀ j, j < n * 3 → (ad.add j).block < w.heap.size := fun j hj => by
    obtain ⟨v, hv, _⟩ := cells_of h j hj
    exact World.block_lt_of_cell? w _ hv
  have HLt := Lib.hid hlt
  have hnil := some_nil ad n cap
  clear hi hz hs hby hzc hl hc h1 h hlt
  go_enter Try.func75, Try.ntmps75
  have HO : Hid ((w.alloc (.cells #[] 48)).ownsRow w.heap.size 48 3 (.slice (some ⟨w.heap.size, 0, none⟩) 0 0) 0 []) := Lib.hid (World.ownsRow_made w #[] 0 (Nat.le_refl _) (Nat.zero_le _) (by simp))
  go_wp2_with (at_builtin; refine wpList_append_own _ rfl _ _ 46 rfl w.heap.size 48 i0 z0 3 48 Try.underlying46 HI.out.1 HI.out.2.1 HI.out.2.2.1 HI.out.2.2.2.1 HI.out.2.2.2.2 (by decide) _ _ _ rfl HO.out ad n cap news rfl HN.out.1 ?c2 HN.out.2.2 ?c3 ?c4 ?c5 ?_)
  case c2 =>
    intro j u hu
    have hj : j < n * 3 := by rw [← HN.out.1]; exact (List.getElem?_eq_some_iff.1 hu).1
    rw [(al1 w _).cell (p := ad.add j) (HLt.out j hj)]
    exact HN.out.2.1 j u hu
  case c3 => unfold maxLen; omega
  case c4 => omega
  case c5 => simp
  intro v' w2 hown2 hgrow hnil'
  have HG : Hid (GotClone w ad n (.returned v') w2) := Lib.hid (got_of_owns hown2 hnil' HN.out.2.1 ((al1 w _).grown hgrow (by simp) (fun k hk => by simp [Value.ownBlock] at hk; omega)))
  clear hown2 hgrow hnil'
  go_wp2
  go_ret
  exact HG.out
end Rl
end Go.Proofs.Ytbdhncaiffepoaa

/-
  Contracts of rlp.copied and rlp.List.
-/
namespace Go.Proofs.Ytbdhncaiffepoaa
set_option maxRecDepth 20000
open Go.RowKit

namespace Rl
/-- new items are handed back -/
def GotIts (w : World) (xs : List It) (e : Ending) (w' : World) : Prop :=
  ∃ a n cap, e = .returned (.slice a n cap) ∧ ItsIn w.heap.size w' xs a n cap ∧ Below w.heap.size w w'

/-- the row of copies, of which so many have copies within -/
def Mid (w wr : World) (g cap : Nat) (xs : List It) (q : Nat) : Prop :=
  ∃ f, wr.rowIs g 48 (cap * 3) f ∧ ∀ (j : Nat) (x : It), xs[j]? = some x → ∃ A N C, f (j * 3) = .bool x.l ∧ f (j * 3 + 1) = .string x.s ∧ f (j * 3 + 2) = .slice A N C ∧
    ((j < q ∧ ItsIn (g + 1) wr x.xs A N C) ∨ (q ≤ j ∧ IsIts w x.xs A N C))
theorem Mid.start {w w' : World} {ad : Addr} {n cap g c : Nat} {xs : List It} (h : IsIts w xs (some ad) n c) {f : Nat → Value} (hr : w'.rowIs g 48 (cap * 3) f) (hf : ∀ i, i < n * 3 → w.cell? (ad.add i) = some (f i)) : Mid w w' g cap xs 0 := by
  refine ⟨f, hr, fun j x hx => ?_⟩
  have hj : j < n := by rw [← h.len]; exact (List.getElem?_eq_some_iff.1 hx).1
  obtain ⟨x', b', off', A, N, C, hx', e, _, ⟨c0, c1, c2⟩, hI⟩ := h.at' j hj
  obtain rfl := Option.some.inj e
  obtain rfl := Option.some.inj (hx.symm.trans hx')
  simp only [Addr.add_mid] at hf
  have f0 := hf (j * 3) (by omega)
  have f1 := hf (j * 3 + 1) (by omega)
  have f2 := hf (j * 3 + 2) (by omega)
  rw [c0] at f0
  rw [← Nat.add_assoc, c1] at f1
  rw [← Nat.add_assoc, c2] at f2
  exact ⟨A, N, C, (Option.some.inj f0).symm, (Option.some.inj f1).symm, (Option.some.inj f2).symm, .inr ⟨Nat.zero_le _, hI⟩⟩
theorem Mid.at' {w wr : World} {g cap q n : Nat} {xs : List It} (h : Mid w wr g cap xs q) (hl : xs.length = n) (hc : n ≤ cap) (hq : q < n) :
    ∃ x A N C, xs[q]? = some x ∧ wr.cell? ⟨g, q * 3 + 2, none⟩ = some (.slice A N C) ∧ IsIts w x.xs A N C := by
  obtain ⟨f, hr, h⟩ := h
  have hx : xs[q]? = some (xs[q]'(by omega)) := List.getElem?_eq_getElem (by omega)
  obtain ⟨A, N, C, _, _, f2, hh⟩ := h q _ hx
  refine ⟨_, A, N, C, hx, by rw [hr.cell (by omega), f2], ?_⟩
  rcases hh with ⟨h1, _⟩ | ⟨_, h2⟩
  · omega
  · exact h2
theorem Mid.step {w wr w1 : World} {g cap q : Nat} {xs : List It} {x : It} (h : Mid w wr g cap xs q) (hx : xs[q]? = some x) {a : Option Addr} {n c : Nat} (hI : ItsIn wr.heap.size w1 x.xs a n c) (hb : Below wr.heap.size wr w1) :
    Mid w (w1.setCell ⟨g, q * 3 + 2, none⟩ (.slice a n c)) g cap xs (q + 1) := by
  obtain ⟨f, hr, h⟩ := h
  have hlt := hr.lt
  have hr1 : w1.rowIs g 48 (cap * 3) f := hr.of_block (hb.block g hlt)
  have keep : ∀ {ys : List It} {A : Option Addr} {N C : Nat}, ItsIn (g + 1) w1 ys A N C → ItsIn (g + 1) (w1.setCell ⟨g, q * 3 + 2, none⟩ (.slice a n c)) ys A N C := fun hh =>
    ItsIn.kept hh (by simp) (fun b o hB _ => World.cell?_of_block (Below.heap_setCell w1 _ _ b (by show b ≠ g; omega)))
  refine ⟨_, hr1.set (q * 3 + 2) (.slice a n c), fun j y hy => ?_⟩
  obtain ⟨A, N, C, f0, f1, f2, hh⟩ := h j y hy
  by_cases hj : j = q
  · subst hj
    obtain rfl := Option.some.inj (hx.symm.trans hy)
    refine ⟨a, n, c, by rw [if_neg (by omega), f0], by rw [if_neg (by omega), f1], by rw [if_pos rfl], .inl ⟨by omega, keep (ItsIn.weak hI (by omega))⟩⟩
  · refine ⟨A, N, C, by rw [if_neg (by omega), f0], by rw [if_neg (by omega), f1], by rw [if_neg (by omega), f2], ?_⟩
    rcases hh with ⟨h1, h2⟩ | ⟨h1, h2⟩
    · exact .inl ⟨by omega, keep (h2.stays hb)⟩
    · exact .inr ⟨by omega, h2⟩
theorem Mid.lt {w wr : World} {g cap q : Nat} {xs : List It} (h : Mid w wr g cap xs q) : g < wr.heap.size := by
  obtain ⟨f, hr, _⟩ := h
  exact hr.lt
theorem Mid.free {w wr w1 : World} {g cap q : Nat} {xs : List It} (h : Mid w wr g cap xs q) (hb : Below wr.heap.size wr w1) (i : Nat) : w1.frozen? ⟨g, i, none⟩ = false := by
  obtain ⟨f, hr, _⟩ := h
  have hr1 : w1.rowIs g 48 (cap * 3) f := hr.of_block (hb.block g hr.lt)
  exact hr1.frozen i
theorem Mid.done {w wr : World} {g cap n : Nat} {xs : List It} (h : Mid w wr g cap xs n) (hl : xs.length = n) (hc : n ≤ cap) (hm : cap ≤ maxLen) (hw : n ≤ 2932031007402) {B : Nat} (hB : B ≤ g) : ItsIn B wr xs (some ⟨g, 0, none⟩) n cap := by
  obtain ⟨f, hr, h⟩ := h
  have each : ∀ j, j < n → ∃ r : Option Addr × Nat × Nat, ∀ x, xs[j]? = some x → Lies wr g (0 + j * 3) x r.1 r.2.1 r.2.2 ∧ ItsIn B wr x.xs r.1 r.2.1 r.2.2 := fun j hj => by
    have hx : xs[j]? = some (xs[j]'(by omega)) := List.getElem?_eq_getElem (by omega)
    obtain ⟨A, N, C, f0, f1, f2, hh⟩ := h j _ hx
    refine ⟨(A, N, C), fun x hx' => ?_⟩
    obtain rfl := Option.some.inj (hx.symm.trans hx')
    refine ⟨⟨by rw [Nat.zero_add, hr.cell (by omega), f0], by rw [Nat.zero_add, hr.cell (by omega), f1], by rw [Nat.zero_add, hr.cell (by omega), f2]⟩, ?_⟩
    rcases hh with ⟨_, h2⟩ | ⟨h1, _⟩
    · exact ItsIn.weak h2 (by omega)
    · omega
  obtain ⟨F, hF⟩ := Go.Deep.choose_lt each
  refine ItsP.mk (fun j => (F j).1) (fun j => (F j).2.1) (fun j => (F j).2.2) hl hc hm hw (fun e => (by cases e)) (fun j x hx => ?_) (fun j x hx => ?_)
  · exact ⟨g, 0, rfl, hB, hr.lt, (hF j (by rw [← hl]; exact (List.getElem?_eq_some_iff.1 hx).1) x hx).1⟩
  · exact (hF j (by rw [← hl]; exact (List.getElem?_eq_some_iff.1 hx).1) x hx).2

set_option maxHeartbeats 4000000 in
theorem copied_any (x : It) : ∀ (w : World) (a : Option Addr) (n cap : Nat), IsIts w x.xs a n cap → Calls Try.prog 64 #[.slice a n cap] w (GotIts w x.xs) := by
  induction x using It.ind with
  | h l s xs ih =>
    intro w a n cap h
    replace h : IsIts w xs a n cap := h
    show Calls Try.prog 64 #[.slice a n cap] w (GotIts w xs)
    cases a with
    | none =>
      have hc := h.none' rfl
      have hn := h.le
      obtain rfl : cap = 0 := hc
      obtain rfl : n = 0 := by omega
      have HX : Hid (xs = []) := Lib.hid (List.eq_nil_of_length_eq_zero h.len)
      clear ih h hn
      go_enter Try.func64, Try.ntmps64
      go_wp2_with (go_at_call 75; refine (clone_nil _).mono ?_; rintro e w1 ⟨rfl, rfl⟩)
      refine wp_loop_rounds 1 ?_
      rw [rounds_succ]
      go_wp2
      go_ret
      exact ⟨none, 0, 0, rfl, by rw [HX.out]; exact ItsIn.nil _ _, Below.refl _ _⟩
    | some ad =>
      have HIh := Lib.hid ih
      have H := Lib.hid h
      have hfew := h.few
      clear ih h
      go_enter Try.func64, Try.ntmps64
      go_wp2_with fail
      refine (clone_any xs ad n cap _ H.out).mono ?_
      rintro e w1 ⟨g, c, f, rfl, hg, hnc, hcm, hr, hf, hb1⟩
      have HM := Lib.hid (Mid.start H.out hr hf)
      have hglt := hr.lt
      have HB1 := Lib.hid hb1
      clear hr hf hb1
      unfold maxLen at hcm
      go_wp2
      go_loopw [9] (fun i wr => ∃ q : Nat, q ≤ n ∧ i = .int .i64 q ∧ Hid (Mid w wr g c xs q) ∧ Below w.heap.size w wr) (fun i _ => n - (intOf i).toNat)
      case atStart => exact ⟨0, Nat.zero_le _, rfl, Lib.hid HM.out, HB1.out⟩
      case round =>
        obtain ⟨q, hq, rfl, HQ, hB⟩ := hrel
        have HB := Lib.hid hB
        clear HM hB
        by_cases hlt : q < n
        · obtain ⟨x, A, N, C, hx, c2, hI⟩ := HQ.out.at' H.out.len hnc hlt
          have HI := Lib.hid (HIh.out x (List.mem_of_getElem? hx) wr A N C (hI.stays HB.out))
          have HX := Lib.hid hx
          clear hI hx HIh
          go_wp2_with fail
          refine HI.out.mono ?_
          rintro e w2 ⟨a', n', c', rfl, hI2, hb2⟩
          have hc2 : w2.cell? ⟨g, q * 3 + 2, none⟩ = some (.slice A N C) := (hb2.cell (p := ⟨g, q * 3 + 2, none⟩) HQ.out.lt).trans c2
          have hz2 := HQ.out.free hb2 (q * 3 + 2)
          have HS := Lib.hid (HQ.out.step HX.out hI2 hb2)
          have HB2 := Lib.hid (below_step' HB.out hb2)
          clear hI2 hb2 c2
          go_wp2
          go_roundw
          case rel => exact ⟨q + 1, by omega, by go_num, Lib.hid HS.out, HB2.out.setCell hg _⟩
          case measure => simp [intOf]; omega
        · obtain rfl : q = n := by omega
          have HD := Lib.hid (HQ.out.done H.out.len hnc (by unfold maxLen; omega) hfew hg)
          clear HIh HQ
          go_wp2
          go_ret
          exact ⟨_, _, _, rfl, HD.out, HB.out⟩
/-- an item is handed back, its items in new memory -/
def GotIt (w : World) (x : It) (e : Ending) (w' : World) : Prop := ∃ a n cap, e = .returned (itV x a n cap) ∧ ItsIn w.heap.size w' x.xs a n cap ∧ Below w.heap.size w w'
/-- an item's cells -/
def itC (x : It) (a : Option Addr) (n cap : Nat) : Array Value := #[.bool x.l, .string x.s, .slice a n cap]
theorem info_itC (x : It) (a : Option Addr) (n cap : Nat) : (Try.prog.info? 48).map (·.size) = some (itC x a n cap).size := info_item
theorem itC_one (x : It) (a : Option Addr) (n cap : Nat) : (itC x a n cap).all (·.oneCell') = true := by
  simp [itC, Value.oneCell']
/-- a cell of the call's own for an item -/
theorem lies_row {w : World} {g : Nat} {x : It} {a : Option Addr} {n cap : Nat} {t : TypeId} {fz : Nat × Nat} (h : w.heap[g]? = some (.cells (itC x a n cap) t fz)) : Lies w g 0 x a n cap := by
  refine ⟨?_, ?_, ?_⟩
  all_goals
    simp [World.cell?, h]
    rfl
def it0 : It := .mk false ⟨#[]⟩ []
theorem box_new (w : World) : (w.alloc (.cells (itC it0 none 0 0) 48)).heap[w.heap.size]? = some (.cells (itC it0 none 0 0) 48 (0, 0)) := heap_alloc_new _ _
theorem below_row {B : Nat} {w w1 : World} (h : Below B w w1) {g : Nat} (hg : B ≤ g) (cs : Array Value) : Below B w (w1.setRow g cs) :=
  h.trans ⟨rfl, rfl, rfl, by simp, fun k hk => setRow_other w1 g k cs (by omega)⟩
theorem ItsIn_row {B g : Nat} {w : World} {xs : List It} {a : Option Addr} {n cap : Nat} (h : ItsIn B w xs a n cap) (hg : g < B) (cs : Array Value) : ItsIn B (w.setRow g cs) xs a n cap :=
  ItsIn.kept h (by simp) (fun b o hB _ => World.cell?_of_block (setRow_other w g b cs (by omega)))

set_option maxHeartbeats 4000000 in
theorem list_any (xs : List It) (w : World) (a : Option Addr) (n cap : Nat) (h : IsIts w xs a n cap) : Calls Try.prog 48 #[.slice a n cap] w (GotIt w (.mk true ⟨#[]⟩ xs)) := by
  have HC := Lib.hid (copied_any (.mk true ⟨#[]⟩ xs) (w.alloc (.cells (itC it0 none 0 0) 48)) a n cap (h.alloc _))
  clear h
  go_enter Try.func48, Try.ntmps48
  go_wp2_with fail
  refine HC.out.mono ?_
  rintro e w1 ⟨a', n', c', rfl, hI, hb⟩
  have HG := Lib.hid ((hb.block w.heap.size (by simp)).trans (box_new w))
  have HI := Lib.hid hI
  have HB := Lib.hid (of_al (al_of hb))
  clear hI hb HC
  go_wp2_with (refine wpList_store_rowTo rfl 48 _ _ rfl rfl _ (itC (.mk true ⟨#[]⟩ xs) a' n' c') rfl rfl 48 (itC it0 none 0 0) HG.out (info_itC _ _ _ _) rfl (itC_one _ _ _ _) ?_)
  exact bodyPost_ret (res_item rfl _ rfl (lies_row (setRow_heap _ _ _ _ _ _ HG.out))) rfl ⟨a', n', c', rfl, ItsIn.weak (ItsIn_row HI.out (by simp) _) (by simp), below_row HB.out (Nat.le_refl _) _⟩
end Rl
end Go.Proofs.Ytbdhncaiffepoaa
