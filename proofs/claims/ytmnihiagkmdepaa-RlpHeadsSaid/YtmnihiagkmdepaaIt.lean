/-
  Items (texts and lists within one another): what one is in memory, as a walk takes it.
-/
import Derived.Test.YtmnihiagkmdepaaBs
import Derived.Deep.MidRow
import Derived.Deep.Slices
import Derived.Handy
import Derived.Laws.NewBlocks
namespace Go.Proofs.Ytmnihiagkmdepaa
open Go.RowKit Go.ChangeShapes Go.WideShapes

/-- an item: whether it is a list, its text, its items -/
inductive It where
  | mk (l : Bool) (s : ByteArray) (xs : List It)

namespace It
def l : It → Bool | .mk l _ _ => l
def s : It → ByteArray | .mk _ s _ => s
def xs : It → List It | .mk _ _ xs => xs
theorem eta (x : It) : x = .mk x.l x.s x.xs := by cases x; rfl
theorem ind {P : It → Prop} (h : ∀ l s xs, (∀ y ∈ xs, P y) → P (.mk l s xs)) : ∀ x, P x
  | .mk l s xs => h l s xs (fun y _ => ind h y)
termination_by x => SizeOf.sizeOf x
decreasing_by
  have := List.sizeOf_lt_of_mem ‹y ∈ xs›
  simp
  omega
end It

/-- an item lies there -/
def Lies (w : World) (b o : Nat) (x : It) (A : Option Addr) (N C : Nat) : Prop :=
  w.cell? ⟨b, o, none⟩ = some (.bool x.l) ∧ w.cell? ⟨b, o + 1, none⟩ = some (.string x.s) ∧ w.cell? ⟨b, o + 2, none⟩ = some (.slice A N C)
theorem Lies.stays {B : Nat} {w w' : World} {b o : Nat} {x : It} {A : Option Addr} {N C : Nat} (h : Lies w b o x A N C) (hb : Below B w w') (hlt : b < B) : Lies w' b o x A N C :=
  ⟨by rw [hb.cell (p := ⟨b, _, none⟩) hlt]; exact h.1, by rw [hb.cell (p := ⟨b, _, none⟩) hlt]; exact h.2.1, by rw [hb.cell (p := ⟨b, _, none⟩) hlt]; exact h.2.2⟩

/-- the slice's elements are these items, in such blocks -/
inductive ItsP (p : Nat → Prop) (w : World) : List It → Option Addr → Nat → Nat → Prop
  | mk {xs : List It} {a : Option Addr} {n cap : Nat} (A : Nat → Option Addr) (N C : Nat → Nat) (hl : xs.length = n) (hc : n ≤ cap) (hm : cap ≤ maxLen) (hw : n ≤ 2932031007402) (hn : a = none → cap = 0)
      (h : ∀ (j : Nat) (x : It), xs[j]? = some x → ∃ b off, a = some ⟨b, off, none⟩ ∧ p b ∧ b < w.heap.size ∧ Lies w b (off + j * 3) x (A j) (N j) (C j))
      (hi : ∀ (j : Nat) (x : It), xs[j]? = some x → ItsP p w x.xs (A j) (N j) (C j)) : ItsP p w xs a n cap
/-- .. in blocks from B on -/
abbrev ItsIn (B : Nat) (w : World) (xs : List It) (a : Option Addr) (n cap : Nat) : Prop := ItsP (fun b => B ≤ b) w xs a n cap
/-- .. in whatever blocks -/
abbrev IsIts (w : World) (xs : List It) (a : Option Addr) (n cap : Nat) : Prop := ItsIn 0 w xs a n cap

/-- an item as a value -/
def itV (x : It) (a : Option Addr) (n cap : Nat) : Value := .agg #[.bool x.l, .string x.s, .slice a n cap]
/-- the value is this item -/
def IsIt (w : World) (x : It) (v : Value) : Prop := ∃ a n cap, v = itV x a n cap ∧ IsIts w x.xs a n cap

namespace ItsP
variable {p : Nat → Prop} {w w' : World} {xs : List It} {a : Option Addr} {n cap : Nat}
theorem len (h : ItsP p w xs a n cap) : xs.length = n := by cases h; assumption
theorem le (h : ItsP p w xs a n cap) : n ≤ cap := by cases h; assumption
theorem max (h : ItsP p w xs a n cap) : cap ≤ maxLen := by cases h; assumption
theorem few (h : ItsP p w xs a n cap) : n ≤ 2932031007402 := by cases h; assumption
theorem none' (h : ItsP p w xs a n cap) : a = none → cap = 0 := by cases h; assumption
/-- what keeps the cells keeps the items -/
theorem kept (h : ItsP p w xs a n cap) (hs : w.heap.size ≤ w'.heap.size) (hk : ∀ b o, p b → b < w.heap.size → w'.cell? ⟨b, o, none⟩ = w.cell? ⟨b, o, none⟩) : ItsP p w' xs a n cap := by
  induction h with
  | mk A N C hl hc hm hw hn h hi ih =>
    refine .mk A N C hl hc hm hw hn (fun j x hx => ?_) ih
    obtain ⟨b, off, e, hB, hlt, c0, c1, c2⟩ := h j x hx
    exact ⟨b, off, e, hB, Nat.lt_of_lt_of_le hlt hs, by rw [hk b _ hB hlt, c0], by rw [hk b _ hB hlt, c1], by rw [hk b _ hB hlt, c2]⟩
theorem stays (h : ItsP p w xs a n cap) (hb : Below w.heap.size w w') : ItsP p w' xs a n cap := h.kept hb.size fun b o _ hlt => hb.cell (p := ⟨b, o, none⟩) hlt
theorem to {p' : Nat → Prop} (h : ItsP p w xs a n cap) (hp : ∀ b, b < w.heap.size → p b → p' b) : ItsP p' w xs a n cap := by
  induction h with
  | mk A N C hl hc hm hw hn h hi ih =>
    refine .mk A N C hl hc hm hw hn (fun j x hx => ?_) ih
    obtain ⟨b, off, e, hb, hlt, r⟩ := h j x hx
    exact ⟨b, off, e, hp b hlt hb, hlt, r⟩
theorem at' (h : ItsP p w xs a n cap) (j : Nat) (hj : j < n) : ∃ x b off A N C, xs[j]? = some x ∧ a = some ⟨b, off, none⟩ ∧ b < w.heap.size ∧ Lies w b (off + j * 3) x A N C ∧ ItsP p w x.xs A N C := by
  cases h with
  | mk A N C hl hc hm hw hn h hi =>
    have hx : xs[j]? = some (xs[j]'(by omega)) := List.getElem?_eq_getElem (by omega)
    obtain ⟨b, off, e, _, hlt, hL⟩ := h j _ hx
    exact ⟨_, b, off, A j, N j, C j, hx, e, hlt, hL, hi j _ hx⟩
theorem nil (p : Nat → Prop) (w : World) : ItsP p w [] none 0 0 := .mk (fun _ => none) (fun _ => 0) (fun _ => 0) rfl (Nat.le_refl _) (Nat.zero_le _) (by omega) (fun _ => rfl) (fun _ _ h => by simp at h) (fun _ _ h => by simp at h)
theorem drewN (h : ItsP p w xs a n cap) (q : Nat) : ItsP p (w.drewN q) xs a n cap := h.stays (below_drewN (Below.refl _ _) q)
theorem alloc (h : ItsP p w xs a n cap) (o : Obj) : ItsP p (w.alloc o) xs a n cap := h.stays ((Below.refl _ _).alloc (Nat.le_refl _) _)
end ItsP
namespace ItsIn
variable {B : Nat} {w w' : World} {xs : List It} {a : Option Addr} {n cap : Nat}
theorem kept (h : ItsIn B w xs a n cap) (hs : w.heap.size ≤ w'.heap.size) (hk : ∀ b o, B ≤ b → b < w.heap.size → w'.cell? ⟨b, o, none⟩ = w.cell? ⟨b, o, none⟩) : ItsIn B w' xs a n cap := ItsP.kept h hs hk
theorem weak {B' : Nat} (h : ItsIn B w xs a n cap) (hB : B' ≤ B) : ItsIn B' w xs a n cap := ItsP.to h fun _ _ hb => Nat.le_trans hB hb
theorem nil (B : Nat) (w : World) : ItsIn B w [] none 0 0 := ItsP.nil _ _
end ItsIn
theorem IsIt.stays {w w' : World} {x : It} {v : Value} (h : IsIt w x v) (hb : Below w.heap.size w w') : IsIt w' x v := by
  obtain ⟨a, n, cap, rfl, h⟩ := h
  exact ⟨a, n, cap, rfl, h.stays hb⟩

/-- behind a block of the call's own: what was ahead of it -/
theorem of_al {w wr : World} {o : Obj} (h : Below (w.heap.size + 1) (w.alloc o) wr) : Below w.heap.size w wr := ((Below.refl _ _).alloc (Nat.le_refl _) _).trans (h.mono (Nat.le_succ _))
theorem al_size {w wr : World} {o : Obj} (h : Below (w.heap.size + 1) (w.alloc o) wr) : w.heap.size + 1 ≤ wr.heap.size := by
  have := h.size
  simpa using this
theorem al_size2 {w wr : World} {o o' : Obj} (h : Below (w.heap.size + 2) ((w.alloc o).alloc o') wr) : w.heap.size + 2 ≤ wr.heap.size := by
  have := h.size
  simpa using this
theorem al_of {w wr : World} {o : Obj} (h : Below (w.alloc o).heap.size (w.alloc o) wr) : Below (w.heap.size + 1) (w.alloc o) wr := h.mono (by simp)
theorem al_step {w wr w2 : World} {o : Obj} (h : Below (w.heap.size + 1) (w.alloc o) wr) (h2 : Below wr.heap.size wr w2) : Below (w.heap.size + 1) (w.alloc o) w2 := h.trans (h2.mono (al_size h))

theorem al1 (w : World) (o : Obj) : Below w.heap.size w (w.alloc o) := (Below.refl _ _).alloc (Nat.le_refl _) _
theorem al2 (w : World) (o o' : Obj) : Below w.heap.size w ((w.alloc o).alloc o') := (al1 w o).alloc (by simp) _
theorem below_step {B : Nat} {w w1 w2 : World} (h : Below B w w1) (h2 : Below w1.heap.size w1 w2) (hB : B ≤ w.heap.size) : Below B w w2 := h.trans (h2.mono (Nat.le_trans hB h.size))
theorem below_step' {w w1 w2 : World} (h : Below w.heap.size w w1) (h2 : Below w1.heap.size w1 w2) : Below w.heap.size w w2 := below_step h h2 (Nat.le_refl _)

/-- the item's type: how many cells -/
theorem info_item : (Try.prog.info? 24).map (·.size) = some 3 := by kernel_rfl
theorem Lies.range {w : World} {b o : Nat} {x : It} {A : Option Addr} {N C : Nat} (h : Lies w b o x A N C) : w.rangeAt b o [.bool x.l, .string x.s, .slice A N C] := fun i v hv => by
  match i, hv with
  | 0, hv => cases hv; exact h.1
  | 1, hv => cases hv; exact h.2.1
  | 2, hv => cases hv; exact h.2.2
/-- an item is loaded -/
theorem run_load_item {w : World} {b o : Nat} {x : It} {A : Option Addr} {N C : Nat} (h : Lies w b o x A N C) : (loadVar 24 ⟨b, o, none⟩).run Try.prog w = .ok (itV x A N C) w :=
  run_loadVar_mid w b o 24 _ _ h.range Try.underlying24 rfl info_item
/-- results that lie in a cell -/
theorem res_item {fn : Func} {p : Tmp} (hf : fn.results = #[.cell p 24]) (tmps : Array Value) {w : World} {b o : Nat} {x : It} {A : Option Addr} {N C : Nat} (hp : tmps.getD p undef = .pointer (some ⟨b, o, none⟩)) (h : Lies w b o x A N C) :
    (results fn tmps).run Try.prog w = .ok (itV x A N C) w := by
  have hp' : tmps[p]?.getD undef = .pointer (some ⟨b, o, none⟩) := by simpa using hp
  simp [results, hf, hp', asAddr, run_load_item h]
theorem res_item1 {fn : Func} {p u : Tmp} (hf : fn.results = #[.cell p 24, .tmp u]) (tmps : Array Value) {w : World} {b o : Nat} {x : It} {A : Option Addr} {N C : Nat} (hp : tmps.getD p undef = .pointer (some ⟨b, o, none⟩)) (h : Lies w b o x A N C) :
    (results fn tmps).run Try.prog w = .ok (.tuple #[itV x A N C, tmps.getD u undef]) w := by
  have hp' : tmps[p]?.getD undef = .pointer (some ⟨b, o, none⟩) := by simpa using hp
  simp [results, hf, hp', asAddr, run_load_item h]
theorem res_item2 {fn : Func} {p u z : Tmp} (hf : fn.results = #[.cell p 24, .tmp u, .tmp z]) (tmps : Array Value) {w : World} {b o : Nat} {x : It} {A : Option Addr} {N C : Nat} (hp : tmps.getD p undef = .pointer (some ⟨b, o, none⟩)) (h : Lies w b o x A N C) :
    (results fn tmps).run Try.prog w = .ok (.tuple #[itV x A N C, tmps.getD u undef, tmps.getD z undef]) w := by
  have hp' : tmps[p]?.getD undef = .pointer (some ⟨b, o, none⟩) := by simpa using hp
  simp [results, hf, hp', asAddr, run_load_item h]
theorem lies_new (w : World) (x : It) (A : Option Addr) (N C : Nat) (t : TypeId) : Lies (w.alloc (.cells #[.bool x.l, .string x.s, .slice A N C] t)) w.heap.size 0 x A N C :=
  ⟨by rw [World.cell?_alloc_mark]; rfl, by rw [World.cell?_alloc_mark]; rfl, by rw [World.cell?_alloc_mark]; rfl⟩
end Go.Proofs.Ytmnihiagkmdepaa
