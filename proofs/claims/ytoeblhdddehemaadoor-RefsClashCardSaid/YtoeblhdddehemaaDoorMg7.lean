/-
  Items (texts and lists within one another): what one is in memory, as a walk takes it.
-/
import Derived.Test.YtoeblhdddehemaaDoorMg1
import Derived.Deep.MidRow
import Derived.Deep.Slices
import Derived.Handy
import Derived.Laws.NewBlocks
import Derived.Defers
import Derived.Recover
import Derived.Laws.Pointers
import Derived.Laws.BitsAllLaws
import Derived.ChangeAlike
namespace Go.Proofs.YtoeblhdddehemaaDoor
open Go.RowKit Go.ChangeShapes Go.WideShapes

/-- an item: whether it is a list, its text, its items -/
inductive It where
  | mk (l : Bool) (s : ByteArray) (xs : List It)

namespace It
def l : It → Bool | .mk l _ _ => l
def s : It → ByteArray | .mk _ s _ => s
def xs : It → List It | .mk _ _ xs => xs
theorem eta (x : It) : x = .mk x.l x.s x.xs := by cases x; rfl
theorem ind {P : It → Prop} (h : ∀ l s xs, (∀ y ∈ xs, P y) → P (.mk l s xs)) : ∀ x, P x
  | .mk l s xs => h l s xs (fun y _ => ind h y)
termination_by x => SizeOf.sizeOf x
decreasing_by
  have := List.sizeOf_lt_of_mem ‹y ∈ xs›
  simp
  omega
end It

/-- an item lies there -/
def Lies (w : World) (b o : Nat) (x : It) (A : Option Addr) (N C : Nat) : Prop :=
  w.cell? ⟨b, o, none⟩ = some (.bool x.l) ∧ w.cell? ⟨b, o + 1, none⟩ = some (.string x.s) ∧ w.cell? ⟨b, o + 2, none⟩ = some (.slice A N C)
theorem Lies.stays {B : Nat} {w w' : World} {b o : Nat} {x : It} {A : Option Addr} {N C : Nat} (h : Lies w b o x A N C) (hb : Below B w w') (hlt : b < B) : Lies w' b o x A N C :=
  ⟨by rw [hb.cell (p := ⟨b, _, none⟩) hlt]; exact h.1, by rw [hb.cell (p := ⟨b, _, none⟩) hlt]; exact h.2.1, by rw [hb.cell (p := ⟨b, _, none⟩) hlt]; exact h.2.2⟩

/-- the slice's elements are these items, in such blocks -/
inductive ItsP (p : Nat → Prop) (w : World) : List It → Option Addr → Nat → Nat → Prop
  | mk {xs : List It} {a : Option Addr} {n cap : Nat} (A : Nat → Option Addr) (N C : Nat → Nat) (hl : xs.length = n) (hc : n ≤ cap) (hm : cap ≤ maxLen) (hw : n ≤ 2932031007402) (hn : a = none → cap = 0)
      (h : ∀ (j : Nat) (x : It), xs[j]? = some x → ∃ b off, a = some ⟨b, off, none⟩ ∧ p b ∧ b < w.heap.size ∧ Lies w b (off + j * 3) x (A j) (N j) (C j))
      (hi : ∀ (j : Nat) (x : It), xs[j]? = some x → ItsP p w x.xs (A j) (N j) (C j)) : ItsP p w xs a n cap
/-- .. in blocks from B on -/
abbrev ItsIn (B : Nat) (w : World) (xs : List It) (a : Option Addr) (n cap : Nat) : Prop := ItsP (fun b => B ≤ b) w xs a n cap
/-- .. in whatever blocks -/
abbrev IsIts (w : World) (xs : List It) (a : Option Addr) (n cap : Nat) : Prop := ItsIn 0 w xs a n cap

/-- an item as a value -/
def itV (x : It) (a : Option Addr) (n cap : Nat) : Value := .agg #[.bool x.l, .string x.s, .slice a n cap]
/-- the value is this item -/
def IsIt (w : World) (x : It) (v : Value) : Prop := ∃ a n cap, v = itV x a n cap ∧ IsIts w x.xs a n cap

namespace ItsP
variable {p : Nat → Prop} {w w' : World} {xs : List It} {a : Option Addr} {n cap : Nat}
theorem len (h : ItsP p w xs a n cap) : xs.length = n := by cases h; assumption
theorem le (h : ItsP p w xs a n cap) : n ≤ cap := by cases h; assumption
theorem max (h : ItsP p w xs a n cap) : cap ≤ maxLen := by cases h; assumption
theorem few (h : ItsP p w xs a n cap) : n ≤ 2932031007402 := by cases h; assumption
theorem none' (h : ItsP p w xs a n cap) : a = none → cap = 0 := by cases h; assumption
/-- what keeps the cells keeps the items -/
theorem kept (h : ItsP p w xs a n cap) (hs : w.heap.size ≤ w'.heap.size) (hk : ∀ b o, p b → b < w.heap.size → w'.cell? ⟨b, o, none⟩ = w.cell? ⟨b, o, none⟩) : ItsP p w' xs a n cap := by
  induction h with
  | mk A N C hl hc hm hw hn h hi ih =>
    refine .mk A N C hl hc hm hw hn (fun j x hx => ?_) ih
    obtain ⟨b, off, e, hB, hlt, c0, c1, c2⟩ := h j x hx
    exact ⟨b, off, e, hB, Nat.lt_of_lt_of_le hlt hs, by rw [hk b _ hB hlt, c0], by rw [hk b _ hB hlt, c1], by rw [hk b _ hB hlt, c2]⟩
theorem stays (h : ItsP p w xs a n cap) (hb : Below w.heap.size w w') : ItsP p w' xs a n cap := h.kept hb.size fun b o _ hlt => hb.cell (p := ⟨b, o, none⟩) hlt
theorem to {p' : Nat → Prop} (h : ItsP p w xs a n cap) (hp : ∀ b, b < w.heap.size → p b → p' b) : ItsP p' w xs a n cap := by
  induction h with
  | mk A N C hl hc hm hw hn h hi ih =>
    refine .mk A N C hl hc hm hw hn (fun j x hx => ?_) ih
    obtain ⟨b, off, e, hb, hlt, r⟩ := h j x hx
    exact ⟨b, off, e, hp b hlt hb, hlt, r⟩
theorem at' (h : ItsP p w xs a n cap) (j : Nat) (hj : j < n) : ∃ x b off A N C, xs[j]? = some x ∧ a = some ⟨b, off, none⟩ ∧ b < w.heap.size ∧ Lies w b (off + j * 3) x A N C ∧ ItsP p w x.xs A N C := by
  cases h with
  | mk A N C hl hc hm hw hn h hi =>
    have hx : xs[j]? = some (xs[j]'(by omega)) := List.getElem?_eq_getElem (by omega)
    obtain ⟨b, off, e, _, hlt, hL⟩ := h j _ hx
    exact ⟨_, b, off, A j, N j, C j, hx, e, hlt, hL, hi j _ hx⟩
theorem nil (p : Nat → Prop) (w : World) : ItsP p w [] none 0 0 := .mk (fun _ => none) (fun _ => 0) (fun _ => 0) rfl (Nat.le_refl _) (Nat.zero_le _) (by omega) (fun _ => rfl) (fun _ _ h => by simp at h) (fun _ _ h => by simp at h)
theorem drewN (h : ItsP p w xs a n cap) (q : Nat) : ItsP p (w.drewN q) xs a n cap := h.stays (below_drewN (Below.refl _ _) q)
theorem alloc (h : ItsP p w xs a n cap) (o : Obj) : ItsP p (w.alloc o) xs a n cap := h.stays ((Below.refl _ _).alloc (Nat.le_refl _) _)
end ItsP
namespace ItsIn
variable {B : Nat} {w w' : World} {xs : List It} {a : Option Addr} {n cap : Nat}
theorem kept (h : ItsIn B w xs a n cap) (hs : w.heap.size ≤ w'.heap.size) (hk : ∀ b o, B ≤ b → b < w.heap.size → w'.cell? ⟨b, o, none⟩ = w.cell? ⟨b, o, none⟩) : ItsIn B w' xs a n cap := ItsP.kept h hs hk
theorem weak {B' : Nat} (h : ItsIn B w xs a n cap) (hB : B' ≤ B) : ItsIn B' w xs a n cap := ItsP.to h fun _ _ hb => Nat.le_trans hB hb
theorem nil (B : Nat) (w : World) : ItsIn B w [] none 0 0 := ItsP.nil _ _
end ItsIn
theorem IsIt.stays {w w' : World} {x : It} {v : Value} (h : IsIt w x v) (hb : Below w.heap.size w w') : IsIt w' x v := by
  obtain ⟨a, n, cap, rfl, h⟩ := h
  exact ⟨a, n, cap, rfl, h.stays hb⟩

/-- behind a block of the call's own: what was ahead of it -/
theorem of_al {w wr : World} {o : Obj} (h : Below (w.heap.size + 1) (w.alloc o) wr) : Below w.heap.size w wr := ((Below.refl _ _).alloc (Nat.le_refl _) _).trans (h.mono (Nat.le_succ _))
theorem al_size {w wr : World} {o : Obj} (h : Below (w.heap.size + 1) (w.alloc o) wr) : w.heap.size + 1 ≤ wr.heap.size := by
  have := h.size
  simpa using this
theorem al_size2 {w wr : World} {o o' : Obj} (h : Below (w.heap.size + 2) ((w.alloc o).alloc o') wr) : w.heap.size + 2 ≤ wr.heap.size := by
  have := h.size
  simpa using this
theorem al_of {w wr : World} {o : Obj} (h : Below (w.alloc o).heap.size (w.alloc o) wr) : Below (w.heap.size + 1) (w.alloc o) wr := h.mono (by simp)
theorem al_step {w wr w2 : World} {o : Obj} (h : Below (w.heap.size + 1) (w.alloc o) wr) (h2 : Below wr.heap.size wr w2) : Below (w.heap.size + 1) (w.alloc o) w2 := h.trans (h2.mono (al_size h))

theorem al1 (w : World) (o : Obj) : Below w.heap.size w (w.alloc o) := (Below.refl _ _).alloc (Nat.le_refl _) _
theorem al2 (w : World) (o o' : Obj) : Below w.heap.size w ((w.alloc o).alloc o') := (al1 w o).alloc (by simp) _
theorem below_step {B : Nat} {w w1 w2 : World} (h : Below B w w1) (h2 : Below w1.heap.size w1 w2) (hB : B ≤ w.heap.size) : Below B w w2 := h.trans (h2.mono (Nat.le_trans hB h.size))
theorem below_step' {w w1 w2 : World} (h : Below w.heap.size w w1) (h2 : Below w1.heap.size w1 w2) : Below w.heap.size w w2 := below_step h h2 (Nat.le_refl _)

/-- the item's type: how many cells -/
theorem info_item : (Tryd.prog.info? 63).map (·.size) = some 3 := by kernel_rfl
theorem Lies.range {w : World} {b o : Nat} {x : It} {A : Option Addr} {N C : Nat} (h : Lies w b o x A N C) : w.rangeAt b o [.bool x.l, .string x.s, .slice A N C] := fun i v hv => by
  match i, hv with
  | 0, hv => cases hv; exact h.1
  | 1, hv => cases hv; exact h.2.1
  | 2, hv => cases hv; exact h.2.2
/-- an item is loaded -/
theorem run_load_item {w : World} {b o : Nat} {x : It} {A : Option Addr} {N C : Nat} (h : Lies w b o x A N C) : (loadVar 63 ⟨b, o, none⟩).run Tryd.prog w = .ok (itV x A N C) w :=
  run_loadVar_mid w b o 63 _ _ h.range Tryd.underlying63 rfl info_item
/-- results that lie in a cell -/
theorem res_item {fn : Func} {p : Tmp} (hf : fn.results = #[.cell p 63]) (tmps : Array Value) {w : World} {b o : Nat} {x : It} {A : Option Addr} {N C : Nat} (hp : tmps.getD p undef = .pointer (some ⟨b, o, none⟩)) (h : Lies w b o x A N C) :
    (results fn tmps).run Tryd.prog w = .ok (itV x A N C) w := by
  have hp' : tmps[p]?.getD undef = .pointer (some ⟨b, o, none⟩) := by simpa using hp
  simp [results, hf, hp', asAddr, run_load_item h]
theorem res_item1 {fn : Func} {p u : Tmp} (hf : fn.results = #[.cell p 63, .tmp u]) (tmps : Array Value) {w : World} {b o : Nat} {x : It} {A : Option Addr} {N C : Nat} (hp : tmps.getD p undef = .pointer (some ⟨b, o, none⟩)) (h : Lies w b o x A N C) :
    (results fn tmps).run Tryd.prog w = .ok (.tuple #[itV x A N C, tmps.getD u undef]) w := by
  have hp' : tmps[p]?.getD undef = .pointer (some ⟨b, o, none⟩) := by simpa using hp
  simp [results, hf, hp', asAddr, run_load_item h]
theorem res_item2 {fn : Func} {p u z : Tmp} (hf : fn.results = #[.cell p 63, .tmp u, .tmp z]) (tmps : Array Value) {w : World} {b o : Nat} {x : It} {A : Option Addr} {N C : Nat} (hp : tmps.getD p undef = .pointer (some ⟨b, o, none⟩)) (h : Lies w b o x A N C) :
    (results fn tmps).run Tryd.prog w = .ok (.tuple #[itV x A N C, tmps.getD u undef, tmps.getD z undef]) w := by
  have hp' : tmps[p]?.getD undef = .pointer (some ⟨b, o, none⟩) := by simpa using hp
  simp [results, hf, hp', asAddr, run_load_item h]
theorem lies_new (w : World) (x : It) (A : Option Addr) (N C : Nat) (t : TypeId) : Lies (w.alloc (.cells #[.bool x.l, .string x.s, .slice A N C] t)) w.heap.size 0 x A N C :=
  ⟨by rw [World.cell?_alloc_mark]; rfl, by rw [World.cell?_alloc_mark]; rfl, by rw [World.cell?_alloc_mark]; rfl⟩
end Go.Proofs.YtoeblhdddehemaaDoor

/-
  What is told from far within by a panic and caught: contracts of rlp.fail and rlp.caught.
-/
namespace Go.Proofs.YtoeblhdddehemaaDoor
open Go.RowKit

namespace Pk
/-- an error as a panic -/
def errP (c : Int) : PanicEntry := { v := .iface 39 (.int .i64 c), recovered := false }
theorem fail_any (c : Int) (w : World) : Calls Tryd.prog 83 #[.int .i64 c] w fun e w' => e = .panicked [errP c] ∧ w = w' := by
  go_enter Tryd.func83, Tryd.ntmps83
  go_wp2
  simp [bodyPost, errP]

theorem catch_panicking (p : Addr) (x c : Int) (older : List PanicEntry) (w : World) (hc : w.cell? p = some (.int .i64 x)) (hz : w.frozen? p = false) :
    CallsD Tryd.prog 81 #[.pointer (some p)] (.panicking (errP c :: older)) w fun e u' w' =>
      e = .returned (.tuple #[]) ∧ u' = .panicking ({ errP c with recovered := true } :: older) ∧ w' = w.setCell p (.int .i64 c) := by
  refine callsD_of_wpS Tryd.func81 rfl fun c₀ cs hu => ?_
  apply wpS_seq
  apply wpS_region
  simp [wpOpsS, go_sem, recoverD, hu, errP, Tryd.ntmps81, Exit.thenS]
  apply wpS_seq
  apply wpS_region
  simp [wpOpsS, go_sem, Exit.thenS]
  refine wpS_cond (t := true) (by simp [Act.eval, Array.replicate]) ?_
  simp only [if_true]
  apply wpS_region
  have hta : (Instr.typeAssert (.iface 39 (.int .i64 c)) 20 39 false).run Tryd.prog w = .ok (.int .i64 c) w := by kernel_rfl
  simp [wpOpsS, go_sem, hta, hc, hz, bodyPostS, results, Tryd.results81]

theorem catch_idle (p : Addr) (w : World) :
    CallsD Tryd.prog 81 #[.pointer (some p)] .returning w fun e u' w' => e = .returned (.tuple #[]) ∧ u' = .returning ∧ w' = w := by
  refine callsD_of_wpS Tryd.func81 rfl fun c₀ cs hu => ?_
  apply wpS_seq
  apply wpS_region
  simp [wpOpsS, go_sem, recoverD, hu, Tryd.ntmps81, Exit.thenS]
  apply wpS_seq
  apply wpS_region
  simp [wpOpsS, go_sem, Exit.thenS]
  refine wpS_cond (t := false) (by simp [Act.eval, Array.replicate]) ?_
  simp only [Bool.false_eq_true, if_false]
  refine wpS_of_wp (wp_skip ?_)
  cases c₀
  simp_all [bodyPostS, results, Tryd.results81]

/-- what is done is done, or told of by a panic: the closure's contract, over the cell that e lies in -/
theorem caught_ok (D : FuncId) (caps : Array Value) (hD : ∀ w, (callFunc D caps).run Tryd.prog w = .ok (.enter D caps) w) (w : World) (R : World → Prop)
    (h : Calls Tryd.prog D caps (w.alloc (.cells #[.int .i64 0] 39)) fun e w' => e = .returned (.tuple #[]) ∧ (w'.cell? ⟨w.heap.size, 0, none⟩ = some (.int .i64 0) ∧ w'.frozen? ⟨w.heap.size, 0, none⟩ = false) ∧ R w') :
    Calls Tryd.prog 58 #[.func (.func D) #[] caps] w fun e w' => e = .returned (.int .i64 0) ∧ ∃ w1, R w1 ∧ w' = w1.setCell ⟨w.heap.size, 0, none⟩ (.int .i64 0) := by
  have hmf : ∀ (fn : Fn) (first cap : Array Value) (w : World), (Instr.makeFunc fn first cap).run Tryd.prog w = .ok (.func fn first cap) w := fun _ _ _ _ => rfl
  have H := Lib.hid h
  clear h
  go_enter_defers Tryd.func58, Tryd.ntmps58
  go_wp2_with fail
  refine H.out.mono ?_
  rintro e w1 ⟨rfl, ⟨hc, hz⟩, hR⟩
  have HR := Lib.hid hR
  clear hR H
  go_wp2
  refine leaves_cons (f := 81) (args := #[.pointer (some ⟨w.heap.size, 0, none⟩)]) (by simp) (by simp [go_sem]) ?_
  refine (catch_idle ⟨w.heap.size, 0, none⟩ _).mono ?_
  rintro e u' w'' ⟨rfl, rfl, rfl⟩
  simp [Leaves, settle, results, Tryd.results58, go_sem, hc]
  exact ⟨w1, HR.out, rfl⟩
theorem caught_err (D : FuncId) (caps : Array Value) (hD : ∀ w, (callFunc D caps).run Tryd.prog w = .ok (.enter D caps) w) (w : World) (c : Int) (R : World → Prop)
    (h : Calls Tryd.prog D caps (w.alloc (.cells #[.int .i64 0] 39)) fun e w' => e = .panicked [errP c] ∧ (w'.cell? ⟨w.heap.size, 0, none⟩ = some (.int .i64 0) ∧ w'.frozen? ⟨w.heap.size, 0, none⟩ = false) ∧ R w') :
    Calls Tryd.prog 58 #[.func (.func D) #[] caps] w fun e w' => e = .returned (.int .i64 c) ∧ ∃ w1, R w1 ∧ w' = w1.setCell ⟨w.heap.size, 0, none⟩ (.int .i64 c) := by
  have hmf : ∀ (fn : Fn) (first cap : Array Value) (w : World), (Instr.makeFunc fn first cap).run Tryd.prog w = .ok (.func fn first cap) w := fun _ _ _ _ => rfl
  have H := Lib.hid h
  clear h
  go_enter_defers Tryd.func58, Tryd.ntmps58
  go_wp2_with fail
  refine H.out.mono ?_
  rintro e w1 ⟨rfl, ⟨hc, hz⟩, hR⟩
  have HR := Lib.hid hR
  clear hR H
  go_wp2
  refine leaves_cons (f := 81) (args := #[.pointer (some ⟨w.heap.size, 0, none⟩)]) (by simp) (by simp [go_sem]) ?_
  refine (catch_panicking ⟨w.heap.size, 0, none⟩ 0 c [] _ hc hz).mono ?_
  rintro e u' w'' ⟨rfl, rfl, rfl⟩
  simp [Leaves, settle, results, Tryd.results58, go_sem, hc]
  exact ⟨w1, HR.out, rfl⟩
end Pk
end Go.Proofs.YtoeblhdddehemaaDoor

/-
  What stands ahead, read; the contract of rlp.head.
-/
namespace Go.Proofs.YtoeblhdddehemaaDoor
open Go.RowKit

namespace Rl
open Pk
/-- the number of bytes, the highest first -/
def valB (l : List UInt8) : Nat := l.foldl (fun a b => a * 256 + b.toNat) 0
theorem valB_snoc (l : List UInt8) (c : UInt8) : valB (l ++ [c]) = valB l * 256 + c.toNat := by simp [valB]
theorem valB_from (l : List UInt8) : ∀ a, l.foldl (fun a b => a * 256 + b.toNat) a < (a + 1) * 256 ^ l.length := by
  induction l with
  | nil => intro a; simp
  | cons c l ih =>
    intro a
    rw [List.foldl_cons, List.length_cons, Nat.pow_succ]
    have h1 := ih (a * 256 + c.toNat)
    have h2 := c.toNat_lt
    have h3 : (a * 256 + c.toNat + 1) * 256 ^ l.length ≤ ((a + 1) * 256) * 256 ^ l.length := Nat.mul_le_mul_right _ (by omega)
    have h4 : (a + 1) * (256 ^ l.length * 256) = ((a + 1) * 256) * 256 ^ l.length := by
      rw [Nat.mul_comm (256 ^ l.length) 256, Nat.mul_assoc]
    omega
theorem valB_lt (l : List UInt8) : valB l < 256 ^ l.length := by
  have := valB_from l 0
  simpa [valB] using this

/-- what stands ahead of the item that bytes begin with: an error, or whether it is a list's, how many bytes it has, how many stand behind -/
def headE : List UInt8 → Except Int (Bool × Nat × Nat)
  | [] => .error 5
  | c :: t =>
    if c.toNat < 128 then .ok (false, 0, 1)
    else if c.toNat - (if 192 ≤ c.toNat then 192 else 128) ≤ 55 then .ok (decide (192 ≤ c.toNat), 1, c.toNat - (if 192 ≤ c.toNat then 192 else 128))
    else if t.length < c.toNat - (if 192 ≤ c.toNat then 192 else 128) - 55 then .error 5
    else if t.headD 0 = 0 ∨ valB (t.take (c.toNat - (if 192 ≤ c.toNat then 192 else 128) - 55)) ≤ 55 then .error 6
    else .ok (decide (192 ≤ c.toNat), 1 + (c.toNat - (if 192 ≤ c.toNat then 192 else 128) - 55), valB (t.take (c.toNat - (if 192 ≤ c.toNat then 192 else 128) - 55)))

/-- head tells this -/
def HeadsTo (s : ByteArray) : Except Int (Bool × Nat × Nat) → Prop
  | .error c => ∀ w, Calls Tryd.prog 106 #[.string s] w fun e w' => e = .panicked [errP c] ∧ w = w'
  | .ok (l, a, v) => ∀ w, Calls Tryd.prog 106 #[.string s] w fun e w' => e = .returned (.tuple #[.bool l, .int .i64 a, .int .u64 v]) ∧ w = w'

theorem size_len (s : ByteArray) : s.size = s.data.toList.length := by rw [Array.length_toList]; rfl
theorem get_at (s : ByteArray) (i : Nat) (h : i < s.size) : s[i] = s.data.toList.getD i 0 := by
  have h' : i < s.data.toList.length := by rw [← size_len]; exact h
  rw [List.getD_eq_getElem?_getD, List.getElem?_eq_getElem h']
  simp
  rfl

set_option maxRecDepth 100000 in
set_option maxHeartbeats 4000000 in
theorem head_nil (s : ByteArray) (h : s.data.toList = []) : HeadsTo s (.error 5) := by
  intro w
  have hs : s.size = 0 := by rw [size_len, h]; rfl
  have hnil : (s.toList == []) = true := by rw [ByteArray.toList_eq, h]; rfl
  go_enter Tryd.func106, Tryd.ntmps106
  go_wp2_with (go_at_call 83; refine (fail_any _ _).mono ?_; rintro e w1 ⟨rfl, rfl⟩)
  simp [bodyPost]

set_option maxRecDepth 100000 in
set_option maxHeartbeats 4000000 in
theorem head_text (s : ByteArray) (c : UInt8) (t : List UInt8) (h : s.data.toList = c :: t) (hc : c.toNat < 128) : HeadsTo s (.ok (false, 0, 1)) := by
  intro w
  have hs : 0 < s.size := by rw [size_len, h]; simp
  have hnil : (s.toList == []) = false := by rw [ByteArray.toList_eq, h]; rfl
  have h0 : s[0] = c := by rw [get_at s 0 hs, h]; rfl
  have hlt : s[0].toNat < 128 := by rw [h0]; exact hc
  clear h h0 hc
  go_enter Tryd.func106, Tryd.ntmps106
  go_wp2
  go_ret3
  exact ⟨rfl, rfl⟩

/-- the number that the first byte tells -/
def firstN (c : UInt8) : Nat := c.toNat - (if 192 ≤ c.toNat then 192 else 128)

set_option maxRecDepth 100000 in
set_option maxHeartbeats 4000000 in
theorem head_short (s : ByteArray) (c : UInt8) (t : List UInt8) (h : s.data.toList = c :: t) (hc : ¬ c.toNat < 128) (hn : firstN c ≤ 55) : HeadsTo s (.ok (decide (192 ≤ c.toNat), 1, firstN c)) := by
  intro w
  have hs : 0 < s.size := by rw [size_len, h]; simp
  have hnil : (s.toList == []) = false := by rw [ByteArray.toList_eq, h]; rfl
  have h0 : s[0] = c := by rw [get_at s 0 hs, h]; rfl
  clear h
  unfold firstN at hn ⊢
  by_cases h192 : 192 ≤ c.toNat
  · rw [if_pos h192] at hn ⊢
    obtain ⟨m, hm⟩ : ∃ m : Nat, c.toNat = 192 + m := ⟨c.toNat - 192, by omega⟩
    rw [← h0] at hm
    have hd : Hid (decide (192 ≤ c.toNat) = decide ((192 : Int) ≤ 192 + (m : Int))) := Lib.hid (by rw [← h0, hm]; apply decide_eq_decide.2; omega)
    have hv : Hid (((c.toNat - 192 : Nat) : Int) = 192 + (m : Int) - 192) := Lib.hid (by rw [← h0, hm]; omega)
    have hm2 : m ≤ 55 := by rw [← h0] at hn; omega
    skip
    clear h192 hn h0 hc
    go_enter Tryd.func106, Tryd.ntmps106
    go_wp2
    go_ret3
    exact ⟨by rw [hd.out, hv.out]; rfl, rfl⟩
  · rw [if_neg h192] at hn ⊢
    obtain ⟨m, hm⟩ : ∃ m : Nat, c.toNat = 128 + m := ⟨c.toNat - 128, by omega⟩
    rw [← h0] at hm
    have hd : Hid (decide (192 ≤ c.toNat) = decide ((192 : Int) ≤ 128 + (m : Int))) := Lib.hid (by rw [← h0, hm]; apply decide_eq_decide.2; omega)
    have hv : Hid (((c.toNat - 128 : Nat) : Int) = 128 + (m : Int) - 128) := Lib.hid (by rw [← h0, hm]; omega)
    have hm2 : m ≤ 55 := by rw [← h0] at hn; omega
    have hlt : m < 64 := by rw [← h0] at h192; omega
    clear h192 hn h0 hc
    go_enter Tryd.func106, Tryd.ntmps106
    go_wp2
    go_ret3
    exact ⟨by rw [hd.out, hv.out]; rfl, rfl⟩
theorem or_byte (x b : Nat) (hx : x < 72057594037927936) (hb : b < 256) : bits .or .u64 (IntKind.u64.wrap ((x : Int) * 256)) (IntKind.u64.wrap (b : Int)) = ((x * 256 + b : Nat) : Int) := by
  have e1 : IntKind.u64.wrap ((x : Int) * 256) = ((x * 256 : Nat) : Int) := by rw [IntKind.wrap_u64]; omega
  have e2 : IntKind.u64.wrap (b : Int) = ((b : Nat) : Int) := by rw [IntKind.wrap_u64]; omega
  rw [e1, e2, u64_or_nat _ _ (by omega) (by omega), nat_join 8 _ _ (by omega) (by omega)]
theorem take_next (l : List UInt8) (q : Nat) (h1 : 1 ≤ q) (hq : q < l.length) : (l.drop 1).take q = (l.drop 1).take (q - 1) ++ [l.getD q 0] := by
  have h2 : q - 1 < (l.drop 1).length := by rw [List.length_drop]; omega
  have := List.take_succ_eq_append_getElem h2
  rw [show q - 1 + 1 = q by omega] at this
  rw [this]
  congr 2
  rw [List.getElem_drop, List.getD_eq_getElem?_getD, List.getElem?_eq_getElem hq]
  simp [show 1 + (q - 1) = q by omega]
theorem pow_le7 {k n : Nat} (h : n < 256 ^ k) (hk : k ≤ 7) : n < 72057594037927936 := Nat.lt_of_lt_of_le h (Nat.pow_le_pow_right (by omega) hk)
theorem first_of' {s : ByteArray} (h : 0 < s.size) : s.data.toList.headD 0 = s[0] := by
  obtain ⟨⟨l⟩⟩ := s
  cases l with
  | nil => simp [ByteArray.size] at h
  | cons c l => rfl

set_option maxRecDepth 100000 in
set_option maxHeartbeats 4000000 in
theorem head_cutL (s : ByteArray) (m : Nat) (hm : s.data.toList.headD 0 = UInt8.ofNat (192 + m)) (h56 : 56 ≤ m) (h64 : m ≤ 63) (hs : 0 < s.size) (hcut : s.size < m - 54) : HeadsTo s (.error 5) := by
  intro w
  have hnil : (s.toList == []) = false := by
    rw [beq_eq_false_iff_ne, ByteArray.toList_eq]
    intro e
    rw [size_len, e] at hs
    simp at hs
  have h0 : s[0].toNat = 192 + m := by
    rw [← first_of' hs, hm]
    simp
    omega
  clear hm
  go_enter Tryd.func106, Tryd.ntmps106
  go_wp2_with (go_at_call 83; refine (fail_any _ _).mono ?_; rintro e w1 ⟨rfl, rfl⟩)
  simp [bodyPost]

set_option maxRecDepth 100000 in
set_option maxHeartbeats 4000000 in
theorem head_cutT (s : ByteArray) (m : Nat) (hm : s.data.toList.headD 0 = UInt8.ofNat (128 + m)) (h56 : 56 ≤ m) (h64 : m ≤ 63) (hs : 0 < s.size) (hcut : s.size < m - 54) : HeadsTo s (.error 5) := by
  intro w
  have hnil : (s.toList == []) = false := by
    rw [beq_eq_false_iff_ne, ByteArray.toList_eq]
    intro e
    rw [size_len, e] at hs
    simp at hs
  have h0 : s[0].toNat = 128 + m := by
    rw [← first_of' hs, hm]
    simp
    omega
  clear hm
  go_enter Tryd.func106, Tryd.ntmps106
  go_wp2_with (go_at_call 83; refine (fail_any _ _).mono ?_; rintro e w1 ⟨rfl, rfl⟩)
  simp [bodyPost]

set_option maxRecDepth 100000 in
set_option maxHeartbeats 8000000 in
theorem head_longL (s : ByteArray) (m : Nat) (hm : s.data.toList.headD 0 = UInt8.ofNat (192 + m)) (h56 : 56 ≤ m) (h64 : m ≤ 63) (hcut : m - 54 ≤ s.size) (hgood : s.data.toList.getD 1 0 ≠ 0 ∧ 55 < valB ((s.data.toList.drop 1).take (m - 55))) : HeadsTo s (.ok (true, m - 54, valB ((s.data.toList.drop 1).take (m - 55)))) := by
  intro w
  have hs : 0 < s.size := by omega
  have hnil : (s.toList == []) = false := by
    rw [beq_eq_false_iff_ne, ByteArray.toList_eq]
    intro e
    rw [size_len, e] at hs
    simp at hs
  have h0 : s[0].toNat = 192 + m := by
    rw [← first_of' hs, hm]
    simp
    omega
  obtain ⟨V, hV⟩ : ∃ V, valB ((s.data.toList.drop 1).take (m - 55)) = V := ⟨_, rfl⟩
  rw [hV] at hgood ⊢
  have HV := Lib.hid hV
  clear hm hV
  go_enter Tryd.func106, Tryd.ntmps106
  go_wp2
  go_loop [4, 6] (fun v i => ∃ q x : Nat, 1 ≤ q ∧ q ≤ m - 54 ∧ i = .int .i64 q ∧ v = .int .u64 x ∧ Hid (x = valB ((s.data.toList.drop 1).take (q - 1)))) (fun _ i => m - (intOf i).toNat)
  case atStart => exact ⟨1, 0, by omega, by omega, rfl, rfl, Lib.hid rfl⟩
  case round =>
    obtain ⟨q, x, hq1, hq, rfl, rfl, HX⟩ := hrel
    by_cases hlt : q < m - 54
    · have hqs : q < s.size := by omega
      have hx : x < 72057594037927936 := by
        rw [HX.out]
        exact pow_le7 (valB_lt _) (by rw [List.length_take, List.length_drop]; omega)
      have HS : Hid (bits .or .u64 ((x : Int) * 256) (IntKind.u64.wrap (s[q].toNat : Int)) = ((x * 256 + s[q].toNat : Nat) : Int)) := Lib.hid (by rw [← or_byte _ _ hx s[q].toNat_lt, show IntKind.u64.wrap ((x : Int) * 256) = (x : Int) * 256 by rw [IntKind.wrap_u64]; omega])
      have HN : Hid (x * 256 + s[q].toNat = valB ((s.data.toList.drop 1).take (q + 1 - 1))) := Lib.hid (by
        rw [show q + 1 - 1 = q by omega, take_next _ q hq1 (by rw [← size_len]; exact hqs), valB_snoc, ← HX.out, get_at s q hqs])
      go_wp2
      go_round
      case rel => exact ⟨q + 1, _, by omega, by omega, by go_num, by rw [HS.out], Lib.hid HN.out⟩
      case measure => simp [intOf]; omega
    · obtain rfl : q = m - 54 := by omega
      have hv : x = V := by rw [HX.out, ← HV.out, show m - 54 - 1 = m - 55 by omega]
      have hs1 : 1 < s.size := by omega
      have h1 : s[1].toNat ≠ 0 := by
        rw [get_at s 1 hs1]
        intro e
        exact hgood.1 (UInt8.toNat_inj.1 e)
      have hb1 : ((s[1].toNat : Int) == 0) = false := by simp; omega
      have hV := hgood.2
      subst hv
      have hA : Hid (((m - 54 : Nat) : Int) = 1 + (192 + (m : Int) - 192) - 55) := Lib.hid (by omega)
      clear HX HV hgood hlt h1
      go_wp2
      go_ret3
      exact ⟨by rw [hA.out]; rfl, rfl⟩

set_option maxRecDepth 100000 in
set_option maxHeartbeats 8000000 in
theorem head_longT (s : ByteArray) (m : Nat) (hm : s.data.toList.headD 0 = UInt8.ofNat (128 + m)) (h56 : 56 ≤ m) (h64 : m ≤ 63) (hcut : m - 54 ≤ s.size) (hgood : s.data.toList.getD 1 0 ≠ 0 ∧ 55 < valB ((s.data.toList.drop 1).take (m - 55))) : HeadsTo s (.ok (false, m - 54, valB ((s.data.toList.drop 1).take (m - 55)))) := by
  intro w
  have hs : 0 < s.size := by omega
  have hnil : (s.toList == []) = false := by
    rw [beq_eq_false_iff_ne, ByteArray.toList_eq]
    intro e
    rw [size_len, e] at hs
    simp at hs
  have h0 : s[0].toNat = 128 + m := by
    rw [← first_of' hs, hm]
    simp
    omega
  obtain ⟨V, hV⟩ : ∃ V, valB ((s.data.toList.drop 1).take (m - 55)) = V := ⟨_, rfl⟩
  rw [hV] at hgood ⊢
  have HV := Lib.hid hV
  clear hm hV
  go_enter Tryd.func106, Tryd.ntmps106
  go_wp2
  go_loop [4, 6] (fun v i => ∃ q x : Nat, 1 ≤ q ∧ q ≤ m - 54 ∧ i = .int .i64 q ∧ v = .int .u64 x ∧ Hid (x = valB ((s.data.toList.drop 1).take (q - 1)))) (fun _ i => m - (intOf i).toNat)
  case atStart => exact ⟨1, 0, by omega, by omega, rfl, rfl, Lib.hid rfl⟩
  case round =>
    obtain ⟨q, x, hq1, hq, rfl, rfl, HX⟩ := hrel
    by_cases hlt : q < m - 54
    · have hqs : q < s.size := by omega
      have hx : x < 72057594037927936 := by
        rw [HX.out]
        exact pow_le7 (valB_lt _) (by rw [List.length_take, List.length_drop]; omega)
      have HS : Hid (bits .or .u64 ((x : Int) * 256) (IntKind.u64.wrap (s[q].toNat : Int)) = ((x * 256 + s[q].toNat : Nat) : Int)) := Lib.hid (by rw [← or_byte _ _ hx s[q].toNat_lt, show IntKind.u64.wrap ((x : Int) * 256) = (x : Int) * 256 by rw [IntKind.wrap_u64]; omega])
      have HN : Hid (x * 256 + s[q].toNat = valB ((s.data.toList.drop 1).take (q + 1 - 1))) := Lib.hid (by
        rw [show q + 1 - 1 = q by omega, take_next _ q hq1 (by rw [← size_len]; exact hqs), valB_snoc, ← HX.out, get_at s q hqs])
      go_wp2
      go_round
      case rel => exact ⟨q + 1, _, by omega, by omega, by go_num, by rw [HS.out], Lib.hid HN.out⟩
      case measure => simp [intOf]; omega
    · obtain rfl : q = m - 54 := by omega
      have hv : x = V := by rw [HX.out, ← HV.out, show m - 54 - 1 = m - 55 by omega]
      have hs1 : 1 < s.size := by omega
      have h1 : s[1].toNat ≠ 0 := by
        rw [get_at s 1 hs1]
        intro e
        exact hgood.1 (UInt8.toNat_inj.1 e)
      have hb1 : ((s[1].toNat : Int) == 0) = false := by simp; omega
      have hV := hgood.2
      subst hv
      have hF : Hid (decide ((192 : Int) ≤ 128 + (m : Int)) = false) := Lib.hid (by simp; omega)
      have hA : Hid (((m - 54 : Nat) : Int) = 1 + (128 + (m : Int) - 128) - 55) := Lib.hid (by omega)
      clear HX HV hgood hlt h1
      go_wp2
      go_ret3
      refine ⟨?_, rfl⟩
      rw [hA.out]
      show Ending.returned (.tuple #[.bool (decide ((192 : Int) ≤ 128 + (m : Int))), _, _]) = _
      rw [hF.out]
      rfl

set_option maxRecDepth 100000 in
set_option maxHeartbeats 8000000 in
theorem head_badL (s : ByteArray) (m : Nat) (hm : s.data.toList.headD 0 = UInt8.ofNat (192 + m)) (h56 : 56 ≤ m) (h64 : m ≤ 63) (hcut : m - 54 ≤ s.size) (hbad : s.data.toList.getD 1 0 = 0 ∨ valB ((s.data.toList.drop 1).take (m - 55)) ≤ 55) : HeadsTo s (.error 6) := by
  intro w
  have hs : 0 < s.size := by omega
  have hnil : (s.toList == []) = false := by
    rw [beq_eq_false_iff_ne, ByteArray.toList_eq]
    intro e
    rw [size_len, e] at hs
    simp at hs
  have h0 : s[0].toNat = 192 + m := by
    rw [← first_of' hs, hm]
    simp
    omega
  obtain ⟨V, hV⟩ : ∃ V, valB ((s.data.toList.drop 1).take (m - 55)) = V := ⟨_, rfl⟩
  rw [hV] at hbad
  have HV := Lib.hid hV
  clear hm hV
  go_enter Tryd.func106, Tryd.ntmps106
  go_wp2
  go_loop [4, 6] (fun v i => ∃ q x : Nat, 1 ≤ q ∧ q ≤ m - 54 ∧ i = .int .i64 q ∧ v = .int .u64 x ∧ Hid (x = valB ((s.data.toList.drop 1).take (q - 1)))) (fun _ i => m - (intOf i).toNat)
  case atStart => exact ⟨1, 0, by omega, by omega, rfl, rfl, Lib.hid rfl⟩
  case round =>
    obtain ⟨q, x, hq1, hq, rfl, rfl, HX⟩ := hrel
    by_cases hlt : q < m - 54
    · have hqs : q < s.size := by omega
      have hx : x < 72057594037927936 := by
        rw [HX.out]
        exact pow_le7 (valB_lt _) (by rw [List.length_take, List.length_drop]; omega)
      have HS : Hid (bits .or .u64 ((x : Int) * 256) (IntKind.u64.wrap (s[q].toNat : Int)) = ((x * 256 + s[q].toNat : Nat) : Int)) := Lib.hid (by rw [← or_byte _ _ hx s[q].toNat_lt, show IntKind.u64.wrap ((x : Int) * 256) = (x : Int) * 256 by rw [IntKind.wrap_u64]; omega])
      have HN : Hid (x * 256 + s[q].toNat = valB ((s.data.toList.drop 1).take (q + 1 - 1))) := Lib.hid (by
        rw [show q + 1 - 1 = q by omega, take_next _ q hq1 (by rw [← size_len]; exact hqs), valB_snoc, ← HX.out, get_at s q hqs])
      go_wp2
      go_round
      case rel => exact ⟨q + 1, _, by omega, by omega, by go_num, by rw [HS.out], Lib.hid HN.out⟩
      case measure => simp [intOf]; omega
    · obtain rfl : q = m - 54 := by omega
      have hv : x = V := by rw [HX.out, ← HV.out, show m - 54 - 1 = m - 55 by omega]
      have hs1 : 1 < s.size := by omega
      have h1 : s[1].toNat = 0 ∨ x ≤ 55 := by
        rw [get_at s 1 hs1, hv]
        rcases hbad with h | h
        · exact .inl (by rw [h]; rfl)
        · exact .inr h
      subst hv
      clear HX HV hbad hlt
      by_cases hz : s[1].toNat = 0
      · have hb1 : ((s[1].toNat : Int) == 0) = true := by simp; omega
        clear hz h1
        go_wp2_with (go_at_call 83; refine (fail_any _ _).mono ?_; rintro e w1 ⟨rfl, rfl⟩)
        simp [bodyPost]
      · have hb1 : ((s[1].toNat : Int) == 0) = false := by simp; omega
        have hx55 : x ≤ 55 := by omega
        clear hz h1
        go_wp2_with (go_at_call 83; refine (fail_any _ _).mono ?_; rintro e w1 ⟨rfl, rfl⟩)
        simp [bodyPost]

set_option maxRecDepth 100000 in
set_option maxHeartbeats 8000000 in
theorem head_badT (s : ByteArray) (m : Nat) (hm : s.data.toList.headD 0 = UInt8.ofNat (128 + m)) (h56 : 56 ≤ m) (h64 : m ≤ 63) (hcut : m - 54 ≤ s.size) (hbad : s.data.toList.getD 1 0 = 0 ∨ valB ((s.data.toList.drop 1).take (m - 55)) ≤ 55) : HeadsTo s (.error 6) := by
  intro w
  have hs : 0 < s.size := by omega
  have hnil : (s.toList == []) = false := by
    rw [beq_eq_false_iff_ne, ByteArray.toList_eq]
    intro e
    rw [size_len, e] at hs
    simp at hs
  have h0 : s[0].toNat = 128 + m := by
    rw [← first_of' hs, hm]
    simp
    omega
  obtain ⟨V, hV⟩ : ∃ V, valB ((s.data.toList.drop 1).take (m - 55)) = V := ⟨_, rfl⟩
  rw [hV] at hbad
  have HV := Lib.hid hV
  clear hm hV
  go_enter Tryd.func106, Tryd.ntmps106
  go_wp2
  go_loop [4, 6] (fun v i => ∃ q x : Nat, 1 ≤ q ∧ q ≤ m - 54 ∧ i = .int .i64 q ∧ v = .int .u64 x ∧ Hid (x = valB ((s.data.toList.drop 1).take (q - 1)))) (fun _ i => m - (intOf i).toNat)
  case atStart => exact ⟨1, 0, by omega, by omega, rfl, rfl, Lib.hid rfl⟩
  case round =>
    obtain ⟨q, x, hq1, hq, rfl, rfl, HX⟩ := hrel
    by_cases hlt : q < m - 54
    · have hqs : q < s.size := by omega
      have hx : x < 72057594037927936 := by
        rw [HX.out]
        exact pow_le7 (valB_lt _) (by rw [List.length_take, List.length_drop]; omega)
      have HS : Hid (bits .or .u64 ((x : Int) * 256) (IntKind.u64.wrap (s[q].toNat : Int)) = ((x * 256 + s[q].toNat : Nat) : Int)) := Lib.hid (by rw [← or_byte _ _ hx s[q].toNat_lt, show IntKind.u64.wrap ((x : Int) * 256) = (x : Int) * 256 by rw [IntKind.wrap_u64]; omega])
      have HN : Hid (x * 256 + s[q].toNat = valB ((s.data.toList.drop 1).take (q + 1 - 1))) := Lib.hid (by
        rw [show q + 1 - 1 = q by omega, take_next _ q hq1 (by rw [← size_len]; exact hqs), valB_snoc, ← HX.out, get_at s q hqs])
      go_wp2
      go_round
      case rel => exact ⟨q + 1, _, by omega, by omega, by go_num, by rw [HS.out], Lib.hid HN.out⟩
      case measure => simp [intOf]; omega
    · obtain rfl : q = m - 54 := by omega
      have hv : x = V := by rw [HX.out, ← HV.out, show m - 54 - 1 = m - 55 by omega]
      have hs1 : 1 < s.size := by omega
      have h1 : s[1].toNat = 0 ∨ x ≤ 55 := by
        rw [get_at s 1 hs1, hv]
        rcases hbad with h | h
        · exact .inl (by rw [h]; rfl)
        · exact .inr h
      subst hv
      clear HX HV hbad hlt
      by_cases hz : s[1].toNat = 0
      · have hb1 : ((s[1].toNat : Int) == 0) = true := by simp; omega
        clear hz h1
        go_wp2_with (go_at_call 83; refine (fail_any _ _).mono ?_; rintro e w1 ⟨rfl, rfl⟩)
        simp [bodyPost]
      · have hb1 : ((s[1].toNat : Int) == 0) = false := by simp; omega
        have hx55 : x ≤ 55 := by omega
        clear hz h1
        go_wp2_with (go_at_call 83; refine (fail_any _ _).mono ?_; rintro e w1 ⟨rfl, rfl⟩)
        simp [bodyPost]

set_option maxRecDepth 100000 in
/-- head, of any bytes -/
theorem head_tells (s : ByteArray) : HeadsTo s (headE s.data.toList) := by
  obtain ⟨l, hl⟩ : ∃ l, s.data.toList = l := ⟨_, rfl⟩
  cases l with
  | nil => rw [hl]; exact head_nil s hl
  | cons c t =>
    have hsz : s.size = t.length + 1 := by rw [size_len, hl]; rfl
    have hh : s.data.toList.headD 0 = c := by rw [hl]; rfl
    have hd1 : s.data.toList.drop 1 = t := by rw [hl]; rfl
    have hg1 : s.data.toList.getD 1 0 = t.headD 0 := by rw [hl]; cases t <;> rfl
    have hc := c.toNat_lt
    have hof : ∀ k, c.toNat = k → c = UInt8.ofNat k := fun k e => by rw [← e]; simp
    rw [hl]
    dsimp only [headE]
    by_cases h1 : c.toNat < 128
    · rw [if_pos h1]; exact head_text s c t hl h1
    · rw [if_neg h1]
      by_cases h2 : c.toNat - (if 192 ≤ c.toNat then 192 else 128) ≤ 55
      · rw [if_pos h2]; exact head_short s c t hl h1 h2
      · rw [if_neg h2]
        by_cases h192 : 192 ≤ c.toNat
        · simp only [if_pos h192, decide_eq_true h192] at h2 ⊢
          have hcm : c = UInt8.ofNat (192 + (c.toNat - 192)) := hof _ (by omega)
          by_cases h3 : t.length < c.toNat - 192 - 55
          · rw [if_pos h3]
            exact head_cutL s (c.toNat - 192) (by rw [hh]; exact hcm) (by omega) (by omega) (by omega) (by omega)
          · rw [if_neg h3]
            by_cases h4 : t.headD 0 = 0 ∨ valB (t.take (c.toNat - 192 - 55)) ≤ 55
            · rw [if_pos h4]
              exact head_badL s (c.toNat - 192) (by rw [hh]; exact hcm) (by omega) (by omega) (by omega) (by rw [hd1, hg1]; exact h4)
            · rw [if_neg h4]
              have := head_longL s (c.toNat - 192) (by rw [hh]; exact hcm) (by omega) (by omega) (by omega) (by
                rw [hd1, hg1]
                exact ⟨fun e => h4 (.inl e), by omega⟩)
              rw [hd1, show c.toNat - 192 - 54 = 1 + (c.toNat - 192 - 55) by omega] at this
              exact this
        · simp only [if_neg h192, decide_eq_false h192] at h2 ⊢
          have hcm : c = UInt8.ofNat (128 + (c.toNat - 128)) := hof _ (by omega)
          by_cases h3 : t.length < c.toNat - 128 - 55
          · rw [if_pos h3]
            exact head_cutT s (c.toNat - 128) (by rw [hh]; exact hcm) (by omega) (by omega) (by omega) (by omega)
          · rw [if_neg h3]
            by_cases h4 : t.headD 0 = 0 ∨ valB (t.take (c.toNat - 128 - 55)) ≤ 55
            · rw [if_pos h4]
              exact head_badT s (c.toNat - 128) (by rw [hh]; exact hcm) (by omega) (by omega) (by omega) (by rw [hd1, hg1]; exact h4)
            · rw [if_neg h4]
              have := head_longT s (c.toNat - 128) (by rw [hh]; exact hcm) (by omega) (by omega) (by omega) (by
                rw [hd1, hg1]
                exact ⟨fun e => h4 (.inl e), by omega⟩)
              rw [hd1, show c.toNat - 128 - 54 = 1 + (c.toNat - 128 - 55) by omega] at this
              exact this
end Rl
end Go.Proofs.YtoeblhdddehemaaDoor

/-
  The contract of slices.Reverse over a row of bytes of the call's own.
-/
namespace Go.Proofs.YtoeblhdddehemaaDoor
open Go.RowKit

namespace Rv
/-- behind so many exchanges -/
def turned (f : Nat → Value) (n k : Nat) : Nat → Value := fun j => if j < n ∧ (j < k ∨ n - 1 - j < k) then f (n - 1 - j) else f j
theorem turned_zero (f : Nat → Value) (n : Nat) : turned f n 0 = f := by
  funext j
  simp [turned]
theorem turned_step (f : Nat → Value) (n k : Nat) (h : k < n - 1 - k) (j : Nat) :
    (if j = n - 1 - k then turned f n k k else if j = k then turned f n k (n - 1 - k) else turned f n k j) = turned f n (k + 1) j := by
  unfold turned
  repeat' split
  all_goals first | rfl | (congr 1; omega) | omega
theorem turned_int (f : Nat → Value) (n k : Nat) (hf : ∀ j, j < n → ∃ z : Int, f j = .int .u8 z) (j : Nat) (hj : j < n) : ∃ z : Int, turned f n k j = .int .u8 z := by
  unfold turned
  split
  · exact hf _ (by omega)
  · exact hf _ hj
theorem turned_end (f : Nat → Value) (n k : Nat) (h : ¬ k < n - 1 - k) (j : Nat) (hj : j < n) : turned f n k j = f (n - 1 - j) := by
  unfold turned
  split
  · rfl
  · congr 1; omega

theorem turned_all (f : Nat → Value) (n k : Nat) (h : ¬ k < n - 1 - k) (j : Nat) : turned f n k j = turned f n n j := by
  unfold turned
  repeat' split
  all_goals first | rfl | (congr 1; omega) | omega
theorem upd_set {w w1 : World} {g : Nat} (h : Rg.Upd w g w1) (i : Nat) (v : Value) : Rg.Upd w g (w1.setCell ⟨g, i, none⟩ v) :=
  ⟨h.os, h.tape, h.output, by rw [← h.size]; simp, fun k hk => (Below.heap_setCell w1 ⟨g, i, none⟩ v k hk).trans (h.block k hk)⟩
theorem upd_drew {w w1 : World} {g : Nat} (h : Rg.Upd w g w1) : Rg.Upd w g w1.drew := ⟨h.os, h.tape, h.output, h.size, h.block⟩
theorem step {w wr : World} {g n cap k m : Nat} {T : TypeId} {f : Nat → Value} (h : wr.rowIs g T cap (turned f n k) ∧ Rg.Upd w g wr) (hk : k < m) (hm : m + 1 + k = n) {x y : Value} (hx : turned f n k k = x) (hy : turned f n k m = y) :
    ((wr.setCell ⟨g, k, none⟩ y).setCell ⟨g, m, none⟩ x).drew.rowIs g T cap (turned f n (k + 1)) ∧ Rg.Upd w g ((wr.setCell ⟨g, k, none⟩ y).setCell ⟨g, m, none⟩ x).drew := by
  refine ⟨(((h.1.set k y).set m x).congr (fun j _ => ?_)).drew, upd_drew (upd_set (upd_set h.2 k y) m x)⟩
  rw [← turned_step f n k (by omega) j, hx, show n - 1 - k = m by omega, hy]

set_option maxHeartbeats 4000000 in
theorem reverse_any (g n cap : Nat) (T : TypeId) (f : Nat → Value) (h0 : 0 < n) (hn : n ≤ cap) (hcap : cap ≤ maxLen) (w : World) (h : w.rowIs g T cap f) (hf : ∀ j, j < n → ∃ z : Int, f j = .int .u8 z) :
    Calls Tryd.prog 115 #[.slice (some ⟨g, 0, none⟩) n cap] w fun e w' => e = .returned (.tuple #[]) ∧ w'.rowIs g T cap (turned f n n) ∧ Rg.Upd w g w' := by
  unfold maxLen at hcap
  go_enter Tryd.func115, Tryd.ntmps115
  go_wp2
  go_loopw [2, 3] (fun i j wr => ∃ k m : Nat, 2 * k ≤ n ∧ m + 1 + k = n ∧ i = .int .i64 k ∧ j = .int .i64 m ∧ Hid (wr.rowIs g T cap (turned f n k) ∧ Rg.Upd w g wr)) (fun i _ _ => n - (intOf i).toNat)
  case atStart => exact ⟨0, n - 1, by omega, by omega, by go_num, by go_num, Lib.hid ⟨by rw [turned_zero]; exact h, rfl, rfl, rfl, rfl, fun _ _ => rfl⟩⟩
  case round =>
    obtain ⟨k, m, hk, hm, rfl, rfl, HR⟩ := hrel
    clear h
    by_cases hlt : k < m
    · obtain ⟨hr, hu⟩ := HR.out
      have ci := hr.cell (i := k) (by omega)
      have cj := hr.cell (i := m) (by omega)
      have fi := hr.frozen k
      have fj := hr.frozen m
      clear hr hu
      obtain ⟨x, hx⟩ := turned_int f n k hf k (by omega)
      obtain ⟨y, hy⟩ := turned_int f n k hf m (by omega)
      rw [hx] at ci
      rw [hy] at cj
      have HX := Lib.hid hx
      have HY := Lib.hid hy
      clear hx hy hf
      go_wp2_with fail
      go_region
      go_wp2
      go_roundw
      case rel => exact ⟨k + 1, m - 1, by omega, by omega, by go_num, by go_num, Lib.hid (step HR.out hlt hm HX.out HY.out)⟩
      case measure => simp [intOf]; omega
    · obtain ⟨hr, hu⟩ := HR.out
      have HE := Lib.hid hr
      have HU := Lib.hid hu
      clear hr hu HR
      go_wp2
      go_end0
      exact ⟨rfl, HE.out.congr (fun j _ => turned_all f n k (by omega) j), HU.out⟩
end Rv
end Go.Proofs.YtoeblhdddehemaaDoor
