/-
  Layer 12: a store's memory: the struct, a map of texts, a map of epochs, a map of sums for each epoch.
-/
import Derived.Test.YtlembfhdljmcoaaDoorMb6
import Derived.Shelf.SlIterI.Nil
import Derived.Shelf.SortM.Plain
import Derived.Shelf.SortM.SortNone
import Derived.Shelf.Strconv.Clone
import Derived.RangeFuncCalls
set_option linter.unusedSimpArgs false
set_option linter.unusedVariables false
namespace Go.Proofs.YtlembfhdljmcoaaDoor
set_option maxRecDepth 20000
open Go.RowKit Go.Maps

namespace Bd
open Rf Sm
def L32 (x : List UInt8) : Prop := x.length = 32
def W64 (x : Int) : Prop := (Lit.int .i64 x).wf = true
theorem w64_in {x : Int} (h : 0 ≤ x) (h2 : x ≤ 1048576) : W64 x := by
  have h3 : IntKind.i64.min = -9223372036854775808 := rfl
  have h4 : IntKind.i64.max = 9223372036854775807 := rfl
  unfold W64 Lit.wf
  simp [h3, h4]
  omega
theorem zero_bodyV (w : World) : (zeroValue 68).run Tryd.prog w = .ok (bodyV eB 0) w := by kernel_rfl
theorem zero_im (w : World) : (zeroValue 62).run Tryd.prog w = .ok (.map none) w := by kernel_rfl
theorem zero_i (w : World) : (zeroValue 3).run Tryd.prog w = .ok (.int .i64 0) w := by kernel_rfl
def kcV (x : List UInt8) : Value := .agg (kc x)
theorem KT : KeyK Tryd.prog 53 43 68 kcV kl L32 (bodyV eB 0) := ⟨lawSum, Tryd.underlying53, fun h => keyOf_sum _ h, fun h h' e => kl_inj h h' e, zero_bodyV⟩
theorem KI : KeyK Tryd.prog 62 43 3 kcV kl L32 (.int .i64 0) := ⟨lawSum, Tryd.underlying62, fun h => keyOf_sum _ h, fun h h' e => kl_inj h h' e, zero_i⟩
theorem KH : KeyK Tryd.prog 54 3 62 (Value.int .i64) (Lit.int .i64) W64 (.map none) :=
  ⟨int_keyed Tryd.underlying3, Tryd.underlying54, fun h => keyOf_int_mk Tryd.underlying3 h, fun _ _ e => by injection e, zero_im⟩
theorem keyLaw : Go.WideMaps.KeyLaw Tryd.prog 43 := deep_law_laid laidOut (m := 2) (by omega) (of_decide_eq_true (by kernel_rfl)) (by kernel_rfl) wide_sum
abbrev MoS (w : World) (o : Option Nat) (f : List UInt8 → Option Value) (N : Nat) : Prop := MapO Tryd.prog 43 kl L32 w o f N
abbrev MoH (w : World) (o : Option Nat) (f : Int → Option Value) (N : Nat) : Prop := MapO Tryd.prog 3 (Lit.int .i64) W64 w o f N
def hF (M : Int → Option Nat) (e : Int) : Option Value := (M e).map fun m => .map (some m)
def was (tw : Option (ByteArray × ByteArray)) : ByteArray := (tw.map (·.1)).getD eB
def came (tw : Option (ByteArray × ByteArray)) : ByteArray := (tw.map (·.2)).getD eB
def objA (tm hm : Option Nat) (n : Int) (tw : Option (ByteArray × ByteArray)) : Array Value := #[.map tm, .map hm, .int .i64 n, .string (was tw), .string (came tw), .bool tw.isSome]
/-- each has a block of its own -/
structure Apart (bb : Nat) (tm hm : Option Nat) (M : Int → Option Nat) : Prop where
  m : ∀ e m, M e = some m → m ≠ bb ∧ tm ≠ some m ∧ hm ≠ some m
  i : ∀ e e' m, M e = some m → M e' = some m → e = e'
  t : tm ≠ some bb
  h : hm ≠ some bb
  th : ∀ t, tm = some t → hm ≠ some t
/-- a store's blocks -/
def KS (bb : Nat) (tm hm : Option Nat) (M : Int → Option Nat) (k : Nat) : Prop := k = bb ∨ tm = some k ∨ hm = some k ∨ ∃ e, M e = some k
structure Sg (bb : Nat) (tm hm : Option Nat) (M : Int → Option Nat) (ft : List UInt8 → Option Value) (Nt : Nat) (fi : Int → List UInt8 → Option Value) (Ni : Int → Nat) (Nh : Nat) (n : Int) (tw : Option (ByteArray × ByteArray)) (w : World) : Prop where
  own : Rg.Own w bb (objA tm hm n tw) 56
  tx : MoS w tm ft Nt
  hd : MoH w hm (hF M) Nh
  inn : ∀ e, MoS w (M e) (fi e) (Ni e)
  both : tm = none ↔ hm = none
  ap : Apart bb tm hm M
section
variable {bb : Nat} {tm hm : Option Nat} {M : Int → Option Nat} {ft : List UInt8 → Option Value} {Nt : Nat} {fi : Int → List UInt8 → Option Value} {Ni : Int → Nat} {Nh : Nat} {n : Int} {tw : Option (ByteArray × ByteArray)} {w w' : World}
theorem Sg.keep (h : Sg bb tm hm M ft Nt fi Ni Nh n tw w) (hs : w.heap.size ≤ w'.heap.size) (hk : ∀ k, KS bb tm hm M k → w'.heap[k]? = w.heap[k]?) : Sg bb tm hm M ft Nt fi Ni Nh n tw w' :=
  ⟨⟨Nat.lt_of_lt_of_le h.own.1 hs, (hk _ (.inl rfl)).trans h.own.2⟩, h.tx.same fun b e => hk b (.inr (.inl e)), h.hd.same fun b e => hk b (.inr (.inr (.inl e))), fun e => (h.inn e).same fun b g => hk b (.inr (.inr (.inr ⟨e, g⟩))), h.both, h.ap⟩
theorem Sg.lt (h : Sg bb tm hm M ft Nt fi Ni Nh n tw w) : ∀ k, KS bb tm hm M k → k < w.heap.size := fun k hk => by
  rcases hk with rfl | hk | hk | ⟨e, hk⟩
  · exact h.own.1
  · exact h.tx.lt hk
  · exact h.hd.lt hk
  · exact (h.inn e).lt hk
theorem Sg.below (h : Sg bb tm hm M ft Nt fi Ni Nh n tw w) (hb : Below w.heap.size w w') : Sg bb tm hm M ft Nt fi Ni Nh n tw w' := h.keep hb.size fun k hk => hb.block k (h.lt k hk)
theorem Sg.congr (h : Sg bb tm hm M ft Nt fi Ni Nh n tw w) {ft' : List UInt8 → Option Value} {Nt' : Nat} {fi' : Int → List UInt8 → Option Value} {Ni' : Int → Nat} {n' : Int} (h1 : ∀ x, L32 x → ft' x = ft x) (h2 : Nt' = Nt) (h3 : ∀ e x, L32 x → fi' e x = fi e x) (h4 : ∀ e, Ni' e = Ni e) (h5 : n' = n) :
    Sg bb tm hm M ft' Nt' fi' Ni' Nh n' tw w := by
  subst h2 h5
  exact ⟨h.own, h.tx.congr h1, h.hd, fun e => by rw [h4 e]; exact (h.inn e).congr (h3 e), h.both, h.ap⟩
/-- another block is turned -/
theorem Sg.off (h : Sg bb tm hm M ft Nt fi Ni Nh n tw w) {b : Nat} (hu : Rg.Upd w b w') (hb : ¬ KS bb tm hm M b) : Sg bb tm hm M ft Nt fi Ni Nh n tw w' := h.keep (Nat.le_of_eq hu.size.symm) fun k hk => hu.block k fun e => hb (e ▸ hk)
/-- the struct's own cells are turned -/
theorem Sg.cells (h : Sg bb tm hm M ft Nt fi Ni Nh n tw w) (hu : Rg.Upd w bb w') {n' : Int} {tw' : Option (ByteArray × ByteArray)} (ho : Rg.Own w' bb (objA tm hm n' tw') 56) : Sg bb tm hm M ft Nt fi Ni Nh n' tw' w' :=
  ⟨ho, h.tx.same fun b e => hu.block b fun g => h.ap.t (by rw [e, g]), h.hd.same fun b e => hu.block b fun g => h.ap.h (by rw [e, g]), fun e => (h.inn e).same fun b g => hu.block b (h.ap.m e b g).1, h.both, h.ap⟩
/-- the texts are turned -/
theorem Sg.texts (h : Sg bb tm hm M ft Nt fi Ni Nh n tw w) {t : Nat} (ht : tm = some t) (hu : Rg.Upd w t w') {ft' : List UInt8 → Option Value} {Nt' : Nat} (hm' : MoS w' tm ft' Nt') : Sg bb tm hm M ft' Nt' fi Ni Nh n tw w' :=
  ⟨h.own.upd hu fun e => h.ap.t (by rw [ht, e]), hm', h.hd.same fun b e => hu.block b fun g => h.ap.th t ht (by rw [e, g]), fun e => (h.inn e).same fun b g => hu.block b fun k => (h.ap.m e b g).2.1 (by rw [ht, k]), h.both, h.ap⟩
/-- an epoch's sums are turned -/
theorem Sg.sums (h : Sg bb tm hm M ft Nt fi Ni Nh n tw w) {e0 : Int} {m : Nat} (ht : M e0 = some m) (hu : Rg.Upd w m w') {f' : List UInt8 → Option Value} {N' : Nat} (hm' : MoS w' (M e0) f' N') :
    Sg bb tm hm M ft Nt (fun e => if e = e0 then f' else fi e) (fun e => if e = e0 then N' else Ni e) Nh n tw w' := by
  have a := h.ap.m e0 m ht
  refine ⟨h.own.upd hu (Ne.symm a.1), h.tx.same fun b e => hu.block b fun g => a.2.1 (by rw [e, g]), h.hd.same fun b e => hu.block b fun g => a.2.2 (by rw [e, g]), fun e => ?_, h.both, h.ap⟩
  by_cases g : e = e0
  · subst g
    simp only [if_true]
    exact hm'
  · simp only [if_neg g]
    exact (h.inn e).same fun b k => hu.block b fun q => g (h.ap.i e e0 m (by rw [k, q]) ht)
/-- an epoch is taken out of the map of epochs: its sums stay where they are, but are none of the store's -/
theorem Sg.out (h : Sg bb tm hm M ft Nt fi Ni Nh n tw w) {e0 : Int} {b : Nat} (hb : hm = some b) (hu : Rg.Upd w b w') {N' : Nat} (hm' : MoH w' hm (hF fun e => if e = e0 then none else M e) N') (h0 : Ni e0 = 0) (hf : ∀ x, L32 x → fi e0 x = none) :
    Sg bb tm hm (fun e => if e = e0 then none else M e) ft Nt fi Ni N' n tw w' := by
  refine ⟨h.own.upd hu fun e => h.ap.h (by rw [hb, e]), h.tx.same fun c e => hu.block c fun g => h.ap.th c e (by rw [hb, g]), hm', fun e => ?_, h.both, ⟨fun e m he => ?_, fun e e' m h1 h2 => ?_, h.ap.t, h.ap.h, h.ap.th⟩⟩
  · by_cases g : e = e0
    · subst g
      simp only [if_true]
      rw [h0]
      exact ⟨hf, rfl⟩
    · simp only [if_neg g]
      exact (h.inn e).same fun c k => hu.block c fun q => (h.ap.m e c k).2.2 (by rw [hb, q])
  · split at he
    · cases he
    · exact h.ap.m e m he
  · split at h1
    · cases h1
    · split at h2
      · cases h2
      · exact h.ap.i e e' m h1 h2
/-- an epoch is put into it, with no sums -/
theorem Sg.into (h : Sg bb tm hm M ft Nt fi Ni Nh n tw w) {e0 : Int} {b m : Nat} (hb : hm = some b) (hu : Rg.Upd w b w') {N' : Nat} (hm' : MoH w' hm (hF fun e => if e = e0 then some m else M e) N') (h0 : M e0 = none) (hn : ¬ KS bb tm hm M m) (hM : MoS w (some m) (fi e0) (Ni e0)) :
    Sg bb tm hm (fun e => if e = e0 then some m else M e) ft Nt fi Ni N' n tw w' := by
  have hmb : m ≠ b := fun e => hn (.inr (.inr (.inl (by rw [hb, e]))))
  refine ⟨h.own.upd hu fun e => h.ap.h (by rw [hb, e]), h.tx.same fun c e => hu.block c fun g => h.ap.th c e (by rw [hb, g]), hm', fun e => ?_, h.both, ⟨fun e m' he => ?_, fun e e' m' h1 h2 => ?_, h.ap.t, h.ap.h, h.ap.th⟩⟩
  · by_cases g : e = e0
    · subst g
      simp only [if_true]
      exact hM.same fun c k => hu.block c fun q => hmb (by rw [← q]; injection k)
    · simp only [if_neg g]
      exact (h.inn e).same fun c k => hu.block c fun q => (h.ap.m e c k).2.2 (by rw [hb, q])
  · split at he
    · injection he with he
      subst he
      exact ⟨fun g => hn (.inl g), fun g => hn (.inr (.inl g)), fun g => hn (.inr (.inr (.inl g)))⟩
    · exact h.ap.m e m' he
  · split at h1 <;> split at h2
    · rename_i g1 g2; rw [g1, g2]
    · injection h1 with h1; exact absurd (.inr (.inr (.inr ⟨e', by rw [h2, h1]⟩))) hn
    · injection h2 with h2; exact absurd (.inr (.inr (.inr ⟨e, by rw [h1, h2]⟩))) hn
    · exact h.ap.i e e' m' h1 h2
theorem hF_set (M : Int → Option Nat) (e0 : Int) (m : Option Nat) : (hF fun e => if e = e0 then m else M e) = setF (hF M) e0 (m.map fun m => .map (some m)) := by
  funext e
  unfold hF setF
  by_cases g : e = e0
  · simp only [if_pos g]
  · simp only [if_neg g]
end
/-- a store with these rows -/
structure St (bb : Nat) (tm hm : Option Nat) (M : Int → Option Nat) (l : List Rw) (tw : Option (ByteArray × ByteArray)) (w : World) : Prop where
  g : ∃ Nh, Nh = (epochsR l).length ∧ Sg bb tm hm M (ftx l) (textsR l).length (fix_ l) (exN l) Nh (sizeT (textsR l)) tw w
  u : UqR l
  o : OneS l
  full : ∀ e m, M e = some m → 0 < exN l e
theorem St.keep {bb : Nat} {tm hm : Option Nat} {M : Int → Option Nat} {l : List Rw} {tw : Option (ByteArray × ByteArray)} {w w' : World} (h : St bb tm hm M l tw w) (hs : w.heap.size ≤ w'.heap.size) (hk : ∀ k, KS bb tm hm M k → w'.heap[k]? = w.heap[k]?) : St bb tm hm M l tw w' := by
  obtain ⟨Nh, h1, h2⟩ := h.g
  exact ⟨⟨Nh, h1, h2.keep hs hk⟩, h.u, h.o, h.full⟩
theorem St.lt {bb : Nat} {tm hm : Option Nat} {M : Int → Option Nat} {l : List Rw} {tw : Option (ByteArray × ByteArray)} {w : World} (h : St bb tm hm M l tw w) : ∀ k, KS bb tm hm M k → k < w.heap.size := by
  obtain ⟨Nh, h1, h2⟩ := h.g
  exact h2.lt
theorem St.below {bb : Nat} {tm hm : Option Nat} {M : Int → Option Nat} {l : List Rw} {tw : Option (ByteArray × ByteArray)} {w w' : World} (h : St bb tm hm M l tw w) (hb : Below w.heap.size w w') : St bb tm hm M l tw w' := h.keep hb.size fun k hk => hb.block k (h.lt k hk)
def obj : ObjT := fun p l tw K w => ∃ bb tm hm M, p = some ⟨bb, 0, none⟩ ∧ K = KS bb tm hm M ∧ St bb tm hm M l tw w
theorem obj_keep {p : Option Addr} {l : List Rw} {tw : Option (ByteArray × ByteArray)} {K : Nat → Prop} {w w' : World} (h : obj p l tw K w) (hs : w.heap.size ≤ w'.heap.size) (hk : ∀ k, K k → w'.heap[k]? = w.heap[k]?) : obj p l tw K w' := by
  obtain ⟨bb, tm, hm, M, hp, rfl, h⟩ := h
  exact ⟨bb, tm, hm, M, hp, rfl, h.keep hs hk⟩
theorem obj_lt {p : Option Addr} {l : List Rw} {tw : Option (ByteArray × ByteArray)} {K : Nat → Prop} {w : World} (h : obj p l tw K w) : ∀ k, K k → k < w.heap.size := by
  obtain ⟨bb, tm, hm, M, hp, rfl, h⟩ := h
  exact h.lt
/-! ### the operations that read -/
section
variable {ev : Operand → Value} {o : Oper} {w : World} {mo : Option Nat} {N : Nat}
theorem run_look {t : TypeId} {m x : Operand} {c : Bool} {u v : Value} (ho : o.op = .lookup t m x c) (h : (Instr.lookup t (ev m) (ev x) c).run Tryd.prog w = .ok v w) : (execOp ev o).run Tryd.prog w = .ok (.value v) w := by
  unfold execOp
  simp only [ho, Sem.run_bind, Sem.run_pure, Result.andThen_ok, h]
theorem op_lookT {f : List UInt8 → Option Value} {x : List UInt8} {k : Array Value} (h : MoS w mo f N) (hx : L32 x) (hk : kc x = k) (ho : ∃ m y, o.op = .lookup 53 m y false ∧ ev m = .map mo ∧ ev y = .agg k) : (execOp ev o).run Tryd.prog w = .ok (.value ((f x).getD (bodyV eB 0))) w := by
  obtain ⟨m, y, ho, hm, hy⟩ := ho
  have := look_run KT h hx false
  exact run_look (u := .nilFunc) ho (by rw [hm, hy, ← hk]; exact this)
theorem op_lookT2 {f : List UInt8 → Option Value} {x : List UInt8} {k : Array Value} (h : MoS w mo f N) (hx : L32 x) (hk : kc x = k) (ho : ∃ m y, o.op = .lookup 53 m y true ∧ ev m = .map mo ∧ ev y = .agg k) : (execOp ev o).run Tryd.prog w = .ok (.value (.tuple #[(f x).getD (bodyV eB 0), .bool (f x).isSome])) w := by
  obtain ⟨m, y, ho, hm, hy⟩ := ho
  have := look_run KT h hx true
  exact run_look (u := .nilFunc) ho (by rw [hm, hy, ← hk]; exact this)
theorem op_lookI {f : List UInt8 → Option Value} {x : List UInt8} {k : Array Value} (h : MoS w mo f N) (hx : L32 x) (hk : kc x = k) (ho : ∃ m y, o.op = .lookup 62 m y false ∧ ev m = .map mo ∧ ev y = .agg k) : (execOp ev o).run Tryd.prog w = .ok (.value ((f x).getD (.int .i64 0))) w := by
  obtain ⟨m, y, ho, hm, hy⟩ := ho
  have := look_run KI h hx false
  exact run_look (u := .nilFunc) ho (by rw [hm, hy, ← hk]; exact this)
theorem op_lookH {f : Int → Option Value} {x : Int} (h : MoH w mo f N) (hx : W64 x) (ho : ∃ m y, o.op = .lookup 54 m y false ∧ ev m = .map mo ∧ ev y = .int .i64 x) : (execOp ev o).run Tryd.prog w = .ok (.value ((f x).getD (.map none))) w := by
  obtain ⟨m, y, ho, hm, hy⟩ := ho
  have := look_run KH h hx false
  exact run_look (u := .nilFunc) ho (by rw [hm, hy]; exact this)
theorem hF_get (M : Int → Option Nat) (e : Int) : (hF M e).getD (.map none) = .map (M e) := by
  unfold hF
  cases M e <;> rfl
theorem run_len {t ty : TypeId} {m : Operand} {v : Value} (hop : o.op = Op.call { callee := Callee.builtin Builtin.len, args := #[m], argTypes := #[t] }) (h : (Builtin.len_ #[t] o.type #[ev m]).run Tryd.prog w = .ok v w) : (execOp ev o).run Tryd.prog w = .ok (.value v) w := by
  simp [execOp, hop, resolve, invoke, builtin, h, Result.andThen]
theorem op_lenT {f : List UInt8 → Option Value} (h : MoS w mo f N) (ho : ∃ m, o.op = Op.call { callee := Callee.builtin Builtin.len, args := #[m], argTypes := #[53] } ∧ ev m = .map mo) : (execOp ev o).run Tryd.prog w = .ok (.value (.int .i64 N)) w := by
  obtain ⟨m, ho, hm⟩ := ho
  exact run_len (ty := 0) ho (by rw [hm]; exact len_run KT h _)
theorem op_lenI {f : List UInt8 → Option Value} (h : MoS w mo f N) (ho : ∃ m, o.op = Op.call { callee := Callee.builtin Builtin.len, args := #[m], argTypes := #[62] } ∧ ev m = .map mo) : (execOp ev o).run Tryd.prog w = .ok (.value (.int .i64 N)) w := by
  obtain ⟨m, ho, hm⟩ := ho
  exact run_len (ty := 0) ho (by rw [hm]; exact len_run KI h _)
theorem op_ldK {g : Nat} {k : Array Value} {x : List UInt8} (hx : L32 x) (hk : kc x = k) (hg : Rg.Own w g k 43) (ho : ∃ y, o.op = .load 43 y ∧ ev y = .pointer (some ⟨g, 0, none⟩)) : (execOp ev o).run Tryd.prog w = .ok (.value (.agg k)) w := by
  subst hk
  exact run_load_sum ev o w g x hx ho hg
end
end Bd
end Go.Proofs.YtlembfhdljmcoaaDoor

/-
  The library's Clone of a text; the keys of a map of ints, sorted: laid at this program.
-/
namespace Go.Proofs.YtlembfhdljmcoaaDoor
set_option maxRecDepth 20000
open Go.RowKit Go.Maps Go.Sort Go.Shelf

namespace Bd
def cloneLR : Go.Shelf.Ren := ⟨fun | 316 => 47 | n => n, fun | 0 => 0 | 3 => 3 | 4 => 4 | 5 => 5 | 9 => 9 | 37 => 66 | 127 => 97 | n => n, fun | n => n⟩
theorem cloneL : Go.Proofs.LaysM.n316 Tryd.prog cloneLR := {
  mixed := by kernel_rfl
  f316 := Tryd.func47.trans (congrArg some (by kernel_rfl))
  t0 := Tryd.underlying0
  a0 := Tryd.isAgg0
  z0 := Tryd.sizeOf0
  v0 := Tryd.zeroValue0
  t3 := Tryd.underlying3
  a3 := Tryd.isAgg3
  z3 := Tryd.sizeOf3
  v3 := Tryd.zeroValue3
  t4 := Tryd.underlying4
  a4 := Tryd.isAgg4
  z4 := Tryd.sizeOf4
  v4 := Tryd.zeroValue4
  t9 := Tryd.underlying9
  a9 := Tryd.isAgg9
  z9 := Tryd.sizeOf9
  v9 := Tryd.zeroValue9
  t37 := Tryd.underlying66
  a37 := Tryd.isAgg66
  z37 := Tryd.sizeOf66
  v37 := Tryd.zeroValue66
  t127 := Tryd.underlying97
  a127 := Tryd.isAgg97
  z127 := Tryd.sizeOf97
  v127 := Tryd.zeroValue97
  t5 := Tryd.underlying5
  a5 := Tryd.isAgg5
  z5 := Tryd.sizeOf5
  v5 := Tryd.zeroValue5
  i0 := by kernel_rfl
  i3 := by kernel_rfl
  i4 := by kernel_rfl
  i5 := by kernel_rfl
  i9 := by kernel_rfl
  i37 := by kernel_rfl
  i127 := by kernel_rfl }
def keysAR : Go.Shelf.Ren := ⟨fun | 7 => 31 | 10 => 44 | n => n, fun | 23 => 54 | 26 => 3 | 3 => 62 | 28 => 74 | 0 => 0 | 27 => 73 | 33 => 86 | 4 => 4 | n => n, fun | n => n⟩
theorem keysA : Go.Proofs.SlLaysZI.n7 Tryd.prog keysAR := {
  mixed := by kernel_rfl
  f7 := ⟨Tryd.f31.name, by decide, Tryd.func31.trans (congrArg some (by kernel_rfl))⟩
  f10 := ⟨Tryd.f44.name, by decide, Tryd.func44.trans (congrArg some (by kernel_rfl))⟩
  t0 := Tryd.underlying0
  a0 := Tryd.isAgg0
  z0 := Tryd.sizeOf0
  v0 := Tryd.zeroValue0
  t4 := Tryd.underlying4
  a4 := Tryd.isAgg4
  z4 := Tryd.sizeOf4
  v4 := Tryd.zeroValue4
  t23 := Tryd.underlying54
  a23 := Tryd.isAgg54
  z23 := Tryd.sizeOf54
  v23 := Tryd.zeroValue54
  t26 := Tryd.underlying3
  a26 := Tryd.isAgg3
  z26 := Tryd.sizeOf3
  v26 := Tryd.zeroValue3
  t27 := Tryd.underlying73
  a27 := Tryd.isAgg73
  z27 := Tryd.sizeOf73
  v27 := Tryd.zeroValue73
  t28 := Tryd.underlying74
  a28 := Tryd.isAgg74
  z28 := Tryd.sizeOf74
  v28 := Tryd.zeroValue74
  t33 := Tryd.underlying86
  a33 := Tryd.isAgg86
  z33 := Tryd.sizeOf86
  v33 := Tryd.zeroValue86 }
def sortedAR : Go.Shelf.Ren := ⟨fun | 6 => 30 | 8 => 42 | 9 => 43 | 11 => 48 | 13 => 50 | 12 => 49 | 23 => 62 | 24 => 63 | 14 => 53 | 15 => 54 | 16 => 55 | 17 => 56 | 18 => 57 | 19 => 58 | 20 => 59 | 21 => 60 | 22 => 61 | 25 => 65 | 26 => 66 | 27 => 67 | 28 => 68 | 29 => 69 | 30 => 70 | 31 => 71 | n => n, fun | 26 => 3 | 28 => 74 | 24 => 50 | 0 => 0 | 3 => 3 | 37 => 95 | 48 => 76 | 50 => 63 | 4 => 4 | 40 => 100 | 39 => 99 | 45 => 105 | 5 => 5 | 9 => 9 | 51 => 109 | 55 => 113 | 57 => 115 | 58 => 47 | 33 => 86 | n => n, fun | n => n⟩
theorem sortedA : Go.Proofs.SlLaysZI.n6 Tryd.prog sortedAR := {
  mixed := by kernel_rfl
  f6 := ⟨Tryd.f30.name, by decide, Tryd.func30.trans (congrArg some (by kernel_rfl))⟩
  f8 := ⟨Tryd.f42.name, by decide, Tryd.func42.trans (congrArg some (by kernel_rfl))⟩
  f11 := ⟨Tryd.f48.name, by decide, Tryd.func48.trans (congrArg some (by kernel_rfl))⟩
  t0 := Tryd.underlying0
  a0 := Tryd.isAgg0
  z0 := Tryd.sizeOf0
  v0 := Tryd.zeroValue0
  t24 := Tryd.underlying50
  a24 := Tryd.isAgg50
  z24 := Tryd.sizeOf50
  v24 := Tryd.zeroValue50
  t26 := Tryd.underlying3
  a26 := Tryd.isAgg3
  z26 := Tryd.sizeOf3
  v26 := Tryd.zeroValue3
  t28 := Tryd.underlying74
  a28 := Tryd.isAgg74
  z28 := Tryd.sizeOf74
  v28 := Tryd.zeroValue74
  i26 := by kernel_rfl }
def sortAR : Go.Shelf.Ren := ⟨fun | 5 => 43 | 8 => 50 | 7 => 49 | 19 => 62 | 20 => 63 | 10 => 53 | 11 => 54 | 12 => 55 | 13 => 56 | 14 => 57 | 15 => 58 | 16 => 59 | 17 => 60 | 18 => 61 | 30 => 65 | 31 => 66 | 32 => 67 | 33 => 68 | 34 => 69 | 35 => 70 | 40 => 71 | n => n, fun | 23 => 50 | 25 => 3 | 3 => 3 | 32 => 95 | 22 => 50 | 0 => 0 | 44 => 76 | 46 => 63 | 4 => 4 | 36 => 100 | 35 => 99 | 41 => 105 | 5 => 5 | 9 => 9 | 53 => 109 | 57 => 113 | 63 => 115 | 64 => 47 | n => n, fun | n => n⟩
theorem sortA : Go.Proofs.SlLaysM.n5 Tryd.prog sortAR := {
  mixed := by kernel_rfl
  f5 := ⟨Tryd.f43.name, by decide, Tryd.func43.trans (congrArg some (by kernel_rfl))⟩
  f7 := ⟨Tryd.f49.name, by decide, Tryd.func49.trans (congrArg some (by kernel_rfl))⟩
  f8 := Tryd.func50.trans (congrArg some (by kernel_rfl))
  f10 := ⟨Tryd.f53.name, by decide, Tryd.func53.trans (congrArg some (by kernel_rfl))⟩
  f11 := ⟨Tryd.f54.name, by decide, Tryd.func54.trans (congrArg some (by kernel_rfl))⟩
  f12 := ⟨Tryd.f55.name, by decide, Tryd.func55.trans (congrArg some (by kernel_rfl))⟩
  f13 := ⟨Tryd.f56.name, by decide, Tryd.func56.trans (congrArg some (by kernel_rfl))⟩
  f14 := ⟨Tryd.f57.name, by decide, Tryd.func57.trans (congrArg some (by kernel_rfl))⟩
  f15 := ⟨Tryd.f58.name, by decide, Tryd.func58.trans (congrArg some (by kernel_rfl))⟩
  f16 := ⟨Tryd.f59.name, by decide, Tryd.func59.trans (congrArg some (by kernel_rfl))⟩
  f17 := ⟨Tryd.f60.name, by decide, Tryd.func60.trans (congrArg some (by kernel_rfl))⟩
  f18 := ⟨Tryd.f61.name, by decide, Tryd.func61.trans (congrArg some (by kernel_rfl))⟩
  f19 := Tryd.func62.trans (congrArg some (by kernel_rfl))
  f20 := Tryd.func63.trans (congrArg some (by kernel_rfl))
  f30 := ⟨Tryd.f65.name, by decide, Tryd.func65.trans (congrArg some (by kernel_rfl))⟩
  f31 := Tryd.func66.trans (congrArg some (by kernel_rfl))
  f32 := Tryd.func67.trans (congrArg some (by kernel_rfl))
  f33 := ⟨Tryd.f68.name, by decide, Tryd.func68.trans (congrArg some (by kernel_rfl))⟩
  f34 := ⟨Tryd.f69.name, by decide, Tryd.func69.trans (congrArg some (by kernel_rfl))⟩
  f35 := ⟨Tryd.f70.name, by decide, Tryd.func70.trans (congrArg some (by kernel_rfl))⟩
  f40 := ⟨Tryd.f71.name, by decide, Tryd.func71.trans (congrArg some (by kernel_rfl))⟩
  t0 := Tryd.underlying0
  a0 := Tryd.isAgg0
  z0 := Tryd.sizeOf0
  v0 := Tryd.zeroValue0
  t3 := Tryd.underlying3
  a3 := Tryd.isAgg3
  z3 := Tryd.sizeOf3
  v3 := Tryd.zeroValue3
  t4 := Tryd.underlying4
  a4 := Tryd.isAgg4
  z4 := Tryd.sizeOf4
  v4 := Tryd.zeroValue4
  t5 := Tryd.underlying5
  a5 := Tryd.isAgg5
  z5 := Tryd.sizeOf5
  v5 := Tryd.zeroValue5
  t9 := Tryd.underlying9
  a9 := Tryd.isAgg9
  z9 := Tryd.sizeOf9
  v9 := Tryd.zeroValue9
  t22 := Tryd.underlying50
  a22 := Tryd.isAgg50
  z22 := Tryd.sizeOf50
  v22 := Tryd.zeroValue50
  t23 := Tryd.underlying50
  a23 := Tryd.isAgg50
  z23 := Tryd.sizeOf50
  v23 := Tryd.zeroValue50
  t25 := Tryd.underlying3
  a25 := Tryd.isAgg3
  z25 := Tryd.sizeOf3
  v25 := Tryd.zeroValue3
  t32 := Tryd.underlying95
  a32 := Tryd.isAgg95
  z32 := Tryd.sizeOf95
  v32 := Tryd.zeroValue95
  t35 := Tryd.underlying99
  a35 := Tryd.isAgg99
  z35 := Tryd.sizeOf99
  v35 := Tryd.zeroValue99
  t36 := Tryd.underlying100
  a36 := Tryd.isAgg100
  z36 := Tryd.sizeOf100
  v36 := Tryd.zeroValue100
  t41 := Tryd.underlying105
  a41 := Tryd.isAgg105
  z41 := Tryd.sizeOf105
  v41 := Tryd.zeroValue105
  t44 := Tryd.underlying76
  a44 := Tryd.isAgg76
  z44 := Tryd.sizeOf76
  v44 := Tryd.zeroValue76
  t46 := Tryd.underlying63
  a46 := Tryd.isAgg63
  z46 := Tryd.sizeOf63
  v46 := Tryd.zeroValue63
  t53 := Tryd.underlying109
  a53 := Tryd.isAgg109
  z53 := Tryd.sizeOf109
  v53 := Tryd.zeroValue109
  t57 := Tryd.underlying113
  a57 := Tryd.isAgg113
  z57 := Tryd.sizeOf113
  v57 := Tryd.zeroValue113
  t63 := Tryd.underlying115
  a63 := Tryd.isAgg115
  z63 := Tryd.sizeOf115
  v63 := Tryd.zeroValue115
  t64 := Tryd.underlying47
  a64 := Tryd.isAgg47
  z64 := Tryd.sizeOf47
  v64 := Tryd.zeroValue47 }
theorem clone_any (s : ByteArray) (hs : s.size ≤ 900000) (w : World) : Calls Tryd.prog 36 #[.string s] w fun e w' => e = .returned (.string s) ∧ Below w.heap.size w w' := by
  have H : ∀ w, Calls Tryd.prog 47 #[.string s] w fun e w' => e = .returned (.string s) ∧ Below w.heap.size w w' := fun w => Any.stringslite_Clone cloneL s w (by omega)
  have HC := Lib.hid (H w)
  clear hs H
  go_enter Tryd.func36, Tryd.ntmps36
  go_wp2_with fail
  refine HC.out.mono ?_
  rintro e w1 ⟨rfl, hb⟩
  have HB := Lib.hid hb
  clear hb HC
  go_wp2
  go_ret
  exact ⟨rfl, HB.out⟩
theorem sortsA (m : Nat) : AnyZI.SortsIn Tryd.prog sortedAR Fence.wide m :=
  ⟨fun blk off cap ss W hH hblk hsz => callsIn_wide.2 (AnyM.slices_Sort_int sortA blk off cap ss W hH hblk hsz), fun p cap W => callsIn_wide.2 (AnyM.slices_Sort_int_none sortA p cap W)⟩
theorem keys_none {H : Type} (D : DataW H) (h : Maps.size D = 0) : intKeys D = [] := by
  unfold intKeys
  cases D with
  | map es => rw [List.length_eq_zero_iff.1 (show es.length = 0 from h)]; rfl
  | _ => rfl
/-- maps.Keys hands back an iterator over a new box -/
theorem keys_made (mb : Option Nat) (w : World) : Calls Tryd.prog 31 #[.map mb] w fun e w' => e = .returned (.func (.func 44) #[] #[.pointer (some ⟨w.heap.size, 0, none⟩)]) ∧ w' = w.alloc (.cells #[.map mb] 54) :=
  (callsIn_wide (n := 5)).1 (AnyZI.keys_in keysA Fence.wide 5 trivial rfl mb w)
/-- slices.Sorted of it -/
theorem sorted_keys {N : Nat} {D : DataW Value} (b Bm : Nat) (w : World) (h : w.ownsMap Tryd.prog 3 heldE b N D) (hN : Maps.size D ≤ 1000) (hB : Bm < w.heap.size) (hc : w.cell? ⟨Bm, 0, none⟩ = some (.map (some b))) :
    Calls Tryd.prog 30 #[.func (.func 44) #[] #[.pointer (some ⟨Bm, 0, none⟩)]] w fun e w' => ∃ (v : Value) (ss : List Int), e = .returned v ∧ ss.Perm (intKeys D) ∧
      w'.ownsRow w.heap.size 3 1 v ss.length ((ss.mergeSort (fun x y => decide (x ≤ y))).map encZ) ∧ (v = .slice none 0 0 ↔ ss = []) ∧ Below w.heap.size w w' := by
  have hseq : SeqGives Fence.wide 2 Tryd.prog 44 #[.pointer (some ⟨Bm, 0, none⟩)] encZ (fun ss => ss.Perm (intKeys D)) (Maps.size D) w := AnyZI.keys_gives (ρ := keysAR) { keysA with } Fence.wide _ trivial rfl (by omega) Bm b N D w hB hc h
  have cS := AnyZI.sorted_in sortedA Fence.wide 5 trivial trivial trivial trivial rfl (by omega) (sortsA _) (enters_of Tryd.func43 (by kernel_rfl) rfl) 44 #[.pointer (some ⟨Bm, 0, none⟩)] trivial (enters_of Tryd.func44 (by kernel_rfl) rfl) _ _ (by unfold maxLen; omega) (by omega) w hseq
  exact (callsIn_wide (n := 5)).1 cS
theorem sorted_nil (Bm : Nat) (w : World) (hB : Bm < w.heap.size) (hc : w.cell? ⟨Bm, 0, none⟩ = some (.map none)) :
    Calls Tryd.prog 30 #[.func (.func 44) #[] #[.pointer (some ⟨Bm, 0, none⟩)]] w fun e w' => e = .returned (.slice none 0 0) ∧ Below w.heap.size w w' := by
  have hseq : SeqGives Fence.wide 2 Tryd.prog 44 #[.pointer (some ⟨Bm, 0, none⟩)] encZ (fun ss : List Int => ss = []) 0 w := AnyZI.keys_gives_nil (ρ := keysAR) { keysA with } Fence.wide _ trivial rfl Bm w hB hc
  have cS := AnyZI.sorted_in sortedA Fence.wide 5 trivial trivial trivial trivial rfl (by omega) (sortsA _) (enters_of Tryd.func43 (by kernel_rfl) rfl) 44 #[.pointer (some ⟨Bm, 0, none⟩)] trivial (enters_of Tryd.func44 (by kernel_rfl) rfl) _ 0 (Nat.zero_le _) (by omega) w hseq
  refine ((callsIn_wide (n := 5)).1 cS).mono ?_
  rintro e w' ⟨v, ss, rfl, rfl, _, hn, hb⟩
  exact ⟨by rw [hn.2 rfl], hb⟩
end Bd
end Go.Proofs.YtlembfhdljmcoaaDoor

/-
  Layer 12: the contracts of New, Twin, Size, Get.
-/
namespace Go.Proofs.YtlembfhdljmcoaaDoor
set_option maxRecDepth 20000
open Go.RowKit Go.Maps

namespace Bd
open Rf Sm
section
variable {w : World} {bb : Nat} {tm hm : Option Nat} {n : Int} {tw : Option (ByteArray × ByteArray)} (h : Rg.Own w bb (objA tm hm n tw) 56)
include h
theorem ob0 : w.cell? ⟨bb, 0, none⟩ = some (.map tm) := own_at h rfl
theorem ob1 : w.cell? ⟨bb, 1, none⟩ = some (.map hm) := own_at h rfl
theorem ob2 : w.cell? ⟨bb, 2, none⟩ = some (.int .i64 n) := own_at h rfl
theorem ob3 : w.cell? ⟨bb, 3, none⟩ = some (.string (was tw)) := own_at h rfl
theorem ob4 : w.cell? ⟨bb, 4, none⟩ = some (.string (came tw)) := own_at h rfl
theorem ob5 : w.cell? ⟨bb, 5, none⟩ = some (.bool tw.isSome) := own_at h rfl
end
theorem new_any (w : World) : Calls Tryd.prog 5 #[] w fun e w' => ∃ b K, e = .returned (.pointer (some ⟨b, 0, none⟩)) ∧ obj (some ⟨b, 0, none⟩) [] none K w' ∧ Below w.heap.size w w' ∧ ∀ k, K k → w.heap.size ≤ k := by
  have HE : Hid (∃ b K, (Ending.returned (.pointer (some ⟨w.heap.size, 0, none⟩))) = .returned (.pointer (some ⟨b, 0, none⟩)) ∧ obj (some ⟨b, 0, none⟩) [] none K (w.alloc (.cells (objA none none 0 none) 56)) ∧ Below w.heap.size w (w.alloc (.cells (objA none none 0 none) 56)) ∧ ∀ k, K k → w.heap.size ≤ k) := Lib.hid
    ⟨w.heap.size, _, rfl, ⟨w.heap.size, none, none, fun _ => none, rfl, rfl, ⟨⟨0, rfl, Rg.Own.new _ _ _, ⟨fun _ _ => rfl, rfl⟩, ⟨fun _ _ => rfl, rfl⟩, fun _ => ⟨fun _ _ => rfl, rfl⟩, Iff.rfl, ⟨fun _ _ h => (by cases h), fun _ _ _ h => (by cases h), fun h => (by cases h), fun h => (by cases h), fun _ h => (by cases h)⟩⟩, List.Pairwise.nil, fun _ h => (by cases h), fun _ _ h => (by cases h)⟩⟩, al1 _ _, fun k hk => by
      rcases hk with rfl | hk | hk | ⟨_, hk⟩
      · exact Nat.le_refl _
      · cases hk
      · cases hk
      · cases hk⟩
  have hbu : Tryd.prog.built 56 [] = some (objA none none 0 none) := by kernel_rfl
  go_enter Tryd.func5, Tryd.ntmps5
  go_wp2
  go_ret
  exact HE.out
set_option maxHeartbeats 2000000 in
theorem twin_any {bb : Nat} {tm hm : Option Nat} {n : Int} {tw : Option (ByteArray × ByteArray)} {w : World} (hO : Rg.Own w bb (objA tm hm n tw) 56) : Calls Tryd.prog 14 #[.pointer (some ⟨bb, 0, none⟩)] w fun e w' => e = .returned (twinV tw) ∧ Below w.heap.size w w' := by
  have HO := Lib.hid hO
  have HV : Hid (twinV tw = .tuple #[.string (was tw), .string (came tw), .bool tw.isSome]) := Lib.hid (by cases tw <;> rfl)
  clear hO
  go_enter Tryd.func14, Tryd.ntmps14
  go_wp2_with fail
  refine wp_region_noPanic ?_
  refine wp_region_held_drew (S := fun wz => Rg.Own wz bb (objA tm hm n tw) 56) (by kernel_rfl) (HO.out.drew) (fun hHeld => ?_)
  refine Rg.takeL (i := 0) (v := ?_) rfl (by kernel_rfl) (by kernel_rfl) (by kernel_rfl) (fun _ _ _ h => h) (Or.inl ⟨by rfl, ?_⟩) (by assumption) ?_
  rotate_left
  · (intro wz hSw; (try dsimp only at hSw); go_simp <;> with_reducible rfl)
  try simp only [Act.put, List.setIfInBounds_toArray, List.set_cons_zero, List.set_cons_succ]
  refine Rg.takeL (i := 1) (v := ?_) rfl (by kernel_rfl) (by kernel_rfl) (by kernel_rfl) (fun _ _ _ h => h) (Or.inl ⟨by rfl, ?_⟩) (by assumption) ?_
  rotate_left
  · (intro wz hSw; (try dsimp only at hSw); go_simp <;> with_reducible rfl)
  try simp only [Act.put, List.setIfInBounds_toArray, List.set_cons_zero, List.set_cons_succ]
  refine Rg.takeL (i := 2) (v := ?_) rfl (by kernel_rfl) (by kernel_rfl) (by kernel_rfl) (fun _ _ _ h => h) (Or.inl ⟨by rfl, ?_⟩) (by assumption) ?_
  rotate_left
  · (intro wz hSw; (try dsimp only at hSw); go_simp <;> with_reducible rfl)
  try simp only [Act.put, List.setIfInBounds_toArray, List.set_cons_zero, List.set_cons_succ]
  refine Rg.takeL (i := 3) (v := ?_) rfl (by kernel_rfl) (by kernel_rfl) (by kernel_rfl) (fun _ _ _ h => h) (Or.inl ⟨by rfl, ?_⟩) (by assumption) ?_
  rotate_left
  · (intro wz hSw; (have q0 := ob3 hSw; go_simp <;> with_reducible rfl))
  try simp only [Act.put, List.setIfInBounds_toArray, List.set_cons_zero, List.set_cons_succ]
  refine Rg.takeL (i := 4) (v := ?_) rfl (by kernel_rfl) (by kernel_rfl) (by kernel_rfl) (fun _ _ _ h => h) (Or.inl ⟨by rfl, ?_⟩) (by assumption) ?_
  rotate_left
  · (intro wz hSw; (try dsimp only at hSw); go_simp <;> with_reducible rfl)
  try simp only [Act.put, List.setIfInBounds_toArray, List.set_cons_zero, List.set_cons_succ]
  refine Rg.takeL (i := 5) (v := ?_) rfl (by kernel_rfl) (by kernel_rfl) (by kernel_rfl) (fun _ _ _ h => h) (Or.inl ⟨by rfl, ?_⟩) (by assumption) ?_
  rotate_left
  · (intro wz hSw; (try dsimp only at hSw); go_simp <;> with_reducible rfl)
  try simp only [Act.put, List.setIfInBounds_toArray, List.set_cons_zero, List.set_cons_succ]
  refine Rg.takeL (i := 6) (v := ?_) rfl (by kernel_rfl) (by kernel_rfl) (by kernel_rfl) (fun _ _ _ h => h) (Or.inl ⟨by rfl, ?_⟩) (by assumption) ?_
  rotate_left
  · (intro wz hSw; (try dsimp only at hSw); go_simp <;> with_reducible rfl)
  try simp only [Act.put, List.setIfInBounds_toArray, List.set_cons_zero, List.set_cons_succ]
  refine Rg.takeL (i := 7) (v := ?_) rfl (by kernel_rfl) (by kernel_rfl) (by kernel_rfl) (fun _ _ _ h => h) (Or.inl ⟨by rfl, ?_⟩) (by assumption) ?_
  rotate_left
  · (intro wz hSw; (have q0 := ob4 hSw; go_simp <;> with_reducible rfl))
  try simp only [Act.put, List.setIfInBounds_toArray, List.set_cons_zero, List.set_cons_succ]
  refine Rg.takeL (i := 8) (v := ?_) rfl (by kernel_rfl) (by kernel_rfl) (by kernel_rfl) (fun _ _ _ h => h) (Or.inl ⟨by rfl, ?_⟩) (by assumption) ?_
  rotate_left
  · (intro wz hSw; (try dsimp only at hSw); go_simp <;> with_reducible rfl)
  try simp only [Act.put, List.setIfInBounds_toArray, List.set_cons_zero, List.set_cons_succ]
  refine Rg.takeL (i := 9) (v := ?_) rfl (by kernel_rfl) (by kernel_rfl) (by kernel_rfl) (fun _ _ _ h => h) (Or.inl ⟨by rfl, ?_⟩) (by assumption) ?_
  rotate_left
  · (intro wz hSw; (try dsimp only at hSw); go_simp <;> with_reducible rfl)
  try simp only [Act.put, List.setIfInBounds_toArray, List.set_cons_zero, List.set_cons_succ]
  refine Rg.takeL (i := 10) (v := ?_) rfl (by kernel_rfl) (by kernel_rfl) (by kernel_rfl) (fun _ _ _ h => h) (Or.inl ⟨by rfl, ?_⟩) (by assumption) ?_
  rotate_left
  · (intro wz hSw; (try dsimp only at hSw); go_simp <;> with_reducible rfl)
  try simp only [Act.put, List.setIfInBounds_toArray, List.set_cons_zero, List.set_cons_succ]
  refine Rg.takeL (i := 11) (v := ?_) rfl (by kernel_rfl) (by kernel_rfl) (by kernel_rfl) (fun _ _ _ h => h) (Or.inl ⟨by rfl, ?_⟩) (by assumption) ?_
  rotate_left
  · (intro wz hSw; (have q0 := ob5 hSw; go_simp <;> with_reducible rfl))
  try simp only [Act.put, List.setIfInBounds_toArray, List.set_cons_zero, List.set_cons_succ]
  refine Rg.takeL (i := 12) (v := ?_) rfl (by kernel_rfl) (by kernel_rfl) (by kernel_rfl) (fun _ _ _ h => h) (Or.inl ⟨by rfl, ?_⟩) (by assumption) ?_
  rotate_left
  · (intro wz hSw; (try dsimp only at hSw); go_simp <;> with_reducible rfl)
  try simp only [Act.put, List.setIfInBounds_toArray, List.set_cons_zero, List.set_cons_succ]
  refine Rg.takeL (i := 13) (v := ?_) rfl (by kernel_rfl) (by kernel_rfl) (by kernel_rfl) (fun _ _ _ h => h) (Or.inl ⟨by rfl, ?_⟩) (by assumption) ?_
  rotate_left
  · (intro wz hSw; (try dsimp only at hSw); go_simp <;> with_reducible rfl)
  try simp only [Act.put, List.setIfInBounds_toArray, List.set_cons_zero, List.set_cons_succ]
  refine Rg.takeL (i := 14) (v := ?_) rfl (by kernel_rfl) (by kernel_rfl) (by kernel_rfl) (fun _ _ _ h => h) (Or.inl ⟨by rfl, ?_⟩) (by assumption) ?_
  rotate_left
  · (intro wz hSw; (try dsimp only at hSw); go_simp <;> with_reducible rfl)
  try simp only [Act.put, List.setIfInBounds_toArray, List.set_cons_zero, List.set_cons_succ]
  refine wpAnyH_done (by kernel_rfl) ?_ _
  refine NoPanic.normal ?_
  clear hHeld
  go_wp2
  go_ret3
  exact ⟨congrArg Ending.returned HV.out.symm, (Below.refl _ _).drew⟩
set_option maxHeartbeats 2000000 in
theorem size_any {bb : Nat} {tm hm : Option Nat} {n : Int} {tw : Option (ByteArray × ByteArray)} {ft : List UInt8 → Option Value} {N : Nat} {w : World} (hO : Rg.Own w bb (objA tm hm n tw) 56) (hT : MoS w tm ft N) :
    Calls Tryd.prog 20 #[.pointer (some ⟨bb, 0, none⟩)] w fun e w' => e = .returned (.tuple #[.int .i64 N, .int .i64 n]) ∧ Below w.heap.size w w' := by
  have HO := Lib.hid hO
  have HT := Lib.hid hT
  clear hO hT
  go_enter Tryd.func20, Tryd.ntmps20
  go_wp2_with fail
  refine wp_region_noPanic ?_
  refine wp_region_held_drew (S := fun wz => Rg.Own wz bb (objA tm hm n tw) 56 ∧ MoS wz tm ft N) (by kernel_rfl) (⟨HO.out.drew, HT.out.same fun _ _ => rfl⟩) (fun hHeld => ?_)
  refine Rg.takeL (i := 0) (v := ?_) rfl (by kernel_rfl) (by kernel_rfl) (by kernel_rfl) (fun _ _ _ h => h) (Or.inl ⟨by rfl, ?_⟩) (by assumption) ?_
  rotate_left
  · (intro wz hSw; (try dsimp only at hSw); go_simp <;> with_reducible rfl)
  try simp only [Act.put, List.setIfInBounds_toArray, List.set_cons_zero, List.set_cons_succ]
  refine Rg.takeL (i := 1) (v := ?_) rfl (by kernel_rfl) (by kernel_rfl) (by kernel_rfl) (fun _ _ _ h => h) (Or.inl ⟨by rfl, ?_⟩) (by assumption) ?_
  rotate_left
  · (intro wz hSw; (try dsimp only at hSw); go_simp <;> with_reducible rfl)
  try simp only [Act.put, List.setIfInBounds_toArray, List.set_cons_zero, List.set_cons_succ]
  refine Rg.takeL (i := 2) (v := ?_) rfl (by kernel_rfl) (by kernel_rfl) (by kernel_rfl) (fun _ _ _ h => h) (Or.inl ⟨by rfl, ?_⟩) (by assumption) ?_
  rotate_left
  · (intro wz hSw; (try dsimp only at hSw); go_simp <;> with_reducible rfl)
  try simp only [Act.put, List.setIfInBounds_toArray, List.set_cons_zero, List.set_cons_succ]
  refine Rg.takeL (i := 3) (v := ?_) rfl (by kernel_rfl) (by kernel_rfl) (by kernel_rfl) (fun _ _ _ h => h) (Or.inl ⟨by rfl, ?_⟩) (by assumption) ?_
  rotate_left
  · (intro wz hSw; (have q0 := ob0 hSw.1; go_simp <;> with_reducible rfl))
  try simp only [Act.put, List.setIfInBounds_toArray, List.set_cons_zero, List.set_cons_succ]
  refine Rg.takeL (i := 4) (v := ?_) rfl (by kernel_rfl) (by kernel_rfl) (by kernel_rfl) (fun _ _ _ h => h) (Or.inl ⟨by rfl, ?_⟩) (by assumption) ?_
  rotate_left
  · (intro wz hSw; (refine op_lenT hSw.2 ?_; exact ⟨_, rfl, rfl⟩))
  try simp only [Act.put, List.setIfInBounds_toArray, List.set_cons_zero, List.set_cons_succ]
  refine Rg.takeL (i := 5) (v := ?_) rfl (by kernel_rfl) (by kernel_rfl) (by kernel_rfl) (fun _ _ _ h => h) (Or.inl ⟨by rfl, ?_⟩) (by assumption) ?_
  rotate_left
  · (intro wz hSw; (try dsimp only at hSw); go_simp <;> with_reducible rfl)
  try simp only [Act.put, List.setIfInBounds_toArray, List.set_cons_zero, List.set_cons_succ]
  refine Rg.takeL (i := 6) (v := ?_) rfl (by kernel_rfl) (by kernel_rfl) (by kernel_rfl) (fun _ _ _ h => h) (Or.inl ⟨by rfl, ?_⟩) (by assumption) ?_
  rotate_left
  · (intro wz hSw; (try dsimp only at hSw); go_simp <;> with_reducible rfl)
  try simp only [Act.put, List.setIfInBounds_toArray, List.set_cons_zero, List.set_cons_succ]
  refine Rg.takeL (i := 7) (v := ?_) rfl (by kernel_rfl) (by kernel_rfl) (by kernel_rfl) (fun _ _ _ h => h) (Or.inl ⟨by rfl, ?_⟩) (by assumption) ?_
  rotate_left
  · (intro wz hSw; (try dsimp only at hSw); go_simp <;> with_reducible rfl)
  try simp only [Act.put, List.setIfInBounds_toArray, List.set_cons_zero, List.set_cons_succ]
  refine Rg.takeL (i := 8) (v := ?_) rfl (by kernel_rfl) (by kernel_rfl) (by kernel_rfl) (fun _ _ _ h => h) (Or.inl ⟨by rfl, ?_⟩) (by assumption) ?_
  rotate_left
  · (intro wz hSw; (have q0 := ob2 hSw.1; go_simp <;> with_reducible rfl))
  try simp only [Act.put, List.setIfInBounds_toArray, List.set_cons_zero, List.set_cons_succ]
  refine Rg.takeL (i := 9) (v := ?_) rfl (by kernel_rfl) (by kernel_rfl) (by kernel_rfl) (fun _ _ _ h => h) (Or.inl ⟨by rfl, ?_⟩) (by assumption) ?_
  rotate_left
  · (intro wz hSw; (try dsimp only at hSw); go_simp <;> with_reducible rfl)
  try simp only [Act.put, List.setIfInBounds_toArray, List.set_cons_zero, List.set_cons_succ]
  refine Rg.takeL (i := 10) (v := ?_) rfl (by kernel_rfl) (by kernel_rfl) (by kernel_rfl) (fun _ _ _ h => h) (Or.inl ⟨by rfl, ?_⟩) (by assumption) ?_
  rotate_left
  · (intro wz hSw; (try dsimp only at hSw); go_simp <;> with_reducible rfl)
  try simp only [Act.put, List.setIfInBounds_toArray, List.set_cons_zero, List.set_cons_succ]
  refine wpAnyH_done (by kernel_rfl) ?_ _
  refine NoPanic.normal ?_
  clear hHeld
  go_wp2
  go_ret2
  exact ⟨rfl, (Below.refl _ _).drew⟩
def bodyA (s : ByteArray) (m : Nat) : Array Value := #[.string s, .int .i64 m]
theorem info_body : (Tryd.prog.info? 68).map (·.size) = some 2 := by kernel_rfl
theorem bodyA_one (s : ByteArray) (m : Nat) : (bodyA s m).all (·.oneCell') = true := by simp [bodyA, Value.oneCell']
theorem run_alloc_body (ev : Operand → Value) (o : Oper) (w : World) (b : Nat) (hb : b = w.heap.size) (ho : o.op = .alloc 68) : (execOp ev o).run Tryd.prog w = .ok (.value (.pointer (some ⟨b, 0, none⟩))) (w.alloc (.cells (bodyA eB 0) 68)) := by
  subst hb
  unfold execOp
  rw [ho]
  kernel_rfl
theorem bd0 {w : World} {b : Nat} {s : ByteArray} {m : Nat} {T : TypeId} (h : Rg.Own w b (bodyA s m) T) : w.cell? ⟨b, 0, none⟩ = some (.string s) := own_at h rfl
theorem bd1 {w : World} {b : Nat} {s : ByteArray} {m : Nat} {T : TypeId} (h : Rg.Own w b (bodyA s m) T) : w.cell? ⟨b, 1, none⟩ = some (.int .i64 m) := own_at h rfl
theorem op_lookT2' {ev : Operand → Value} {o : Oper} {w : World} {mo : Option Nat} {N : Nat} {f : List UInt8 → Option Value} {x : List UInt8} {k : Array Value} {V : Value} {b : Bool} (h : MoS w mo f N) (hx : L32 x) (hk : kc x = k) (hV : (f x).getD (bodyV eB 0) = V) (hb : (f x).isSome = b)
    (ho : ∃ m y, o.op = .lookup 53 m y true ∧ ev m = .map mo ∧ ev y = .agg k) : (execOp ev o).run Tryd.prog w = .ok (.value (.tuple #[V, .bool b])) w := by
  rw [← hV, ← hb]
  exact op_lookT2 h hx hk ho
set_option maxHeartbeats 4000000 in
theorem get_any {bb : Nat} {tm hm : Option Nat} {n : Int} {tw : Option (ByteArray × ByteArray)} {ft : List UInt8 → Option Value} {N : Nat} {w : World} {x : List UInt8} {s : ByteArray} {m : Nat} {f : Bool} (hO : Rg.Own w bb (objA tm hm n tw) 56) (hT : MoS w tm ft N) (hx : L32 x) (hV : (ft x).getD (bodyV eB 0) = bodyV s m) (hf : (ft x).isSome = f) :
    Calls Tryd.prog 18 #[.pointer (some ⟨bb, 0, none⟩), .agg (kc x)] w fun e w' => e = .returned (.tuple #[.string s, .bool f]) ∧ Below w.heap.size w w' := by
  have HX := Lib.hid hx
  have HV : Hid ((ft x).getD (bodyV eB 0) = .agg (bodyA s m)) := Lib.hid hV
  have HVb := Lib.hid hf
  obtain ⟨k, hk⟩ : ∃ k, kc x = k := ⟨_, rfl⟩
  have HKx := Lib.hid hk
  have HS0 : Hid (∀ wG, wG = w.alloc (.cells k 43) → Below w.heap.size w wG ∧ Rg.Own wG bb (objA tm hm n tw) 56 ∧ Rg.Own wG w.heap.size k 43 ∧ MoS wG tm ft N) := Lib.hid (by
    rintro _ rfl
    exact ⟨al1 _ _, hO.below (al1 _ _), Rg.Own.new _ _ _, hT.same fun b e => (al1 w (.cells k 43)).block b (hT.lt e)⟩)
  rw [hk]
  clear hk hx hV hf hO hT
  go_enter Tryd.func18, Tryd.ntmps18
  go_wp2_with fail
  obtain ⟨wG, hwG⟩ : ∃ wG, wG = w.alloc (.cells k 43) := ⟨_, rfl⟩
  have HBG := Lib.hid (HS0.out wG hwG).1
  have HS := Lib.hid (HS0.out wG hwG).2
  rw [← hwG]
  clear hwG HS0
  obtain ⟨gK, hgK⟩ : ∃ g, w.heap.size = g := ⟨_, rfl⟩
  have HGK : Hid (w.heap.size = gK) := Lib.hid hgK
  rw [hgK] at HS ⊢
  clear hgK
  refine wp_region_noPanic ?_
  refine wp_region_held_drew (S := fun wz => Rg.Own wz bb (objA tm hm n tw) 56 ∧ Rg.Own wz gK k 43 ∧ MoS wz tm ft N) (by kernel_rfl) (⟨HS.out.1, HS.out.2.1, HS.out.2.2.same fun _ _ => rfl⟩) (fun hHeld => ?_)
  refine Rg.takeL (i := 0) (v := ?_) rfl (by kernel_rfl) (by kernel_rfl) (by kernel_rfl) (fun _ _ _ h => h) (Or.inl ⟨by rfl, ?_⟩) (by assumption) ?_
  rotate_left
  · (intro wz hSw; (try dsimp only at hSw); go_simp <;> with_reducible rfl)
  try simp only [Act.put, List.setIfInBounds_toArray, List.set_cons_zero, List.set_cons_succ]
  refine Rg.takeL (i := 1) (v := ?_) rfl (by kernel_rfl) (by kernel_rfl) (by kernel_rfl) (fun _ _ _ h => h) (Or.inl ⟨by rfl, ?_⟩) (by assumption) ?_
  rotate_left
  · (intro wz hSw; (try dsimp only at hSw); go_simp <;> with_reducible rfl)
  try simp only [Act.put, List.setIfInBounds_toArray, List.set_cons_zero, List.set_cons_succ]
  refine Rg.takeL (i := 2) (v := ?_) rfl (by kernel_rfl) (by kernel_rfl) (by kernel_rfl) (fun _ _ _ h => h) (Or.inl ⟨by rfl, ?_⟩) (by assumption) ?_
  rotate_left
  · (intro wz hSw; (try dsimp only at hSw); go_simp <;> with_reducible rfl)
  try simp only [Act.put, List.setIfInBounds_toArray, List.set_cons_zero, List.set_cons_succ]
  refine Rg.takeL (i := 3) (v := ?_) rfl (by kernel_rfl) (by kernel_rfl) (by kernel_rfl) (fun _ _ _ h => h) (Or.inl ⟨by rfl, ?_⟩) (by assumption) ?_
  rotate_left
  · (intro wz hSw; (have q0 := ob0 hSw.1; go_simp <;> with_reducible rfl))
  try simp only [Act.put, List.setIfInBounds_toArray, List.set_cons_zero, List.set_cons_succ]
  refine Rg.takeL (i := 4) (v := ?_) rfl (by kernel_rfl) (by kernel_rfl) (by kernel_rfl) (fun _ _ _ h => h) (Or.inl ⟨by rfl, ?_⟩) (by assumption) ?_
  rotate_left
  · (intro wz hSw; (refine op_ldK HX.out HKx.out hSw.2.1 ?_; exact ⟨_, rfl, rfl⟩))
  try simp only [Act.put, List.setIfInBounds_toArray, List.set_cons_zero, List.set_cons_succ]
  refine Rg.takeL (i := 5) (v := ?_) rfl (by kernel_rfl) (by kernel_rfl) (by kernel_rfl) (fun _ _ _ h => h) (Or.inl ⟨by rfl, ?_⟩) (by assumption) ?_
  rotate_left
  · (intro wz hSw; (refine op_lookT2' hSw.2.2 HX.out HKx.out HV.out HVb.out ?_; exact ⟨_, _, rfl, rfl, rfl⟩))
  try simp only [Act.put, List.setIfInBounds_toArray, List.set_cons_zero, List.set_cons_succ]
  refine Rg.takeL (i := 6) (v := ?_) rfl (by kernel_rfl) (by kernel_rfl) (by kernel_rfl) (fun _ _ _ h => h) (Or.inl ⟨by rfl, ?_⟩) (by assumption) ?_
  rotate_left
  · (intro wz hSw; (try dsimp only at hSw); go_simp <;> with_reducible rfl)
  try simp only [Act.put, List.setIfInBounds_toArray, List.set_cons_zero, List.set_cons_succ]
  refine Rg.takeL (i := 7) (v := ?_) rfl (by kernel_rfl) (by kernel_rfl) (by kernel_rfl) (fun _ _ _ h => h) (Or.inl ⟨by rfl, ?_⟩) (by assumption) ?_
  rotate_left
  · (intro wz hSw; (try dsimp only at hSw); go_simp <;> with_reducible rfl)
  try simp only [Act.put, List.setIfInBounds_toArray, List.set_cons_zero, List.set_cons_succ]
  refine Rg.takeL (i := 8) (v := ?_) rfl (by kernel_rfl) (by kernel_rfl) (by kernel_rfl) (fun _ _ _ h => h) (Or.inl ⟨by rfl, ?_⟩) (by assumption) ?_
  rotate_left
  · (intro wz hSw; (try dsimp only at hSw); go_simp <;> with_reducible rfl)
  try simp only [Act.put, List.setIfInBounds_toArray, List.set_cons_zero, List.set_cons_succ]
  refine wpAnyH_ready (rs := [9]) (by kernel_rfl) (by simp) ?_
  refine Rg.readyL (i := 9) rfl (fun K hK => ?_)
  refine Rg.meetAlloc (by rfl) (run_alloc_body _ _ _ _ rfl rfl) ?_
  rintro wv b9 he9 h9 hbx
  have HG9 : Hid (b9 = wG.heap.size) := Lib.hid he9
  have HB9 : Hid (Below wG.heap.size wG wv) := Lib.hid ((Below.refl _ _).drew.trans hbx)
  clear he9
  refine hK.out _ _ ?_ (fun hHeld => ?_)
  · exact ⟨HS.out.1.below HB9.out, HS.out.2.1.below HB9.out, HS.out.2.2.same fun b e => HB9.out.block b (HS.out.2.2.lt e)⟩
  clear hK K hbx
  try simp only [Act.put, List.setIfInBounds_toArray, List.set_cons_zero, List.set_cons_succ]
  refine wpAnyH_ready (rs := [10]) (by kernel_rfl) (by simp) ?_
  refine Rg.readyL (i := 10) rfl (fun K hK => ?_)
  refine Rg.meetStore (by rfl) h9 68 (bodyA s m) ⟨_, _, rfl, rfl, rfl⟩ info_body rfl (bodyA_one _ _) ?_
  rintro wu hn hu
  have HO9 : Hid (Rg.Own wu b9 (bodyA s m) 68) := Lib.hid hn
  have HB10 : Hid (Below wG.heap.size wG wu) := Lib.hid (hu.below HB9.out (by rw [HG9.out]; exact Nat.le_refl _))
  refine hK.out _ _ ?_ (fun hHeld => ?_)
  · exact ⟨hHeld.1.upd hu (by have := HS.out.1.1; have := HG9.out; omega), hHeld.2.1.upd hu (by have := HS.out.2.1.1; have := HG9.out; omega), hHeld.2.2.same fun b e => hu.block b (by have := HS.out.2.2.lt e; have := HG9.out; omega)⟩
  clear hK K hn hu h9 HB9
  try simp only [Act.put, List.setIfInBounds_toArray, List.set_cons_zero, List.set_cons_succ]
  refine Rg.takeL (i := 11) (v := ?_) rfl (by kernel_rfl) (by kernel_rfl) (by kernel_rfl) (fun _ _ _ h => h) (Or.inl ⟨by rfl, ?_⟩) (by assumption) ?_
  rotate_left
  · (intro wz hSw; (try dsimp only at hSw); go_simp <;> with_reducible rfl)
  try simp only [Act.put, List.setIfInBounds_toArray, List.set_cons_zero, List.set_cons_succ]
  refine wpAnyH_done (by kernel_rfl) ?_ _
  refine NoPanic.normal ?_
  clear hHeld
  have q0 := bd0 HO9.out
  go_wp2
  go_ret2
  exact ⟨rfl, HBG.out.trans (HB10.out.mono HBG.out.size)⟩
end Bd
end Go.Proofs.YtlembfhdljmcoaaDoor

/-
  Layer 12: the contract of Find.
-/
namespace Go.Proofs.YtlembfhdljmcoaaDoor
set_option maxRecDepth 20000
open Go.RowKit Go.Maps

namespace Bd
open Rf Sm
theorem size_list (r : ByteArray) : r.toList = [] ↔ r.size = 0 := by
  have h : (r.toList == eB.toList) = decide (r = eB) := str_eq r eB
  have e0 : eB.toList = [] := by kernel_rfl
  rw [e0] at h
  constructor
  · intro g
    rw [g] at h
    have : r = eB := of_decide_eq_true (by rw [← h]; rfl)
    rw [this]; rfl
  · intro g
    have : r = eB := by
      apply ByteArray.ext
      exact Array.eq_empty_of_size_eq_zero g
    rw [this]; exact e0
theorem wpl_store_sm {ops : Array Oper} {rest : List Oper} {o : Oper} {act : Go.Act} {w : World} {Q : Exit → Go.Act → World → Prop} {b : Nat} {cs k : Array Value} {x : List UInt8} (h : Rg.Own w b cs 43) (hs : cs.size = 32) (hx : L32 x) (hk : kc x = k)
    (hgd : o.guard = none) (p q : Operand) (ho : o.op = .store 43 p q) (hp : act.eval p = .pointer (some ⟨b, 0, none⟩)) (hy : act.eval q = .agg k) (hd : o.dst = none)
    (hQ : ∀ w', Rg.Own w' b k 43 → Rg.Upd w b w' → wpList Tryd.prog ops Q rest act w') : wpList Tryd.prog ops Q (o :: rest) act w := by
  subst hk
  exact wpList_store_rowTo hgd 43 p q ho hd b _ hp hy 43 _ h.2 (info_kc x hx) (by rw [hs, kc_size]; exact hx.symm) (kc_one _) (hQ _ ⟨by simp; exact h.1, setRow_heap _ _ _ _ _ _ h.2⟩ (Rg.Upd.set _ _ _))
theorem find_zero {bb : Nat} (w : World) (r : ByteArray) (hr : r.size = 0) : Calls Tryd.prog 19 #[.pointer (some ⟨bb, 0, none⟩), .string r] w fun e w' => e = .returned (.tuple #[.string eB, .bool false]) ∧ Below w.heap.size w w' := by
  obtain rfl : r = eB := by
    apply ByteArray.ext
    exact Array.eq_empty_of_size_eq_zero hr
  have e0 : eB.toList = [] := by kernel_rfl
  go_enter Tryd.func19, Tryd.ntmps19
  go_wp2_with fail
  go_ret2
  exact ⟨rfl, Below.refl _ _⟩
theorem find_short {bb : Nat} (w : World) (r : ByteArray) (h0 : 0 < r.size) (hr : r.size < 32) : Calls Tryd.prog 19 #[.pointer (some ⟨bb, 0, none⟩), .string r] w fun e w' => e = .returned (.tuple #[.string r, .bool true]) ∧ Below w.heap.size w w' := by
  have hz : (r.toList == []) = false := by
    rw [beq_eq_false_iff_ne]
    intro g
    have := (size_list r).1 g
    omega
  have hn : r.toList ≠ [] := by simpa using hz
  have h1 : decide ((r.size : Int) < 32) = true := decide_eq_true (by omega)
  have h2 : decide (r.size < 32) = true := decide_eq_true hr
  go_enter Tryd.func19, Tryd.ntmps19
  go_wp2_with fail
  go_ret2
  exact ⟨rfl, Below.refl _ _⟩
set_option maxHeartbeats 2000000 in
theorem find_long {bb : Nat} (w : World) (r : ByteArray) (hr : 32 < r.size) (hm : r.size ≤ 100) : Calls Tryd.prog 19 #[.pointer (some ⟨bb, 0, none⟩), .string r] w fun e w' => e = .returned (.tuple #[.string eB, .bool false]) ∧ Below w.heap.size w w' := by
  have hz : (r.toList == []) = false := by
    rw [beq_eq_false_iff_ne]
    intro g
    have := (size_list r).1 g
    omega
  have hn : r.toList ≠ [] := by simpa using hz
  have h1 : decide ((r.size : Int) < 32) = false := decide_eq_false (by omega)
  have h2 : decide (r.size < 32) = false := decide_eq_false (by omega)
  have HF := Lib.hid (from_long r hr (by unfold maxLen; omega) w)
  obtain ⟨k, hk⟩ : ∃ k, kc zk = k := ⟨_, rfl⟩
  have HKx := Lib.hid hk
  rw [hk] at HF
  clear hk
  go_enter Tryd.func19, Tryd.ntmps19
  go_wp2_with fail
  refine HF.out.mono ?_
  rintro e w1 ⟨rfl, hb⟩
  have HB := Lib.hid hb
  clear hb HF
  go_wp2_with (first
    | (refine wpList_run rfl _ _ (run_alloc_sum _ _ rfl _ _ rfl) ?_)
    | (refine wpl_store_sm (Rg.Own.new _ _ _) (by rfl) zk_length HKx.out rfl _ _ rfl rfl rfl rfl ?_; intro w2 hn2 hu2; have HB2 : Hid (Below w.heap.size w w2) := Lib.hid (hu2.below (HB.out.trans ((al1 w1 _).mono HB.out.size)) HB.out.size); clear hn2 hu2))
  go_ret2
  exact ⟨rfl, HB2.out⟩
set_option maxHeartbeats 2000000 in
theorem find_ok {bb : Nat} {w : World} {r : ByteArray} {s : ByteArray} {f : Bool} (hr : r.size = 32) (hg : ∀ w', Below w.heap.size w w' → Calls Tryd.prog 18 #[.pointer (some ⟨bb, 0, none⟩), .agg (kc r.data.toList)] w' fun e w'' => e = .returned (.tuple #[.string s, .bool f]) ∧ Below w'.heap.size w' w'') :
    Calls Tryd.prog 19 #[.pointer (some ⟨bb, 0, none⟩), .string r] w fun e w' => e = .returned (.tuple #[.string s, .bool f]) ∧ Below w.heap.size w w' := by
  have hz : (r.toList == []) = false := by
    rw [beq_eq_false_iff_ne]
    intro g
    have := (size_list r).1 g
    omega
  have hn : r.toList ≠ [] := by simpa using hz
  have h1 : decide ((r.size : Int) < 32) = false := decide_eq_false (by omega)
  have h2 : decide (r.size < 32) = false := decide_eq_false (by omega)
  have hX : L32 r.data.toList := by show r.data.toList.length = 32; simpa using hr
  have HF := Lib.hid (from_ok r hr w)
  have HX := Lib.hid hX
  obtain ⟨x, hx⟩ : ∃ x, r.data.toList = x := ⟨_, rfl⟩
  rw [hx] at HF HX hg
  obtain ⟨k, hk⟩ : ∃ k, kc x = k := ⟨_, rfl⟩
  have HKx := Lib.hid hk
  rw [hk] at HF hg
  have HG := Lib.hid hg
  clear hk hx hX hg hr
  go_enter Tryd.func19, Tryd.ntmps19
  go_wp2_with fail
  refine HF.out.mono ?_
  rintro e w1 ⟨rfl, hb⟩
  have HB := Lib.hid hb
  clear hb HF
  go_wp2_with (first
    | (refine wpList_run rfl _ _ (run_alloc_sum _ _ rfl _ _ rfl) ?_)
    | (refine wpl_store_sm (Rg.Own.new _ _ _) (by rfl) HX.out HKx.out rfl _ _ rfl rfl rfl rfl ?_; intro w2 hn2 hu2; have HB2 : Hid (Below w.heap.size w w2) := Lib.hid (hu2.below (HB.out.trans ((al1 w1 _).mono HB.out.size)) HB.out.size); have HO2 := Lib.hid hn2; clear hn2 hu2)
    | (refine Rg.run rfl _ _ (op_ldK HX.out HKx.out HO2.out ⟨_, rfl, rfl⟩) ?_))
  refine (HG.out _ HB2.out).mono ?_
  rintro e w3 ⟨rfl, hb⟩
  have HB3 := Lib.hid (HB2.out.trans (hb.mono HB2.out.size))
  clear hb HB HB2 HO2
  go_wp2
  go_ret2
  exact ⟨rfl, HB3.out⟩
end Bd
end Go.Proofs.YtlembfhdljmcoaaDoor

/-
  Layer 12: awake, of any store.
-/
namespace Go.Proofs.YtlembfhdljmcoaaDoor
set_option maxRecDepth 20000
open Go.RowKit

namespace Bd
open Rf Sm
def sA : ByteArray := ⟨#[97, 32, 116, 101, 120, 116, 32, 116, 104, 97, 116, 32, 104, 97, 115, 32, 109, 111, 114, 101, 32, 116, 104, 97, 110, 32, 116, 104, 105, 114, 116, 121, 45, 116, 119, 111, 32, 98, 121, 116, 101, 115]⟩
def sX : ByteArray := ⟨#[120]⟩
theorem sA_size : sA.size = 42 := by kernel_rfl
theorem sX_size : sX.size = 1 := by kernel_rfl
theorem rows1 (s : ByteArray) : putR [] 1 s = [⟨1, 1, s⟩] := put_nil 1 s
theorem rows2 (s : ByteArray) : putR [⟨1, 1, s⟩] 2 s = [⟨1, 1, s⟩, ⟨2, 1, s⟩] := by
  rw [put_cons, if_neg (by simp [hitR]), put_nil]
theorem rows3 (s : ByteArray) : dropR [⟨1, 1, s⟩, ⟨2, 1, s⟩] 1 = [⟨2, 1, s⟩] := by simp [dropR]
theorem texts1 (e : Int) (s : ByteArray) : textsR [⟨e, 1, s⟩] = [s] := by simp [textsR, addT, hasT]
theorem texts2 (s : ByteArray) : textsR [⟨1, 1, s⟩, ⟨2, 1, s⟩] = [s] := by simp [textsR, addT, hasT]
theorem fine1 {s : ByteArray} (h1 : 32 ≤ s.size) (h2 : s.size ≤ 200) : Fine 40 [⟨1, 1, s⟩] := by
  have := (Fine.nil.put (e := 1) h1 h2 (by decide) (by decide)).mono (M := 40) (by decide)
  rwa [rows1] at this
theorem fine2 {s : ByteArray} (h1 : 32 ≤ s.size) (h2 : s.size ≤ 200) : Fine 40 [⟨1, 1, s⟩, ⟨2, 1, s⟩] := by
  have h := Fine.nil.put (e := 1) h1 h2 (by decide) (by decide)
  rw [rows1] at h
  have := (h.put (e := 2) h1 h2 (by decide) (by decide)).mono (M := 40) (by decide)
  rwa [rows2] at this
theorem fine3 {s : ByteArray} (h1 : 32 ≤ s.size) (h2 : s.size ≤ 200) : Fine 40 [⟨2, 1, s⟩] := by
  have := (fine2 h1 h2).drop 1
  rwa [rows3] at this
theorem put1 {s : ByteArray} {en : Int} {l' : List Rw} {tw' : Option (ByteArray × ByteArray)} (h1 : 32 ≤ s.size) (h : PutP [] none 1 s en l' tw') : en = 0 ∧ l' = [⟨1, 1, s⟩] := by
  rcases h with ⟨g, _⟩ | ⟨_, g, _⟩ | ⟨_, _, _, _, x, hx, _⟩ | ⟨_, _, _, e1, e2, _⟩
  · exact absurd (by decide) g
  · omega
  · cases hx
  · exact ⟨e1, by rw [e2, rows1]⟩
theorem put2 {s : ByteArray} {en : Int} {l' : List Rw} {tw tw' : Option (ByteArray × ByteArray)} (h1 : 32 ≤ s.size) (h : PutP [⟨1, 1, s⟩] tw 2 s en l' tw') : en = 0 ∧ l' = [⟨1, 1, s⟩, ⟨2, 1, s⟩] := by
  rcases h with ⟨g, _⟩ | ⟨_, g, _⟩ | ⟨_, _, _, _, x, hx, hne, _⟩ | ⟨_, _, _, e1, e2, _⟩
  · exact absurd (by decide) g
  · omega
  · rw [texts1] at hx
    exact absurd (List.mem_singleton.1 hx) hne
  · exact ⟨e1, by rw [e2, rows2]⟩
theorem put3 {l : List Rw} {en : Int} {l' : List Rw} {tw tw' : Option (ByteArray × ByteArray)} (h : PutP l tw 1 sX en l' tw') : en = 5 := by
  have := sX_size
  rcases h with ⟨g, _⟩ | ⟨_, _, e1, _⟩ | ⟨_, g, _⟩ | ⟨_, g, _⟩
  · exact absurd (by decide) g
  · exact e1
  · omega
  · omega
set_option maxHeartbeats 16000000 in
theorem awake_any {Obj : ObjT} (S : Store Obj) (w : World) (hT : Tab w) : Calls Tryd.prog 6 #[] w fun e w' => e = .returned (.bool true) ∧ Below w.heap.size w w' := by
  have hz := hT.pos
  have HTb : Hid (∀ w', Below w.heap.size w w' → Tab w') := Lib.hid fun w' hb => hT.below hb hz
  have HN := Lib.hid (S.new w)
  have HS := Lib.hid S
  obtain ⟨s, hs⟩ : ∃ s, s = sA := ⟨_, rfl⟩
  have h42 : s.size = 42 := by rw [hs, sA_size]
  have HSl : Hid ((⟨#[97, 32, 116, 101, 120, 116, 32, 116, 104, 97, 116, 32, 104, 97, 115, 32, 109, 111, 114, 101, 32, 116, 104, 97, 110, 32, 116, 104, 105, 114, 116, 121, 45, 116, 119, 111, 32, 98, 121, 116, 101, 115]⟩ : ByteArray) = s) := Lib.hid hs.symm
  have hsl : (s.toList == s.toList) = true := by simp
  clear hT hz S hs
  go_enter Tryd.func6, Tryd.ntmps6
  go_wp2_with fail
  refine HN.out.mono ?_
  rintro e w1 ⟨b, K, rfl, hO, hb1, hK⟩
  have HB1 := Lib.hid hb1
  have HK := Lib.hid hK
  have HO := Lib.hid hO
  have hs1 : w.heap.size ≤ w1.heap.size := hb1.size
  have HP1 := Lib.hid (HS.out.put 1 s hO (HTb.out w1 hb1) (Fine.nil.mono (by decide)) (by omega))
  clear hb1 hK hO HN
  go_wp2_with fail
  rw [HSl.out]
  refine HP1.out.mono ?_
  rintro e w2 ⟨en, l', tw', K2, rfl, hp, hO2, hf2⟩
  obtain ⟨rfl, rfl⟩ := put1 (by omega) hp
  have hb2 := hf2.below HB1.out HK.out hs1
  have hK2 := hf2.ge HK.out hs1
  have HB2 := Lib.hid hb2
  have HK2 := Lib.hid hK2
  have hs2 : w.heap.size ≤ w2.heap.size := hb2.size
  have HP2 := Lib.hid (HS.out.put 2 s hO2 (HTb.out w2 hb2) (fine1 (by omega) (by omega)) (by omega))
  clear hb2 hK2 hp hf2 hO2 HP1 HB1 HK HO hs1
  go_wp2_with fail
  refine HP2.out.mono ?_
  rintro e w3 ⟨en, l', tw3, K3, rfl, hp, hO3, hf3⟩
  obtain ⟨rfl, rfl⟩ := put2 (by omega) hp
  have hb3 := hf3.below HB2.out HK2.out hs2
  have hK3 := hf3.ge HK2.out hs2
  have HB3 := Lib.hid hb3
  have HK3 := Lib.hid hK3
  have hs3 : w.heap.size ≤ w3.heap.size := hb3.size
  have hD := HS.out.drop 1 (by decide) hO3 (HTb.out w3 hb3) (fine2 (by omega) (by omega))
  rw [rows3, texts1, texts2] at hD
  have HD := Lib.hid hD
  clear hb3 hK3 hp hf3 hO3 HP2 HB2 HK2 hs2 hD
  go_wp2_with fail
  refine HD.out.mono ?_
  rintro e w4 ⟨K4, rfl, hO4, hf4⟩
  have hb4 := hf4.below HB3.out HK3.out hs3
  have hK4 := hf4.ge HK3.out hs3
  have HB4 := Lib.hid hb4
  have HK4 := Lib.hid hK4
  have HO4 := Lib.hid hO4
  have hs4 : w.heap.size ≤ w4.heap.size := hb4.size
  have HR := Lib.hid (HS.out.reads hO4 (fine3 (by omega) (by omega)))
  have HJ : Hid (∀ w', Below w4.heap.size w4 w' → Obj (some ⟨b, 0, none⟩) [⟨2, 1, s⟩] tw3 K4 w' ∧ Tab w') := Lib.hid fun w' hb => HR.out.below _ _ ⟨HO4.out, HTb.out w4 HB4.out⟩ hb
  have HM : Hid (s ∈ textsR [⟨2, 1, s⟩]) := Lib.hid (by rw [texts1]; exact List.mem_singleton.2 rfl)
  have HSum := Lib.hid (rsumT s (by omega) w4)
  clear hb4 hK4 hf4 hO4 HD HB3 HK3 hs3
  go_wp2_with fail
  refine HSum.out.mono ?_
  rintro e w5 ⟨rfl, hb5⟩
  have HC5 := Lib.hid hb5
  have HG := Lib.hid (HR.out.get w5 (HJ.out w5 hb5) s HM.out)
  clear hb5 HSum
  go_wp2_with fail
  refine HG.out.mono ?_
  rintro e w6 ⟨rfl, hb6⟩
  have HC6 := Lib.hid (below_step' HC5.out hb6)
  have HOf := Lib.hid (rofT s (by omega) w6)
  clear hb6 HG HC5
  go_wp2_with fail
  refine HOf.out.mono ?_
  rintro e w7 ⟨rfl, hb7⟩
  have HC7 := Lib.hid (below_step' HC6.out hb7)
  have HF := Lib.hid (HR.out.find w7 (HJ.out w7 HC7.out) s HM.out)
  clear hb7 HOf HC6
  go_wp2_with fail
  refine HF.out.mono ?_
  rintro e w8 ⟨rfl, hb8⟩
  have HC8 := Lib.hid (below_step' HC7.out hb8)
  have hSz := HR.out.size w8 (HJ.out w8 HC8.out)
  rw [texts1] at hSz
  have HSz := Lib.hid hSz
  clear hb8 HF HC7 hSz
  go_wp2_with fail
  refine HSz.out.mono ?_
  rintro e w9 ⟨rfl, hb9⟩
  have HC9 := Lib.hid (below_step' HC8.out hb9)
  have hst : sizeT [s] = 42 := by simp [sizeT, h42]
  rw [hst]
  have HP9 := Lib.hid (HS.out.put 1 sX (HJ.out w9 HC9.out).1 (HJ.out w9 HC9.out).2 (fine3 (by omega) (by omega)) (by rw [sX_size]; decide))
  clear hb9 HSz HC8 hst
  have hl1 : ([s].length : Int) = 1 := rfl
  have h42' : ((s.size : Nat) : Int) = 42 := by rw [h42]; rfl
  go_wp2_with fail
  refine HP9.out.mono ?_
  rintro e w10 ⟨en, l', tw', K', rfl, hp, _, hf⟩
  obtain rfl := put3 hp
  have HBz := Lib.hid (hf.below (HB4.out.trans (HC9.out.mono hs4)) HK4.out (Nat.le_trans hs4 HC9.out.size))
  clear hp hf HP9
  go_wp2_with fail
  go_ret
  exact ⟨rfl, HBz.out⟩
end Bd
end Go.Proofs.YtlembfhdljmcoaaDoor

/-
  Layer 12: what the law holds while it goes on: its rows, the store, what came in.
-/
namespace Go.Proofs.YtlembfhdljmcoaaDoor
set_option maxRecDepth 20000
open Go.RowKit

namespace Bd
open Rf Sm
/-- the law's rows wl, the store's rows ol -/
structure Keeps (Obj : ObjT) (p : Option Addr) (w0 : World) (wl ol : List Rw) (tw : Option (ByteArray × ByteArray)) (K : Nat → Prop) (wa : Option Addr) (wc : Nat) (w : World) : Prop where
  rows : IsRw w wa wl.length wc wl
  obj : Obj p ol tw K w
  low : ∀ k, K k → w0.heap.size ≤ k
  off : ∀ b off, wa = some ⟨b, off, none⟩ → ¬ K b ∧ b < w.heap.size
  tab : Tab w
  bel : Below w0.heap.size w0 w
variable {Obj : ObjT} {p : Option Addr} {w0 : World} {wl ol : List Rw} {tw : Option (ByteArray × ByteArray)} {K : Nat → Prop} {wa : Option Addr} {wc : Nat} {w w' : World}
theorem Keeps.below (S : Store Obj) (h : Keeps Obj p w0 wl ol tw K wa wc w) (hb : Below w.heap.size w w') : Keeps Obj p w0 wl ol tw K wa wc w' :=
  ⟨h.rows.below hb, S.keep h.obj hb.size fun k hk => hb.block k (S.lt h.obj k hk), h.low, fun b off e => ⟨(h.off b off e).1, Nat.lt_of_lt_of_le (h.off b off e).2 hb.size⟩, h.tab.below hb h.tab.pos, h.bel.trans (hb.mono h.bel.size)⟩
theorem Keeps.turn {K' : Nat → Prop} {ol' : List Rw} {tw' : Option (ByteArray × ByteArray)} (h : Keeps Obj p w0 wl ol tw K wa wc w) (ht : Tab w0) (o : Obj p ol' tw' K' w') (f : FrK K K' w w') : Keeps Obj p w0 wl ol' tw' K' wa wc w' :=
  have hb := f.below h.bel h.low h.bel.size
  ⟨h.rows.frk f fun b off e => (h.off b off e).1, o, f.ge h.low h.bel.size, fun b off e => ⟨fun hk => by
    rcases f.new b hk with g | g
    · exact (h.off b off e).1 g
    · have := (h.off b off e).2; omega, Nat.lt_of_lt_of_le (h.off b off e).2 f.size⟩, ht.below hb ht.pos, hb⟩
theorem Keeps.swap (S : Store Obj) {wl' : List Rw} {a' : Option Addr} {c' : Nat} (h : Keeps Obj p w0 wl ol tw K wa wc w) (hr : IsRw w' a' wl'.length c' wl') (hb : Below w.heap.size w w') (hn : ∀ b off, a' = some ⟨b, off, none⟩ → w.heap.size ≤ b ∧ b < w'.heap.size) : Keeps Obj p w0 wl' ol tw K a' c' w' :=
  have g := h.below S hb
  ⟨hr, g.obj, g.low, fun b off e => ⟨fun hk => by have := S.lt h.obj b hk; have := (hn b off e).1; omega, (hn b off e).2⟩, g.tab, g.bel⟩
theorem Keeps.same (S : Store Obj) {N : Nat} (h : Keeps Obj p w0 wl wl tw K wa wc w) (hf : Fine N wl) (hN : N ≤ 40) (ask : ByteArray) (ha : ask.size ≤ 100) :
    Calls Tryd.prog 17 #[.pointer p, .slice wa wl.length wc, .string ask] w fun e w' => e = .returned (.bool true) ∧ Below w.heap.size w w' :=
  same_any p _ wl wa wl.length wc ask w (S.reads h.obj (hf.mono hN)) ⟨h.obj, h.tab⟩ h.rows (by have := hf.len; omega) (fun x hx => (hf.row x hx).2.2.1) ha
theorem Fine.n {N : Nat} {l : List Rw} (h : Fine N l) (hN : N ≤ 40) : ∀ x ∈ l, 1 ≤ x.n ∧ x.n ≤ 1000000 := fun x hx => ⟨h.ok.n x hx, by have := (h.row x hx).1; omega⟩
/-- what came in: kinds, epochs, texts, as rows -/
theorem info_ac : (Tryd.prog.info? 28).map (·.size) = some 3 := by kernel_rfl
theorem op_load_ac {ev : Operand → Value} {o : Oper} {w : World} {b off : Nat} {x : Rw} (c0 : w.cell? ⟨b, off, none⟩ = some (.int .i64 x.e)) (c1 : w.cell? ⟨b, off + 1, none⟩ = some (.int .i64 x.n)) (c2 : w.cell? ⟨b, off + 2, none⟩ = some (.string x.s))
    (ho : ∃ y, o.op = .load 28 y ∧ ev y = .pointer (some ⟨b, off, none⟩)) : (execOp ev o).run Tryd.prog w = .ok (.value (.agg (rwA x))) w := by
  obtain ⟨y, ho, hx⟩ := ho
  have hl := run_loadAt_mid (P := Tryd.prog) w b off 28 (rwC x) _ (fun i v hv => by
    match i, hv with
    | 0, hv => exact c0.trans hv
    | 1, hv => exact c1.trans hv
    | 2, hv => exact c2.trans hv) Tryd.underlying28 rfl (by rw [info_ac]; rfl)
  unfold execOp
  simp only [ho, hx, Sem.run_bind, Sem.run_pure, Result.andThen_ok, hl]
  rfl
theorem run_alloc_ac (ev : Operand → Value) (o : Oper) (w : World) (b : Nat) (hb : b = w.heap.size) (ho : o.op = .alloc 28) : (execOp ev o).run Tryd.prog w = .ok (.value (.pointer (some ⟨b, 0, none⟩))) (w.alloc (.cells (rwA rw0) 28)) := by
  subst hb
  unfold execOp
  rw [ho]
  kernel_rfl
theorem wpl_store_ac {ops : Array Oper} {rest : List Oper} {o : Oper} {act : Go.Act} {w : World} {Q : Exit → Go.Act → World → Prop} {b : Nat} {x : Rw} (h : Rg.Own w b (rwA x) 28) (y : Rw)
    (hgd : o.guard = none) (p q : Operand) (ho : o.op = .store 28 p q) (hx : act.eval p = .pointer (some ⟨b, 0, none⟩)) (hy : act.eval q = .agg (rwA y)) (hd : o.dst = none)
    (hQ : ∀ w', Rg.Own w' b (rwA y) 28 → Rg.Upd w b w' → wpList Tryd.prog ops Q rest act w') : wpList Tryd.prog ops Q (o :: rest) act w :=
  wpList_store_rowTo hgd 28 p q ho hd b _ hx hy 28 _ h.2 info_ac rfl (by simp [rwA, Value.oneCell']) (hQ _ ⟨by simp; exact h.1, setRow_heap _ _ _ _ _ _ h.2⟩ (Rg.Upd.set _ _ _))
/-- the box with the act in hand -/
structure Box (w : World) (g : Nat) (x : Rw) : Prop where
  o : Rg.Own w g (rwA x) 28
theorem Box.c0 {g : Nat} {x : Rw} (h : Box w g x) : w.cell? ⟨g, 0, none⟩ = some (.int .i64 x.e) := own_at h.o rfl
theorem Box.c1 {g : Nat} {x : Rw} (h : Box w g x) : w.cell? ⟨g, 1, none⟩ = some (.int .i64 x.n) := own_at h.o rfl
theorem Box.c2 {g : Nat} {x : Rw} (h : Box w g x) : w.cell? ⟨g, 2, none⟩ = some (.string x.s) := own_at h.o rfl
theorem Box.below {g : Nat} {x : Rw} (h : Box w g x) (hb : Below w.heap.size w w') : Box w' g x := ⟨h.o.below hb⟩
theorem Box.frk {K K' : Nat → Prop} {g : Nat} {x : Rw} (h : Box w g x) (f : FrK K K' w w') (hg : ¬ K g) : Box w' g x := ⟨own_frk h.o f hg⟩
end Bd
end Go.Proofs.YtlembfhdljmcoaaDoor
