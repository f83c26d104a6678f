/-
 Stages of a call that makes trees: what is known of the parts, of boxes, of rows, one step behind the other.
-/
import Derived.Test.YtooklabipgmolaaGreatDoorMr16
import Derived.Laws.MakeOwn
import Derived.Test.YtooklabipgmolaaGreatDoorMr7
import Derived.Test.YtooklabipgmolaaGreatDoorMr11
import Derived.Laws.Cover3
import Derived.Laws.Rows
import Derived.Laws.ResultCell
import Derived.Laws.Tables
import Derived.Laws.Slices
import Derived.Lib.ConvBytes
import Derived.Great.BuildSlice
import Derived.Test.YtooklabipgmolaaGreatDoorMr8
import Derived.Laws.StructEq
import Derived.ChangeKeysEq
import Derived.Maps.AppendAt
import Derived.Test.YtooklabipgmolaaGreatDoorMr5
import Derived.Test.YtooklabipgmolaaGreatDoorMr3
open Go.Lib (hid)
set_option linter.unusedSimpArgs false
set_option linter.unusedVariables false
set_option maxHeartbeats 40000000
set_option maxRecDepth 100000
namespace Go.Proofs.YtooklabipgmolaaGreatDoor
section
open Go.RowKit
namespace Tm
open Tr Ni Pk
structure St (M : Mp) (w : World) (M' : Mp) (w' : World) : Prop where
 f : Fr M M' w w'
 i : Inv M' w'
 b : Below w.heap.size w w'
 i0 : Inv M w
theorem St.refl {M : Mp} {w : World} (hi : Inv M w) : St M w M w := ⟨Fr.refl _ _, hi, Below.refl _ _, hi⟩
theorem St.below {M M1 : Mp} {w w1 w2 : World} (s : St M w M1 w1) (h : Below w1.heap.size w1 w2) : St M w M1 w2 := ⟨s.f.trans s.i0 (Fr.below M1 h), s.i.below h, bst s.b h, s.i0⟩
theorem St.got {M M1 : Mp} {w w1 w2 : World} {t : T} {e : Ending} (s : St M w M1 w1) (h : GotT M1 w1 t e w2) : ∃ p M2, e = .returned (tv p) ∧ IsT M2 p t ∧ St M w M2 w2 ∧ Fr M1 M2 w1 w2 ∧ Below w1.heap.size w1 w2 := by
 obtain ⟨p, M2, he, ht, f, i, b⟩ := h
 exact ⟨p, M2, he, ht, ⟨s.f.trans s.i0 f, i, bst s.b b, s.i0⟩, f, b⟩
theorem St.upd {M M1 : Mp} {w w1 w2 : World} {g : Nat} (s : St M w M1 w1) (hu : Rg.Upd w1 g w2) (hg : w.heap.size ≤ g) (hf : ¬ M1.ft g) : St M w M1 w2 := ⟨s.f.upd hu hg, s.i.upd hu hf, hu.below s.b hg, s.i0⟩
theorem St.plus {M M1 : Mp} {w w1 : World} (s : St M w M1 w1) {S : Nat → Prop} (hS : ∀ k, S k → (w.heap.size ≤ k ∨ HasByte w k) ∧ k < w1.heap.size) : St M w (Tm.plus M1 S) w1 := ⟨s.f.plus fun k hk => (hS k hk).1, s.i.plus fun k hk => (hS k hk).2, s.b, s.i0⟩
theorem St.bytes {M M1 : Mp} {w w1 : World} (s : St M w M1 w1) {a : Option Addr} {n c : Nat} {l : List UInt8} (h : IsBs w1 a n c l) : St M w (Tm.plus M1 (inS a n)) w1 := s.plus fun k hk => ⟨by
  obtain ⟨⟨j, x, hc⟩, _⟩ := inS_byte h hk
  exact HasByte.below ⟨j, x, hc⟩ s.b, (inS_byte h hk).2⟩
structure Bx (M : Mp) (w : World) (g : Nat) (cs : Array Value) (t : TypeId) : Prop where
 o : Rg.Own w g cs t
 n : ¬ M.ft g
 h : ∀ (j : Nat) (x : Int), cs[j]? ≠ some (Value.int .u8 x)
theorem Bx.got {M M' : Mp} {w w' : World} {g : Nat} {cs : Array Value} {t : TypeId} (h : Bx M w g cs t) (f : Fr M M' w w') (b : Below w.heap.size w w') : Bx M' w' g cs t := ⟨h.o.below b, f.box h.n h.o.1 (no_byte h.o h.h), h.h⟩
theorem Bx.upd {M : Mp} {w w' : World} {g b : Nat} {cs : Array Value} {t : TypeId} (h : Bx M w g cs t) (hu : Rg.Upd w b w') (hne : g ≠ b) : Bx M w' g cs t := ⟨h.o.upd hu hne, h.n, h.h⟩
theorem Bx.below {M : Mp} {w w' : World} {g : Nat} {cs : Array Value} {t : TypeId} (h : Bx M w g cs t) (b : Below w.heap.size w w') : Bx M w' g cs t := ⟨h.o.below b, h.n, h.h⟩
theorem Bx.plus {M : Mp} {w : World} {g : Nat} {cs : Array Value} {t : TypeId} (h : Bx M w g cs t) {S : Nat → Prop} (hS : ¬ S g) : Bx (Tm.plus M S) w g cs t := ⟨h.o, fun e => e.elim h.n hS, h.h⟩
structure Rx (M : Mp) (w : World) (g : Nat) (ps : List (Option Addr)) : Prop where
 o : Rg.Own w g (rowT ps) 26
 n : ¬ M.ft g
 m : ps.length ≤ maxLen
theorem row_no (ps : List (Option Addr)) : ∀ (j : Nat) (x : Int), (rowT ps)[j]? ≠ some (Value.int .u8 x) := fun j x h => by
 simp [rowT] at h
theorem Rx.got {M M' : Mp} {w w' : World} {g : Nat} {ps : List (Option Addr)} (h : Rx M w g ps) (f : Fr M M' w w') (b : Below w.heap.size w w') : Rx M' w' g ps := ⟨h.o.below b, f.box h.n h.o.1 (no_byte h.o (row_no ps)), h.m⟩
theorem Rx.below {M : Mp} {w w' : World} {g : Nat} {ps : List (Option Addr)} (h : Rx M w g ps) (b : Below w.heap.size w w') : Rx M w' g ps := ⟨h.o.below b, h.n, h.m⟩
theorem rowT_set (ps : List (Option Addr)) (i : Nat) (p : Option Addr) : (rowT ps).setIfInBounds i (.pointer p) = rowT (ps.set i p) := by
 unfold rowT
 rw [List.map_set]
 simp
theorem Rx.ks {M : Mp} {w : World} {g : Nat} {ps : List (Option Addr)} {l : List T} (h : Rx M w g ps) (ha : Are M ps l) : Ks (Tm.plus M (fun k => k = g)) w (some ⟨g, 0, none⟩) ps.length ps.length l := by
 refine ⟨Nat.le_refl _, h.m, ha.1.symm, fun e => (by cases e), fun j hj => ⟨g, 0, _, rfl, h.o.1, Or.inr rfl, ?_, isT_plus (ha.2 j hj)⟩⟩
 rw [Nat.zero_add, cell_of_row w g _ _ _ _ h.o.2]
 simp [rowT, List.getD, hj]
theorem meet_store_rx {o : Oper} {a : Act} {M : Mp} {w : World} {K : Act → World → Prop} {Q : Exit → Act → World → Prop} {ops : Array Oper} (hw : Region.wanted o (yielded ops a.tmps) = true) {g i : Nat} {ps : List (Option Addr)} (h : Rx M w g ps) (hof : i < ps.length) (p : Option Addr)
  (ho : ∃ x y, o.op = .store 26 x y ∧ a.eval x = .pointer (some ⟨g, i, none⟩) ∧ a.eval y = tv p)
  (hQ : ∀ w', Rx M w' g (ps.set i p) → Rg.Upd w g w' → K (a.put o.dst undef) w') : if Region.wanted o (yielded ops a.tmps) = true then Oper.wp Tryz.prog o a w K Q else K (a.put o.dst undef) w :=
 meet_store_tree hw h.o (off := i) (by simpa [rowT] using hof) p ho (fun w' hO' hu => hQ w' ⟨by rw [← rowT_set]; exact hO', h.n, by simpa using h.m⟩ hu)
def nils : List (Option Addr) := List.replicate 16 none
theorem nils_length : nils.length = 16 := rfl
theorem op_make16 {ev : Operand → Value} {o : Oper} {w : World} (b : Nat) (hb : b = w.heap.size) (ho : ∃ x y, o.op = .makeSlice 85 x y ∧ ev x = .int .i64 16 ∧ ev y = .int .i64 16) :
  (execOp ev o).run Tryz.prog w = .ok (.value (.slice (some ⟨b, 0, none⟩) 16 16)) (w.alloc (.cells (rowT nils) 26)) := by
 obtain ⟨x, y, ho, hx, hy⟩ := ho
 subst hb
 unfold execOp
 rw [ho]
 dsimp only
 rw [hx, hy]
 kernel_rfl
theorem nils_getD (j : Nat) : nils.getD j none = none := by
 unfold nils
 rw [List.getD_eq_getElem?_getD, List.getElem?_replicate]
 split <;> rfl
theorem nilsT_getD (j : Nat) : (List.replicate 16 T.nil).getD j T.nil = T.nil := by
 rw [List.getD_eq_getElem?_getD, List.getElem?_replicate]
 split <;> rfl
theorem are_nils (M : Mp) : Are M nils (List.replicate 16 .nil) := ⟨rfl, fun j hj => by rw [nils_getD, nilsT_getD]; exact rfl⟩
theorem two_set (i j : Fin 16) (a b : T) (hij : i ≠ j) : ((List.replicate 16 T.nil).set i.val a).set j.val b = partsT (two i j a b) := by
 have e : List.replicate 16 T.nil = partsT (.br fun _ => .nil) := by
  show List.replicate 16 T.nil = (List.finRange 16).map (fun _ => T.nil)
  rfl
 rw [e, parts_set, parts_set]
 unfold two
 congr 2
 funext k
 by_cases h1 : k = j
 ·subst h1
  rw [if_pos rfl, if_neg (fun e => hij e.symm), if_pos rfl]
 ·rw [if_neg h1, if_neg h1]
structure Bo (g : Nat) (w w' : World) : Prop where
 size : w.heap.size ≤ w'.heap.size
 block : ∀ k, k < w.heap.size → k ≠ g → w'.heap[k]? = w.heap[k]?
 os : w'.os = w.os
 tape : w'.tape = w.tape
 output : w'.output = w.output
theorem Bo.of {g : Nat} {w w' : World} (h : Below w.heap.size w w') : Bo g w w' := ⟨h.size, fun k hk _ => h.block k hk, h.os, h.tape, h.output⟩
theorem Bo.then {g : Nat} {w w1 w2 : World} (h : Bo g w w1) (hb : Below w1.heap.size w1 w2) : Bo g w w2 := ⟨Nat.le_trans h.size hb.size, fun k hk hg => (hb.block k (Nat.lt_of_lt_of_le hk h.size)).trans (h.block k hk hg), hb.os.trans h.os, hb.tape.trans h.tape, hb.output.trans h.output⟩
theorem Bo.upd {g : Nat} {w w1 w2 : World} (h : Bo g w w1) (hu : Rg.Upd w1 g w2) : Bo g w w2 := ⟨by rw [hu.size]; exact h.size, fun k hk hg => (hu.block k hg).trans (h.block k hk hg), hu.os.trans h.os, hu.tape.trans h.tape, hu.output.trans h.output⟩
theorem Bo.below {g B : Nat} {w0 w w' : World} (h : Bo g w w') (hb : Below B w0 w) (hB : B ≤ w.heap.size) (hg : B ≤ g) : Below B w0 w' := ⟨h.os.trans hb.os, h.tape.trans hb.tape, h.output.trans hb.output, Nat.le_trans hb.size h.size, fun k hk => (h.block k (by omega) (by omega)).trans (hb.block k hk)⟩
theorem cell_bo {g : Nat} {w w' : World} (h : Bo g w w') {b o : Nat} {v : Value} (hne : b ≠ g) (hc : w.cell? ⟨b, o, none⟩ = some v) : w'.cell? ⟨b, o, none⟩ = some v := by
 rw [← hc]
 exact World.cell?_of_block (w := w) (h.block b (World.block_lt_of_cell? w _ hc) hne)
end Tm
end
section
open Go.RowKit
namespace Ky
open Ni
def kc (k : List UInt8) : Array Value := (k.map fun b => Value.int .u8 b.toNat).toArray
theorem kc_size (k : List UInt8) : (kc k).size = k.length := by simp [kc]
theorem info_key : (Tryz.prog.info? 45).map (·.size) = some 32 := by kernel_rfl
theorem info_kc (k : List UInt8) (h : k.length = 32) : (Tryz.prog.info? 45).map (·.size) = some (kc k).size := by rw [kc_size, h]; exact info_key
def pathK (k : List UInt8) : List UInt8 := Ni.nibsL ⟨k.toArray⟩
theorem path_any (k : List UInt8) (hk : k.length = 32) (w : World) :
  Calls Tryz.prog 38 #[.agg (kc k)] w (GotBs w (pathK k)) := by
 have h0 : IsBs (w.alloc (.cells (kc k) 45)) (some ⟨w.heap.size, 0, none⟩) k.length k.length k := IsBs.new w k (by unfold maxLen; omega) _ _ rfl
 rw [hk] at h0
 have hcv := conv_bs h0
 obtain ⟨s, hs⟩ : ∃ s, (⟨k.toArray⟩ : ByteArray) = s := ⟨_, rfl⟩
 have hsz : s.size = 32 := by rw [← hs]; show k.toArray.size = 32; simp [hk]
 have HP : Hid (pathK k = Ni.nibsL s) := hid (by unfold pathK; rw [hs])
 have HSp := hid (fun wx => Ni.spread_any s (by omega) wx)
 rw [hs] at hcv
 obtain ⟨C, hC⟩ : ∃ C, kc k = C := ⟨_, rfl⟩
 rw [hC] at hcv ⊢
 clear h0 hs hC hsz hk
 go_enter Tryz.func38, Tryz.ntmps38
 go_wp2_with fail
 refine (HSp.out _).mono ?_
 rintro e w1 ⟨a, n, cap, rfl, hx, hb⟩
 go_wp2
 go_ret
 exact ⟨a, n, cap, rfl, by rw [HP.out]; exact hx, ((Below.refl w.heap.size w).alloc (Nat.le_refl _) _).trans (hb.mono (by simp))⟩
def zk : List UInt8 := List.replicate 32 0
theorem run_alloc_key (ev : Operand → Value) (o : Oper) (ho : o.op = .alloc 45) (w : World) :
  (execOp ev o).run Tryz.prog w = .ok (.value (.pointer (some ⟨w.heap.size, 0, none⟩))) (w.alloc (.cells (kc zk) 45)) := by
 unfold execOp
 rw [ho]
 kernel_rfl
theorem zk_size : (kc zk).size = 32 := by rw [kc_size]; rfl
end Ky
end
section
open Go.RowKit
namespace Ky
open Ni
end Ky
end
section
open Go.RowKit
namespace Ky
open Ni
theorem pathK_length (k : List UInt8) (hk : k.length = 32) : (pathK k).length = 64 := by
 unfold pathK
 rw [nibsL_length]
 show 2 * k.toArray.size = 64
 simp [hk]
def pc (k : List UInt8) (j : Nat) : List Value := ((pathK k).take j).map fun x => Value.int .u8 x.toNat
theorem pc_snoc (k : List UInt8) (hk : k.length = 32) (j : Nat) (hj : j < 64) (V : Int) (hV : V = (nibAt ⟨k.toArray⟩ j : Nat)) : pc k (j + 1) = pc k j ++ [.int .u8 V] := by
 unfold pc
 rw [take_snoc_getD _ _ (by rw [pathK_length k hk]; exact hj), List.map_append, List.map_cons, List.map_nil]
 have : ((pathK k).getD j 0).toNat = nibAt ⟨k.toArray⟩ j := nibsL_getD _ _ (by show j < 2 * k.toArray.size; simp [hk]; omega)
 rw [this, hV]
theorem nib_even (k : List UInt8) (j : Nat) (h : j % 2 = 0) : nibAt ⟨k.toArray⟩ j = (k.getD (j / 2) 0).toNat / 16 := by unfold nibAt; rw [if_pos h]
theorem nib_odd (k : List UInt8) (j : Nat) (h : ¬ j % 2 = 0) : nibAt ⟨k.toArray⟩ j = (k.getD (j / 2) 0).toNat % 16 := by unfold nibAt; rw [if_neg h]
end Ky
end
section
open Go.RowKit
namespace Ky
open Ni
theorem part_byte (k : List UInt8) (i : Nat) (hi : i < k.length) (w : World) : (part 5 (kc k) i).run Tryz.prog w = .ok (.int .u8 (k.getD i 0).toNat) w := by
 have hagg : (isAgg 5).run Tryz.prog w = .ok false w := by
  unfold isAgg
  rw [Sem.run_bind, run_underlying Tryz.underlying5 w]
  simp
 have hg : (kc k)[i]? = some (.int .u8 (k.getD i 0).toNat) := by simp [kc, List.getD, hi]
 unfold part
 rw [Sem.run_bind, hagg]
 simp [hg]
theorem cells_u8 : Tryz.prog.cellsOf 5 = 1 := by kernel_rfl
theorem guard_key : Tryz.prog.eqGuardType Tryz.prog.depth 45 = false := by kernel_rfl
theorem run_load_op (ev : Operand → Value) (o : Oper) (x : Operand) (w : World) (g : Nat) (l : List UInt8) (ho : o.op = .load 45 x) (hx : ev x = .pointer (some ⟨g, 0, none⟩)) (hr : (loadVar 45 ⟨g, 0, none⟩).run Tryz.prog w = .ok (.agg (kc l)) w) :
  (execOp ev o).run Tryz.prog w = .ok (.value (.agg (kc l))) w := by
 unfold execOp
 simp only [ho, hx, Instr.loadAt, Instr.sureAddr, Sem.run_bind, Sem.run_pure, Result.andThen_ok, hr]
theorem load_block (w : World) (g : Nat) (l : List UInt8) (hl : l.length = 32) (hg : w.heap[g]? = some (.cells (kc l) 45 (0, 0))) : (loadVar 45 ⟨g, 0, none⟩).run Tryz.prog w = .ok (.agg (kc l)) w :=
 run_loadVar_row (P := Tryz.prog) w g 45 45 (kc l) (0, 0) _ hg Tryz.underlying45 rfl (info_kc l hl)
end Ky
end
section
open Go.RowKit
namespace Tm
open Tr Ni Pk
theorem load_str {w : World} {b : Nat} {o : Nat} {x : ByteArray} (h : w.cell? ⟨b, o, none⟩ = some (.string x)) : (Instr.loadAt 9 (.pointer (some ⟨b, o, none⟩))).run Tryz.prog w = .ok (.string x) w := by
 simp [go_sem, h]
theorem op_load_str {ev : Operand → Value} {o : Oper} {w : World} {b off : Nat} {s : ByteArray} (hc : w.cell? ⟨b, off, none⟩ = some (.string s)) (ho : ∃ x, o.op = .load 9 x ∧ ev x = .pointer (some ⟨b, off, none⟩)) :
  (execOp ev o).run Tryz.prog w = .ok (.value (.string s)) w := by
 obtain ⟨x, ho, hx⟩ := ho
 unfold execOp
 simp only [ho, hx, Sem.run_bind, Sem.run_pure, Result.andThen_ok, load_str hc]
theorem op_load_key {ev : Operand → Value} {o : Oper} {w : World} {g : Nat} {k : List UInt8} (hk : k.length = 32) (hg : w.heap[g]? = some (.cells (Ky.kc k) 45 (0, 0))) (ho : ∃ x, o.op = .load 45 x ∧ ev x = .pointer (some ⟨g, 0, none⟩)) :
  (execOp ev o).run Tryz.prog w = .ok (.value (.agg (Ky.kc k))) w := by
 obtain ⟨x, ho, hx⟩ := ho
 exact Ky.run_load_op ev o x w g k ho hx (Ky.load_block w g k hk hg)
theorem own_bo {g b : Nat} {w w' : World} {cs : Array Value} {t : TypeId} (h : Bo g w w') (hO : Rg.Own w b cs t) (hne : b ≠ g) : Rg.Own w' b cs t := ⟨Nat.lt_of_lt_of_le hO.1 h.size, (h.block b hO.1 hne).trans hO.2⟩
end Tm
end
section
open Go.RowKit
namespace Tm
open Tr Ni Pk Ky
def pairC (x : Tr.Pair) : List Value := (x.1.map fun b => Value.int .u8 b.toNat) ++ [.string x.2]
def pairA (x : Tr.Pair) : Array Value := (pairC x).toArray
theorem pairC_len {x : Tr.Pair} (h : x.1.length = 32) : (pairC x).length = 33 := by simp [pairC, h]
theorem pairC_one (x : Tr.Pair) : ∀ u ∈ pairC x, u.oneCell' = true := fun u hu => by
 unfold pairC at hu
 rw [List.mem_append] at hu
 rcases hu with hu | hu
 ·obtain ⟨b, _, rfl⟩ := List.mem_map.1 hu
  rfl
 ·obtain rfl := List.mem_singleton.1 hu
  rfl
theorem info_pair : (Tryz.prog.info? 47).map (fun i => (i.size, i.bytes)) = some (33, 48) := by kernel_rfl
theorem info_pair_zero : ((Tryz.prog.info? 47).bind (·.zero)).isSome = true := by kernel_rfl
theorem info_pair_cells : ((Tryz.prog.info? 47).bind (·.zero)).map (·.cells.size) = some 33 := by kernel_rfl
theorem info_pair_parts : ∃ i z, Tryz.prog.info? 47 = some i ∧ i.zero = some z ∧ i.size = 33 ∧ i.bytes = 48 ∧ z.cells.size = 33 := by
 have h1 := info_pair
 have h2 := info_pair_zero
 have h3 := info_pair_cells
 cases hi : Tryz.prog.info? 47 with
 | none => rw [hi] at h1; simp at h1
 | some i =>
  rw [hi] at h1 h2 h3
  simp at h1 h2 h3
  cases hz : i.zero with
  | none => rw [hz] at h2; simp at h2
  | some z =>
   rw [hz] at h3
   simp at h3
   exact ⟨i, z, rfl, hz, h1.1, h1.2, h3⟩
def PairAt (w : World) (b o : Nat) (x : Tr.Pair) : Prop := w.rangeAt b o (pairC x)
theorem PairAt.below {w w' : World} {b o : Nat} {x : Tr.Pair} (h : PairAt w b o x) (hb : Below w.heap.size w w') : PairAt w' b o x := fun j v hv => cell_on hb (h j v hv)
theorem PairAt.key {w : World} {b o : Nat} {x : Tr.Pair} (h : PairAt w b o x) : w.rangeAt b o (x.1.map fun b => Value.int .u8 b.toNat) := fun j v hv => h j v (by
 unfold pairC
 have := (List.getElem?_eq_some_iff.1 hv).1
 rw [List.getElem?_append_left this]; exact hv)
theorem PairAt.val {w : World} {b o : Nat} {x : Tr.Pair} (h : PairAt w b o x) (hk : x.1.length = 32) : w.cell? ⟨b, o + 32, none⟩ = some (.string x.2) := h 32 _ (by
 unfold pairC
 rw [List.getElem?_append_right (by simp [hk])]
 simp [hk])
theorem PairAt.own {w : World} {b : Nat} {x : Tr.Pair} {t : TypeId} (h : Rg.Own w b (pairA x) t) : PairAt w b 0 x := fun j v hv => by
 rw [Nat.zero_add]
 exact own_cell h (by unfold pairA; simpa using hv)
theorem op_load_pair {ev : Operand → Value} {o : Oper} {w : World} {b off : Nat} {x : Tr.Pair} (hk : x.1.length = 32) (h : PairAt w b off x) (ho : ∃ y, o.op = .load 47 y ∧ ev y = .pointer (some ⟨b, off, none⟩)) :
  (execOp ev o).run Tryz.prog w = .ok (.value (.agg (pairA x))) w := by
 obtain ⟨y, ho, hx⟩ := ho
 have hl := run_loadAt_mid (P := Tryz.prog) w b off 47 (pairC x) _ h Tryz.underlying47 rfl (by
  have := info_pair
  rw [pairC_len hk]
  cases hi : Tryz.prog.info? 47 with
  | none => rw [hi] at this; simp at this
  | some i => rw [hi] at this; simp at this; simp [this.1])
 unfold execOp
 simp only [ho, hx, Sem.run_bind, Sem.run_pure, Result.andThen_ok, hl]
 rfl
theorem op_load_key_mid {ev : Operand → Value} {o : Oper} {w : World} {b off : Nat} {k : List UInt8} (hk : k.length = 32) (h : w.rangeAt b off (k.map fun b => Value.int .u8 b.toNat)) (ho : ∃ y, o.op = .load 45 y ∧ ev y = .pointer (some ⟨b, off, none⟩)) :
  (execOp ev o).run Tryz.prog w = .ok (.value (.agg (kc k))) w := by
 obtain ⟨y, ho, hx⟩ := ho
 have hl := run_loadAt_mid (P := Tryz.prog) w b off 45 (k.map fun b => Value.int .u8 b.toNat) _ h Tryz.underlying45 rfl (by rw [info_key]; simp [hk])
 unfold execOp
 simp only [ho, hx, Sem.run_bind, Sem.run_pure, Result.andThen_ok, hl]
 rfl
theorem thirtytwo {α : Type} (l : List α) (h : l.length = 32) : ∃ a0 a1 a2 a3 a4 a5 a6 a7 b0 b1 b2 b3 b4 b5 b6 b7 c0 c1 c2 c3 c4 c5 c6 c7 d0 d1 d2 d3 d4 d5 d6 d7, l = [a0, a1, a2, a3, a4, a5, a6, a7, b0, b1, b2, b3, b4, b5, b6, b7, c0, c1, c2, c3, c4, c5, c6, c7, d0, d1, d2, d3, d4, d5, d6, d7] := by
 match l, h with
 | [a0, a1, a2, a3, a4, a5, a6, a7, b0, b1, b2, b3, b4, b5, b6, b7, c0, c1, c2, c3, c4, c5, c6, c7, d0, d1, d2, d3, d4, d5, d6, d7], _ => exact ⟨_, _, _, _, _, _, _, _, _, _, _, _, _, _, _, _, _, _, _, _, _, _, _, _, _, _, _, _, _, _, _, _, rfl⟩
theorem built_pair (k : List UInt8) (v : ByteArray) (h : k.length = 32) : Tryz.prog.built 47 [(0, .agg (kc k)), (1, .string v)] = some (pairA (k, v)) := by
 obtain ⟨a0, a1, a2, a3, a4, a5, a6, a7, b0, b1, b2, b3, b4, b5, b6, b7, c0, c1, c2, c3, c4, c5, c6, c7, d0, d1, d2, d3, d4, d5, d6, d7, rfl⟩ := thirtytwo k h
 kernel_rfl
theorem op_lit_pair {ev : Operand → Value} {o : Oper} {w : World} {x : Tr.Pair} (hk : x.1.length = 32) (b : Nat) (hb : b = w.heap.size) (ho : ∃ y, o.op = .buildSlice 22 1 #[(0, y)] ∧ ev y = .agg (pairA x)) :
  (execOp ev o).run Tryz.prog w = .ok (.value (.slice (some ⟨b, 0, none⟩) 1 1)) (w.alloc (.cells (pairA x) 47)) := by
 obtain ⟨y, ho, hx⟩ := ho
 obtain ⟨k, v⟩ := x
 subst hb
 unfold execOp
 simp only [ho, List.map_toArray, List.map_cons, List.map_nil, hx]
 obtain ⟨a0, a1, a2, a3, a4, a5, a6, a7, b0, b1, b2, b3, b4, b5, b6, b7, c0, c1, c2, c3, c4, c5, c6, c7, d0, d1, d2, d3, d4, d5, d6, d7, rfl⟩ := thirtytwo k hk
 kernel_rfl
def IsPs (w : World) (a : Option Addr) (n c : Nat) (l : List Tr.Pair) : Prop :=
 n ≤ c ∧ c ≤ maxLen ∧ l.length = n ∧ (a = none → c = 0) ∧ (∀ x ∈ l, x.1.length = 32) ∧ ∀ j, j < n → ∃ b off, a = some ⟨b, off, none⟩ ∧ b < w.heap.size ∧ PairAt w b (off + j * 33) (l.getD j ([], eB))
theorem IsPs.len {w : World} {a : Option Addr} {n c : Nat} {l : List Tr.Pair} (h : IsPs w a n c l) : l.length = n := h.2.2.1
theorem IsPs.keys {w : World} {a : Option Addr} {n c : Nat} {l : List Tr.Pair} (h : IsPs w a n c l) : ∀ x ∈ l, x.1.length = 32 := h.2.2.2.2.1
theorem IsPs.at' {w : World} {a : Option Addr} {n c : Nat} {l : List Tr.Pair} (h : IsPs w a n c l) (j : Nat) (hj : j < n) : ∃ b off, a = some ⟨b, off, none⟩ ∧ b < w.heap.size ∧ PairAt w b (off + j * 33) (l.getD j ([], eB)) ∧ (l.getD j ([], eB)).1.length = 32 := by
 obtain ⟨b, off, e, hlt, hp⟩ := h.2.2.2.2.2 j hj
 refine ⟨b, off, e, hlt, hp, h.keys _ ?_⟩
 have hl := h.len
 rw [List.getD_eq_getElem?_getD, List.getElem?_eq_getElem (by omega)]
 exact List.getElem_mem _
theorem IsPs.below {w w' : World} {a : Option Addr} {n c : Nat} {l : List Tr.Pair} (h : IsPs w a n c l) (hb : Below w.heap.size w w') : IsPs w' a n c l :=
 ⟨h.1, h.2.1, h.2.2.1, h.2.2.2.1, h.2.2.2.2.1, fun j hj => by
  obtain ⟨b, off, e, hlt, hp⟩ := h.2.2.2.2.2 j hj
  exact ⟨b, off, e, Nat.lt_of_lt_of_le hlt hb.size, hp.below hb⟩⟩
theorem IsPs.nil (w : World) : IsPs w none 0 0 [] := ⟨Nat.le_refl _, Nat.zero_le _, rfl, fun _ => rfl, fun _ h => (by cases h), fun _ h => absurd h (Nat.not_lt_zero _)⟩
def rowP (l : List Tr.Pair) : List Value := l.flatMap pairC
theorem rowP_snoc (l : List Tr.Pair) (x : Tr.Pair) : rowP (l ++ [x]) = rowP l ++ pairC x := by simp [rowP]
theorem rowP_at : ∀ (l : List Tr.Pair), (∀ x ∈ l, x.1.length = 32) → ∀ j i, j < l.length → i < 33 → (rowP l)[j * 33 + i]? = (pairC (l.getD j ([], eB)))[i]?
 | [], _, _, _, h, _ => absurd h (Nat.not_lt_zero _)
 | x :: l, h, 0, i, _, hi => by
  show (pairC x ++ rowP l)[0 * 33 + i]? = _
  rw [Nat.zero_mul, Nat.zero_add, List.getElem?_append_left (by rw [pairC_len (h x List.mem_cons_self)]; exact hi)]
  rfl
 | x :: l, h, j + 1, i, hj, hi => by
  show (pairC x ++ rowP l)[(j + 1) * 33 + i]? = _
  have hx := pairC_len (h x List.mem_cons_self)
  rw [List.getElem?_append_right (by omega), hx, show (j + 1) * 33 + i - 33 = j * 33 + i by omega, rowP_at l (fun y hy => h y (List.mem_cons_of_mem _ hy)) j i (by simpa using hj) hi]
  rfl
theorem IsPs.ofOwn {w : World} {B : Nat} {v : Value} {n : Nat} {l : List Tr.Pair} (hk : ∀ x ∈ l, x.1.length = 32) (hl : l.length = n) (h : w.ownsRow B 47 33 v n (rowP l)) : ∃ a cap, v = .slice a n cap ∧ IsPs w a n cap l := by
 rcases h.2 with ⟨rfl, hz⟩ | ⟨g, cap, cur, rfl, hbg, hg, hnc, hcm, hcs, htake⟩
 ·subst hz
  obtain rfl : l = [] := List.eq_nil_of_length_eq_zero hl
  exact ⟨none, 0, rfl, IsPs.nil w⟩
 ·refine ⟨_, _, rfl, hnc, hcm, hl, fun e => (by cases e), hk, fun j hj => ⟨g, 0, rfl, (Array.getElem?_eq_some_iff.1 hg).1, fun i u hu => ?_⟩⟩
  have hkj : (l.getD j ([], eB)).1.length = 32 := hk _ (by
   rw [List.getD_eq_getElem?_getD, List.getElem?_eq_getElem (by omega)]
   exact List.getElem_mem _)
  have hi : i < 33 := by
   have := (List.getElem?_eq_some_iff.1 hu).1
   rwa [pairC_len hkj] at this
  have := h.cells (g := g) rfl (j * 33 + i) u (by rw [rowP_at l hk j i (by omega) hi]; exact hu)
  rw [Addr.add_mid] at this
  rw [Nat.add_assoc]
  exact this
def GotPs (w : World) (l : List Tr.Pair) (e : Ending) (w' : World) : Prop := ∃ a n c, e = .returned (.slice a n c) ∧ IsPs w' a n c l ∧ Below w.heap.size w w'
theorem run_alloc_pair (ev : Operand → Value) (o : Oper) (w : World) (b : Nat) (hb : b = w.heap.size) (ho : o.op = .alloc 47) :
  (execOp ev o).run Tryz.prog w = .ok (.value (.pointer (some ⟨b, 0, none⟩))) (w.alloc (.cells (pairA (List.replicate 32 0, eB)) 47)) := by
 subst hb
 unfold execOp
 rw [ho]
 kernel_rfl
theorem pairA_size {x : Tr.Pair} (h : x.1.length = 32) : (pairA x).size = 33 := by simp [pairA, pairC_len h]
theorem pairA_one (x : Tr.Pair) : (pairA x).all (·.oneCell') = true := by
 unfold pairA
 exact all_oneCell_toArray (pairC_one x)
theorem info_pairA {x : Tr.Pair} (h : x.1.length = 32) : (Tryz.prog.info? 47).map (·.size) = some (pairA x).size := by
 rw [pairA_size h]
 have := info_pair
 cases hi : Tryz.prog.info? 47 with
 | none => rw [hi] at this; simp at this
 | some i => rw [hi] at this; simp at this; simp [this.1]
theorem wpl_store_pair {ops : Array Oper} {rest : List Oper} {o : Oper} {act : Act} {w : World} {Q : Exit → Act → World → Prop} {b : Nat} {x : Tr.Pair} (h : Rg.Own w b (pairA x) 47) (hx : x.1.length = 32) (y : Tr.Pair) (hy : y.1.length = 32)
  (hgd : o.guard = none) (p q : Operand) (ho : o.op = .store 47 p q) (hp : act.eval p = .pointer (some ⟨b, 0, none⟩)) (hq : act.eval q = .agg (pairA y)) (hd : o.dst = none)
  (hQ : ∀ w', Rg.Own w' b (pairA y) 47 → Rg.Upd w b w' → wpList Tryz.prog ops Q rest act w') : wpList Tryz.prog ops Q (o :: rest) act w :=
 wpList_store_rowTo hgd 47 p q ho hd b _ hp hq 47 _ h.2 (info_pairA hy) (by rw [pairA_size hx, pairA_size hy]) (pairA_one _) (hQ _ ⟨by simp; exact h.1, setRow_heap _ _ _ _ _ _ h.2⟩ (Rg.Upd.set _ _ _))
theorem items_two (k l : List UInt8) (w : World) (d : Nat) : ∀ is : List Nat, (∀ i ∈ is, i < k.length ∧ i < l.length) → (Op.eqItems (d + 1) 5 1 (kc k) (kc l) is).run Tryz.prog w = .ok (is.all fun i => decide (k.getD i 0 = l.getD i 0)) w
 | [], _ => by simp [Op.eqItems]
 | i :: is, h => by
  have ih := items_two k l w d is (fun j hj => h j (List.mem_cons_of_mem _ hj))
  have hp := part_byte k i (h i (List.mem_cons_self ..)).1 w
  have hq := part_byte l i (h i (List.mem_cons_self ..)).2 w
  unfold Op.eqItems
  rw [Nat.mul_one]
  simp only [Sem.run_bind, hp, hq, Result.andThen_ok, run_equalIn_int w d 5 .u8 .u8 _ _ Tryz.underlying5]
  by_cases e : k.getD i 0 = l.getD i 0
  ·rw [List.all_cons, decide_eq_true e, Bool.true_and, e]
   simp only [beq_self_eq_true, Bool.not_true, Bool.false_eq_true, if_false]
   exact ih
  ·have hne : (((k.getD i 0).toNat : Int) == ((l.getD i 0).toNat : Int)) = false := by
    simp only [beq_eq_false_iff_ne, ne_eq]
    intro h
    exact e (UInt8.toNat_inj.1 (by omega))
   rw [List.all_cons, decide_eq_false e, Bool.false_and, hne]
   simp
theorem keys_all {k l : List UInt8} (hk : k.length = 32) (hl : l.length = 32) : ((List.range 32).all fun i => decide (k.getD i 0 = l.getD i 0)) = decide (k = l) := by
 rw [Bool.eq_iff_iff, List.all_eq_true, decide_eq_true_iff]
 constructor
 ·intro h
  apply List.ext_getElem (by omega)
  intro i h1 h2
  have := of_decide_eq_true (h i (List.mem_range.2 (by omega)))
  simpa [List.getD, h1, h2] using this
 ·rintro rfl i _
  exact decide_eq_true rfl
theorem equal_keys {k l : List UInt8} (hk : k.length = 32) (hl : l.length = 32) (w : World) : (Op.equalIn 10000 45 (.agg (kc k)) (.agg (kc l))).run Tryz.prog w = .ok (decide (k = l)) w := by
 obtain ⟨i0, hi, _⟩ := info_parts Cc.info_u8
 rw [show (10000 : Nat) = 9999 + 1 from rfl, run_equalIn_array w 9999 (kc k) (kc l) Tryz.underlying45 hi, cells_u8, items_two k l w 9998 (List.range 32) (fun i h => by rw [hk, hl]; have := List.mem_range.1 h; omega), keys_all hk hl]
theorem neq_keys {k l : List UInt8} (hk : k.length = 32) (hl : l.length = 32) (w : World) : (binOp .neq 45 (.agg (kc k)) (.agg (kc l))).run Tryz.prog w = .ok (.bool (!decide (k = l))) w := by
 rw [run_neq_struct, equal_keys hk hl w]
 rfl
theorem op_neq_keys {ev : Operand → Value} {o : Oper} {w : World} {k l : List UInt8} (hk : k.length = 32) (hl : l.length = 32) (ho : ∃ x y tt, o.op = .binOp .neq 45 x y tt ∧ ev x = .agg (kc k) ∧ ev y = .agg (kc l)) :
  (execOp ev o).run Tryz.prog w = .ok (.value (.bool (!decide (k = l)))) w := by
 obtain ⟨x, y, tt, ho, hx, hy⟩ := ho
 unfold execOp
 have hg := guard_key
 simp [ho, hx, hy, run_eqGuard_agg, hg, neq_keys hk hl, Result.andThen]
end Tm
end
section
open Go.RowKit
namespace Tm
open Tr Ni Pk
end Tm
end
section
open Go.RowKit
namespace Tm
open Tr Ni Pk
end Tm
end
section
open Go.RowKit
namespace Tm
open Tr Ni Pk Ky
theorem getD_mem {l : List Tr.Pair} {j : Nat} (h : j < l.length) : l.getD j ([], eB) ∈ l := by
 rw [List.getD_eq_getElem?_getD, List.getElem?_eq_getElem h]
 exact List.getElem_mem _
theorem drop_at {l : List Tr.Pair} {j : Nat} (h : j < l.length) : l.drop j = l.getD j ([], eB) :: l.drop (j + 1) := by
 have e : l.getD j ([], eB) = l[j] := by simp [List.getD, h]
 rw [e]
 exact (List.getElem_cons_drop h).symm
theorem take_at {l : List Tr.Pair} {j : Nat} (h : j < l.length) : l.take (j + 1) = l.take j ++ [l.getD j ([], eB)] := by
 have e : l.getD j ([], eB) = l[j] := by simp [List.getD, h]
 rw [e, List.take_succ_eq_append_getElem h]
def GotOwnP (w : World) (l : List Tr.Pair) (e : Ending) (w' : World) : Prop := ∃ v, e = .returned v ∧ w'.ownsRow w.heap.size 47 33 v l.length (rowP l) ∧ Below w.heap.size w w'
theorem GotOwnP.ps {w w' : World} {l : List Tr.Pair} {e : Ending} (hk : ∀ x ∈ l, x.1.length = 32) (h : GotOwnP w l e w') : GotPs w l e w' := by
 obtain ⟨v, rfl, ho, hb⟩ := h
 obtain ⟨a, cap, rfl, hp⟩ := IsPs.ofOwn hk rfl ho
 exact ⟨a, _, cap, rfl, hp, hb⟩
theorem own_keepN {B n sz : Nat} {w w' : World} {e : TypeId} {v : Value} {xs : List Value} (h : w.ownsRow B e sz v n xs) (hb : Below w.heap.size w w') : w'.ownsRow B e sz v n xs := h.kept (Bu.grown_below hb) (by cases v.ownBlock <;> simp)
end Tm
end
section
open Go.RowKit
namespace Tm
open Tr Ni Pk Ky
abbrev Hdl : Type := Option Addr × Nat × Nat
def inC (x : Tr.In) (h : Hdl) : List Value := [.slice h.1 h.2.1 h.2.2, .string x.2]
def inA (x : Tr.In) (h : Hdl) : Array Value := #[.slice h.1 h.2.1 h.2.2, .string x.2]
theorem info_in : (Tryz.prog.info? 54).map (fun i => (i.zero, i.size, i.bytes)) = some (some (.agg #[.slice none 0 0, .string ⟨#[]⟩]), 2, 40) := by kernel_rfl
theorem info_in_parts : ∃ i z, Tryz.prog.info? 54 = some i ∧ i.zero = some z ∧ i.size = 2 ∧ i.bytes = 40 ∧ z.cells.size = 2 := by
 obtain ⟨i0, hi, hz, hs, hby⟩ := info_parts info_in
 exact ⟨i0, _, hi, hz, hs, hby, rfl⟩
def BsP (p : Nat → Prop) (w : World) (h : Hdl) (l : List UInt8) : Prop := IsBs w h.1 h.2.1 h.2.2 l ∧ ∀ ad, h.1 = some ad → 0 < h.2.1 → p ad.block
theorem BsP.kept {p : Nat → Prop} {w w' : World} {h : Hdl} {l : List UInt8} (g : BsP p w h l) (hs : w.heap.size ≤ w'.heap.size) (hk : ∀ b, p b → b < w.heap.size → w'.heap[b]? = w.heap[b]?) : BsP p w' h l := by
 refine ⟨⟨g.1.1, g.1.2.1, g.1.2.2.1, g.1.2.2.2.1, fun j hj => ?_⟩, g.2⟩
 obtain ⟨b, off, e, hlt, hc⟩ := g.1.at' j hj
 exact ⟨b, off, e, Nat.lt_of_lt_of_le hlt hs, by rw [World.cell?_of_block (a := ⟨b, off + j, none⟩) (hk b (g.2 _ e (by omega)) hlt)]; exact hc⟩
theorem BsP.to {p q : Nat → Prop} {w : World} {h : Hdl} {l : List UInt8} (g : BsP p w h l) (hp : ∀ b, b < w.heap.size → p b → q b) : BsP q w h l := by
 refine ⟨g.1, fun ad e hn => hp _ ?_ (g.2 ad e hn)⟩
 obtain ⟨b, off, e2, hlt, _⟩ := g.1.at' 0 hn
 rw [e] at e2
 cases e2
 exact hlt
theorem BsP.old {w : World} {h : Hdl} {l : List UInt8} (g : IsBs w h.1 h.2.1 h.2.2 l) : BsP (fun b => b < w.heap.size) w h l := by
 refine ⟨g, fun ad e hn => ?_⟩
 obtain ⟨b, off, e2, hlt, _⟩ := g.at' 0 hn
 rw [e] at e2
 cases e2
 exact hlt
def InAt (w : World) (b o : Nat) (x : Tr.In) (h : Hdl) : Prop := w.cell? ⟨b, o, none⟩ = some (.slice h.1 h.2.1 h.2.2) ∧ w.cell? ⟨b, o + 1, none⟩ = some (.string x.2)
theorem InAt.below {w w' : World} {b o : Nat} {x : Tr.In} {h : Hdl} (g : InAt w b o x h) (hb : Below w.heap.size w w') : InAt w' b o x h := ⟨cell_on hb g.1, cell_on hb g.2⟩
def IsIns (w : World) (a : Option Addr) (n c : Nat) (l : List Tr.In) : Prop :=
 n ≤ c ∧ c ≤ maxLen ∧ l.length = n ∧ (a = none → c = 0) ∧ ∀ j, j < n → ∃ b off h, a = some ⟨b, off, none⟩ ∧ b < w.heap.size ∧ InAt w b (off + j * 2) (l.getD j ([], eB)) h ∧ IsBs w h.1 h.2.1 h.2.2 (l.getD j ([], eB)).1
theorem IsIns.len {w : World} {a : Option Addr} {n c : Nat} {l : List Tr.In} (h : IsIns w a n c l) : l.length = n := h.2.2.1
theorem IsIns.at' {w : World} {a : Option Addr} {n c : Nat} {l : List Tr.In} (h : IsIns w a n c l) (j : Nat) (hj : j < n) : ∃ b off h, a = some ⟨b, off, none⟩ ∧ b < w.heap.size ∧ InAt w b (off + j * 2) (l.getD j ([], eB)) h ∧ IsBs w h.1 h.2.1 h.2.2 (l.getD j ([], eB)).1 := h.2.2.2.2 j hj
theorem IsIns.below {w w' : World} {a : Option Addr} {n c : Nat} {l : List Tr.In} (h : IsIns w a n c l) (hb : Below w.heap.size w w') : IsIns w' a n c l :=
 ⟨h.1, h.2.1, h.2.2.1, h.2.2.2.1, fun j hj => by
  obtain ⟨b, off, g, e, hlt, hp, hi⟩ := h.2.2.2.2 j hj
  exact ⟨b, off, g, e, Nat.lt_of_lt_of_le hlt hb.size, hp.below hb, hi.below hb⟩⟩
theorem IsIns.nil (w : World) : IsIns w none 0 0 [] := ⟨Nat.le_refl _, Nat.zero_le _, rfl, fun _ => rfl, fun _ h => absurd h (Nat.not_lt_zero _)⟩
def flatIn : List Tr.In → List Hdl → List Value
 | x :: xs, h :: hs => .slice h.1 h.2.1 h.2.2 :: .string x.2 :: flatIn xs hs
 | _, _ => []
theorem flatIn_snoc : ∀ (xs : List Tr.In) (hs : List Hdl) (x : Tr.In) (h : Hdl), hs.length = xs.length → flatIn (xs ++ [x]) (hs ++ [h]) = flatIn xs hs ++ inC x h
 | [], [], _, _, _ => rfl
 | y :: xs, g :: hs, x, h, e => by
  have := flatIn_snoc xs hs x h (by simpa using e)
  simp [flatIn, this]
theorem flatIn_at : ∀ (xs : List Tr.In) (hs : List Hdl) (j : Nat) (x : Tr.In) (h : Hdl), xs[j]? = some x → hs[j]? = some h →
  (flatIn xs hs)[j * 2]? = some (.slice h.1 h.2.1 h.2.2) ∧ (flatIn xs hs)[j * 2 + 1]? = some (.string x.2)
 | [], _, _, _, _, hx, _ => by simp at hx
 | _ :: _, [], _, _, _, _, hh => by simp at hh
 | y :: xs, g :: hs, 0, x, h, hx, hh => by
  simp at hx hh
  subst hx hh
  simp [flatIn]
 | y :: xs, g :: hs, j + 1, x, h, hx, hh => by
  have := flatIn_at xs hs j x h (by simpa using hx) (by simpa using hh)
  rw [show (j + 1) * 2 = j * 2 + 2 by omega]
  simp only [flatIn, List.getElem?_cons_succ]
  exact this
def RowN (B : Nat) (w : World) (v : Value) (xs : List Tr.In) : Prop :=
 ∃ hs : List Hdl, hs.length = xs.length ∧ w.ownsRow B 54 2 v xs.length (flatIn xs hs) ∧ ∀ (j : Nat) (x : Tr.In) (h : Hdl), xs[j]? = some x → hs[j]? = some h → BsP (fun b => v.ownBlock ≠ some b) w h x.1
theorem RowN.nil (B : Nat) (w : World) : RowN B w (.slice none 0 0) [] := ⟨[], rfl, World.ownsRow_nil _ _ _ _, fun _ _ _ hx _ => by simp at hx⟩
theorem RowN.lt {B : Nat} {w : World} {v : Value} {xs : List Tr.In} (h : RowN B w v xs) : ∀ k, v.ownBlock = some k → B ≤ k ∧ k < w.heap.size := by
 obtain ⟨hs, _, ho, _⟩ := h
 exact ho.lt
theorem RowN.below {B : Nat} {w w' : World} {v : Value} {xs : List Tr.In} (h : RowN B w v xs) (hb : Below w.heap.size w w') : RowN B w' v xs := by
 obtain ⟨hs, hlen, ho, hi⟩ := h
 exact ⟨hs, hlen, ho.kept (Bu.grown_below hb) (by cases v.ownBlock <;> simp), fun j x h hx hh => (hi j x h hx hh).kept hb.size fun b _ hlt => hb.block b hlt⟩
theorem RowN.push {B : Nat} {w w' : World} {v v' : Value} {xs : List Tr.In} {x : Tr.In} {h : Hdl} {hs : List Hdl} (hlen : hs.length = xs.length) (hi : ∀ (j : Nat) (x : Tr.In) (h : Hdl), xs[j]? = some x → hs[j]? = some h → BsP (fun b => v.ownBlock ≠ some b) w h x.1)
  (hI : BsP (fun b => v.ownBlock ≠ some b) w h x.1) (ho : w'.ownsRow B 54 2 v' (xs.length + 1) (flatIn xs hs ++ inC x h))
  (hg : w.grownBy w' v.ownBlock) (hat : v'.ownBlock = v.ownBlock ∨ v'.ownBlock = some w.heap.size) : RowN B w' v' (xs ++ [x]) := by
 have keep : ∀ {l : List UInt8} {h : Hdl}, BsP (fun b => v.ownBlock ≠ some b) w h l → BsP (fun b => v'.ownBlock ≠ some b) w' h l := fun {l h} hh => by
  have h1 := hh.to (q := fun b => v'.ownBlock ≠ some b ∧ v.ownBlock ≠ some b) fun b hlt hb => ⟨fun e => by
   rcases hat with h2 | h2
   ·exact hb (h2 ▸ e)
   ·rw [h2] at e
    have := Option.some.inj e
    omega, hb⟩
  have h2 := h1.kept (w' := w') hg.size fun b hb hlt => hg.block b hlt (fun e => hb.2 e.symm)
  exact h2.to fun b _ hb => hb.1
 refine ⟨hs ++ [h], by simp [hlen], ?_, fun j y g hy hh => ?_⟩
 ·rw [List.length_append, flatIn_snoc xs hs x h hlen]
  exact ho
 ·by_cases hj : j < xs.length
  ·rw [List.getElem?_append_left hj] at hy
   rw [List.getElem?_append_left (by omega)] at hh
   exact keep (hi j y g hy hh)
  ·have hj2 : j = xs.length := by
    have := (List.getElem?_eq_some_iff.1 hy).1
    simp at this
    omega
   subst hj2
   rw [List.getElem?_append_right (Nat.le_refl _), Nat.sub_self] at hy
   rw [List.getElem?_append_right (by omega), hlen, Nat.sub_self] at hh
   simp at hy hh
   subst hy hh
   exact keep hI
theorem RowN.done {B : Nat} {w : World} {v : Value} {xs : List Tr.In} (h : RowN B w v xs) : ∃ a n cap, v = .slice a n cap ∧ IsIns w a n cap xs := by
 obtain ⟨hs, hlen, ho, hi⟩ := h
 rcases ho.2 with ⟨rfl, hz⟩ | ⟨g, cap, cur, rfl, hbg, hg, hnc, hcm, hcs, htake⟩
 ·have : xs = [] := List.eq_nil_of_length_eq_zero hz
  subst this
  exact ⟨none, 0, 0, rfl, IsIns.nil _⟩
 ·refine ⟨_, _, _, rfl, hnc, hcm, rfl, fun e => (by cases e), fun j hj => ?_⟩
  have hx : xs[j]? = some (xs.getD j ([], eB)) := by simp [hj]
  have hh : hs[j]? = some (hs.getD j (none, 0, 0)) := by simp [show j < hs.length by omega]
  obtain ⟨f0, f1⟩ := flatIn_at xs hs j _ _ hx hh
  have e : ∀ i, (⟨g, 0, none⟩ : Addr).add i = ⟨g, 0 + i, none⟩ := fun i => Addr.add_mid g 0 i
  refine ⟨g, 0, hs.getD j (none, 0, 0), rfl, (Array.getElem?_eq_some_iff.1 hg).1, ⟨?_, ?_⟩, (hi j _ _ hx hh).1⟩
  ·have := ho.cells (g := g) rfl _ _ f0
   rw [e] at this
   exact this
  ·have := ho.cells (g := g) rfl _ _ f1
   rw [e, ← Nat.add_assoc] at this
   exact this
def GotIns (w : World) (l : List Tr.In) (e : Ending) (w' : World) : Prop := ∃ a n c, e = .returned (.slice a n c) ∧ IsIns w' a n c l ∧ Below w.heap.size w w'
theorem meet_lit_in {o : Oper} {a : Act} {w : World} {K : Act → World → Prop} {Q : Exit → Act → World → Prop} {ops : Array Oper} {x : Tr.In} {h : Hdl} (hw : Region.wanted o (yielded ops a.tmps) = true)
  (ho : ∃ y, o.op = .buildSlice 28 1 #[(0, y)] ∧ a.eval y = .agg (inA x h))
  (H : ∀ w' b, b = w.heap.size → Rg.Own w' b (inA x h) 54 → Below w.heap.size w w' → K (a.put o.dst (.slice (some ⟨b, 0, none⟩) 1 1)) w') : if Region.wanted o (yielded ops a.tmps) = true then Oper.wp Tryz.prog o a w K Q else K (a.put o.dst undef) w := by
 obtain ⟨y, ho, hy⟩ := ho
 obtain ⟨i0, hi, hz, hs, hby⟩ := info_parts info_in
 refine Rg.want hw (wp_buildSlice 28 54 1 _ ho (inA x h) i0 _ Tryz.underlying28 hi hz (by rw [hs]; decide) (by rw [hs]; decide) ?_ (H _ _ rfl (Rg.Own.new _ _ _) (al1 _ _)))
 simp only [List.map_toArray, List.map_cons, List.map_nil, hy, hs]
 kernel_rfl
theorem run_push_in {w : World} {ty : TypeId} {B b2 : Nat} {v : Value} {xs : List Tr.In} {x : Tr.In} {h : Hdl} (hR : RowN B w v xs) (h2 : Rg.Own w b2 (inA x h) 54) (hI : BsP (fun b => v.ownBlock ≠ some b) w h x.1) (hn : xs.length ≤ 1000000) (hB : B ≤ w.heap.size) :
  ∃ v' w', (Builtin.append_ #[28, 28] ty #[v, .slice (some ⟨b2, 0, none⟩) 1 1]).run Tryz.prog w = .ok v' w' ∧ RowN B w' v' (xs ++ [x]) ∧ w.grownBy w' v.ownBlock := by
 obtain ⟨i0, z0, hi, hz, hsz, hby, hzc⟩ := info_in_parts
 obtain ⟨hs', hlen, hown, hi'⟩ := hR
 obtain ⟨v', w', hr, h3, h4, _, h5⟩ := run_append_own_at (P := Tryz.prog) w B 28 ty 54 i0 z0 2 40 Tryz.underlying28 hi hz hsz hby hzc (by decide) v xs.length _ hown ⟨b2, 0, none⟩ 1 1 (inC x h) rfl
  (fun j u hu => by
   rw [Addr.add_mid, Nat.zero_add, cell_of_row w b2 _ _ _ _ h2.2]
   unfold inA
   simpa [inC] using hu)
  (fun u hu => by unfold inC at hu; simp at hu; rcases hu with rfl | rfl <;> rfl) (by unfold maxLen; omega) (by omega) hB
 exact ⟨v', w', hr, RowN.push hlen hi' hI h3 h4 h5, h4⟩
theorem meet_push_in {o : Oper} {a : Act} {w : World} {K : Act → World → Prop} {Q : Exit → Act → World → Prop} {ops : Array Oper} {B b2 : Nat} {v : Value} {xs : List Tr.In} {x : Tr.In} {h : Hdl} (hw : Region.wanted o (yielded ops a.tmps) = true)
  (ho : ∃ s y, o.op = .call { callee := .builtin .append, args := #[s, y], argTypes := #[28, 28] } ∧ a.eval s = v ∧ a.eval y = .slice (some ⟨b2, 0, none⟩) 1 1)
  (hR : RowN B w v xs) (h2 : Rg.Own w b2 (inA x h) 54) (hI : BsP (fun b => v.ownBlock ≠ some b) w h x.1) (hn : xs.length ≤ 1000000) (hB : B ≤ w.heap.size)
  (H : ∀ v' w', RowN B w' v' (xs ++ [x]) → w.grownBy w' v.ownBlock → K (a.put o.dst v') w') : if Region.wanted o (yielded ops a.tmps) = true then Oper.wp Tryz.prog o a w K Q else K (a.put o.dst undef) w := by
 obtain ⟨s, y, ho, hs, hy⟩ := ho
 obtain ⟨v', w', hr, h3, h4⟩ := run_push_in (ty := o.type) hR h2 hI hn hB
 refine Rg.want hw ?_
 unfold Oper.wp execOp
 simp only [ho, resolve, invoke, builtin, Sem.run_bind, Sem.run_pure, Result.andThen_ok, List.map_toArray, List.map_cons, List.map_nil, hs, hy, hr]
 exact H v' w' h3 h4
theorem wpl_push_in {ops : Array Oper} {rest : List Oper} {o : Oper} {a : Act} {w : World} {Q : Exit → Act → World → Prop} {B b2 : Nat} {v : Value} {xs : List Tr.In} {x : Tr.In} {h : Hdl} (hgd : o.guard = none)
  (ho : ∃ s y, o.op = .call { callee := .builtin .append, args := #[s, y], argTypes := #[28, 28] } ∧ a.eval s = v ∧ a.eval y = .slice (some ⟨b2, 0, none⟩) 1 1)
  (hR : RowN B w v xs) (h2 : Rg.Own w b2 (inA x h) 54) (hI : BsP (fun b => v.ownBlock ≠ some b) w h x.1) (hn : xs.length ≤ 1000000) (hB : B ≤ w.heap.size)
  (H : ∀ v' w', RowN B w' v' (xs ++ [x]) → w.grownBy w' v.ownBlock → wpList Tryz.prog ops Q rest (a.put o.dst v') w') : wpList Tryz.prog ops Q (o :: rest) a w := by
 obtain ⟨s, y, ho, hs, hy⟩ := ho
 refine wpList_plain hgd fun K hK => ?_
 obtain ⟨v', w', hr, h3, h4⟩ := run_push_in (ty := o.type) hR h2 hI hn hB
 unfold Oper.wp execOp
 simp only [ho, resolve, invoke, builtin, Sem.run_bind, Sem.run_pure, Result.andThen_ok, List.map_toArray, List.map_cons, List.map_nil, hs, hy, hr]
 exact hK _ _ (H v' w' h3 h4)
theorem below_pushN {B : Nat} {w0 w w' : World} {v : Value} {xs : List Tr.In} (hR : RowN B w v xs) (hb : Below B w0 w) (hB : B ≤ w.heap.size) (hg : w.grownBy w' v.ownBlock) : Below B w0 w' := hb.grown hg hB (fun g hg => (hR.lt g hg).1)
theorem BsP.apart {B : Nat} {w0 w : World} {v : Value} {xs : List Tr.In} {h : Hdl} {l : List UInt8} (hR : RowN B w v xs) (g : IsBs w0 h.1 h.2.1 h.2.2 l) (hb : Below w0.heap.size w0 w) (hB : w0.heap.size ≤ B) : BsP (fun b => v.ownBlock ≠ some b) w h l := by
 have h1 := (BsP.old g).kept hb.size fun b hlt _ => hb.block b hlt
 exact h1.to fun b _ hlt e => by have := (hR.lt b e).1; omega
theorem op_load_in {ev : Operand → Value} {o : Oper} {w : World} {b off : Nat} {x : Tr.In} {h : Hdl} (g : InAt w b off x h) (ho : ∃ y, o.op = .load 54 y ∧ ev y = .pointer (some ⟨b, off, none⟩)) :
  (execOp ev o).run Tryz.prog w = .ok (.value (.agg (inA x h))) w := by
 obtain ⟨y, ho, hx⟩ := ho
 have hl := run_loadAt_mid (P := Tryz.prog) w b off 54 (inC x h) _ (fun j u hu => by
  match j, hu with
  | 0, hu => cases hu; exact g.1
  | 1, hu => cases hu; exact g.2) Tryz.underlying54 rfl (by
  obtain ⟨i0, hi, hz, hs, hby⟩ := info_parts info_in
  rw [hi]
  simp [hs, inC])
 unfold execOp
 simp only [ho, hx, Sem.run_bind, Sem.run_pure, Result.andThen_ok, hl]
 rfl
end Tm
end
section
open Go.RowKit
namespace Tm
open Tr Ni Pk Ky
theorem getI {l : List Tr.In} {j : Nat} (h : j < l.length) : l.getD j ([], eB) ∈ l ∧ l.take (j + 1) = l.take j ++ [l.getD j ([], eB)] := by
 have e : l.getD j ([], eB) = l[j] := by simp [List.getD, h]
 rw [e]
 exact ⟨List.getElem_mem _, List.take_succ_eq_append_getElem h⟩
theorem rest_take {l : List Tr.In} {m j : Nat} (h : j < l.length) : restL (l.take (j + 1)) m = restL (l.take j) m ++ [((l.getD j ([], eB)).1.drop m, (l.getD j ([], eB)).2)] := by
 rw [(getI h).2]
 unfold restL
 rw [List.map_append]
 rfl
theorem rest_any (l : List Tr.In) (a : Option Addr) (n c m : Nat) (hm : ∀ x ∈ l, m ≤ x.1.length) (w : World) (h : IsIns w a n c l) (hn : n ≤ 1000000) :
  Calls Tryz.prog 23 #[.slice a n c, .int .i64 m] w (GotIns w (restL l m)) := by
 have HH := hid h
 have HL := hid h.len
 have HM := hid hm
 have hcap := h.1
 have hmx := h.2.1
 unfold maxLen at hmx
 clear h hm
 go_enter Tryz.func23, Tryz.ntmps23
 go_wp2_with fail
 go_loopw [5, 6] (fun v i wr => ∃ j : Nat, j ≤ n ∧ i = .int .i64 j ∧ Hid (RowN w.heap.size wr v (restL (l.take j) m)) ∧ Hid (Below w.heap.size w wr)) (fun _ i _ => n - (intOf i).toNat)
 case atStart => exact ⟨0, Nat.zero_le _, rfl, hid (RowN.nil _ _), hid (Below.refl _ _)⟩
 case round =>
  obtain ⟨j, hj, rfl, HR, HB⟩ := hrel
  have hszr := HB.out.size
  by_cases hlt : j < n
  ·obtain ⟨b, off, hd, rfl, hblt, hin, hbs⟩ := HH.out.at' j hlt
   have hji : (j : Int) < n := by omega
   have hjl : j < l.length := by rw [HL.out]; exact hlt
   have HS := hid (rest_take (m := m) hjl)
   have hmle := HM.out _ (getI hjl).1
   have hwl : (restL (l.take j) m).length ≤ j := by unfold restL; rw [List.length_map, List.length_take]; exact Nat.min_le_left _ _
   obtain ⟨x, hx⟩ : ∃ x, l.getD j ([], eB) = x := ⟨_, rfl⟩
   rw [hx] at HS hin hbs hmle
   obtain ⟨p, v⟩ := x
   obtain ⟨h0, h1, h2⟩ := hd
   dsimp only at hbs hmle HS
   rw [hbs.len] at hmle
   obtain ⟨W, hWW⟩ : ∃ W, restL (l.take j) m = W := ⟨_, rfl⟩
   rw [hWW] at HR HS hwl
   have HIn := hid hin
   have HBs' := hid (bs_from hbs m hmle)
   clear hx hin hbs hWW
   go_wp2_with fail
   refine wp_region_noPanic ?_
   refine wp_region_held_drew (S := fun w' => Below w.heap.size w w') (by kernel_rfl) (below_drewN HB.out 1) (fun hld => ?_)
   refine Rg.tk (i := 0) rfl ?_
   try simp only [Act.put, Rg.s]
   refine Rg.tk (i := 1) rfl ?_
   try simp only [Act.put, Rg.s]
   refine Rg.tk (i := 2) rfl ?_
   try simp only [Act.put, Rg.s]
   refine Rg.tk (i := 3) rfl ?_ (hy := by intro wz hSw; have q0 := hji; have q1 := hlt; (try dsimp only at hSw); go_simp <;> with_reducible rfl)
   try simp only [Act.put, Rg.s]
   refine Rg.tk (i := 4) rfl ?_
   try simp only [Act.put, Rg.s]
   refine Rg.tk (i := 5) rfl ?_ (hy := by intro wz hSw; have hcc := cell_on hSw HIn.out.1; (try dsimp only at hSw); go_simp <;> with_reducible rfl)
   try simp only [Act.put, Rg.s]
   refine Rg.tk (i := 6) rfl ?_
   try simp only [Act.put, Rg.s]
   refine Rg.tk (i := 7) rfl ?_ (hy := by intro wz hSw; (refine op_from (a := h0) (n := h1) (c := h2) (i := m) under_u8 size_u8 hmle ?_; exact ⟨_, _, rfl, rfl, rfl⟩))
   try simp only [Act.put, Rg.s]
   refine Rg.tk (i := 8) rfl ?_
   try simp only [Act.put, Rg.s]
   refine Rg.tk (i := 9) rfl ?_
   try simp only [Act.put, Rg.s]
   refine Rg.tk (i := 10) rfl ?_ (hy := by intro wz hSw; have q0 := hji; have q1 := hlt; (try dsimp only at hSw); go_simp <;> with_reducible rfl)
   try simp only [Act.put, Rg.s]
   refine Rg.tk (i := 11) rfl ?_
   try simp only [Act.put, Rg.s]
   refine Rg.tk (i := 12) rfl ?_ (hy := by intro wz hSw; have hcc := cell_on hSw HIn.out.2; (try dsimp only at hSw); go_simp <;> with_reducible rfl)
   try simp only [Act.put, Rg.s]
   refine Rg.tk (i := 13) rfl ?_
   try simp only [Act.put, Rg.s]
   refine Rg.rd (i := 14) rfl fun K hK => ?_
   refine meet_lit_in (x := (p.drop m, v)) (h := (fromA h0 h2 m, h1 - m, h2 - m)) (by rfl) ⟨_, rfl, rfl⟩ ?_
   intro w6 b6 hbe hN hb6
   have HN := hid hN
   have HB6 : Hid (Below wr.heap.size wr w6) := hid (Below.trans (show Below wr.heap.size wr wr.drew from below_drewN (Below.refl _ _) 1) hb6)
   clear hN hb6 hbe
   refine hK.out _ _ ?_ (fun hld => ?_)
   ·exact HB.out.trans (HB6.out.mono HB.out.size)
   clear hK K
   try simp only [Act.put, Rg.s]
   refine Rg.rd (i := 15) rfl fun K hK => ?_
   refine meet_push_in (by rfl) ⟨_, _, rfl, rfl, rfl⟩ (RowN.below HR.out HB6.out) HN.out (h := (fromA h0 h2 m, h1 - m, h2 - m)) (x := (p.drop m, v)) (BsP.apart (RowN.below HR.out HB6.out) HBs'.out hld (Nat.le_refl _)) (by omega) (Below.size hld) ?_
   intro v7 w7 hR7 hg7
   have HB7 : Hid (Below w.heap.size w w7) := hid (below_pushN (RowN.below HR.out HB6.out) hld (Below.size hld) hg7)
   have HR7 := hid hR7
   clear hR7 hg7
   refine hK.out _ _ ?_ (fun hld => ?_)
   ·exact HB7.out
   clear hK K
   try simp only [Act.put, Rg.s]
   refine Rg.tk (i := 16) rfl ?_
   try simp only [Act.put, Rg.s]
   refine wpAnyH_done (by kernel_rfl) ?_ _
   refine NoPanic.normal ?_
   go_wp2
   go_roundw
   case rel => exact ⟨j + 1, by omega, by go_num, hid (by rw [HS.out]; exact HR7.out), HB7⟩
   case measure => simp [intOf]; omega
  ·obtain rfl : j = n := by omega
   have HR' := HR.out
   rw [List.take_of_length_le (by rw [HL.out]; exact Nat.le_refl _)] at HR'
   obtain ⟨a', n', c', rfl, hd⟩ := HR'.done
   have HD := hid hd
   clear HR' hd HR
   go_wp2
   go_ret
   exact ⟨_, _, _, rfl, HD.out, HB.out⟩
theorem begin_take {l : List Tr.In} {d : Fin 16} {j : Nat} (h : j < l.length) : beginL (l.take (j + 1)) d = beginL (l.take j) d ++ if ((l.getD j ([], eB)).1.getD 0 0).toNat = d.val then [l.getD j ([], eB)] else [] := by
 rw [(getI h).2]
 unfold beginL
 rw [List.filter_append]
 congr 1
 generalize l.getD j ([], eB) = x
 by_cases e : (x.1.getD 0 0).toNat = d.val
 ·rw [if_pos e]; simp only [List.filter, e, decide_true]
 ·rw [if_neg e]; simp only [List.filter, e, decide_false]
theorem begin_len (l : List Tr.In) (d : Fin 16) (j : Nat) : (beginL (l.take j) d).length ≤ j := by
 unfold beginL
 exact Nat.le_trans (List.length_filter_le _ _) (by rw [List.length_take]; exact Nat.min_le_left _ _)
theorem op_lit_in {ev : Operand → Value} {o : Oper} {w : World} {x : Tr.In} {h : Hdl} (b : Nat) (hb : b = w.heap.size) (ho : ∃ y, o.op = .buildSlice 28 1 #[(0, y)] ∧ ev y = .agg (inA x h)) :
  (execOp ev o).run Tryz.prog w = .ok (.value (.slice (some ⟨b, 0, none⟩) 1 1)) (w.alloc (.cells (inA x h) 54)) := by
 obtain ⟨y, ho, hx⟩ := ho
 subst hb
 unfold execOp
 simp only [ho, List.map_toArray, List.map_cons, List.map_nil, hx]
 kernel_rfl
theorem begin_any (l : List Tr.In) (a : Option Addr) (n c : Nat) (d : Fin 16) (hm : ∀ x ∈ l, 0 < x.1.length) (w : World) (h : IsIns w a n c l) (hn : n ≤ 1000000) :
  Calls Tryz.prog 24 #[.slice a n c, .int .i64 d.val] w (GotIns w (beginL l d)) := by
 have HH := hid h
 have HL := hid h.len
 have HM := hid hm
 have hcap := h.1
 have hmx := h.2.1
 unfold maxLen at hmx
 obtain ⟨D, hD⟩ : ∃ D : Nat, d.val = D := ⟨_, rfl⟩
 have HD := hid hD
 rw [hD]
 clear h hm hD
 go_enter Tryz.func24, Tryz.ntmps24
 go_wp2_with fail
 go_loopw [5, 6] (fun v i wr => ∃ j : Nat, j ≤ n ∧ i = .int .i64 j ∧ Hid (RowN w.heap.size wr v (beginL (l.take j) d)) ∧ Hid (Below w.heap.size w wr)) (fun _ i _ => n - (intOf i).toNat)
 case atStart => exact ⟨0, Nat.zero_le _, rfl, hid (RowN.nil _ _), hid (Below.refl _ _)⟩
 case round =>
  obtain ⟨j, hj, rfl, HR, HB⟩ := hrel
  have hszr := HB.out.size
  by_cases hlt : j < n
  ·obtain ⟨b, off, hd, rfl, hblt, hin, hbs⟩ := HH.out.at' j hlt
   have hji : (j : Int) < n := by omega
   have hjl : j < l.length := by rw [HL.out]; exact hlt
   have HS := hid (begin_take (d := d) hjl)
   have hp0 := HM.out _ (getI hjl).1
   have hwl := begin_len l d j
   obtain ⟨x, hx⟩ : ∃ x, l.getD j ([], eB) = x := ⟨_, rfl⟩
   rw [hx] at HS hin hbs hp0
   obtain ⟨p, v⟩ := x
   obtain ⟨h0, h1, h2⟩ := hd
   dsimp only at hbs hp0 HS
   rw [hbs.len] at hp0
   obtain ⟨W, hWW⟩ : ∃ W, beginL (l.take j) d = W := ⟨_, rfl⟩
   rw [hWW] at HR HS hwl
   have hin' := hin.below HB.out
   have HIn := hid hin'
   have HAp := hid (BsP.apart HR.out (h := (h0, h1, h2)) hbs HB.out (Nat.le_refl _))
   obtain ⟨b', off', rfl, hblt', hc0⟩ := (hbs.below HB.out).at' 0 hp0
   have hcs := hin'.1
   dsimp only at hcs
   obtain ⟨u, hu⟩ : ∃ u, (p.getD 0 0).toNat = u := ⟨_, rfl⟩
   have hu256 := UInt8.toNat_lt (p.getD 0 0)
   rw [hu, HD.out] at HS
   rw [hu] at hc0 hu256
   simp only [Nat.add_zero] at hc0
   have hp0i : (0 : Int) < h1 := by omega
   clear hx hin hbs hWW hin' hu
   by_cases he : u = D
   ·have HS' : Hid (beginL (l.take (j + 1)) d = W ++ [(p, v)]) := hid (by rw [HS.out, if_pos he])
    have hd : decide ((u : Int) = (D : Int)) = true := decide_eq_true (by omega)
    have hbq : ((u : Int) == (D : Int)) = true := by simp; omega
    clear he HS
    go_wp2_with (first
     | (refine Rg.run rfl _ _ (op_load_in HIn.out ⟨_, rfl, rfl⟩) ?_)
     | (refine Rg.run rfl _ _ (op_lit_in wr.heap.size (by simp) ⟨_, rfl, rfl⟩) ?_)
     | (refine wpl_push_in rfl ⟨_, _, rfl, rfl, rfl⟩ (RowN.below HR.out (al1 _ _)) (Rg.Own.new _ _ _) (h := (some ⟨b', off', none⟩, h1, h2)) (x := (p, v)) (BsP.kept HAp.out (by simp) (fun b _ hlt => (al1 _ _).block b hlt)) ?d1 ?d2 ?_))
    case d1 => omega
    case d2 => simp; omega
    intro v7 w7 hR7 hg7
    have HB7 : Hid (Below w.heap.size w w7) := hid (below_pushN (RowN.below HR.out (al1 _ _)) (HB.out.trans ((al1 _ _).mono hszr)) (by simp; omega) hg7)
    have HR7 := hid hR7
    clear hR7 hg7
    go_wp2
    go_roundw
    case rel => exact ⟨j + 1, by omega, by go_num, hid (by rw [HS'.out]; exact HR7.out), HB7⟩
    case measure => simp [intOf]; omega
   ·have HS' : Hid (beginL (l.take (j + 1)) d = W) := hid (by rw [HS.out, if_neg he, List.append_nil])
    have hd : decide ((u : Int) = (D : Int)) = false := decide_eq_false (by omega)
    have hbq : ((u : Int) == (D : Int)) = false := by simp; omega
    clear he HS
    go_wp2_with fail
    go_roundw
    case rel => exact ⟨j + 1, by omega, by go_num, hid (by rw [HS'.out]; exact HR.out), HB⟩
    case measure => simp [intOf]; omega
  ·obtain rfl : j = n := by omega
   have HR' := HR.out
   rw [List.take_of_length_le (by rw [HL.out]; exact Nat.le_refl _)] at HR'
   obtain ⟨a', n', c', rfl, hd⟩ := HR'.done
   have HD := hid hd
   clear HR' hd HR
   go_wp2
   go_ret
   exact ⟨_, _, _, rfl, HD.out, HB.out⟩
theorem common_take : ∀ {l : List Tr.In} {k : Nat}, 1 ≤ k → k < l.length → commonL (l.take (k + 1)) = min (commonL (l.take k)) (cp (l.getD 0 ([], eB)).1 (l.getD k ([], eB)).1)
 | [], _, _, h => absurd h (Nat.not_lt_zero _)
 | _ :: _, 0, h, _ => absurd h (by omega)
 | x :: r, k + 1, _, h => by
  have hk : k < r.length := by simpa using h
  rw [List.take_succ_cons, List.take_succ_cons, List.take_succ_eq_append_getElem hk]
  have e : (x :: r).getD (k + 1) ([], eB) = r[k] := by simp [List.getD, hk]
  rw [e]
  show List.foldl _ _ (r.take k ++ [r[k]]) = _
  rw [List.foldl_append]
  rfl
theorem common_any (l : List Tr.In) (a : Option Addr) (n c : Nat) (hm : ∀ x ∈ l, x.1.length ≤ 1000000) (h1 : 1 ≤ n) (w : World) (h : IsIns w a n c l) (hn : n ≤ 1000000) :
  Calls Tryz.prog 39 #[.slice a n c] w fun e w' => e = .returned (.int .i64 (commonL l : Nat)) ∧ Below w.heap.size w w' := by
 have HH := hid h
 have HL := hid h.len
 have HM := hid hm
 have hcap := h.1
 have hmx := h.2.1
 unfold maxLen at hmx
 obtain ⟨b, off, hd0, rfl, hblt, hin0, hbs0⟩ := h.at' 0 (by omega)
 have HF : Hid (commonL (l.take 1) = (l.getD 0 ([], eB)).1.length) := hid (by
  match l, h.len, h1 with
  | [], e, h1 => simp at e; omega
  | x :: r, _, _ => rfl)
 have HG6 := HM.out _ (getI (l := l) (j := 0) (by rw [HL.out]; omega)).1
 obtain ⟨x0, hx0⟩ : ∃ x, l.getD 0 ([], eB) = x := ⟨_, rfl⟩
 rw [hx0] at hin0 hbs0 HF HG6
 have HX0 := hid hx0
 obtain ⟨p, v0⟩ := x0
 obtain ⟨g0, g1, g2⟩ := hd0
 dsimp only at hbs0 HF HG6
 rw [hbs0.len] at HF HG6
 have hg6 := HG6
 simp only [Nat.zero_mul, Nat.add_zero] at hin0
 have hc0 := hin0.1
 dsimp only at hc0
 have HI0 := hid hin0
 have HG := hid hbs0
 have hn0 : (0 : Int) < n := by omega
 have hn0' : 0 < n := h1
 clear h hm hx0 hin0 hbs0 HG6
 go_enter Tryz.func39, Tryz.ntmps39
 go_wp2_with fail
 go_loopw [3, 4] (fun v i wr => ∃ j : Nat, 1 ≤ j ∧ j ≤ n ∧ i = .int .i64 j ∧ v = .int .i64 (commonL (l.take j) : Nat) ∧ Hid (Below w.heap.size w wr)) (fun _ i _ => n - (intOf i).toNat)
 case atStart => exact ⟨1, Nat.le_refl _, h1, rfl, by rw [HF.out], hid (Below.refl _ _)⟩
 case round =>
  obtain ⟨j, hj1, hj, rfl, rfl, HB⟩ := hrel
  have hszr := HB.out.size
  by_cases hlt : j < n
  ·obtain ⟨b', off', hd, hbe, hblt', hin, hbs⟩ := HH.out.at' j hlt
   cases hbe
   have hji : (j : Int) < n := by omega
   have hjl : j < l.length := by rw [HL.out]; exact hlt
   have HS := hid (common_take hj1 hjl)
   have hh6 := HM.out _ (getI hjl).1
   rw [HX0.out] at HS
   obtain ⟨x, hx⟩ : ∃ x, l.getD j ([], eB) = x := ⟨_, rfl⟩
   rw [hx] at HS hin hbs hh6
   obtain ⟨q, v⟩ := x
   obtain ⟨h0, h1, h2⟩ := hd
   dsimp only at hbs hh6 HS
   rw [hbs.len] at hh6
   obtain ⟨Kn, hK⟩ : ∃ Kn, commonL (l.take j) = Kn := ⟨_, rfl⟩
   obtain ⟨C, hC⟩ : ∃ C, cp p q = C := ⟨_, rfl⟩
   rw [hK, hC] at HS
   rw [hK]
   have HC := hid hC
   have hmin : ((min Kn C : Nat) : Int) = if (Kn : Int) < (C : Int) then (Kn : Int) else (C : Int) := by split <;> omega
   have HIn := hid hin
   have HBs' := hid hbs
   clear hx hin hbs hK hC
   go_wp2_with fail
   refine wp_region_noPanic ?_
   refine wp_region_held_drew (S := fun w' => Below w.heap.size w w') (by kernel_rfl) (below_drewN HB.out 1) (fun hld => ?_)
   refine Rg.tk (i := 0) rfl ?_
   try simp only [Act.put, Rg.s]
   refine Rg.tk (i := 1) rfl ?_
   try simp only [Act.put, Rg.s]
   refine Rg.tk (i := 2) rfl ?_ (hy := by intro wz hSw; have q0 := hn0; have q1 := hn0'; (try dsimp only at hSw); go_simp <;> with_reducible rfl)
   try simp only [Act.put, Rg.s]
   refine Rg.tk (i := 3) rfl ?_
   try simp only [Act.put, Rg.s]
   refine Rg.tk (i := 4) rfl ?_ (hy := by intro wz hSw; have hcc := cell_on hSw HI0.out.1; (try dsimp only at hSw); go_simp <;> with_reducible rfl)
   try simp only [Act.put, Rg.s]
   refine Rg.tk (i := 5) rfl ?_
   try simp only [Act.put, Rg.s]
   refine Rg.tk (i := 6) rfl ?_
   try simp only [Act.put, Rg.s]
   refine Rg.tk (i := 7) rfl ?_ (hy := by intro wz hSw; have q0 := hji; have q1 := hlt; (try dsimp only at hSw); go_simp <;> with_reducible rfl)
   try simp only [Act.put, Rg.s]
   refine Rg.tk (i := 8) rfl ?_
   try simp only [Act.put, Rg.s]
   refine Rg.tk (i := 9) rfl ?_ (hy := by intro wz hSw; have hcc := cell_on hSw HIn.out.1; (try dsimp only at hSw); go_simp <;> with_reducible rfl)
   try simp only [Act.put, Rg.s]
   refine Rg.rd (i := 10) rfl fun K hK => ?_
   go_simp
   go_at_call 65
   (with_reducible refine (Ni.rcommon_any g0 h0 g1 h1 g2 h2 p q hg6 hh6 _ (HG.out.below hld) (HBs'.out.below hld)).mono ?_)
   rintro e w5 ⟨rfl, q5, rfl⟩
   rw [cp_common, HC.out]
   have HB5 : Hid (Below w.heap.size w (wr.drewN (1 + q5))) := hid (below_drewN HB.out (1 + q5))
   refine hK.out _ _ ?_ (fun hld => ?_)
   ·first | exact HB5.out | exact below_drewN (below_drewN HB.out 1) q5
   clear hK K
   try simp only [Act.put, Rg.s]
   refine Rg.rd (i := 11) rfl fun K hK => ?_
   go_simp
   go_at_call 64
   (with_reducible refine (Lh.low_any (Kn : Int) (C : Int) _).mono ?_)
   rintro e w6 ⟨rfl, rfl⟩
   refine hK.out _ _ ?_ (fun hld => ?_)
   ·first | exact HB5.out | exact below_drewN (below_drewN HB.out 1) q5
   clear hK K
   try simp only [Act.put, Rg.s]
   refine Rg.tk (i := 12) rfl ?_
   try simp only [Act.put, Rg.s]
   refine wpAnyH_done (by kernel_rfl) ?_ _
   refine NoPanic.normal ?_
   go_wp2
   go_roundw
   case rel => exact ⟨j + 1, by omega, by omega, by go_num, by rw [HS.out]; congr 1; split <;> omega, HB5⟩
   case measure => simp [intOf]; omega
  ·obtain rfl : j = n := by omega
   rw [List.take_of_length_le (by rw [HL.out]; exact Nat.le_refl _)]
   go_wp2
   go_ret
   exact ⟨rfl, HB.out⟩
end Tm
end
end Go.Proofs.YtooklabipgmolaaGreatDoor
