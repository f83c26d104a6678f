/-
 The contract of Of: the tree of pairs.
-/
import Derived.Test.YtgolhnfkmmajpaaGreatDoorMb22
import Derived.Test.YtgolhnfkmmajpaaGreatDoorMb16
import Derived.Test.YtgolhnfkmmajpaaGreatDoorMb20
import Derived.Test.YtgolhnfkmmajpaaGreatDoorMb7
import Derived.BigQuiet
import Derived.Laws.StructEq
import Derived.ChangeKeysEq
import Derived.Test.YtgolhnfkmmajpaaGreatDoorMb15
import Derived.Maps.AppendAt
import Derived.Laws.AppendOwnNone
open Go.Lib (hid)
set_option linter.unusedSimpArgs false
set_option linter.unusedVariables false
set_option maxHeartbeats 40000000
set_option maxRecDepth 100000
namespace Go.Proofs.YtgolhnfkmmajpaaGreatDoor
section
open Go.RowKit
namespace Tm
open Tr Ni Pk Ky
theorem Bx.fr {M M' : Mp} {w w' : World} {g : Nat} {cs : Array Value} {t : TypeId} (h : Bx M w g cs t) (f : Fr M M' w w') (b : Below w.heap.size w w') : Bx M' w' g cs t := h.got f b
theorem St.te {M M1 : Mp} {w w1 w2 : World} {t : T} {c : Int} {e : Ending} (s : St M w M1 w1) (h : GotTE M1 w1 t c e w2) : ∃ p M2, e = .returned (.tuple #[tv p, .int .i64 c]) ∧ IsT M2 p t ∧ St M w M2 w2 ∧ Fr M1 M2 w1 w2 ∧ Below w1.heap.size w1 w2 := by
 obtain ⟨p, M2, he, ht, f, i, b⟩ := h
 exact ⟨p, M2, he, ht, ⟨s.f.trans s.i0 f, i, bst s.b b, s.i0⟩, f, b⟩
def OkPs (l : List Tr.Pair) : Prop := (∀ x ∈ l, x.1.length = 32) ∧ ∀ x ∈ l, x.2.size ≠ 0 ∧ x.2.size ≤ 65552
theorem OkPs.has {l : List Tr.Pair} (h : OkPs l) : Has (putAll .nil l) (lastL l) := has_all l.length l rfl h.1 h.2
theorem OkPs.take {l : List Tr.Pair} (h : OkPs l) (j : Nat) : OkPs (l.take j) := ⟨fun x hx => h.1 x (List.mem_of_mem_take hx), fun x hx => h.2 x (List.mem_of_mem_take hx)⟩
theorem has_get {t : T} {m : Tr.Key → Option ByteArray} (h : Has t m) {k : Tr.Key} (hk : k.length = 32) : Tr.get t (path k) ≠ none := by
 rw [h.get k hk]
 intro e
 cases e
theorem of_any (M : Mp) (a : Option Addr) (n c : Nat) (l : List Tr.Pair) (hok : OkPs l) (w : World) (hi : Inv M w) (h : IsPs w a n c l) (hn : n ≤ 1000000) :
  Calls Tryz.prog 19 #[.slice a n c] w (GotT M w (putAll .nil l)) := by
 obtain ⟨w2, hw2, hO0, hO1, hb2, hs2⟩ := enter2 w none
 have hS2 : St M w M w2 := (St.refl hi).below hb2
 have hX0 : Bx M w2 w.heap.size #[.pointer none] 25 := ⟨hO0, hi.free (by omega), one_no _⟩
 have hX1 : Bx M w2 (w.heap.size + 1) #[.pointer none] 25 := ⟨hO1, hi.free (by omega), one_no _⟩
 have hl := h.len
 have hcap := h.1
 have hmx := h.2.1
 unfold maxLen at hmx
 have H := hid h
 have HOk := hid hok
 have HL := hid hl
 have HS2 := hid hS2
 have HX0 := hid hX0
 have HX1 := hid hX1
 have HW2 : Hid (_ = _) := hid hw2
 clear hO0 hO1 hb2 hs2 hw2 hS2 hX0 hX1 h hok hl hi
 go_enter Tryz.func19, Tryz.ntmps19
 go_wp2_with (first | (refine Rg.run rfl _ _ (run_alloc_tree _ _ _ w.heap.size rfl rfl) ?_) | (refine Rg.run rfl _ _ (run_alloc_tree _ _ _ (w.heap.size + 1) (by simp) rfl) ?_))
 rw [← HW2.out]
 clear HW2
 go_loopw [10] (fun i wr => ∃ (j : Nat) (p : Option Addr) (Mr : Mp), j ≤ n ∧ i = .int .i64 j ∧ Hid (St M w Mr wr) ∧ Hid (Bx Mr wr w.heap.size #[.pointer none] 25) ∧ Hid (Bx Mr wr (w.heap.size + 1) #[.pointer p] 25) ∧ Hid (IsT Mr p (putAll .nil (l.take j)))) (fun i _ => n - (intOf i).toNat)
 case atStart => exact ⟨0, none, M, Nat.zero_le _, rfl, HS2, HX0, HX1, hid rfl⟩
 case round =>
  obtain ⟨j, p, Mr, hj, rfl, HS, HA, HB, HT⟩ := hrel
  clear HS2 HX0 HX1
  by_cases hlt : j < n
  ·obtain ⟨b, off, rfl, hblt, hpa, hk⟩ := H.out.at' j hlt
   have HE : Hid (l.getD j ([], eB) ∈ l ∧ l.take (j + 1) = l.take j ++ [l.getD j ([], eB)]) := hid (by
    have hjl : j < l.length := by rw [HL.out]; exact hlt
    have e : l.getD j ([], eB) = l[j] := by simp [List.getD, hjl]
    rw [e]
    exact ⟨List.getElem_mem _, List.take_succ_eq_append_getElem hjl⟩)
   obtain ⟨x, hx⟩ : ∃ x, l.getD j ([], eB) = x := ⟨_, rfl⟩
   rw [hx] at hpa hk HE
   have hpr := hpa.below HS.out.b
   have hx2 := HOk.out.2 x HE.out.1
   have hh := (HOk.out.take j).has
   have hszr := HS.out.b.size
   have HPt := hid (fun w5 (h5 : Inv Mr w5) => (put_any Mr p _ x.1 hk x.2 hx2.1 hx2.2 w5 h5 HT.out hh.good).2 (has_get hh hk))
   rw [← putAll_snoc, ← HE.out.2] at HPt
   have HPr := hid hpr
   have HKk := hid hk
   have hNew := Rg.Own.new wr (pairA (List.replicate 32 0, eB)) 43
   have HN := hid hNew
   have HXs := hid hx2
   obtain ⟨k, v⟩ := x
   clear hx hpa hk hpr hx2 hh hNew HE HT
   dsimp only at HPt HKk
   go_wp2_with (first
    | (refine Rg.run rfl _ _ (op_load_pair HKk.out HPr.out ⟨_, rfl, rfl⟩) ?_)
    | (refine Rg.run rfl _ _ (run_alloc_pair _ _ _ wr.heap.size rfl rfl) ?_)
    | (refine wpl_store_pair HN.out (by simp) (k, v) HKk.out rfl _ _ rfl rfl rfl rfl ?_; intro w5 hO5 hu5; have HO5 := hid hO5; have HB5 : Hid (Below wr.heap.size wr w5) := hid (hu5.below (al1 _ _) (Nat.le_refl _)); clear hO5 hu5)
    | (refine Rg.run rfl _ _ (op_load_tree (own_cell (j := 0) (HB.out.o.below HB5.out) rfl) ⟨_, rfl, rfl⟩) ?_)
    | (refine Rg.run rfl _ _ (op_load_key_mid HKk.out (PairAt.own HO5.out).key ⟨_, rfl, rfl⟩) ?_)
    | (refine Rg.run rfl _ _ (op_load_str (s := v) ((PairAt.own HO5.out).val HKk.out) ⟨_, rfl, rfl⟩) ?_))
   have hS5 := HS.out.below HB5.out
   have hA5 := HA.out.below HB5.out
   have hB5 := HB.out.below HB5.out
   refine (HPt.out w5 hS5.i).mono ?_
   intro e w6 hG
   obtain ⟨p6, M6, rfl, hT6, hS6, hf6, hb6⟩ := hS5.te hG
   have hA6 := hA5.fr hf6 hb6
   have hB6 := hB5.fr hf6 hb6
   have HT6 := hid hT6
   have HS6 := hid hS6
   have HA6 := hid hA6
   have HB6 := hid hB6
   have hs6 := hS6.b.size
   have hlb := hB6.o.1
   have hNew := Rg.Own.new w6 #[.pointer none] 25
   have HN6 := hid hNew
   clear hG hT6 hS6 hf6 hb6 hA6 hB6 hS5 hA5 hB5 HPt HO5 HB5 HN HPr HXs hNew HS HA HB
   go_wp2_with (first
    | (refine Rg.run rfl _ _ (run_alloc_tree _ _ _ w6.heap.size rfl rfl) ?_)
    | (refine wpl_store_tree HN6.out (by decide) p6 rfl _ _ rfl rfl rfl ?_; intro w7 hO7 hu7; have HO7 := hid hO7; have HB7 : Hid (Below w6.heap.size w6 w7) := hid (hu7.below (al1 _ _) (Nat.le_refl _)); clear hO7 hu7)
    | (refine Rg.run rfl _ _ (op_load_tree (own_cell (j := 0) HO7.out rfl) ⟨_, rfl, rfl⟩) ?_)
    | (refine wpl_store_tree (HB6.out.o.below HB7.out) (by simp) p6 rfl _ _ rfl rfl rfl ?_; intro w8 hO8 hu8; have HO8 := hid hO8; have HU8 := hid hu8; clear hO8 hu8))
   have hS7 := HS6.out.below HB7.out
   have hA7 := HA6.out.below HB7.out
   have hB7 := HB6.out.below HB7.out
   go_roundw
   case rel => exact ⟨j + 1, p6, M6, by omega, by go_num, hid (hS7.upd HU8.out (by omega) hB7.n), hid (hA7.upd HU8.out (by omega)), hid ⟨HO8.out, hB7.n, one_no _⟩, HT6⟩
   case measure => simp [intOf]; omega
  ·obtain rfl : j = n := by omega
   have HT' : Hid (IsT Mr p (putAll .nil l)) := hid (by
    have := HT.out
    rwa [List.take_of_length_le (by rw [HL.out]; exact Nat.le_refl _)] at this)
   clear HT
   go_wp2_with (first
    | (refine Rg.run rfl _ _ (op_load_tree (own_cell (j := 0) HB.out.o rfl) ⟨_, rfl, rfl⟩) ?_)
    | (refine wpl_store_tree HA.out.o (by decide) p rfl _ _ rfl rfl rfl ?_; intro w8 hO8 hu8; have HO8 := hid hO8; have HU8 := hid hu8; clear hO8 hu8))
   have hS8 := HS.out.upd HU8.out (Nat.le_refl _) HA.out.n
   exact bodyPost_ret (res_tree rfl _ rfl HO8.out) rfl ⟨p, Mr, rfl, HT'.out, hS8.f, hS8.i, hS8.b⟩
end Tm
end
section
open Go.RowKit
namespace Tm
open Tr Ni Pk Ky No Rf Rl
open Sm (Tab)
structure Lw (w0 : World) (M : Mp) (w : World) : Prop where
 f : Fr M0 M w0 w
 i : Inv M w
 t : Tab w
 z : 0 < w0.heap.size
theorem Lw.start {w : World} (hT : Tab w) : Lw w M0 w := ⟨Fr.refl _ _, Inv.zero w, hT, hT.pos⟩
theorem Lw.b {w0 w : World} {M : Mp} (h : Lw w0 M w) : Below w0.heap.size w0 w := h.f.all
theorem Lw.below {w0 w w' : World} {M : Mp} (h : Lw w0 M w) (hb : Below w.heap.size w w') : Lw w0 M w' := ⟨h.f.trans (Inv.zero _) (Fr.below M hb), h.i.below hb, h.t.below hb h.t.pos, h.z⟩
theorem Lw.fr {w0 w w' : World} {M M' : Mp} (h : Lw w0 M w) (f : Fr M M' w w') (i : Inv M' w') (t : Tab w') : Lw w0 M' w' := ⟨h.f.trans (Inv.zero _) f, i, t, h.z⟩
theorem Lw.got {w0 w w' : World} {M : Mp} {t : T} {e : Ending} (h : Lw w0 M w) (g : GotT M w t e w') : ∃ p M', e = .returned (tv p) ∧ IsT M' p t ∧ Lw w0 M' w' ∧ Fr M M' w w' ∧ Below w.heap.size w w' := by
 obtain ⟨p, M', he, ht, f, i, b⟩ := g
 exact ⟨p, M', he, ht, h.fr f i (h.t.below b h.t.pos), f, b⟩
theorem Lw.te {w0 w w' : World} {M : Mp} {t : T} {c : Int} {e : Ending} (h : Lw w0 M w) (g : GotTE M w t c e w') : ∃ p M', e = .returned (.tuple #[tv p, .int .i64 c]) ∧ IsT M' p t ∧ Lw w0 M' w' ∧ Fr M M' w w' ∧ Below w.heap.size w w' := by
 obtain ⟨p, M', he, ht, f, i, b⟩ := g
 exact ⟨p, M', he, ht, h.fr f i (h.t.below b h.t.pos), f, b⟩
theorem Lw.tell {w0 w w' : World} {M : Mp} {s : ByteArray} {e : Ending} (h : Lw w0 M w) (g : TellP M w s e w') : e = .returned (.string s) ∧ Lw w0 M w' ∧ Fr M M w w' := by
 obtain ⟨he, f, i, t⟩ := g
 exact ⟨he, h.fr f i t, f⟩
theorem Lw.upd {w0 w w' : World} {M : Mp} {g : Nat} (h : Lw w0 M w) (hu : Rg.Upd w g w') (hg : w0.heap.size ≤ g) (hf : ¬ M.ft g) : Lw w0 M w' :=
 ⟨h.f.upd hu hg, h.i.upd hu hf, fun i hi => by rw [World.cell?_of_block (hu.block 0 (by have := h.z; omega))]; exact h.t i hi, h.z⟩
theorem own_fr {M M' : Mp} {w w' : World} {g : Nat} {cs : Array Value} {t : TypeId} (h : Rg.Own w g cs t) (f : Fr M M' w w') (hm : M.at_ g = none) : Rg.Own w' g cs t := ⟨Nat.lt_of_lt_of_le h.1 f.size, (f.block g h.1 hm).trans h.2⟩
theorem at_of_ft {M : Mp} {w : World} (hi : Inv M w) {g : Nat} (h : ¬ M.ft g) : M.at_ g = none := by
 cases hm : M.at_ g with
 | none => rfl
 | some t => exact absurd (hi.part_ g t hm).2.1 h
theorem Bx.frm {M M' : Mp} {w w' : World} {g : Nat} {cs : Array Value} {t : TypeId} (h : Bx M w g cs t) (hi : Inv M w) (f : Fr M M' w w') : Bx M' w' g cs t := ⟨own_fr h.o f (at_of_ft hi h.n), f.box h.n h.o.1 (no_byte h.o h.h), h.h⟩
theorem own_byte_fr {M M' : Mp} {w w' : World} {g j : Nat} {x : Int} {cs : Array Value} {t : TypeId} (h : Rg.Own w g cs t) (hx : cs[j]? = some (.int .u8 x)) (hi : Inv M w) (f : Fr M M' w w') : Rg.Own w' g cs t := own_fr h f (hi.no_byte (own_cell h hx))
theorem kc_byte {k : List UInt8} (hk : k.length = 32) : (kc k)[0]? = some (.int .u8 (k.getD 0 0).toNat) := by
 simp [kc, List.getD, hk]
theorem PairAt.frm {M M' : Mp} {w w' : World} {b o : Nat} {x : Tr.Pair} (h : PairAt w b o x) (hk : x.1.length = 32) (hi : Inv M w) (f : Fr M M' w w') : PairAt w' b o x := fun j v hv => by
 have h0 : w.cell? ⟨b, o + 0, none⟩ = some (.int .u8 (x.1.getD 0 0).toNat) := h 0 _ (by
  unfold pairC
  rw [List.getElem?_append_left (by simp [hk])]
  simp [List.getD, hk])
 rw [f.cell (World.block_lt_of_cell? w _ h0) (hi.no_byte h0)]
 exact h j v hv
theorem IsPs.frm {M M' : Mp} {w w' : World} {a : Option Addr} {n c : Nat} {l : List Tr.Pair} (h : IsPs w a n c l) (hi : Inv M w) (f : Fr M M' w w') : IsPs w' a n c l :=
 ⟨h.1, h.2.1, h.2.2.1, h.2.2.2.1, h.2.2.2.2.1, fun j hj => by
  obtain ⟨b, off, e, hlt, hp, hk⟩ := h.at' j hj
  exact ⟨b, off, e, Nat.lt_of_lt_of_le hlt f.size, hp.frm hk hi f⟩⟩
theorem Ptrs.frm {M M' : Mp} {w w' : World} {a : Option Addr} {n c : Nat} {ps : List (Option Addr)} (h : Ptrs w a n c ps) (hi : Inv M w) (f : Fr M M' w w') : Ptrs w' a n c ps := by
 refine ⟨h.1, h.2.1, h.2.2.1, h.2.2.2.1, fun j hj => ?_⟩
 obtain ⟨b, off, e, hlt, hc⟩ := h.2.2.2.2 j hj
 exact ⟨b, off, e, Nat.lt_of_lt_of_le hlt f.size, by rw [f.cell hlt (hi.no_ptr hc)]; exact hc⟩
theorem isPs_lit {w : World} {b : Nat} {t : TypeId} {l : List Tr.Pair} (h : Rg.Own w b (rowP l).toArray t) (hk : ∀ x ∈ l, x.1.length = 32) (hn : l.length ≤ 1000000) : IsPs w (some ⟨b, 0, none⟩) l.length l.length l := by
 refine ⟨Nat.le_refl _, by unfold maxLen; omega, rfl, fun e => (by cases e), hk, fun j hj => ⟨b, 0, rfl, h.1, fun i v hv => ?_⟩⟩
 have hkj : (l.getD j ([], eB)).1.length = 32 := hk _ (getD_mem hj)
 have hi : i < 33 := by
  have := (List.getElem?_eq_some_iff.1 hv).1
  rwa [pairC_len hkj] at this
 refine own_cell h ?_
 rw [Nat.zero_add]
 simpa [rowP_at l hk j i hj hi] using hv
theorem wpl_store_u8 {ops : Array Oper} {rest : List Oper} {o : Oper} {act : Act} {w : World} {Q : Exit → Act → World → Prop} {b off : Nat} {cs : Array Value} {t : TypeId} (h : Rg.Own w b cs t) (hof : off < cs.size) (x : Int)
  (hgd : o.guard = none) (p q : Operand) (ho : o.op = .store 5 p q) (hx : act.eval p = .pointer (some ⟨b, off, none⟩)) (hy : act.eval q = .int .u8 x)
  (hQ : ∀ w', Rg.Own w' b (cs.setIfInBounds off (.int .u8 x)) t → Rg.Upd w b w' → wpList Tryz.prog ops Q rest (act.put o.dst undef) w') : wpList Tryz.prog ops Q (o :: rest) act w :=
 wpList_plain hgd fun K hK => by
  have hc : w.cell? ⟨b, off, none⟩ = some cs[off] := own_cell h (Array.getElem?_eq_getElem hof)
  have hz : w.frozen? ⟨b, off, none⟩ = false := own_free h
  have hst : (Instr.storeAt 5 (.pointer (some ⟨b, off, none⟩)) (.int .u8 x)).run Tryz.prog w = .ok () (w.setCell ⟨b, off, none⟩ (.int .u8 x)) := by
   simp [go_sem, hc, hz]
  unfold Oper.wp execOp
  simp only [ho, hx, hy, Sem.run_bind, Sem.run_pure, Result.andThen_ok, hst]
  exact hK _ _ (hQ _ (own_setCell h _) (upd_setCell _ _ _ _))
theorem kc_set (k : List UInt8) (i : Nat) (x : UInt8) : (kc k).setIfInBounds i (.int .u8 x.toNat) = kc (k.set i x) := by
 unfold kc
 rw [List.map_set]
 simp
theorem op_lit_pairs {ev : Operand → Value} {o : Oper} {w : World} {x z : Tr.Pair} (hk : x.1.length = 32) (hz : z.1.length = 32) (b : Nat) (hb : b = w.heap.size) (ho : ∃ p q, o.op = .buildSlice 26 2 #[(0, p), (1, q)] ∧ ev p = .agg (pairA x) ∧ ev q = .agg (pairA z)) :
  (execOp ev o).run Tryz.prog w = .ok (.value (.slice (some ⟨b, 0, none⟩) 2 2)) (w.alloc (.cells (rowP [x, z]).toArray 43)) := by
 obtain ⟨p, q, ho, hx, hy⟩ := ho
 obtain ⟨k, v⟩ := x
 obtain ⟨k', v'⟩ := z
 subst hb
 unfold execOp
 simp only [ho, List.map_toArray, List.map_cons, List.map_nil, hx, hy]
 obtain ⟨a0, a1, a2, a3, a4, a5, a6, a7, b0, b1, b2, b3, b4, b5, b6, b7, c0, c1, c2, c3, c4, c5, c6, c7, d0, d1, d2, d3, d4, d5, d6, d7, rfl⟩ := thirtytwo k hk
 obtain ⟨e0, e1, e2, e3, e4, e5, e6, e7, f0, f1, f2, f3, f4, f5, f6, f7, g0, g1, g2, g3, g4, g5, g6, g7, h0, h1, h2, h3, h4, h5, h6, h7, rfl⟩ := thirtytwo k' hz
 kernel_rfl
def ka : List UInt8 := zk
def kb : List UInt8 := zk.set 0 16
def sx : ByteArray := ⟨#[120]⟩
def sy : ByteArray := ⟨#[121]⟩
def lAB : List Tr.Pair := [(ka, sx), (kb, sy)]
def lB : List Tr.Pair := [(kb, sy)]
theorem ka_len : ka.length = 32 := rfl
theorem kb_len : kb.length = 32 := rfl
theorem ka_ne : ka ≠ kb := by decide
theorem okAB : OkPs lAB := ⟨fun x hx => by rcases List.mem_cons.1 hx with rfl | hx; exact ka_len; rw [List.mem_singleton.1 hx]; exact kb_len, fun x hx => by rcases List.mem_cons.1 hx with rfl | hx; exact ⟨by decide, by decide⟩; rw [List.mem_singleton.1 hx]; exact ⟨by decide, by decide⟩⟩
theorem okB : OkPs lB := ⟨fun x hx => by rw [List.mem_singleton.1 hx]; exact kb_len, fun x hx => by rw [List.mem_singleton.1 hx]; exact ⟨by decide, by decide⟩⟩
theorem lastB (k : List UInt8) : lastL lB k = if kb = k then some sy else none := rfl
theorem lastAB (k : List UInt8) : lastL lAB k = if kb = k then some sy else if ka = k then some sx else none := by
 show (match lastL lB k with | some v => some v | none => if ka = k then some sx else none) = _
 rw [lastB]
 by_cases h : kb = k
 ·rw [if_pos h, if_pos h]
 ·rw [if_neg h, if_neg h]
theorem hasAB : Has (putAll .nil lAB) (lastL lAB) := okAB.has
theorem hasB : Has (putAll .nil lB) (lastL lB) := okB.has
theorem getAB_b : Tr.get (putAll .nil lAB) (path kb) = some (some sy) := by rw [hasAB.get kb kb_len, lastAB, if_pos rfl]
theorem getAB_a : Tr.get (putAll .nil lAB) (path ka) = some (some sx) := by rw [hasAB.get ka ka_len, lastAB, if_neg (fun e => ka_ne e.symm), if_pos rfl]
theorem delAB : del (putAll .nil lAB) (path ka) = putAll .nil lB := (hasAB.del ka_len).one (hasB.congr fun k hk => by
 show lastL lB k = if k = ka then none else lastL lAB k
 rw [lastAB, lastB]
 by_cases h : k = ka
 ·rw [if_pos h, if_neg (fun e => ka_ne (h ▸ e.symm))]
 ·rw [if_neg h]
  by_cases h2 : kb = k
  ·rw [if_pos h2, if_pos h2]
  ·rw [if_neg h2, if_neg h2, if_neg (fun e => h e.symm)])
theorem kindAB : (nodeT (putAll .nil lAB)).kd = 3 := by kernel_rfl
theorem kidsAB : (kidsT (putAll .nil lAB)).length = 2 := by kernel_rfl
theorem neB : putAll .nil lB ≠ .nil := put_ne _ _ _
theorem encB : encT (putAll .nil lB) ≠ eB := fun e => by
 obtain ⟨h1, h2, _⟩ := tree_node hasB.good (Nat.le_refl _) hasB.fine neB (full_stub hasB.full)
 have h3 := put_pos (nodeT_length _) h1
 rw [h2] at e
 have := congrArg ByteArray.size e
 rw [ba_size] at this
 have h4 : eB.size = 0 := rfl
 omega
end Tm
end
section
open Go.RowKit
namespace No
open Rl (sameB sameB_true sameB_false text_ne)
theorem op_eql_st {ev : Operand → Value} {o : Oper} {w : World} (s : ByteArray) (h : ∃ x y, o.op = .binOp .eql 9 x y 9 ∧ ev x = .string s ∧ ev y = .string s) :
  (execOp ev o).run Tryz.prog w = .ok (.value (.bool true)) w := by
 obtain ⟨x, y, ho, hx, hy⟩ := h
 have : (binOp .eql 9 (.string s) (.string s)).run Tryz.prog w = .ok (.bool true) w := by
  unfold binOp
  simp [go_sem, Op.stringOp]
 unfold execOp
 simp [ho, hx, hy, go_sem]
end No
end
section
open Go.RowKit
namespace Rf
open Rl Ni No
theorem kids_new (N : Nd) (a : Option Addr) (n c : Nat) (hl : N.ks.length = 16) (w : World) : Calls Tryz.prog 53 #[.agg (ndC N a n c)] w (fun e w' => ∃ (a' : Option Addr) (n' cap' : Nat), e = .returned (.slice a' n' cap') ∧ IsSt w' a' n' cap' (kidsL N.ks) ∧ (∀ b off, a' = some ⟨b, off, none⟩ → w.heap.size ≤ b) ∧ Below w.heap.size w w') := by
 obtain ⟨i0, hi, hz0, hz1, hz2⟩ := info_st_parts
 have HI : Hid (_ ∧ _ ∧ _ ∧ _) := hid ⟨hi, hz0, hz1, hz2⟩
 have HO : Hid (OwnN (w.alloc (.cells (ndC N a n c) 58)) w.heap.size N a n c) := hid (Rg.Own.new _ _ _)
 have HL := hid hl
 clear hi hz0 hz1 hz2 hl
 go_enter Tryz.func53, Tryz.ntmps53
 go_wp2_with (refine Rg.run rfl _ _ (op_load_ks HO.out HL.out ⟨_, rfl, rfl⟩) ?_)
 go_loopw [3, 8] (fun v i wr => ∃ j : Nat, j ≤ 16 ∧ i = .int .i64 j ∧ Hid (wr.ownsRow (w.heap.size + 1) 9 1 v (kidsL (N.ks.take j)).length ((kidsL (N.ks.take j)).map Value.string)) ∧ Below (w.heap.size + 1) (w.alloc (.cells (ndC N a n c) 58)) wr) (fun _ i _ => 16 - (intOf i).toNat)
 case atStart => exact ⟨0, Nat.zero_le _, rfl, hid (World.ownsRow_nil _ _ _ _), Below.refl _ _⟩
 case round =>
  obtain ⟨j, hj, rfl, HR, hB⟩ := hrel
  have hsz : w.heap.size + 1 ≤ wr.heap.size := by have := hB.size; simp at this; omega
  by_cases hlt : j < 16
  ·have HS := hid (kidsL_snoc N.ks j (by rw [HL.out]; exact hlt))
   have hkl := kidsL_len N.ks j
   obtain ⟨L, hL⟩ : ∃ L, kidsL (N.ks.take j) = L := ⟨_, rfl⟩
   rw [hL] at HS hkl HR
   clear hL
   by_cases hk : (N.ks.getD j eB).size = 0
   ·have HS' : Hid (kidsL (N.ks.take (j + 1)) = L) := hid (by rw [HS.out, if_neg (by simpa using hk), List.append_nil])
    have HE : Hid (N.ks.getD j eB = eB) := hid (size_zero hk)
    clear hk
    go_wp2_with (refine Rg.run rfl (.string (N.ks.getD j eB)) _ (op_index_ks HL.out hlt ⟨_, _, rfl, rfl, rfl⟩) ?_; rw [HE.out])
    go_roundw
    case rel => exact ⟨j + 1, by omega, by go_num, by rw [HS'.out]; exact HR, hB⟩
    case measure => simp [intOf]; omega
   ·have HS' : Hid (kidsL (N.ks.take (j + 1)) = L ++ [N.ks.getD j eB]) := hid (by rw [HS.out, if_pos hk])
    have hne := Ni.not_empty (s := N.ks.getD j eB) (by omega)
    obtain ⟨K, hK⟩ : ∃ K, N.ks.getD j eB = K := ⟨_, rfl⟩
    have HK := hid hK
    rw [hK] at hne HS'
    clear hK hk HS
    go_wp2_with (first
     | (refine Rg.run rfl (.string (N.ks.getD j eB)) _ (op_index_ks HL.out hlt ⟨_, _, rfl, rfl, rfl⟩) ?_; rw [HK.out])
     | (at_builtin; refine wpList_append_own _ rfl _ _ 108 rfl (w.heap.size + 1) 9 i0 (.string ⟨#[]⟩) 1 16 Tryz.underlying108 HI.out.1 HI.out.2.1 HI.out.2.2.1 HI.out.2.2.2 rfl (by decide) _ _ _ rfl (HR.out.alloc _) ⟨wr.heap.size, 0, none⟩ 1 1 [.string K] rfl rfl ?d1 ?d2 ?d3 ?d4 ?d5 ?_))
    case d1 => exact Bu.cell_one_new' _ _ _ _
    case d2 => intro u hu; simp at hu; subst hu; rfl
    case d3 => unfold maxLen; omega
    case d4 => omega
    case d5 => simp; omega
    intro v' w2 hown2 hgrow _
    have hlt' := HR.out.lt
    go_wp2
    go_roundw
    case rel => exact ⟨j + 1, by omega, by go_num, hid (by rw [HS'.out, List.length_append, List.map_append]; exact hown2), (hB.alloc hsz _).grown hgrow (by simp; omega) (fun g hg => (hlt' g hg).1)⟩
    case measure => simp [intOf]; omega
  ·obtain rfl : j = 16 := by omega
   have hO := HR.out
   rw [List.take_of_length_le (by rw [HL.out]; exact Nat.le_refl _)] at hO
   obtain ⟨a', cap', rfl, hb⟩ := IsSt.ofOwn hO
   have hlt2 := hO.lt
   have HF : Hid (∀ b off, a' = some ⟨b, off, none⟩ → w.heap.size ≤ b) := hid (fun b off e => by
    subst e
    have := (hlt2 b rfl).1
    omega)
   have HB := hid hb
   have HBe : Hid (Below w.heap.size w wr) := hid (of_al hB)
   clear hO hb hlt2
   go_wp2
   go_ret
   exact ⟨a', _, cap', rfl, HB.out, HF.out, HBe.out⟩
end Rf
end
section
open Go.RowKit
namespace Tm
open Tr Ni Pk Ky No Rf Rl
open Sm (Tab)
def YesP (M : Mp) (w : World) (e : Ending) (w' : World) : Prop := e = .returned (.bool true) ∧ Fr M M w w' ∧ Inv M w' ∧ Tab w'
theorem make1_any (M : Mp) (p : Option Addr) (t : T) (L : Nat) (g : Tr.Good t L) (hL : L ≤ 64) (f : Fine t) (w : World) (hi : Inv M w) (ht : IsT M p t) (hT : Tab w) :
  Calls Tryz.prog 56 #[tv p, .string (ref t)] w (YesP M w) := by
 obtain ⟨w1, hw1⟩ : ∃ w1, w1 = w.alloc (.cells #[.pointer p] 25) := ⟨_, rfl⟩
 have hO1 : Rg.Own w1 w.heap.size #[.pointer p] 25 := by rw [hw1]; exact Rg.Own.new _ _ _
 have hb1 : Below w.heap.size w w1 := by rw [hw1]; exact al1 _ _
 have HO := hid hO1
 have HC := hid (tree_ref M p t L g hL f w1 (hi.below hb1) ht (hT.below hb1 hT.pos))
 have HI := hid hi
 have HF : Hid (Fr M M w w1) := hid (Fr.below M hb1)
 obtain ⟨s, hs⟩ : ∃ s, ref t = s := ⟨_, rfl⟩
 rw [hs] at HC ⊢
 clear hO1 hb1 hi ht hT f g hs
 subst hw1
 go_enter Tryz.func56, Tryz.ntmps56
 go_wp2_with (refine Rg.run rfl _ _ (op_load_tree (own_cell (j := 0) HO.out rfl) ⟨_, rfl, rfl⟩) ?_)
 refine HC.out.mono ?_
 rintro e w2 ⟨rfl, hf, hi2, hT2⟩
 have HY : Hid (Fr M M w w2 ∧ Inv M w2 ∧ Tab w2) := hid ⟨HF.out.trans HI.out hf, hi2, hT2⟩
 clear hf hi2 hT2 HC HF
 go_wp2_with (refine Rg.run rfl _ _ (op_eql_st s ⟨_, _, rfl, rfl, rfl⟩) ?_)
 go_ret
 exact ⟨rfl, HY.out.1, HY.out.2.1, HY.out.2.2⟩
theorem IsSt.frm {M M' : Mp} {w w' : World} {a : Option Addr} {n c : Nat} {xs : List ByteArray} (h : IsSt w a n c xs) (f : Fr M M' w w') (hm : ∀ b off, a = some ⟨b, off, none⟩ → M.at_ b = none) : IsSt w' a n c xs := by
 refine ⟨h.1, h.2.1, h.2.2.1, fun j hj => ?_⟩
 obtain ⟨b, off, h1, h2, h3⟩ := h.2.2.2 j hj
 exact ⟨b, off, h1, Nat.lt_of_lt_of_le h2 f.size, by rw [World.cell?_of_block (w := w) (a := ⟨b, off + j, none⟩) (f.block b h2 (hm b off h1))]; exact h3⟩
theorem equal_any (M : Mp) (ps : List (Option Addr)) (ts : List T) (a : Option Addr) (n c : Nat) (b : Option Addr) (m d : Nat) (w : World) (hP : Ptrs w a n c ps) (hA : Are M ps ts) (hts : ∀ s ∈ ts, ∃ L, Tr.Good s L ∧ L ≤ 64 ∧ Fine s)
  (hS : IsSt w b m d (ts.map ref)) (hnew : ∀ g off, b = some ⟨g, off, none⟩ → M.at_ g = none) (hn : n ≤ 1000000) (hi : Inv M w) (hT : Tab w) :
  Calls Tryz.prog 55 #[.slice a n c, .slice b m d, .func (Fn.func 56) #[] #[]] w (YesP M w) := by
 have hm := hP.2.1
 have hnc := hP.1
 have hl := hP.2.2.1
 have hmn : m = n := by rw [← hS.2.2.1, List.length_map, ← hA.1, hl]
 subst hmn
 unfold maxLen at hm
 have H := hid hP
 have HA := hid hA
 have HTs := hid hts
 have HS := hid hS
 have HN := hid hnew
 have HI := hid hi
 have HL := hid hl
 have HT := hid hT
 clear hP hA hts hS hnew hi hT hl
 go_enter Tryz.func55, Tryz.ntmps55
 go_wp2_with fail
 go_loopw [17] (fun i wr => ∃ j : Nat, j ≤ m ∧ i = .int .i64 j ∧ Hid (Fr M M w wr ∧ Inv M wr ∧ Tab wr)) (fun i _ => m - (intOf i).toNat)
 case atStart => exact ⟨0, Nat.zero_le _, rfl, hid ⟨Fr.refl _ _, HI.out, HT.out⟩⟩
 case round =>
  obtain ⟨j, hj, rfl, HF⟩ := hrel
  by_cases hlt : j < m
  ·have hji : (j : Int) < m := by omega
   obtain ⟨g1, off1, rfl, hblt, hc⟩ := (H.out.frm HI.out HF.out.1).2.2.2.2 j hlt
   obtain ⟨g2, off2, rfl, hblt2, hc2⟩ := (IsSt.frm HS.out HF.out.1 HN.out).2.2.2 j hlt
   have hjt : j < ts.length := by rw [← HA.out.1, HL.out]; exact hlt
   have ht := HA.out.2 j (by rw [HL.out]; exact hlt)
   have he : (ts.map ref).getD j eB = ref (ts.getD j .nil) := by
    simp [List.getD, hjt]
   have hmem : ts.getD j .nil ∈ ts := by
    rw [List.getD_eq_getElem?_getD, List.getElem?_eq_getElem hjt]
    exact List.getElem_mem _
   obtain ⟨L, hg, hL, hf⟩ := HTs.out _ hmem
   rw [he] at hc2
   obtain ⟨t, htt⟩ : ∃ t, ts.getD j .nil = t := ⟨_, rfl⟩
   obtain ⟨p, hp⟩ : ∃ p, ps.getD j none = p := ⟨_, rfl⟩
   rw [hp] at hc ht
   rw [htt] at hc2 ht hg hf
   have hNew := Rg.Own.new wr #[.pointer none] 25
   have HNw := hid hNew
   have HC : Hid (∀ w5, Below wr.heap.size wr w5 → Calls Tryz.prog 56 #[tv p, .string (ref t)] w5 (YesP M w5)) := hid (fun w5 hb5 => make1_any M p t L hg hL hf w5 (HF.out.2.1.below hb5) ht (HF.out.2.2.below hb5 HF.out.2.2.pos))
   obtain ⟨s, hs⟩ : ∃ s, ref t = s := ⟨_, rfl⟩
   rw [hs] at HC hc2
   have HC2 : Hid (∀ w5, Below wr.heap.size wr w5 → w5.cell? ⟨g2, off2 + j, none⟩ = some (.string s)) := hid (fun w5 hb5 => cell_on hb5 hc2)
   clear he hmem hg hL hf htt hp hs hNew ht hc2 hjt
   go_wp2_with (first
    | (refine Rg.run rfl _ _ (op_load_tree hc ⟨_, rfl, rfl⟩) ?_)
    | (refine Rg.run rfl _ _ (run_alloc_tree _ _ _ wr.heap.size rfl rfl) ?_)
    | (refine wpl_store_tree HNw.out (by decide) _ rfl _ _ rfl rfl rfl ?_; intro w5 hO5 hu5; have HO5 := hid hO5; have HB5 : Hid (Below wr.heap.size wr w5) := hid (hu5.below (al1 _ _) (Nat.le_refl _)); have c2 := HC2.out w5 HB5.out; clear hO5 hu5 HC2)
    | (refine Rg.run rfl _ _ (op_load_tree (own_cell (j := 0) HO5.out rfl) ⟨_, rfl, rfl⟩) ?_)
    | (refine Rg.run rfl _ _ (op_load_str c2 ⟨_, rfl, rfl⟩) ?_))
   refine (HC.out w5 HB5.out).mono ?_
   rintro e w6 ⟨rfl, hf6, hi6, hT6⟩
   have HF6 : Hid (Fr M M w w6 ∧ Inv M w6 ∧ Tab w6) := hid ⟨(HF.out.1.trans HI.out (Fr.below M HB5.out)).trans HI.out hf6, hi6, hT6⟩
   clear hf6 hi6 hT6 HC HF hc c2
   go_wp2_with fail
   go_roundw
   case rel => exact ⟨j + 1, by omega, by go_num, HF6⟩
   case measure => simp [intOf]; omega
  ·obtain rfl : j = m := by omega
   go_wp2_with fail
   go_ret
   exact ⟨rfl, HF.out.1, HF.out.2.1, HF.out.2.2⟩
end Tm
end
section
open Go.RowKit
namespace Tm
open Tr Ni Pk Ky No Rf Rl
open Sm (Tab)
theorem boxT (w : World) : ∃ w1, w1 = w.alloc (.cells #[.pointer none] 25) ∧ Rg.Own w1 w.heap.size #[.pointer none] 25 ∧ Below w.heap.size w w1 ∧ w1.heap.size = w.heap.size + 1 := ⟨_, rfl, Rg.Own.new _ _ _, al1 _ _, by simp⟩
theorem drop_nil (M : Mp) (r : ByteArray) (hr : r.size ≤ maxLen) (hk : kindP r = 0 ∨ kindP r = 3) (w : World) (hi : Inv M w) :
  Calls Tryz.prog 26 #[.string r] w (GotT M w .nil) := by
 obtain ⟨w1, hw1, hO1, hb1, hs1⟩ := boxT w
 have HK := hid (Rf.kind_any r hr w1)
 have HO := hid hO1
 have HE : Hid (∀ w2, Below w1.heap.size w1 w2 → ∀ w3, Rg.Upd w2 w.heap.size w3 → GotT M w .nil (.returned (tv none)) w3) := hid (fun w2 hb2 w3 hu => got_old hi (show IsT M none .nil from rfl) (hu.below (bst hb1 hb2) (Nat.le_refl _)))
 clear hO1 hb1 hs1 hi hr
 subst hw1
 go_enter Tryz.func26, Tryz.ntmps26
 go_wp2_with (refine Rg.run rfl _ _ (run_alloc_tree _ _ _ _ rfl rfl) ?_)
 refine HK.out.mono ?_
 rintro e w2 ⟨rfl, hb2⟩
 have HO2 := hid (HO.out.below hb2)
 have HE2 := hid (HE.out w2 hb2)
 clear hb2 HO HE HK
 rcases hk with hk | hk
 ·rw [hk]
  go_wp2_with (first
   | (refine Rg.run rfl _ _ (op_build built_nil ⟨_, rfl, rfl⟩) ?_)
   | (refine wpl_store_tree HO2.out (by decide) none rfl _ _ rfl rfl rfl ?_; intro w3 hO3 hu3; have HO3 := hid hO3; have HU3 := hid hu3; clear hO3 hu3))
  exact bodyPost_ret (res_tree rfl _ rfl HO3.out) rfl (HE2.out w3 HU3.out)
 ·rw [hk]
  go_wp2_with (first
   | (refine Rg.run rfl _ _ (op_build built_nil ⟨_, rfl, rfl⟩) ?_)
   | (refine wpl_store_tree HO2.out (by decide) none rfl _ _ rfl rfl rfl ?_; intro w3 hO3 hu3; have HO3 := hid hO3; have HU3 := hid hu3; clear hO3 hu3))
  exact bodyPost_ret (res_tree rfl _ rfl HO3.out) rfl (HE2.out w3 HU3.out)
def GotF (M : Mp) (w : World) (t : T) (e : Ending) (w' : World) : Prop := ∃ p M', e = .returned (.agg #[.pointer p]) ∧ IsT M' p t ∧ Fr M M' w w' ∧ Inv M' w' ∧ Below w.heap.size w w' ∧ ∀ k, k < w.heap.size → M'.ft k → M.ft k
theorem stub_part {M : Mp} {w w' : World} {b : Nat} {r : ByteArray} (hi : Inv M w) (hb : Below w.heap.size w w') (hB : w.heap.size ≤ b)
  (hc : w'.heap[b]? = some (.cells (partC (.stub r) none 0 0 none 0 0 0 r) 94 (0, 0))) :
  GotF M w (.stub r) (.returned (.agg #[.pointer (some ⟨b, 0, none⟩)])) w' := by
 have hn : T.stub r ≠ .nil := fun e => by cases e
 have f := Fr.more hi hb b (.stub r) hB
 have hlt : b < w'.heap.size := (Array.getElem?_eq_some_iff.1 hc).1
 refine ⟨_, Tm.more M b (.stub r) w.heap.size w'.heap.size, rfl, ⟨b, rfl, more_at _ _ _ _ _, hn⟩, f, ⟨fun k hk => hk.elim (fun h => Nat.lt_of_lt_of_le (hi.lt_ k h) hb.size) (fun h => h.2), fun k u hm => ?_⟩, hb, fun k hk h => h.elim (fun h => h) (fun h => absurd h.1 (by omega))⟩
 by_cases e : k = b
 ·subst e
  rw [more_at] at hm
  obtain rfl := Option.some.inj hm
  exact ⟨hn, Or.inr ⟨hB, hlt⟩, none, 0, 0, none, 0, 0, 0, _, hc, Bs.nil _ _, Ks.nil _ _, Or.inl ⟨rfl, rfl⟩⟩
 ·rw [more_not e] at hm
  have hlt := hi.lt hm
  obtain ⟨h1, h2, a, n, c, ka, kn, kc, d, r, g1, g2, g3, g4⟩ := hi.part_ k u hm
  exact ⟨h1, Or.inl h2, a, n, c, ka, kn, kc, d, r, (hb.block k hlt).trans g1, g2.fr hi f, g3.fr hi f, g4⟩
theorem drop_stub (M : Mp) (r : ByteArray) (hr : r.size ≤ maxLen) (hk : kindP r = 1 ∨ kindP r = 2) (w : World) (hi : Inv M w) :
  Calls Tryz.prog 26 #[.string r] w (GotF M w (.stub r)) := by
 obtain ⟨w1, hw1, hO1, hb1, hs1⟩ := boxT w
 have HK := hid (Rf.kind_any r hr w1)
 have HO : Hid (∀ w2, Below w1.heap.size w1 w2 → Rg.Own (w2.alloc (.cells (partC (.stub r) none 0 0 none 0 0 0 r) 94)) w.heap.size #[.pointer none] 25) := hid (fun w2 hb2 => (hO1.below hb2).below (al1 _ _))
 have HE : Hid (∀ w2, Below w1.heap.size w1 w2 → ∀ w3, Rg.Upd (w2.alloc (.cells (partC (.stub r) none 0 0 none 0 0 0 r) 94)) w.heap.size w3 → GotF M w (.stub r) (.returned (tv (some ⟨w2.heap.size, 0, none⟩))) w3) := hid (fun w2 hb2 w3 hu => by
  have hb := hu.below (bst (bst hb1 hb2) (al1 _ _)) (Nat.le_refl _)
  have hs2 := hb2.size
  have hP : Rg.Own (w2.alloc (.cells (partC (.stub r) none 0 0 none 0 0 0 r) 94)) w2.heap.size (partC (.stub r) none 0 0 none 0 0 0 r) 94 := Rg.Own.new _ _ _
  exact stub_part hi hb (by omega) (heap_of hP hu (by omega)))
 clear hO1 hb1 hs1 hi hr
 subst hw1
 go_enter Tryz.func26, Tryz.ntmps26
 go_wp2_with (refine Rg.run rfl _ _ (run_alloc_tree _ _ _ _ rfl rfl) ?_)
 refine HK.out.mono ?_
 rintro e w2 ⟨rfl, hb2⟩
 have HO2 := hid (HO.out w2 hb2)
 have HE2 := hid (HE.out w2 hb2)
 clear hb2 HO HE HK
 rcases hk with hk | hk
 ·rw [hk]
  go_wp2_with (first
   | (refine Rg.run rfl _ _ (op_build (built_stub r) ⟨_, rfl, rfl⟩) ?_)
   | (refine Rg.run rfl _ _ (op_box_part (t := .stub r) ⟨_, rfl, rfl⟩) ?_)
   | (refine wpl_store_tree HO2.out (by decide) (some ⟨w2.heap.size, 0, none⟩) rfl _ _ rfl rfl rfl ?_; intro w3 hO3 hu3; have HO3 := hid hO3; have HU3 := hid hu3; clear hO3 hu3))
  exact bodyPost_ret (res_tree rfl _ rfl HO3.out) rfl (HE2.out w3 HU3.out)
 ·rw [hk]
  go_wp2_with (first
   | (refine Rg.run rfl _ _ (op_build (built_stub r) ⟨_, rfl, rfl⟩) ?_)
   | (refine Rg.run rfl _ _ (op_box_part (t := .stub r) ⟨_, rfl, rfl⟩) ?_)
   | (refine wpl_store_tree HO2.out (by decide) (some ⟨w2.heap.size, 0, none⟩) rfl _ _ rfl rfl rfl ?_; intro w3 hO3 hu3; have HO3 := hid hO3; have HU3 := hid hu3; clear hO3 hu3))
  exact bodyPost_ret (res_tree rfl _ rfl HO3.out) rfl (HE2.out w3 HU3.out)
theorem kind_ref {t : T} {L : Nat} (g : Tr.Good t L) (hL : L ≤ 64) (f : Fine t) (hn : t ≠ .nil) : kindP (ref t) = 1 ∨ kindP (ref t) = 2 := by
 obtain ⟨_, h1, h2⟩ := may_tree t L g hL f hn
 unfold kindP
 rw [if_neg h2]
 by_cases h : (ref t).size = 32
 ·rw [if_pos h]; exact .inl rfl
 ·rw [if_neg h, if_pos h1]; exact .inr rfl
end Tm
end
section
open Go.RowKit
namespace Tm
open Tr Ni Pk Ky No Rf Rl
open Sm (Tab)
def fillP (ks : List ByteArray) (ps : List (Option Addr)) (i : Nat) : Option Addr := if (ks.getD i eB).size = 0 then none else ps.getD (kidsL (ks.take i)).length none
def fillRow (ks : List ByteArray) (ps : List (Option Addr)) (j : Nat) : List (Option Addr) := (List.range 16).map fun i => if i < j then fillP ks ps i else none
section
variable {ks : List ByteArray} {ps : List (Option Addr)} {j : Nat}
theorem fillRow_len : (fillRow ks ps j).length = 16 := by simp [fillRow]
theorem fillRow_zero : fillRow ks ps 0 = nils := rfl
theorem fillRow_set (hj : j < 16) : fillRow ks ps (j + 1) = (fillRow ks ps j).set j (fillP ks ps j) := by
 apply List.ext_getElem
 ·rw [List.length_set, fillRow_len, fillRow_len]
 ·intro i h1 h2
  rw [fillRow_len] at h1
  rw [List.getElem_set]
  simp only [fillRow, List.getElem_map, List.getElem_range]
  by_cases e : j = i
  ·subst e
   rw [if_pos rfl, if_pos (Nat.lt_succ_self _)]
  ·rw [if_neg e]
   by_cases h : i < j
   ·rw [if_pos h, if_pos (by omega)]
   ·rw [if_neg h, if_neg (by omega)]
theorem fillRow_skip (hj : j < 16) (h : fillP ks ps j = none) : fillRow ks ps (j + 1) = fillRow ks ps j := by
 apply List.ext_getElem
 ·rw [fillRow_len, fillRow_len]
 ·intro i h1 h2
  simp only [fillRow, List.getElem_map, List.getElem_range]
  by_cases e : i = j
  ·subst e
   rw [if_pos (Nat.lt_succ_self _), if_neg (Nat.lt_irrefl _), h]
  ·by_cases h : i < j
   ·rw [if_pos h, if_pos (by omega)]
   ·rw [if_neg h, if_neg (by omega)]
theorem fillRow_at (i : Nat) (hi : i < 16) : (fillRow ks ps 16).getD i none = fillP ks ps i := by
 have : i < (fillRow ks ps 16).length := by rw [fillRow_len]; exact hi
 rw [List.getD_eq_getElem?_getD, List.getElem?_eq_getElem this]
 simp [fillRow, hi]
theorem kidsL_mono (q : Nat) : (kidsL (ks.take q)).length ≤ (kidsL ks).length := by
 unfold kidsL
 exact ((List.take_sublist q ks).filter _).length_le
end
theorem Ptrs.from' {w : World} {a : Option Addr} {n c : Nat} {ps : List (Option Addr)} (h : Ptrs w a n c ps) (i : Nat) (hi : i ≤ n) : Ptrs w (fromA a c i) (n - i) (c - i) (ps.drop i) := by
 have h1 := h.1
 have h2 := h.2.1
 refine ⟨by omega, by omega, by rw [List.length_drop, h.2.2.1], fun e => ?_, fun j hj => ?_⟩
 ·unfold fromA at e
  split at e
  ·omega
  ·have : a = none := by simpa using e
   have := h.2.2.2.1 this
   omega
 ·obtain ⟨b, off, e, hlt, hc⟩ := h.2.2.2.2 (i + j) (by omega)
  refine ⟨b, off + i, ?_, hlt, ?_⟩
  ·unfold fromA
   rw [if_neg (by omega), e]
   simp [Addr.add_mid]
  ·rw [Nat.add_assoc, hc]
   simp [List.getD]
theorem placed_other (N : Nd) (hk : N.kd ≠ 3) (hl : N.ks.length = 16) (pa : Option Addr) (pn pc : Nat) (ps : List (Option Addr)) (ka : Option Addr) (kn kc : Nat) (w : World) (h : Ptrs w ka kn kc ps) (hn : kn ≤ 1000000) :
  Calls Tryz.prog 58 #[.agg (ndC N pa pn pc), .slice ka kn kc] w fun e w' => ∃ v, e = .returned v ∧ RowV w.heap.size w' v ps ∧ Below w.heap.size w w' := by
 obtain ⟨w1, hw1, hO1, hb1, hs1⟩ : ∃ w1, w1 = w.alloc (.cells (ndC N pa pn pc) 58) ∧ OwnN w1 w.heap.size N pa pn pc ∧ Below w.heap.size w w1 ∧ w1.heap.size = w.heap.size + 1 := ⟨_, rfl, Rg.Own.new _ _ _, al1 _ _, by simp⟩
 have c0 := (nd_cells hO1).1
 have k1 : (N.kd == 3) = false := by rw [beq_eq_false_iff_ne]; exact hk
 have k2 : decide (N.kd = 3) = false := decide_eq_false hk
 have HC := hid (clone_any ka kn kc ps w1 (h.below hb1) hn)
 have HB := hid hb1
 have HS := hid hs1
 clear h hO1 hb1 hs1
 subst hw1
 go_enter Tryz.func58, Tryz.ntmps58
 go_wp2_with fail
 refine HC.out.mono ?_
 rintro e w2 ⟨v, rfl, hR, hb2⟩
 have HR := hid hR
 have HB2 := hid hb2
 clear hR hb2 HC
 go_wp2_with fail
 go_ret
 have hrr := HR.out
 refine ⟨v, rfl, ?_, bst HB.out HB2.out⟩
 rcases hrr with h | ⟨g, cap, h1, h2, h3⟩
 ·exact .inl h
 ·exact .inr ⟨g, cap, h1, by rw [HS.out] at h2; omega, h3⟩
theorem placed_br (N : Nd) (hk : N.kd = 3) (hl : N.ks.length = 16) (pa : Option Addr) (pn pc : Nat) (ps : List (Option Addr)) (ka : Option Addr) (kn kc : Nat) (w : World) (h : Ptrs w ka kn kc ps) (hn : kn = (kidsL N.ks).length) :
  Calls Tryz.prog 58 #[.agg (ndC N pa pn pc), .slice ka kn kc] w fun e w' => ∃ g, e = .returned (.slice (some ⟨g, 0, none⟩) 16 16) ∧ w.heap.size ≤ g ∧ Rg.Own w' g (rowT (fillRow N.ks ps 16)) 25 ∧ Below w.heap.size w w' := by
 obtain ⟨w1, hw1, hO1, hb1, hs1⟩ : ∃ w1, w1 = w.alloc (.cells (ndC N pa pn pc) 58) ∧ OwnN w1 w.heap.size N pa pn pc ∧ Below w.heap.size w w1 ∧ w1.heap.size = w.heap.size + 1 := ⟨_, rfl, Rg.Own.new _ _ _, al1 _ _, by simp⟩
 obtain ⟨w2, hw2, hO2, hb2⟩ : ∃ w2, w2 = w1.alloc (.cells (rowT nils) 25) ∧ Rg.Own w2 (w.heap.size + 1) (rowT nils) 25 ∧ Below w1.heap.size w1 w2 := ⟨_, rfl, by rw [← hs1]; exact Rg.Own.new _ _ _, al1 _ _⟩
 have c0 := (nd_cells hO1).1
 rw [hk] at c0
 have c1 := c0
 rw [hw1] at c1
 have hkm := h.2.1
 have hkc := h.1
 unfold maxLen at hkm
 have HO := hid (hO1.below hb2)
 have HR0 := hid hO2
 have HL := hid hl
 have HB1 := hid hb1
 have HB2 : Hid (Below (w.heap.size + 1) w1 w2) := hid (by rw [← hs1]; exact hb2)
 have HH := hid (h.below hb1)
 have HHw := hid h
 have HW2 : Hid (_ = _) := hid hw2
 have HS := hid hs1
 have hgen : ∀ q, (kidsL (N.ks.take q)).length ≤ kn := fun q => by rw [hn]; exact kidsL_mono q
 have HG := hid hgen
 have HW1 : Hid (_ = _) := hid hw1
 clear h hO1 hb1 hs1 hO2 hb2 hw2 hl hgen hw1 hn hk
 go_enter Tryz.func58, Tryz.ntmps58
 go_wp2_with (first
  | (rw [← HW1.out]; refine Rg.run rfl _ _ (op_make16 (w.heap.size + 1) HS.out.symm ⟨_, _, rfl, rfl, rfl⟩) ?_; rw [← HW2.out])
  | (refine Rg.run rfl _ _ (op_load_ks HO.out HL.out ⟨_, rfl, rfl⟩) ?_))
 clear HW2 c0 c1
 go_loopw [1, 16] (fun v i wr => ∃ (j r : Nat) (a : Option Addr) (m c : Nat), j ≤ 16 ∧ r + m = kn ∧ i = .int .i64 j ∧ v = .slice a m c ∧ r = (kidsL (N.ks.take j)).length ∧ Hid (Ptrs w1 a m c (ps.drop r)) ∧ Hid (Rg.Own wr (w.heap.size + 1) (rowT (fillRow N.ks ps j)) 25) ∧ Hid (Below (w.heap.size + 1) w1 wr)) (fun _ i _ => 16 - (intOf i).toNat)
 case atStart => exact ⟨0, 0, ka, kn, kc, Nat.zero_le _, Nat.zero_add _, rfl, rfl, rfl, HH, hid (by rw [fillRow_zero]; exact HR0.out), HB2⟩
 case round =>
  obtain ⟨j, r, a, m0, c, hj, hrm, rfl, rfl, hr, HP, HRw, HB⟩ := hrel
  clear HR0 HB2 HH
  by_cases hlt : j < 16
  ·have i1 : (j : Int) < 16 := by omega
   have HSn := hid (kidsL_snoc N.ks j (by rw [HL.out]; exact hlt))
   have hg1 := HG.out (j + 1)
   by_cases hkz : (N.ks.getD j eB).size = 0
   ·have HSk : Hid (kidsL (N.ks.take (j + 1)) = kidsL (N.ks.take j)) := hid (by rw [HSn.out, if_neg (by simpa using hkz), List.append_nil])
    have HFk : Hid (fillRow N.ks ps (j + 1) = fillRow N.ks ps j) := hid (fillRow_skip hlt (if_pos hkz))
    have HE : Hid (N.ks.getD j eB = eB) := hid (size_zero hkz)
    clear hkz
    go_wp2_with (refine Rg.run rfl (.string (N.ks.getD j eB)) _ (op_index_ks HL.out hlt ⟨_, _, rfl, rfl, rfl⟩) ?_; rw [HE.out])
    go_roundw
    case rel => exact ⟨j + 1, r, _, _, _, by omega, hrm, by go_num, rfl, by rw [HSk.out]; exact hr, HP, hid (by rw [HFk.out]; exact HRw.out), HB⟩
    case measure => simp [intOf]; omega
   ·replace HSn : Hid (kidsL (N.ks.take (j + 1)) = kidsL (N.ks.take j) ++ [N.ks.getD j eB]) := hid (by rw [HSn.out, if_pos hkz])
    rw [HSn.out, List.length_append, List.length_singleton, ← hr] at hg1
    obtain ⟨m, rfl⟩ : ∃ m, m0 = m + 1 := ⟨m0 - 1, by omega⟩
    have hne := Ni.not_empty (s := N.ks.getD j eB) (by omega)
    obtain ⟨b, off, rfl, hblt, hcc⟩ := HP.out.2.2.2.2 0 (by omega)
    have hpp : (ps.drop r).getD 0 none = fillP N.ks ps j := by
     unfold fillP
     rw [if_neg hkz, ← hr]
     simp [List.getD]
    rw [hpp, Nat.add_zero] at hcc
    have HFs := hid (fillRow_set (ks := N.ks) (ps := ps) hlt)
    obtain ⟨p, hp⟩ : ∃ p, fillP N.ks ps j = p := ⟨_, rfl⟩
    rw [hp] at hcc HFs
    have HC : Hid (∀ wz, Below (w.heap.size + 1) w1 wz → wz.cell? ⟨b, off, none⟩ = some (.pointer p)) := hid (fun wz hb => (Below.cell (p := ⟨b, off, none⟩) hb (by rw [← HS.out]; exact hblt)).trans hcc)
    have HPn : Hid (Ptrs w1 (fromA (some ⟨b, off, none⟩) c 1) (m + 1 - 1) (c - 1) (ps.drop (r + 1))) := hid (by
     have := HP.out.from' 1 (by omega)
     rwa [List.drop_drop] at this)
    have hm0 : (0 : Int) < ((m + 1 : Nat) : Int) := by omega
    have hcm := HP.out.1
    have hcx := HP.out.2.1
    unfold maxLen at hcx
    obtain ⟨K, hK⟩ : ∃ K, N.ks.getD j eB = K := ⟨_, rfl⟩
    have HK := hid hK
    rw [hK] at hne HSn
    clear hkz hpp hp hcc hblt hK
    go_wp2_with (refine Rg.run rfl (.string (N.ks.getD j eB)) _ (op_index_ks HL.out hlt ⟨_, _, rfl, rfl, rfl⟩) ?_; rw [HK.out])
    have h0 := HRw.out
    refine wp_region_noPanic ?_
    refine wp_region_held_drew (S := fun w' => Below (w.heap.size + 1) w1 w') (by kernel_rfl) (HB.out.drew) (fun hld => ?_)
    replace h0 := h0.drew
    refine Rg.tk (i := 0) rfl ?_
    try simp only [Act.put, Rg.s]
    refine Rg.tk (i := 1) rfl ?_
    try simp only [Act.put, Rg.s]
    refine Rg.tk (i := 2) rfl ?_
    try simp only [Act.put, Rg.s]
    refine Rg.tk (i := 3) rfl ?_ (hy := by intro wz hSw; (have q0 := hm0; go_simp <;> with_reducible rfl))
    try simp only [Act.put, Rg.s]
    refine Rg.tk (i := 4) rfl ?_ (hy := by intro wz hSw; (refine op_load_tree (HC.out wz hSw) ?_; exact ⟨_, rfl, rfl⟩))
    try simp only [Act.put, Rg.s]
    refine Rg.tk (i := 5) rfl ?_
    try simp only [Act.put, Rg.s]
    refine Rg.tk (i := 6) rfl ?_ (hy := by intro wz hSw; (refine op_from under_trees size_tree (a := some ⟨b, off, none⟩) (n := m + 1) (c := c) (i := 1) (by omega : 1 ≤ m + 1) ?_; exact ⟨_, _, rfl, rfl, rfl⟩))
    try simp only [Act.put, Rg.s]
    refine Rg.tk (i := 7) rfl ?_ (hy := by intro wz hSw; (have q0 := i1; go_simp <;> with_reducible rfl))
    try simp only [Act.put, Rg.s]
    refine Rg.rd (i := 8) rfl fun K hK => ?_
    refine meet_store_tree (by rfl) h0 (off := j) (by simpa [rowT, fillRow_len] using hlt) p ⟨_, _, rfl, rfl, rfl⟩ ?_
    rintro w6 hn hu
    have HB6 : Hid (Below (w.heap.size + 1) w1 w6) := hid (hu.below hld (Nat.le_refl _))
    rw [rowT_set] at hn
    replace h0 := hn
    clear hn hu
    refine hK.out _ _ ?_ (fun hld => ?_)
    ·exact HB6.out
    clear hK K
    try simp only [Act.put, Rg.s]
    refine Rg.tk (i := 9) rfl ?_
    try simp only [Act.put, Rg.s]
    refine wpAnyH_done (by kernel_rfl) ?_ _
    refine NoPanic.normal ?_
    have HO6 := hid h0
    clear h0 hld
    go_wp2
    go_roundw
    case rel => exact ⟨j + 1, r + 1, _, _, _, by omega, by omega, by go_num, rfl, by rw [HSn.out, List.length_append, List.length_singleton, hr], HPn, hid (by rw [HFs.out]; exact HO6.out), HB6⟩
    case measure => simp [intOf]; omega
  ·obtain rfl : j = 16 := by omega
   go_wp2_with fail
   go_ret
   exact ⟨w.heap.size + 1, rfl, by omega, HRw.out, HB1.out.trans (Below.mono HB.out (by omega))⟩
end Tm
end
end Go.Proofs.YtgolhnfkmmajpaaGreatDoor
