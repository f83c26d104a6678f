/-
 The contract of Of: the tree of pairs.
-/
import Derived.Test.YtgolhnfkmmajpaaGreatDoorMa25
import Derived.Test.YtgolhnfkmmajpaaGreatDoorMa18
import Derived.Test.YtgolhnfkmmajpaaGreatDoorMa23
import Derived.Test.YtgolhnfkmmajpaaGreatDoorMa1
import Derived.ChangeSlices
import Derived.Lib.HexFns2
import Derived.Deep.Slices
open Go.Lib (hid)
set_option linter.unusedSimpArgs false
set_option linter.unusedVariables false
set_option maxHeartbeats 40000000
set_option maxRecDepth 100000
namespace Go.Proofs.YtgolhnfkmmajpaaGreatDoor
section
open Go.RowKit
namespace Tm
open Tr Ni Pk Ky
theorem Bx.fr {M M' : Mp} {w w' : World} {g : Nat} {cs : Array Value} {t : TypeId} (h : Bx M w g cs t) (f : Fr M M' w w') (b : Below w.heap.size w w') : Bx M' w' g cs t := h.got f b
theorem St.te {M M1 : Mp} {w w1 w2 : World} {t : T} {c : Int} {e : Ending} (s : St M w M1 w1) (h : GotTE M1 w1 t c e w2) : ∃ p M2, e = .returned (.tuple #[tv p, .int .i64 c]) ∧ IsT M2 p t ∧ St M w M2 w2 ∧ Fr M1 M2 w1 w2 ∧ Below w1.heap.size w1 w2 := by
 obtain ⟨p, M2, he, ht, f, i, b⟩ := h
 exact ⟨p, M2, he, ht, ⟨s.f.trans s.i0 f, i, bst s.b b, s.i0⟩, f, b⟩
def OkPs (l : List Tr.Pair) : Prop := (∀ x ∈ l, x.1.length = 32) ∧ ∀ x ∈ l, x.2.size ≠ 0 ∧ x.2.size ≤ 65552
theorem OkPs.has {l : List Tr.Pair} (h : OkPs l) : Has (putAll .nil l) (lastL l) := has_all l.length l rfl h.1 h.2
theorem OkPs.take {l : List Tr.Pair} (h : OkPs l) (j : Nat) : OkPs (l.take j) := ⟨fun x hx => h.1 x (List.mem_of_mem_take hx), fun x hx => h.2 x (List.mem_of_mem_take hx)⟩
theorem has_get {t : T} {m : Tr.Key → Option ByteArray} (h : Has t m) {k : Tr.Key} (hk : k.length = 32) : Tr.get t (path k) ≠ none := by
 rw [h.get k hk]
 intro e
 cases e
theorem of_any (M : Mp) (a : Option Addr) (n c : Nat) (l : List Tr.Pair) (hok : OkPs l) (w : World) (hi : Inv M w) (h : IsPs w a n c l) (hn : n ≤ 1000000) :
  Calls Tryz.prog 19 #[.slice a n c] w (GotT M w (putAll .nil l)) := by
 obtain ⟨w2, hw2, hO0, hO1, hb2, hs2⟩ := enter2 w none
 have hS2 : St M w M w2 := (St.refl hi).below hb2
 have hX0 : Bx M w2 w.heap.size #[.pointer none] 25 := ⟨hO0, hi.free (by omega), one_no _⟩
 have hX1 : Bx M w2 (w.heap.size + 1) #[.pointer none] 25 := ⟨hO1, hi.free (by omega), one_no _⟩
 have hl := h.len
 have hcap := h.1
 have hmx := h.2.1
 unfold maxLen at hmx
 have H := hid h
 have HOk := hid hok
 have HL := hid hl
 have HS2 := hid hS2
 have HX0 := hid hX0
 have HX1 := hid hX1
 have HW2 : Hid (_ = _) := hid hw2
 clear hO0 hO1 hb2 hs2 hw2 hS2 hX0 hX1 h hok hl hi
 go_enter Tryz.func19, Tryz.ntmps19
 go_wp2_with (first | (refine Rg.run rfl _ _ (run_alloc_tree _ _ _ w.heap.size rfl rfl) ?_) | (refine Rg.run rfl _ _ (run_alloc_tree _ _ _ (w.heap.size + 1) (by simp) rfl) ?_))
 rw [← HW2.out]
 clear HW2
 go_loopw [10] (fun i wr => ∃ (j : Nat) (p : Option Addr) (Mr : Mp), j ≤ n ∧ i = .int .i64 j ∧ Hid (St M w Mr wr) ∧ Hid (Bx Mr wr w.heap.size #[.pointer none] 25) ∧ Hid (Bx Mr wr (w.heap.size + 1) #[.pointer p] 25) ∧ Hid (IsT Mr p (putAll .nil (l.take j)))) (fun i _ => n - (intOf i).toNat)
 case atStart => exact ⟨0, none, M, Nat.zero_le _, rfl, HS2, HX0, HX1, hid rfl⟩
 case round =>
  obtain ⟨j, p, Mr, hj, rfl, HS, HA, HB, HT⟩ := hrel
  clear HS2 HX0 HX1
  by_cases hlt : j < n
  ·obtain ⟨b, off, rfl, hblt, hpa, hk⟩ := H.out.at' j hlt
   have HE : Hid (l.getD j ([], eB) ∈ l ∧ l.take (j + 1) = l.take j ++ [l.getD j ([], eB)]) := hid (by
    have hjl : j < l.length := by rw [HL.out]; exact hlt
    have e : l.getD j ([], eB) = l[j] := by simp [List.getD, hjl]
    rw [e]
    exact ⟨List.getElem_mem _, List.take_succ_eq_append_getElem hjl⟩)
   obtain ⟨x, hx⟩ : ∃ x, l.getD j ([], eB) = x := ⟨_, rfl⟩
   rw [hx] at hpa hk HE
   have hpr := hpa.below HS.out.b
   have hx2 := HOk.out.2 x HE.out.1
   have hh := (HOk.out.take j).has
   have hszr := HS.out.b.size
   have HPt := hid (fun w5 (h5 : Inv Mr w5) => (put_any Mr p _ x.1 hk x.2 hx2.1 hx2.2 w5 h5 HT.out hh.good).2 (has_get hh hk))
   rw [← putAll_snoc, ← HE.out.2] at HPt
   have HPr := hid hpr
   have HKk := hid hk
   have hNew := Rg.Own.new wr (pairA (List.replicate 32 0, eB)) 43
   have HN := hid hNew
   have HXs := hid hx2
   obtain ⟨k, v⟩ := x
   clear hx hpa hk hpr hx2 hh hNew HE HT
   dsimp only at HPt HKk
   go_wp2_with (first
    | (refine Rg.run rfl _ _ (op_load_pair HKk.out HPr.out ⟨_, rfl, rfl⟩) ?_)
    | (refine Rg.run rfl _ _ (run_alloc_pair _ _ _ wr.heap.size rfl rfl) ?_)
    | (refine wpl_store_pair HN.out (by simp) (k, v) HKk.out rfl _ _ rfl rfl rfl rfl ?_; intro w5 hO5 hu5; have HO5 := hid hO5; have HB5 : Hid (Below wr.heap.size wr w5) := hid (hu5.below (al1 _ _) (Nat.le_refl _)); clear hO5 hu5)
    | (refine Rg.run rfl _ _ (op_load_tree (own_cell (j := 0) (HB.out.o.below HB5.out) rfl) ⟨_, rfl, rfl⟩) ?_)
    | (refine Rg.run rfl _ _ (op_load_key_mid HKk.out (PairAt.own HO5.out).key ⟨_, rfl, rfl⟩) ?_)
    | (refine Rg.run rfl _ _ (op_load_str (s := v) ((PairAt.own HO5.out).val HKk.out) ⟨_, rfl, rfl⟩) ?_))
   have hS5 := HS.out.below HB5.out
   have hA5 := HA.out.below HB5.out
   have hB5 := HB.out.below HB5.out
   refine (HPt.out w5 hS5.i).mono ?_
   intro e w6 hG
   obtain ⟨p6, M6, rfl, hT6, hS6, hf6, hb6⟩ := hS5.te hG
   have hA6 := hA5.fr hf6 hb6
   have hB6 := hB5.fr hf6 hb6
   have HT6 := hid hT6
   have HS6 := hid hS6
   have HA6 := hid hA6
   have HB6 := hid hB6
   have hs6 := hS6.b.size
   have hlb := hB6.o.1
   have hNew := Rg.Own.new w6 #[.pointer none] 25
   have HN6 := hid hNew
   clear hG hT6 hS6 hf6 hb6 hA6 hB6 hS5 hA5 hB5 HPt HO5 HB5 HN HPr HXs hNew HS HA HB
   go_wp2_with (first
    | (refine Rg.run rfl _ _ (run_alloc_tree _ _ _ w6.heap.size rfl rfl) ?_)
    | (refine wpl_store_tree HN6.out (by decide) p6 rfl _ _ rfl rfl rfl ?_; intro w7 hO7 hu7; have HO7 := hid hO7; have HB7 : Hid (Below w6.heap.size w6 w7) := hid (hu7.below (al1 _ _) (Nat.le_refl _)); clear hO7 hu7)
    | (refine Rg.run rfl _ _ (op_load_tree (own_cell (j := 0) HO7.out rfl) ⟨_, rfl, rfl⟩) ?_)
    | (refine wpl_store_tree (HB6.out.o.below HB7.out) (by simp) p6 rfl _ _ rfl rfl rfl ?_; intro w8 hO8 hu8; have HO8 := hid hO8; have HU8 := hid hu8; clear hO8 hu8))
   have hS7 := HS6.out.below HB7.out
   have hA7 := HA6.out.below HB7.out
   have hB7 := HB6.out.below HB7.out
   go_roundw
   case rel => exact ⟨j + 1, p6, M6, by omega, by go_num, hid (hS7.upd HU8.out (by omega) hB7.n), hid (hA7.upd HU8.out (by omega)), hid ⟨HO8.out, hB7.n, one_no _⟩, HT6⟩
   case measure => simp [intOf]; omega
  ·obtain rfl : j = n := by omega
   have HT' : Hid (IsT Mr p (putAll .nil l)) := hid (by
    have := HT.out
    rwa [List.take_of_length_le (by rw [HL.out]; exact Nat.le_refl _)] at this)
   clear HT
   go_wp2_with (first
    | (refine Rg.run rfl _ _ (op_load_tree (own_cell (j := 0) HB.out.o rfl) ⟨_, rfl, rfl⟩) ?_)
    | (refine wpl_store_tree HA.out.o (by decide) p rfl _ _ rfl rfl rfl ?_; intro w8 hO8 hu8; have HO8 := hid hO8; have HU8 := hid hu8; clear hO8 hu8))
   have hS8 := HS.out.upd HU8.out (Nat.le_refl _) HA.out.n
   exact bodyPost_ret (res_tree rfl _ rfl HO8.out) rfl ⟨p, Mr, rfl, HT'.out, hS8.f, hS8.i, hS8.b⟩
end Tm
end
section
open Go.RowKit
namespace Tm
open Tr Ni Pk Ky No Rf Rl
open Sm (Tab)
structure Lw (w0 : World) (M : Mp) (w : World) : Prop where
 f : Fr M0 M w0 w
 i : Inv M w
 t : Tab w
 z : 0 < w0.heap.size
theorem Lw.start {w : World} (hT : Tab w) : Lw w M0 w := ⟨Fr.refl _ _, Inv.zero w, hT, hT.pos⟩
theorem Lw.b {w0 w : World} {M : Mp} (h : Lw w0 M w) : Below w0.heap.size w0 w := h.f.all
theorem Lw.below {w0 w w' : World} {M : Mp} (h : Lw w0 M w) (hb : Below w.heap.size w w') : Lw w0 M w' := ⟨h.f.trans (Inv.zero _) (Fr.below M hb), h.i.below hb, h.t.below hb h.t.pos, h.z⟩
theorem Lw.fr {w0 w w' : World} {M M' : Mp} (h : Lw w0 M w) (f : Fr M M' w w') (i : Inv M' w') (t : Tab w') : Lw w0 M' w' := ⟨h.f.trans (Inv.zero _) f, i, t, h.z⟩
theorem Lw.got {w0 w w' : World} {M : Mp} {t : T} {e : Ending} (h : Lw w0 M w) (g : GotT M w t e w') : ∃ p M', e = .returned (tv p) ∧ IsT M' p t ∧ Lw w0 M' w' ∧ Fr M M' w w' ∧ Below w.heap.size w w' := by
 obtain ⟨p, M', he, ht, f, i, b⟩ := g
 exact ⟨p, M', he, ht, h.fr f i (h.t.below b h.t.pos), f, b⟩
theorem Lw.te {w0 w w' : World} {M : Mp} {t : T} {c : Int} {e : Ending} (h : Lw w0 M w) (g : GotTE M w t c e w') : ∃ p M', e = .returned (.tuple #[tv p, .int .i64 c]) ∧ IsT M' p t ∧ Lw w0 M' w' ∧ Fr M M' w w' ∧ Below w.heap.size w w' := by
 obtain ⟨p, M', he, ht, f, i, b⟩ := g
 exact ⟨p, M', he, ht, h.fr f i (h.t.below b h.t.pos), f, b⟩
theorem Lw.tell {w0 w w' : World} {M : Mp} {s : ByteArray} {e : Ending} (h : Lw w0 M w) (g : TellP M w s e w') : e = .returned (.string s) ∧ Lw w0 M w' ∧ Fr M M w w' := by
 obtain ⟨he, f, i, t⟩ := g
 exact ⟨he, h.fr f i t, f⟩
theorem Lw.upd {w0 w w' : World} {M : Mp} {g : Nat} (h : Lw w0 M w) (hu : Rg.Upd w g w') (hg : w0.heap.size ≤ g) (hf : ¬ M.ft g) : Lw w0 M w' :=
 ⟨h.f.upd hu hg, h.i.upd hu hf, fun i hi => by rw [World.cell?_of_block (hu.block 0 (by have := h.z; omega))]; exact h.t i hi, h.z⟩
theorem own_fr {M M' : Mp} {w w' : World} {g : Nat} {cs : Array Value} {t : TypeId} (h : Rg.Own w g cs t) (f : Fr M M' w w') (hm : M.at_ g = none) : Rg.Own w' g cs t := ⟨Nat.lt_of_lt_of_le h.1 f.size, (f.block g h.1 hm).trans h.2⟩
theorem at_of_ft {M : Mp} {w : World} (hi : Inv M w) {g : Nat} (h : ¬ M.ft g) : M.at_ g = none := by
 cases hm : M.at_ g with
 | none => rfl
 | some t => exact absurd (hi.part_ g t hm).2.1 h
theorem Bx.frm {M M' : Mp} {w w' : World} {g : Nat} {cs : Array Value} {t : TypeId} (h : Bx M w g cs t) (hi : Inv M w) (f : Fr M M' w w') : Bx M' w' g cs t := ⟨own_fr h.o f (at_of_ft hi h.n), f.box h.n h.o.1 (no_byte h.o h.h), h.h⟩
theorem own_byte_fr {M M' : Mp} {w w' : World} {g j : Nat} {x : Int} {cs : Array Value} {t : TypeId} (h : Rg.Own w g cs t) (hx : cs[j]? = some (.int .u8 x)) (hi : Inv M w) (f : Fr M M' w w') : Rg.Own w' g cs t := own_fr h f (hi.no_byte (own_cell h hx))
theorem kc_byte {k : List UInt8} (hk : k.length = 32) : (kc k)[0]? = some (.int .u8 (k.getD 0 0).toNat) := by
 simp [kc, List.getD, hk]
theorem PairAt.frm {M M' : Mp} {w w' : World} {b o : Nat} {x : Tr.Pair} (h : PairAt w b o x) (hk : x.1.length = 32) (hi : Inv M w) (f : Fr M M' w w') : PairAt w' b o x := fun j v hv => by
 have h0 : w.cell? ⟨b, o + 0, none⟩ = some (.int .u8 (x.1.getD 0 0).toNat) := h 0 _ (by
  unfold pairC
  rw [List.getElem?_append_left (by simp [hk])]
  simp [List.getD, hk])
 rw [f.cell (World.block_lt_of_cell? w _ h0) (hi.no_byte h0)]
 exact h j v hv
theorem IsPs.frm {M M' : Mp} {w w' : World} {a : Option Addr} {n c : Nat} {l : List Tr.Pair} (h : IsPs w a n c l) (hi : Inv M w) (f : Fr M M' w w') : IsPs w' a n c l :=
 ⟨h.1, h.2.1, h.2.2.1, h.2.2.2.1, h.2.2.2.2.1, fun j hj => by
  obtain ⟨b, off, e, hlt, hp, hk⟩ := h.at' j hj
  exact ⟨b, off, e, Nat.lt_of_lt_of_le hlt f.size, hp.frm hk hi f⟩⟩
theorem isPs_lit {w : World} {b : Nat} {t : TypeId} {l : List Tr.Pair} (h : Rg.Own w b (rowP l).toArray t) (hk : ∀ x ∈ l, x.1.length = 32) (hn : l.length ≤ 1000000) : IsPs w (some ⟨b, 0, none⟩) l.length l.length l := by
 refine ⟨Nat.le_refl _, by unfold maxLen; omega, rfl, fun e => (by cases e), hk, fun j hj => ⟨b, 0, rfl, h.1, fun i v hv => ?_⟩⟩
 have hkj : (l.getD j ([], eB)).1.length = 32 := hk _ (getD_mem hj)
 have hi : i < 33 := by
  have := (List.getElem?_eq_some_iff.1 hv).1
  rwa [pairC_len hkj] at this
 refine own_cell h ?_
 rw [Nat.zero_add]
 simpa [rowP_at l hk j i hj hi] using hv
theorem wpl_store_u8 {ops : Array Oper} {rest : List Oper} {o : Oper} {act : Act} {w : World} {Q : Exit → Act → World → Prop} {b off : Nat} {cs : Array Value} {t : TypeId} (h : Rg.Own w b cs t) (hof : off < cs.size) (x : Int)
  (hgd : o.guard = none) (p q : Operand) (ho : o.op = .store 5 p q) (hx : act.eval p = .pointer (some ⟨b, off, none⟩)) (hy : act.eval q = .int .u8 x)
  (hQ : ∀ w', Rg.Own w' b (cs.setIfInBounds off (.int .u8 x)) t → Rg.Upd w b w' → wpList Tryz.prog ops Q rest (act.put o.dst undef) w') : wpList Tryz.prog ops Q (o :: rest) act w :=
 wpList_plain hgd fun K hK => by
  have hc : w.cell? ⟨b, off, none⟩ = some cs[off] := own_cell h (Array.getElem?_eq_getElem hof)
  have hz : w.frozen? ⟨b, off, none⟩ = false := own_free h
  have hst : (Instr.storeAt 5 (.pointer (some ⟨b, off, none⟩)) (.int .u8 x)).run Tryz.prog w = .ok () (w.setCell ⟨b, off, none⟩ (.int .u8 x)) := by
   simp [go_sem, hc, hz]
  unfold Oper.wp execOp
  simp only [ho, hx, hy, Sem.run_bind, Sem.run_pure, Result.andThen_ok, hst]
  exact hK _ _ (hQ _ (own_setCell h _) (upd_setCell _ _ _ _))
theorem kc_set (k : List UInt8) (i : Nat) (x : UInt8) : (kc k).setIfInBounds i (.int .u8 x.toNat) = kc (k.set i x) := by
 unfold kc
 rw [List.map_set]
 simp
theorem op_lit_pairs {ev : Operand → Value} {o : Oper} {w : World} {x z : Tr.Pair} (hk : x.1.length = 32) (hz : z.1.length = 32) (b : Nat) (hb : b = w.heap.size) (ho : ∃ p q, o.op = .buildSlice 26 2 #[(0, p), (1, q)] ∧ ev p = .agg (pairA x) ∧ ev q = .agg (pairA z)) :
  (execOp ev o).run Tryz.prog w = .ok (.value (.slice (some ⟨b, 0, none⟩) 2 2)) (w.alloc (.cells (rowP [x, z]).toArray 43)) := by
 obtain ⟨p, q, ho, hx, hy⟩ := ho
 obtain ⟨k, v⟩ := x
 obtain ⟨k', v'⟩ := z
 subst hb
 unfold execOp
 simp only [ho, List.map_toArray, List.map_cons, List.map_nil, hx, hy]
 obtain ⟨a0, a1, a2, a3, a4, a5, a6, a7, b0, b1, b2, b3, b4, b5, b6, b7, c0, c1, c2, c3, c4, c5, c6, c7, d0, d1, d2, d3, d4, d5, d6, d7, rfl⟩ := thirtytwo k hk
 obtain ⟨e0, e1, e2, e3, e4, e5, e6, e7, f0, f1, f2, f3, f4, f5, f6, f7, g0, g1, g2, g3, g4, g5, g6, g7, h0, h1, h2, h3, h4, h5, h6, h7, rfl⟩ := thirtytwo k' hz
 kernel_rfl
def ka : List UInt8 := zk
def kb : List UInt8 := zk.set 0 16
def sx : ByteArray := ⟨#[120]⟩
def sy : ByteArray := ⟨#[121]⟩
def lAB : List Tr.Pair := [(ka, sx), (kb, sy)]
def lB : List Tr.Pair := [(kb, sy)]
theorem ka_len : ka.length = 32 := rfl
theorem kb_len : kb.length = 32 := rfl
theorem ka_ne : ka ≠ kb := by decide
theorem okAB : OkPs lAB := ⟨fun x hx => by rcases List.mem_cons.1 hx with rfl | hx; exact ka_len; rw [List.mem_singleton.1 hx]; exact kb_len, fun x hx => by rcases List.mem_cons.1 hx with rfl | hx; exact ⟨by decide, by decide⟩; rw [List.mem_singleton.1 hx]; exact ⟨by decide, by decide⟩⟩
theorem okB : OkPs lB := ⟨fun x hx => by rw [List.mem_singleton.1 hx]; exact kb_len, fun x hx => by rw [List.mem_singleton.1 hx]; exact ⟨by decide, by decide⟩⟩
theorem lastB (k : List UInt8) : lastL lB k = if kb = k then some sy else none := rfl
theorem lastAB (k : List UInt8) : lastL lAB k = if kb = k then some sy else if ka = k then some sx else none := by
 show (match lastL lB k with | some v => some v | none => if ka = k then some sx else none) = _
 rw [lastB]
 by_cases h : kb = k
 ·rw [if_pos h, if_pos h]
 ·rw [if_neg h, if_neg h]
theorem hasAB : Has (putAll .nil lAB) (lastL lAB) := okAB.has
theorem hasB : Has (putAll .nil lB) (lastL lB) := okB.has
theorem getAB_b : Tr.get (putAll .nil lAB) (path kb) = some (some sy) := by rw [hasAB.get kb kb_len, lastAB, if_pos rfl]
theorem getAB_a : Tr.get (putAll .nil lAB) (path ka) = some (some sx) := by rw [hasAB.get ka ka_len, lastAB, if_neg (fun e => ka_ne e.symm), if_pos rfl]
theorem delAB : del (putAll .nil lAB) (path ka) = putAll .nil lB := (hasAB.del ka_len).one (hasB.congr fun k hk => by
 show lastL lB k = if k = ka then none else lastL lAB k
 rw [lastAB, lastB]
 by_cases h : k = ka
 ·rw [if_pos h, if_neg (fun e => ka_ne (h ▸ e.symm))]
 ·rw [if_neg h]
  by_cases h2 : kb = k
  ·rw [if_pos h2, if_pos h2]
  ·rw [if_neg h2, if_neg h2, if_neg (fun e => h e.symm)])
theorem kindAB : (nodeT (putAll .nil lAB)).kd = 3 := by kernel_rfl
theorem kidsAB : (kidsT (putAll .nil lAB)).length = 2 := by kernel_rfl
theorem neB : putAll .nil lB ≠ .nil := put_ne _ _ _
theorem encB : encT (putAll .nil lB) ≠ eB := fun e => by
 obtain ⟨h1, h2, _⟩ := tree_node hasB.good (Nat.le_refl _) hasB.fine neB (full_stub hasB.full)
 have h3 := put_pos (nodeT_length _) h1
 rw [h2] at e
 have := congrArg ByteArray.size e
 rw [ba_size] at this
 have h4 : eB.size = 0 := rfl
 omega
end Tm
end
section
open Go.RowKit
namespace Tm
open Tr Ni Pk Ky No Rf Rl
open Sm (Tab)
def tB : T := putAll .nil lB
theorem litB : (rowP lB).toArray = pairA (kb, sy) := by simp [rowP, lB, pairA]
theorem run_alloc_key' (ev : Operand → Value) (o : Oper) (w : World) (b : Nat) (hb : b = w.heap.size) (ho : o.op = .alloc 28) : (execOp ev o).run Tryz.prog w = .ok (.value (.pointer (some ⟨b, 0, none⟩))) (w.alloc (.cells (kc zk) 28)) := by
 subst hb
 exact run_alloc_key ev o ho w
structure Aw (w0 : World) (M : Mp) (wz : World) (gu gb gn : Nat) (pu : Option Addr) (C : Array Value) (KB : List UInt8) : Prop where
 l : Lw w0 M wz
 u : IsT M pu tB
 bu : Bx M wz gu #[.pointer pu] 25
 kb : Rg.Own wz gb (kc KB) 28
 kl : KB.length = 32
 nd : Bx M wz gn C 58
 c0 : C[0]? = some (.int .i64 3)
namespace Aw
variable {w0 : World} {M M' : Mp} {w w' : World} {gu gb gn : Nat} {pu : Option Addr} {C : Array Value} {KB : List UInt8}
theorem s (h : Aw w0 M w gu gb gn pu C KB) : w.cell? ⟨gu, 0, none⟩ = some (.pointer pu) ∧ w.heap[gb]? = some (.cells (kc KB) 28 (0, 0)) ∧ w.cell? ⟨gn, 0, none⟩ = some (.int .i64 3) := ⟨own_cell (j := 0) h.bu.o rfl, h.kb.2, own_cell h.nd.o h.c0⟩
theorem below (h : Aw w0 M w gu gb gn pu C KB) (hb : Below w.heap.size w w') : Aw w0 M w' gu gb gn pu C KB := ⟨h.l.below hb, h.u, h.bu.below hb, h.kb.below hb, h.kl, h.nd.below hb, h.c0⟩
theorem fr (h : Aw w0 M w gu gb gn pu C KB) (hl : Lw w0 M' w') (f : Fr M M' w w') : Aw w0 M' w' gu gb gn pu C KB := ⟨hl, h.u.mono f.mono, h.bu.frm h.l.i f, own_byte_fr h.kb (kc_byte h.kl) h.l.i f, h.kl, h.nd.frm h.l.i f, h.c0⟩
theorem tell {s : ByteArray} {e : Ending} (h : Aw w0 M w gu gb gn pu C KB) (g : TellP M w s e w') : e = .returned (.string s) ∧ Aw w0 M w' gu gb gn pu C KB ∧ Fr M M w w' := by
 obtain ⟨he, hl, f⟩ := h.l.tell g
 exact ⟨he, h.fr hl f, f⟩
theorem got {t : T} {e : Ending} (h : Aw w0 M w gu gb gn pu C KB) (g : GotT M w t e w') : ∃ p M', e = .returned (tv p) ∧ IsT M' p t ∧ Aw w0 M' w' gu gb gn pu C KB := by
 obtain ⟨p, M', he, ht, hl, f, b⟩ := h.l.got g
 exact ⟨p, M', he, ht, h.fr hl f⟩
theorem encp (h : Aw w0 M w gu gb gn pu C KB) {p : Option Addr} (ht : IsT M p tB) : Calls Tryz.prog 15 #[tv p] w (TellP M w (encT tB)) := tree_enc M p tB 64 hasB.good (Nat.le_refl _) hasB.fine w h.l.i ht h.l.t
theorem enc (h : Aw w0 M w gu gb gn pu C KB) : Calls Tryz.prog 15 #[tv pu] w (TellP M w (encT tB)) := h.encp h.u
end Aw
theorem awake_any (w : World) (hT : Tab w) : Calls Tryz.prog 7 #[] w fun e w' => e = .returned (.bool true) ∧ Below w.heap.size w w' := by
 obtain ⟨w1, hw1⟩ : ∃ w1, w1 = (w.alloc (.cells (kc zk) 28)).alloc (.cells (kc zk) 28) := ⟨_, rfl⟩
 have hb1 : Below w.heap.size w w1 := by rw [hw1]; exact al2 _ _ _
 have hA : Rg.Own w1 w.heap.size (kc ka) 28 := by rw [hw1]; exact (Rg.Own.new _ _ _).below (al1 _ _)
 have hB : Rg.Own w1 (w.heap.size + 1) (kc zk) 28 := by
  have := Rg.Own.new (w.alloc (.cells (kc zk) 28)) (kc zk) 28
  rw [hw1]
  simpa using this
 have HL1 := hid ((Lw.start hT).below hb1)
 have HA1 := hid hA
 have HB1 := hid hB
 have HE0 : Hid (∃ E, encT tB = E ∧ E ≠ eB) := hid ⟨_, rfl, encB⟩
 obtain ⟨E, hE, hne2⟩ := HE0.out
 have HE := hid hE
 have hne1 : w.heap.size ≠ w.heap.size + 1 := by omega
 have hs1 : (E.toList == eB.toList) = false := by rw [str_eq, decide_eq_false hne2]
 have e0 : eB.toList = [] := by first | rfl | kernel_rfl | decide +kernel
 have hs2 : (E.toList == []) = false := by rw [← e0]; exact hs1
 have HAl := hid run_alloc_key'
 have HSet : Hid ((kc zk).setIfInBounds 0 (.int .u8 16) = kc kb) := hid (kc_set zk 0 16)
 have HBa := hid (built_pair ka sx ka_len)
 have HBb := hid (built_pair kb sy kb_len)
 have HLa : Hid (ka.length = 32) := hid ka_len
 have HLb : Hid (kb.length = 32) := hid kb_len
 have HZs : Hid ((kc zk).size = 32) := hid zk_size
 have HAll : Hid (∀ (b : Nat) w3, Rg.Own w3 b (rowP lAB).toArray 43 → Lw w M0 w3 → Calls Tryz.prog 19 #[.slice (some ⟨b, 0, none⟩) 2 2] w3 (GotT M0 w3 (putAll .nil lAB))) := hid (fun b w3 h hl => of_any M0 _ 2 2 lAB okAB w3 hl.i (isPs_lit (l := lAB) h okAB.1 (by decide)) (by decide))
 have HGet : Hid (∀ M p wz, Inv M wz → IsT M p (putAll .nil lAB) → Calls Tryz.prog 12 #[tv p, .agg (kc kb)] wz fun e w' => e = .returned (.tuple #[.string ⟨#[121]⟩, .int .i64 0]) ∧ Below wz.heap.size wz w') := hid (fun M p wz hi ht => by
  have := get_any M p _ kb kb_len wz hi ht hasAB.good
  rw [getAB_b] at this
  exact this)
 have HDel : Hid (∀ M p wz, Inv M wz → IsT M p (putAll .nil lAB) → Calls Tryz.prog 9 #[tv p, .agg (kc ka)] wz (GotTE M wz tB 0)) := hid (fun M p wz hi ht => by
  have := (del_any M p _ ka ka_len wz hi ht hasAB.good hasAB.full).2 ⟨_, getAB_a⟩
  rw [delAB] at this
  exact this)
 have HOp : Hid (∀ M p wz, Inv M wz → IsT M p (putAll .nil lAB) → Tab wz → Calls Tryz.prog 22 #[tv p] wz (OpenP M wz (putAll .nil lAB))) := hid (fun M p wz hi ht hT => open_any M p _ 64 hasAB.good (Nat.le_refl _) hasAB.fine (full_stub hasAB.full) wz hi ht hT)
 have HKd : Hid ((nodeT (putAll .nil lAB)).kd = 3 ∧ (nodeT (putAll .nil lAB)).ks.length = 16 ∧ (kidsT (putAll .nil lAB)).length = 2) := hid ⟨kindAB, nodeT_length _, kidsAB⟩
 have HLitB : Hid (∀ wz b, Rg.Own wz b (pairA (kb, sy)) 43 → IsPs wz (some ⟨b, 0, none⟩) 1 1 lB) := hid (fun wz b h => isPs_lit (l := lB) (by rw [litB]; exact h) okB.1 (by decide))
 have HOfB : Hid (∀ M wz a, Inv M wz → IsPs wz a 1 1 lB → Calls Tryz.prog 19 #[.slice a 1 1] wz (GotT M wz tB)) := hid (fun M wz a hi h => of_any M a 1 1 lB okB wz hi h (by decide))
 generalize putAll .nil lAB = TT at *
 clear hA hB hb1 hT hE HE0
 have HW : Hid (_ = _) := hid hw1
 clear hw1
 have HLit : Hid (rowP [(ka, sx), (kb, sy)] = rowP lAB) := hid rfl
 obtain ⟨ROW, hROW⟩ : ∃ R, rowP lAB = R := ⟨_, rfl⟩
 rw [hROW] at HAll HLit
 generalize ka = A at *
 generalize kb = B at *
 generalize zk = Z at *
 go_enter Tryz.func7, Tryz.ntmps7
 go_wp2_with (first
  | (refine Rg.run rfl _ _ (HAl.out _ _ _ w.heap.size rfl rfl) ?_)
  | (refine Rg.run rfl _ _ (HAl.out _ _ _ (w.heap.size + 1) (by simp) rfl) ?_)
  | (rw [← HW.out]; refine wpl_store_u8 HB1.out (by rw [HZs.out]; decide) 16 rfl _ _ rfl rfl rfl ?_; intro w2 hO2 hu2; have HB2 : Hid (Rg.Own w2 (w.heap.size + 1) (kc B) 28) := hid (by rw [← HSet.out]; exact hO2); have HA2 := hid (HA1.out.upd hu2 hne1); have HL2 := hid (HL1.out.upd hu2 (by omega) (fun h => h)); clear hO2 hu2)
  | (refine Rg.run rfl _ _ (op_load_key HLa.out HA2.out.2 ⟨_, rfl, rfl⟩) ?_)
  | (refine Rg.run rfl _ _ (op_load_key HLb.out HB2.out.2 ⟨_, rfl, rfl⟩) ?_)
  | (refine Rg.run rfl _ _ (op_build HBa.out ⟨_, rfl, rfl⟩) ?_)
  | (refine Rg.run rfl _ _ (op_build HBb.out ⟨_, rfl, rfl⟩) ?_)
  | (refine Rg.run rfl _ _ (op_lit_pairs (x := (A, sx)) (z := (B, sy)) HLa.out HLb.out w2.heap.size rfl ⟨_, _, rfl, rfl, rfl⟩) ?_))
 rw [HLit.out]
 have hL3 := HL2.out.below (al1 w2 (.cells ROW.toArray 43))
 refine (HAll.out w2.heap.size _ (Rg.Own.new _ _ _) hL3).mono ?_
 intro e w4 hG
 obtain ⟨p4, M4, rfl, hT4, hL4, hf4, hb4⟩ := hL3.got hG
 have HA4 := hid ((HA2.out.below (al1 _ _)).below hb4)
 have HB4 := hid ((HB2.out.below (al1 _ _)).below hb4)
 have HL4 := hid hL4
 have HT4 := hid hT4
 have hNew := Rg.Own.new w4 #[.pointer none] 25
 have HN := hid hNew
 have hz4 := hL4.b.size
 have hfr4 := hL4.i.free (Nat.le_refl _)
 clear hG hT4 hL4 hf4 hb4 hL3 HA1 HB1 HL1 HA2 HB2 HL2 HW HAl HSet HBa HAll HLit hNew
 go_wp2_with (first
  | (refine Rg.run rfl _ _ (run_alloc_tree _ _ _ w4.heap.size rfl rfl) ?_)
  | (refine wpl_store_tree HN.out (by decide) p4 rfl _ _ rfl rfl rfl ?_; intro w5 hO5 hu5; have HO5 := hid hO5; have HX5 : Hid (Below w4.heap.size w4 w5) := hid (hu5.below (al1 _ _) (Nat.le_refl _)); clear hO5 hu5)
  | (refine Rg.run rfl _ _ (op_load_tree (own_cell (j := 0) HO5.out rfl) ⟨_, rfl, rfl⟩) ?_)
  | (refine Rg.run rfl _ _ (op_load_key HLb.out (HB4.out.below HX5.out).2 ⟨_, rfl, rfl⟩) ?_))
 refine (HGet.out M4 p4 w5 (HL4.out.i.below HX5.out) HT4.out).mono ?_
 rintro e w6 ⟨rfl, hb6⟩
 have HX6 := hid (bst HX5.out hb6)
 have HL6 := hid (HL4.out.below HX6.out)
 have HA6 := hid (HA4.out.below HX6.out)
 have HB6 := hid (HB4.out.below HX6.out)
 have HO6 : Hid (Bx M4 w6 w4.heap.size #[.pointer p4] 25) := hid ⟨HO5.out.below hb6, hfr4, one_no _⟩
 clear hb6 HX6 HX5 HO5 HN HA4 HB4 HL4 HGet
 go_wp2_with (first
  | (refine Rg.run rfl _ _ (op_load_tree (own_cell (j := 0) HO6.out.o rfl) ⟨_, rfl, rfl⟩) ?_)
  | (refine Rg.run rfl _ _ (op_load_key HLa.out HA6.out.2 ⟨_, rfl, rfl⟩) ?_))
 refine (HDel.out M4 p4 w6 HL6.out.i HT4.out).mono ?_
 intro e w7 hG
 obtain ⟨p7, M7, rfl, hT7, hL7, hf7, hb7⟩ := HL6.out.te hG
 have HL7 := hid hL7
 have HU7 := hid hT7
 have HT7 := hid (HT4.out.mono hf7.mono)
 have HO7 := hid (HO6.out.got hf7 hb7)
 have HB7 := hid (HB6.out.below hb7)
 have hNew := Rg.Own.new w7 #[.pointer none] 25
 have HN := hid hNew
 have hfr7 := hL7.i.free (Nat.le_refl _)
 clear hG hT7 hL7 hf7 hb7 HL6 HA6 HB6 HO6 HT4 HDel hNew
 go_wp2_with (first
  | (refine Rg.run rfl _ _ (run_alloc_tree _ _ _ w7.heap.size rfl rfl) ?_)
  | (refine wpl_store_tree HN.out (by decide) p7 rfl _ _ rfl rfl rfl ?_; intro w8 hO8 hu8; have HO8 : Hid (Bx M7 w8 w7.heap.size #[.pointer p7] 25) := hid ⟨hO8, hfr7, one_no _⟩; have HX8 : Hid (Below w7.heap.size w7 w8) := hid (hu8.below (al1 _ _) (Nat.le_refl _)); clear hO8 hu8)
  | (refine Rg.run rfl _ _ (op_load_tree (own_cell (j := 0) (HO7.out.o.below HX8.out) rfl) ⟨_, rfl, rfl⟩) ?_))
 have hL8 := HL7.out.below HX8.out
 refine (HOp.out M7 p4 w8 hL8.i HT7.out hL8.t).mono ?_
 rintro e w9 ⟨a9, n9, c9, k9, kc9, ps, rfl, hp9, hP9, hA9, hk9, hf9, hi9, ht9⟩
 have hps : ps.length = 2 := by rw [hA9.1]; exact HKd.out.2.2
 have HL9 := hid (hL8.fr hf9 hi9 ht9)
 have HO9 := hid (HO8.out.frm hL8.i hf9)
 have HB9 := hid (own_byte_fr (HB7.out.below HX8.out) (kc_byte HLb.out) hL8.i hf9)
 have HNl := hid HKd.out.2.1
 have HKn := hid HKd.out.1
 have hNew := Rg.Own.new w9 (ndC nd0 none 0 0) 58
 have HN9 := hid hNew
 have hfr9 := hi9.free (Nat.le_refl _)
 rw [hps]
 generalize nodeT TT = N at *
 clear hp9 hP9 hA9 hk9 hf9 hi9 ht9 hL8 HL7 HO7 HO8 HB7 HT7 HX8 HOp HKd HN hNew hps
 go_wp2_with (first
  | (refine Rg.run rfl _ _ (run_alloc_nd _ _ _ w9.heap.size rfl rfl) ?_)
  | (refine wpl_store_ndL HN9.out rfl N a9 n9 c9 HNl.out rfl _ _ rfl rfl rfl rfl ?_; intro w10 hO10 hu10; have HX10 : Hid (Below w9.heap.size w9 w10) := hid (hu10.below (al1 _ _) (Nat.le_refl _)); have HA : Hid (Aw w M7 w10 w7.heap.size (w.heap.size + 1) w9.heap.size p7 (ndC N a9 n9 c9) B) := hid ⟨HL9.out.below HX10.out, HU7.out, HO9.out.below HX10.out, HB9.out.below HX10.out, HLb.out, ⟨hO10, hfr9, nd_no _ _ _ _⟩, by show some (Value.int .i64 N.kd) = _; rw [HKn.out]⟩; clear hO10 hu10))
 clear HX10 HL9 HU7 HO9 HB9 HN9 HNl HKn
 replace HA := hid (HA.out.below (show Below w10.heap.size w10 w10.drew from below_drewN (Below.refl _ _) 1))
 refine wp_region_noPanic ?_
 refine wp_region_held_drew (S := fun w' => w'.cell? ⟨w7.heap.size, 0, none⟩ = some (.pointer p7) ∧ w'.heap[w.heap.size + 1]? = some (.cells (kc B) 28 (0, 0)) ∧ w'.cell? ⟨w9.heap.size, 0, none⟩ = some (.int .i64 3)) (by kernel_rfl) (HA.out.s) (fun hld => ?_)
 refine Rg.tk (i := 0) rfl ?_
 try simp only [Act.put, Rg.s]
 refine Rg.tk (i := 1) rfl ?_
 try simp only [Act.put, Rg.s]
 refine Rg.tk (i := 2) rfl ?_
 try simp only [Act.put, Rg.s]
 refine Rg.tk (i := 3) rfl ?_
 try simp only [Act.put, Rg.s]
 refine Rg.tk (i := 4) rfl ?_
 try simp only [Act.put, Rg.s]
 refine Rg.tk (i := 5) rfl ?_
 try simp only [Act.put, Rg.s]
 refine Rg.tk (i := 6) rfl ?_
 try simp only [Act.put, Rg.s]
 refine Rg.tk (i := 7) rfl ?_
 try simp only [Act.put, Rg.s]
 refine Rg.tk (i := 8) rfl ?_
 try simp only [Act.put, Rg.s]
 refine Rg.tk (i := 9) rfl ?_
 try simp only [Act.put, Rg.s]
 refine Rg.tk (i := 10) rfl ?_
 try simp only [Act.put, Rg.s]
 refine Rg.tk (i := 11) rfl ?_ (hy := by intro wz hSw; (refine op_load_tree hSw.1 ?_; exact ⟨_, rfl, rfl⟩))
 try simp only [Act.put, Rg.s]
 refine Rg.tk (i := 13) rfl ?_ (hy := by intro wz hSw; (refine op_load_key HLb.out hSw.2.1 ?_; exact ⟨_, rfl, rfl⟩))
 try simp only [Act.put, Rg.s]
 refine Rg.tk (i := 14) rfl ?_ (hy := by intro wz hSw; (refine op_build HBb.out ?_; exact ⟨_, rfl, rfl⟩))
 try simp only [Act.put, Rg.s]
 refine wpAnyH_ready (rs := [12, 15]) (by kernel_rfl) (by simp) ?_
 refine Rg.readyC (i := 12) rfl (fun K hK => ?_) (Rg.readyL (i := 15) rfl (fun K hK => ?_))
 ·go_simp
  go_at_call 15
  (with_reducible refine (HA.out.enc).mono ?_)
  intro e wf hG
  obtain ⟨rfl, hA5, hf5⟩ := HA.out.tell hG
  rw [HE.out]
  replace HA := hid hA5
  clear hG hA5 hf5
  refine hK.out _ _ ?_ (fun hld => ?_)
  ·exact HA.out.s
  clear hK K
  try simp only [Act.put, Rg.s]
  refine Rg.rd (i := 15) rfl fun K hK => ?_
  refine meet_lit_pair (x := (B, sy)) HLb.out (by rfl) ⟨_, rfl, rfl⟩ ?_
  intro wc b5 hN hb5
  have HPs : Hid (IsPs wc (some ⟨b5, 0, none⟩) 1 1 lB) := hid (HLitB.out _ _ hN)
  replace HA := hid (HA.out.below hb5)
  clear hN hb5
  refine hK.out _ _ ?_ (fun hld => ?_)
  ·exact HA.out.s
  clear hK K
  try simp only [Act.put, Rg.s]
  refine Rg.rd (i := 16) rfl fun K hK => ?_
  go_simp
  go_at_call 19
  (with_reducible refine (HOfB.out _ _ _ HA.out.l.i HPs.out).mono ?_)
  intro e wb hG
  obtain ⟨pb, Mb, rfl, hTb, hAb⟩ := HA.out.got hG
  replace HA := hid hAb
  have HTb := hid hTb
  clear hG hAb hTb
  refine hK.out _ _ ?_ (fun hld => ?_)
  ·exact HA.out.s
  clear hK K
  try simp only [Act.put, Rg.s]
  refine Rg.rd (i := 17) rfl fun K hK => ?_
  go_simp
  go_at_call 15
  (with_reducible refine (HA.out.encp HTb.out).mono ?_)
  intro e wf hG
  obtain ⟨rfl, hA5, hf5⟩ := HA.out.tell hG
  rw [HE.out]
  replace HA := hid hA5
  clear hG hA5 hf5
  refine hK.out _ _ ?_ (fun hld => ?_)
  ·exact HA.out.s
  clear hK K
  try simp only [Act.put, Rg.s]
  refine Rg.tk (i := 18) rfl ?_
  try simp only [Act.put, Rg.s]
  refine Rg.tk (i := 19) rfl ?_
  try simp only [Act.put, Rg.s]
  refine Rg.tk (i := 20) rfl ?_
  try simp only [Act.put, Rg.s]
  refine Rg.tk (i := 21) rfl ?_
  try simp only [Act.put, Rg.s]
  refine Rg.tk (i := 22) rfl ?_ (hy := by intro wz hSw; (obtain ⟨hcc, hcd, hce⟩ := hSw; go_simp <;> with_reducible rfl))
  try simp only [Act.put, Rg.s]
  refine Rg.tk (i := 23) rfl ?_
  try simp only [Act.put, Rg.s]
  refine Rg.tk (i := 24) rfl ?_
  try simp only [Act.put, Rg.s]
  refine Rg.tk (i := 25) rfl ?_
  try simp only [Act.put, Rg.s]
  refine Rg.tk (i := 26) rfl ?_
  try simp only [Act.put, Rg.s]
  refine Rg.tk (i := 27) rfl ?_
  try simp only [Act.put, Rg.s]
  refine Rg.tk (i := 28) rfl ?_
  try simp only [Act.put, Rg.s]
  refine Rg.tk (i := 29) rfl ?_
  try simp only [Act.put, Rg.s]
  refine Rg.tk (i := 30) rfl ?_
  try simp only [Act.put, Rg.s]
  refine Rg.tk (i := 31) rfl ?_ (hy := by intro wz hSw; (refine op_load_tree hSw.1 ?_; exact ⟨_, rfl, rfl⟩))
  try simp only [Act.put, Rg.s]
  refine Rg.rd (i := 32) rfl fun K hK => ?_
  go_simp
  go_at_call 15
  (with_reducible refine (HA.out.enc).mono ?_)
  intro e wf hG
  obtain ⟨rfl, hA5, hf5⟩ := HA.out.tell hG
  rw [HE.out]
  replace HA := hid hA5
  clear hG hA5 hf5
  refine hK.out _ _ ?_ (fun hld => ?_)
  ·exact HA.out.s
  clear hK K
  try simp only [Act.put, Rg.s]
  refine Rg.tk (i := 33) rfl ?_ (hy := by intro wz hSw; have q2 := hne2; have q3 := hs1; have q4 := hs2; (try dsimp only at hSw); go_simp <;> with_reducible rfl)
  try simp only [Act.put, Rg.s]
  refine Rg.tk (i := 34) rfl ?_
  try simp only [Act.put, Rg.s]
  refine Rg.tk (i := 35) rfl ?_
  try simp only [Act.put, Rg.s]
  refine Rg.tk (i := 36) rfl ?_ (hy := by intro wz hSw; (refine op_build built_nil ?_; exact ⟨_, rfl, rfl⟩))
  try simp only [Act.put, Rg.s]
  refine Rg.rd (i := 37) rfl fun K hK => ?_
  go_simp
  go_at_call 10
  (with_reducible refine (empty_any none _).mono ?_)
  rintro e we ⟨rfl, hbe⟩
  replace HA := hid (HA.out.below hbe)
  clear hbe
  refine hK.out _ _ ?_ (fun hld => ?_)
  ·exact HA.out.s
  clear hK K
  try simp only [Act.put, Rg.s]
  refine Rg.tk (i := 38) rfl ?_
  try simp only [Act.put, Rg.s]
  refine Rg.tk (i := 39) rfl ?_
  try simp only [Act.put, Rg.s]
  refine wpAnyH_done (by kernel_rfl) ?_ _
  refine NoPanic.normal ?_
  go_wp2
  go_ret
  exact ⟨rfl, HA.out.l.b⟩
 ·refine meet_lit_pair (x := (B, sy)) HLb.out (by rfl) ⟨_, rfl, rfl⟩ ?_
  intro wc b5 hN hb5
  have HPs : Hid (IsPs wc (some ⟨b5, 0, none⟩) 1 1 lB) := hid (HLitB.out _ _ hN)
  replace HA := hid (HA.out.below hb5)
  clear hN hb5
  refine hK.out _ _ ?_ (fun hld => ?_)
  ·exact HA.out.s
  clear hK K
  try simp only [Act.put, Rg.s]
  refine Rg.rd (i := 12) rfl fun K hK => ?_
  go_simp
  go_at_call 15
  (with_reducible refine (HA.out.enc).mono ?_)
  intro e wf hG
  obtain ⟨rfl, hA5, hf5⟩ := HA.out.tell hG
  replace HPs := hid (HPs.out.frm HA.out.l.i hf5)
  rw [HE.out]
  replace HA := hid hA5
  clear hG hA5 hf5
  refine hK.out _ _ ?_ (fun hld => ?_)
  ·exact HA.out.s
  clear hK K
  try simp only [Act.put, Rg.s]
  refine Rg.rd (i := 16) rfl fun K hK => ?_
  go_simp
  go_at_call 19
  (with_reducible refine (HOfB.out _ _ _ HA.out.l.i HPs.out).mono ?_)
  intro e wb hG
  obtain ⟨pb, Mb, rfl, hTb, hAb⟩ := HA.out.got hG
  replace HA := hid hAb
  have HTb := hid hTb
  clear hG hAb hTb
  refine hK.out _ _ ?_ (fun hld => ?_)
  ·exact HA.out.s
  clear hK K
  try simp only [Act.put, Rg.s]
  refine Rg.rd (i := 17) rfl fun K hK => ?_
  go_simp
  go_at_call 15
  (with_reducible refine (HA.out.encp HTb.out).mono ?_)
  intro e wf hG
  obtain ⟨rfl, hA5, hf5⟩ := HA.out.tell hG
  rw [HE.out]
  replace HA := hid hA5
  clear hG hA5 hf5
  refine hK.out _ _ ?_ (fun hld => ?_)
  ·exact HA.out.s
  clear hK K
  try simp only [Act.put, Rg.s]
  refine Rg.tk (i := 18) rfl ?_
  try simp only [Act.put, Rg.s]
  refine Rg.tk (i := 19) rfl ?_
  try simp only [Act.put, Rg.s]
  refine Rg.tk (i := 20) rfl ?_
  try simp only [Act.put, Rg.s]
  refine Rg.tk (i := 21) rfl ?_
  try simp only [Act.put, Rg.s]
  refine Rg.tk (i := 22) rfl ?_ (hy := by intro wz hSw; (obtain ⟨hcc, hcd, hce⟩ := hSw; go_simp <;> with_reducible rfl))
  try simp only [Act.put, Rg.s]
  refine Rg.tk (i := 23) rfl ?_
  try simp only [Act.put, Rg.s]
  refine Rg.tk (i := 24) rfl ?_
  try simp only [Act.put, Rg.s]
  refine Rg.tk (i := 25) rfl ?_
  try simp only [Act.put, Rg.s]
  refine Rg.tk (i := 26) rfl ?_
  try simp only [Act.put, Rg.s]
  refine Rg.tk (i := 27) rfl ?_
  try simp only [Act.put, Rg.s]
  refine Rg.tk (i := 28) rfl ?_
  try simp only [Act.put, Rg.s]
  refine Rg.tk (i := 29) rfl ?_
  try simp only [Act.put, Rg.s]
  refine Rg.tk (i := 30) rfl ?_
  try simp only [Act.put, Rg.s]
  refine Rg.tk (i := 31) rfl ?_ (hy := by intro wz hSw; (refine op_load_tree hSw.1 ?_; exact ⟨_, rfl, rfl⟩))
  try simp only [Act.put, Rg.s]
  refine Rg.rd (i := 32) rfl fun K hK => ?_
  go_simp
  go_at_call 15
  (with_reducible refine (HA.out.enc).mono ?_)
  intro e wf hG
  obtain ⟨rfl, hA5, hf5⟩ := HA.out.tell hG
  rw [HE.out]
  replace HA := hid hA5
  clear hG hA5 hf5
  refine hK.out _ _ ?_ (fun hld => ?_)
  ·exact HA.out.s
  clear hK K
  try simp only [Act.put, Rg.s]
  refine Rg.tk (i := 33) rfl ?_ (hy := by intro wz hSw; have q2 := hne2; have q3 := hs1; have q4 := hs2; (try dsimp only at hSw); go_simp <;> with_reducible rfl)
  try simp only [Act.put, Rg.s]
  refine Rg.tk (i := 34) rfl ?_
  try simp only [Act.put, Rg.s]
  refine Rg.tk (i := 35) rfl ?_
  try simp only [Act.put, Rg.s]
  refine Rg.tk (i := 36) rfl ?_ (hy := by intro wz hSw; (refine op_build built_nil ?_; exact ⟨_, rfl, rfl⟩))
  try simp only [Act.put, Rg.s]
  refine Rg.rd (i := 37) rfl fun K hK => ?_
  go_simp
  go_at_call 10
  (with_reducible refine (empty_any none _).mono ?_)
  rintro e we ⟨rfl, hbe⟩
  replace HA := hid (HA.out.below hbe)
  clear hbe
  refine hK.out _ _ ?_ (fun hld => ?_)
  ·exact HA.out.s
  clear hK K
  try simp only [Act.put, Rg.s]
  refine Rg.tk (i := 38) rfl ?_
  try simp only [Act.put, Rg.s]
  refine Rg.tk (i := 39) rfl ?_
  try simp only [Act.put, Rg.s]
  refine wpAnyH_done (by kernel_rfl) ?_ _
  refine NoPanic.normal ?_
  go_wp2
  go_ret
  exact ⟨rfl, HA.out.l.b⟩
end Tm
end
section
open Go.RowKit Go.ChangeShapes Go.WideShapes
theorem u8_wf {n : Int} (h : (Lit.int .u8 n).wf = true) : 0 ≤ n ∧ n < 256 := by
 have := bounds_u8 h
 omega
theorem isBs_of {H : Type} {enc : TypeId × Value → H} {P : Program} {w : World} {t e : TypeId} {a : Option Addr} {n cap : Nat} {d : DataW H} {p : List MemPlace}
  (ht : P.underlying t = some (.slice e)) (he : P.underlying e = some (.int .u8)) (hc : P.cellsOf e = 1)
  (h : DataW.Trod enc P w 0 (fun _ => true) true t (.slice a n cap) d p) : ∃ l, IsBs w a n cap l := by
 obtain ⟨fuel, hf⟩ := h
 rcases open_ints ht he hc hf with ⟨hcs, _⟩ | ⟨x, m, c, zs, hcs, _, hl, hm, hz, _, hcell, hws⟩
 ·simp [Value.cells] at hcs
  obtain ⟨rfl, rfl, rfl⟩ := hcs
  exact ⟨[], IsBs.nil w⟩
 ·simp [Value.cells] at hcs
  obtain ⟨rfl, rfl, rfl⟩ := hcs
  have hz' : zs.length = cap := by simpa using hz
  refine ⟨(zs.take n).map fun z => UInt8.ofNat z.toNat, hl, hm, by rw [List.length_map, List.length_take]; omega, fun e => (by cases e), fun j hj => ?_⟩
  have hcj := hcell j (by omega)
  obtain ⟨b, off, spot⟩ := x
  have hspot : spot = none := by simpa [Addr.add] using World.cell?_spot (hcell 0 (by omega))
  subst hspot
  have hj' : j < zs.length := by omega
  have e1 : zs.getD j 0 = zs[j] := by simp [List.getD, hj']
  have hb := u8_wf (hws _ (List.getElem_mem hj'))
  have e2 : (⟨b, off, none⟩ : Addr).add j = ⟨b, off + j, none⟩ := by unfold Addr.add; split <;> simp_all
  rw [e2, e1] at hcj
  refine ⟨b, off, rfl, ?_, ?_⟩
  ·rcases Nat.lt_or_ge b w.heap.size with h' | h'
   ·exact h'
   ·simp [World.cell?, Array.getElem?_eq_none h'] at hcj
  ·rw [hcj]
   have e3 : ((zs.take n).map fun z => UInt8.ofNat z.toNat).getD j 0 = UInt8.ofNat zs[j].toNat := by
    simp [List.getD, hj', hj]
   rw [e3]
   congr 2
   simp only [UInt8.toNat_ofNat']
   omega
end
section
open Go.RowKit Go.ChangeShapes Go.WideShapes
namespace Ky
def byteOf : Value → UInt8
 | .int _ n => UInt8.ofNat n.toNat
 | _ => 0
end Ky
end
section
open Go.RowKit Go.ChangeShapes Go.WideShapes Go.Deep
namespace Tm
open Tr Ni Pk Ky
section
variable {H : Type} {enc : TypeId × Value → H} {w : World} {fuel : Nat} {cs : List Value} {x : DataW H × List MemPlace}
theorem cells_key : Tryz.prog.cellsOf 28 = 32 := by kernel_rfl
theorem cells_u8' : Tryz.prog.cellsOf 5 = 1 := by kernel_rfl
theorem cells_str : Tryz.prog.cellsOf 9 = 1 := by kernel_rfl
theorem cells_int : Tryz.prog.cellsOf 3 = 1 := by kernel_rfl
theorem cells_pair : Tryz.prog.cellsOf 43 = 33 := by kernel_rfl
theorem key_of (h : DataW.trod enc Tryz.prog w 0 (fun _ => true) true fuel 28 cs = some x) : ∃ k : List UInt8, k.length = 32 ∧ cs = k.map fun b => Value.int .u8 b.toNat := by
 obtain ⟨xs, m, rfl, _, hcs, hxl, hel⟩ := DataW.trod_array Tryz.underlying28 h
 rw [cells_key] at hcs
 have each : ∀ i, i < 32 → ∃ n : Int, cs[i]? = some (.int .u8 n) ∧ 0 ≤ n ∧ n < 256 := fun i hi => by
  have hi' := hel i hi
  rw [cells_u8', Nat.mul_one] at hi'
  have hx : i < xs.length := by omega
  rw [List.getElem?_eq_getElem hx] at hi'
  obtain ⟨n, hn, _, hw⟩ := DataW.trod_int Tryz.underlying5 hi'
  have hlen : i < cs.length := by omega
  have e1 : (cs.drop i).take 1 = [cs[i]] := by
   rw [List.drop_eq_getElem_cons hlen]; rfl
  rw [e1] at hn
  injection hn with hn
  exact ⟨n, by rw [List.getElem?_eq_getElem hlen, hn], u8_wf hw⟩
 refine ⟨cs.map Ky.byteOf, by simp [hcs], ?_⟩
 rw [List.map_map]
 apply List.ext_getElem?
 intro i
 by_cases hi : i < 32
 ·obtain ⟨n, hn, h0, h1⟩ := each i hi
  rw [List.getElem?_map, hn]
  simp only [Option.map_some, Function.comp, Ky.byteOf]
  have : ((UInt8.ofNat n.toNat).toNat : Int) = n := by simp only [UInt8.toNat_ofNat']; omega
  rw [this]
 ·rw [List.getElem?_eq_none (by omega), List.getElem?_eq_none (by simp [hcs]; omega)]
theorem take_drop_one {cs : List Value} {i : Nat} {v : Value} (h : (cs.drop i).take 1 = [v]) (hl : cs.length = i + 1) : cs = cs.take i ++ [v] := by
 have e : (cs.drop i).take 1 = cs.drop i := List.take_of_length_le (by rw [List.length_drop]; omega)
 rw [← h, e, List.take_append_drop]
theorem pair_of (h : DataW.trod enc Tryz.prog w 0 (fun _ => true) true fuel 43 cs = some x) : ∃ y : Tr.Pair, y.1.length = 32 ∧ cs = pairC y := by
 obtain ⟨xs, m, rfl, _, hcs, hxl, hf⟩ := DataW.trod_struct Tryz.underlying43 h
 rw [cells_pair] at hcs
 have hxl' : xs.length = 2 := hxl
 have g0 := hf 0 _ rfl
 have g1 := hf 1 _ rfl
 rw [List.getElem?_eq_getElem (by omega)] at g0 g1
 obtain ⟨k, hk, e0⟩ := key_of g0
 obtain ⟨s, e1, _, _⟩ := DataW.trod_string Tryz.underlying9 g1
 have e0' : (cs.drop 0).take (Tryz.prog.cellsOf 28) = k.map fun b => Value.int .u8 b.toNat := e0
 have e1' : (cs.drop 32).take (Tryz.prog.cellsOf 9) = [Value.string s] := e1
 rw [cells_key, List.drop_zero] at e0'
 rw [cells_str] at e1'
 refine ⟨(k, s), hk, ?_⟩
 unfold pairC
 have := take_drop_one e1' (by omega)
 rw [this, e0']
theorem isPs_of (h : DataW.trod enc Tryz.prog w 0 (fun _ => true) true fuel 26 cs = some x) : ∃ a n cap l, cs = [.slice a n cap] ∧ IsPs w a n cap l := by
 rcases open_slice Tryz.underlying26 h with ⟨rfl, _⟩ | ⟨ad, len, cap, m, n, D, Pl, rfl, _, hl, hm, hmm, _, hel⟩
 ·exact ⟨none, 0, 0, [], rfl, IsPs.nil w⟩
 ·have hmm' : m = cap := by simpa using hmm
  subst hmm'
  have cell : ∀ i, i < m → ∃ y : Tr.Pair, y.1.length = 32 ∧ ∀ j, j < 33 → w.cell? ((ad.add (i * 33)).add j) = (pairC y)[j]? := fun i hi => by
   obtain ⟨cs', h1, h2⟩ := hel i hi
   obtain ⟨y, hy, rfl⟩ := pair_of h2
   obtain ⟨_, hcl, hat⟩ := World.cells?_some h1
   rw [cells_pair] at hat
   exact ⟨y, hy, hat⟩
  obtain ⟨F, hF⟩ := choose_lt (α := Tr.Pair) cell
  refine ⟨some ad, len, m, (List.range len).map F, rfl, hl, hm, by simp, fun e => (by cases e), fun x hx => ?_, fun j hj => ?_⟩
  ·obtain ⟨i, hi, rfl⟩ := List.mem_map.1 hx
   exact (hF i (by have := List.mem_range.1 hi; omega)).1
  ·have hFj := hF j (by omega)
   have hF0 := hF 0 (by omega)
   obtain ⟨b, off, spot⟩ := ad
   have hc0 := hF0.2 0 (by omega)
   have hp0 : (pairC (F 0))[0]? = some ((pairC (F 0))[0]'(by rw [pairC_len hF0.1]; omega)) := List.getElem?_eq_getElem _
   rw [hp0] at hc0
   have hspot : spot = none := by simpa [Addr.add] using World.cell?_spot hc0
   subst hspot
   have hget : ((List.range len).map F).getD j ([], eB) = F j := by simp [List.getD, hj]
   rw [hget]
   have hat : PairAt w b (off + j * 33) (F j) := fun i v hv => by
    have hi : i < 33 := by
     have := (List.getElem?_eq_some_iff.1 hv).1
     rwa [pairC_len hFj.1] at this
    have := hFj.2 i hi
    rw [Addr.add_mid, Addr.add_mid] at this
    rw [this, hv]
   refine ⟨b, off, rfl, ?_, hat⟩
   have hz := hat 0 ((pairC (F j))[0]'(by rw [pairC_len hFj.1]; omega)) (List.getElem?_eq_getElem _)
   exact World.block_lt_of_cell? w _ hz
structure Act where
 kind : Int
 key : List UInt8
 val : ByteArray
instance : Inhabited Act := ⟨⟨0, [], eB⟩⟩
def actC (x : Act) : List Value := .int .i64 x.kind :: ((x.key.map fun b => Value.int .u8 b.toNat) ++ [.string x.val])
theorem actC_len {x : Act} (h : x.key.length = 32) : (actC x).length = 34 := by simp [actC, h]
theorem cells_act : Tryz.prog.cellsOf 30 = 34 := by kernel_rfl
theorem act_of (h : DataW.trod enc Tryz.prog w 0 (fun _ => true) true fuel 30 cs = some x) : ∃ y : Act, y.key.length = 32 ∧ cs = actC y := by
 obtain ⟨xs, m, rfl, _, hcs, hxl, hf⟩ := DataW.trod_struct Tryz.underlying30 h
 rw [cells_act] at hcs
 have hxl' : xs.length = 3 := hxl
 have g0 := hf 0 _ rfl
 have g1 := hf 1 _ rfl
 have g2 := hf 2 _ rfl
 rw [List.getElem?_eq_getElem (by omega)] at g0 g1 g2
 obtain ⟨z, e0, _, _⟩ := DataW.trod_int Tryz.underlying3 g0
 obtain ⟨k, hk, e1⟩ := key_of g1
 obtain ⟨s, e2, _, _⟩ := DataW.trod_string Tryz.underlying9 g2
 have e0' : (cs.drop 0).take (Tryz.prog.cellsOf 3) = [Value.int .i64 z] := e0
 have e1' : (cs.drop 1).take (Tryz.prog.cellsOf 28) = k.map fun b => Value.int .u8 b.toNat := e1
 have e2' : (cs.drop 33).take (Tryz.prog.cellsOf 9) = [Value.string s] := e2
 rw [cells_int, List.drop_zero] at e0'
 rw [cells_key] at e1'
 rw [cells_str] at e2'
 refine ⟨⟨z, k, s⟩, hk, ?_⟩
 have h1 := take_drop_one e2' (by omega)
 rw [h1]
 have h2 : cs.take 33 = cs.take 1 ++ (cs.drop 1).take 32 := by
  rw [show (33 : Nat) = 1 + 32 from rfl, List.take_add]
 rw [h2, e0', e1']
 rfl
def ActAt (w : World) (b o : Nat) (x : Act) : Prop := w.rangeAt b o (actC x)
def IsActs (w : World) (a : Option Addr) (n c : Nat) (l : List Act) : Prop :=
 n ≤ c ∧ c ≤ maxLen ∧ l.length = n ∧ (a = none → c = 0) ∧ (∀ x ∈ l, x.key.length = 32) ∧ ∀ j, j < n → ∃ b off, a = some ⟨b, off, none⟩ ∧ b < w.heap.size ∧ ActAt w b (off + j * 34) (l.getD j default)
theorem isActs_of (h : DataW.trod enc Tryz.prog w 0 (fun _ => true) true fuel 22 cs = some x) : ∃ a n cap l, cs = [.slice a n cap] ∧ IsActs w a n cap l := by
 rcases open_slice Tryz.underlying22 h with ⟨rfl, _⟩ | ⟨ad, len, cap, m, n, D, Pl, rfl, _, hl, hm, hmm, _, hel⟩
 ·exact ⟨none, 0, 0, [], rfl, ⟨Nat.le_refl _, Nat.zero_le _, rfl, fun _ => rfl, fun _ h => (by cases h), fun _ h => absurd h (Nat.not_lt_zero _)⟩⟩
 ·have hmm' : m = cap := by simpa using hmm
  subst hmm'
  have cell : ∀ i, i < m → ∃ y : Act, y.key.length = 32 ∧ ∀ j, j < 34 → w.cell? ((ad.add (i * 34)).add j) = (actC y)[j]? := fun i hi => by
   obtain ⟨cs', h1, h2⟩ := hel i hi
   obtain ⟨y, hy, rfl⟩ := act_of h2
   obtain ⟨_, hcl, hat⟩ := World.cells?_some h1
   rw [cells_act] at hat
   exact ⟨y, hy, hat⟩
  obtain ⟨F, hF⟩ := choose_lt (α := Act) cell
  refine ⟨some ad, len, m, (List.range len).map F, rfl, hl, hm, by simp, fun e => (by cases e), fun x hx => ?_, fun j hj => ?_⟩
  ·obtain ⟨i, hi, rfl⟩ := List.mem_map.1 hx
   exact (hF i (by have := List.mem_range.1 hi; omega)).1
  ·have hFj := hF j (by omega)
   have hF0 := hF 0 (by omega)
   obtain ⟨b, off, spot⟩ := ad
   have hc0 := hF0.2 0 (by omega)
   have hp0 : (actC (F 0))[0]? = some ((actC (F 0))[0]'(by rw [actC_len hF0.1]; omega)) := List.getElem?_eq_getElem _
   rw [hp0] at hc0
   have hspot : spot = none := by simpa [Addr.add] using World.cell?_spot hc0
   subst hspot
   have hget : ((List.range len).map F).getD j default = F j := by simp [List.getD, hj]
   rw [hget]
   have hat : ActAt w b (off + j * 34) (F j) := fun i v hv => by
    have hi : i < 34 := by
     have := (List.getElem?_eq_some_iff.1 hv).1
     rwa [actC_len hFj.1] at this
    have := hFj.2 i hi
    rw [Addr.add_mid, Addr.add_mid] at this
    rw [this, hv]
   refine ⟨b, off, rfl, ?_, hat⟩
   have hz := hat 0 ((actC (F j))[0]'(by rw [actC_len hFj.1]; omega)) (List.getElem?_eq_getElem _)
   exact World.block_lt_of_cell? w _ hz
end
end Tm
end
section
open Go.RowKit
namespace Tm
open Tr Ni Pk Ky No Rf Rl
open Sm (Tab)
def actA (x : Act) : Array Value := (actC x).toArray
theorem actA_size {x : Act} (h : x.key.length = 32) : (actA x).size = 34 := by simp [actA, actC_len h]
theorem info_act : (Tryz.prog.info? 30).map (·.size) = some 34 := by kernel_rfl
theorem actC_one (x : Act) : ∀ u ∈ actC x, u.oneCell' = true := fun u hu => by
 unfold actC at hu
 rcases List.mem_cons.1 hu with rfl | hu
 ·rfl
 ·rcases List.mem_append.1 hu with hu | hu
  ·obtain ⟨b, _, rfl⟩ := List.mem_map.1 hu
   rfl
  ·obtain rfl := List.mem_singleton.1 hu
   rfl
theorem actA_one (x : Act) : (actA x).all (·.oneCell') = true := all_oneCell_toArray (actC_one x)
theorem ActAt.below {w w' : World} {b o : Nat} {x : Act} (h : ActAt w b o x) (hb : Below w.heap.size w w') : ActAt w' b o x := fun j v hv => cell_on hb (h j v hv)
theorem ActAt.own {w : World} {b : Nat} {x : Act} {t : TypeId} (h : Rg.Own w b (actA x) t) : ActAt w b 0 x := fun j v hv => by
 rw [Nat.zero_add]
 exact own_cell h (by unfold actA; simpa using hv)
theorem ActAt.kind {w : World} {b o : Nat} {x : Act} (h : ActAt w b o x) : w.cell? ⟨b, o, none⟩ = some (.int .i64 x.kind) := h 0 _ rfl
theorem ActAt.key {w : World} {b o : Nat} {x : Act} (h : ActAt w b o x) : w.rangeAt b (o + 1) (x.key.map fun b => Value.int .u8 b.toNat) := fun j v hv => by
 have h1 := (List.getElem?_eq_some_iff.1 hv).1
 have := h (j + 1) v (by
  show ((x.key.map fun b => Value.int .u8 b.toNat) ++ [.string x.val])[j]? = some v
  rw [List.getElem?_append_left h1]; exact hv)
 rwa [show o + (j + 1) = o + 1 + j by omega] at this
theorem ActAt.val {w : World} {b o : Nat} {x : Act} (h : ActAt w b o x) (hk : x.key.length = 32) : w.cell? ⟨b, o + 33, none⟩ = some (.string x.val) := h 33 _ (by
 show ((x.key.map fun b => Value.int .u8 b.toNat) ++ [.string x.val])[32]? = _
 rw [List.getElem?_append_right (by simp [hk])]
 simp [hk])
theorem op_load_act {ev : Operand → Value} {o : Oper} {w : World} {b off : Nat} {x : Act} (hk : x.key.length = 32) (h : ActAt w b off x) (ho : ∃ y, o.op = .load 30 y ∧ ev y = .pointer (some ⟨b, off, none⟩)) :
  (execOp ev o).run Tryz.prog w = .ok (.value (.agg (actA x))) w := by
 obtain ⟨y, ho, hx⟩ := ho
 have hl := run_loadAt_mid (P := Tryz.prog) w b off 30 (actC x) _ h Tryz.underlying30 rfl (by rw [actC_len hk]; exact info_act)
 unfold execOp
 simp only [ho, hx, Sem.run_bind, Sem.run_pure, Result.andThen_ok, hl]
 rfl
def act0 : Act := ⟨0, List.replicate 32 0, eB⟩
theorem run_alloc_act (ev : Operand → Value) (o : Oper) (w : World) (b : Nat) (hb : b = w.heap.size) (ho : o.op = .alloc 30) :
  (execOp ev o).run Tryz.prog w = .ok (.value (.pointer (some ⟨b, 0, none⟩))) (w.alloc (.cells (actA act0) 30)) := by
 subst hb
 unfold execOp
 rw [ho]
 kernel_rfl
theorem wpl_store_act {ops : Array Oper} {rest : List Oper} {o : Oper} {act : Go.Act} {w : World} {Q : Exit → Go.Act → World → Prop} {b : Nat} {x : Act} (h : Rg.Own w b (actA x) 30) (hx : x.key.length = 32) (y : Act) (hy : y.key.length = 32)
  (hgd : o.guard = none) (p q : Operand) (ho : o.op = .store 30 p q) (hp : act.eval p = .pointer (some ⟨b, 0, none⟩)) (hq : act.eval q = .agg (actA y)) (hd : o.dst = none)
  (hQ : ∀ w', Rg.Own w' b (actA y) 30 → Rg.Upd w b w' → wpList Tryz.prog ops Q rest act w') : wpList Tryz.prog ops Q (o :: rest) act w :=
 wpList_store_rowTo hgd 30 p q ho hd b _ hp hq 30 _ h.2 (by rw [info_act, actA_size hy]) (by rw [actA_size hx, actA_size hy]) (actA_one _) (hQ _ ⟨by simp; exact h.1, setRow_heap _ _ _ _ _ _ h.2⟩ (Rg.Upd.set _ _ _))
theorem ins_ne : ∀ {l : List Tr.Pair}, l ≠ [] → insL l ≠ []
 | [], h => absurd rfl h
 | x :: r, _ => by
  unfold insL
  split
  ·rename_i h
   refine ins_ne fun e => ?_
   rw [e] at h
   simp at h
  ·exact fun e => by cases e
theorem nil_iff {t : T} {l : List Tr.Pair} (g : Has t (lastL l)) (h : OkPs l) : t = .nil ↔ l = [] := by
 have e := g.built h.1 h.2
 constructor
 ·intro ht
  refine Classical.byContradiction fun hl => ?_
  exact build_ne (ok_ins h.1) (ins_ne hl) (by rw [← e]; exact ht)
 ·rintro rfl
  rw [e]
  show build 64 (insL []) = _
  rw [show insL [] = [] from rfl, build]
theorem OkPs.without {l : List Tr.Pair} (h : OkPs l) (k : Tr.Key) : OkPs (withoutL l k) := ⟨fun x hx => h.1 x (mem_without hx), fun x hx => h.2 x (mem_without hx)⟩
theorem OkPs.with_ {l : List Tr.Pair} (h : OkPs l) {x : Tr.Pair} (hk : x.1.length = 32) (hv : x.2.size ≠ 0 ∧ x.2.size ≤ 65552) : OkPs (withL l x) :=
 ⟨fun y hy => by rcases mem_with hy with hy | rfl; exact h.1 y hy; exact hk, fun y hy => by rcases mem_with hy with hy | rfl; exact h.2 y hy; exact hv⟩
structure Do (w0 : World) (M : Mp) (w : World) (p : Option Addr) (t : T) (W : List Tr.Pair) (a : Option Addr) (c : Nat) (j : Nat) : Prop where
 l : Lw w0 M w
 u : IsT M p t
 bx : Bx M w w0.heap.size #[.pointer p] 25
 ps : IsPs w a W.length c W
 has : Has t (lastL W)
 ap : Apart W
 ok : OkPs W
 few : W.length ≤ j
namespace Do
variable {w0 : World} {M M' : Mp} {w w' : World} {p p' : Option Addr} {t t' : T} {W W' : List Tr.Pair} {a a' : Option Addr} {c c' j : Nat}
theorem below (h : Do w0 M w p t W a c j) (hb : Below w.heap.size w w') : Do w0 M w' p t W a c j := ⟨h.l.below hb, h.u, h.bx.below hb, h.ps.below hb, h.has, h.ap, h.ok, h.few⟩
theorem fr (h : Do w0 M w p t W a c j) (hl : Lw w0 M' w') (f : Fr M M' w w') : Do w0 M' w' p t W a c j := ⟨hl, h.u.mono f.mono, h.bx.frm h.l.i f, h.ps.frm h.l.i f, h.has, h.ap, h.ok, h.few⟩
theorem next (h : Do w0 M w p t W a c j) : Do w0 M w p t W a c (j + 1) := ⟨h.l, h.u, h.bx, h.ps, h.has, h.ap, h.ok, Nat.le_succ_of_le h.few⟩
theorem get (h : Do w0 M w p t W a c j) {k : List UInt8} (hk : k.length = 32) : Tr.get t (path k) = some (firstL W k) := by rw [h.has.get k hk, first_last h.ap]
theorem enc (h : Do w0 M w p t W a c j) : encT t = encT (build 64 (insL W)) := by rw [← h.has.built h.ok.1 h.ok.2]
theorem empty (h : Do w0 M w p t W a c j) : p.isNone = decide (W.length = 0) := by
 rw [Bool.eq_iff_iff, decide_eq_true_iff, Option.isNone_iff_eq_none, h.u.nil_iff, nil_iff h.has h.ok]
 exact List.length_eq_zero_iff.symm
end Do
theorem has_without {t : T} {W : List Tr.Pair} (h : Has t (lastL W)) {k : List UInt8} (hk : k.length = 32) : Has (del t (path k)) (lastL (withoutL W k)) := (h.del hk).congr fun x _ => (last_without W k x).symm
theorem has_with {t : T} {W : List Tr.Pair} (h : Has t (lastL W)) {x : Tr.Pair} (hk : x.1.length = 32) (h1 : x.2.size ≠ 0) (h2 : x.2.size ≤ 65552) : Has (put t (path x.1) x.2) (lastL (withL W x)) := (h.put hk h1 h2).congr fun k _ => (last_with W x k).symm
theorem len_without (W : List Tr.Pair) (k : Tr.Key) : (withoutL W k).length ≤ W.length := List.length_filter_le _ _
theorem len_with (W : List Tr.Pair) (x : Tr.Pair) : (withL W x).length ≤ W.length + 1 := by
 unfold withL
 rw [List.length_append, List.length_singleton]
 have := len_without W x.1
 omega
end Tm
end
section
open Go.RowKit
namespace Tm
open Tr Ni Pk Ky No Rf Rl
open Sm (Tab)
theorem ins_len : ∀ (l : List Tr.Pair), (insL l).length ≤ l.length
 | [] => Nat.le_refl _
 | x :: r => by
  have ih := ins_len r
  unfold insL
  split
  ·rw [List.length_cons]; omega
  ·rw [List.length_cons, List.length_cons]; omega
theorem pair_byte {w : World} {b o : Nat} {x : Tr.Pair} (hp : PairAt w b o x) (hk : x.1.length = 32) : HasByte w b := by
 refine ⟨o + 0, (x.1.getD 0 0).toNat, hp 0 _ ?_⟩
 unfold pairC
 rw [List.getElem?_append_left (by simp [hk])]
 simp [List.getD, hk]
theorem IsPs.upd {w w' : World} {g : Nat} {a : Option Addr} {n c : Nat} {l : List Tr.Pair} (h : IsPs w a n c l) (hu : Rg.Upd w g w') (hg : ¬ HasByte w g) : IsPs w' a n c l :=
 ⟨h.1, h.2.1, h.2.2.1, h.2.2.2.1, h.2.2.2.2.1, fun j hj => by
  obtain ⟨b, off, e, hlt, hp, hk⟩ := h.at' j hj
  have hne : b ≠ g := fun e => hg (e ▸ pair_byte hp hk)
  exact ⟨b, off, e, by rw [hu.size]; exact hlt, fun i v hv => by rw [World.cell?_of_block (hu.block b hne)]; exact hp i v hv⟩⟩
theorem Do.psu {w0 : World} {M : Mp} {w w' : World} {p : Option Addr} {t : T} {W : List Tr.Pair} {a : Option Addr} {c j : Nat} (h : Do w0 M w p t W a c j) (hu : Rg.Upd w w0.heap.size w') : IsPs w' a W.length c W :=
 h.ps.upd hu (no_byte h.bx.o (one_no _))
theorem Do.set2 {w0 : World} {M : Mp} {w w' w2 : World} {p p' : Option Addr} {t t' : T} {W W' : List Tr.Pair} {a a' : Option Addr} {c c' j : Nat} (h : Do w0 M w p t W a c j) (hu : Rg.Upd w w0.heap.size w') (ho : Rg.Own w' w0.heap.size #[.pointer p'] 25) (hb : Below w'.heap.size w' w2) (ht : IsT M p' t') (hps : IsPs w2 a' W'.length c' W') (hh : Has t' (lastL W')) (hap : Apart W') (hok : OkPs W') (hf : W'.length ≤ j + 1) : Do w0 M w2 p' t' W' a' c' (j + 1) :=
 ⟨(h.l.upd hu (Nat.le_refl _) h.bx.n).below hb, ht, ⟨ho.below hb, h.bx.n, one_no _⟩, hps, hh, hap, hok, hf⟩
end Tm
end
end Go.Proofs.YtgolhnfkmmajpaaGreatDoor
