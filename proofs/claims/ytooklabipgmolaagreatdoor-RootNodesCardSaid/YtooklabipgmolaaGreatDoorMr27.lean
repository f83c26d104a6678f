/-
 The functions that root.Nodes and root.Whole hand out.
-/
import Derived.Test.YtooklabipgmolaaGreatDoorMr25
import Derived.Test.YtooklabipgmolaaGreatDoorMr23
import Derived.Test.YtooklabipgmolaaGreatDoorMr26
import Derived.Test.YtooklabipgmolaaGreatDoorMr22
import Derived.Test.YtooklabipgmolaaGreatDoorMr15
import Derived.Maps.AppendAt
import Derived.Laws.AppendOwnNone
open Go.Lib (hid)
set_option linter.unusedSimpArgs false
set_option linter.unusedVariables false
set_option maxHeartbeats 40000000
set_option maxRecDepth 100000
namespace Go.Proofs.YtooklabipgmolaaGreatDoor
section
open Go.RowKit
namespace Tm
open Tr Ni Pk Ky No Rf Rl
open Sm (Tab)
structure Jn (M : Mp) (B g : Nat) (V : List T) (K : Nat → Prop) (w : World) (lv : Value) : Prop where
 o : Rg.Own w g #[lv] 30
 r : w.ownsRow B 9 1 lv (V.map tellL).flatten.length ((V.map tellL).flatten.map Value.string)
 k : ∀ k, K k ↔ k = g ∨ lv.ownBlock = some k
 n : lv.ownBlock ≠ some g
 b : B ≤ g
 u : ∀ k, B ≤ k → M.at_ k = none ∧ ¬ M.ft k
 z : 0 < B
def JN (M : Mp) (B g : Nat) (V : List T) (K : Nat → Prop) (w : World) : Prop := ∃ lv, Jn M B g V K w lv
theorem jn_on (M : Mp) (B g : Nat) : OnJ M (JN M B g) := by
 refine ⟨fun V K w w' ⟨lv, h⟩ hs hk => ⟨lv, ⟨⟨Nat.lt_of_lt_of_le h.o.1 hs, (hk g ((h.k g).2 (.inl rfl))).trans h.o.2⟩, owns_same h.r fun k e => hk k ((h.k k).2 (.inr e)), h.k, h.n, h.b, h.u, h.z⟩⟩, fun V K w ⟨lv, h⟩ k hk => ?_⟩
 rcases (h.k k).1 hk with rfl | e
 ·exact ⟨h.o.1, h.u k h.b⟩
 ·exact ⟨(h.r.lt k e).2, h.u k (h.r.lt k e).1⟩
theorem on_nodes (M : Mp) (B g : Nat) (V : List T) (K : Nat → Prop) (x : T) (p : Option Addr) (w : World) (hJ : JN M B g V K w) (hi : Inv M w) (hT : Tab w) (hx : Whl x) (ht : IsT M p x) (hV : ((V ++ [x]).map tellL).flatten.length ≤ 100000) :
  Calls Tryz.prog 32 #[tv p, .pointer (some ⟨g, 0, none⟩)] w fun e w' => e = .returned (.bool true) ∧ ∃ K', OnP M (JN M B g) V K x w w' K' := by
 obtain ⟨i0, hi0, hz0, hz1, hz2⟩ := info_st_parts
 have HI : Hid (_ ∧ _ ∧ _ ∧ _) := hid ⟨hi0, hz0, hz1, hz2⟩
 obtain ⟨lv, hJ⟩ := hJ
 obtain ⟨la, lc, rfl⟩ := owns_slice hJ.r
 have hA1 := al1 w (.cells #[.pointer p] 26)
 have h0 := box_tree w p
 obtain ⟨L, hL, hg⟩ := hx.good
 have HE := hid (tree_enc M p x L hg hL hx.fine (w.alloc (.cells #[.pointer p] 26)) (hi.below hA1) ht (hT.below hA1 hT.pos))
 have hst := (jn_on M B g).st
 have HF : Hid (∀ w2, Fr M M (w.alloc (.cells #[.pointer p] 26)) w2 → Jn M B g V K w2 (.slice la (V.map tellL).flatten.length lc) ∧ FrK M K w w2) := hid (fun w2 f2 => by
  have hs1 := hA1.size
  have hgl := hJ.o.1
  refine ⟨⟨⟨Nat.lt_of_lt_of_le hgl (Nat.le_trans hs1 f2.size), ?_⟩, owns_same hJ.r (fun k e => ?_), hJ.k, hJ.n, hJ.b, hJ.u, hJ.z⟩, ((FrK.refl M K w).below hA1 (Nat.le_refl _)).trans (FrK.of (K := fun _ => False) f2) fun _ h => h.elim⟩
  ·rw [f2.block g (by omega) (hJ.u g hJ.b).1, hA1.block g hgl, hJ.o.2]
  ·obtain ⟨h1, h2⟩ := hJ.r.lt k e
   rw [f2.block k (by omega) (hJ.u k h1).1, hA1.block k h2])
 have hVt : ((V ++ [x]).map tellL).flatten = (V.map tellL).flatten ++ tellL x := by simp
 have HV := hid hVt
 rw [hVt, List.length_append] at hV
 have HX := hid hx
 clear hi0 hz0 hz1 hz2 hA1 hJ hi hT hx ht hg hL hst hVt
 go_enter Tryz.func32, Tryz.ntmps32
 go_wp2_with (first
  | (refine Rg.run rfl _ _ (op_load_tree h0 ⟨_, rfl, rfl⟩) ?_))
 refine HE.out.mono ?_
 rintro e w2 ⟨rfl, f2, i2, t2⟩
 obtain ⟨hj2, hk2⟩ := HF.out w2 f2
 have HJ2 := hid hj2
 have HK2 : Hid (FrK M K w w2 ∧ Inv M w2 ∧ Tab w2) := hid ⟨hk2, i2, t2⟩
 have c2 := own_cell (j := 0) hj2.o rfl
 have z2 : w2.frozen? ⟨g, 0, none⟩ = false := own_free hj2.o
 have hs2 := hk2.size
 have hB2 : B ≤ w2.heap.size := by have := hj2.b; have := hj2.o.1; omega
 clear HE HF f2 i2 t2 hj2 hk2 h0
 by_cases hE : encT x = eB
 ·have ht0 : tellL x = [] := by unfold tellL; rw [if_pos hE]
  have HN : Hid (OnP M (JN M B g) V K x w w2 K) := hid ⟨⟨_, HJ2.out.o, by rw [HV.out, ht0, List.append_nil]; exact HJ2.out.r, HJ2.out.k, HJ2.out.n, HJ2.out.b, HJ2.out.u, HJ2.out.z⟩, fun k hk => .inl hk, HK2.out.1, HK2.out.2.1, HK2.out.2.2⟩
  rw [hE]
  have e0 : eB.toList = [] := by first | rfl | kernel_rfl | decide +kernel
  go_wp2
  go_ret
  exact ⟨rfl, K, HN.out⟩
 ·have ht1 : tellL x = [encT x] := by unfold tellL; rw [if_neg hE]
  have e0 : eB.toList = [] := by first | rfl | kernel_rfl | decide +kernel
  have hs1 : ((encT x).toList == []) = false := by rw [← e0, str_eq, decide_eq_false hE]
  obtain ⟨E, hEE⟩ : ∃ E, encT x = E := ⟨_, rfl⟩
  rw [hEE] at ht1 hs1 ⊢
  rw [ht1] at hV HV
  obtain ⟨VV, hVV⟩ : ∃ VV, (V.map tellL).flatten = VV := ⟨_, rfl⟩
  rw [hVV] at HJ2 HV hV c2
  have hR2 := HJ2.out.r
  rw [hVV] at hR2
  have HR2 := hid hR2
  have hvl : VV.length ≤ 100000 := by omega
  clear hE hEE ht1 hVV hR2
  go_wp2_with (first
   | (at_builtin; refine wpList_append_own_at _ rfl _ _ 30 rfl B 9 i0 (.string ⟨#[]⟩) 1 16 Tryz.underlying30 HI.out.1 HI.out.2.1 HI.out.2.2.1 HI.out.2.2.2 rfl (by decide) _ _ _ rfl (HR2.out.alloc _) ⟨w2.heap.size, 0, none⟩ 1 1 [.string E] rfl rfl ?d1 ?d2 ?d3 ?d4 ?d5 ?_))
  case d1 => exact Bu.cell_one_new' _ _ _ _
  case d2 => intro u hu; simp at hu; subst hu; rfl
  case d3 => unfold maxLen; omega
  case d4 => omega
  case d5 => simp; omega
  intro v' w3 hown3 hgrow3 _ hloc3
  obtain ⟨a3, k3, rfl⟩ := owns_slice hown3
  have hO3 : Rg.Own w3 g #[.slice la VV.length lc] 30 := by
   have h1 := (HJ2.out.o.below (al1 w2 (.cells #[.string E] 9)))
   exact ⟨Nat.lt_of_lt_of_le h1.1 hgrow3.size, (hgrow3.block g h1.1 (fun e => HJ2.out.n e.symm)).trans h1.2⟩
  have c3 : w3.cell? ⟨g, 0, none⟩ = some (.slice la VV.length lc) := own_cell (j := 0) hO3 rfl
  have z3 : w3.frozen? ⟨g, 0, none⟩ = false := own_free hO3
  have HO4 : Hid (Rg.Own (w3.setCell ⟨g, 0, none⟩ (.slice a3 (VV.length + 1) k3)) g #[.slice a3 (VV.length + 1) k3] 30) := hid (own_setCell (o := 0) hO3 _)
  have hu4 : Rg.Upd w3 g (w3.setCell ⟨g, 0, none⟩ (.slice a3 (VV.length + 1) k3)) := upd_setCell w3 g 0 _
  have hnv : (Value.slice a3 (VV.length + 1) k3).ownBlock ≠ some g := by
   have hgl : g < w2.heap.size := HJ2.out.o.1
   rcases hloc3 with e | e
   ·rw [e]; exact HJ2.out.n
   ·rw [e]
    intro e2
    have := Option.some.inj e2
    try simp at this
    omega
  have HN : Hid (∃ K', OnP M (JN M B g) V K x w (w3.setCell ⟨g, 0, none⟩ (.slice a3 (VV.length + 1) k3)) K') := hid (by
   have hgl : g < w2.heap.size := HJ2.out.o.1
   have hal := al1 w2 (.cells #[.string E] 9)
   have hgw : K g := (HJ2.out.k g).2 (.inl rfl)
   have hf3 : FrK M K w w3 := (HK2.out.1.below hal hs2).grown hgrow3 fun k e => .inl ((HJ2.out.k k).2 (.inr e))
   have hnf : ¬ M.ft g := (HJ2.out.u g HJ2.out.b).2
   have i3 : Inv M w3 := (HK2.out.2.1.below hal).keep hgrow3.size fun k hk => hgrow3.block k (Nat.lt_of_lt_of_le (HK2.out.2.1.lt_ k hk) hal.size) fun e => (HJ2.out.u k (HR2.out.lt k e.symm).1).2 hk
   have hg0 : g ≠ 0 := by have := HJ2.out.b; have := HJ2.out.z; omega
   refine ⟨fun k => k = g ∨ (Value.slice a3 (VV.length + 1) k3).ownBlock = some k, ⟨_, HO4.out, ?_, fun k => Iff.rfl, hnv, HJ2.out.b, HJ2.out.u, HJ2.out.z⟩, fun k hk => ?_, ?_, i3.upd hu4 hnf, fun i hi => ?_⟩
   ·rw [HV.out, List.length_append, List.map_append]
    exact owns_same hown3 fun k e => hu4.block k fun e2 => hnv (by rw [e, e2])
   ·rcases hk with rfl | e
    ·exact .inl hgw
    ·rcases hloc3 with e2 | e2
     ·exact .inl ((HJ2.out.k k).2 (.inr (by rw [← e2]; exact e)))
     ·rw [e2] at e
      have := Option.some.inj e
      try simp at this
      exact .inr (by omega)
   ·exact ⟨hu4.os.trans hf3.os, hu4.tape.trans hf3.tape, hu4.output.trans hf3.output, by rw [hu4.size]; exact hf3.size, fun k hl hm hn => (hu4.block k fun e => hn (by rw [e]; exact hgw)).trans (hf3.block k hl hm hn)⟩
   ·have t3 : Tab w3 := fun i hi => by
     rw [World.cell?_of_block (hgrow3.block 0 (Nat.lt_of_lt_of_le HK2.out.2.2.pos hal.size) fun e => by have := (HR2.out.lt 0 e.symm).1; have := HJ2.out.z; omega)]
     exact (HK2.out.2.2.below hal HK2.out.2.2.pos) i hi
    rw [World.cell?_of_block (hu4.block 0 hg0.symm)]
    exact t3 i hi)
  clear HI HR2 HJ2 HK2
  go_wp2
  go_ret
  exact ⟨rfl, HN.out⟩
end Tm
end
section
open Go.RowKit
namespace Tm
open Tr Ni Pk Ky No Rf Rl
open Sm (Tab)
theorem goer_any (p : Option Addr) (w : World) : Calls Tryz.prog 31 #[tv p] w fun e w' => e = .returned (.func (Fn.func 54) #[] #[.pointer (some ⟨w.heap.size, 0, none⟩)]) ∧ Rg.Own w' w.heap.size #[.pointer p] 26 ∧ Below w.heap.size w w' ∧ w.heap.size < w'.heap.size := by
 have hmf : ∀ (fn : Fn) (first cap : Array Value) (w : World), (Instr.makeFunc fn first cap).run Tryz.prog w = .ok (.func fn first cap) w := fun _ _ _ _ => rfl
 have hO := Rg.Own.new w #[.pointer p] 26
 have hb := al1 w (.cells #[.pointer p] 26)
 go_enter Tryz.func31, Tryz.ntmps31
 go_wp2
 go_ret
 exact ⟨rfl, hO, hb, by simp⟩
theorem Fr.trans2 {M : Mp} {w w2 wr : World} (f : Fr M M w w2) (hs : w.heap.size ≤ w2.heap.size) (hb : Below w2.heap.size w2 wr) : Fr M M w wr :=
 ⟨hb.os.trans f.os, hb.tape.trans f.tape, hb.output.trans f.output, Nat.le_trans hs hb.size, fun k hl hm => (hb.block k (by omega)).trans (f.block k hl hm), fun _ _ h => h, fun _ _ h => h, fun _ h => h, fun _ h => Or.inl h⟩
def GotL (M : Mp) (w : World) (xs : List ByteArray) (e : Ending) (w' : World) : Prop := ∃ (a : Option Addr) (n c : Nat), e = .returned (.slice a n c) ∧ IsSt w' a n c xs ∧ (∀ b off, a = some ⟨b, off, none⟩ → w.heap.size ≤ b) ∧ Fr M M w w' ∧ Inv M w' ∧ Tab w'
theorem nodes_any (M : Mp) (p : Option Addr) (t : T) (hx : Whl t) (hfew : (nodesT t).length ≤ 100000) (w : World) (hi : Inv M w) (ht : IsT M p t) (hT : Tab w) :
  Calls Tryz.prog 14 #[tv p] w (GotL M w (nodesT t)) := by
 have hmf : ∀ (fn : Fn) (first cap : Array Value) (w : World), (Instr.makeFunc fn first cap).run Tryz.prog w = .ok (.func fn first cap) w := fun _ _ _ _ => rfl
 obtain ⟨w1, hw1⟩ : ∃ w1, w1 = (w.alloc (.cells #[.pointer p] 26)).alloc (.cells #[.slice none 0 0] 30) := ⟨_, rfl⟩
 have hb1 : Below w.heap.size w w1 := by rw [hw1]; exact al2 _ _ _
 have hs1 : w1.heap.size = w.heap.size + 2 := by rw [hw1]; simp
 have hO1 : Rg.Own w1 w.heap.size #[.pointer p] 26 := by rw [hw1]; exact (Rg.Own.new _ _ _).below (al1 _ _)
 have hL1 : Rg.Own w1 (w.heap.size + 1) #[.slice none 0 0] 30 := by
  have := Rg.Own.new (w.alloc (.cells #[.pointer p] 26)) #[.slice none 0 0] 30
  rw [hw1]
  simpa using this
 have HG := hid (goer_any p w1)
 have HF : Hid (∀ w2, Rg.Own w2 w1.heap.size #[.pointer p] 26 → Below w1.heap.size w1 w2 → w1.heap.size < w2.heap.size → Calls Tryz.prog 54 #[.func (Fn.func 32) #[] #[.pointer (some ⟨w.heap.size + 1, 0, none⟩)], .pointer (some ⟨w1.heap.size, 0, none⟩)] w2 fun e w' => e = .returned (.bool true) ∧
   ∃ lv, Rg.Own w' (w.heap.size + 1) #[lv] 30 ∧ GotL M w (nodesT t) (.returned lv) w') := hid (fun w2 h1 h2 h3 => by
  have hb2 : Below w.heap.size w w2 := hb1.trans (h2.mono (by omega))
  have hJ : JN M w.heap.size (w.heap.size + 1) [] (fun k => k = w.heap.size + 1 ∨ (Value.slice none 0 0).ownBlock = some k) w2 := ⟨_, ⟨hL1.below h2, World.ownsRow_nil _ _ _ _, fun _ => Iff.rfl, fun e => (by cases e), by omega, fun k hk => ⟨hi.out hk, hi.free hk⟩, hT.pos⟩⟩
  refine (goer_nodes (jn_on M w.heap.size (w.heap.size + 1)) hx hfew ht (hi.below hb2) (hT.below hb2 hT.pos) hJ w1.heap.size (own_cell (j := 0) h1 rfl) (w.heap.size + 1) (fun V K x p wx g1 g2 g3 g4 g5 g6 => on_nodes M w.heap.size (w.heap.size + 1) V K x p wx g1 g2 g3 g4 g5 g6)).mono ?_
  rintro e w3 ⟨rfl, V, K, hV, ⟨lv, hj⟩, f3, i3, t3, _⟩
  refine ⟨rfl, lv, hj.o, ?_⟩
  have hr := hj.r
  rw [hV] at hr
  obtain ⟨a, c, rfl, hst⟩ := IsSt.ofOwn hr
  have hlt := hj.r.lt
  refine ⟨a, _, c, rfl, hst, fun b off e => (hlt b (by rw [e]; rfl)).1, ?_, i3, t3⟩
  have hk : FrK M (fun k => k = w.heap.size + 1 ∨ (Value.slice none 0 0).ownBlock = some k) w w3 := ((FrK.refl M _ w).below hb2 (Nat.le_refl _)).trans f3 fun k hk => .inl hk
  exact ⟨hk.os, hk.tape, hk.output, hk.size, fun k hl hm => hk.block k hl hm (fun e => e.elim (fun e => by omega) (fun e => by cases e)), fun _ _ h => h, fun _ _ h => h, fun _ h => h, fun _ h => Or.inl h⟩)
 have HO1 := hid hO1
 have HW : Hid (_ = _) := hid hw1
 clear hx hfew hi ht hT hb1 hO1 hL1 hw1 hs1
 go_enter Tryz.func14, Tryz.ntmps14
 go_wp2_with (first
  | (rw [← HW.out]; refine Rg.run rfl _ _ (op_load_tree (own_cell (j := 0) HO1.out rfl) ⟨_, rfl, rfl⟩) ?_))
 refine HG.out.mono ?_
 rintro e w2 ⟨rfl, h1, h2, h3⟩
 replace HF := hid (HF.out w2 h1 h2 h3)
 clear h1 h2 h3 HG HW HO1
 go_wp2_with fail
 refine HF.out.mono ?_
 rintro e w3 ⟨rfl, lv, hO, hP⟩
 have c3 := own_cell (j := 0) hO rfl
 have HP := hid hP
 clear hO hP HF
 go_wp2
 go_ret
 exact HP.out
end Tm
end
section
open Go.RowKit
namespace Tm
open Tr Ni Pk Ky No Rf Rl
open Sm (Tab)
theorem goer_whole {M : Mp} {J : List T → (Nat → Prop) → World → Prop} (hM : OnJ M J) {t : T} (hW : Whl t) (hfew : (nodesT t).length ≤ 100000) {p0 : Option Addr} (ht0 : IsT M p0 t) {K0 : Nat → Prop} {w : World} (hi : Inv M w) (hT : Tab w) (hJ : J [] K0 w) (g0 : Nat) (hc : w.cell? ⟨g0, 0, none⟩ = some (.pointer p0)) 
  (hon : ∀ (V : List T) (K : Nat → Prop) (x : T) (p : Option Addr) (wx : World), J V K wx → Inv M wx → Tab wx → Whl x → IsT M p x → ((V ++ [x]).map tellL).flatten.length ≤ 100000 → Calls Tryz.prog 33 #[tv p] wx fun e w' => e = .returned (.bool true) ∧ ∃ K', OnP M J V K x wx w' K') :
  Calls Tryz.prog 54 #[.func (Fn.func 33) #[] #[], .pointer (some ⟨g0, 0, none⟩)] w fun e w' => e = .returned (.bool true) ∧ ∃ V K, (V.map tellL).flatten = nodesT t ∧ J V K w' ∧ FrK M K0 w w' ∧ Inv M w' ∧ Tab w' ∧ ∀ k, K k → K0 k ∨ w.heap.size ≤ k := by
 obtain ⟨i0, z0, hi0, hz0, hz1, hz2, hz3⟩ := info_tree_parts
 have HI : Hid (_ ∧ _ ∧ _ ∧ _ ∧ _) := hid ⟨hi0, hz0, hz1, hz2, hz3⟩
 have hA1 := al1 w (.cells #[.pointer p0] 26)
 have HG0 : Hid (Gs M J K0 w t (w.alloc (.cells #[.pointer p0] 26)) (.slice (some ⟨w.heap.size, 0, none⟩) 1 1) [] [t] [p0] K0) := hid (by
  refine ⟨?_, ⟨rfl, fun j hj => ?_⟩, fun x hx => by rw [List.mem_singleton.1 hx]; exact hW, by rw [stack_one]; rfl, ?_, hM.st _ _ w _ hJ hA1.size fun k hk => hA1.block k (hM.lt _ _ _ hJ k hk).1, fun k e hk => ?_, (FrK.refl M K0 w).below hA1 (Nat.le_refl _), fun k hk => Or.inl hk, hi.below hA1, hT.below hA1 hT.pos, fun k hk => ⟨hi.out hk, hi.free hk⟩, hT.pos⟩
  ·exact World.ownsRow_lit (e := 26) (size := 1) (base := w.heap.size) w #[.pointer p0] 1 (Nat.le_refl _) (by unfold maxLen; decide) rfl
  ·obtain rfl : j = 0 := by simp at hj; exact hj
   exact ht0
  ·show max 1 (nodesT t).length + 0 ≤ 200000
   omega
  ·have e' : w.heap.size = k := Option.some.inj e
   have := (hM.lt _ _ _ hJ k hk).1
   omega)
 have HC := hid hc
 have HM := hid hM
 have HOn := hid hon
 have HFew := hid hfew
 clear hi0 hz0 hz1 hz2 hz3 hA1 hM hW hfew ht0 hi hT hJ hc hon
 go_enter Tryz.func54, Tryz.ntmps54
 go_wp2_with (first
  | (refine Rg.run rfl _ _ (op_load_tree HC.out ⟨_, rfl, rfl⟩) ?_)
  | (refine Rg.run rfl _ _ (op_lit1 w.heap.size rfl ⟨_, rfl, rfl⟩) ?_))
 go_loopw [4] (fun v0 wr => ∃ (v : Value) (V S : List T) (ps : List (Option Addr)) (K : Nat → Prop), v = v0 ∧ Hid (Gs M J K0 w t wr v V S ps K)) (fun v0 wr => rankV M v0 wr)
 case atStart => exact ⟨_, [], [t], [p0], K0, rfl, HG0⟩
 case round =>
  obtain ⟨v, V, S, ps, K, rfl, HG⟩ := hrel
  clear HG0 HC
  by_cases hn : ps.length = 0
  ·obtain ⟨a, c, rfl⟩ : ∃ a c, v = .slice a 0 c := by
    rcases HG.out.row.2 with ⟨rfl, _⟩ | ⟨g, cap, cur, rfl, _⟩
    ·exact ⟨_, _, rfl⟩
    ·exact ⟨_, _, by rw [hn]⟩
   have HE : Hid (∃ V K, (V.map tellL).flatten = nodesT t ∧ J V K wr ∧ FrK M K0 w wr ∧ Inv M wr ∧ Tab wr ∧ ∀ k, K k → K0 k ∨ w.heap.size ≤ k) := hid (by
    have hG := HG.out
    have hS : S = [] := List.length_eq_zero_iff.1 (by rw [← hG.are.1]; exact hn)
    subst hS
    exact ⟨V, K, by have := hG.eq; simpa [stackN] using this, hG.j, hG.f, hG.i, hG.t, hG.sub⟩)
   clear HG
   go_wp2
   go_ret
   exact ⟨rfl, HE.out⟩
  ·obtain ⟨S', x, ps', p, g, cap, rfl, rfl, rfl, hcell, hx, htx, hgw, hglt, hcap, hcm⟩ := HG.out.pop hn
   have hrk : rankV M (.slice (some ⟨g, 0, none⟩) (ps'.length + 1) cap) wr = rankS (S' ++ [x]) := rank_eq (by have := HG.out.row; simpa using this) HG.out.are
   have hlen := rank_len (S' ++ [x])
   have hrk0 := HG.out.rk
   have hpl : ps'.length = S'.length := (are_snoc HG.out.are).1.1
   unfold maxLen at hcm
   rw [List.length_append] at hlen
   have i1 : (0 : Int) < ((ps'.length + 1 : Nat) : Int) := by omega
   obtain ⟨n, hnl⟩ : ∃ n, ps'.length = n := ⟨_, rfl⟩
   rw [hnl] at hcell hcap i1 hrk
   have hn2 : n ≤ 200000 := by omega
   have hni : (n : Int) < ((n + 1 : Nat) : Int) := by omega
   have hsub : ((n + 1 : Nat) : Int) - 1 = (n : Int) := by omega
   have hw1 : IntKind.i64.wrap (((n + 1 : Nat) : Int) - 1) = (n : Int) := by rw [hsub]; exact IntWalk.i64_in _ (by omega)
   have HX := hid hx
   have HTx := hid htx
   have HNl := hid hnl
   have HRk := hid hrk
   have HCell := hid hcell
   have hNew := Rg.Own.new wr #[.pointer none] 26
   have HN := hid hNew
   have HGl : Hid (w.heap.size ≤ g ∧ g < wr.heap.size) := hid ⟨hgw, hglt⟩
   rw [hnl]
   clear hn hcell hx htx hgw hglt hrk hlen hrk0 hpl hnl hNew
   go_wp2_with (first
    | (refine Rg.run rfl _ _ (op_load_tree (off := n) HCell.out ⟨_, rfl, rfl⟩) ?_)
    | (refine Rg.run rfl _ _ (run_alloc_tree _ _ _ wr.heap.size rfl rfl) ?_)
    | (refine wpl_store_tree HN.out (by decide) p rfl _ _ rfl rfl rfl ?_; intro w1 hO1 hu1; have HO1 : Hid (Rg.Own w1 wr.heap.size #[.pointer p] 26) := hid hO1; have HB1 : Hid (Below wr.heap.size wr w1) := hid (hu1.below (al1 _ _) (Nat.le_refl _)); clear hO1 hu1)
    | (refine Rg.run rfl _ _ (op_load_tree (own_cell (j := 0) HO1.out rfl) ⟨_, rfl, rfl⟩) ?_))
   have hG1 : J V K w1 ∧ Inv M w1 ∧ Tab w1 := ⟨HM.out.st _ _ wr w1 HG.out.j HB1.out.size fun k hk => HB1.out.block k (HM.out.lt _ _ _ HG.out.j k hk).1, HG.out.i.below HB1.out, HG.out.t.below HB1.out HG.out.t.pos⟩
   have hVx : ((V ++ [x]).map tellL).flatten.length ≤ 100000 := by
    have h1 := congrArg List.length HG.out.eq
    rw [stack_step S' HX.out, ← List.append_assoc, List.length_append] at h1
    have h2 : ((V ++ [x]).map tellL).flatten = (V.map tellL).flatten ++ tellL x := by simp
    rw [h2]
    have := HFew.out
    omega
   refine (HOn.out V K x p w1 hG1.1 hG1.2.1 hG1.2.2 HX.out HTx.out hVx).mono ?_
   rintro e w2 ⟨rfl, K', hP⟩
   have hO2 : Rg.Own w2 wr.heap.size #[.pointer p] 26 := ⟨Nat.lt_of_lt_of_le HO1.out.1 hP.f.size, (hP.f.block _ HO1.out.1 (HG.out.out _ HG.out.f.size).1 (fun h => by have := (HM.out.lt _ _ _ HG.out.j _ h).1; omega)).trans HO1.out.2⟩
   have HO2 := hid hO2
   have HP := hid hP
   clear hG1 hP hO2 HO1 HCell HN
   go_wp2_with (first
    | (refine Rg.run rfl _ _ (op_load_tree (own_cell (j := 0) HO2.out rfl) ⟨_, rfl, rfl⟩) ?_))
   obtain ⟨L, hL, hg⟩ := HX.out.good
   refine (open_row M p x L hg hL HX.out.fine HX.out.ns w2 HP.out.i HTx.out HP.out.t).mono ?_
   rintro e w3 ⟨na, nn, nc, ka, kc, qs, rfl, hrow, _, _, hare, _, f3, i3, t3⟩
   have HRow := hid hrow
   have HAre := hid hare
   have HF3 : Hid (Fr M M w2 w3 ∧ Inv M w3 ∧ Tab w3) := hid ⟨f3, i3, t3⟩
   have HNl2 : Hid ((nodeT x).ks.length = 16) := hid (nodeT_length x)
   obtain ⟨N, hN⟩ : ∃ N, nodeT x = N := ⟨_, rfl⟩
   rw [hN] at HNl2 ⊢
   have hNd : OwnN (w3.alloc (.cells (ndC nd0 none 0 0) 57)) w3.heap.size nd0 none 0 0 := Rg.Own.new _ _ _
   have HNd := hid hNd
   clear hrow hare f3 i3 t3 hN hNd hL hg HO2
   go_wp2_with (first
    | (refine Rg.run rfl _ _ (run_alloc_nd _ _ _ w3.heap.size rfl rfl) ?_)
    | (refine wpl_store_nd HNd.out rfl N na nn nc HNl2.out rfl _ _ rfl rfl rfl rfl ?_))
   obtain ⟨w4, hw4⟩ : ∃ w4, w4 = (w3.alloc (.cells (ndC nd0 none 0 0) 57)).setRow w3.heap.size (ndC N na nn nc) := ⟨_, rfl⟩
   have HB4 : Hid (Below w3.heap.size w3 w4) := hid (by rw [hw4]; exact below_rowN (al1 _ _) (Nat.le_refl _) _)
   rw [← hw4]
   clear hw4
   have hs3 := HF3.out.1.size
   have hs4 := HB4.out.size
   refine (reverse_row qs _ w4 (HRow.out.below HB4.out) (by omega)).mono ?_
   rintro e w5 ⟨rfl, hrow5, hb5⟩
   have h35 : Below w2.heap.size w3 w5 := (HB4.out.mono hs3).trans hb5
   have HG5 := hid (HG.out.mid HM.out HB1.out HP.out HF3.out.1 HF3.out.2.1 HF3.out.2.2 h35)
   have HRow5 := hid hrow5
   have hq16 : qs.length ≤ 16 := by rw [HAre.out.1]; exact kids_len x
   have hz5 : w.heap.size ≤ w5.heap.size := HG5.out.f.size
   have hown : w5.ownsRow w.heap.size 26 1 (.slice (some ⟨g, 0, none⟩) n cap) n (ps'.map Value.pointer) := by
    obtain ⟨h1, h2⟩ := HG5.out.row
    rcases h2 with ⟨h2, _⟩ | ⟨g', cap', cur, e, hg, hh, hnc, hcm', hsz, htk⟩
    ·cases h2
    ·injection e with e1 e2 e3
     injection e1 with e1
     injection e1 with e1
     subst e1 e3
     refine ⟨by rw [List.length_map, HNl.out, Nat.mul_one], .inr ⟨g, cap, cur, rfl, hg, hh, by omega, hcm', hsz, ?_⟩⟩
     have h3 := congrArg (List.take n) htk
     rw [List.take_take, List.length_append, HNl.out] at h3
     rw [Nat.mul_one, show n = min n ((n + [p].length) * 1) by simp, h3, List.map_append]
     rw [List.take_left' (by rw [List.length_map]; exact HNl.out)]
   have HOwn := hid hown
   clear HRow HB4 HF3 HB1 HP hrow5 h35 hb5 hs3 hs4 hown HNd
   rcases HRow5.out with ⟨he, hq⟩ | ⟨g2, cap2, he, hg2, hR2⟩
   ·injection he with he1 he2 he3
    subst he1 he3
    have hq0 : qs = [] := by simpa using hq
    subst hq0
    have HNx : Hid (Gs M J K0 w t w5 (.slice (some ⟨g, 0, none⟩) n cap) (V ++ [x]) (S' ++ (kidsT x).reverse) ps' K') := hid (by
     have := Gm.next (p := p) HG.out HM.out HG5.out HAre.out (v6 := .slice (some ⟨g, 0, none⟩) n cap) (w6 := w5) (by simpa [HNl.out] using HOwn.out) ⟨rfl, rfl, rfl, Nat.le_refl _, fun _ _ _ => rfl⟩ (.inl rfl)
     simpa using this)
    go_wp2_with (first
     | (refine Rg.run rfl _ _ (op_upto (j := n) under_trees size_tree (by omega) ⟨_, _, rfl, rfl, rfl⟩) ?_)
     | (at_builtin; refine wpList_append_own_none rfl _ _ 85 rfl w.heap.size 26 i0 1 Tryz.underlying85 HI.out.1 _ n (ps'.map Value.pointer) rfl HOwn.out rfl ?_))
    go_roundw
    case rel => exact ⟨_, _, _, _, _, rfl, HNx⟩
    case measure =>
     have hr := rank_eq HNx.out.row HNx.out.are
     have hs := rank_step S' HX.out
     rw [HRk.out, hr]
     exact hs
   ·injection he with he1 he2 he3
    subst he1 he3
    have hcq : ∀ j u, (qs.reverse.map Value.pointer)[j]? = some u → w5.cell? ((⟨g2, 0, none⟩ : Addr).add j) = some u := fun j u hu => by
     have hj : j < qs.reverse.length := by
      have := (List.getElem?_eq_some_iff.1 hu).1
      simpa using this
     rw [Addr.add_mid, Nat.zero_add, hR2.cell hj]
     rw [List.getElem?_map, List.getElem?_eq_getElem hj] at hu
     rw [Option.map_some] at hu
     obtain rfl := Option.some.inj hu
     rw [List.getD_eq_getElem?_getD, List.getElem?_eq_getElem hj]
     rfl
    have HCq := hid hcq
    clear hcq hg2 hR2 he2
    go_wp2_with (first
     | (refine Rg.run rfl _ _ (op_upto (j := n) under_trees size_tree (by omega) ⟨_, _, rfl, rfl, rfl⟩) ?_)
     | (at_builtin; refine wpList_append_own_at _ rfl _ _ 85 rfl w.heap.size 26 i0 z0 1 8 Tryz.underlying85 HI.out.1 HI.out.2.1 HI.out.2.2.1 HI.out.2.2.2.1 HI.out.2.2.2.2 (by decide) _ n (ps'.map Value.pointer) rfl HOwn.out ⟨g2, 0, none⟩ qs.length kc (qs.reverse.map Value.pointer) rfl (by simp) HCq.out ?d2 ?d3 ?d4 ?d5 ?_))
    all_goals first
     | (intro u hu; obtain ⟨q, _, rfl⟩ := List.mem_map.1 hu; rfl)
     | (unfold maxLen; omega)
     | omega
     | exact hz5
     | skip
    intro v' w6 hown6 hgrow6 _ hloc6
    have HNx : Hid (Gs M J K0 w t w6 v' (V ++ [x]) (S' ++ (kidsT x).reverse) (ps' ++ qs.reverse) K') := hid (Gm.next (p := p) HG.out HM.out HG5.out HAre.out (by rw [List.length_append, List.length_reverse, List.map_append, List.map_reverse, HNl.out]; exact hown6) hgrow6 hloc6)
    go_wp2
    go_roundw
    case rel => exact ⟨_, _, _, _, _, rfl, HNx⟩
    case measure =>
     have hr := rank_eq HNx.out.row HNx.out.are
     have hs := rank_step S' HX.out
     rw [HRk.out, hr]
     exact hs
end Tm
end
section
open Go.RowKit
namespace Tm
open Tr Ni Pk Ky No Rf Rl
open Sm (Tab)
def SayP (M : Mp) (w : World) (v : Value) (e : Ending) (w' : World) : Prop := e = .returned v ∧ Fr M M w w' ∧ Inv M w' ∧ Tab w'
theorem Tab.upd {w w' : World} {g : Nat} (h : Tab w) (hu : Rg.Upd w g w') (hg : 0 < g) : Tab w' := fun i hi => by
 rw [World.cell?_of_block (hu.block 0 (by omega))]
 exact h i hi
theorem SayP.upd {M : Mp} {w w1 w' : World} {g : Nat} (hi : Inv M w) (h0 : 0 < w.heap.size) (f : Fr M M w w1) (i : Inv M w1) (t : Tab w1) (hu : Rg.Upd w1 g w') (hg : w.heap.size ≤ g) : Fr M M w w' ∧ Inv M w' ∧ Tab w' :=
 ⟨f.upd hu hg, i.upd hu (hi.free hg), Tab.upd t hu (by omega)⟩
theorem dropped_any (M : Mp) (p : Option Addr) (x : T) (hx : Whl x) (w : World) (hi : Inv M w) (ht : IsT M p x) (hT : Tab w) : Calls Tryz.prog 34 #[tv p] w (SayP M w (.bool false)) := by
 have hA1 := al1 w (.cells #[.pointer p] 26)
 have h0 := box_tree w p
 obtain ⟨L, hL, hg⟩ := hx.good
 have HO := hid (open_any M p x L hg hL hx.fine hx.ns (w.alloc (.cells #[.pointer p] 26)) (hi.below hA1) ht (hT.below hA1 hT.pos))
 have HF : Hid (∀ w2, Fr M M (w.alloc (.cells #[.pointer p] 26)) w2 → Inv M w2 → Tab w2 → w2.cell? ⟨w.heap.size, 0, none⟩ = some (.pointer p) ∧ ∀ w3, Below w2.heap.size w2 w3 → w3.cell? ⟨w.heap.size, 0, none⟩ = some (.pointer p) ∧ Fr M M w w3 ∧ Inv M w3 ∧ Tab w3) := hid (fun w2 f i t => by
  have hc : w2.cell? ⟨w.heap.size, 0, none⟩ = some (.pointer p) := by rw [f.cell (by simp) (hi.out (Nat.le_refl _))]; exact h0
  have f0 := (Fr.below M hA1).trans hi f
  refine ⟨hc, fun w3 hb => ⟨?_, f0.trans2 f0.size hb, i.below hb, t.below hb t.pos⟩⟩
  rw [hb.cell (p := ⟨w.heap.size, 0, none⟩) (World.block_lt_of_cell? w2 _ hc)]
  exact hc)
 have HNl := hid (nodeT_length x)
 have hkd : ((nodeT x).kd = 0 ∧ p = none) ∨ (nodeT x).kd ≠ 0 := by
  by_cases hn : x = .nil
  ·subst hn
   exact .inl ⟨rfl, ht.nil_iff.2 rfl⟩
  ·exact .inr (node_kd hn hx.ns)
 obtain ⟨N, hN⟩ : ∃ N, nodeT x = N := ⟨_, rfl⟩
 unfold OpenP at HO
 rw [hN] at HNl hkd HO
 have HKd := hid hkd
 clear hN hA1 hg hL hx hi ht hT hkd
 go_enter Tryz.func34, Tryz.ntmps34
 go_wp2_with (first
  | (refine Rg.run rfl _ _ (op_load_tree h0 ⟨_, rfl, rfl⟩) ?_))
 refine HO.out.mono ?_
 rintro e w2 ⟨na, nn, nc, ka, kc, qs, rfl, _, _, _, _, f2, i2, t2⟩
 obtain ⟨c2, hF2⟩ := HF.out w2 f2 i2 t2
 have HF2 := hid hF2
 have hNd : OwnN (w2.alloc (.cells (ndC nd0 none 0 0) 57)) w2.heap.size nd0 none 0 0 := Rg.Own.new _ _ _
 have HNd := hid hNd
 obtain ⟨w3, hw3⟩ : ∃ w3, w3 = (w2.alloc (.cells (ndC nd0 none 0 0) 57)).setRow w2.heap.size (ndC N na nn nc) := ⟨_, rfl⟩
 have hb3 : Below w2.heap.size w2 w3 := by rw [hw3]; exact below_rowN (al1 _ _) (Nat.le_refl _) _
 have hN3 : OwnN w3 w2.heap.size N na nn nc := by rw [hw3]; exact own_rowN hNd
 have ck : w3.cell? ⟨w2.heap.size, 0, none⟩ = some (.int .i64 N.kd) := own_cell (j := 0) hN3 rfl
 obtain ⟨c3, hF3⟩ := HF2.out w3 hb3
 have HF3 : Hid (∀ w4, Below w3.heap.size w3 w4 → Fr M M w w4 ∧ Inv M w4 ∧ Tab w4) := hid (fun w4 hb => (HF2.out w4 (hb3.trans (hb.mono hb3.size))).2)
 have HF3' := hid hF3
 have HW : Hid (_ = _) := hid hw3
 clear HO HF HF2 h0 f2 i2 t2 hF2 hNd hw3 hb3 hN3 hF3 c2
 rcases HKd.out with ⟨hk0, rfl⟩ | hk0
 ·rw [hk0] at ck
  go_wp2_with (first
   | (refine Rg.run rfl _ _ (run_alloc_nd _ _ _ w2.heap.size rfl rfl) ?_)
   | (refine wpl_store_nd HNd.out rfl N na nn nc HNl.out rfl _ _ rfl rfl rfl rfl ?_; rw [← HW.out])
   | (refine Rg.run rfl _ _ (op_load_tree c3 ⟨_, rfl, rfl⟩) ?_)
   | (refine Rg.runW ?hw _ _ (op_load_tree c3 ⟨_, rfl, rfl⟩) ?_; case hw => rfl))
  refine (empty_any none w3).mono ?_
  rintro e w4 ⟨rfl, hb4⟩
  have HE := hid (HF3.out w4 hb4)
  clear hb4 HF3 HF3' HW
  go_wp2
  go_ret
  exact ⟨rfl, HE.out⟩
 ·have q0 : decide (N.kd = 0) = false := decide_eq_false hk0
  go_wp2_with (first
   | (refine Rg.run rfl _ _ (run_alloc_nd _ _ _ w2.heap.size rfl rfl) ?_)
   | (refine wpl_store_nd HNd.out rfl N na nn nc HNl.out rfl _ _ rfl rfl rfl rfl ?_; rw [← HW.out]))
  go_ret
  exact ⟨rfl, HF3'.out⟩
def JW (_ : List T) (K : Nat → Prop) (_ : World) : Prop := ∀ k, ¬ K k
theorem jw_on (M : Mp) : OnJ M JW := ⟨fun _ _ _ _ h _ _ => h, fun _ _ _ h k hk => absurd hk (h k)⟩
theorem on_whole (M : Mp) (V : List T) (K : Nat → Prop) (x : T) (p : Option Addr) (w : World) (hJ : JW V K w) (hi : Inv M w) (hT : Tab w) (hx : Whl x) (ht : IsT M p x) :
  Calls Tryz.prog 33 #[tv p] w fun e w' => e = .returned (.bool true) ∧ ∃ K', OnP M JW V K x w w' K' := by
 have hA1 := al1 w (.cells #[.pointer p] 26)
 have h0 := box_tree w p
 have HD := hid (dropped_any M p x hx (w.alloc (.cells #[.pointer p] 26)) (hi.below hA1) ht (hT.below hA1 hT.pos))
 have HF : Hid (∀ w2, Fr M M (w.alloc (.cells #[.pointer p] 26)) w2 → Inv M w2 → Tab w2 → OnP M JW V K x w w2 K) := hid (fun w2 f i t => ⟨hJ, fun k hk => .inl hk, FrK.of ((Fr.below M hA1).trans hi f), i, t⟩)
 clear hA1 hJ hi hT hx ht
 go_enter Tryz.func33, Tryz.ntmps33
 go_wp2_with (first
  | (refine Rg.run rfl _ _ (op_load_tree h0 ⟨_, rfl, rfl⟩) ?_))
 refine HD.out.mono ?_
 rintro e w2 ⟨rfl, f, i, t⟩
 have HE := hid (HF.out w2 f i t)
 clear f i t HF HD
 go_wp2
 go_ret
 exact ⟨rfl, K, HE.out⟩
theorem whole_any (M : Mp) (p : Option Addr) (t : T) (hx : Whl t) (hfew : (nodesT t).length ≤ 100000) (w : World) (hi : Inv M w) (ht : IsT M p t) (hT : Tab w) : Calls Tryz.prog 18 #[tv p] w (SayP M w (.bool true)) := by
 have hA1 := al1 w (.cells #[.pointer p] 26)
 have h0 := box_tree w p
 obtain ⟨w1, hw1⟩ : ∃ w1, w1 = w.alloc (.cells #[.pointer p] 26) := ⟨_, rfl⟩
 rw [← hw1] at hA1 h0
 have HG := hid (goer_any p w1)
 have HF : Hid (∀ w2, Rg.Own w2 w1.heap.size #[.pointer p] 26 → Below w1.heap.size w1 w2 → w1.heap.size < w2.heap.size → Calls Tryz.prog 54 #[.func (Fn.func 33) #[] #[], .pointer (some ⟨w1.heap.size, 0, none⟩)] w2 (SayP M w (.bool true))) := hid (fun w2 h1 h2 h3 => by
  have hb2 : Below w.heap.size w w2 := hA1.trans (h2.mono hA1.size)
  refine (goer_whole (jw_on M) hx hfew ht (hi.below hb2) (hT.below hb2 hT.pos) (K0 := fun _ => False) (fun _ h => h) w1.heap.size (own_cell (j := 0) h1 rfl) (fun V K x p wx g1 g2 g3 g4 g5 _ => on_whole M V K x p wx g1 g2 g3 g4 g5)).mono ?_
  rintro e w3 ⟨rfl, V, K, _, _, f3, i3, t3, _⟩
  exact ⟨rfl, (Fr.below M hb2).trans hi f3.fr, i3, t3⟩)
 have HW : Hid (_ = _) := hid hw1
 have H0 := hid h0
 clear hx hfew hi ht hT hA1 hw1 h0
 go_enter Tryz.func18, Tryz.ntmps18
 go_wp2_with (first
  | (rw [← HW.out]; refine Rg.run rfl _ _ (op_load_tree H0.out ⟨_, rfl, rfl⟩) ?_))
 refine HG.out.mono ?_
 rintro e w2 ⟨rfl, h1, h2, h3⟩
 replace HF := hid (HF.out w2 h1 h2 h3)
 clear h1 h2 h3 HG HW H0
 go_wp2_with fail
 refine HF.out.mono ?_
 rintro e w3 ⟨rfl, hP⟩
 have HP := hid hP
 clear hP HF
 go_wp2
 go_ret
 exact ⟨rfl, HP.out⟩
theorem Whl.size {t : T} (h : Whl t) : (encT t).size ≤ 900000 := by
 by_cases hn : t = .nil
 ·subst hn; exact Nat.zero_le _
 ·exact (h.enc hn).2
theorem of_root (M : Mp) (p : Option Addr) (t : T) (hx : Whl t) (w : World) (hi : Inv M w) (ht : IsT M p t) (hT : Tab w) : Calls Tryz.prog 10 #[tv p] w (SayP M w (.agg (Sm.kc (rootP (encT t))))) := by
 obtain ⟨w1, hw1⟩ : ∃ w1, w1 = (w.alloc (.cells #[.pointer p] 26)).alloc (.cells (Sm.kc Sm.zk) 35) := ⟨_, rfl⟩
 have hb1 : Below w.heap.size w w1 := by rw [hw1]; exact al2 _ _ _
 have hO1 : Rg.Own w1 w.heap.size #[.pointer p] 26 := by rw [hw1]; exact (Rg.Own.new _ _ _).below (al1 _ _)
 have hS1 : Rg.Own w1 (w.heap.size + 1) (Sm.kc Sm.zk) 35 := by
  have := Rg.Own.new (w.alloc (.cells #[.pointer p] 26)) (Sm.kc Sm.zk) 35
  rw [hw1]
  simpa using this
 obtain ⟨L, hL, hg⟩ := hx.good
 have HE := hid (tree_enc M p t L hg hL hx.fine w1 (hi.below hb1) ht (hT.below hb1 hT.pos))
 have HR : Hid (∀ w2, Tab w2 → Calls Tryz.prog 28 #[.string (encT t)] w2 fun e w' => e = .returned (.agg (Sm.kc (rootP (encT t)))) ∧ Below w2.heap.size w2 w') := hid (fun w2 h => root_any (encT t) hx.size w2 h)
 have HKl := hid (rootP_length (encT t))
 have HF : Hid (∀ w2 w3, Fr M M w1 w2 → Inv M w2 → Tab w2 → Below w2.heap.size w2 w3 → Rg.Own w3 (w.heap.size + 1) (Sm.kc Sm.zk) 35 ∧ ∀ w4, Rg.Upd w3 (w.heap.size + 1) w4 → Fr M M w w4 ∧ Inv M w4 ∧ Tab w4) := hid (fun w2 w3 f i t hb => by
  have f0 := (Fr.below M hb1).trans hi f
  exact ⟨(own_fr hS1 f (hi.out (by omega))).below hb, fun w4 hu => SayP.upd hi hT.pos (f0.trans2 f0.size hb) (i.below hb) (t.below hb t.pos) hu (by omega)⟩)
 have HO1 := hid hO1
 have HW : Hid (_ = _) := hid hw1
 obtain ⟨E, hE⟩ : ∃ E, encT t = E := ⟨_, rfl⟩
 rw [hE] at HE HR HKl ⊢
 obtain ⟨K, hK⟩ : ∃ K, rootP E = K := ⟨_, rfl⟩
 rw [hK] at HR HKl ⊢
 clear hx hi ht hT hb1 hO1 hS1 hw1 hL hg hE hK
 go_enter Tryz.func10, Tryz.ntmps10
 go_wp2_with (first
  | (refine Rg.run rfl _ _ (Sm.run_alloc_sum _ _ rfl _ (w.heap.size + 1) (by simp)) ?_; rw [← HW.out])
  | (refine Rg.run rfl _ _ (op_load_tree (own_cell (j := 0) HO1.out rfl) ⟨_, rfl, rfl⟩) ?_))
 refine HE.out.mono ?_
 rintro e w2 ⟨rfl, f2, i2, t2⟩
 have HH : Hid (Fr M M w1 w2 ∧ Inv M w2 ∧ Tab w2) := hid ⟨f2, i2, t2⟩
 clear f2 i2 t2 HE HO1
 go_wp2_with fail
 refine (HR.out w2 HH.out.2.2).mono ?_
 rintro e w3 ⟨rfl, hb3⟩
 obtain ⟨hO3, hF3⟩ := HF.out w2 w3 HH.out.1 HH.out.2.1 HH.out.2.2 hb3
 have HO3 := hid hO3
 have HF3 := hid hF3
 clear hO3 hF3 hb3 HF HH HR
 go_wp2_with (refine wpList_store_rowTo rfl 35 _ _ rfl rfl _ (Sm.kc K) rfl rfl 35 (Sm.kc Sm.zk) HO3.out.2 (Sm.info_kc K HKl.out) (by rw [Sm.kc_size, Sm.kc_size, HKl.out]; rfl) (Sm.kc_one _) ?_)
 exact bodyPost_ret (results_cell_row rfl _ _ (w.heap.size + 1) 35 (Sm.kc K) (0, 0) _ rfl (setRow_heap _ _ _ _ _ _ HO3.out.2) Tryz.underlying35 rfl (Sm.info_kc K HKl.out)) rfl ⟨rfl, HF3.out _ (Rg.Upd.set _ _ _)⟩
theorem same_any (M : Mp) (p q : Option Addr) (t : T) (hx : Whl t) (w : World) (hi : Inv M w) (ht : IsT M p t) (hu : IsT M q t) (hT : Tab w) : Calls Tryz.prog 26 #[tv p, tv q] w (SayP M w (.bool true)) := by
 obtain ⟨w1, hw1⟩ : ∃ w1, w1 = (w.alloc (.cells #[.pointer p] 26)).alloc (.cells #[.pointer q] 26) := ⟨_, rfl⟩
 have hb1 : Below w.heap.size w w1 := by rw [hw1]; exact al2 _ _ _
 have hO1 : Rg.Own w1 w.heap.size #[.pointer p] 26 := by rw [hw1]; exact (Rg.Own.new _ _ _).below (al1 _ _)
 have hO2 : Rg.Own w1 (w.heap.size + 1) #[.pointer q] 26 := by
  have := Rg.Own.new (w.alloc (.cells #[.pointer p] 26)) #[.pointer q] 26
  rw [hw1]
  simpa using this
 obtain ⟨L, hL, hg⟩ := hx.good
 have hbd : Below w.heap.size w w1.drew := below_drewN hb1 1
 have hiD := hi.below hbd
 have hTd := hT.below hbd hT.pos
 have hC : ((w1.drew.cell? ⟨w.heap.size, 0, none⟩ = some (.pointer p) ∧ w1.drew.cell? ⟨w.heap.size + 1, 0, none⟩ = some (.pointer q)) ∧ Calls Tryz.prog 29 #[tv p] w1.drew (TellP M w1.drew (encT t)) ∧
   ∀ e w3, TellP M w1.drew (encT t) e w3 → e = .returned (.string (encT t)) ∧ (w3.cell? ⟨w.heap.size, 0, none⟩ = some (.pointer p) ∧ w3.cell? ⟨w.heap.size + 1, 0, none⟩ = some (.pointer q)) ∧ Calls Tryz.prog 29 #[tv q] w3 (TellP M w3 (encT t)) ∧
   ∀ e w4, TellP M w3 (encT t) e w4 → e = .returned (.string (encT t)) ∧ (w4.cell? ⟨w.heap.size, 0, none⟩ = some (.pointer p) ∧ w4.cell? ⟨w.heap.size + 1, 0, none⟩ = some (.pointer q)) ∧ Fr M M w w4 ∧ Inv M w4 ∧ Tab w4) := by
  have hg0 : M.at_ w.heap.size = none := hi.out (Nat.le_refl _)
  have hg1 : M.at_ (w.heap.size + 1) = none := hi.out (by omega)
  refine ⟨⟨own_cell (j := 0) hO1 rfl, own_cell (j := 0) hO2 rfl⟩, tree_enc M p t L hg hL hx.fine _ hiD ht hTd, ?_⟩
  rintro e w3 ⟨rfl, f3, i3, t3⟩
  have hO13 := own_fr (hO1.drew) f3 hg0
  have hO23 := own_fr (hO2.drew) f3 hg1
  refine ⟨rfl, ⟨own_cell (j := 0) hO13 rfl, own_cell (j := 0) hO23 rfl⟩, tree_enc M q t L hg hL hx.fine _ i3 hu t3, ?_⟩
  rintro e w4 ⟨rfl, f4, i4, t4⟩
  exact ⟨rfl, ⟨own_cell (j := 0) (own_fr hO13 f4 hg0) rfl, own_cell (j := 0) (own_fr hO23 f4 hg1) rfl⟩, ((Fr.below M hbd).trans hi f3).trans hi f4, i4, t4⟩
 have HC := hid hC
 have HW : Hid (_ = _) := hid hw1
 obtain ⟨E, hE⟩ : ∃ E, encT t = E := ⟨_, rfl⟩
 rw [hE] at HC
 clear hx hi ht hu hT hb1 hO1 hO2 hw1 hL hg hE hC hbd hiD hTd
 go_enter Tryz.func26, Tryz.ntmps26
 go_wp2_with fail
 try rw [← HW.out]
 refine wp_region_noPanic ?_
 refine wp_region_held_drew (S := fun w' => w'.cell? ⟨w.heap.size, 0, none⟩ = some (.pointer p) ∧ w'.cell? ⟨w.heap.size + 1, 0, none⟩ = some (.pointer q)) (by kernel_rfl) (HC.out.1) (fun hld => ?_)
 refine Rg.tk (i := 0) rfl ?_ (hy := by intro wz hSw; (refine op_load_tree hSw.1 ?_; exact ⟨_, rfl, rfl⟩))
 try simp only [Act.put, Rg.s]
 refine Rg.tk (i := 2) rfl ?_ (hy := by intro wz hSw; (refine op_load_tree hSw.2 ?_; exact ⟨_, rfl, rfl⟩))
 try simp only [Act.put, Rg.s]
 refine Rg.rd (i := 1) rfl fun K hK => ?_
 go_simp
 go_at_call 29
 (with_reducible refine (HC.out.2.1).mono ?_)
 intro e w3 hG
 obtain ⟨rfl, hS3, hE3, hF3⟩ := HC.out.2.2 e w3 hG
 have H3 := hid hE3
 have HF3 := hid hF3
 clear hG hE3 hF3
 refine hK.out _ _ ?_ (fun hld => ?_)
 ·exact hS3
 clear hK K
 try simp only [Act.put, Rg.s]
 refine Rg.rd (i := 3) rfl fun K hK => ?_
 go_simp
 go_at_call 29
 (with_reducible refine (H3.out).mono ?_)
 intro e w4 hG
 obtain ⟨rfl, hS4, hF4⟩ := HF3.out e w4 hG
 have HF4 := hid hF4
 clear hG hF4
 refine hK.out _ _ ?_ (fun hld => ?_)
 ·exact hS4
 clear hK K
 try simp only [Act.put, Rg.s]
 refine Rg.tk (i := 4) rfl ?_
 try simp only [Act.put, Rg.s]
 refine Rg.tk (i := 5) rfl ?_
 try simp only [Act.put, Rg.s]
 refine wpAnyH_done (by kernel_rfl) ?_ _
 refine NoPanic.normal ?_
 go_wp2
 go_ret
 exact ⟨rfl, HF4.out⟩
end Tm
end
section
open Go.RowKit
namespace Tm
open Tr Ni Pk Ky No Rf Rl
open Sm (Tab)
def lvOf (f : Fs) (s : ByteArray) : Nat := match f s with
 | some (_, _, lv) => lv
 | none => 0
def maxl (f : Fs) (l : List T) : Nat := l.foldl (fun m u => max m (lvOf f (ref u))) 0
def Read (f : Fs) (t : T) : Prop := ∀ u ∈ kidsT t, ∃ lv, f (ref u) = some (encT u, u, lv) ∧ 0 < lv ∧ lv ≤ 64 ∧ 32 ≤ (ref u).size
theorem maxl_step (f : Fs) (l : List T) (j : Nat) (hj : j < l.length) : maxl f (l.take (j + 1)) = max (maxl f (l.take j)) (lvOf f (ref (l.getD j .nil))) := by
 unfold maxl
 rw [List.take_add_one, List.getElem?_eq_getElem hj, List.foldl_append]
 simp [List.getD, hj]
theorem maxl_le (f : Fs) (B : Nat) : ∀ (l : List T) (m : Nat), m ≤ B → (∀ u ∈ l, lvOf f (ref u) ≤ B) → l.foldl (fun m u => max m (lvOf f (ref u))) m ≤ B
 | [], m, h, _ => h
 | u :: r, m, h, hl => maxl_le f B r _ (Nat.max_le.2 ⟨h, hl u List.mem_cons_self⟩) fun z hz => hl z (List.mem_cons_of_mem _ hz)
theorem Read.le {f : Fs} {t : T} (h : Read f t) : ∀ u ∈ kidsT t, lvOf f (ref u) ≤ 64 := fun u hu => by
 obtain ⟨lv, e, _, h2, _⟩ := h u hu
 unfold lvOf
 rw [e]
 exact h2
theorem Read.max {f : Fs} {t : T} (h : Read f t) (j : Nat) : maxl f ((kidsT t).take j) ≤ 64 := maxl_le f 64 _ 0 (Nat.zero_le _) fun u hu => h.le u (List.mem_of_mem_take hu)
theorem ptrs_owns {w : World} {B : Nat} {v : Value} {ps : List (Option Addr)} (h : w.ownsRow B 26 1 v ps.length (ps.map Value.pointer)) : ∃ a c, v = .slice a ps.length c ∧ Ptrs w a ps.length c ps := by
 have h' := h
 rcases h.2 with ⟨rfl, h0⟩ | ⟨g, cap, cur, rfl, _⟩
 ·exact ⟨none, 0, by rw [h0], by omega, Nat.zero_le _, rfl, fun _ => rfl, fun j hj => absurd hj (by omega)⟩
 ·obtain ⟨_, _, hlt, hnc, hcm, hc⟩ := row_cells h'
  exact ⟨_, cap, rfl, hnc, hcm, rfl, fun e => (by cases e), fun j hj => ⟨g, 0, rfl, hlt, by rw [Nat.zero_add]; exact hc j hj⟩⟩
theorem find_read {w : World} {b n : Nat} {D : DataW Value} (hO : Shf w b n D) (s : ByteArray) (hs : s.size ≤ 1000000) (h32 : 32 ≤ s.size) (e0 : ByteArray) (p : Option Addr) (lv : Nat) (hh : Maps.has D (keyL s) = true) (hat : ∀ z, D.atKey (keyL s) z = .held (.agg (bodyA e0 p lv))) :
  Calls Tryz.prog 121 #[.map (some b), .string s] w fun e w' => e = .returned (.tuple #[.agg (bodyA e0 p lv), .int .i64 0]) ∧ Below w.heap.size w w' := by
 have hs' : s.size ≤ maxLen := by unfold maxLen; omega
 obtain ⟨w1, hw1⟩ : ∃ w1, w1 = w.alloc (.cells (bodyA eB none 0) 76) := ⟨_, rfl⟩
 have hb1 : Below w.heap.size w w1 := by rw [hw1]; exact al1 _ _
 have hO1 : Rg.Own w1 w.heap.size (bodyA eB none 0) 76 := by rw [hw1]; exact Rg.Own.new _ _ _
 have hlt := hO.lt
 have hS1 : Shf w1 b n D := by rw [hw1]; exact hO.alloc _
 have HO1 := hid hO1
 have HB1 := hid hb1
 have HS1 := hid hS1
 have HW : Hid (_ = _) := hid hw1
 have HH := hid hh
 have HA := hid hat
 have HN := hid (own_bodyA w1 w1.heap.size rfl)
 have d1 : decide ((s.size : Int) < 32) = false := decide_eq_false (by omega)
 have d2 : decide (s.size < 32) = false := decide_eq_false (by omega)
 clear hO1 hb1 hS1 hw1 hh hat hO
 go_enter Tryz.func121, Tryz.ntmps121
 go_wp2_with (first
  | (refine Rg.run rfl _ _ (run_alloc_body _ _ _ w.heap.size rfl rfl) ?_; rw [← HW.out])
  | (refine Rg.run rfl _ _ (op_look2 HS1.out hs' HH.out HA.out ⟨_, _, rfl, rfl, rfl⟩) ?_)
  | (refine Rg.run rfl _ _ (run_alloc_body _ _ _ w1.heap.size rfl rfl) ?_)
  | (refine wpl_store_body HN.out rfl e0 p lv rfl _ _ rfl rfl rfl rfl ?_; intro w2 hO2 hu2; have HO2 := hid hO2; have HB2 : Hid (Below w1.heap.size w1 w2) := hid (hu2.below (al1 _ _) (Nat.le_refl _)); have HR2 := hid (HO1.out.below HB2.out); clear hO2 hu2)
  | (refine Rg.run rfl _ _ (op_load_body HO2.out ⟨_, rfl, rfl⟩) ?_)
  | (refine wpl_store_body HR2.out rfl e0 p lv rfl _ _ rfl rfl rfl rfl ?_; intro w3 hO3 hu3; have HO3 := hid hO3; have HU3 := hid hu3; clear hO3 hu3))
 exact bodyPost_ret (res_body (q := 4) (u := 5) rfl _ rfl HO3.out) rfl ⟨rfl, HU3.out.below (bst HB1.out HB2.out) (Nat.le_refl _)⟩
def GrownP (M : Mp) (w : World) (t : T) (lv : Nat) (e : Ending) (w' : World) : Prop := ∃ p M', e = .returned (.tuple #[.agg (bodyA (encT t) p lv), .int .i64 0]) ∧ IsT M' p t ∧ Fr M M' w w' ∧ Inv M' w' ∧ Tab w'
theorem grown_any {M : Mp} {w : World} {b n : Nat} {f : Fs} {D : DataW Value} (hS : ShS M w b f n D) (hi : Inv M w) (hT : Tab w) {t : T} (hx : Whl t) (hn : t ≠ .nil) (hr : Read f t) :
  Calls Tryz.prog 94 #[.map (some b), .string (encT t)] w (GrownP M w t (maxl f (kidsT t) + 1)) := by
 obtain ⟨i0, z0, hi0, hz0, hz1, hz2, hz3⟩ := info_tree_parts
 have HI : Hid (_ ∧ _ ∧ _ ∧ _ ∧ _) := hid ⟨hi0, hz0, hz1, hz2, hz3⟩
 obtain ⟨L, hL, hg⟩ := hx.good
 have hks := (tree_node hg hL hx.fine hn hx.ns).2.2.2.2.2
 have hkr := kids_refs hg hL hx.fine
 have hkl := kids_len t
 have hlt := hS.lt
 obtain ⟨w1, hw1⟩ : ∃ w1, w1 = w.alloc (.cells (bodyA eB none 0) 76) := ⟨_, rfl⟩
 have hb1 : Below w.heap.size w w1 := by rw [hw1]; exact al1 _ _
 have hO1 : Rg.Own w1 w.heap.size (bodyA eB none 0) 76 := by rw [hw1]; exact Rg.Own.new _ _ _
 have HGt := hid (get_tree hx hn w1)
 have hK : ∀ a' n' c' w2, Calls Tryz.prog 92 #[.agg (ndC (nodeT t) a' n' c')] w2 (GotS w2 ((kidsT t).map ref)) := fun a' n' c' w2 => by
  have := kids_own (nodeT t) a' n' c' (nodeT_length t) w2
  rw [hkr] at this
  exact this
 have HK := hid hK
 have hMk : ∀ (w2 : World) (pa : Option Addr) (pn pc : Nat) (v : Value) (ps : List (Option Addr)), Below w1.heap.size w1 w2 → IsBs w2 pa pn pc (nodeT t).p → w2.ownsRow w1.heap.size 26 1 v ps.length (ps.map Value.pointer) → Are M ps (kidsT t) →
   Calls Tryz.prog 122 #[.agg (ndC (nodeT t) pa pn pc), v] w2 fun e w' => ∃ p M', e = .returned (.tuple #[tv p, .int .i64 0]) ∧ IsT M' p t ∧ Rg.Own w' w.heap.size (bodyA eB none 0) 76 ∧ ∀ w3, Below w'.heap.size w' w3 → Rg.Own w3 w.heap.size (bodyA eB none 0) 76 ∧ ∀ w4, Rg.Upd w3 w.heap.size w4 → Fr M M' w w4 ∧ Inv M' w4 ∧ Tab w4 := fun w2 pa pn pc v ps hb2 hp2 hr2 hA => by
  obtain ⟨a, c, rfl, hP⟩ := ptrs_owns hr2
  have hb02 : Below w.heap.size w w2 := hb1.trans (hb2.mono hb1.size)
  have hpl : ps.length ≤ 16 := by rw [hA.1]; exact hkl
  refine (make_any M (nodeT t) (kidsT t) (mk_tree hg hL hx.fine hn hx.ns) pa pn pc ps hA a ps.length c (by omega) w2 (hi.below hb02) (hT.below hb02 hT.pos) hp2 hP).mono ?_
  rw [make_open hg hL hx.fine hn hx.ns]
  rintro e w' ⟨p, M', rfl, ht, f', i', t'⟩
  have f0 := (Fr.below M hb02).trans hi f'
  have hO' := own_fr (hO1.below hb2) f' (hi.out (Nat.le_refl _))
  refine ⟨p, M', rfl, ht, hO', fun w3 hb3 => ⟨hO'.below hb3, fun w4 hu => ?_⟩⟩
  have hnf : ¬ M'.ft w.heap.size := (f'.box (hi.free (Nat.le_refl _)) (hO1.below hb2).1 (no_byte (hO1.below hb2) (fun j x hjx => by
   match j, hjx with
   | 0, h => simp [bodyA] at h
   | 1, h => simp [bodyA] at h
   | 2, h => simp [bodyA] at h
   | j + 3, h => simp [bodyA] at h)))
  refine ⟨((f0.trans hi (Fr.below M' hb3)).upd hu (Nat.le_refl _)), (i'.below hb3).upd hu hnf, Tab.upd (t'.below hb3 t'.pos) hu hT.pos⟩
 have HMk := hid hMk
 have hFd : ∀ (j : Nat), j < (kidsT t).length → ∃ e0 p lv, lvOf f (ref ((kidsT t).getD j .nil)) = lv ∧ lv ≤ 64 ∧ IsT M p ((kidsT t).getD j .nil) ∧ ∀ wz, Below w1.heap.size w1 wz → Calls Tryz.prog 121 #[.map (some b), .string (ref ((kidsT t).getD j .nil))] wz fun e w' => e = .returned (.tuple #[.agg (bodyA e0 p lv), .int .i64 0]) ∧ Below wz.heap.size wz w' := fun j hj => by
  have hm : (kidsT t).getD j .nil ∈ kidsT t := by
   rw [List.getD_eq_getElem?_getD, List.getElem?_eq_getElem hj]
   exact List.getElem_mem hj
  have hsz : (ref ((kidsT t).getD j .nil)).size ≤ 100 := hks _ (by
   have : ref ((kidsT t).getD j .nil) ∈ kidsL (nodeT t).ks := by rw [hkr]; exact List.mem_map.2 ⟨_, hm, rfl⟩
   exact (List.mem_filter.1 this).1)
  obtain ⟨lv, hf, _, hlv, h32⟩ := hr _ hm
  obtain ⟨hh, p, htp, hat⟩ := hS.some_ _ _ _ _ (by unfold maxLen; omega) hf
  refine ⟨encT ((kidsT t).getD j .nil), p, lv, by unfold lvOf; rw [hf], hlv, htp, fun wz hbz => ?_⟩
  exact find_read (((hS.below hb1 hlt).below hbz (by have := hb1.size; omega)).own) _ (by omega) h32 _ p lv hh hat
 have HFd := hid hFd
 have hmx : ∀ j, maxl f ((kidsT t).take j) ≤ 64 := fun j => hr.max j
 have HMs := hid (maxl_step f (kidsT t))
 have hB0 : maxl f ((kidsT t).take 0) = 0 := rfl
 have hBe : maxl f ((kidsT t).take (kidsT t).length) = maxl f (kidsT t) := by rw [List.take_length]
 have HBe := hid hBe
 have hs1 := hb1.size
 have HB1 := hid hb1
 have HO1 := hid hO1
 have HW : Hid (_ = _) := hid hw1
 have HNl := hid (nodeT_length t)
 have HMx := hid hmx
 obtain ⟨N, hN⟩ : ∃ N, nodeT t = N := ⟨_, rfl⟩
 rw [hN] at HGt HK HNl HMk
 obtain ⟨E, hE⟩ : ∃ E, encT t = E := ⟨_, rfl⟩
 unfold GrownP
 rw [hE] at HGt ⊢
 obtain ⟨ts, hts⟩ : ∃ ts, kidsT t = ts := ⟨_, rfl⟩
 rw [hts] at HK HMk HFd HMs HBe hkl HMx ⊢
 clear hB0 hBe hmx hFd hMk hK hw1 hb1 hO1 hlt hkr hks hL hg hS hi hT hx hn hr hN hE hts hi0 hz0 hz1 hz2 hz3
 go_enter Tryz.func94, Tryz.ntmps94
 go_wp2_with (first
  | (refine Rg.run rfl _ _ (run_alloc_body _ _ _ w.heap.size rfl rfl) ?_; rw [← HW.out]))
 refine HGt.out.mono ?_
 rintro e w2 ⟨na, nn, nc, rfl, hp2, hb2⟩
 have hNd : OwnN (w2.alloc (.cells (ndC nd0 none 0 0) 57)) w2.heap.size nd0 none 0 0 := Rg.Own.new _ _ _
 have HNd := hid hNd
 have HB2 := hid hb2
 have HP2 := hid hp2
 clear hNd hb2 hp2 HGt HW
 go_wp2_with (first
  | (refine Rg.run rfl _ _ (run_alloc_nd _ _ _ w2.heap.size rfl rfl) ?_)
  | (refine wpl_store_ndL HNd.out rfl N na nn nc HNl.out rfl _ _ rfl rfl rfl rfl ?_; intro w4 hO4 hu4; have HO4 := hid hO4; have HB4 : Hid (Below w2.heap.size w2 w4) := hid (hu4.below (al1 _ _) (Nat.le_refl _)); clear hO4 hu4)
  | (refine Rg.run rfl _ _ (op_load_nd HO4.out HNl.out ⟨_, rfl, rfl⟩) ?_))
 refine (HK.out na nn nc w4).mono ?_
 rintro e w5 ⟨v5, rfl, h5, hb5⟩
 obtain ⟨ka, kc, rfl, hst⟩ := IsSt.ofOwn h5
 have HSt := hid hst
 have hnc := hst.1
 have hcm := hst.2.1
 unfold maxLen at hcm
 have HB5 := hid (bst (bst HB2.out HB4.out) hb5)
 have HO5 := hid (HO4.out.below hb5)
 have HP5 := hid ((HP2.out.below HB4.out).below hb5)
 have hs5 := HB5.out.size
 obtain ⟨m, hm⟩ : ∃ m, (ts.map ref).length = m := ⟨_, rfl⟩
 have hml : ts.length = m := by rw [← hm, List.length_map]
 rw [hm] at hnc hst
 have HSt2 := hid hst
 have HL := hid hml
 rw [hml] at hkl
 rw [hm]
 obtain ⟨gN, hgN⟩ : ∃ gN, w2.heap.size = gN := ⟨_, rfl⟩
 rw [hgN] at HO5
 rw [hgN]
 clear h5 hb5 hst hm hml hgN HK HB2 HB4 HO4 HNd HP2 HSt
 go_wp2_with fail
 go_loopw [8, 9, 26] (fun v vl i wr => ∃ (j : Nat) (ps : List (Option Addr)), j ≤ m ∧ i = .int .i64 j ∧ vl = .int .i64 (maxl f (ts.take j) : Nat) ∧ ps.length = j ∧ Hid (wr.ownsRow w5.heap.size 26 1 v ps.length (ps.map Value.pointer)) ∧ Hid (Are M ps (ts.take j)) ∧ Hid (Below w5.heap.size w5 wr)) (fun _ _ i _ => m - (intOf i).toNat)
 case atStart => exact ⟨0, [], Nat.zero_le _, rfl, rfl, rfl, hid (World.ownsRow_nil _ _ _ _), hid ⟨rfl, fun j hj => absurd hj (Nat.not_lt_zero _)⟩, hid (Below.refl _ _)⟩
 case round =>
  obtain ⟨j, ps, hj, rfl, rfl, hpl, HR, HA, HB⟩ := hrel
  have hsr := HB.out.size
  have HB1r := hid (bst HB5.out HB.out)
  by_cases hlt : j < m
  ·obtain ⟨e0, p, lv, hlv, hlv64, htp, hfd⟩ := HFd.out j (by rw [HL.out]; exact hlt)
   have HF1 := hid (hfd wr HB1r.out)
   have HTp := hid htp
   have HS := hid (HMs.out j (by rw [HL.out]; exact hlt))
   rw [hlv] at HS
   have hmj := HMx.out j
   obtain ⟨kb, ko, rfl, hkb, hkc⟩ := HSt2.out.at' j hlt
   have hkc' := (Below.cell (p := ⟨kb, ko + j, none⟩) HB.out hkb).trans hkc
   have hmr : (ts.map ref).getD j eB = ref (ts.getD j .nil) := by
    have h1 : j < ts.length := by rw [HL.out]; exact hlt
    simp [List.getD, h1]
   rw [hmr] at hkc'
   have hji : (j : Int) < m := by omega
   obtain ⟨s, hs⟩ : ∃ s, ref (ts.getD j .nil) = s := ⟨_, rfl⟩
   rw [hs] at HF1 hkc'
   have HTk : Hid (ts.take (j + 1) = ts.take j ++ [ts.getD j .nil]) := hid (by
    have h1 : j < ts.length := by rw [HL.out]; exact hlt
    rw [List.take_add_one, List.getElem?_eq_getElem h1]
    simp [List.getD, h1])
   obtain ⟨mj, hmj2⟩ : ∃ mj, maxl f (ts.take j) = mj := ⟨_, rfl⟩
   rw [hmj2] at HS hmj ⊢
   clear hfd htp hlv hmr hkc hs hkb hmj2
   go_wp2_with fail
   refine HF1.out.mono ?_
   rintro e w6 ⟨rfl, hb6⟩
   have HB6 := hid hb6
   have HNb := hid (own_bodyA w6 w6.heap.size rfl)
   have hs6 := hb6.size
   clear hb6 HF1 hkc'
   go_wp2_with (first
    | (refine Rg.run rfl _ _ (run_alloc_body _ _ _ w6.heap.size rfl rfl) ?_)
    | (refine wpl_store_body HNb.out rfl e0 p lv rfl _ _ rfl rfl rfl rfl ?_; intro w7 hO7 hu7; have HO7 := hid hO7; have HB7 : Hid (Below w6.heap.size w6 w7) := hid (hu7.below (al1 _ _) (Nat.le_refl _)); have h67 := bst HB6.out HB7.out; have HR7 := hid (row_keep HR.out h67); have hs7 : w5.heap.size ≤ w7.heap.size := (by have := h67.size; omega); have c72 : w7.cell? ⟨w6.heap.size, 2, none⟩ = some (.int .i64 lv) := own_cell (j := 2) hO7 rfl; have c71 : w7.cell? ⟨w6.heap.size, 1, none⟩ = some (.pointer p) := own_cell (j := 1) hO7 rfl; clear hO7 hu7)
    | (refine Rg.run rfl _ _ (op_load_tree (off := 1) c71 ⟨_, rfl, rfl⟩) ?_)
    | (refine Rg.run rfl _ _ (op_lit1 w7.heap.size rfl ⟨_, rfl, rfl⟩) ?_)
    | (at_builtin; refine wpList_append_own _ rfl _ _ 85 rfl w5.heap.size 26 i0 z0 1 8 Tryz.underlying85 HI.out.1 HI.out.2.1 HI.out.2.2.1 HI.out.2.2.2.1 HI.out.2.2.2.2 (by decide) _ ps.length (ps.map Value.pointer) rfl (HR7.out.alloc _) ⟨w7.heap.size, 0, none⟩ 1 1 [.pointer p] rfl rfl ?d1 ?d2 ?d3 ?d4 ?d5 ?_))
   all_goals first
    | exact Bu.cell_one_new' _ _ _ _
    | (intro u hu; simp at hu; subst hu; rfl)
    | (unfold maxLen; omega)
    | omega
    | (simp; omega)
    | skip
   intro v' w8 hown8 hgrow8 _
   have hlk := HR7.out.lt
   have hw7 : Below w7.heap.size w7 (w7.alloc (.cells (rowT [p]) 26)) := al1 _ _
   have HB8 : Hid (Below w5.heap.size w5 w8) := hid (((bst HB.out (bst HB6.out HB7.out)).trans (hw7.mono hs7)).grown hgrow8 (by have := hw7.size; omega) (fun k hk => (hlk k hk).1))
   have c82 : w8.cell? ⟨w6.heap.size, 2, none⟩ = some (.int .i64 lv) := by
    have h6 : w6.heap.size < w7.heap.size := World.block_lt_of_cell? w7 _ c72
    rw [World.cell?_of_block (hgrow8.block w6.heap.size (Nat.lt_of_lt_of_le h6 hw7.size) (fun e => by have := (HR.out.lt _ e.symm).2; omega)), hw7.cell (p := ⟨w6.heap.size, 2, none⟩) h6]
    exact c72
   have HR8 : Hid (w8.ownsRow w5.heap.size 26 1 v' (ps ++ [p]).length ((ps ++ [p]).map Value.pointer)) := hid (by rw [List.length_append, List.map_append, hpl]; exact hown8)
   have HA8 : Hid (Are M (ps ++ [p]) (ts.take (j + 1))) := hid (by
    rw [HTk.out]
    exact HA.out.snoc ⟨rfl, fun q hq => by
     obtain rfl : q = 0 := by simp at hq; exact hq
     exact HTp.out⟩)
   clear hown8 hgrow8 hw7 hlk
   go_wp2
   go_roundw
   case rel => exact ⟨j + 1, ps ++ [p], by omega, by go_num, by rw [HS.out]; congr 1; omega, by simp [hpl], HR8, HA8, HB8⟩
   case measure => simp [intOf]; omega
  ·obtain rfl : j = m := by omega
   have HAe : Hid (Are M ps ts) := hid (by have := HA.out; rwa [List.take_of_length_le (by rw [HL.out]; exact Nat.le_refl _)] at this)
   have hme : maxl f (ts.take j) = maxl f ts := by rw [List.take_of_length_le (by rw [HL.out]; exact Nat.le_refl _)]
   have hm64 := HMx.out j
   rw [hme] at hm64 ⊢
   obtain ⟨mx, hmx⟩ : ∃ mx, maxl f ts = mx := ⟨_, rfl⟩
   rw [hmx] at hm64 ⊢
   have HOr := hid (HO5.out.below HB.out)
   have hw1' : IntKind.i64.wrap ((mx : Int) + 1) = (mx : Int) + 1 := IntWalk.i64_in _ (by omega)
   have HMX := hid hmx
   clear hme hmx
   go_wp2_with (first
    | (refine Rg.run rfl _ _ (op_load_nd HOr.out HNl.out ⟨_, rfl, rfl⟩) ?_))
   refine (HMk.out wr na nn nc _ ps HB1r.out (HP5.out.below HB.out) (owns_le HR.out (by omega)) HAe.out).mono ?_
   rintro e w6 ⟨p, M', rfl, ht, hO6, hF6⟩
   have HT6 := hid ht
   have HF6 := hid hF6
   have HN6 := hid (Rg.Own.new w6 #[.pointer none] 26)
   clear ht hO6 hF6
   go_wp2_with (first
    | (refine Rg.run rfl _ _ (run_alloc_tree _ _ _ w6.heap.size rfl rfl) ?_)
    | (refine wpl_store_tree HN6.out (by decide) p rfl _ _ rfl rfl rfl ?_; intro w7 hO7 hu7; have HO7 : Hid (Rg.Own w7 w6.heap.size #[.pointer p] 26) := hid hO7; have HB7 : Hid (Below w6.heap.size w6 w7) := hid (hu7.below (al1 _ _) (Nat.le_refl _)); obtain ⟨hO7', hF7⟩ := HF6.out w7 HB7.out; have HO7' := hid hO7'; have HF7 := hid hF7; clear hO7 hu7 hO7' hF7)
    | (refine Rg.run rfl _ _ (op_load_tree (own_cell (j := 0) HO7.out rfl) ⟨_, rfl, rfl⟩) ?_)
    | (refine Rg.run rfl _ _ (op_build (built_body3 E p ((mx : Int) + 1)) ?_) ?_; · exact ⟨_, rfl, rfl⟩)
    | (refine wpl_store_body HO7'.out rfl E p (mx + 1) rfl _ _ rfl rfl rfl rfl ?_; intro w8 hO8 hu8; have HO8 := hid hO8; have HU8 := hid hu8; clear hO8 hu8))
   exact bodyPost_ret (res_body (q := 4) (u := 5) rfl _ rfl HO8.out) rfl ⟨p, M', by rw [HMX.out]; rfl, HT6.out, HF7.out w8 HU8.out⟩
end Tm
end
section
open Go.RowKit
namespace Tm
open Tr Ni Pk Ky No Rf Rl
open Sm (Tab)
theorem Fr.grown {M M' : Mp} {w w1 w' : World} {b : Nat} (f : Fr M M' w w1) (hg : w1.grownBy w' (some b)) (hb : w.heap.size ≤ b) : Fr M M' w w' :=
 ⟨hg.os.trans f.os, hg.tape.trans f.tape, hg.output.trans f.output, Nat.le_trans f.size hg.size, fun k hk hm => (hg.block k (Nat.lt_of_lt_of_le hk f.size) (fun e => by have := Option.some.inj e; omega)).trans (f.block k hk hm), f.mono, f.fresh, f.grow, f.foot⟩
structure GrewP (M : Mp) (w : World) (b : Nat) (f : Fs) (n : Nat) (M' : Mp) (w' : World) (D' : DataW Value) : Prop where
 fr : ∀ Ms ws, Inv Ms ws → Fr Ms M ws w → ws.heap.size ≤ b → Fr Ms M' ws w'
 size : w.heap.size ≤ w'.heap.size
 block : ∀ k, k < w.heap.size → M.at_ k = none → k ≠ b → w'.heap[k]? = w.heap[k]? ∧ M'.at_ k = none
 foot : ∀ k, k < w.heap.size → ¬ M.ft k → ¬ HasByte w k → ¬ M'.ft k
 i : Inv M' w'
 t : Tab w'
 s : ShS M' w' b f n D'
theorem body_no (e : ByteArray) (p : Option Addr) (lv : Nat) : ∀ (j : Nat) (x : Int), (bodyA e p lv)[j]? ≠ some (Value.int .u8 x) := fun j x h => by
 match j, h with
 | 0, h => simp [bodyA] at h
 | 1, h => simp [bodyA] at h
 | 2, h => simp [bodyA] at h
 | j + 3, h => simp [bodyA] at h
theorem grow_any {M : Mp} {w : World} {b n : Nat} {f : Fs} {D : DataW Value} (hS : ShS M w b f n D) (hnn : n ≤ 1000) (hi : Inv M w) (hT : Tab w) {t : T} (hx : Whl t) (hn : t ≠ .nil) (hr : Read f t) (hsz : (ref t).size ≤ 1000000) (hf : f (ref t) = some (encT t, .nil, 0)) :
  Calls Tryz.prog 69 #[.map (some b), .string (ref t)] w fun e w' => e = .returned (.int .i64 0) ∧ ∃ M' D', GrewP M w b (setF f (ref t) (encT t, t, maxl f (kidsT t) + 1)) (n + 1) M' w' D' := by
 have hs' : (ref t).size ≤ maxLen := by unfold maxLen; omega
 obtain ⟨_, p0, hp0, hat⟩ := hS.some_ _ _ _ _ hs' hf
 obtain rfl : p0 = none := hp0.nil_iff.2 rfl
 have hlt := hS.lt
 obtain ⟨w1, hw1⟩ : ∃ w1, w1 = w.alloc (.cells (bodyA eB none 0) 76) := ⟨_, rfl⟩
 have hb1 : Below w.heap.size w w1 := by rw [hw1]; exact al1 _ _
 have hO1 : Rg.Own w1 w.heap.size (bodyA eB none 0) 76 := by rw [hw1]; exact Rg.Own.new _ _ _
 have HO1 := hid hO1
 have HA := hid hat
 have HOw := hid hS.own
 have HW : Hid (_ = _) := hid hw1
 have HF : Hid (∀ w2, Rg.Own w2 w.heap.size (bodyA (encT t) none 0) 76 → Rg.Upd w1 w.heap.size w2 → Calls Tryz.prog 94 #[.map (some b), .string (encT t)] w2 fun e w' => ∃ p D1, e = .returned (.tuple #[.agg (bodyA (encT t) p (maxl f (kidsT t) + 1)), .int .i64 0]) ∧ D1 = D ∧ Rg.Own w' w.heap.size (bodyA (encT t) none 0) 76 ∧
   ∀ w4, Rg.Upd w' w.heap.size w4 → Shf w4 b n D ∧ ∀ w5, Shf w5 b (n + 1) (D.put (keyL (ref t)) (.held (.agg (bodyA (encT t) p (maxl f (kidsT t) + 1))))) → w4.grownBy w5 (some b) → ∃ M' D', GrewP M w b (setF f (ref t) (encT t, t, maxl f (kidsT t) + 1)) (n + 1) M' w5 D') := hid (fun w2 hO2 hu2 => by
  have hb2 : Below w.heap.size w w2 := hu2.below hb1 (Nat.le_refl _)
  have hi2 := hi.below hb2
  have hT2 := hT.below hb2 hT.pos
  have hS2 := hS.below hb2 hlt
  refine (grown_any hS2 hi2 hT2 hx hn hr).mono ?_
  rintro e w3 ⟨p, M', rfl, ht, f3, i3, t3⟩
  have hg0 : M.at_ w.heap.size = none := hi.out (Nat.le_refl _)
  have hO3 := own_fr hO2 f3 hg0
  have hnf3 : ¬ M'.ft w.heap.size := f3.box (hi.free (Nat.le_refl _)) hO2.1 (no_byte hO2 (body_no _ _ _))
  have hS3 := hS2.frm hi2 f3
  refine ⟨p, D, rfl, rfl, hO3, fun w4 hu4 => ?_⟩
  have hne : b ≠ w.heap.size := by omega
  have hS4 : ShS M' w4 b f n D := hS3.same (hu4.block b hne) (fun _ _ h => h) hS3.nf
  have i4 := i3.upd hu4 hnf3
  have t4 := Tab.upd t3 hu4 hT.pos
  have f4 : Fr M M' w w4 := ((Fr.below M hb2).trans hi f3).upd hu4 (Nat.le_refl _)
  refine ⟨hS4.own, fun w5 hO5 hg5 => ⟨M', _, ⟨fun Ms ws hws hfs hle => ((hfs.trans hws f4)).grown hg5 hle, Nat.le_trans f4.size hg5.size, fun k hk hm hkb => ⟨(hg5.block k (Nat.lt_of_lt_of_le hk f4.size) (fun e => hkb (Option.some.inj e))).trans (f4.block k hk hm), f4.fresh k hk hm⟩, fun k hk h1 h2 => f4.box h1 hk h2, ?_, ?_, hS4.put hs' hO5 ht⟩⟩⟩
  ·exact i4.keep hg5.size fun k hk => hg5.block k (i4.lt_ k hk) fun e => by
    obtain rfl : k = b := Option.some.inj e
    exact hS4.nf hk
  ·have hb0 : b ≠ 0 := fun e => by
    subst e
    obtain ⟨es, clock, h1, _⟩ := hS4.own
    have h2 := t4 0 (by omega)
    rw [World.cell?, h1] at h2
    cases h2
   intro i hi'
   rw [World.cell?_of_block (hg5.block 0 t4.pos (fun e => hb0 (Option.some.inj e).symm))]
   exact t4 i hi')
 obtain ⟨s, hs⟩ : ∃ s, ref t = s := ⟨_, rfl⟩
 obtain ⟨E, hE⟩ : ∃ E, encT t = E := ⟨_, rfl⟩
 obtain ⟨lv, hlv⟩ : ∃ lv, maxl f (kidsT t) + 1 = lv := ⟨_, rfl⟩
 rw [hs] at hs' HA
 rw [hs, hE, hlv] at HF
 rw [hs, hE, hlv]
 rw [hE] at HA
 clear hs hE hlv hO1 hb1 hw1 hlt hat hp0 hf hr hn hx hi hT hS hsz
 go_enter Tryz.func69, Tryz.ntmps69
 go_wp2_with (first
  | (refine Rg.run rfl _ _ (op_look1 HOw.out hs' HA.out ⟨_, _, rfl, rfl, rfl⟩) ?_)
  | (refine Rg.run rfl _ _ (run_alloc_body _ _ _ w.heap.size rfl rfl) ?_; rw [← HW.out])
  | (refine wpl_store_body HO1.out rfl E none 0 rfl _ _ rfl rfl rfl rfl ?_; intro w2 hO2 hu2; have c0 : w2.cell? ⟨w.heap.size, 0, none⟩ = some (.string E) := own_cell (j := 0) hO2 rfl; have c2 : w2.cell? ⟨w.heap.size, 2, none⟩ = some (.int .i64 0) := own_cell (j := 2) hO2 rfl; have HG := hid (HF.out w2 hO2 hu2); clear hO2 hu2))
 refine HG.out.mono ?_
 rintro e w3 ⟨p, D1, rfl, rfl, hO3, hF3⟩
 have HO3 := hid hO3
 have HF3 := hid hF3
 clear hO3 hF3 HG HF HA HO1 HW HOw
 go_wp2_with (first
  | (refine wpl_store_body HO3.out rfl E p lv rfl _ _ rfl rfl rfl rfl ?_; intro w4 hO4 hu4; obtain ⟨hs4, hF4⟩ := HF3.out w4 hu4; have HO4 := hid hO4; have HS4 := hid hs4; have HF4 := hid hF4; clear hO4 hu4 hs4 hF4)
  | (refine Rg.run rfl _ _ (op_load_body HO4.out ⟨_, rfl, rfl⟩) ?_)
  | (refine wpl_lay HS4.out (by unfold maxLen; omega) hs' (.agg (bodyA E p lv)) rfl _ _ _ rfl rfl rfl rfl ?_; intro w5 hO5 hg5; have HE := hid (HF4.out w5 hO5 hg5); clear hO5 hg5))
 go_ret
 exact ⟨rfl, HE.out⟩
end Tm
end
end Go.Proofs.YtooklabipgmolaaGreatDoor
