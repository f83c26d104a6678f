/-
 What the plain answer's Get tells, plain: of each way through it, which node bytes are.
-/
import Derived.Test.YtooklabipgmolaaGreatDoorMr24
import Derived.Test.YtooklabipgmolaaGreatDoorMr13
import Derived.Test.YtooklabipgmolaaGreatDoorMr8
import Derived.Test.YtooklabipgmolaaGreatDoorMr23
import Derived.Test.YtooklabipgmolaaGreatDoorMr2
import Derived.Maps.AppendAt
import Derived.Deep.DeepCutAuto
import Derived.Test.YtooklabipgmolaaGreatDoorMr16
import Derived.Test.YtooklabipgmolaaGreatDoorMr22
import Derived.Test.YtooklabipgmolaaGreatDoorMr15
import Derived.Maps.OwnSet
import Derived.Maps.OwnOps
import Derived.StringKeys
import Derived.Test.YtooklabipgmolaaGreatDoorMr21
import Derived.Laws.AppendOwnNone
open Go.Lib (hid)
set_option linter.unusedSimpArgs false
set_option linter.unusedVariables false
set_option maxHeartbeats 40000000
set_option maxRecDepth 100000
namespace Go.Proofs.YtooklabipgmolaaGreatDoor
section
open Go.RowKit
namespace No
open Rl Ni
end No
end
section
open Go.RowKit
namespace Rl
end Rl
end
section
open Go.RowKit
namespace No
open Ni
end No
end
section
open Go.RowKit
namespace No
open Rl Ni
end No
end
section
open Go.RowKit
namespace No
open Rl Ni
end No
end
section
open Go.RowKit
namespace No
open Rl Ni
end No
end
section
open Go.RowKit
namespace No
open Rl Ni
end No
end
section
open Go.RowKit
namespace No
open Rl Ni
end No
end
section
open Go.RowKit
namespace Tm
open Tr Ni Pk Ky No Rf Rl
open Sm (Tab)
theorem mem_kidsOf {ks : Fin 16 → T} {s : T} (h : s ∈ (kidsOf ks).map ks) : ∃ i, s = ks i ∧ ks i ≠ .nil := by
 obtain ⟨i, hi, rfl⟩ := List.mem_map.1 h
 refine ⟨i, rfl, fun e => ?_⟩
 have := (List.mem_filter.1 hi).2
 rw [isNil_iff.2 e] at this
 cases this
theorem kids_good {t : T} {L : Nat} (g : Tr.Good t L) (f : Fine t) : ∀ s ∈ kidsT t, s ≠ .nil ∧ Fine s ∧ (Tr.Full t → Tr.Full s) ∧ ∃ L', L' < L ∧ Tr.Good s L' := by
 intro s hs
 cases t with
 | nil => cases hs
 | leaf p v => cases hs
 | stub r => cases hs
 | ext q u =>
  obtain rfl : s = u := by
   have : s ∈ [u] := hs
   simpa using this
  obtain ⟨g1, _, g3, g4, g5⟩ := g
  have hq : 0 < q.length := List.length_pos_iff.2 g1
  exact ⟨isBr_ne g4, f, fun h => h, L - q.length, by omega, g5⟩
 | br ks =>
  obtain ⟨i, rfl, hn⟩ := mem_kidsOf hs
  obtain ⟨g1, _, g3⟩ := g
  exact ⟨hn, f i, fun h => h i, L - 1, by omega, g3 i⟩
theorem kind_node {t : T} (hs : ¬ IsStub t) : kindT t = (nodeT t).kd ∧ valT t = (nodeT t).v ∧ pathT t = (nodeT t).p := by
 cases t with
 | stub r => exact absurd trivial hs
 | _ => exact ⟨rfl, rfl, rfl⟩
theorem node_kd {t : T} (hn : t ≠ .nil) (hs : ¬ IsStub t) : (nodeT t).kd ≠ 0 := by
 cases t with
 | nil => exact absurd rfl hn
 | stub r => exact absurd trivial hs
 | leaf p v => show (1 : Int) ≠ 0; decide
 | ext q u => show (2 : Int) ≠ 0; decide
 | br ks => show (3 : Int) ≠ 0; decide
theorem mk_of {t : T} {L : Nat} (g : Tr.Good t L) (hL : L ≤ 64) (f : Fine t) (hn : t ≠ .nil) (hs : ¬ IsStub t) {ts : List T} (hr : ts.map ref = (kidsT t).map ref) (hf : ∀ s ∈ ts, ∃ L, Tr.Good s L ∧ L ≤ 64 ∧ Fine s)
  (hk : ∀ q s, t = .ext q s → ∀ u ∈ ts, kindT u ≠ 1 ∧ kindT u ≠ 2) {t' : T} (hm : makeT (nodeT t) ts = t') (hx : nodeT t' = nodeT t) (hs' : ¬ IsStub t') (hn' : t' ≠ .nil) : Mk (nodeT t) ts := by
 obtain ⟨h1, _, _, h4, h5, h6⟩ := tree_node g hL f hn hs
 have hrf : kidsL (nodeT t).ks = ts.map ref := by rw [hr]; exact kids_refs g hL f
 have hlen : ts.length = (kidsT t).length := by have := congrArg List.length hr; simpa using this
 obtain ⟨k1, k2, k3⟩ := kind_node hs'
 refine ⟨nodeT_length t, h1, h4, h5, h6, hf, hrf, ?_, by rw [hm, k1, hx], by rw [hm, k2, hx], by rw [hm, k3, hx], by rw [hm]; exact hs', by rw [hm]; exact hn'⟩
 cases t with
 | nil => exact absurd rfl hn
 | stub r => exact absurd trivial hs
 | leaf p v => exact .inl ⟨rfl, List.eq_nil_of_length_eq_zero hlen⟩
 | ext q u =>
  have h1 : ts.length = 1 := hlen
  obtain ⟨s, rfl⟩ := List.length_eq_one_iff.1 h1
  exact .inr (.inl ⟨rfl, s, rfl, hk q u rfl s (by simp)⟩)
 | br ks => exact .inr (.inr ⟨rfl, by rw [hrf, List.length_map]⟩)
theorem mk_tree {t : T} {L : Nat} (g : Tr.Good t L) (hL : L ≤ 64) (f : Fine t) (hn : t ≠ .nil) (hs : ¬ IsStub t) : Mk (nodeT t) (kidsT t) :=
 mk_of g hL f hn hs rfl (fun s h => by
  obtain ⟨_, hf, _, L', hl, hg⟩ := kids_good g f s h
  exact ⟨L', hg, by omega, hf⟩) (fun q s e u hu => by
  subst e
  obtain rfl : u = s := by
   have : u ∈ [s] := hu
   simpa using this
  have := g.2.2.2.1
  cases u with
  | br ks => exact ⟨by show (3 : Int) ≠ 1; decide, by show (3 : Int) ≠ 2; decide⟩
  | stub r => exact ⟨by show (-1 : Int) ≠ 1; decide, by show (-1 : Int) ≠ 2; decide⟩
  | _ => exact absurd this (fun h => h)) (make_open g hL f hn hs) rfl hs hn
theorem kids_len (t : T) : (kidsT t).length ≤ 16 := by
 cases t with
 | ext q s => show 1 ≤ 16; omega
 | br ks =>
  show ((kidsOf ks).map ks).length ≤ 16
  rw [List.length_map]
  exact Nat.le_trans (List.length_filter_le _ _) (by simp)
 | _ => exact Nat.zero_le _
namespace Op1
variable {w0 : World} {M M' : Mp} {w w' : World} {bk bt : Nat} {K : List UInt8} {p p' : Option Addr} {t t' : T}
end Op1
namespace Op2
variable {w0 : World} {M M' : Mp} {w w' : World} {bk bt : Nat} {K : List UInt8} {p : Option Addr} {t : T} {bn : Nat} {N : Nd} {a : Option Addr} {n c : Nat} {ka : Option Addr} {kc' : Nat} {ps : List (Option Addr)}
end Op2
end Tm
end
section
namespace Tm
open Tr Rf Rl Ni No
def bodiesL : List ByteArray → List ByteArray
 | [] => []
 | x :: l => x :: l.filter fun s => decide (32 ≤ s.size)
def weightL (l : List ByteArray) : Nat := (l.map ByteArray.size).sum
theorem bodies_snoc (l : List ByteArray) (j : Nat) (hj : j < l.length) : bodiesL (l.take (j + 1)) = bodiesL (l.take j) ++ if j = 0 ∨ 32 ≤ (l.getD j eB).size then [l.getD j eB] else [] := by
 cases l with
 | nil => simp at hj
 | cons x r =>
  cases j with
  | zero => rfl
  | succ k =>
   have hk : k < r.length := by simpa using hj
   have e : (x :: r).getD (k + 1) eB = r.getD k eB := rfl
   rw [e, List.take_succ_cons, List.take_succ_cons]
   show x :: List.filter _ (r.take (k + 1)) = x :: List.filter _ (r.take k) ++ _
   rw [List.take_add_one, List.getElem?_eq_getElem hk, List.filter_append, List.cons_append]
   have e2 : r.getD k eB = r[k] := by simp [List.getD, hk]
   rw [e2]
   congr 2
   show List.filter _ [r[k]] = _
   by_cases h : 32 ≤ r[k].size
   ·rw [if_pos (Or.inr h)]; simp [h]
   ·rw [if_neg (by omega)]; simp [h]
theorem bodies_len (l : List ByteArray) : (bodiesL l).length ≤ l.length := by
 cases l with
 | nil => exact Nat.le_refl _
 | cons x r =>
  show (x :: List.filter _ r).length ≤ (x :: r).length
  have := List.length_filter_le (fun s : ByteArray => decide (32 ≤ s.size)) r
  simp only [List.length_cons]
  omega
theorem bodies_mem {l : List ByteArray} {s : ByteArray} (h : s ∈ bodiesL l) : s ∈ l := by
 cases l with
 | nil => cases h
 | cons x r =>
  rcases List.mem_cons.1 h with rfl | h
  ·exact List.mem_cons_self
  ·exact List.mem_cons_of_mem _ (List.mem_filter.1 h).1
theorem weight_snoc (l : List ByteArray) (j : Nat) (hj : j < l.length) : weightL (l.take (j + 1)) = weightL (l.take j) + (l.getD j eB).size := by
 unfold weightL
 have e2 : l.getD j eB = l[j] := by simp [List.getD, hj]
 rw [List.take_add_one, List.getElem?_eq_getElem hj, List.map_append, List.sum_append, e2]
 simp
theorem weight_few (l : List ByteArray) (h : ∀ s ∈ l, s.size ≤ 900000) (j : Nat) : weightL (l.take j) ≤ l.length * 900000 := by
 have key : ∀ l : List ByteArray, (∀ s ∈ l, s.size ≤ 900000) → weightL l ≤ l.length * 900000 := by
  intro l
  induction l with
  | nil => intro _; exact Nat.zero_le _
  | cons x r ih =>
   intro h
   have h1 := h x List.mem_cons_self
   have h2 := ih fun s hs => h s (List.mem_cons_of_mem _ hs)
   unfold weightL at h2 ⊢
   rw [List.map_cons, List.sum_cons, List.length_cons]
   omega
 have h1 := key (l.take j) fun s hs => h s (List.mem_of_mem_take hs)
 rw [List.length_take] at h1
 have : min j l.length * 900000 ≤ l.length * 900000 := Nat.mul_le_mul_right _ (Nat.min_le_right _ _)
 exact Nat.le_trans h1 this
theorem nodes_nil : nodesT .nil = [] := rfl
theorem nodes_cons {t : T} (hn : t ≠ .nil) (hs : ¬ IsStub t) : nodesT t = encT t :: ((kidsT t).map nodesT).flatten := by
 cases t with
 | nil => exact absurd rfl hn
 | stub r => exact absurd trivial hs
 | leaf p v => rfl
 | ext q u =>
  show encT (.ext q u) :: nodesT u = _
  rw [show kidsT (.ext q u) = [u] from rfl]
  simp
 | br ks =>
  show encT (.br ks) :: ((List.finRange 16).map fun i => nodesT (ks i)).flatten = encT (.br ks) :: (((kidsOf ks).map ks).map nodesT).flatten
  congr 1
  unfold kidsOf
  generalize List.finRange 16 = l
  induction l with
  | nil => rfl
  | cons i r ih =>
   rw [List.map_cons, List.flatten_cons, ih]
   by_cases h : ks i = .nil
   ·rw [List.filter_cons_of_neg (by rw [isNil_iff.2 h]; decide), h, nodes_nil, List.nil_append]
   ·rw [List.filter_cons_of_pos (by
     cases e : isNil (ks i) with
     | true => exact absurd (isNil_iff.1 e) h
     | false => rfl), List.map_cons, List.map_cons, List.flatten_cons]
structure Whl (t : T) : Prop where
 fine : Fine t
 full : Tr.Full t
 good : ∃ L, L ≤ 64 ∧ Tr.Good t L
theorem Whl.kids {t : T} (h : Whl t) : ∀ s ∈ kidsT t, s ≠ .nil ∧ Whl s := fun s hs => by
 obtain ⟨L, hL, g⟩ := h.good
 obtain ⟨h1, h2, h3, L', hl, h4⟩ := kids_good g h.fine s hs
 exact ⟨h1, h2, h3 h.full, L', by omega, h4⟩
theorem Whl.ns {t : T} (h : Whl t) : ¬ IsStub t := full_stub h.full
theorem Whl.enc {t : T} (h : Whl t) (hn : t ≠ .nil) : encT t ≠ eB ∧ (encT t).size ≤ 900000 := by
 obtain ⟨L, hL, g⟩ := h.good
 obtain ⟨h1, h2, h3, _⟩ := tree_node g hL h.fine hn h.ns
 refine ⟨fun e => ?_, h3⟩
 have h4 := put_pos (nodeT_length _) h1
 rw [h2] at e
 have := congrArg ByteArray.size e
 rw [ba_size] at this
 have h5 : eB.size = 0 := rfl
 omega
def tellL (t : T) : List ByteArray := if encT t = eB then [] else [encT t]
theorem Whl.tell {t : T} (h : Whl t) : nodesT t = tellL t ++ ((kidsT t).map nodesT).flatten := by
 by_cases hn : t = .nil
 ·subst hn; rfl
 ·unfold tellL
  rw [if_neg (h.enc hn).1, nodes_cons hn h.ns]
  rfl
theorem Whl.few {t : T} (h : Whl t) : ∀ s ∈ nodesT t, s.size ≤ 900000 := by
 have key : ∀ (n : Nat) (t : T), sz t ≤ n → Whl t → ∀ s ∈ nodesT t, s.size ≤ 900000 := by
  intro n
  induction n with
  | zero =>
   intro t ht h s hs
   cases t with
   | nil => cases hs
   | leaf p v => exact absurd ht (by show ¬ 1 ≤ 0; omega)
   | stub r => cases hs
   | ext q u => exact absurd ht (by show ¬ sz u + 1 ≤ 0; omega)
   | br ks => exact absurd ht (by show ¬ _ + 1 ≤ 0; omega)
  | succ n ih =>
   intro t ht h s hs
   by_cases hn : t = .nil
   ·subst hn; cases hs
   ·rw [nodes_cons hn h.ns] at hs
    rcases List.mem_cons.1 hs with rfl | hs
    ·exact (h.enc hn).2
    ·obtain ⟨l, hl, hsl⟩ := List.mem_flatten.1 hs
     obtain ⟨u, hu, rfl⟩ := List.mem_map.1 hl
     refine ih u ?_ (h.kids u hu).2 s hsl
     cases t with
     | nil => exact absurd rfl hn
     | leaf p v => cases hu
     | stub r => cases hu
     | ext q x =>
      have hx : u ∈ [x] := hu
      rw [List.mem_singleton] at hx
      subst hx
      have : sz u + 1 ≤ n + 1 := ht
      omega
     | br ks =>
      obtain ⟨i, rfl, _⟩ := mem_kidsOf hu
      have h1 : ((List.finRange 16).map fun i => sz (ks i)).sum + 1 ≤ n + 1 := ht
      have h2 := sum_mem ((List.finRange 16).map fun i => sz (ks i)) (sz (ks i)) (List.mem_map.2 ⟨i, List.mem_finRange i, rfl⟩)
      omega
 exact key (sz t) t (Nat.le_refl _) h
def stackN (S : List T) : List ByteArray := (S.reverse.map nodesT).flatten
def rankS (S : List T) : Nat := (S.map fun t => max 1 (nodesT t).length).sum
theorem stack_one (t : T) : stackN [t] = nodesT t := by simp [stackN]
theorem stack_step (S : List T) {x : T} (h : Whl x) : stackN (S ++ [x]) = tellL x ++ stackN (S ++ (kidsT x).reverse) := by
 unfold stackN
 rw [List.reverse_append, List.reverse_append, List.reverse_reverse, List.map_append, List.map_append, List.flatten_append, List.flatten_append, ← List.append_assoc, ← h.tell]
 simp
theorem rank_snoc (S : List T) (x : T) : rankS (S ++ [x]) = rankS S + max 1 (nodesT x).length := by
 unfold rankS
 simp
theorem rank_step (S : List T) {x : T} (h : Whl x) : rankS (S ++ (kidsT x).reverse) < rankS (S ++ [x]) := by
 rw [rank_snoc]
 have key : ∀ l : List T, (∀ u ∈ l, u ≠ .nil ∧ Whl u) → (l.map fun t => max 1 (nodesT t).length).sum = (l.map nodesT).flatten.length := by
  intro l
  induction l with
  | nil => intro _; rfl
  | cons u r ih =>
   intro hl
   obtain ⟨h1, h2⟩ := hl u List.mem_cons_self
   have h3 : 1 ≤ (nodesT u).length := by rw [nodes_cons h1 h2.ns, List.length_cons]; omega
   rw [List.map_cons, List.map_cons, List.sum_cons, List.flatten_cons, List.length_append, ih fun z hz => hl z (List.mem_cons_of_mem _ hz)]
   omega
 have e : rankS (S ++ (kidsT x).reverse) = rankS S + ((kidsT x).map nodesT).flatten.length := by
  unfold rankS
  rw [List.map_append, List.sum_append, List.map_reverse, List.sum_reverse, key _ h.kids]
 rw [e]
 by_cases hn : x = .nil
 ·subst hn
  show rankS S + 0 < _
  omega
 ·rw [nodes_cons hn h.ns, List.length_cons]
  omega
theorem rank_len (S : List T) : S.length ≤ rankS S := by
 unfold rankS
 induction S with
 | nil => exact Nat.le_refl _
 | cons x r ih =>
  rw [List.map_cons, List.sum_cons, List.length_cons]
  omega
theorem sum_begin : ∀ l : List Tr.In, ((List.finRange 16).map fun c => (beginL l c).length).sum ≤ l.length
 | [] => by
  have e : ((List.finRange 16).map fun c => (beginL [] c).length) = (List.finRange 16).map fun _ => 0 := rfl
  rw [e]
  decide
 | x :: r => by
  have ih := sum_begin r
  have key : ∀ (cs : List (Fin 16)), cs.Nodup → (cs.map fun c => (beginL (x :: r) c).length).sum ≤ (cs.map fun c => (beginL r c).length).sum + if ∃ c ∈ cs, (x.1.getD 0 0).toNat = c.val then 1 else 0 := by
   intro cs
   induction cs with
   | nil => intro _; simp
   | cons c cs ih2 =>
    intro hd
    obtain ⟨hc, hd'⟩ := List.nodup_cons.1 hd
    have i2 := ih2 hd'
    rw [List.map_cons, List.map_cons, List.sum_cons, List.sum_cons]
    by_cases h : (x.1.getD 0 0).toNat = c.val
    ·have h1 : (beginL (x :: r) c).length = (beginL r c).length + 1 := by
      unfold beginL
      rw [List.filter_cons, if_pos (by simpa using h)]
      rfl
     have h2 : ¬ ∃ d ∈ cs, (x.1.getD 0 0).toNat = d.val := fun ⟨d, hd, e⟩ => hc (by
      have : c = d := Fin.ext (by omega)
      rw [this]; exact hd)
     rw [if_neg h2] at i2
     rw [if_pos ⟨c, List.mem_cons_self, h⟩, h1]
     omega
    ·have h1 : (beginL (x :: r) c).length = (beginL r c).length := by
      unfold beginL
      rw [List.filter_cons, if_neg (by simpa using h)]
     rw [h1]
     by_cases h2 : ∃ d ∈ cs, (x.1.getD 0 0).toNat = d.val
     ·obtain ⟨d, hd, e⟩ := h2
      rw [if_pos ⟨d, hd, e⟩] at i2
      rw [if_pos ⟨d, List.mem_cons_of_mem _ hd, e⟩]
      omega
     ·rw [if_neg h2] at i2
      omega
  have := key (List.finRange 16) (List.nodup_finRange 16)
  rw [List.length_cons]
  split at this <;> omega
theorem nodes_few : ∀ (L : Nat) (l : List Tr.In), Ok L l → (nodesT (build L l)).length ≤ (L + 1) * l.length := by
 intro L
 induction L using Nat.strongRecOn with
 | ind L ih =>
  intro l ok
  match l, ok with
  | [], _ => rw [build]; exact Nat.zero_le _
  | [x], _ =>
   rw [build]
   show 1 ≤ (L + 1) * 1
   omega
  | x :: y :: r, ok =>
   have hcl := common_lt ok
   rw [build]
   by_cases h : 0 < commonL (x :: y :: r) ∧ 0 < L
   ·rw [dif_pos h]
    have i1 := ih (L - commonL (x :: y :: r)) (by omega) (restL (x :: y :: r) (commonL (x :: y :: r))) (ok_rest ok (by omega) (fun a ha b hb => by rw [all_begin ha, all_begin hb]))
    show (nodesT _).length + 1 ≤ _
    have e : (restL (x :: y :: r) (commonL (x :: y :: r))).length = (x :: y :: r).length := by unfold restL; rw [List.length_map]
    rw [e] at i1
    have h2 : (L - commonL (x :: y :: r) + 1) * (x :: y :: r).length ≤ L * (x :: y :: r).length := Nat.mul_le_mul_right _ (by omega)
    have h3 : 2 ≤ (x :: y :: r).length := by simp
    have h4 : (L + 1) * (x :: y :: r).length = L * (x :: y :: r).length + (x :: y :: r).length := Nat.succ_mul _ _
    omega
   ·rw [dif_neg h]
    by_cases h2 : 0 < L
    ·rw [dif_pos h2]
     show ((List.finRange 16).map fun i => nodesT (build (L - 1) (restL (beginL (x :: y :: r) i) 1))).flatten.length + 1 ≤ _
     have hb : ∀ cs : List (Fin 16), (cs.map fun i => nodesT (build (L - 1) (restL (beginL (x :: y :: r) i) 1))).flatten.length ≤ L * (cs.map fun c => (beginL (x :: y :: r) c).length).sum := by
      intro cs
      induction cs with
      | nil => exact Nat.zero_le _
      | cons c cs ih2 =>
       have i1 := ih (L - 1) (by omega) (restL (beginL (x :: y :: r) c) 1) (ok_begin ok h2 c)
       have e : (restL (beginL (x :: y :: r) c) 1).length = (beginL (x :: y :: r) c).length := by unfold restL; rw [List.length_map]
       rw [e, show L - 1 + 1 = L by omega] at i1
       rw [List.map_cons, List.map_cons, List.flatten_cons, List.sum_cons, List.length_append, Nat.mul_add]
       omega
     have h3 := hb (List.finRange 16)
     have h4 := sum_begin (x :: y :: r)
     have h5 : L * ((List.finRange 16).map fun c => (beginL (x :: y :: r) c).length).sum ≤ L * (x :: y :: r).length := Nat.mul_le_mul_left _ h4
     have h6 : (L + 1) * (x :: y :: r).length = L * (x :: y :: r).length + (x :: y :: r).length := Nat.succ_mul _ _
     have h7 : 2 ≤ (x :: y :: r).length := by simp
     omega
    ·rw [dif_neg h2]
     exact Nat.zero_le _
end Tm
end
section
open Go.RowKit
namespace Tm
open Tr Ni Pk Ky No Rf Rl
open Sm (Tab)
def Trn (ps qs : List (Option Addr)) (k : Nat) : Prop := qs.length = ps.length ∧ ∀ j, j < ps.length → qs.getD j none = if j < k ∨ ps.length - 1 - j < k then ps.getD (ps.length - 1 - j) none else ps.getD j none
theorem Trn.zero (ps : List (Option Addr)) : Trn ps ps 0 := ⟨rfl, fun j hj => by rw [if_neg (by omega)]⟩
theorem Trn.step {ps qs : List (Option Addr)} {k m : Nat} (h : Trn ps qs k) (hk : k < m) (hm : m + 1 + k = ps.length) : Trn ps ((qs.set k (qs.getD m none)).set m (qs.getD k none)) (k + 1) := by
 obtain ⟨h1, h2⟩ := h
 refine ⟨by simp [h1], fun j hj => ?_⟩
 have em := h2 m (by omega)
 have ek := h2 k (by omega)
 rw [if_neg (by omega)] at em ek
 by_cases e1 : j = m
 ·subst e1
  rw [List.getD_eq_getElem?_getD, List.getElem?_set_self (by simp; omega), if_pos (by omega), show ps.length - 1 - j = k by omega, ← ek]
  rfl
 ·rw [List.getD_eq_getElem?_getD, List.getElem?_set_ne (fun e => e1 e.symm)]
  by_cases e2 : j = k
  ·subst e2
   rw [List.getElem?_set_self (by omega), if_pos (by omega), show ps.length - 1 - j = m by omega, ← em]
   rfl
  ·rw [List.getElem?_set_ne (fun e => e2 e.symm), ← List.getD_eq_getElem?_getD, h2 j hj]
   by_cases e3 : j < k ∨ ps.length - 1 - j < k
   ·rw [if_pos e3, if_pos (by omega)]
   ·rw [if_neg e3, if_neg (by omega)]
theorem Trn.all {ps qs : List (Option Addr)} {k m : Nat} (h : Trn ps qs k) (hk : ¬ k < m) (hm : m + 1 + k = ps.length) : qs = ps.reverse := by
 obtain ⟨h1, h2⟩ := h
 apply List.ext_getElem?
 intro j
 by_cases hj : j < ps.length
 ·have h3 := h2 j hj
  have e1 : qs[j]? = some (qs.getD j none) := by simp [List.getD, show j < qs.length by omega]
  have e2 : ps.reverse[j]? = some (ps.getD (ps.length - 1 - j) none) := by
   rw [List.getElem?_reverse hj]
   simp [List.getD, show ps.length - 1 - j < ps.length by omega]
  rw [e1, e2, h3]
  split
  ·rfl
  ·rw [show ps.length - 1 - j = j by omega]
 ·rw [List.getElem?_eq_none (by omega), List.getElem?_eq_none (by simp; omega)]
theorem rowK_of {w : World} {g cap : Nat} {ps : List (Option Addr)} (h : RowK w g cap ps) : ∃ cur, Rg.Own w g cur 26 ∧ cur.size = cap ∧ ps.length ≤ cap ∧ cap ≤ maxLen ∧ ∀ (k m : Nat) (p q : Option Addr) w', k < ps.length → m < ps.length → Rg.Own w' g ((cur.setIfInBounds k (.pointer p)).setIfInBounds m (.pointer q)) 26 → RowK w' g cap ((ps.set k p).set m q) := by
 obtain ⟨cur, hO, hs, hl, hm, hc⟩ := h
 refine ⟨cur, hO, hs, hl, hm, fun k m p q w' hk hm' hO' => ⟨_, hO', by simp [hs], by simpa using hl, hm, set_cells (set_cells hc k p (by omega)) m q (by simp; omega)⟩⟩
theorem reverse_at (a : Option Addr) (cap : Nat) (w : World) : Calls Tryz.prog 56 #[.slice a 0 cap] w fun e w' => e = .returned (.tuple #[]) ∧ w' = w := by
 go_enter Tryz.func56, Tryz.ntmps56
 go_wp2
 go_loopw [2, 3] (fun i j wr => i = .int .i64 0 ∧ j = .int .i64 (-1) ∧ wr = w) (fun _ _ _ => 0)
 case atStart => exact ⟨rfl, by go_num, rfl⟩
 case round =>
  obtain ⟨rfl, rfl, rfl⟩ := hrel
  go_wp2
  go_end0
  all_goals exact ⟨rfl, rfl⟩
theorem reverse_some (g cap : Nat) (ps : List (Option Addr)) (h0 : 0 < ps.length) (w : World) (h : RowK w g cap ps) :
  Calls Tryz.prog 56 #[.slice (some ⟨g, 0, none⟩) ps.length cap] w fun e w' => e = .returned (.tuple #[]) ∧ RowK w' g cap ps.reverse ∧ Rg.Upd w g w' := by
 obtain ⟨cur0, hO0, hs0, hlc, hm⟩ := h.own
 unfold maxLen at hm
 obtain ⟨n, hnl⟩ : ∃ n, ps.length = n := ⟨_, rfl⟩
 have HL := hid hnl
 have HR0 := hid h
 rw [hnl] at h0 hlc ⊢
 clear h hO0 hs0 hnl
 go_enter Tryz.func56, Tryz.ntmps56
 go_wp2
 go_loopw [2, 3] (fun i j wr => ∃ (k m : Nat) (qs : List (Option Addr)), 2 * k ≤ n ∧ m + 1 + k = n ∧ i = .int .i64 k ∧ j = .int .i64 m ∧ Hid (Trn ps qs k) ∧ Hid (RowK wr g cap qs ∧ Rg.Upd w g wr)) (fun i _ _ => n - (intOf i).toNat)
 case atStart => exact ⟨0, n - 1, ps, by omega, by omega, by go_num, by go_num, hid (Trn.zero ps), hid ⟨HR0.out, upd_refl w g⟩⟩
 case round =>
  obtain ⟨k, m, qs, hk, hmk, rfl, rfl, HT, HR⟩ := hrel
  clear HR0
  by_cases hlt : k < m
  ·obtain ⟨hr, hu⟩ := HR.out
   have hql : qs.length = n := by rw [HT.out.1]; exact HL.out
   have hki : (k : Int) < n := by omega
   have hmi : (m : Int) < n := by omega
   have ci : wr.drew.cell? ⟨g, k, none⟩ = some (.pointer (qs.getD k none)) := hr.cell (by omega)
   have cj : wr.drew.cell? ⟨g, m, none⟩ = some (.pointer (qs.getD m none)) := hr.cell (by omega)
   obtain ⟨cur, hO, hsz, _, _, hF⟩ := rowK_of hr
   have HO : Hid (Rg.Own wr.drew g cur 26) := hid hO.drew
   have HF : Hid (∀ w2 cur2, Rg.Own w2 g cur2 26 → Rg.Upd wr g w2 → cur2 = (cur.setIfInBounds k (.pointer (qs.getD m none))).setIfInBounds m (.pointer (qs.getD k none)) → Hid (RowK w2 g cap ((qs.set k (qs.getD m none)).set m (qs.getD k none)) ∧ Rg.Upd w g w2)) := hid (fun w2 cur2 h1 h2 e => hid ⟨hF k m _ _ w2 (by omega) (by omega) (by rw [← e]; exact h1), upd_trans hu h2⟩)
   replace HT : Hid (Trn ps qs k ∧ m + 1 + k = ps.length) := hid ⟨HT.out, by rw [HL.out]; exact hmk⟩
   clear hr hu hO hF HR
   go_wp2_with fail
   refine wp_region_noPanic ?_
   refine wp_region_held_drew (S := fun w' => Rg.Upd wr g w') (by kernel_rfl) (⟨rfl, rfl, rfl, rfl, fun _ _ => rfl⟩) (fun hld => ?_)
   refine Rg.tk (i := 0) rfl ?_
   try simp only [Act.put, Rg.s]
   refine Rg.tk (i := 1) rfl ?_
   try simp only [Act.put, Rg.s]
   refine Rg.tk (i := 2) rfl ?_
   try simp only [Act.put, Rg.s]
   refine Rg.tk (i := 3) rfl ?_
   try simp only [Act.put, Rg.s]
   refine Rg.tk (i := 4) rfl ?_
   try simp only [Act.put, Rg.s]
   refine Rg.tk (i := 5) rfl ?_
   try simp only [Act.put, Rg.s]
   refine Rg.tk (i := 6) rfl ?_ (hy := by intro wz hSw; have q0 := hmi; (try dsimp only at hSw); go_simp <;> with_reducible rfl)
   try simp only [Act.put, Rg.s]
   refine Rg.tk (i := 8) rfl ?_
   try simp only [Act.put, Rg.s]
   refine Rg.tk (i := 9) rfl ?_
   try simp only [Act.put, Rg.s]
   refine Rg.tk (i := 10) rfl ?_ (hy := by intro wz hSw; have q0 := hki; (try dsimp only at hSw); go_simp <;> with_reducible rfl)
   try simp only [Act.put, Rg.s]
   refine wpAnyH_ready (rs := [7, 11]) (by kernel_rfl) (by simp) ?_
   refine Rg.readyC (i := 7) rfl (fun K hK => ?_) (Rg.readyL (i := 11) rfl (fun K hK => ?_))
   ·refine Rg.meet (by rfl) _ _ (op_load_tree cj ?_) ?_
    ·exact ⟨_, rfl, rfl⟩
    refine hK.out _ _ ?_ (fun hld => ?_)
    ·exact hld
    clear hK K
    try simp only [Act.put, Rg.s]
    refine Rg.rd (i := 11) rfl fun K hK => ?_
    refine Rg.meet (by rfl) _ _ (op_load_tree ci ?_) ?_
    ·exact ⟨_, rfl, rfl⟩
    refine hK.out _ _ ?_ (fun hld => ?_)
    ·exact hld
    clear hK K
    try simp only [Act.put, Rg.s]
    refine Rg.tk (i := 12) rfl ?_ (hy := by intro wz hSw; have q0 := hki; (try dsimp only at hSw); go_simp <;> with_reducible rfl)
    try simp only [Act.put, Rg.s]
    refine Rg.rd (i := 13) rfl fun K hK => ?_
    refine meet_store_tree (by rfl) HO.out (off := k) (by omega) (qs.getD m none) ⟨_, _, rfl, rfl, rfl⟩ ?_
    intro w1 hO1 hu1
    have HO1 := hid hO1
    have HU1 : Hid (Rg.Upd wr g w1) := hid ⟨hu1.os, hu1.tape, hu1.output, hu1.size, hu1.block⟩
    clear hO1 hu1
    refine hK.out _ _ ?_ (fun hld => ?_)
    ·exact HU1.out
    clear hK K
    try simp only [Act.put, Rg.s]
    refine Rg.tk (i := 14) rfl ?_ (hy := by intro wz hSw; have q0 := hmi; (try dsimp only at hSw); go_simp <;> with_reducible rfl)
    try simp only [Act.put, Rg.s]
    refine Rg.rd (i := 15) rfl fun K hK => ?_
    refine meet_store_tree (by rfl) HO1.out (off := m) (by simp; omega) (qs.getD k none) ⟨_, _, rfl, rfl, rfl⟩ ?_
    intro w2 hO2 hu2
    have HO2 := hid hO2
    have HU2 : Hid (Rg.Upd wr g w2) := hid (upd_trans HU1.out hu2)
    clear hO2 hu2
    refine hK.out _ _ ?_ (fun hld => ?_)
    ·exact HU2.out
    clear hK K
    try simp only [Act.put, Rg.s]
    refine wpAnyH_done (by kernel_rfl) ?_ _
    refine NoPanic.normal ?_
    go_wp2
    go_roundw
    case rel => exact ⟨k + 1, m - 1, _, by omega, by omega, by go_num, by go_num, hid (HT.out.1.step hlt HT.out.2), HF.out w2 _ HO2.out HU2.out rfl⟩
    case measure => simp [intOf]; omega
   ·refine Rg.meet (by rfl) _ _ (op_load_tree ci ?_) ?_
    ·exact ⟨_, rfl, rfl⟩
    refine hK.out _ _ ?_ (fun hld => ?_)
    ·exact hld
    clear hK K
    try simp only [Act.put, Rg.s]
    refine Rg.rd (i := 7) rfl fun K hK => ?_
    refine Rg.meet (by rfl) _ _ (op_load_tree cj ?_) ?_
    ·exact ⟨_, rfl, rfl⟩
    refine hK.out _ _ ?_ (fun hld => ?_)
    ·exact hld
    clear hK K
    try simp only [Act.put, Rg.s]
    refine Rg.tk (i := 12) rfl ?_ (hy := by intro wz hSw; have q0 := hki; (try dsimp only at hSw); go_simp <;> with_reducible rfl)
    try simp only [Act.put, Rg.s]
    refine Rg.rd (i := 13) rfl fun K hK => ?_
    refine meet_store_tree (by rfl) HO.out (off := k) (by omega) (qs.getD m none) ⟨_, _, rfl, rfl, rfl⟩ ?_
    intro w1 hO1 hu1
    have HO1 := hid hO1
    have HU1 : Hid (Rg.Upd wr g w1) := hid ⟨hu1.os, hu1.tape, hu1.output, hu1.size, hu1.block⟩
    clear hO1 hu1
    refine hK.out _ _ ?_ (fun hld => ?_)
    ·exact HU1.out
    clear hK K
    try simp only [Act.put, Rg.s]
    refine Rg.tk (i := 14) rfl ?_ (hy := by intro wz hSw; have q0 := hmi; (try dsimp only at hSw); go_simp <;> with_reducible rfl)
    try simp only [Act.put, Rg.s]
    refine Rg.rd (i := 15) rfl fun K hK => ?_
    refine meet_store_tree (by rfl) HO1.out (off := m) (by simp; omega) (qs.getD k none) ⟨_, _, rfl, rfl, rfl⟩ ?_
    intro w2 hO2 hu2
    have HO2 := hid hO2
    have HU2 : Hid (Rg.Upd wr g w2) := hid (upd_trans HU1.out hu2)
    clear hO2 hu2
    refine hK.out _ _ ?_ (fun hld => ?_)
    ·exact HU2.out
    clear hK K
    try simp only [Act.put, Rg.s]
    refine wpAnyH_done (by kernel_rfl) ?_ _
    refine NoPanic.normal ?_
    go_wp2
    go_roundw
    case rel => exact ⟨k + 1, m - 1, _, by omega, by omega, by go_num, by go_num, hid (HT.out.1.step hlt HT.out.2), HF.out w2 _ HO2.out HU2.out rfl⟩
    case measure => simp [intOf]; omega
  ·obtain ⟨hr, hu⟩ := HR.out
   have HE : Hid (RowK wr g cap ps.reverse ∧ Rg.Upd w g wr) := hid ⟨by rw [← HT.out.all hlt (by rw [HL.out]; exact hmk)]; exact hr, hu⟩
   clear hr hu HR HT
   go_wp2
   go_end0
   exact ⟨rfl, HE.out.1, HE.out.2⟩
theorem reverse_row {B : Nat} (ps : List (Option Addr)) (v : Value) (w : World) (h : RowV B w v ps) (hB : B ≤ w.heap.size) :
  Calls Tryz.prog 56 #[v] w fun e w' => e = .returned (.tuple #[]) ∧ RowV B w' v ps.reverse ∧ Below B w w' := by
 rcases h with ⟨rfl, rfl⟩ | ⟨g, cap, rfl, hg, hR⟩
 ·refine (reverse_at none 0 w).mono ?_
  rintro e w' ⟨rfl, rfl⟩
  exact ⟨rfl, .inl ⟨rfl, rfl⟩, Below.refl _ _⟩
 ·by_cases h0 : ps.length = 0
  ·obtain rfl := List.length_eq_zero_iff.1 h0
   refine (reverse_at (some ⟨g, 0, none⟩) cap w).mono ?_
   rintro e w' ⟨rfl, rfl⟩
   exact ⟨rfl, .inr ⟨g, cap, rfl, hg, hR⟩, Below.refl _ _⟩
  ·refine (reverse_some g cap ps (by omega) w hR).mono ?_
   rintro e w' ⟨rfl, hR', hu⟩
   exact ⟨rfl, .inr ⟨g, cap, by rw [List.length_reverse], hg, hR'⟩, hu.below (Below.refl _ _) hg⟩
end Tm
end
section
open Go.RowKit
namespace Tm
open Tr Ni Pk Ky No Rf Rl
open Sm (Tab)
structure FrK (M : Mp) (K : Nat → Prop) (w w' : World) : Prop where
 os : w'.os = w.os
 tape : w'.tape = w.tape
 output : w'.output = w.output
 size : w.heap.size ≤ w'.heap.size
 block : ∀ k, k < w.heap.size → M.at_ k = none → ¬ K k → w'.heap[k]? = w.heap[k]?
theorem FrK.refl (M : Mp) (K : Nat → Prop) (w : World) : FrK M K w w := ⟨rfl, rfl, rfl, Nat.le_refl _, fun _ _ _ _ => rfl⟩
theorem FrK.trans {M : Mp} {K K1 : Nat → Prop} {w w1 w2 : World} (h : FrK M K w w1) (g : FrK M K1 w1 w2) (hk : ∀ k, K1 k → K k ∨ w.heap.size ≤ k) : FrK M K w w2 :=
 ⟨g.os.trans h.os, g.tape.trans h.tape, g.output.trans h.output, Nat.le_trans h.size g.size, fun k hl hm hn => (g.block k (Nat.lt_of_lt_of_le hl h.size) hm fun h1 => (hk k h1).elim hn (by omega)).trans (h.block k hl hm hn)⟩
theorem FrK.of {M : Mp} {K : Nat → Prop} {w w' : World} (f : Fr M M w w') : FrK M K w w' := ⟨f.os, f.tape, f.output, f.size, fun k hl hm _ => f.block k hl hm⟩
theorem FrK.below {M : Mp} {K : Nat → Prop} {w w1 w2 : World} (h : FrK M K w w1) {B : Nat} (hb : Below B w1 w2) (hB : w.heap.size ≤ B) : FrK M K w w2 :=
 ⟨hb.os.trans h.os, hb.tape.trans h.tape, hb.output.trans h.output, Nat.le_trans h.size hb.size, fun k hl hm hn => (hb.block k (by omega)).trans (h.block k hl hm hn)⟩
theorem FrK.fr {M : Mp} {w w' : World} (f : FrK M (fun _ => False) w w') : Fr M M w w' := ⟨f.os, f.tape, f.output, f.size, fun k hl hm => f.block k hl hm fun h => h, fun _ _ h => h, fun _ _ h => h, fun _ h => h, fun _ h => Or.inl h⟩
theorem FrK.grown {M : Mp} {K : Nat → Prop} {w w1 w2 : World} (h : FrK M K w w1) {row : Option Nat} (hg : w1.grownBy w2 row) (hr : ∀ k, row = some k → K k ∨ w.heap.size ≤ k) : FrK M K w w2 :=
 ⟨hg.os.trans h.os, hg.tape.trans h.tape, hg.output.trans h.output, Nat.le_trans h.size hg.size, fun k hl hm hn => (hg.block k (Nat.lt_of_lt_of_le hl h.size) (fun e => (hr k e.symm).elim hn (by omega))).trans (h.block k hl hm hn)⟩
theorem Inv.keep {M : Mp} {w w' : World} (h : Inv M w) (hs : w.heap.size ≤ w'.heap.size) (hk : ∀ k, M.ft k → w'.heap[k]? = w.heap[k]?) : Inv M w' := by
 refine ⟨fun k hk => Nat.lt_of_lt_of_le (h.lt_ k hk) hs, fun b t hm => ?_⟩
 obtain ⟨h1, h2, h3⟩ := h.part_ b t hm
 refine ⟨h1, h2, ?_⟩
 obtain ⟨a, n, c, ka, kn, kc, d, r, hb, hB, hK, hd⟩ := h3
 refine ⟨a, n, c, ka, kn, kc, d, r, (hk b h2).trans hb, ⟨⟨hB.1.1, hB.1.2.1, hB.1.2.2.1, hB.1.2.2.2.1, fun j hj => ?_⟩, hB.2⟩, ⟨hK.1, hK.2.1, hK.2.2.1, hK.2.2.2.1, fun j hj => ?_⟩, hd⟩
 ·obtain ⟨b', off, e, hlt, hc⟩ := hB.1.2.2.2.2 j hj
  exact ⟨b', off, e, Nat.lt_of_lt_of_le hlt hs, by rw [World.cell?_of_block (hk b' (hB.2 _ e (by omega)))]; exact hc⟩
 ·obtain ⟨b', off, p, e, hlt, hf, hc, ht⟩ := hK.at' j hj
  exact ⟨b', off, p, e, Nat.lt_of_lt_of_le hlt hs, hf, by rw [World.cell?_of_block (hk b' hf)]; exact hc, ht⟩
theorem owns_same {B sz n : Nat} {w w' : World} {e : TypeId} {v : Value} {xs : List Value} (h : w.ownsRow B e sz v n xs) (hk : ∀ k, v.ownBlock = some k → w'.heap[k]? = w.heap[k]?) : w'.ownsRow B e sz v n xs := by
 obtain ⟨h1, h2⟩ := h
 refine ⟨h1, ?_⟩
 rcases h2 with h2 | ⟨g, cap, cur, rfl, hg, hh, hr⟩
 ·exact .inl h2
 ·exact .inr ⟨g, cap, cur, rfl, hg, (hk g rfl).trans hh, hr⟩
theorem owns_slice {B sz n : Nat} {w : World} {e : TypeId} {v : Value} {xs : List Value} (h : w.ownsRow B e sz v n xs) : ∃ a c, v = .slice a n c := by
 rcases h.2 with ⟨rfl, rfl⟩ | ⟨g, cap, cur, rfl, _⟩
 ·exact ⟨_, _, rfl⟩
 ·exact ⟨_, _, rfl⟩
def treeP (M : Mp) : Option Addr → T
 | none => .nil
 | some ad => (M.at_ ad.block).getD .nil
theorem IsT.treeP {M : Mp} {p : Option Addr} {t : T} (h : IsT M p t) : Tm.treeP M p = t := by
 cases p with
 | none => exact Eq.symm h
 | some ad =>
  obtain ⟨b, rfl, hm, _⟩ := h
  show (M.at_ b).getD .nil = t
  rw [hm]; rfl
def rankV (M : Mp) (v : Value) (w : World) : Nat := match v with
 | .slice (some a) n _ => rankS ((List.range n).map fun j => match w.cell? (a.add j) with
  | some (.pointer p) => treeP M p
  | _ => .nil)
 | _ => 0
theorem row_cells {B : Nat} {w : World} {g n cap : Nat} {ps : List (Option Addr)} (h : w.ownsRow B 26 1 (.slice (some ⟨g, 0, none⟩) n cap) n (ps.map Value.pointer)) : ps.length = n ∧ B ≤ g ∧ g < w.heap.size ∧ n ≤ cap ∧ cap ≤ maxLen ∧ ∀ j, j < n → w.cell? ⟨g, j, none⟩ = some (.pointer (ps.getD j none)) := by
 obtain ⟨h1, h2⟩ := h
 have hl : ps.length = n := by simpa using h1
 rcases h2 with ⟨h2, _⟩ | ⟨g', cap', cur, e, hg, hh, hnc, hcm, hsz, htk⟩
 ·cases h2
 ·injection e with e1 e2 e3
  injection e1 with e1
  injection e1 with e1
  subst e1 e3
  refine ⟨hl, hg, (Array.getElem?_eq_some_iff.1 hh).1, hnc, hcm, fun j hj => ?_⟩
  rw [cell_of_row w g _ _ _ _ hh]
  have h3 : cur.toList[j]? = (ps.map Value.pointer)[j]? := by
   rw [← htk, List.getElem?_take_of_lt (by omega)]
  rw [← Array.getElem?_toList, h3]
  simp [List.getD, show j < ps.length by omega]
theorem rank_eq {M : Mp} {B : Nat} {w : World} {v : Value} {ps : List (Option Addr)} {S : List T} (h : w.ownsRow B 26 1 v ps.length (ps.map Value.pointer)) (hA : Are M ps S) : rankV M v w = rankS S := by
 have h' := h
 obtain ⟨h1, h2⟩ := h
 rcases h2 with ⟨rfl, hn⟩ | ⟨g, cap, cur, rfl, _⟩
 ·have : S = [] := List.length_eq_zero_iff.1 (by rw [← hA.1]; exact hn)
  subst this
  rfl
 ·obtain ⟨_, _, _, _, _, hc⟩ := row_cells h'
  show rankS ((List.range ps.length).map _) = rankS S
  congr 1
  apply List.ext_getElem
  ·simp [hA.1]
  ·intro j h3 h4
   have hj : j < ps.length := by simpa using h3
   simp only [List.getElem_map, List.getElem_range]
   rw [Addr.add_mid, Nat.zero_add, hc j hj]
   dsimp only
   rw [(hA.2 j hj).treeP]
   simp [List.getD, h4]
structure OnJ (M : Mp) (J : List T → (Nat → Prop) → World → Prop) : Prop where
 st : ∀ V K w w', J V K w → w.heap.size ≤ w'.heap.size → (∀ k, K k → w'.heap[k]? = w.heap[k]?) → J V K w'
 lt : ∀ V K w, J V K w → ∀ k, K k → k < w.heap.size ∧ M.at_ k = none ∧ ¬ M.ft k
structure OnP (M : Mp) (J : List T → (Nat → Prop) → World → Prop) (V : List T) (K : Nat → Prop) (x : T) (w w' : World) (K' : Nat → Prop) : Prop where
 j : J (V ++ [x]) K' w'
 sub : ∀ k, K' k → K k ∨ w.heap.size ≤ k
 f : FrK M K w w'
 i : Inv M w'
 t : Tab w'
structure Gs (M : Mp) (J : List T → (Nat → Prop) → World → Prop) (K0 : Nat → Prop) (w0 : World) (t : T) (w : World) (v : Value) (V S : List T) (ps : List (Option Addr)) (K : Nat → Prop) : Prop where
 row : w.ownsRow w0.heap.size 26 1 v ps.length (ps.map Value.pointer)
 are : Are M ps S
 whl : ∀ x ∈ S, Whl x
 eq : (V.map tellL).flatten ++ stackN S = nodesT t
 rk : rankS S ≤ 200000
 j : J V K w
 dis : ∀ k, v.ownBlock = some k → ¬ K k
 f : FrK M K0 w0 w
 sub : ∀ k, K k → K0 k ∨ w0.heap.size ≤ k
 i : Inv M w
 t : Tab w
 out : ∀ k, w0.heap.size ≤ k → M.at_ k = none ∧ ¬ M.ft k
 z : 0 < w0.heap.size
theorem are_snoc {M : Mp} {ps : List (Option Addr)} {S : List T} {p : Option Addr} {x : T} (h : Are M (ps ++ [p]) (S ++ [x])) : Are M ps S ∧ IsT M p x := by
 obtain ⟨h1, h2⟩ := h
 have hl : ps.length = S.length := by simpa using h1
 refine ⟨⟨hl, fun j hj => ?_⟩, ?_⟩
 ·have := h2 j (by simp; omega)
  simpa [List.getD, List.getElem?_append_left hj, List.getElem?_append_left (show j < S.length by omega)] using this
 ·have := h2 ps.length (by simp)
  simpa [List.getD, hl] using this
theorem Are.snoc {M : Mp} {ps qs : List (Option Addr)} {S R : List T} (h : Are M ps S) (g : Are M qs R) : Are M (ps ++ qs) (S ++ R) := by
 refine ⟨by simp [h.1, g.1], fun j hj => ?_⟩
 by_cases hl : j < ps.length
 ·have := h.2 j hl
  simpa [List.getD, List.getElem?_append_left hl, List.getElem?_append_left (show j < S.length by rw [← h.1]; exact hl)] using this
 ·have hs := h.1
  have := g.2 (j - ps.length) (by rw [List.length_append] at hj; omega)
  simpa [List.getD, List.getElem?_append_right (show ps.length ≤ j by omega), List.getElem?_append_right (show S.length ≤ j by omega), hs] using this
theorem Are.rev {M : Mp} {ps : List (Option Addr)} {S : List T} (h : Are M ps S) : Are M ps.reverse S.reverse := by
 refine ⟨by simp [h.1], fun j hj => ?_⟩
 have hj' : j < ps.length := by simpa using hj
 have hs := h.1
 have := h.2 (ps.length - 1 - j) (by omega)
 simpa [List.getD, List.getElem?_reverse hj', List.getElem?_reverse (show j < S.length by omega), hs] using this
section
variable {M : Mp} {J : List T → (Nat → Prop) → World → Prop} {K0 : Nat → Prop} {w0 w : World} {t : T} {v : Value} {V S : List T} {ps : List (Option Addr)} {K : Nat → Prop}
theorem Gs.pop (h : Gs M J K0 w0 t w v V S ps K) (hn : ps.length ≠ 0) : ∃ S' x ps' p g cap, S = S' ++ [x] ∧ ps = ps' ++ [p] ∧ v = .slice (some ⟨g, 0, none⟩) (ps'.length + 1) cap ∧ w.cell? ⟨g, ps'.length, none⟩ = some (.pointer p) ∧ Whl x ∧ IsT M p x ∧ w0.heap.size ≤ g ∧ g < w.heap.size ∧ ps'.length + 1 ≤ cap ∧ cap ≤ maxLen := by
 have hpn : ps ≠ [] := fun e => hn (by rw [e]; rfl)
 have hsn : S ≠ [] := fun e => hn (by rw [h.are.1, e]; rfl)
 obtain ⟨ps', p, rfl⟩ : ∃ ps' p, ps = ps' ++ [p] := ⟨_, _, (List.dropLast_concat_getLast hpn).symm⟩
 obtain ⟨S', x, rfl⟩ : ∃ S' x, S = S' ++ [x] := ⟨_, _, (List.dropLast_concat_getLast hsn).symm⟩
 have hrow := h.row
 obtain ⟨h1, h2⟩ := h.row
 rcases h2 with ⟨_, h2⟩ | ⟨g, cap, cur, rfl, _⟩
 ·exact absurd h2 hn
 ·obtain ⟨_, hg, hlt, hnc, hcm, hc⟩ := row_cells hrow
  have hcl := hc ps'.length (by simp)
  refine ⟨S', x, ps', p, g, cap, rfl, rfl, by simp, by simpa [List.getD] using hcl, h.whl x (by simp), (are_snoc h.are).2, hg, hlt, by simpa using hnc, hcm⟩
structure Gm (M : Mp) (J : List T → (Nat → Prop) → World → Prop) (K0 : Nat → Prop) (w0 w5 : World) (v : Value) (V : List T) (ps : List (Option Addr)) (K : Nat → Prop) : Prop where
 row : w5.ownsRow w0.heap.size 26 1 v ps.length (ps.map Value.pointer)
 j : J V K w5
 dis : ∀ k, v.ownBlock = some k → ¬ K k
 f : FrK M K0 w0 w5
 sub : ∀ k, K k → K0 k ∨ w0.heap.size ≤ k
 i : Inv M w5
 t : Tab w5
theorem Gs.mid (hM : OnJ M J) (h : Gs M J K0 w0 t w v V S ps K) {x : T} {K' : Nat → Prop} {w1 w2 w3 w5 : World} (hb1 : Below w.heap.size w w1) (h2 : OnP M J V K x w1 w2 K') (f3 : Fr M M w2 w3) (i3 : Inv M w3) (t3 : Tab w3) (hb5 : Below w2.heap.size w3 w5) : Gm M J K0 w0 w5 v (V ++ [x]) ps K' := by
 have hs1 := hb1.size
 have hs2 := h2.f.size
 have hs3 := f3.size
 have hs0 := h.f.size
 have hs5 := hb5.size
 have hblk : ∀ k, v.ownBlock = some k → w5.heap[k]? = w.heap[k]? := fun k e => by
  have hl := h.row.lt k e
  rw [hb5.block k (by omega), f3.block k (by omega) (h.out k hl.1).1, h2.f.block k (by omega) (h.out k hl.1).1 (h.dis k e), hb1.block k hl.2]
 refine ⟨owns_same h.row hblk, hM.st _ _ w2 w5 h2.j (by omega) (fun k hk => ?_), fun k e hk => ?_, ?_, fun k hk => ?_, ?_, ?_⟩
 ·obtain ⟨hl, hm, _⟩ := hM.lt _ _ _ h2.j k hk
  rw [hb5.block k hl, f3.block k hl hm]
 ·rcases h2.sub k hk with h3 | h3
  ·exact h.dis k e h3
  ·have := (h.row.lt k e).2
   omega
 ·exact ((((h.f.below hb1 hs0).trans h2.f h.sub).trans (FrK.of (K := fun _ => False) f3) (fun _ h => h.elim)).below hb5 (by omega))
 ·rcases h2.sub k hk with h3 | h3
  ·exact h.sub k h3
  ·exact Or.inr (by omega)
 ·exact i3.keep hs5 fun k hk => hb5.block k (h2.i.lt_ k hk)
 ·exact t3.below hb5 (by have := h2.t.pos; omega)
theorem Gm.next {x : T} {p : Option Addr} (h : Gs M J K0 w0 t w v V (S ++ [x]) (ps ++ [p]) K) {K' : Nat → Prop} {w5 w6 : World} (hM : OnJ M J) (h5 : Gm M J K0 w0 w5 v (V ++ [x]) (ps ++ [p]) K') {qs : List (Option Addr)} (hA : Are M qs (kidsT x)) {v6 : Value}
  (hr6 : w6.ownsRow w0.heap.size 26 1 v6 (ps ++ qs.reverse).length ((ps ++ qs.reverse).map Value.pointer)) (hg : w5.grownBy w6 v.ownBlock) (hloc : v6.ownBlock = v.ownBlock ∨ v6.ownBlock = some w5.heap.size) : Gs M J K0 w0 t w6 v6 (V ++ [x]) (S ++ (kidsT x).reverse) (ps ++ qs.reverse) K' := by
 have hx : Whl x := h.whl x (by simp)
 have hrk := rank_step S hx
 have hrk0 := h.rk
 refine ⟨hr6, (are_snoc h.are).1.snoc hA.rev, fun y hy => ?_, ?_, by omega, hM.st _ _ w5 w6 h5.j hg.size (fun k hk => ?_), fun k e hk => ?_, h5.f.grown hg (fun k e => Or.inr (h5.row.lt k e).1), h5.sub, ?_, ?_, h.out, h.z⟩
 ·rcases List.mem_append.1 hy with hy | hy
  ·exact h.whl y (by simp [hy])
  ·exact (hx.kids y (by simpa using hy)).2
 ·rw [List.map_append, List.flatten_append, List.append_assoc, ← h.eq, stack_step S hx]
  simp
 ·obtain ⟨hl, _, _⟩ := hM.lt _ _ _ h5.j k hk
  exact hg.block k hl fun e => h5.dis k e.symm hk
 ·rcases hloc with e2 | e2
  ·exact h5.dis k (by rw [← e2]; exact e) hk
  ·rw [e2] at e
   obtain rfl := Option.some.inj e
   have := (hM.lt _ _ _ h5.j _ hk).1
   omega
 ·exact h5.i.keep hg.size fun k hk => hg.block k (h5.i.lt_ k hk) fun e => (h.out k (h5.row.lt k e.symm).1).2 hk
 ·intro i hi
  rw [World.cell?_of_block (hg.block 0 h5.t.pos fun e => by have := (h5.row.lt 0 e.symm).1; have := h.z; omega)]
  exact h5.t i hi
end
end Tm
end
section
open Go.RowKit Go.Maps
namespace Rf
open Rl Ni No Sh Sm
end Rf
end
section
open Go.RowKit Go.Maps
namespace Tm
open Tr Ni Pk Ky No Rf Rl
open Sm (Tab)
abbrev Ent := ByteArray × T × Nat
abbrev Fs := ByteArray → Option Ent
def setF (f : Fs) (k : ByteArray) (v : Ent) : Fs := fun s => if s = k then some v else f s
def gone (f : Fs) (s : ByteArray) : Bool := match f s with
 | none => true
 | some (_, _, lv) => decide (0 < lv)
def heldE (v : Value) : Option (DataW Value × List MemPlace) := some (.held v, [])
def keyL (s : ByteArray) : Lit := .string s.data.toList
def bodyA (e : ByteArray) (p : Option Addr) (lv : Nat) : Array Value := #[.string e, .pointer p, .int .i64 lv]
theorem keyL_inj {s k : ByteArray} (h : keyL s = keyL k) : s = k := by
 unfold keyL at h
 injection h with h
 apply ByteArray.ext
 exact Array.ext' h
theorem kof {s : ByteArray} (hs : s.size ≤ maxLen) : keyOf Tryz.prog 9 (.string s) = some (keyL s) := Go.WideMaps.keyOf_string_mk Tryz.underlying9 hs
theorem key_lit {s : ByteArray} (hs : s.size ≤ maxLen) : WideAt.IsKeyLit (keyL s) := (string_keyed Tryz.underlying9).key (kof hs)
theorem zero_body (w : World) : (zeroValue 76).run Tryz.prog w = .ok (.agg (bodyA eB none 0)) w := by kernel_rfl
abbrev Shf (w : World) (b n : Nat) (D : DataW Value) : Prop := w.ownsMap Tryz.prog 9 heldE b n D
structure ShS (M : Mp) (w : World) (b : Nat) (f : Fs) (n : Nat) (D : DataW Value) : Prop where
 own : Shf w b n D
 none_ : ∀ s, s.size ≤ maxLen → f s = none → Maps.has D (keyL s) = false
 some_ : ∀ s e t lv, s.size ≤ maxLen → f s = some (e, t, lv) → Maps.has D (keyL s) = true ∧ ∃ p, IsT M p t ∧ ∀ z, D.atKey (keyL s) z = .held (.agg (bodyA e p lv))
 nf : ¬ M.ft b
theorem ShS.lt {M : Mp} {w : World} {b : Nat} {f : Fs} {n : Nat} {D : DataW Value} (h : ShS M w b f n D) : b < w.heap.size := h.own.lt
theorem ShS.same {M M' : Mp} {w w' : World} {b : Nat} {f : Fs} {n : Nat} {D : DataW Value} (h : ShS M w b f n D) (hb : w'.heap[b]? = w.heap[b]?) (hm : ∀ k t, M.at_ k = some t → M'.at_ k = some t) (hf : ¬ M'.ft b) : ShS M' w' b f n D := by
 refine ⟨?_, h.none_, fun s e t lv hs he => ?_, hf⟩
 ·obtain ⟨es, clock, h1, h2⟩ := h.own
  exact ⟨es, clock, hb.trans h1, h2⟩
 ·obtain ⟨h1, p, h2, h3⟩ := h.some_ s e t lv hs he
  exact ⟨h1, p, h2.mono hm, h3⟩
theorem ShS.below {M : Mp} {w w' : World} {b : Nat} {f : Fs} {n : Nat} {D : DataW Value} (h : ShS M w b f n D) {B : Nat} (hb : Below B w w') (hB : b < B) : ShS M w' b f n D := h.same (hb.block b hB) (fun _ _ h => h) h.nf
theorem ShS.at_ {M : Mp} {w : World} {b : Nat} {f : Fs} {n : Nat} {D : DataW Value} (h : ShS M w b f n D) (hi : Inv M w) : M.at_ b = none := at_of_ft hi h.nf
theorem ShS.frm {M M' : Mp} {w w' : World} {b : Nat} {f : Fs} {n : Nat} {D : DataW Value} (h : ShS M w b f n D) (hi : Inv M w) (g : Fr M M' w w') : ShS M' w' b f n D := by
 refine h.same (g.block b h.lt (h.at_ hi)) g.mono (g.box h.nf h.lt fun ⟨j, x, hc⟩ => ?_)
 obtain ⟨es, clock, h1, _⟩ := h.own
 rw [World.cell?, h1] at hc
 cases hc
theorem ShS.put {M : Mp} {w w' : World} {b : Nat} {f : Fs} {n : Nat} {D : DataW Value} {k e : ByteArray} {p : Option Addr} {t : T} {lv : Nat} (h : ShS M w b f n D) (hk : k.size ≤ maxLen) (hO : Shf w' b (n + 1) (D.put (keyL k) (.held (.agg (bodyA e p lv))))) (ht : IsT M p t) : ShS M w' b (setF f k (e, t, lv)) (n + 1) (D.put (keyL k) (.held (.agg (bodyA e p lv)))) := by
 have hD := h.own.isMap
 refine ⟨hO, fun s hs hn => ?_, fun s e' t' lv' hs he => ?_, h.nf⟩
 ·unfold setF at hn
  by_cases hsk : s = k
  ·rw [if_pos hsk] at hn; cases hn
  ·rw [if_neg hsk] at hn
   rw [Maps.has_put_other (fun e => hsk (keyL_inj e))]
   exact h.none_ s hs hn
 ·unfold setF at he
  by_cases hsk : s = k
  ·subst hsk
   rw [if_pos rfl] at he
   injection he with he
   injection he with he1 he2
   injection he2 with he2 he3
   subst he1 he2 he3
   exact ⟨Maps.has_put_same hD (key_lit hk) _, p, ht, fun z => Maps.atKey_put_same hD (key_lit hk) _ z⟩
  ·rw [if_neg hsk] at he
   obtain ⟨h1, q, h2, h3⟩ := h.some_ s e' t' lv' hs he
   have hne : keyL s ≠ keyL k := fun e => hsk (keyL_inj e)
   exact ⟨by rw [Maps.has_put_other hne]; exact h1, q, h2, fun z => by rw [Maps.atKey_put_other hne]; exact h3 z⟩
theorem look_run {w : World} {b n : Nat} {D : DataW Value} {s : ByteArray} (h : Shf w b n D) (hs : s.size ≤ maxLen) : ∃ v, (Instr.lookup 79 (.map (some b)) (.string s) true).run Tryz.prog w = .ok (.tuple #[v, .bool (Maps.has D (keyL s))]) w ∧ (Instr.lookup 79 (.map (some b)) (.string s) false).run Tryz.prog w = .ok v w ∧ .held v = D.atKey (keyL s) (.held (.agg (bodyA eB none 0))) := by
 obtain ⟨v, ps, h1, h2⟩ := h.look_ok (string_keyed Tryz.underlying9) Tryz.underlying79 (zero_body w) (zd := .held (.agg (bodyA eB none 0))) (zp := []) rfl (kof hs)
 obtain ⟨v', ps', h3, h4⟩ := h.lookup (string_keyed Tryz.underlying9) Tryz.underlying79 (zero_body w) (zd := .held (.agg (bodyA eB none 0))) (zp := []) rfl (kof hs)
 have e1 : DataW.held v = D.atKey (keyL s) (.held (.agg (bodyA eB none 0))) := by
  unfold heldE at h2
  injection h2 with h2
  injection h2
 have e2 : DataW.held v' = D.atKey (keyL s) (.held (.agg (bodyA eB none 0))) := by
  unfold heldE at h4
  injection h4 with h4
  injection h4
 have e3 : v' = v := by
  have := e2.trans e1.symm
  injection this
 exact ⟨v, h1, by rw [← e3]; exact h3, e1⟩
theorem op_look2 {ev : Operand → Value} {o : Oper} {w : World} {b n : Nat} {D : DataW Value} {s : ByteArray} {V : Value} (h : Shf w b n D) (hs : s.size ≤ maxLen) (hh : Maps.has D (keyL s) = true) (hat : ∀ z, D.atKey (keyL s) z = .held V)
  (ho : ∃ m x, o.op = .lookup 79 m x true ∧ ev m = .map (some b) ∧ ev x = .string s) : (execOp ev o).run Tryz.prog w = .ok (.value (.tuple #[V, .bool true])) w := by
 obtain ⟨m, x, ho, hm, hx⟩ := ho
 obtain ⟨v, h1, _, h3⟩ := look_run h hs
 rw [hat] at h3
 injection h3 with h3
 subst h3
 rw [hh] at h1
 unfold execOp
 simp only [ho, hm, hx, Sem.run_bind, Sem.run_pure, Result.andThen_ok, h1]
theorem op_look0 {ev : Operand → Value} {o : Oper} {w : World} {b n : Nat} {D : DataW Value} {s : ByteArray} (h : Shf w b n D) (hs : s.size ≤ maxLen) (hh : Maps.has D (keyL s) = false)
  (ho : ∃ m x, o.op = .lookup 79 m x true ∧ ev m = .map (some b) ∧ ev x = .string s) : (execOp ev o).run Tryz.prog w = .ok (.value (.tuple #[.agg (bodyA eB none 0), .bool false])) w := by
 obtain ⟨m, x, ho, hm, hx⟩ := ho
 obtain ⟨v, h1, _, h3⟩ := look_run h hs
 rw [Maps.atKey_of_not_has hh] at h3
 injection h3 with h3
 subst h3
 rw [hh] at h1
 unfold execOp
 simp only [ho, hm, hx, Sem.run_bind, Sem.run_pure, Result.andThen_ok, h1]
theorem op_look1 {ev : Operand → Value} {o : Oper} {w : World} {b n : Nat} {D : DataW Value} {s : ByteArray} {V : Value} (h : Shf w b n D) (hs : s.size ≤ maxLen) (hat : ∀ z, D.atKey (keyL s) z = .held V)
  (ho : ∃ m x, o.op = .lookup 79 m x false ∧ ev m = .map (some b) ∧ ev x = .string s) : (execOp ev o).run Tryz.prog w = .ok (.value V) w := by
 obtain ⟨m, x, ho, hm, hx⟩ := ho
 obtain ⟨v, _, h2, h3⟩ := look_run h hs
 rw [hat] at h3
 injection h3 with h3
 subst h3
 unfold execOp
 simp only [ho, hm, hx, Sem.run_bind, Sem.run_pure, Result.andThen_ok, h2]
theorem wpl_lay {ops : Array Oper} {rest : List Oper} {o : Oper} {a : Go.Act} {w : World} {Q : Exit → Go.Act → World → Prop} {b n : Nat} {D : DataW Value} (hown : Shf w b n D) (hn : n < maxLen) {s : ByteArray} (hs : s.size ≤ maxLen) (V : Value)
  (hg : o.guard = none) (m x v : Operand) (hop : o.op = Op.mapUpdate 79 m x v) (hm : a.eval m = .map (some b)) (hx : a.eval x = .string s) (hv : a.eval v = V)
  (hQ : ∀ w', Shf w' b (n + 1) (D.put (keyL s) (.held V)) → w.grownBy w' (some b) → wpList Tryz.prog ops Q rest (a.put o.dst undef) w') : wpList Tryz.prog ops Q (o :: rest) a w :=
 wpList_mapUpdate_own w hg m x v 79 hop 9 76 (string_keyed Tryz.underlying9) Tryz.underlying79 heldE b n D hm hown hn _ _ (keyL s) hx hv (kof hs) _ [] rfl hQ
theorem info_body : (Tryz.prog.info? 76).map (·.size) = some 3 := by kernel_rfl
theorem bodyA_one (e : ByteArray) (p : Option Addr) (lv : Nat) : (bodyA e p lv).all (·.oneCell') = true := by simp [bodyA, Value.oneCell']
theorem run_alloc_body (ev : Operand → Value) (o : Oper) (w : World) (b : Nat) (hb : b = w.heap.size) (ho : o.op = .alloc 76) : (execOp ev o).run Tryz.prog w = .ok (.value (.pointer (some ⟨b, 0, none⟩))) (w.alloc (.cells (bodyA eB none 0) 76)) := by
 subst hb
 unfold execOp
 rw [ho]
 kernel_rfl
theorem wpl_store_body {ops : Array Oper} {rest : List Oper} {o : Oper} {act : Go.Act} {w : World} {Q : Exit → Go.Act → World → Prop} {b : Nat} {cs : Array Value} (h : Rg.Own w b cs 76) (hs : cs.size = 3) (e : ByteArray) (p : Option Addr) (lv : Nat)
  (hgd : o.guard = none) (x y : Operand) (ho : o.op = .store 76 x y) (hx : act.eval x = .pointer (some ⟨b, 0, none⟩)) (hy : act.eval y = .agg (bodyA e p lv)) (hd : o.dst = none)
  (hQ : ∀ w', Rg.Own w' b (bodyA e p lv) 76 → Rg.Upd w b w' → wpList Tryz.prog ops Q rest act w') : wpList Tryz.prog ops Q (o :: rest) act w :=
 wpList_store_rowTo hgd 76 x y ho hd b _ hx hy 76 _ h.2 info_body hs (bodyA_one _ _ _) (hQ _ ⟨by simp; exact h.1, setRow_heap _ _ _ _ _ _ h.2⟩ (Rg.Upd.set _ _ _))
theorem load_body {w : World} {b : Nat} {e : ByteArray} {p : Option Addr} {lv : Nat} (h : Rg.Own w b (bodyA e p lv) 76) : (loadVar 76 ⟨b, 0, none⟩).run Tryz.prog w = .ok (.agg (bodyA e p lv)) w :=
 run_loadVar_row (P := Tryz.prog) w b 76 76 (bodyA e p lv) (0, 0) _ h.2 Tryz.underlying76 rfl info_body
theorem op_load_body {ev : Operand → Value} {o : Oper} {w : World} {b : Nat} {e : ByteArray} {p : Option Addr} {lv : Nat} (h : Rg.Own w b (bodyA e p lv) 76) (ho : ∃ x, o.op = .load 76 x ∧ ev x = .pointer (some ⟨b, 0, none⟩)) : (execOp ev o).run Tryz.prog w = .ok (.value (.agg (bodyA e p lv))) w := by
 obtain ⟨x, ho, hx⟩ := ho
 unfold execOp
 simp only [ho, hx, Instr.loadAt, Instr.sureAddr, Sem.run_bind, Sem.run_pure, Result.andThen_ok, load_body h]
theorem op_field_body {ev : Operand → Value} {o : Oper} {w : World} {e : ByteArray} {p : Option Addr} {lv : Nat} (ho : ∃ x, o.op = .field 76 x 0 ∧ ev x = .agg (bodyA e p lv)) : (execOp ev o).run Tryz.prog w = .ok (.value (.string e)) w := by
 obtain ⟨x, ho, hx⟩ := ho
 unfold execOp
 simp only [ho, hx]
 kernel_rfl
theorem built_body (e : ByteArray) : Tryz.prog.built 76 [(0, .string e)] = some (bodyA e none 0) := by kernel_rfl
theorem built_body3 (e : ByteArray) (p : Option Addr) (k : Int) : Tryz.prog.built 76 [(0, .string e), (1, tv p), (2, .int .i64 k)] = some #[.string e, .pointer p, .int .i64 k] := by kernel_rfl
theorem own_bodyA (w : World) (b : Nat) (hb : b = w.heap.size) : Rg.Own (w.alloc (.cells (bodyA eB none 0) 76)) b (bodyA eB none 0) 76 := by
 subst hb
 exact Rg.Own.new _ _ _
theorem res_body {fn : Func} {q u : Tmp} (hf : fn.results = #[.cell q 76, .tmp u]) (tmps : Array Value) {w : World} {b : Nat} {e : ByteArray} {p : Option Addr} {lv : Nat} (hp : tmps.getD q undef = .pointer (some ⟨b, 0, none⟩)) (h : Rg.Own w b (bodyA e p lv) 76) :
  (results fn tmps).run Tryz.prog w = .ok (.tuple #[.agg (bodyA e p lv), tmps.getD u undef]) w := by
 have hp' : tmps[q]?.getD undef = .pointer (some ⟨b, 0, none⟩) := by simpa using hp
 simp [results, hf, hp', asAddr, load_body h]
end Tm
end
section
open Go.RowKit
namespace Tm
open Tr Ni Pk Ky No Rf Rl
theorem rbodies_new (xs : List ByteArray) (a : Option Addr) (n c : Nat) (w : World) (h : IsSt w a n c xs) (hn : n ≤ 1000000) : Calls Tryz.prog 8 #[.slice a n c] w fun e w' => ∃ a n c, e = .returned (.slice a n c) ∧ IsSt w' a n c (bodiesL xs) ∧ (∀ ad, a = some ad → w.heap.size ≤ ad.block) ∧ Below w.heap.size w w' := by
 obtain ⟨i0, hi, hz0, hz1, hz2⟩ := info_st_parts
 have HI : Hid (_ ∧ _ ∧ _ ∧ _) := hid ⟨hi, hz0, hz1, hz2⟩
 have hl := h.len
 have hnc := h.1
 have hcm := h.2.1
 unfold maxLen at hcm
 have H := hid h
 have HL := hid hl
 clear hi hz0 hz1 hz2 hl h
 go_enter Tryz.func8, Tryz.ntmps8
 go_wp2
 go_loopw [3, 4] (fun v i wr => ∃ j : Nat, j ≤ n ∧ i = .int .i64 j ∧ Hid (wr.ownsRow w.heap.size 9 1 v (bodiesL (xs.take j)).length ((bodiesL (xs.take j)).map Value.string)) ∧ Hid (Below w.heap.size w wr)) (fun _ i _ => n - (intOf i).toNat)
 case atStart => exact ⟨0, Nat.zero_le _, rfl, hid (World.ownsRow_nil _ _ _ _), hid (Below.refl _ _)⟩
 case round =>
  obtain ⟨j, hj, rfl, HR, HB⟩ := hrel
  by_cases hlt : j < n
  ·have HS := hid (bodies_snoc xs j (by rw [HL.out]; exact hlt))
   have hbl := bodies_len (xs.take j)
   rw [List.length_take] at hbl
   obtain ⟨b, off, rfl, hblt, hcell⟩ := H.out.at' j hlt
   have hc0 := (Below.cell (p := ⟨b, off + j, none⟩) HB.out hblt).trans hcell
   have hsz := HB.out.size
   obtain ⟨L, hL⟩ : ∃ L, bodiesL (xs.take j) = L := ⟨_, rfl⟩
   rw [hL] at HS hbl HR
   obtain ⟨K, hK⟩ : ∃ K, xs.getD j eB = K := ⟨_, rfl⟩
   rw [hK] at HS hc0
   clear hL hK hcell
   by_cases hput : j = 0 ∨ 32 ≤ K.size
   ·have HS' : Hid (bodiesL (xs.take (j + 1)) = L ++ [K]) := hid (by rw [HS.out, if_pos hput])
    clear HS
    have hdis : j = 0 ∨ (j ≠ 0 ∧ 32 ≤ K.size) := by omega
    rcases hdis with rfl | ⟨h0, h32⟩
    ·rw [Nat.add_zero] at hc0
     go_wp2_with (first
      | (at_builtin; refine wpList_append_own _ rfl _ _ 30 rfl w.heap.size 9 i0 (.string ⟨#[]⟩) 1 16 Tryz.underlying30 HI.out.1 HI.out.2.1 HI.out.2.2.1 HI.out.2.2.2 rfl (by decide) _ _ _ rfl (HR.out.alloc _) ⟨wr.heap.size, 0, none⟩ 1 1 [.string K] rfl rfl ?d1 ?d2 ?d3 ?d4 ?d5 ?_))
     all_goals first
      | exact Bu.cell_one_new' _ _ _ _
      | (intro u hu; simp at hu; subst hu; rfl)
      | rfl
      | (unfold maxLen; omega)
      | omega
      | (simp; omega)
      | skip
     intro v' w2 hown2 hgrow _
     have hlt' := HR.out.lt
     go_wp2
     go_roundw
     case rel => exact ⟨0 + 1, by omega, by go_num, hid (by rw [HS'.out, List.length_append, List.map_append]; exact hown2), hid ((HB.out.alloc hsz _).grown hgrow (by simp; omega) (fun g hg => (hlt' g hg).1))⟩
     case measure => simp [intOf]; omega
    ·have q0 : decide ((j : Int) = 0) = false := decide_eq_false (by omega)
     have q0n : decide (j = 0) = false := decide_eq_false (by omega)
     have q1 : decide ((32 : Int) ≤ (K.size : Int)) = true := decide_eq_true (by omega)
     have q1n : decide (32 ≤ K.size) = true := decide_eq_true (by omega)
     go_wp2_with (first
      | (at_builtin; refine wpList_append_own _ rfl _ _ 30 rfl w.heap.size 9 i0 (.string ⟨#[]⟩) 1 16 Tryz.underlying30 HI.out.1 HI.out.2.1 HI.out.2.2.1 HI.out.2.2.2 rfl (by decide) _ _ _ rfl (HR.out.alloc _) ⟨wr.heap.size, 0, none⟩ 1 1 [.string K] rfl rfl ?f1 ?f2 ?f3 ?f4 ?f5 ?_))
     all_goals first
      | exact Bu.cell_one_new' _ _ _ _
      | (intro u hu; simp at hu; subst hu; rfl)
      | rfl
      | (unfold maxLen; omega)
      | omega
      | (simp; omega)
      | skip
     intro v' w2 hown2 hgrow _
     have hlt' := HR.out.lt
     go_wp2
     go_roundw
     case rel => exact ⟨j + 1, by omega, by go_num, hid (by rw [HS'.out, List.length_append, List.map_append]; exact hown2), hid ((HB.out.alloc hsz _).grown hgrow (by simp; omega) (fun g hg => (hlt' g hg).1))⟩
     case measure => simp [intOf]; omega
   ·have HS' : Hid (bodiesL (xs.take (j + 1)) = L) := hid (by rw [HS.out, if_neg hput, List.append_nil])
    have h0 : j ≠ 0 := by omega
    have h32 : ¬ 32 ≤ K.size := by omega
    have q0 : decide ((j : Int) = 0) = false := decide_eq_false (by omega)
    have q0n : decide (j = 0) = false := decide_eq_false (by omega)
    have q1 : decide ((32 : Int) ≤ (K.size : Int)) = false := decide_eq_false (by omega)
    have q1n : decide (32 ≤ K.size) = false := decide_eq_false (by omega)
    clear HS hput
    go_wp2
    go_roundw
    case rel => exact ⟨j + 1, by omega, by go_num, by rw [HS'.out]; exact HR, HB⟩
    case measure => simp [intOf]; omega
  ·obtain rfl : j = n := by omega
   have hO := HR.out
   rw [List.take_of_length_le (by rw [HL.out]; exact Nat.le_refl _)] at hO
   obtain ⟨a', cap', rfl, hb⟩ := IsSt.ofOwn hO
   have HE : Hid (IsSt wr a' (bodiesL xs).length cap' (bodiesL xs) ∧ ∀ ad, a' = some ad → w.heap.size ≤ ad.block) := hid ⟨hb, fun ad e => (hO.lt ad.block (by rw [e]; rfl)).1⟩
   clear hO hb
   go_wp2
   go_ret
   exact ⟨a', _, cap', rfl, HE.out.1, HE.out.2, HB.out⟩
theorem rweight_any (xs : List ByteArray) (hx : ∀ s ∈ xs, s.size ≤ 900000) (a : Option Addr) (n c : Nat) (w : World) (h : IsSt w a n c xs) (hn : n ≤ 1000000) :
  Calls Tryz.prog 17 #[.slice a n c] w fun e w' => e = .returned (.int .i64 (weightL xs : Nat)) ∧ Below w.heap.size w w' := by
 have hl := h.len
 have hnc := h.1
 have hcm := h.2.1
 unfold maxLen at hcm
 have H := hid h
 have HL := hid hl
 have HX := hid hx
 clear hl h hx
 go_enter Tryz.func17, Tryz.ntmps17
 go_wp2
 go_loopw [3, 4] (fun v i wr => ∃ j : Nat, j ≤ n ∧ i = .int .i64 j ∧ v = .int .i64 (weightL (xs.take j) : Nat) ∧ Hid (Below w.heap.size w wr)) (fun _ i _ => n - (intOf i).toNat)
 case atStart => exact ⟨0, Nat.zero_le _, rfl, rfl, hid (Below.refl _ _)⟩
 case round =>
  obtain ⟨j, hj, rfl, rfl, HB⟩ := hrel
  by_cases hlt : j < n
  ·have HS := hid (weight_snoc xs j (by rw [HL.out]; exact hlt))
   have hf := weight_few xs HX.out j
   have hf2 := weight_few xs HX.out (j + 1)
   rw [HL.out] at hf hf2
   have hf3 : n * 900000 ≤ 1000000 * 900000 := Nat.mul_le_mul_right _ hn
   obtain ⟨b, off, rfl, hblt, hcell⟩ := H.out.at' j hlt
   have hc0 := (Below.cell (p := ⟨b, off + j, none⟩) HB.out hblt).trans hcell
   rw [HS.out] at hf2
   obtain ⟨K, hK⟩ : ∃ K, xs.getD j eB = K := ⟨_, rfl⟩
   rw [hK] at HS hc0 hf2
   obtain ⟨L, hL⟩ : ∃ L, weightL (xs.take j) = L := ⟨_, rfl⟩
   rw [hL] at HS hf hf2 ⊢
   have hw : IntKind.i64.wrap ((L : Int) + (K.size : Int)) = (L : Int) + (K.size : Int) := IntWalk.i64_in _ (by omega)
   clear hL hK hcell
   go_wp2
   go_roundw
   case rel => exact ⟨j + 1, by omega, by go_num, by rw [HS.out, Int.natCast_add], HB⟩
   case measure => simp [intOf]; omega
  ·obtain rfl : j = n := by omega
   have HE : Hid (weightL (xs.take j) = weightL xs) := hid (by rw [List.take_of_length_le (by rw [HL.out]; exact Nat.le_refl _)])
   go_wp2
   go_ret
   exact ⟨by rw [HE.out]; rfl, HB.out⟩
end Tm
end
section
open Go.RowKit
namespace Tm
open Tr Ni Pk Ky No Rf Rl
theorem owns_le {B B' n sz : Nat} {w : World} {e : TypeId} {v : Value} {xs : List Value} (h : w.ownsRow B e sz v n xs) (hb : B' ≤ B) : w.ownsRow B' e sz v n xs := by
 obtain ⟨h1, h2⟩ := h
 exact ⟨h1, h2.imp id fun ⟨g, cap, cur, e, hg, r⟩ => ⟨g, cap, cur, e, Nat.le_trans hb hg, r⟩⟩
theorem wpl_append_texts {ops : Array Oper} {rest : List Oper} {o : Oper} {a : Go.Act} {w : World} {Q : Exit → Go.Act → World → Prop} {B B2 : Nat} {v v2 : Value} {xs ys : List ByteArray} (hgd : o.guard = none) (s x : Operand) (ho : o.op = .call { callee := .builtin .append, args := #[s, x], argTypes := #[30, 30] })
  (hs : a.eval s = v) (hx : a.eval x = v2) (hR : w.ownsRow B 9 1 v xs.length (xs.map Value.string)) (hS : w.ownsRow B2 9 1 v2 ys.length (ys.map Value.string)) (hn : xs.length + ys.length ≤ 1000000) (hB : B ≤ w.heap.size)
  (h : ∀ v' w', w'.ownsRow B 9 1 v' (xs ++ ys).length ((xs ++ ys).map Value.string) → w.grownBy w' v.ownBlock → (v'.ownBlock = v.ownBlock ∨ v'.ownBlock = some w.heap.size) → wpList Tryz.prog ops Q rest (a.put o.dst v') w') : wpList Tryz.prog ops Q (o :: rest) a w := by
 obtain ⟨i0, hi, hz0, hz1, hz2⟩ := info_st_parts
 rcases hS.2 with ⟨rfl, h0⟩ | ⟨g, cap, cur, rfl, hg, hh, hnc, hcm, hsz, htk⟩
 ·have hy : ys = [] := List.length_eq_zero_iff.1 h0
  subst hy
  refine wpList_append_own_none hgd s x 30 ho B 9 i0 1 Tryz.underlying30 hi v xs.length (xs.map Value.string) hs hR hx (h v w ?_ ⟨rfl, rfl, rfl, Nat.le_refl _, fun _ _ _ => rfl⟩ (.inl rfl))
  rw [List.append_nil]
  exact hR
 ·refine wpList_append_own_at w hgd s x 30 ho B 9 i0 (.string ⟨#[]⟩) 1 16 Tryz.underlying30 hi hz0 hz1 hz2 rfl (by decide) v xs.length (xs.map Value.string) hs hR ⟨g, 0, none⟩ ys.length cap (ys.map Value.string) hx (by simp) (fun j u hu => ?_) (fun u hu => ?_) (by unfold maxLen; omega) (by omega) hB (fun v' w' h1 h2 _ h4 => h v' w' ?_ h2 h4)
  ·rw [Addr.add_mid, Nat.zero_add, cell_of_row w g _ _ _ _ hh]
   have hj : j < ys.length := by have := (List.getElem?_eq_some_iff.1 hu).1; simpa using this
   rw [← Array.getElem?_toList, ← hu, ← htk, List.getElem?_take_of_lt (by omega)]
  ·obtain ⟨y, _, rfl⟩ := List.mem_map.1 hu
   rfl
  ·rw [List.length_append, List.map_append]
   exact h1
def flatN (f : Fin 16 → List ByteArray) (j : Nat) : List ByteArray := (((List.finRange 16).take j).map f).flatten
theorem flatN_step (f : Fin 16 → List ByteArray) {j : Nat} (hj : j < 16) : flatN f (j + 1) = flatN f j ++ f ⟨j, hj⟩ := by
 unfold flatN
 rw [List.take_add_one, List.getElem?_eq_getElem (by simpa using hj), List.map_append, List.flatten_append]
 simp
theorem flatN_all (f : Fin 16 → List ByteArray) : flatN f 16 = ((List.finRange 16).map f).flatten := by
 unfold flatN
 rw [List.take_of_length_le (by simp)]
theorem flatN_le (f : Fin 16 → List ByteArray) : ∀ (k j : Nat), j + k = 16 → (flatN f j).length ≤ (flatN f 16).length
 | 0, j, h => by
   obtain rfl : j = 16 := by omega
   exact Nat.le_refl _
 | k + 1, j, h => by
  have := flatN_le f k (j + 1) (by omega)
  rw [flatN_step f (show j < 16 by omega), List.length_append] at this
  omega
def GotS (w : World) (xs : List ByteArray) (e : Ending) (w' : World) : Prop := ∃ v, e = .returned v ∧ w'.ownsRow w.heap.size 9 1 v xs.length (xs.map Value.string) ∧ Below w.heap.size w w'
def NodesC (L : Nat) : Prop := ∀ (l : List Tr.In), Ok L l → FineL l → ∀ (a : Option Addr) (n c : Nat) (w : World), IsIns w a n c l → n ≤ 1000 →
 Calls Tryz.prog 7 #[.slice a n c] w (GotS w (nodesT (build L l)))
theorem built_kinds {L : Nat} {l : List Tr.In} (ok : Ok L l) (hne : l ≠ []) :
  ((nodeT (build L l)).kd = 1 ∧ nodesT (build L l) = [encT (build L l)]) ∨
  ((nodeT (build L l)).kd = 2 ∧ ∃ K, 0 < K ∧ K ≤ L ∧ (nodeT (build L l)).p.length = K ∧ nodesT (build L l) = encT (build L l) :: nodesT (build (L - K) (restL l K)) ∧ Ok (L - K) (restL l K)) ∨
  ((nodeT (build L l)).kd = 3 ∧ 0 < L ∧ nodesT (build L l) = encT (build L l) :: flatN (fun d => nodesT (build (L - 1) (restL (beginL l d) 1))) 16) := by
 match l, hne with
 | [x], _ =>
  rw [build]
  exact .inl ⟨rfl, rfl⟩
 | x :: y :: r, _ =>
  have hcl := common_lt ok
  have hxl := (ok.1 x List.mem_cons_self).1
  rw [build]
  by_cases h : 0 < commonL (x :: y :: r) ∧ 0 < L
  ·rw [dif_pos h]
   refine .inr (.inl ⟨rfl, commonL (x :: y :: r), h.1, by omega, ?_, rfl, ok_rest ok (by omega) (fun z hz z' hz' => by rw [all_begin hz, all_begin hz'])⟩)
   show (x.1.take _).length = _
   rw [List.length_take]
   omega
  ·rw [dif_neg h, dif_pos (by omega)]
   exact .inr (.inr ⟨rfl, by omega, by rw [flatN_all]; rfl⟩)
theorem rnodes_of {L : Nat} (hL : L ≤ 64) (ih : ∀ m, m < L → NodesC m) : NodesC L := fun l ok f a n c w h hn => by
 by_cases hne : l = []
 ·subst hne
  obtain rfl : n = 0 := h.len.symm
  rw [build]
  have HC := hid (node_none a c w)
  clear h
  go_enter Tryz.func7, Tryz.ntmps7
  go_wp2_with fail
  refine HC.out.mono ?_
  rintro e w1 ⟨rfl, hb1⟩
  have HB1 := hid hb1
  have hNew := Rg.Own.new w1 (ndC nd0 none 0 0) 57
  have HN := hid hNew
  clear hb1 hNew
  go_wp2_with (first
   | (refine Rg.run rfl _ _ (run_alloc_nd _ _ _ w1.heap.size rfl rfl) ?_)
   | (refine wpl_store_ndL HN.out rfl nd0 none 0 0 rfl rfl _ _ rfl rfl rfl rfl ?_; intro w4 hO4 hu4; have HB4 : Hid (Below w1.heap.size w1 w4) := hid (hu4.below (al1 _ _) (Nat.le_refl _)); clear hO4 hu4))
  go_ret
  exact ⟨_, rfl, World.ownsRow_nil _ _ _ _, bst HB1.out HB4.out⟩
 ·have hb := build_ne ok hne
  have hs := full_stub (build_full L l)
  have hm := (may_tree _ L (good_build L l ok) hL (fine_build L l f) hb).1 hs
  have e : encT (build L l) = encN (nodeT (build L l)) := by
   cases hb' : build L l with
   | nil => exact absurd hb' hb
   | stub r => rw [hb'] at hs; exact absurd trivial hs
   | leaf p v => rfl
   | ext q t => rfl
   | br ks => rfl
  have hnl := h.len
  have hfew := nodes_few L l ok
  have hf2 : (L + 1) * l.length ≤ 65 * 1000 := Nat.mul_le_mul (by omega) (by omega)
  have HC := hid (node_any hL (fun m hm => renc_any m (by omega)) ok f hne a n c w h (by omega))
  have hl := nodeT_length (build L l)
  have hall : ∀ z ∈ l, z.1.length = L := fun z hz => (ok.1 z hz).1
  have hD := built_kinds ok hne
  have hRs : ∀ (m : Nat) wz, m ≤ L → Below w.heap.size w wz → Calls Tryz.prog 23 #[.slice a n c, .int .i64 m] wz (GotIns wz (restL l m)) := fun m wz hm' hb => rest_any l a n c m (fun z hz => by rw [hall z hz]; exact hm') wz (h.below hb) (by omega)
  have hIh1 : ∀ (K : Nat), 0 < K → K ≤ L → Ok (L - K) (restL l K) → ∀ a' n' c' wz, IsIns wz a' n' c' (restL l K) → Calls Tryz.prog 7 #[.slice a' n' c'] wz (GotS wz (nodesT (build (L - K) (restL l K)))) := fun K h0 hK hok a' n' c' wz hI => ih (L - K) (by omega) _ hok (f.rest K) a' n' c' wz hI (by rw [← hI.len]; unfold restL; rw [List.length_map]; omega)
  have hBg : 0 < L → ∀ (d : Fin 16) wz, Below w.heap.size w wz → Calls Tryz.prog 24 #[.slice a n c, .int .i64 d.val] wz (GotIns wz (beginL l d)) := fun hL0 d wz hb => begin_any l a n c d (fun z hz => by rw [hall z hz]; exact hL0) wz (h.below hb) (by omega)
  have hRs2 : 0 < L → ∀ (d : Fin 16) a' n' c' wz, IsIns wz a' n' c' (beginL l d) → Calls Tryz.prog 23 #[.slice a' n' c', .int .i64 1] wz (GotIns wz (restL (beginL l d) 1)) := fun hL0 d a' n' c' wz hi => rest_any (beginL l d) a' n' c' 1 (fun z hz => by rw [hall z (mem_begin.1 hz).1]; omega) wz hi (by rw [← hi.len]; exact Nat.le_trans (List.length_filter_le _ _) (by omega))
  have hIh2 : 0 < L → ∀ (d : Fin 16) a' n' c' wz, IsIns wz a' n' c' (restL (beginL l d) 1) → Calls Tryz.prog 7 #[.slice a' n' c'] wz (GotS wz (nodesT (build (L - 1) (restL (beginL l d) 1)))) := fun hL0 d a' n' c' wz hI => ih (L - 1) (by omega) _ (ok_begin ok hL0 d) ((f.begin d).rest 1) a' n' c' wz hI (by
   rw [← hI.len]
   unfold restL
   rw [List.length_map]
   exact Nat.le_trans (List.length_filter_le _ _) (by omega))
  have HRs := hid hRs
  have HIh1 := hid hIh1
  have HBg := hid hBg
  have HRs2 := hid hRs2
  have HIh2 := hid hIh2
  obtain ⟨xs, hxs⟩ : ∃ xs, nodesT (build L l) = xs := ⟨_, rfl⟩
  rw [hxs] at hD hfew ⊢
  rw [e] at hD
  generalize nodeT (build L l) = N at *
  have HM := hid hm
  have HL := hid hl
  have HD := hid hD
  have hxl : xs.length ≤ 65000 := by omega
  clear h hm hl e hs hb hD hRs hIh1 hBg hRs2 hIh2 hxs hfew hf2 hall ok f hnl ih hne
  go_enter Tryz.func7, Tryz.ntmps7
  go_wp2_with fail
  refine HC.out.mono ?_
  rintro e w1 ⟨a1, n1, c1, rfl, hp1, hb1⟩
  have HB1 := hid hb1
  have hNew := Rg.Own.new w1 (ndC nd0 none 0 0) 57
  have HN := hid hNew
  have HP := hid hp1
  clear hb1 hNew hp1 HC
  go_wp2_with (first
   | (refine Rg.run rfl _ _ (run_alloc_nd _ _ _ w1.heap.size rfl rfl) ?_)
   | (refine wpl_store_ndL HN.out rfl N a1 n1 c1 HL.out rfl _ _ rfl rfl rfl rfl ?_; intro w4 hO4 hu4; have HO4 := hid hO4; have HB4 : Hid (Below w1.heap.size w1 w4) := hid (hu4.below (al1 _ _) (Nat.le_refl _)); clear hO4 hu4)
   | (refine Rg.run rfl _ _ (op_load_nd HO4.out HL.out ⟨_, rfl, rfl⟩) ?_))
  refine (rput_of N a1 n1 c1 HL.out w4 (HP.out.below HB4.out) HM.out).mono ?_
  rintro e w5 ⟨rfl, hb5⟩
  have HB5 := hid (bst (bst HB1.out HB4.out) hb5)
  have hO5 := HO4.out.below hb5
  have hg5 : w1.heap.size < w5.heap.size := hO5.1
  have hs5 := HB5.out.size
  have k0 : w5.cell? ⟨w1.heap.size, 0, none⟩ = some (.int .i64 N.kd) := own_cell (j := 0) hO5 rfl
  have k1 : w5.cell? ⟨w1.heap.size, 1, none⟩ = some (.slice a1 n1 c1) := own_cell (j := 1) hO5 rfl
  have hpn : N.p.length = n1 := HP.out.len
  have hpc := HP.out.1
  have hpm := HP.out.2.1
  unfold maxLen at hpm
  obtain ⟨E, hE⟩ : ∃ E, encN N = E := ⟨_, rfl⟩
  rw [show (⟨(putP N).toArray⟩ : ByteArray) = encN N from rfl]
  rw [hE] at HD ⊢
  obtain ⟨g, hg⟩ : ∃ g, w1.heap.size = g := ⟨_, rfl⟩
  rw [hg] at hg5 k0 k1
  obtain ⟨w6, hw6⟩ : ∃ w6, w6 = w5.alloc (.cells #[.string E] 9) := ⟨_, rfl⟩
  have hb6 : Below w5.heap.size w5 w6 := by rw [hw6]; exact al1 _ _
  have hs6 : w5.heap.size < w6.heap.size := by rw [hw6]; simp
  have hR6 : w6.ownsRow w5.heap.size 9 1 (.slice (some ⟨w5.heap.size, 0, none⟩) 1 1) [E].length ([E].map Value.string) := by
   rw [hw6]
   exact World.ownsRow_lit (e := 9) (size := 1) (base := w5.heap.size) w5 #[.string E] 1 (Nat.le_refl _) (by unfold maxLen; decide) rfl
  have k06 := cell_on hb6 k0
  have k16 := cell_on hb6 k1
  have HW6 : Hid (_ = _) := hid hw6
  have HB6 := hid (bst HB5.out hb6)
  have HB56 := hid hb6
  have HR6 := hid hR6
  clear hb5 hO5 HO4 HB4 HN HB1 hE hw6 hb6 hR6 k0 k1 HP hs6
  rcases HD.out with ⟨hk, hx⟩ | ⟨hk, K, hK0, hKL, hpK, hx, hok⟩ | ⟨hk, hL0, hx⟩
  ·rw [hk] at k06
   have HX := hid hx
   clear hx hk HD HRs HIh1 HBg HRs2 HIh2
   go_wp2_with (first
    | (rw [← HW6.out]))
   go_loopw [5, 6] (fun v i wr => v = .slice (some ⟨w5.heap.size, 0, none⟩) 1 1 ∧ i = .int .i64 0 ∧ wr = w6) (fun _ _ _ => 0)
   case atStart => exact ⟨rfl, rfl, rfl⟩
   case round =>
    obtain ⟨rfl, rfl, rfl⟩ := hrel
    go_wp2
    go_ret
    refine ⟨_, rfl, ?_, HB6.out⟩
    rw [HX.out]
    exact owns_le HR6.out hs5
  ·rw [hk] at k06
   obtain rfl : n1 = K := by omega
   have HX := hid hx
   have HI := hid (fun a' n' c' wz hI => HIh1.out n1 hK0 hKL hok a' n' c' wz hI)
   have HRr := hid (fun wz hb => HRs.out n1 wz hKL hb)
   obtain ⟨ys, hys⟩ : ∃ ys, nodesT (build (L - n1) (restL l n1)) = ys := ⟨_, rfl⟩
   rw [hys] at HX HI
   clear hx hk HD HRs HIh1 HBg HRs2 HIh2 hok hys hpK
   go_wp2_with (first
    | (rw [← HW6.out]))
   refine (HRr.out w6 HB6.out).mono ?_
   rintro e w7 ⟨a7, n7, c7, rfl, hI7, hb7⟩
   have HI7 := hid hI7
   have HB7 := hid hb7
   clear hI7 hb7
   go_wp2_with fail
   refine (HI.out a7 n7 c7 w7 HI7.out).mono ?_
   rintro e w8 ⟨v8, rfl, hR8, hb8⟩
   have h68 := bst HB7.out hb8
   have HR8 := hid hR8
   have HS8 := hid (row_keep HR6.out h68)
   have hyl : [E].length + ys.length ≤ 1000000 := by
    have := congrArg List.length HX.out
    simp only [List.length_cons] at this
    simp only [List.length_cons, List.length_nil]
    omega
   have HB8 := hid (bst HB56.out h68)
   have HBw := hid (bst HB6.out h68)
   have hsz := HB8.out.size
   clear hR8 hb8 h68 HI7 HB7 HR6
   go_wp2_with (first
    | (at_builtin; refine wpl_append_texts rfl _ _ rfl rfl rfl HS8.out HR8.out hyl hsz ?_))
   intro v' w9 h9 hg9 _
   have HR9 := hid h9
   have HB9 : Hid (Below w.heap.size w w9) := hid (HBw.out.grown hg9 HBw.out.size (fun k hk => by cases hk; exact hs5))
   clear h9 hg9
   go_wp2
   go_ret
   refine ⟨_, rfl, ?_, HB9.out⟩
   rw [HX.out]
   exact owns_le HR9.out hs5
  ·rw [hk] at k06
   obtain ⟨ff, hff⟩ : ∃ ff : Fin 16 → List ByteArray, (fun d => nodesT (build (L - 1) (restL (beginL l d) 1))) = ff := ⟨_, rfl⟩
   have HFf : Hid (∀ d, nodesT (build (L - 1) (restL (beginL l d) 1)) = ff d) := hid (fun d => congrFun hff d)
   rw [hff] at hx
   have HX := hid hx
   have HBb := hid (fun d wz hb => HBg.out hL0 d wz hb)
   have HRr := hid (fun d a' n' c' wz hI => HRs2.out hL0 d a' n' c' wz hI)
   have HI := hid (fun d a' n' c' wz hI => HIh2.out hL0 d a' n' c' wz hI)
   clear hx hk HD HRs HIh1 HBg HRs2 HIh2 hff
   have HXl : Hid (∀ j, j ≤ 16 → (E :: flatN ff j).length ≤ 65000) := hid (fun j hj => by
    have h1 := flatN_le ff (16 - j) j (by omega)
    have h2 := congrArg List.length HX.out
    simp only [List.length_cons] at h2 ⊢
    omega)
   go_wp2_with (first
    | (rw [← HW6.out]))
   go_loopw [5, 6] (fun v i wr => ∃ j : Nat, j ≤ 16 ∧ i = .int .i64 j ∧ Hid (wr.ownsRow w5.heap.size 9 1 v (E :: flatN ff j).length ((E :: flatN ff j).map Value.string)) ∧ Hid (Below w5.heap.size w5 wr)) (fun _ i _ => 16 - (intOf i).toNat)
   case atStart => exact ⟨0, Nat.zero_le _, rfl, HR6, HB56⟩
   case round =>
    obtain ⟨j, hj, rfl, HR, HB⟩ := hrel
    clear HR6
    have kr : wr.cell? ⟨g, 0, none⟩ = some (.int .i64 3) := by
     rw [HB.out.cell (p := ⟨g, 0, none⟩) hg5, ← HB56.out.cell (p := ⟨g, 0, none⟩) hg5]
     exact k06
    clear k06 k16 HB56
    have hsr := HB.out.size
    by_cases hlt : j < 16
    ·have HS := hid (flatN_step ff hlt)
     have hl1 := HXl.out (j + 1) (by omega)
     have HBw : Hid (Below w.heap.size w wr) := hid (bst HB5.out HB.out)
     have hji : (j : Int) < 16 := by omega
     rw [HS.out] at hl1
     go_wp2_with fail
     refine (HBb.out ⟨j, hlt⟩ wr HBw.out).mono ?_
     rintro e w7 ⟨a7, n7, c7, rfl, hI7, hb7⟩
     have HI7 := hid hI7
     have HB7 := hid hb7
     clear hI7 hb7
     go_wp2_with fail
     refine (HRr.out ⟨j, hlt⟩ a7 n7 c7 w7 HI7.out).mono ?_
     rintro e w8 ⟨a8, n8, c8, rfl, hI8, hb8⟩
     have HI8 := hid hI8
     have HB8 := hid (bst HB7.out hb8)
     clear hI8 hb8 HI7 HB7
     go_wp2_with fail
     refine (HI.out ⟨j, hlt⟩ a8 n8 c8 w8 HI8.out).mono ?_
     rintro e w9 ⟨v9, rfl, hR9, hb9⟩
     rw [HFf.out] at hR9
     have h69 := bst HB8.out hb9
     have HR9 := hid hR9
     have HS9 := hid (row_keep HR.out h69)
     have HB9 := hid (bst HB.out h69)
     have hsz := HB9.out.size
     have hyl : (E :: flatN ff j).length + (ff ⟨j, hlt⟩).length ≤ 1000000 := by
      simp only [List.length_cons, List.length_append] at hl1 ⊢
      omega
     clear hR9 hb9 h69 HI8 HB8
     go_wp2_with (first
      | (at_builtin; refine wpl_append_texts rfl _ _ rfl rfl rfl HS9.out HR9.out hyl hsz ?_))
     intro v' w10 h10 hg10 _
     have hlk := HS9.out.lt
     have HB10 : Hid (Below w5.heap.size w5 w10) := hid (HB9.out.grown hg10 hsz (fun k hk => (hlk k hk).1))
     have HR10 : Hid (w10.ownsRow w5.heap.size 9 1 v' (E :: flatN ff (j + 1)).length ((E :: flatN ff (j + 1)).map Value.string)) := hid (by rw [HS.out, List.length_cons, List.length_append, List.map_cons, List.map_append]; exact h10)
     clear h10 hg10
     go_wp2
     go_roundw
     case rel => exact ⟨j + 1, by omega, by go_num, HR10, HB10⟩
     case measure => simp [intOf]; omega
    ·obtain rfl : j = 16 := by omega
     have HE : Hid (GotS w xs (.returned _) wr) := hid ⟨_, rfl, by rw [HX.out]; exact owns_le HR.out hs5, bst HB5.out HB.out⟩
     go_wp2
     go_ret
     exact HE.out
theorem rnodes_any (L : Nat) : L ≤ 64 → NodesC L := by
 induction L using Nat.strongRecOn with
 | ind L ih => exact fun hL => rnodes_of hL fun m hm => ih m hm (by omega)
end Tm
end
end Go.Proofs.YtooklabipgmolaaGreatDoor
