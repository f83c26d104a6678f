/-
 Nodes as items, plain: the item of a node; what is read of it is the node; what a node was read of is its item.
-/
import Derived.Test.YtooklabipgmolaaGreatDoorMr8
import Derived.Test.YtooklabipgmolaaGreatDoorMr4
import Derived.Test.YtooklabipgmolaaGreatDoorMr13
import Derived.Test.YtooklabipgmolaaGreatDoorMr1
import Derived.Test.YtooklabipgmolaaGreatDoorMr15
import Derived.Test.YtooklabipgmolaaGreatDoorMr5
import Derived.Test.YtooklabipgmolaaGreatDoorMr3
import Derived.Deep.MidRow
import Derived.Test.YtooklabipgmolaaGreatDoorMr2
open Go.Lib (hid)
set_option linter.unusedSimpArgs false
set_option linter.unusedVariables false
set_option maxHeartbeats 40000000
set_option maxRecDepth 100000
namespace Go.Proofs.YtooklabipgmolaaGreatDoor
section
open Go.RowKit
namespace No
open Rl Ni
def refI (k : ByteArray) : It := if plainB k then .mk false k [] else match wholeL k.data.toList with
 | .ok x => x
 | .error _ => it0
abbrev pathI (n : Nd) : It := .mk false ⟨(packL n.p (decide (n.kd = 1))).toArray⟩ []
def itemsP (n : Nd) : List It := if n.kd = 3 then n.ks.map refI ++ [it0] else if n.kd = 1 then [pathI n, .mk false n.v []] else [pathI n, refI (n.ks.getD 0 eB)]
def itemP (n : Nd) : It := .mk true ⟨#[]⟩ (itemsP n)
def putP (n : Nd) : List UInt8 := (itemP n).bytes
theorem fits_by_len (x : It) : ∀ {d e : Nat}, Fits d x → e + x.bytes.length ≤ 65 → Fits e x := by
 induction x using It.ind with
 | h l s xs ih =>
  intro d e h he
  have hb := bytes_pos h (by omega)
  have hb1 := List.length_pos_iff.2 hb
  have hless : ∀ y ∈ xs, y.bytes.length < (It.mk l s xs).bytes.length := fun y hy => in_less h (by omega) hy
  cases h with
  | mk ha hs hx hy => exact .mk (by omega) hs hx (fun y hm => ih y hm (hy y hm) (by have := hless y hm; omega))
theorem sizes_le (xs : List It) (h : ∀ y ∈ xs, y.size ≤ y.bytes.length) : (xs.map It.size).sum ≤ ((xs.map It.bytes).flatten).length := by
 induction xs with
 | nil => exact Nat.le_refl _
 | cons y ys ih =>
  rw [List.map_cons, List.sum_cons, List.map_cons, List.flatten_cons, List.length_append]
  have h1 := h y (List.mem_cons_self ..)
  have h2 := ih (fun z hz => h z (List.mem_cons_of_mem _ hz))
  omega
theorem size_le_bytes (x : It) : ∀ {d : Nat}, Fits d x → x.bytes.length ≤ 4294967296 → x.size ≤ x.bytes.length := by
 induction x using It.ind with
 | h l s xs ih =>
  intro d h hb
  have hp := List.length_pos_iff.2 (bytes_pos h hb)
  have hless : ∀ y ∈ xs, y.bytes.length < (It.mk l s xs).bytes.length := fun y hy => in_less h hb hy
  have hle := sizes_le xs (fun y hy => ih y hy (fits_in h hy) (by have := hless y hy; omega))
  rw [It.size_mk]
  cases l with
  | true =>
   have h1 := bytes_len h hb rfl
   have h2 := headL_length (((It.mk true s xs).xs.map It.bytes).flatten).length true
   simp only [It.xs] at h1 h2
   omega
  | false =>
   cases h with
   | mk ha hs hx hy =>
    rw [hx rfl] at hp ⊢
    rw [List.map_nil, List.sum_nil]
    exact hp
theorem whole_bytes {x : It} (h : Fits 0 x) (hb : x.bytes.length ≤ 4294967296) (hk : x.size ≤ 4096) : wholeL x.bytes = .ok x := by
 have := forth x 0 0 [] h hb (by omega)
 rw [List.append_nil] at this
 unfold wholeL
 rw [this]
 dsimp only
 rw [if_neg (by omega)]
theorem text_fits (d : Nat) (hd : d ≤ 64) (s : ByteArray) : Fits d (.mk false s []) := .mk hd (fun e => by cases e) (fun _ => rfl) (fun y hy => by cases hy)
theorem text_len (s : ByteArray) (h : s.size ≤ 4294967296) : (It.mk false s []).bytes.length ≤ 9 + s.size := by
 rw [bytes_text s h, List.length_append, len_s]
 have := headL_le s.size false (by omega)
 split
 ·simp
 ·omega
theorem ref_list {k : ByteArray} (hp : plainB k = false) (h : refP k = true) : ∃ x n, wholeL k.data.toList = .ok x ∧ refI k = x ∧ x.l = true ∧ readP x.xs = some n ∧ k.size < 32 ∧ x.bytes = k.data.toList ∧ Fits 0 x ∧ mayW refP n = true := by
 unfold refP at h
 rw [hp, Bool.false_or, Bool.and_eq_true] at h
 have h32 : k.size < 32 := of_decide_eq_true h.1
 obtain ⟨n, hn⟩ := Option.isSome_iff_exists.1 h.2
 have hsl := len_s k
 obtain ⟨x, hw, hr, hm⟩ := getP_some (by omega) hn
 obtain ⟨g1, g2, g3⟩ := whole_back (by omega) hw
 refine ⟨x, n, hw, ?_, ?_, hr, h32, g1, g2, hm⟩
 ·unfold refI
  rw [hp, hw]
  rfl
 ·refine has_list g2 (fun e => ?_)
  rw [e] at hr
  cases hr
theorem refI_plain {k : ByteArray} (hp : plainB k = true) : refI k = .mk false k [] := by
 unfold refI
 rw [hp]
 rfl
theorem plain_size {k : ByteArray} (hp : plainB k = true) : k.size = 0 ∨ k.size = 32 := of_decide_eq_true hp
theorem refI_fits {k : ByteArray} (h : refP k = true) : Fits 1 (refI k) ∧ (refI k).bytes.length ≤ 41 := by
 cases hp : plainB k with
 | true =>
  rw [refI_plain hp]
  have := plain_size hp
  have h2 := text_len k (by omega)
  exact ⟨text_fits 1 (by omega) k, by omega⟩
 | false =>
  obtain ⟨x, n, hw, e, hl, hr, h32, hb, hf, _⟩ := ref_list hp h
  have hsl := len_s k
  rw [e]
  exact ⟨fits_by_len x hf (by rw [hb]; omega), by rw [hb]; omega⟩
theorem kidP_refI {k : ByteArray} (h : refP k = true) : kidP (refI k) = some k := by
 cases hp : plainB k with
 | true =>
  rw [refI_plain hp]
  show (if plainB k then some k else none) = some k
  rw [hp]
  rfl
 | false =>
  obtain ⟨x, n, hw, e, hl, hr, h32, hb, hf, _⟩ := ref_list hp h
  have hsl := len_s k
  rw [e]
  unfold kidP
  rw [hl, if_pos rfl, if_pos (by rw [hb]; omega), hb]
theorem flat_le (xs : List It) (m : Nat) (h : ∀ y ∈ xs, y.bytes.length ≤ m) : ((xs.map It.bytes).flatten).length ≤ xs.length * m := by
 induction xs with
 | nil => simp
 | cons y ys ih =>
  rw [List.map_cons, List.flatten_cons, List.length_append, List.length_cons, Nat.succ_mul]
  have h1 := h y (List.mem_cons_self ..)
  have h2 := ih (fun z hz => h z (List.mem_cons_of_mem _ hz))
  omega
theorem may_parts {n : Nd} (h : mayW refP n = true) : n.p.length ≤ 64 ∧ rightB n.p = true ∧ fitsW refP n = true := by
 unfold mayW at h
 rw [Bool.and_eq_true, Bool.and_eq_true] at h
 exact ⟨of_decide_eq_true h.1.1, h.1.2, h.2⟩
theorem kids_all {ks : List ByteArray} (h : (kidsL ks).all refP = true) : ∀ k ∈ ks, refP k = true := by
 intro k hk
 by_cases hz : k.size = 0
 ·unfold refP plainB
  simp [hz]
 ·exact List.all_eq_true.1 h k (List.mem_filter.2 ⟨hk, by simp; intro e; rw [e] at hz; exact hz rfl⟩)
theorem may_kinds {n : Nd} (_hl : n.ks.length = 16) (h : mayW refP n = true) :
  n.kd = 1 ∧ n.v.size ≠ 0 ∧ n.v.size ≤ 65552 ∧ (kidsL n.ks).length = 0 ∨ n.kd = 2 ∧ 0 < n.p.length ∧ n.v.size = 0 ∧ (kidsL n.ks).length = 1 ∧ (n.ks.getD 0 eB).size ≠ 0 ∧ refP (n.ks.getD 0 eB) = true ∨ n.kd = 3 ∧ n.p = [] ∧ n.v.size = 0 ∧ 2 ≤ (kidsL n.ks).length ∧ ∀ k ∈ n.ks, refP k = true := by
 obtain ⟨_, _, h⟩ := may_parts h
 unfold fitsW at h
 by_cases h1 : n.kd = 1
 ·rw [if_pos h1] at h
  simp only [Bool.and_eq_true, decide_eq_true_eq] at h
  exact .inl ⟨h1, h.1.1, h.1.2, h.2⟩
 ·rw [if_neg h1] at h
  by_cases h2 : n.kd = 2
  ·rw [if_pos h2] at h
   simp only [Bool.and_eq_true, decide_eq_true_eq] at h
   exact .inr (.inl ⟨h2, h.1.1.1.1, h.1.1.1.2, h.1.1.2, h.1.2, h.2⟩)
  ·rw [if_neg h2] at h
   by_cases h3 : n.kd = 3
   ·rw [if_pos h3] at h
    simp only [Bool.and_eq_true, decide_eq_true_eq] at h
    exact .inr (.inr ⟨h3, List.eq_nil_of_length_eq_zero h.1.1.1, h.1.1.2, h.1.2, kids_all h.2⟩)
   ·rw [if_neg h3] at h; cases h
theorem items_good {n : Nd} (hl : n.ks.length = 16) (h : mayW refP n = true) : ∀ y ∈ itemsP n, Fits 1 y ∧ y.bytes.length ≤ 65561 := by
 obtain ⟨g1, g2, g3⟩ := may_parts h
 have hpk : Fits 1 (pathI n) ∧ (pathI n).bytes.length ≤ 65561 := by
  have := packL_size n.p (decide (n.kd = 1))
  have h2 := text_len ⟨(packL n.p (decide (n.kd = 1))).toArray⟩ (by omega)
  exact ⟨text_fits 1 (by omega) _, Nat.le_trans h2 (by omega)⟩
 rcases may_kinds hl h with ⟨k1, v1, v2, _⟩ | ⟨k1, _, _, _, _, hr⟩ | ⟨k1, _, _, _, hr⟩
 ·unfold itemsP
  rw [if_neg (by omega), if_pos k1]
  intro y hy
  rcases List.mem_cons.1 hy with rfl | hy
  ·exact hpk
  ·rcases List.mem_cons.1 hy with rfl | hy
   ·have h2 := text_len n.v (by omega)
    exact ⟨text_fits 1 (by omega) _, by omega⟩
   ·cases hy
 ·unfold itemsP
  rw [if_neg (by omega), if_neg (by omega)]
  intro y hy
  rcases List.mem_cons.1 hy with rfl | hy
  ·exact hpk
  ·rcases List.mem_cons.1 hy with rfl | hy
   ·have := refI_fits hr
    exact ⟨this.1, by omega⟩
   ·cases hy
 ·unfold itemsP
  rw [if_pos k1]
  intro y hy
  rcases List.mem_append.1 hy with hy | hy
  ·obtain ⟨k, hk, rfl⟩ := List.mem_map.1 hy
   have := refI_fits (hr k hk)
   exact ⟨this.1, by omega⟩
  ·rcases List.mem_cons.1 hy with rfl | hy
   ·have h2 := text_len eB (by decide)
    refine ⟨text_fits 1 (by omega) _, ?_⟩
    have : eB.size = 0 := rfl
    show (It.mk false eB []).bytes.length ≤ _
    omega
   ·cases hy
theorem items_few {n : Nd} (hl : n.ks.length = 16) : (itemsP n).length ≤ 17 := by
 unfold itemsP
 split
 ·simp [hl]
 ·split <;> simp
theorem item_fits {n : Nd} (hl : n.ks.length = 16) (h : mayW refP n = true) : Fits 0 (itemP n) ∧ (itemP n).bytes.length ≤ 1200000 ∧ (itemP n).size ≤ 4096 ∧ (putP n).length = (itemP n).bytes.length := by
 have hg := items_good hl h
 have hf : Fits 0 (itemP n) := .mk (by omega) (fun _ => rfl) (fun e => by cases e) (fun y hy => (hg y hy).1)
 have hfew := items_few hl
 have hlen := flat_le (itemsP n) 65561 (fun y hy => (hg y hy).2)
 have hm : (itemsP n).length * 65561 ≤ 17 * 65561 := Nat.mul_le_mul_right _ hfew
 have hb : (itemP n).bytes.length ≤ 1200000 := by
  unfold itemP
  rw [bytes_list _ (by omega), List.length_append]
  have := headL_le ((itemsP n).map It.bytes).flatten.length true (by omega)
  omega
 refine ⟨hf, hb, ?_, rfl⟩
 unfold itemP
 rw [It.size_mk]
 have : ∀ y ∈ itemsP n, y.size ≤ 200 := by
  obtain ⟨g1, g2, g3⟩ := may_parts h
  rcases may_kinds hl h with ⟨k1, v1, v2, _⟩ | ⟨k1, _, _, _, _, hr⟩ | ⟨k1, _, _, _, hr⟩
  ·unfold itemsP
   rw [if_neg (by omega), if_pos k1]
   intro y hy
   rcases List.mem_cons.1 hy with rfl | hy
   ·rw [It.size_mk]; simp
   ·rcases List.mem_cons.1 hy with rfl | hy
    ·rw [It.size_mk]; simp
    ·cases hy
  ·unfold itemsP
   rw [if_neg (by omega), if_neg (by omega)]
   intro y hy
   rcases List.mem_cons.1 hy with rfl | hy
   ·rw [It.size_mk]; simp
   ·rcases List.mem_cons.1 hy with rfl | hy
    ·have := refI_fits hr
     have := size_le_bytes _ this.1 (by omega)
     omega
    ·cases hy
  ·unfold itemsP
   rw [if_pos k1]
   intro y hy
   rcases List.mem_append.1 hy with hy | hy
   ·obtain ⟨k, hk, rfl⟩ := List.mem_map.1 hy
    have := refI_fits (hr k hk)
    have := size_le_bytes _ this.1 (by omega)
    omega
   ·rcases List.mem_cons.1 hy with rfl | hy
    ·unfold it0; rw [It.size_mk]; simp
    ·cases hy
 have hs : ((itemsP n).map It.size).sum ≤ (itemsP n).length * 200 := by
  generalize itemsP n = l at this
  induction l with
  | nil => simp
  | cons y ys ih =>
   rw [List.map_cons, List.sum_cons, List.length_cons, Nat.succ_mul]
   have h1 := this y (List.mem_cons_self ..)
   have h2 := ih (fun z hz => this z (List.mem_cons_of_mem _ hz))
   omega
 have : (itemsP n).length * 200 ≤ 17 * 200 := Nat.mul_le_mul_right _ hfew
 omega
theorem kidsL_nil {ks : List ByteArray} (h : (kidsL ks).length = 0) : ks = List.replicate ks.length eB := by
 induction ks with
 | nil => rfl
 | cons k ks ih =>
  unfold kidsL at h
  rw [List.filter_cons] at h
  split at h
  ·cases h
  ·rename_i hz
   simp at hz
   rw [List.length_cons, List.replicate_succ, ← ih h]
   congr 1
theorem kids_one {ks : List ByteArray} (hl : ks.length = 16) (h : (kidsL ks).length = 1) (h0 : (ks.getD 0 eB).size ≠ 0) : ks = one16 (ks.getD 0 eB) := by
 cases ks with
 | nil => cases hl
 | cons k ks =>
  have h0' : k.size ≠ 0 := h0
  unfold kidsL at h
  rw [List.filter_cons, if_pos (by simp; intro e; rw [e] at h0'; exact h0' rfl), List.length_cons] at h
  have := kidsL_nil (ks := ks) (by unfold kidsL; omega)
  unfold one16
  rw [List.length_cons] at hl
  rw [show ks.length = 15 by omega] at this
  rw [this]
  rfl
theorem allK_map {ks : List ByteArray} (h : ∀ k ∈ ks, refP k = true) : allK (ks.map refI) = some ks := by
 induction ks with
 | nil => rfl
 | cons k ks ih =>
  rw [List.map_cons]
  unfold allK
  rw [kidP_refI (h k (List.mem_cons_self ..)), ih (fun z hz => h z (List.mem_cons_of_mem _ hz))]
theorem read_items {n : Nd} (hl : n.ks.length = 16) (h : mayW refP n = true) : readP (itemsP n) = some n := by
 obtain ⟨g1, g2, g3⟩ := may_parts h
 have hsz := packL_size n.p (decide (n.kd = 1))
 have hgood := pack_good n.p (decide (n.kd = 1)) g2 g1
 have hleaf := pack_leaf n.p (decide (n.kd = 1)) g2
 have hpath := pack_path n.p (decide (n.kd = 1)) g2
 obtain ⟨S, hS⟩ : ∃ S, (⟨(packL n.p (decide (n.kd = 1))).toArray⟩ : ByteArray) = S := ⟨_, rfl⟩
 have hpi : pathI n = .mk false S [] := by unfold pathI; rw [hS]
 rw [hS] at hsz hgood hleaf hpath
 rcases may_kinds hl h with ⟨k1, v1, v2, hk⟩ | ⟨k1, hp0, hv, hk, hk0, hr⟩ | ⟨k1, hp, hv, hk, hr⟩
 ·have hI : itemsP n = [.mk false S [], .mk false n.v []] := by unfold itemsP; rw [if_neg (by omega), if_pos k1, hpi]
  rw [hI]
  unfold readP
  rw [if_pos (by rfl)]
  show readPathP (.mk false S []) (.mk false n.v []) = some n
  unfold readPathP
  rw [if_neg (by
   rintro (e | e)
   ·have e' : S.size = 0 := e
    omega
   ·exact hgood e)]
  show (if leafB S = true then some (⟨1, pathL S, n.v, zks⟩ : Nd) else _) = some n
  rw [hleaf, hpath, k1, if_pos (by decide)]
  have := kidsL_nil hk
  rw [hl] at this
  cases n
  simp only at k1 this ⊢
  rw [k1, this]
  rfl
 ·have hI : itemsP n = [.mk false S [], refI (n.ks.getD 0 eB)] := by unfold itemsP; rw [if_neg (by omega), if_neg (by omega), hpi]
  rw [hI]
  unfold readP
  rw [if_pos (by rfl)]
  show readPathP (.mk false S []) (refI (n.ks.getD 0 eB)) = some n
  unfold readPathP
  rw [if_neg (by
   rintro (e | e)
   ·have e' : S.size = 0 := e
    omega
   ·exact hgood e)]
  show (if leafB S = true then _ else (kidP (refI (n.ks.getD 0 eB))).map fun k => (⟨2, pathL S, eB, one16 k⟩ : Nd)) = some n
  rw [hleaf, hpath, k1, if_neg (by decide), kidP_refI hr, Option.map_some, ← kids_one hl hk hk0]
  have hve := size_zero hv
  cases n
  simp only at k1 hve ⊢
  rw [k1, hve]
 ·have hI : itemsP n = n.ks.map refI ++ [it0] := by unfold itemsP; rw [if_pos k1]
  rw [hI]
  unfold readP
  have hlen : (n.ks.map refI ++ [it0]).length = 17 := by simp [hl]
  rw [if_neg (by omega), if_pos hlen]
  unfold readBranchP
  rw [List.take_append_of_le_length (by simp [hl]), List.take_of_length_le (by simp [hl]), allK_map hr]
  have e16 : (n.ks.map refI ++ [it0]).getD 16 it0 = it0 := by
   rw [List.getD_eq_getElem?_getD, List.getElem?_append_right (by simp [hl])]
   simp [hl]
  rw [e16]
  dsimp only
  rw [if_pos ⟨rfl, rfl⟩]
  have hve := size_zero hv
  cases n
  simp only at k1 hve hp ⊢
  rw [k1, hve, hp]
theorem get_put {n : Nd} (hl : n.ks.length = 16) (h : mayW refP n = true) : getP (putP n) = some n := by
 obtain ⟨f1, f2, f3, _⟩ := item_fits hl h
 unfold putP
 rw [getP_eq _ (by omega), whole_bytes f1 (by omega) f3]
 dsimp only
 rw [show (itemP n).xs = itemsP n from rfl, read_items hl h]
 dsimp only
 rw [h]
 rfl
end No
end
section
namespace Tr
open Rf Rl Ni No
def encN (n : Nd) : ByteArray := ⟨(putP n).toArray⟩
def kids16 (f : Fin 16 → ByteArray) : List ByteArray := (List.finRange 16).map f
def ref : T → ByteArray
 | .nil => eB
 | .leaf p v => ofP (encN ⟨1, p, v, zks⟩)
 | .ext q t => ofP (encN ⟨2, q, eB, one16 (ref t)⟩)
 | .br ks => ofP (encN ⟨3, [], eB, kids16 fun i => ref (ks i)⟩)
 | .stub r => r
def nodeT : T → Nd
 | .nil => nd0
 | .leaf p v => ⟨1, p, v, zks⟩
 | .ext q t => ⟨2, q, eB, one16 (ref t)⟩
 | .br ks => ⟨3, [], eB, kids16 fun i => ref (ks i)⟩
 | .stub _ => nd0
def encT : T → ByteArray
 | .nil => eB
 | .stub _ => eB
 | t => encN (nodeT t)
def IsStub : T → Prop
 | .stub _ => True
 | _ => False
theorem ref_enc {t : T} (h : ¬ IsStub t) : ref t = ofP (encT t) := by
 cases t with
 | stub r => exact absurd trivial h
 | nil => rfl
 | leaf p v => rfl
 | ext q t => rfl
 | br ks => rfl
theorem full_stub {t : T} (h : Full t) : ¬ IsStub t := by
 cases t with
 | stub r => exact h.elim
 | _ => exact id
theorem kids16_length (f : Fin 16 → ByteArray) : (kids16 f).length = 16 := by simp [kids16]
theorem nodeT_length (t : T) : (nodeT t).ks.length = 16 := by
 cases t with
 | nil => rfl
 | leaf p v => rfl
 | ext q t => exact one16_length _
 | br ks => exact kids16_length _
 | stub r => rfl
theorem right_of {p : Pa} (h : Nib p) : rightB p = true := by
 unfold rightB
 rw [List.all_eq_true]
 intro c hc
 have := h c hc
 exact decide_eq_true (by omega)
def Fine : T → Prop
 | .nil => True
 | .leaf _ v => v.size ≠ 0 ∧ v.size ≤ 65552
 | .ext _ t => Fine t
 | .br ks => ∀ i, Fine (ks i)
 | .stub r => refP r = true ∧ r.size ≠ 0
theorem encN_size (n : Nd) : (encN n).size = (putP n).length := by
 show (putP n).toArray.size = _
 simp
theorem encN_list (n : Nd) : (encN n).data.toList = putP n := by
 show (putP n).toArray.toList = _
 simp
theorem put_pos {n : Nd} (hl : n.ks.length = 16) (h : mayW refP n = true) : 0 < (putP n).length := by
 have := No.get_put hl h
 rcases Nat.eq_zero_or_pos (putP n).length with h0 | h0
 ·have := got_own (s := putP n) (by omega) this
  omega
 ·exact h0
theorem ref_may {n : Nd} (hl : n.ks.length = 16) (h : mayW refP n = true) : refP (ofP (encN n)) = true ∧ (ofP (encN n)).size ≠ 0 := by
 have hp := put_pos hl h
 have hs := encN_size n
 unfold ofP
 by_cases h32 : (encN n).size < 32
 ·rw [if_pos h32]
  refine ⟨?_, by omega⟩
  unfold refP
  rw [encN_list, No.get_put hl h, decide_eq_true h32]
  simp
 ·rw [if_neg h32]
  have hz : (⟨(sumB (encN n)).toArray⟩ : ByteArray).size = 32 := by
   have : (⟨(sumB (encN n)).toArray⟩ : ByteArray).size = (sumB (encN n)).length := by show (sumB (encN n)).toArray.size = _; simp
   rw [this, sumB_length]
  refine ⟨?_, by omega⟩
  unfold refP
  rw [show plainB _ = true from decide_eq_true (.inr hz)]
  rfl
theorem kidsL_zks : (kidsL zks).length = 0 := by decide +kernel
theorem kidsL_one {k : ByteArray} (h : k.size ≠ 0) : kidsL (one16 k) = [k] := by
 have hz : kidsL (List.replicate 15 eB) = [] := by decide +kernel
 have : kidsL (k :: List.replicate 15 eB) = k :: kidsL (List.replicate 15 eB) := by
  unfold kidsL
  rw [List.filter_cons_of_pos (by simpa using h)]
 show kidsL (k :: List.replicate 15 eB) = _
 rw [this, hz]
theorem kidsL_two {f : Fin 16 → ByteArray} {i j : Fin 16} (hij : i ≠ j) (hi : (f i).size ≠ 0) (hj : (f j).size ≠ 0) : 2 ≤ (kidsL (kids16 f)).length := by
 unfold kidsL kids16
 rw [List.filter_map, List.length_map]
 have hnd : ((List.finRange 16).filter ((fun k : ByteArray => decide (k.size ≠ 0)) ∘ f)).Nodup := (List.nodup_finRange 16).filter _
 have mi : i ∈ (List.finRange 16).filter ((fun k : ByteArray => decide (k.size ≠ 0)) ∘ f) := List.mem_filter.2 ⟨List.mem_finRange i, decide_eq_true hi⟩
 have mj : j ∈ (List.finRange 16).filter ((fun k : ByteArray => decide (k.size ≠ 0)) ∘ f) := List.mem_filter.2 ⟨List.mem_finRange j, decide_eq_true hj⟩
 match hk : (List.finRange 16).filter ((fun k : ByteArray => decide (k.size ≠ 0)) ∘ f) with
 | [] => rw [hk] at mi; cases mi
 | [a] =>
  rw [hk] at mi mj
  exact absurd ((List.mem_singleton.1 mi).trans (List.mem_singleton.1 mj).symm) hij
 | a :: b :: l => simp
theorem kidsL_all {f : Fin 16 → ByteArray} {R : ByteArray → Bool} (h : ∀ i, (f i).size ≠ 0 → R (f i) = true) : (kidsL (kids16 f)).all R = true := by
 rw [List.all_eq_true]
 intro k hk
 obtain ⟨h1, h2⟩ := List.mem_filter.1 hk
 obtain ⟨i, _, rfl⟩ := List.mem_map.1 h1
 exact h i (of_decide_eq_true h2)
theorem may_tree : ∀ (t : T) (L : Nat), Good t L → L ≤ 64 → Fine t → t ≠ .nil → (¬ IsStub t → mayW refP (nodeT t) = true) ∧ refP (ref t) = true ∧ (ref t).size ≠ 0
 | .nil, _, _, _, _, h => absurd rfl h
 | .leaf p v, L, g, hL, hf, _ => by
  have hm : mayW refP ⟨1, p, v, zks⟩ = true := by
   unfold mayW fitsW
   rw [decide_eq_true (show (⟨1, p, v, zks⟩ : Nd).p.length ≤ 64 from by show p.length ≤ 64; rw [g.1]; exact hL), right_of (show Nib (⟨1, p, v, zks⟩ : Nd).p from g.2), if_pos rfl,
    decide_eq_true (show (⟨1, p, v, zks⟩ : Nd).v.size ≠ 0 from hf.1), decide_eq_true (show (⟨1, p, v, zks⟩ : Nd).v.size ≤ 65552 from hf.2), decide_eq_true (show (kidsL (⟨1, p, v, zks⟩ : Nd).ks).length = 0 from kidsL_zks)]
   rfl
  exact ⟨fun _ => hm, ref_may rfl hm⟩
 | .ext q t, L, g, hL, hf, _ => by
  obtain ⟨g1, g2, g3, g4, g5⟩ := g
  obtain ⟨_, h2, h3⟩ := may_tree t _ g5 (by omega) hf (isBr_ne g4)
  have hm : mayW refP ⟨2, q, eB, one16 (ref t)⟩ = true := by
   unfold mayW fitsW
   rw [decide_eq_true (show (⟨2, q, eB, one16 (ref t)⟩ : Nd).p.length ≤ 64 from by show q.length ≤ 64; omega), right_of (show Nib (⟨2, q, eB, one16 (ref t)⟩ : Nd).p from g2), if_neg (show ¬ (⟨2, q, eB, one16 (ref t)⟩ : Nd).kd = 1 by show ¬ ((2 : Int) = 1); decide), if_pos rfl,
    decide_eq_true (show 0 < (⟨2, q, eB, one16 (ref t)⟩ : Nd).p.length from List.length_pos_iff.2 g1), decide_eq_true (show (⟨2, q, eB, one16 (ref t)⟩ : Nd).v.size = 0 from rfl),
    decide_eq_true (show (kidsL (⟨2, q, eB, one16 (ref t)⟩ : Nd).ks).length = 1 from by show (kidsL (one16 (ref t))).length = 1; rw [kidsL_one h3]; rfl),
    decide_eq_true (show ((⟨2, q, eB, one16 (ref t)⟩ : Nd).ks.getD 0 eB).size ≠ 0 from h3), show refP ((⟨2, q, eB, one16 (ref t)⟩ : Nd).ks.getD 0 eB) = true from h2]
   rfl
  exact ⟨fun _ => hm, ref_may (one16_length _) hm⟩
 | .br ks, L, g, hL, hf, _ => by
  obtain ⟨g1, ⟨i, j, hij, hi, hj⟩, g3⟩ := g
  have hk : ∀ i, (ref (ks i)).size ≠ 0 → refP (ref (ks i)) = true := fun i h => by
   refine (may_tree (ks i) _ (g3 i) (by omega) (hf i) (fun e => h ?_)).2.1
   rw [e]; rfl
  have hm : mayW refP ⟨3, [], eB, kids16 fun i => ref (ks i)⟩ = true := by
   unfold mayW fitsW
   rw [decide_eq_true (show (⟨3, [], eB, kids16 fun i => ref (ks i)⟩ : Nd).p.length ≤ 64 from Nat.zero_le _), right_of (show Nib (⟨3, [], eB, kids16 fun i => ref (ks i)⟩ : Nd).p from .nil), if_neg (show ¬ (⟨3, [], eB, kids16 fun i => ref (ks i)⟩ : Nd).kd = 1 by show ¬ ((3 : Int) = 1); decide), if_neg (show ¬ (⟨3, [], eB, kids16 fun i => ref (ks i)⟩ : Nd).kd = 2 by show ¬ ((3 : Int) = 2); decide), if_pos rfl,
    decide_eq_true (show (⟨3, [], eB, kids16 fun i => ref (ks i)⟩ : Nd).p.length = 0 from rfl), decide_eq_true (show (⟨3, [], eB, kids16 fun i => ref (ks i)⟩ : Nd).v.size = 0 from rfl),
    decide_eq_true (show 2 ≤ (kidsL (⟨3, [], eB, kids16 fun i => ref (ks i)⟩ : Nd).ks).length from kidsL_two (f := fun i => ref (ks i)) hij (may_tree (ks i) _ (g3 i) (by omega) (hf i) hi).2.2 (may_tree (ks j) _ (g3 j) (by omega) (hf j) hj).2.2),
    show (kidsL (⟨3, [], eB, kids16 fun i => ref (ks i)⟩ : Nd).ks).all refP = true from kidsL_all hk]
   rfl
  exact ⟨fun _ => hm, ref_may (kids16_length _) hm⟩
 | .stub r, _, _, _, hf, _ => ⟨fun h => absurd trivial h, hf⟩
theorem fine_wrap {s : Pa} {t : T} (h : Fine t) : Fine (wrap s t) := by
 unfold wrap
 split
 ·exact h
 ·exact h
theorem fine_two {i j : Fin 16} {a b : T} (ha : Fine a) (hb : Fine b) : Fine (two i j a b) := fun k => by
 dsimp only
 split
 ·exact ha
 ·split
  ·exact hb
  ·trivial
theorem fine_put : ∀ (t : T), Fine t → ∀ (p : Pa) (v : ByteArray), v.size ≠ 0 → v.size ≤ 65552 → Fine (put t p v)
 | .nil, _, _, v, h1, h2 => ⟨h1, h2⟩
 | .leaf q u, f, p, v, h1, h2 => by
  unfold put
  split
  ·exact ⟨h1, h2⟩
  ·unfold fork; exact fine_wrap (fine_two f ⟨h1, h2⟩)
 | .ext q t, f, p, v, h1, h2 => by
  unfold put
  split
  ·exact fine_put t f _ v h1 h2
  ·unfold fork; exact fine_wrap (fine_two (fine_wrap f) ⟨h1, h2⟩)
 | .br ks, f, p, v, h1, h2 => by
  cases p with
  | nil => exact f
  | cons c r =>
   intro k
   dsimp only
   split
   ·exact fine_put (ks k) (f k) r v h1 h2
   ·exact f k
 | .stub _, f, _, _, _, _ => f
theorem fine_build : ∀ (L : Nat) (l : List In), (∀ x ∈ l, x.2.size ≠ 0 ∧ x.2.size ≤ 65552) → Fine (build L l) := by
 intro L
 induction L using Nat.strongRecOn with
 | ind L ih =>
  intro l h
  have hr : ∀ (m : List In) (n : Nat), (∀ x ∈ m, x.2.size ≠ 0 ∧ x.2.size ≤ 65552) → ∀ x ∈ restL m n, x.2.size ≠ 0 ∧ x.2.size ≤ 65552 := fun m n hm x hx => by
   obtain ⟨y, hy, rfl⟩ := List.mem_map.1 hx
   exact hm y hy
  match l with
  | [] => rw [build]; trivial
  | [x] => rw [build]; exact h x (by simp)
  | x :: y :: r =>
   rw [build]
   split
   ·exact ih _ (by omega) _ (hr _ _ h)
   ·split
    ·exact fun c => ih _ (by omega) _ (hr _ _ (fun z hz => h z (mem_begin.1 hz).1))
    ·trivial
end Tr
end
section
namespace Tr
open Rf Rl Ni No
abbrev Key := List UInt8
abbrev Pair := Key × ByteArray
def path (k : Key) : Pa := nibsL ⟨k.toArray⟩
theorem path_length (k : Key) : (path k).length = 2 * k.length := by
 unfold path
 rw [nibsL_length]
 rfl
theorem nib_of_right {p : Pa} (h : rightB p = true) : Nib p := fun c hc => by
 unfold rightB at h
 have := of_decide_eq_true (List.all_eq_true.1 h c hc)
 omega
theorem path_nib (k : Key) : Nib (path k) := nib_of_right (nibsL_right _)
theorem path_inj {k k' : Key} (hl : k.length = k'.length) (h : path k = path k') : k = k' := by
 have h1 := pairs_nibs ⟨k.toArray⟩
 have h2 := pairs_nibs ⟨k'.toArray⟩
 have e1 : (⟨k.toArray⟩ : ByteArray).size = k.length := by show k.toArray.size = _; simp
 have e2 : (⟨k'.toArray⟩ : ByteArray).size = k'.length := by show k'.toArray.size = _; simp
 rw [e1] at h1
 rw [e2] at h2
 unfold path at h
 rw [h, hl, h2] at h1
 simpa using h1.symm
theorem path_key {p : Pa} (hp : p.length = 64) (hn : Nib p) : ∃ k : Key, k.length = 32 ∧ path k = p := by
 refine ⟨pairsK p 32, pairsK_length _ _, ?_⟩
 exact nibs_pairs p (right_of hn) 32 (by omega)
structure Has (t : T) (m : Key → Option ByteArray) : Prop where
 good : Good t 64
 full : Full t
 fine : Fine t
 get : ∀ k : Key, k.length = 32 → get t (path k) = some (m k)
theorem Has.nil : Has .nil (fun _ => none) := ⟨trivial, trivial, trivial, fun _ _ => rfl⟩
theorem Has.put {t : T} {m : Key → Option ByteArray} (h : Has t m) {k : Key} (hk : k.length = 32) {v : ByteArray} (h1 : v.size ≠ 0) (h2 : v.size ≤ 65552) : Has (put t (path k) v) (fun x => if x = k then some v else m x) := by
 have hl : (path k).length = 64 := by rw [path_length]; omega
 refine ⟨good_put t 64 h.good _ v hl (path_nib k), full_put t h.full _ v, fine_put t h.fine _ v h1 h2, fun x hx => ?_⟩
 rw [Tr.get_put t 64 h.good _ v hl (path_nib k) (by rw [h.get k hk]; intro e; cases e) (path x) (by rw [path_length]; omega) (path_nib x), h.get x hx]
 by_cases e : x = k
 ·subst e; rw [if_pos rfl, if_pos rfl]
 ·rw [if_neg e, if_neg (fun h => e (path_inj (by omega) h))]
theorem Has.congr {t : T} {m m' : Key → Option ByteArray} (h : Has t m) (e : ∀ k : Key, k.length = 32 → m k = m' k) : Has t m' := ⟨h.good, h.full, h.fine, fun k hk => by rw [h.get k hk, e k hk]⟩
theorem Has.one {t t' : T} {m : Key → Option ByteArray} (h : Has t m) (g : Has t' m) : t = t' :=
 uniq t t' 64 h.good h.full g.good g.full (fun p h1 h2 => by
  obtain ⟨k, hk, rfl⟩ := path_key h1 h2
  rw [h.get k hk, g.get k hk])
def insL : List Pair → List In
 | [] => []
 | x :: r => if r.any (fun y => decide (y.1 = x.1)) then insL r else (path x.1, x.2) :: insL r
def lastL : List Pair → Key → Option ByteArray
 | [], _ => none
 | x :: r, k => match lastL r k with
  | some v => some v
  | none => if x.1 = k then some x.2 else none
theorem last_none : ∀ {l : List Pair} {k : Key}, lastL l k = none ↔ ∀ x ∈ l, x.1 ≠ k
 | [], _ => by simp [lastL]
 | x :: r, k => by
  unfold lastL
  cases h : lastL r k with
  | some v =>
   have h2 : ¬ ∀ x ∈ r, x.1 ≠ k := fun g => by rw [last_none.2 g] at h; cases h
   constructor
   ·intro e; cases e
   ·intro g; exact absurd (fun y hy => g y (List.mem_cons_of_mem _ hy)) h2
  | none =>
   have h2 := last_none.1 h
   constructor
   ·intro g y hy
    rcases List.mem_cons.1 hy with rfl | hy
    ·intro e; simp [e] at g
    ·exact h2 y hy
   ·intro g
    have := g x List.mem_cons_self
    simp [this]
theorem mem_ins : ∀ {l : List Pair} {y : In}, y ∈ insL l → ∃ x ∈ l, y = (path x.1, x.2)
 | [], _, h => by cases h
 | x :: r, y, h => by
  unfold insL at h
  split at h
  ·obtain ⟨z, hz, e⟩ := mem_ins h
   exact ⟨z, List.mem_cons_of_mem _ hz, e⟩
  ·rcases List.mem_cons.1 h with rfl | h
   ·exact ⟨x, List.mem_cons_self, rfl⟩
   ·obtain ⟨z, hz, e⟩ := mem_ins h
    exact ⟨z, List.mem_cons_of_mem _ hz, e⟩
theorem ok_ins : ∀ {l : List Pair}, (∀ x ∈ l, x.1.length = 32) → Ok 64 (insL l)
 | [], _ => ⟨fun _ h => (by cases h), List.Pairwise.nil⟩
 | x :: r, h => by
  have ih := ok_ins (l := r) (fun y hy => h y (List.mem_cons_of_mem _ hy))
  have hx := h x List.mem_cons_self
  unfold insL
  split
  ·exact ih
  ·rename_i hn
   refine ⟨fun y hy => ?_, List.pairwise_cons.2 ⟨fun y hy => ?_, ih.2⟩⟩
   ·rcases List.mem_cons.1 hy with rfl | hy
    ·exact ⟨by rw [path_length]; omega, path_nib _⟩
    ·exact ih.1 y hy
   ·obtain ⟨z, hz, rfl⟩ := mem_ins hy
    intro e
    have := path_inj (by rw [hx, h z (List.mem_cons_of_mem _ hz)]) e
    apply hn
    rw [List.any_eq_true]
    exact ⟨z, hz, by simpa using this.symm⟩
theorem find_ins : ∀ {l : List Pair}, (∀ x ∈ l, x.1.length = 32) → ∀ k : Key, k.length = 32 → findL (insL l) (path k) = lastL l k
 | [], _, k, _ => rfl
 | x :: r, h, k, hk => by
  have hr : ∀ y ∈ r, y.1.length = 32 := fun y hy => h y (List.mem_cons_of_mem _ hy)
  have ih := find_ins hr k hk
  have hx := h x List.mem_cons_self
  unfold insL lastL
  by_cases e : x.1 = k
  ·by_cases hn : r.any (fun y => decide (y.1 = x.1)) = true
   ·rw [if_pos hn, ih]
    cases hl : lastL r k with
    | some v => rfl
    | none =>
     exfalso
     obtain ⟨z, hz, ez⟩ := List.any_eq_true.1 hn
     exact last_none.1 hl z hz (by rw [← e]; simpa using ez)
   ·rw [if_neg hn]
    have hl : lastL r k = none := last_none.2 (fun y hy e2 => hn (List.any_eq_true.2 ⟨y, hy, by simp [e2, e]⟩))
    rw [hl]
    simp [findL, e]
  ·have hp : ¬ path x.1 = path k := fun h => e (path_inj (by omega) h)
   have hs : (match lastL r k with | some v => some v | none => if x.1 = k then some x.2 else none) = lastL r k := by
    cases lastL r k with
    | some v => rfl
    | none => simp [e]
   rw [hs, ← ih]
   split
   ·rfl
   ·simp [findL, hp]
theorem fine_ins {l : List Pair} (h : ∀ x ∈ l, x.2.size ≠ 0 ∧ x.2.size ≤ 65552) : ∀ x ∈ insL l, x.2.size ≠ 0 ∧ x.2.size ≤ 65552 := fun y hy => by
 obtain ⟨x, hx, rfl⟩ := mem_ins hy
 exact h x hx
theorem has_build {l : List Pair} (h : ∀ x ∈ l, x.1.length = 32) (hv : ∀ x ∈ l, x.2.size ≠ 0 ∧ x.2.size ≤ 65552) : Has (build 64 (insL l)) (lastL l) :=
 ⟨good_build 64 _ (ok_ins h), build_full 64 _, fine_build 64 _ (fine_ins hv), fun k hk => by
  rw [get_build 64 _ (ok_ins h) (path k) (by rw [path_length]; omega) (path_nib k), find_ins h k hk]⟩
theorem Has.built {t : T} {l : List Pair} (g : Has t (lastL l)) (h : ∀ x ∈ l, x.1.length = 32) (hv : ∀ x ∈ l, x.2.size ≠ 0 ∧ x.2.size ≤ 65552) : t = build 64 (insL l) := g.one (has_build h hv)
theorem last_snoc : ∀ (l : List Pair) (x : Pair) (k : Key), lastL (l ++ [x]) k = if k = x.1 then some x.2 else lastL l k
 | [], x, k => by
  by_cases e : k = x.1
  ·simp [lastL, e]
  ·have : ¬ x.1 = k := fun h => e h.symm
   simp [lastL, e, this]
 | y :: l, x, k => by
  show lastL (y :: (l ++ [x])) k = _
  have e1 : lastL (y :: (l ++ [x])) k = match lastL (l ++ [x]) k with
   | some v => some v
   | none => if y.1 = k then some y.2 else none := rfl
  rw [e1, last_snoc l x k]
  by_cases e : k = x.1
  ·rw [if_pos e, if_pos e]
  ·rw [if_neg e, if_neg e]
   rfl
def putAll (t : T) (l : List Pair) : T := l.foldl (fun t x => put t (path x.1) x.2) t
theorem putAll_snoc (t : T) (l : List Pair) (x : Pair) : putAll t (l ++ [x]) = put (putAll t l) (path x.1) x.2 := by
 unfold putAll
 rw [List.foldl_append]
 rfl
theorem has_all : ∀ (n : Nat) (l : List Pair), l.length = n → (∀ x ∈ l, x.1.length = 32) → (∀ x ∈ l, x.2.size ≠ 0 ∧ x.2.size ≤ 65552) → Has (putAll .nil l) (lastL l)
 | 0, l, hl, _, _ => by
  obtain rfl := List.eq_nil_of_length_eq_zero hl
  exact Has.nil
 | n + 1, l, hl, h, hv => by
  have hne : l ≠ [] := fun e => by rw [e] at hl; cases hl
  obtain ⟨r, x, rfl⟩ : ∃ r x, l = r ++ [x] := ⟨l.dropLast, l.getLast hne, (List.dropLast_concat_getLast hne).symm⟩
  rw [List.length_append, List.length_singleton] at hl
  have ih := has_all n r (by omega) (fun y hy => h y (List.mem_append_left _ hy)) (fun y hy => hv y (List.mem_append_left _ hy))
  have hx := h x (by simp)
  have hvx := hv x (by simp)
  rw [putAll_snoc]
  exact (ih.put hx hvx.1 hvx.2).congr (fun k _ => (last_snoc r x k).symm)
end Tr
end
section
namespace Tr
open Rf Rl Ni No
def kidsT : T → List T
 | .ext _ t => [t]
 | .br ks => (kidsOf ks).map ks
 | _ => []
def fillT (refs : List ByteArray) (ts : List T) (i : Fin 16) : T := if (refs.getD i.val eB).size = 0 then .nil else ts.getD (kidsL (refs.take i.val)).length .nil
def makeT (n : Nd) (ts : List T) : T := if n.kd = 1 then .leaf n.p n.v else if n.kd = 2 then .ext n.p (ts.getD 0 .nil) else .br (fillT n.ks ts)
theorem ref_size {t : T} {L : Nat} (g : Good t L) (hL : L ≤ 64) (f : Fine t) : (ref t).size ≠ 0 ↔ t ≠ .nil := by
 constructor
 ·rintro h rfl; exact h rfl
 ·intro h; exact (may_tree t L g hL f h).2.2
theorem kids16_getD (f : Fin 16 → ByteArray) (i : Fin 16) : (kids16 f).getD i.val eB = f i := by
 have hi := i.isLt
 unfold kids16
 rw [List.getD_eq_getElem?_getD, List.getElem?_map, List.getElem?_eq_getElem (by simp)]
 simp
theorem kids16_take (f : Fin 16 → ByteArray) (n : Nat) : (kids16 f).take n = ((List.finRange 16).take n).map f := by
 unfold kids16
 rw [List.map_take]
def rank (ks : Fin 16 → T) (i : Fin 16) : Nat := (((List.finRange 16).take i.val).filter fun j => !isNil (ks j)).length
theorem kidsL_kids {ks : Fin 16 → T} (h : ∀ i, (ref (ks i)).size ≠ 0 ↔ ks i ≠ .nil) (l : List (Fin 16)) : kidsL (l.map fun i => ref (ks i)) = (l.filter fun j => !isNil (ks j)).map fun i => ref (ks i) := by
 unfold kidsL
 rw [List.filter_map]
 congr 1
 apply List.filter_congr
 intro i _
 show decide ((ref (ks i)).size ≠ 0) = !isNil (ks i)
 cases hi : isNil (ks i) with
 | true =>
  have := isNil_iff.1 hi
  rw [decide_eq_false (fun g => (h i).1 g this)]
  rfl
 | false =>
  rw [decide_eq_true ((h i).2 (fun e => by rw [isNil_iff.2 e] at hi; cases hi))]
  rfl
theorem kids_refs {t : T} {L : Nat} (g : Good t L) (hL : L ≤ 64) (f : Fine t) : kidsL (nodeT t).ks = (kidsT t).map ref := by
 cases t with
 | nil => decide +kernel
 | leaf p v => exact List.eq_nil_of_length_eq_zero kidsL_zks
 | ext q t =>
  obtain ⟨_, _, _, g4, g5⟩ := g
  exact kidsL_one ((ref_size g5 (by omega) f).2 (isBr_ne g4))
 | br ks =>
  have h : ∀ i, (ref (ks i)).size ≠ 0 ↔ ks i ≠ .nil := fun i => ref_size (g.2.2 i) (by omega) (f i)
  show kidsL (kids16 fun i => ref (ks i)) = ((kidsOf ks).map ks).map ref
  unfold kids16
  rw [kidsL_kids h, List.map_map]
  rfl
 | stub r => exact List.eq_nil_of_length_eq_zero kidsL_zks
theorem filter_at {α : Type} (P : α → Bool) (l : List α) (i : Nat) (hi : i < l.length) (hp : P l[i] = true) : (l.filter P)[((l.take i).filter P).length]? = some l[i] := by
 have h : l = l.take i ++ l[i] :: l.drop (i + 1) := by
  rw [List.getElem_cons_drop, List.take_append_drop]
 have h2 : l.filter P = (l.take i).filter P ++ l[i] :: (l.drop (i + 1)).filter P := by
  conv => lhs; rw [h]
  rw [List.filter_append, List.filter_cons_of_pos hp]
 rw [h2, List.getElem?_append_right (Nat.le_refl _), Nat.sub_self]
 rfl
theorem kids_rank {ks : Fin 16 → T} {i : Fin 16} (h : ks i ≠ .nil) : (kidsOf ks)[rank ks i]? = some i := by
 have h1 : (List.finRange 16)[i.val]'(by simp) = i := by simp
 have h2 := filter_at (fun j => !isNil (ks j)) (List.finRange 16) i.val (by simp) (by
  rw [h1]
  cases hi : isNil (ks i) with
  | false => rfl
  | true => exact absurd (isNil_iff.1 hi) h)
 rw [h1] at h2
 exact h2
theorem fill_rank {ks : Fin 16 → T} (h : ∀ i, (ref (ks i)).size ≠ 0 ↔ ks i ≠ .nil) (ts : List T) (i : Fin 16) : fillT (kids16 fun i => ref (ks i)) ts i = if isNil (ks i) then .nil else ts.getD (rank ks i) .nil := by
 unfold fillT
 rw [kids16_getD, kids16_take, kidsL_kids h, List.length_map]
 by_cases hn : ks i = .nil
 ·have h1 : (ref (ks i)).size = 0 := Classical.byContradiction fun g => (h i).1 g hn
  rw [if_pos h1, if_pos (isNil_iff.2 hn)]
 ·rw [if_neg ((h i).2 hn), if_neg (fun g => hn (isNil_iff.1 g))]
  rfl
theorem make_open {t : T} {L : Nat} (g : Good t L) (hL : L ≤ 64) (f : Fine t) (hn : t ≠ .nil) (hs : ¬ IsStub t) : makeT (nodeT t) (kidsT t) = t := by
 cases t with
 | nil => exact absurd rfl hn
 | leaf p v => rfl
 | ext q t => rfl
 | br ks =>
  have h : ∀ i, (ref (ks i)).size ≠ 0 ↔ ks i ≠ .nil := fun i => ref_size (g.2.2 i) (by omega) (f i)
  show T.br (fillT (kids16 fun i => ref (ks i)) ((kidsOf ks).map ks)) = .br ks
  congr 1
  funext i
  rw [fill_rank h]
  cases hi : isNil (ks i) with
  | true => rw [if_pos rfl]; exact (isNil_iff.1 hi).symm
  | false =>
   have hne : ks i ≠ .nil := fun e => by rw [isNil_iff.2 e] at hi; cases hi
   rw [if_neg (by decide), List.getD_eq_getElem?_getD, List.getElem?_map, kids_rank hne]
   rfl
 | stub r => exact absurd trivial hs
end Tr
end
section
namespace Tr
open Rf Rl Ni No
def nodesT : T → List ByteArray
 | .nil => []
 | .leaf p v => [encT (.leaf p v)]
 | .ext q t => encT (.ext q t) :: nodesT t
 | .br ks => encT (.br ks) :: ((List.finRange 16).map fun i => nodesT (ks i)).flatten
 | .stub _ => []
end Tr
end
section
open Go.RowKit
namespace Tm
open Tr
structure Mp where
 at_ : Nat → Option T
 ft : Nat → Prop
def IsT (M : Mp) (p : Option Addr) (t : T) : Prop := match p with
 | none => t = .nil
 | some ad => ∃ b, ad = ⟨b, 0, none⟩ ∧ M.at_ b = some t ∧ t ≠ .nil
def kindT : T → Int
 | .nil => 0
 | .leaf _ _ => 1
 | .ext _ _ => 2
 | .br _ => 3
 | .stub _ => -1
def pathT : T → Pa
 | .leaf p _ => p
 | .ext q _ => q
 | _ => []
def valT : T → ByteArray
 | .leaf _ v => v
 | _ => eB
def partsT : T → List T
 | .ext _ t => [t]
 | .br ks => (List.finRange 16).map ks
 | _ => []
def memo0 : T → ByteArray
 | .stub r => r
 | _ => eB
def Bs (M : Mp) (w : World) (a : Option Addr) (n c : Nat) (l : List UInt8) : Prop := IsBs w a n c l ∧ ∀ ad, a = some ad → 0 < n → M.ft ad.block
def Ks (M : Mp) (w : World) (a : Option Addr) (n c : Nat) (l : List T) : Prop :=
 n ≤ c ∧ c ≤ maxLen ∧ l.length = n ∧ (a = none → c = 0) ∧ ∀ j, j < n → ∃ b off p, a = some ⟨b, off, none⟩ ∧ b < w.heap.size ∧ M.ft b ∧ w.cell? ⟨b, off + j, none⟩ = some (.pointer p) ∧ IsT M p (l.getD j .nil)
def partC (t : T) (a : Option Addr) (n c : Nat) (ka : Option Addr) (kn kc : Nat) (d : Int) (r : ByteArray) : Array Value :=
 #[.int .i64 (kindT t), .slice a n c, .string (valT t), .slice ka kn kc, .int .u32 d, .int .i32 0, .int .u32 0, .string r]
def IsPart (M : Mp) (w : World) (b : Nat) (t : T) : Prop :=
 ∃ a n c ka kn kc d r, w.heap[b]? = some (.cells (partC t a n c ka kn kc d r) 106 (0, 0)) ∧ Bs M w a n c (pathT t) ∧ Ks M w ka kn kc (partsT t) ∧ (d = 0 ∧ r = memo0 t ∨ d = 1 ∧ ¬ IsStub t ∧ r = ref t)
structure Inv (M : Mp) (w : World) : Prop where
 lt_ : ∀ k, M.ft k → k < w.heap.size
 part_ : ∀ b t, M.at_ b = some t → t ≠ .nil ∧ M.ft b ∧ IsPart M w b t
def HasByte (w : World) (k : Nat) : Prop := ∃ j x, w.cell? ⟨k, j, none⟩ = some (.int .u8 x)
structure Fr (M M' : Mp) (w w' : World) : Prop where
 os : w'.os = w.os
 tape : w'.tape = w.tape
 output : w'.output = w.output
 size : w.heap.size ≤ w'.heap.size
 block : ∀ k, k < w.heap.size → M.at_ k = none → w'.heap[k]? = w.heap[k]?
 mono : ∀ k t, M.at_ k = some t → M'.at_ k = some t
 fresh : ∀ k, k < w.heap.size → M.at_ k = none → M'.at_ k = none
 grow : ∀ k, M.ft k → M'.ft k
 foot : ∀ k, M'.ft k → M.ft k ∨ w.heap.size ≤ k ∨ HasByte w k
def M0 : Mp := ⟨fun _ => none, fun _ => False⟩
theorem IsT.mono {M M' : Mp} {p : Option Addr} {t : T} (h : IsT M p t) (hm : ∀ k t, M.at_ k = some t → M'.at_ k = some t) : IsT M' p t := by
 cases p with
 | none => exact h
 | some ad =>
  obtain ⟨b, e, h1, h2⟩ := h
  exact ⟨b, e, hm _ _ h1, h2⟩
theorem IsT.nil_iff {M : Mp} {p : Option Addr} {t : T} (h : IsT M p t) : p = none ↔ t = .nil := by
 cases p with
 | none => exact ⟨fun _ => h, fun _ => rfl⟩
 | some ad =>
  obtain ⟨b, _, _, hn⟩ := h
  exact ⟨fun e => (by cases e), fun e => absurd e hn⟩
theorem IsT.at_ {M : Mp} {p : Option Addr} {t : T} (h : IsT M p t) (hn : t ≠ .nil) : ∃ b, p = some ⟨b, 0, none⟩ ∧ M.at_ b = some t := by
 cases p with
 | none => exact absurd h hn
 | some ad =>
  obtain ⟨b, e, hm, _⟩ := h
  exact ⟨b, by rw [e], hm⟩
theorem IsT.zero (M : Mp) : IsT M none .nil := rfl
theorem Ks.nil (M : Mp) (w : World) : Ks M w none 0 0 [] := ⟨Nat.le_refl _, Nat.zero_le _, rfl, fun _ => rfl, fun _ h => absurd h (Nat.not_lt_zero _)⟩
theorem Ks.len {M : Mp} {w : World} {a : Option Addr} {n c : Nat} {l : List T} (h : Ks M w a n c l) : l.length = n := h.2.2.1
theorem Ks.at' {M : Mp} {w : World} {a : Option Addr} {n c : Nat} {l : List T} (h : Ks M w a n c l) (j : Nat) (hj : j < n) : ∃ b off p, a = some ⟨b, off, none⟩ ∧ b < w.heap.size ∧ M.ft b ∧ w.cell? ⟨b, off + j, none⟩ = some (.pointer p) ∧ IsT M p (l.getD j .nil) := h.2.2.2.2 j hj
theorem Inv.part {M : Mp} {w : World} (h : Inv M w) {b : Nat} {t : T} (hm : M.at_ b = some t) : IsPart M w b t := (h.part_ b t hm).2.2
theorem Inv.lt {M : Mp} {w : World} (h : Inv M w) {b : Nat} {t : T} (hm : M.at_ b = some t) : b < w.heap.size := h.lt_ b (h.part_ b t hm).2.1
theorem Inv.zero (w : World) : Inv M0 w := ⟨fun _ h => h.elim, fun _ _ h => by cases h⟩
theorem part_no {t : T} {a : Option Addr} {n c : Nat} {ka : Option Addr} {kn kc : Nat} {d : Int} {r : ByteArray} {j : Nat} {v : Value} (h : (partC t a n c ka kn kc d r)[j]? = some v) : (∀ x, v ≠ .int .u8 x) ∧ ∀ p, v ≠ .pointer p := by
 unfold partC at h
 match j, h with
 | 0, h | 1, h | 2, h | 3, h | 4, h | 5, h | 6, h | 7, h =>
  simp at h
  subst h
  exact ⟨fun x e => (by cases e), fun p e => (by cases e)⟩
 | j + 8, h => simp at h
theorem cell_heap {w : World} {b j : Nat} {cs : Array Value} {t : TypeId} {f : Nat × Nat} {v : Value} (h : w.heap[b]? = some (.cells cs t f)) (hc : w.cell? ⟨b, j, none⟩ = some v) : cs[j]? = some v := by
 rw [World.cell?, h] at hc
 simpa using hc
theorem Inv.no_byte {M : Mp} {w : World} (hi : Inv M w) {b j : Nat} {x : Int} (hc : w.cell? ⟨b, j, none⟩ = some (.int .u8 x)) : M.at_ b = none := by
 cases hm : M.at_ b with
 | none => rfl
 | some t =>
  obtain ⟨_, _, _, _, _, _, _, _, hb, _⟩ := hi.part hm
  exact absurd rfl ((part_no (cell_heap hb hc)).1 x)
theorem Inv.no_ptr {M : Mp} {w : World} (hi : Inv M w) {b j : Nat} {p : Option Addr} (hc : w.cell? ⟨b, j, none⟩ = some (.pointer p)) : M.at_ b = none := by
 cases hm : M.at_ b with
 | none => rfl
 | some t =>
  obtain ⟨_, _, _, _, _, _, _, _, hb, _⟩ := hi.part hm
  exact absurd rfl ((part_no (cell_heap hb hc)).2 p)
theorem Fr.refl (M : Mp) (w : World) : Fr M M w w := ⟨rfl, rfl, rfl, Nat.le_refl _, fun _ _ _ => rfl, fun _ _ h => h, fun _ _ h => h, fun _ h => h, fun _ h => Or.inl h⟩
theorem HasByte.back {M M' : Mp} {w w' : World} {k : Nat} (h : HasByte w' k) (f : Fr M M' w w') (hk : k < w.heap.size) (hm : M.at_ k = none) : HasByte w k := by
 obtain ⟨j, x, hc⟩ := h
 exact ⟨j, x, by rw [← hc]; exact (World.cell?_of_block (w := w) (f.block k hk hm)).symm⟩
theorem Fr.trans {M M1 M2 : Mp} {w w1 w2 : World} (hi : Inv M w) (h : Fr M M1 w w1) (g : Fr M1 M2 w1 w2) : Fr M M2 w w2 :=
 ⟨g.os.trans h.os, g.tape.trans h.tape, g.output.trans h.output, Nat.le_trans h.size g.size,
  fun k hk hm => (g.block k (Nat.lt_of_lt_of_le hk h.size) (h.fresh k hk hm)).trans (h.block k hk hm), fun k t hm => g.mono k t (h.mono k t hm), fun k hk hm => g.fresh k (Nat.lt_of_lt_of_le hk h.size) (h.fresh k hk hm),
  fun k hk => g.grow k (h.grow k hk), fun k hk => by
  rcases g.foot k hk with h1 | h1 | h1
  ·exact h.foot k h1
  ·exact Or.inr (Or.inl (Nat.le_trans h.size h1))
  ·by_cases hlt : k < w.heap.size
   ·cases hm : M.at_ k with
    | none => exact Or.inr (Or.inr (h1.back h hlt hm))
    | some t => exact Or.inl (hi.part_ k t hm).2.1
   ·exact Or.inr (Or.inl (by omega))⟩
theorem Fr.below (M : Mp) {w w' : World} (hb : Below w.heap.size w w') : Fr M M w w' := ⟨hb.os, hb.tape, hb.output, hb.size, fun k hk _ => hb.block k hk, fun _ _ h => h, fun _ _ h => h, fun _ h => h, fun _ h => Or.inl h⟩
theorem Fr.all {M' : Mp} {w w' : World} (h : Fr M0 M' w w') : Below w.heap.size w w' := ⟨h.os, h.tape, h.output, h.size, fun k hk => h.block k hk rfl⟩
theorem Fr.cell {M M' : Mp} {w w' : World} (h : Fr M M' w w') {b o : Nat} (hb : b < w.heap.size) (hm : M.at_ b = none) : w'.cell? ⟨b, o, none⟩ = w.cell? ⟨b, o, none⟩ := World.cell?_of_block (w := w) (h.block b hb hm)
theorem Bs.fr {M M' : Mp} {w w' : World} {a : Option Addr} {n c : Nat} {l : List UInt8} (hi : Inv M w) (h : Bs M w a n c l) (f : Fr M M' w w') : Bs M' w' a n c l := by
 refine ⟨⟨h.1.1, h.1.2.1, h.1.2.2.1, h.1.2.2.2.1, fun j hj => ?_⟩, fun ad e hn => f.grow _ (h.2 ad e hn)⟩
 obtain ⟨b, off, e, hlt, hc⟩ := h.1.2.2.2.2 j hj
 exact ⟨b, off, e, Nat.lt_of_lt_of_le hlt f.size, by rw [f.cell hlt (hi.no_byte hc)]; exact hc⟩
theorem isBs_fr {M M' : Mp} {w w' : World} {a : Option Addr} {n c : Nat} {l : List UInt8} (hi : Inv M w) (h : IsBs w a n c l) (f : Fr M M' w w') : IsBs w' a n c l := by
 refine ⟨h.1, h.2.1, h.2.2.1, h.2.2.2.1, fun j hj => ?_⟩
 obtain ⟨b, off, e, hlt, hc⟩ := h.2.2.2.2 j hj
 exact ⟨b, off, e, Nat.lt_of_lt_of_le hlt f.size, by rw [f.cell hlt (hi.no_byte hc)]; exact hc⟩
theorem Ks.fr {M M' : Mp} {w w' : World} {a : Option Addr} {n c : Nat} {l : List T} (hi : Inv M w) (h : Ks M w a n c l) (f : Fr M M' w w') : Ks M' w' a n c l := by
 refine ⟨h.1, h.2.1, h.2.2.1, h.2.2.2.1, fun j hj => ?_⟩
 obtain ⟨b, off, p, e, hlt, hm, hc, ht⟩ := h.at' j hj
 exact ⟨b, off, p, e, Nat.lt_of_lt_of_le hlt f.size, f.grow b hm, by rw [f.cell hlt (hi.no_ptr hc)]; exact hc, ht.mono f.mono⟩
theorem Inv.below {M : Mp} {w w' : World} (h : Inv M w) (hb : Below w.heap.size w w') : Inv M w' := by
 refine ⟨fun k hk => Nat.lt_of_lt_of_le (h.lt_ k hk) hb.size, fun b t hm => ?_⟩
 have hlt := h.lt hm
 refine ⟨(h.part_ b t hm).1, (h.part_ b t hm).2.1, ?_⟩
 obtain ⟨a, n, c, ka, kn, kc, d, r, h1, h2, h3, h4⟩ := h.part hm
 exact ⟨a, n, c, ka, kn, kc, d, r, (hb.block b hlt).trans h1, h2.fr h (Fr.below M hb), h3.fr h (Fr.below M hb), h4⟩
theorem Inv.out {M : Mp} {w : World} (h : Inv M w) {b : Nat} (hb : w.heap.size ≤ b) : M.at_ b = none := by
 cases hm : M.at_ b with
 | none => rfl
 | some t => exact absurd (h.lt hm) (by omega)
theorem Inv.upd {M : Mp} {w w' : World} {g : Nat} (h : Inv M w) (hu : Rg.Upd w g w') (hg : ¬ M.ft g) : Inv M w' := by
 refine ⟨fun k hk => by rw [hu.size]; exact h.lt_ k hk, fun b t hm => ?_⟩
 obtain ⟨h1, h2, h3⟩ := h.part_ b t hm
 refine ⟨h1, h2, ?_⟩
 obtain ⟨a, n, c, ka, kn, kc, d, r, hb, hB, hK, hd⟩ := h3
 have hne : ∀ k, M.ft k → k ≠ g := fun k hk e => hg (by rw [← e]; exact hk)
 refine ⟨a, n, c, ka, kn, kc, d, r, (hu.block b (hne b h2)).trans hb, ⟨⟨hB.1.1, hB.1.2.1, hB.1.2.2.1, hB.1.2.2.2.1, fun j hj => ?_⟩, hB.2⟩, ⟨hK.1, hK.2.1, hK.2.2.1, hK.2.2.2.1, fun j hj => ?_⟩, hd⟩
 ·obtain ⟨b', off, e, hlt, hc⟩ := hB.1.2.2.2.2 j hj
  exact ⟨b', off, e, by rw [hu.size]; exact hlt, by rw [World.cell?_of_block (hu.block b' (hne b' (hB.2 _ e (by omega))))]; exact hc⟩
 ·obtain ⟨b', off, p, e, hlt, hf, hc, ht⟩ := hK.at' j hj
  exact ⟨b', off, p, e, by rw [hu.size]; exact hlt, hf, by rw [World.cell?_of_block (hu.block b' (hne b' hf))]; exact hc, ht⟩
theorem Fr.box {M M' : Mp} {w w' : World} (f : Fr M M' w w') {g : Nat} (hg : ¬ M.ft g) (hlt : g < w.heap.size) (hb : ¬ HasByte w g) : ¬ M'.ft g := fun h => by
 rcases f.foot g h with h1 | h1 | h1
 ·exact hg h1
 ·omega
 ·exact hb h1
theorem Inv.free {M : Mp} {w : World} (h : Inv M w) {g : Nat} (hg : w.heap.size ≤ g) : ¬ M.ft g := fun e => by
 have := h.lt_ g e
 omega
theorem one_no (p : Option Addr) : ∀ (j : Nat) (x : Int), (#[Value.pointer p] : Array Value)[j]? ≠ some (Value.int .u8 x) := fun j x h => by
 match j, h with
 | 0, h => simp at h
 | j + 1, h => simp at h
theorem no_byte {w : World} {g : Nat} {cs : Array Value} {t : TypeId} (hO : Rg.Own w g cs t) (hne : ∀ (j : Nat) (x : Int), cs[j]? ≠ some (Value.int .u8 x)) : ¬ HasByte w g := fun ⟨_, _, hc⟩ => hne _ _ (cell_heap hO.2 hc)
theorem isBs_upd {w w' : World} {g : Nat} {a : Option Addr} {n c : Nat} {l : List UInt8} (h : IsBs w a n c l) (hg : ¬ HasByte w g) (hu : Rg.Upd w g w') : IsBs w' a n c l := by
 refine ⟨h.1, h.2.1, h.2.2.1, h.2.2.2.1, fun j hj => ?_⟩
 obtain ⟨b, off, e, hlt, hc⟩ := h.2.2.2.2 j hj
 have hbg : b ≠ g := by
  rintro rfl
  exact hg ⟨_, _, hc⟩
 exact ⟨b, off, e, by rw [hu.size]; exact hlt, by rw [World.cell?_of_block (hu.block b hbg)]; exact hc⟩
def plus (M : Mp) (S : Nat → Prop) : Mp := ⟨M.at_, fun k => M.ft k ∨ S k⟩
theorem Inv.plus {M : Mp} {w : World} (h : Inv M w) {S : Nat → Prop} (hS : ∀ k, S k → k < w.heap.size) : Inv (Tm.plus M S) w := by
 refine ⟨fun k hk => hk.elim (h.lt_ k) (hS k), fun b t hm => ?_⟩
 obtain ⟨h1, h2, a, n, c, ka, kn, kc, d, r, hb, hB, hK, hd⟩ := h.part_ b t hm
 exact ⟨h1, Or.inl h2, a, n, c, ka, kn, kc, d, r, hb, ⟨hB.1, fun ad e hn => Or.inl (hB.2 ad e hn)⟩, ⟨hK.1, hK.2.1, hK.2.2.1, hK.2.2.2.1, fun j hj => by
  obtain ⟨b', off, p, e, hlt, hf, hc, ht⟩ := hK.at' j hj
  exact ⟨b', off, p, e, hlt, Or.inl hf, hc, ht.mono fun _ _ h => h⟩⟩, hd⟩
theorem isT_plus {M : Mp} {S : Nat → Prop} {p : Option Addr} {t : T} (h : IsT M p t) : IsT (plus M S) p t := h.mono fun _ _ h => h
theorem Fr.plus {M M' : Mp} {w w' : World} {S : Nat → Prop} (f : Fr M M' w w') (hS : ∀ k, S k → w.heap.size ≤ k ∨ HasByte w k) : Fr M (Tm.plus M' S) w w' :=
 ⟨f.os, f.tape, f.output, f.size, f.block, f.mono, f.fresh, fun k hk => Or.inl (f.grow k hk), fun k hk => hk.elim (f.foot k) (fun h => Or.inr (hS k h))⟩
def inS (a : Option Addr) (n : Nat) (k : Nat) : Prop := ∃ ad, a = some ad ∧ 0 < n ∧ ad.block = k
theorem inS_byte {w : World} {a : Option Addr} {n c : Nat} {l : List UInt8} (h : IsBs w a n c l) {k : Nat} (hk : inS a n k) : HasByte w k ∧ k < w.heap.size := by
 obtain ⟨ad, e, hn, hb⟩ := hk
 obtain ⟨b, off, e', hlt, hc⟩ := h.at' 0 hn
 rw [e] at e'
 obtain rfl := Option.some.inj e'
 obtain rfl : b = k := hb
 exact ⟨⟨_, _, hc⟩, hlt⟩
theorem HasByte.below {w w' : World} {k : Nat} (h : HasByte w' k) (hb : Below w.heap.size w w') : w.heap.size ≤ k ∨ HasByte w k := by
 by_cases hlt : k < w.heap.size
 ·obtain ⟨j, x, hc⟩ := h
  exact Or.inr ⟨j, x, by rw [← hc]; exact (World.cell?_of_block (w := w) (hb.block k hlt)).symm⟩
 ·exact Or.inl (by omega)
theorem Bs.in_ {M : Mp} {w : World} {a : Option Addr} {n c : Nat} {l : List UInt8} (h : IsBs w a n c l) : Bs (plus M (inS a n)) w a n c l := ⟨h, fun ad e hn => Or.inr ⟨ad, e, hn, rfl⟩⟩
def GotT (M : Mp) (w : World) (t : T) (e : Ending) (w' : World) : Prop := ∃ p M', e = .returned (.agg #[.pointer p]) ∧ IsT M' p t ∧ Fr M M' w w' ∧ Inv M' w' ∧ Below w.heap.size w w'
def more (M : Mp) (b : Nat) (t : T) (lo hi : Nat) : Mp := ⟨fun k => if k = b then some t else M.at_ k, fun k => M.ft k ∨ lo ≤ k ∧ k < hi⟩
theorem more_at (M : Mp) (b : Nat) (t : T) (lo hi : Nat) : (more M b t lo hi).at_ b = some t := if_pos rfl
theorem more_not {M : Mp} {b : Nat} {t : T} {lo hi k : Nat} (h : k ≠ b) : (more M b t lo hi).at_ k = M.at_ k := if_neg h
theorem Fr.more {M : Mp} {w w' : World} (hi : Inv M w) (hb : Below w.heap.size w w') (b : Nat) (t : T) (hB : w.heap.size ≤ b) : Fr M (more M b t w.heap.size w'.heap.size) w w' := by
 refine ⟨hb.os, hb.tape, hb.output, hb.size, fun k hk _ => hb.block k hk, fun k u hm => ?_, fun k hk hm => ?_, fun k hk => Or.inl hk, fun k hk => hk.elim Or.inl (fun h => Or.inr (Or.inl h.1))⟩
 ·have := hi.lt hm
  rw [more_not (by omega)]; exact hm
 ·rw [more_not (by omega)]; exact hm
def Ks0 (M : Mp) (lo : Nat) (w : World) (a : Option Addr) (n c : Nat) (l : List T) : Prop :=
 n ≤ c ∧ c ≤ maxLen ∧ l.length = n ∧ (a = none → c = 0) ∧ ∀ j, j < n → ∃ b off p, a = some ⟨b, off, none⟩ ∧ b < w.heap.size ∧ (M.ft b ∨ lo ≤ b) ∧ w.cell? ⟨b, off + j, none⟩ = some (.pointer p) ∧ IsT M p (l.getD j .nil)
theorem Ks.weak {M : Mp} {w : World} {lo : Nat} {a : Option Addr} {n c : Nat} {l : List T} (h : Ks M w a n c l) : Ks0 M lo w a n c l :=
 ⟨h.1, h.2.1, h.2.2.1, h.2.2.2.1, fun j hj => by
  obtain ⟨b, off, p, e, hlt, hf, hc, ht⟩ := h.at' j hj
  exact ⟨b, off, p, e, hlt, Or.inl hf, hc, ht⟩⟩
theorem got_part {M : Mp} {w w' : World} {b : Nat} {t : T} {a : Option Addr} {n c : Nat} {ka : Option Addr} {kn kc : Nat} (hi : Inv M w) (hb : Below w.heap.size w w') (hB : w.heap.size ≤ b) (hn : t ≠ .nil)
  (hc : w'.heap[b]? = some (.cells (partC t a n c ka kn kc 0 (memo0 t)) 106 (0, 0))) (hp : IsBs w' a n c (pathT t)) (hf : ∀ ad, a = some ad → 0 < n → M.ft ad.block ∨ w.heap.size ≤ ad.block) (hk : Ks0 M w.heap.size w' ka kn kc (partsT t)) :
  GotT M w t (.returned (.agg #[.pointer (some ⟨b, 0, none⟩)])) w' := by
 have f := Fr.more hi hb b t hB
 have hlt : b < w'.heap.size := (Array.getElem?_eq_some_iff.1 hc).1
 refine ⟨_, Tm.more M b t w.heap.size w'.heap.size, rfl, ⟨b, rfl, more_at _ _ _ _ _, hn⟩, f, ⟨fun k hk => hk.elim (fun h => Nat.lt_of_lt_of_le (hi.lt_ k h) hb.size) (fun h => h.2), fun k u hm => ?_⟩, hb⟩
 by_cases e : k = b
 ·subst e
  rw [more_at] at hm
  obtain rfl := Option.some.inj hm
  refine ⟨hn, Or.inr ⟨hB, hlt⟩, a, n, c, ka, kn, kc, 0, _, hc, ⟨hp, fun ad e hn => ?_⟩, ⟨hk.1, hk.2.1, hk.2.2.1, hk.2.2.2.1, fun j hj => ?_⟩, Or.inl ⟨rfl, rfl⟩⟩
  ·obtain ⟨b', off, e', hlt', _⟩ := hp.at' 0 hn
   rcases hf ad e hn with h | h
   ·exact Or.inl h
   ·rw [e] at e'
    obtain rfl := Option.some.inj e'
    exact Or.inr ⟨h, hlt'⟩
  ·obtain ⟨b', off, p, e, hlt', hm, hcb, ht⟩ := hk.2.2.2.2 j hj
   exact ⟨b', off, p, e, hlt', hm.elim Or.inl (fun h => Or.inr ⟨h, hlt'⟩), hcb, ht.mono f.mono⟩
 ·rw [more_not e] at hm
  have hlt := hi.lt hm
  obtain ⟨h1, h2, a, n, c, ka, kn, kc, d, r, g1, g2, g3, g4⟩ := hi.part_ k u hm
  exact ⟨h1, Or.inl h2, a, n, c, ka, kn, kc, d, r, (hb.block k hlt).trans g1, g2.fr hi f, g3.fr hi f, g4⟩
theorem got_old {M : Mp} {w w' : World} {p : Option Addr} {t : T} (hi : Inv M w) (ht : IsT M p t) (hb : Below w.heap.size w w') : GotT M w t (.returned (.agg #[.pointer p])) w' :=
 ⟨p, M, rfl, ht, Fr.below M hb, hi.below hb, hb⟩
def rowT (ps : List (Option Addr)) : Array Value := (ps.map Value.pointer).toArray
theorem Ks0.row {M : Mp} {w : World} {lo : Nat} {b : Nat} {ps : List (Option Addr)} {t : TypeId} {l : List T} (hlo : lo ≤ b) (h : Rg.Own w b (rowT ps) t) (hl : ps.length = l.length) (hm : ps.length ≤ maxLen) (ht : ∀ j, j < ps.length → IsT M (ps.getD j none) (l.getD j .nil)) : Ks0 M lo w (some ⟨b, 0, none⟩) ps.length ps.length l := by
 refine ⟨Nat.le_refl _, hm, hl.symm, fun e => (by cases e), fun j hj => ?_⟩
 have hc : w.cell? ⟨b, j, none⟩ = some (.pointer (ps.getD j none)) := by
  rw [cell_of_row w b _ _ _ _ h.2]
  simp [rowT, List.getD, hj]
 exact ⟨b, 0, _, rfl, h.1, Or.inr hlo, by rw [Nat.zero_add]; exact hc, ht j hj⟩
end Tm
end
section
open Go.RowKit
namespace Tm
open Tr
abbrev tv (p : Option Addr) : Value := .agg #[.pointer p]
theorem box_tree (w : World) (p : Option Addr) : (w.alloc (.cells #[.pointer p] 26)).cell? ⟨w.heap.size, 0, none⟩ = some (.pointer p) := by
 rw [World.cell?_alloc_mark]; rfl
theorem cell_on {w1 w2 : World} (hb : Below w1.heap.size w1 w2) {b o : Nat} {v : Value} (hc : w1.cell? ⟨b, o, none⟩ = some v) : w2.cell? ⟨b, o, none⟩ = some v :=
 (hb.cell (p := ⟨b, o, none⟩) (World.block_lt_of_cell? w1 _ hc)).trans hc
theorem cell_al {w : World} {o' : Obj} {b o : Nat} {v : Value} (hc : w.cell? ⟨b, o, none⟩ = some v) : (w.alloc o').cell? ⟨b, o, none⟩ = some v := cell_on (al1 _ _) hc
theorem empty_any (p : Option Addr) (w : World) : Calls Tryz.prog 27 #[.agg #[.pointer p]] w fun e w' => e = .returned (.bool p.isNone) ∧ Below w.heap.size w w' := by
 have h0 := box_tree w p
 cases p with
 | none =>
  go_enter Tryz.func27, Tryz.ntmps27
  go_wp2
  go_ret
  exact ⟨rfl, al1 _ _⟩
 | some ad =>
  go_enter Tryz.func27, Tryz.ntmps27
  go_wp2
  go_ret
  exact ⟨rfl, al1 _ _⟩
theorem part_cells {w : World} {b : Nat} {t : T} {a : Option Addr} {n c : Nat} {ka : Option Addr} {kn kc : Nat} {d : Int} {r : ByteArray} (h : w.heap[b]? = some (.cells (partC t a n c ka kn kc d r) 106 (0, 0))) :
  (w.cell? ⟨b, 0, none⟩ = some (.int .i64 (kindT t)) ∧ w.cell? ⟨b, 1, none⟩ = some (.slice a n c) ∧ w.cell? ⟨b, 2, none⟩ = some (.string (valT t)) ∧ w.cell? ⟨b, 3, none⟩ = some (.slice ka kn kc)) ∧
  w.cell? ⟨b, 4, none⟩ = some (.int .u32 d) ∧ w.cell? ⟨b, 5, none⟩ = some (.int .i32 0) ∧ w.cell? ⟨b, 6, none⟩ = some (.int .u32 0) ∧ w.cell? ⟨b, 7, none⟩ = some (.string r) := by
 refine ⟨⟨?_, ?_, ?_, ?_⟩, ?_, ?_, ?_, ?_⟩
 all_goals
  rw [cell_of_row w b _ _ _ _ h]
  rfl
theorem Inv.kind {M : Mp} {w : World} (hi : Inv M w) {b : Nat} {t : T} (hm : M.at_ b = some t) : w.cell? ⟨b, 0, none⟩ = some (.int .i64 (kindT t)) := by
 obtain ⟨a, n, c, ka, kn, kc, d, r, hb, _⟩ := hi.part hm
 exact (part_cells hb).1.1
theorem kind_any (M : Mp) (p : Option Addr) (t : T) (w : World) (hi : Inv M w) (ht : IsT M p t) :
  Calls Tryz.prog 58 #[.agg #[.pointer p]] w fun e w' => e = .returned (.int .i64 (kindT t)) ∧ Below w.heap.size w w' := by
 have h0 := box_tree w p
 have HE := hid (empty_any p (w.alloc (.cells #[.pointer p] 26)))
 cases p with
 | none =>
  obtain rfl : t = .nil := ht
  go_enter Tryz.func58, Tryz.ntmps58
  go_wp2_with fail
  refine HE.out.mono ?_
  rintro e w2 ⟨rfl, hb⟩
  go_wp2
  go_ret
  exact ⟨rfl, bst (al1 _ _) hb⟩
 | some ad =>
  obtain ⟨b, rfl, hm, _⟩ := ht
  have hk := cell_al (o' := .cells #[.pointer (some ⟨b, 0, none⟩)] 26) (hi.kind hm)
  go_enter Tryz.func58, Tryz.ntmps58
  go_wp2_with fail
  refine HE.out.mono ?_
  rintro e w2 ⟨rfl, hb⟩
  have h1 := cell_on hb h0
  have h2 := cell_on hb hk
  clear h0 hk
  go_wp2
  go_ret
  exact ⟨rfl, bst (al1 _ _) hb⟩
end Tm
end
section
open Go.RowKit
namespace Tm
open Tr
def fromA (a : Option Addr) (c i : Nat) : Option Addr := if c = i then a else a.map (·.add i)
theorem size_u8 (w : World) : (sizeOf (Tryz.prog.elem 51)).run Tryz.prog w = .ok 1 w := by kernel_rfl
theorem size_tree (w : World) : (sizeOf (Tryz.prog.elem 85)).run Tryz.prog w = .ok 1 w := by kernel_rfl
theorem under_u8 : Tryz.prog.underlying 51 = some (.slice (Tryz.prog.elem 51)) := by kernel_rfl
theorem under_trees : Tryz.prog.underlying 85 = some (.slice (Tryz.prog.elem 85)) := by kernel_rfl
section
variable {P : Program} {t : TypeId} {a : Option Addr} {n c : Nat}
theorem run_from (ht : P.underlying t = some (.slice (P.elem t))) (hs : ∀ w, (sizeOf (P.elem t)).run P w = .ok 1 w) (i : Nat) (hi : i ≤ n) (w : World) :
  (Instr.sliceAt t (.slice a n c) (some (.int .i64 i)) none none).run P w = .ok (.slice (fromA a c i) (n - i) (c - i)) w := by
 rw [run_sliceAt_slice (h := ht), run_slice_l w t a n c ht .i64 i (by omega) (by omega), hs]
 simp [Result.andThen, sliced, fromA]
theorem run_upto (ht : P.underlying t = some (.slice (P.elem t))) (hs : ∀ w, (sizeOf (P.elem t)).run P w = .ok 1 w) (j : Nat) (hj : j ≤ c) (w : World) :
  (Instr.sliceAt t (.slice a n c) none (some (.int .i64 j)) none).run P w = .ok (.slice a j c) w := by
 rw [run_sliceAt_slice (h := ht), run_slice_h w t a n c ht .i64 j (by omega) (by omega), hs]
 have : a.map (fun x => x.add 0) = a := by cases a <;> simp [Addr.add]
 simp [Result.andThen, sliced, this]
end
theorem op_from {P : Program} {t : TypeId} {a : Option Addr} {n c : Nat} {ev : Operand → Value} {o : Oper} {w : World} {i : Nat} (ht : P.underlying t = some (.slice (P.elem t))) (hs : ∀ w, (sizeOf (P.elem t)).run P w = .ok 1 w) (hi : i ≤ n)
  (ho : ∃ x lo, o.op = .slice t x (some lo) none none ∧ ev x = .slice a n c ∧ ev lo = .int .i64 i) : (execOp ev o).run P w = .ok (.value (.slice (fromA a c i) (n - i) (c - i))) w := by
 obtain ⟨x, lo, ho, hx, hl⟩ := ho
 unfold execOp
 simp only [ho, hx, hl, Option.map_some, Option.map_none, Sem.run_bind, Sem.run_pure, Result.andThen_ok, run_from ht hs i hi]
theorem op_upto {P : Program} {t : TypeId} {a : Option Addr} {n c : Nat} {ev : Operand → Value} {o : Oper} {w : World} {j : Nat} (ht : P.underlying t = some (.slice (P.elem t))) (hs : ∀ w, (sizeOf (P.elem t)).run P w = .ok 1 w) (hj : j ≤ c)
  (ho : ∃ x hi, o.op = .slice t x none (some hi) none ∧ ev x = .slice a n c ∧ ev hi = .int .i64 j) : (execOp ev o).run P w = .ok (.value (.slice a j c)) w := by
 obtain ⟨x, lo, ho, hx, hl⟩ := ho
 unfold execOp
 simp only [ho, hx, hl, Option.map_some, Option.map_none, Sem.run_bind, Sem.run_pure, Result.andThen_ok, run_upto ht hs j hj]
theorem bs_from {w : World} {a : Option Addr} {n c : Nat} {l : List UInt8} (h : IsBs w a n c l) (i : Nat) (hi : i ≤ n) : IsBs w (fromA a c i) (n - i) (c - i) (l.drop i) := by
 have h1 := h.1
 have h2 := h.2.1
 refine ⟨by omega, by omega, by rw [List.length_drop, h.len], fun e => ?_, fun j hj => ?_⟩
 ·unfold fromA at e
  split at e
  ·omega
  ·have : a = none := by simpa using e
   have := h.2.2.2.1 this
   omega
 ·obtain ⟨b, off, e, hlt, hc⟩ := h.at' (i + j) (by omega)
  refine ⟨b, off + i, ?_, hlt, ?_⟩
  ·unfold fromA
   rw [if_neg (by omega), e]
   simp [Addr.add_mid]
  ·rw [Nat.add_assoc, hc]
   simp [List.getD]
theorem fromA_block {a : Option Addr} {c i : Nat} {ad : Addr} (h : fromA a c i = some ad) : ∃ ad', a = some ad' ∧ ad'.block = ad.block := by
 unfold fromA at h
 split at h
 ·exact ⟨ad, h, rfl⟩
 ·cases a with
  | none => cases h
  | some x =>
   refine ⟨x, rfl, ?_⟩
   have : x.add i = ad := by simpa using h
   rw [← this]
   unfold Addr.add
   split <;> rfl
theorem Bs.from' {M : Mp} {w : World} {a : Option Addr} {n c : Nat} {l : List UInt8} (h : Bs M w a n c l) (i : Nat) (hi : i ≤ n) : Bs M w (fromA a c i) (n - i) (c - i) (l.drop i) :=
 ⟨bs_from h.1 i hi, fun ad e hn => by
  obtain ⟨ad', e', hb⟩ := fromA_block e
  rw [← hb]
  exact h.2 ad' e' (by omega)⟩
theorem Bs.upto {M : Mp} {w : World} {a : Option Addr} {n c : Nat} {l : List UInt8} (h : Bs M w a n c l) (j : Nat) (hj : j ≤ n) : Bs M w a j c (l.take j) := by
 have h1 := h.1.1
 refine ⟨⟨by omega, h.1.2.1, by rw [List.length_take, h.1.len]; omega, h.1.2.2.2.1, fun i hi => ?_⟩, fun ad e hn => h.2 ad e (by omega)⟩
 obtain ⟨b, off, e, hlt, hc⟩ := h.1.at' i (by omega)
 refine ⟨b, off, e, hlt, ?_⟩
 rw [hc]
 simp [List.getD, hi]
theorem info_tree : (Tryz.prog.info? 26).map (·.size) = some 1 := by kernel_rfl
theorem load_tree {w : World} {b o : Nat} {p : Option Addr} (hc : w.cell? ⟨b, o, none⟩ = some (.pointer p)) : (loadVar 26 ⟨b, o, none⟩).run Tryz.prog w = .ok (tv p) w :=
 run_loadVar_mid w b o 26 [.pointer p] _ (fun j v hv => by
  cases j with
  | zero => simp at hv; subst hv; exact hc
  | succ j => simp at hv) Tryz.underlying26 rfl (by rw [info_tree]; rfl)
theorem op_load_tree {ev : Operand → Value} {o : Oper} {w : World} {b off : Nat} {p : Option Addr} (hc : w.cell? ⟨b, off, none⟩ = some (.pointer p)) (ho : ∃ x, o.op = .load 26 x ∧ ev x = .pointer (some ⟨b, off, none⟩)) :
  (execOp ev o).run Tryz.prog w = .ok (.value (tv p)) w := by
 obtain ⟨x, ho, hx⟩ := ho
 unfold execOp
 simp only [ho, hx, Instr.loadAt, Instr.sureAddr, Sem.run_bind, Sem.run_pure, Result.andThen_ok, load_tree hc]
theorem upd_setCell (w : World) (b o : Nat) (v : Value) : Rg.Upd w b (w.setCell ⟨b, o, none⟩ v) := ⟨rfl, rfl, rfl, by simp, fun k hk => Below.heap_setCell w _ v k hk⟩
theorem own_setCell {w : World} {b o : Nat} {cs : Array Value} {t : TypeId} (h : Rg.Own w b cs t) (v : Value) : Rg.Own (w.setCell ⟨b, o, none⟩ v) b (cs.setIfInBounds o v) t := by
 refine ⟨by simp; exact h.1, ?_⟩
 have hb := h.2
 simp only [World.setCell, Array.getElem?_modify, hb]
 simp
theorem own_cell {w : World} {b j : Nat} {cs : Array Value} {t : TypeId} {v : Value} (h : Rg.Own w b cs t) (hv : cs[j]? = some v) : w.cell? ⟨b, j, none⟩ = some v := by
 rw [cell_of_row w b _ _ _ _ h.2]; exact hv
theorem store_tree {w : World} {b o : Nat} {cs : Array Value} {t : TypeId} (h : Rg.Own w b cs t) (ho : o < cs.size) (p : Option Addr) :
  (Instr.storeAt 26 (.pointer (some ⟨b, o, none⟩)) (tv p)).run Tryz.prog w = .ok () (w.setCell ⟨b, o, none⟩ (.pointer p)) := by
 have hc : w.cell? ⟨b, o, none⟩ = some cs[o] := own_cell h (Array.getElem?_eq_getElem ho)
 exact run_storeAt_mid w b o 26 #[.pointer p] (fun j hj => by
  obtain rfl : j = 0 := by simp at hj; exact hj
  exact ⟨by rw [Nat.add_zero, hc]; rfl, own_free h⟩) (by rw [info_tree]; rfl) (by simp [Value.oneCell'])
theorem wpl_store_tree {ops : Array Oper} {rest : List Oper} {o : Oper} {act : Act} {w : World} {Q : Exit → Act → World → Prop} {b off : Nat} {cs : Array Value} {t : TypeId} (h : Rg.Own w b cs t) (hof : off < cs.size) (p : Option Addr)
  (hgd : o.guard = none) (x y : Operand) (ho : o.op = .store 26 x y) (hx : act.eval x = .pointer (some ⟨b, off, none⟩)) (hy : act.eval y = tv p)
  (hQ : ∀ w', Rg.Own w' b (cs.setIfInBounds off (.pointer p)) t → Rg.Upd w b w' → wpList Tryz.prog ops Q rest (act.put o.dst undef) w') : wpList Tryz.prog ops Q (o :: rest) act w :=
 wpList_plain hgd fun K hK => by
  unfold Oper.wp execOp
  simp only [ho, hx, hy, Sem.run_bind, Sem.run_pure, Result.andThen_ok, store_tree h hof p]
  exact hK _ _ (hQ _ (own_setCell h _) (upd_setCell _ _ _ _))
theorem meet_store_tree {o : Oper} {a : Act} {w : World} {K : Act → World → Prop} {Q : Exit → Act → World → Prop} {ops : Array Oper} (hw : Region.wanted o (yielded ops a.tmps) = true) {b off : Nat} {cs : Array Value} {t : TypeId} (hg : Rg.Own w b cs t) (hof : off < cs.size) (p : Option Addr)
  (ho : ∃ x y, o.op = .store 26 x y ∧ a.eval x = .pointer (some ⟨b, off, none⟩) ∧ a.eval y = tv p)
  (h : ∀ w', Rg.Own w' b (cs.setIfInBounds off (.pointer p)) t → Rg.Upd w b w' → K (a.put o.dst undef) w') : if Region.wanted o (yielded ops a.tmps) = true then Oper.wp Tryz.prog o a w K Q else K (a.put o.dst undef) w := by
 obtain ⟨x, y, ho, hx, hy⟩ := ho
 refine Rg.want hw ?_
 unfold Oper.wp execOp
 simp only [ho, hx, hy, Sem.run_bind, Sem.run_pure, Result.andThen_ok, store_tree hg hof p]
 exact h _ (own_setCell hg _) (upd_setCell _ _ _ _)
theorem res_tree {fn : Func} {q : Tmp} (hf : fn.results = #[.cell q 26]) (tmps : Array Value) {w : World} {b : Nat} {p : Option Addr} (hp : tmps.getD q undef = .pointer (some ⟨b, 0, none⟩)) (h : Rg.Own w b #[.pointer p] 26) :
  (results fn tmps).run Tryz.prog w = .ok (tv p) w := by
 have hp' : tmps[q]?.getD undef = .pointer (some ⟨b, 0, none⟩) := by simpa using hp
 simp [results, hf, hp', asAddr, load_tree (own_cell (j := 0) h rfl)]
theorem res_tree1 {fn : Func} {q u : Tmp} (hf : fn.results = #[.cell q 26, .tmp u]) (tmps : Array Value) {w : World} {b : Nat} {p : Option Addr} (hp : tmps.getD q undef = .pointer (some ⟨b, 0, none⟩)) (h : Rg.Own w b #[.pointer p] 26) :
  (results fn tmps).run Tryz.prog w = .ok (.tuple #[tv p, tmps.getD u undef]) w := by
 have hp' : tmps[q]?.getD undef = .pointer (some ⟨b, 0, none⟩) := by simpa using hp
 simp [results, hf, hp', asAddr, load_tree (own_cell (j := 0) h rfl)]
theorem run_alloc_tree (ev : Operand → Value) (o : Oper) (w : World) (b : Nat) (hb : b = w.heap.size) (ho : o.op = .alloc 26) :
  (execOp ev o).run Tryz.prog w = .ok (.value (.pointer (some ⟨b, 0, none⟩))) (w.alloc (.cells #[.pointer none] 26)) := by
 subst hb
 unfold execOp
 rw [ho]
 kernel_rfl
theorem built_leaf (a : Option Addr) (n c : Nat) (p : Pa) (v : ByteArray) : Tryz.prog.built 106 [(0, .int .i64 1), (1, .slice a n c), (2, .string v)] = some (partC (.leaf p v) a n c none 0 0 0 eB) := by kernel_rfl
theorem built_ext (a : Option Addr) (n c : Nat) (ka : Option Addr) (kn kc : Nat) (q : Pa) (t : T) : Tryz.prog.built 106 [(0, .int .i64 2), (1, .slice a n c), (3, .slice ka kn kc)] = some (partC (.ext q t) a n c ka kn kc 0 eB) := by kernel_rfl
theorem built_br (ka : Option Addr) (kn kc : Nat) (ks : Fin 16 → T) : Tryz.prog.built 106 [(0, .int .i64 3), (3, .slice ka kn kc)] = some (partC (.br ks) none 0 0 ka kn kc 0 eB) := by kernel_rfl
theorem op_box_part {ev : Operand → Value} {o : Oper} {w : World} {t : T} {a : Option Addr} {n c : Nat} {ka : Option Addr} {kn kc : Nat} {d : Int} {r : ByteArray} (ho : ∃ x, o.op = .box 106 x ∧ ev x = .agg (partC t a n c ka kn kc d r)) :
  (execOp ev o).run Tryz.prog w = .ok (.value (.pointer (some ⟨w.heap.size, 0, none⟩))) (w.alloc (.cells (partC t a n c ka kn kc d r) 106)) := by
 obtain ⟨x, ho, hx⟩ := ho
 unfold execOp
 simp only [ho, hx]
 rfl
end Tm
end
section
open Go.RowKit
namespace Tm
open Tr
theorem heap_of {w w' : World} {b g : Nat} {cs : Array Value} {t : TypeId} (h : Rg.Own w b cs t) (hu : Rg.Upd w g w') (hne : b ≠ g) : w'.heap[b]? = some (.cells cs t (0, 0)) := (h.upd hu hne).2
theorem leaf_any (M : Mp) (a : Option Addr) (n c : Nat) (q : Pa) (v : ByteArray) (w : World) (hi : Inv M w) (hB : Bs M w a n c q) :
  Calls Tryz.prog 62 #[.slice a n c, .string v] w (GotT M w (.leaf q v)) := by
 obtain ⟨w1, hw1⟩ : ∃ w1, w1 = w.alloc (.cells #[.pointer none] 26) := ⟨_, rfl⟩
 have hR : Rg.Own w1 w.heap.size #[.pointer none] 26 := by rw [hw1]; exact Rg.Own.new _ _ _
 have hb1 : Below w.heap.size w w1 := by rw [hw1]; exact al1 _ _
 have hs1 : w1.heap.size = w.heap.size + 1 := by rw [hw1]; simp
 obtain ⟨w2, hw2⟩ : ∃ w2, w2 = w1.alloc (.cells (partC (.leaf q v) a n c none 0 0 0 eB) 106) := ⟨_, rfl⟩
 have hP : Rg.Own w2 w1.heap.size (partC (.leaf q v) a n c none 0 0 0 eB) 106 := by rw [hw2]; exact Rg.Own.new _ _ _
 have hb2 : Below w1.heap.size w1 w2 := by rw [hw2]; exact al1 _ _
 have HR := hid (hR.below hb2)
 have HE : Hid (∀ w3, Rg.Upd w2 w.heap.size w3 → GotT M w (.leaf q v) (.returned (tv (some ⟨w1.heap.size, 0, none⟩))) w3) := hid (fun w3 hu =>
  have hb := hu.below (hb1.trans (hb2.mono hb1.size)) (Nat.le_refl _)
  got_part hi hb hb1.size (fun e => by cases e) (heap_of hP hu (by omega)) (hB.1.below hb) (fun ad e hn => Or.inl (hB.2 ad e hn)) (Ks.nil _ _).weak)
 clear hR hb1 hb2 hP hi hB
 subst hw2
 subst hw1
 go_enter Tryz.func62, Tryz.ntmps62
 go_wp2_with (first
  | (refine Rg.run rfl _ _ (run_alloc_tree _ _ _ _ rfl rfl) ?_)
  | (refine Rg.run rfl _ _ (op_build (built_leaf a n c q v) ⟨_, rfl, rfl⟩) ?_)
  | (refine Rg.run rfl _ _ (op_box_part ⟨_, rfl, rfl⟩) ?_)
  | (refine wpl_store_tree HR.out (by decide) (some ⟨w.heap.size + 1, 0, none⟩) rfl _ _ rfl rfl rfl ?_; intro w3 hO3 hu3; have HO3 := hid hO3; have HU3 := hid hu3; clear hO3 hu3))
 have := HE.out w3 HU3.out
 rw [hs1] at this
 exact bodyPost_ret (res_tree rfl _ rfl HO3.out) rfl this
theorem op_lit1 {ev : Operand → Value} {o : Oper} {w : World} {p : Option Addr} (b : Nat) (hb : b = w.heap.size) (ho : ∃ x, o.op = .buildSlice 85 1 #[(0, x)] ∧ ev x = tv p) :
  (execOp ev o).run Tryz.prog w = .ok (.value (.slice (some ⟨b, 0, none⟩) 1 1)) (w.alloc (.cells (rowT [p]) 26)) := by
 obtain ⟨x, ho, hx⟩ := ho
 subst hb
 unfold execOp
 simp only [ho, List.map_toArray, List.map_cons, List.map_nil, hx]
 kernel_rfl
theorem enter2 (w : World) (p : Option Addr) : ∃ w2, w2 = (w.alloc (.cells #[.pointer p] 26)).alloc (.cells #[.pointer none] 26) ∧ Rg.Own w2 w.heap.size #[.pointer p] 26 ∧ Rg.Own w2 (w.heap.size + 1) #[.pointer none] 26 ∧ Below w.heap.size w w2 ∧ w2.heap.size = w.heap.size + 2 := by
 refine ⟨_, rfl, (Rg.Own.new _ _ _).below (al1 _ _), ?_, al2 _ _ _, by simp⟩
 have := Rg.Own.new (w.alloc (.cells #[.pointer p] 26)) #[.pointer none] 26
 simpa using this
theorem branch_any (M : Mp) (ka : Option Addr) (kn kc : Nat) (ks : Fin 16 → T) (w : World) (hi : Inv M w) (hK : Ks M w ka kn kc (partsT (.br ks))) :
  Calls Tryz.prog 85 #[.slice ka kn kc] w (GotT M w (.br ks)) := by
 obtain ⟨w1, hw1⟩ : ∃ w1, w1 = w.alloc (.cells #[.pointer none] 26) := ⟨_, rfl⟩
 have hR : Rg.Own w1 w.heap.size #[.pointer none] 26 := by rw [hw1]; exact Rg.Own.new _ _ _
 have hb1 : Below w.heap.size w w1 := by rw [hw1]; exact al1 _ _
 have hs1 : w1.heap.size = w.heap.size + 1 := by rw [hw1]; simp
 obtain ⟨w2, hw2⟩ : ∃ w2, w2 = w1.alloc (.cells (partC (.br ks) none 0 0 ka kn kc 0 eB) 106) := ⟨_, rfl⟩
 have hP : Rg.Own w2 w1.heap.size (partC (.br ks) none 0 0 ka kn kc 0 eB) 106 := by rw [hw2]; exact Rg.Own.new _ _ _
 have hb2 : Below w1.heap.size w1 w2 := by rw [hw2]; exact al1 _ _
 have HR := hid (hR.below hb2)
 have HE : Hid (∀ w3, Rg.Upd w2 w.heap.size w3 → GotT M w (.br ks) (.returned (tv (some ⟨w1.heap.size, 0, none⟩))) w3) := hid (fun w3 hu =>
  have hb := hu.below (hb1.trans (hb2.mono hb1.size)) (Nat.le_refl _)
  got_part hi hb hb1.size (fun e => by cases e) (heap_of hP hu (by omega)) (IsBs.nil _) (fun _ e => by cases e) (hK.fr hi (Fr.below M hb)).weak)
 clear hR hb1 hb2 hP hi hK
 subst hw2
 subst hw1
 go_enter Tryz.func85, Tryz.ntmps85
 go_wp2_with (first
  | (refine Rg.run rfl _ _ (run_alloc_tree _ _ _ _ rfl rfl) ?_)
  | (refine Rg.run rfl _ _ (op_build (built_br ka kn kc ks) ⟨_, rfl, rfl⟩) ?_)
  | (refine Rg.run rfl _ _ (op_box_part ⟨_, rfl, rfl⟩) ?_)
  | (refine wpl_store_tree HR.out (by decide) (some ⟨w.heap.size + 1, 0, none⟩) rfl _ _ rfl rfl rfl ?_; intro w3 hO3 hu3; have HO3 := hid hO3; have HU3 := hid hu3; clear hO3 hu3))
 have := HE.out w3 HU3.out
 rw [hs1] at this
 exact bodyPost_ret (res_tree rfl _ rfl HO3.out) rfl this
theorem behind_any (M : Mp) (a : Option Addr) (n c : Nat) (q : Pa) (p : Option Addr) (t : T) (w : World) (hi : Inv M w) (hB : Bs M w a n c q) (ht : IsT M p t) :
  Calls Tryz.prog 88 #[.slice a n c, .agg #[.pointer p]] w (GotT M w (wrap q t)) := by
 obtain ⟨w2, hw2, hO0, hO1, hb2, hs2⟩ := enter2 w p
 have hl := hB.1.len
 have hlc := hB.1.1
 have hmx := hB.1.2.1
 unfold maxLen at hmx
 have H0 := hid hO0
 by_cases hn : n = 0
 ·subst hn
  obtain rfl : q = [] := List.eq_nil_of_length_eq_zero hl
  have H1 := hid hO1
  have HE : Hid (∀ w3, Rg.Upd w2 (w.heap.size + 1) w3 → GotT M w (wrap [] t) (.returned (tv p)) w3) := hid (fun w3 hu => got_old hi ht (hu.below hb2 (by omega)))
  clear hO0 hO1 hb2 hs2 hB hi ht hl
  subst hw2
  go_enter Tryz.func88, Tryz.ntmps88
  go_wp2_with (first
   | (refine Rg.run rfl _ _ (run_alloc_tree _ _ _ (w.heap.size + 1) (by simp) rfl) ?_)
   | (refine Rg.run rfl _ _ (op_load_tree (own_cell (j := 0) H0.out rfl) ⟨_, rfl, rfl⟩) ?_)
   | (refine wpl_store_tree H1.out (by decide) p rfl _ _ rfl rfl rfl ?_; intro w3 hO3 hu3; have HO3 := hid hO3; have HU3 := hid hu3; clear hO3 hu3))
  exact bodyPost_ret (res_tree rfl _ rfl HO3.out) rfl (HE.out w3 HU3.out)
 ·have hq : q ≠ [] := fun e => hn (by rw [← hl, e]; rfl)
  have hwr : wrap q t = .ext q t := if_neg hq
  rw [hwr]
  have hnz : ((n : Int) == 0) = false := by simp; omega
  obtain ⟨w3, hw3⟩ : ∃ w3, w3 = w2.alloc (.cells (rowT [p]) 26) := ⟨_, rfl⟩
  have hK : Rg.Own w3 w2.heap.size (rowT [p]) 26 := by rw [hw3]; exact Rg.Own.new _ _ _
  have hb3 : Below w2.heap.size w2 w3 := by rw [hw3]; exact al1 _ _
  have hs3 : w3.heap.size = w.heap.size + 3 := by rw [hw3]; simp [hs2]
  obtain ⟨w4, hw4⟩ : ∃ w4, w4 = w3.alloc (.cells (partC (.ext q t) a n c (some ⟨w2.heap.size, 0, none⟩) 1 1 0 eB) 106) := ⟨_, rfl⟩
  have hP : Rg.Own w4 w3.heap.size (partC (.ext q t) a n c (some ⟨w2.heap.size, 0, none⟩) 1 1 0 eB) 106 := by rw [hw4]; exact Rg.Own.new _ _ _
  have hb4 : Below w3.heap.size w3 w4 := by rw [hw4]; exact al1 _ _
  have hb24 : Below w2.heap.size w2 w4 := hb3.trans (hb4.mono hb3.size)
  have H1 := hid (hO1.below hb24)
  have H2 := hid (hO1)
  have HE : Hid (∀ w5, Rg.Upd w4 (w.heap.size + 1) w5 → GotT M w (.ext q t) (.returned (tv (some ⟨w3.heap.size, 0, none⟩))) w5) := hid (fun w5 hu => by
   have hb := hu.below (hb2.trans (hb24.mono hb2.size)) (show w.heap.size ≤ w.heap.size + 1 by omega)
   refine got_part hi hb (by omega) (fun e => by cases e) (heap_of hP hu (by omega)) (hB.1.below hb) (fun ad e hn => Or.inl (hB.2 ad e hn)) ?_
   exact Ks0.row (ps := [p]) (b := w2.heap.size) (by omega) ((hK.below hb4).upd hu (by omega)) rfl (by unfold maxLen; simp) (fun j hj => by
    obtain rfl : j = 0 := by simp at hj; exact hj
    exact ht))
  rw [hs3] at HE
  rw [hs2] at hw4
  clear hO0 hO1 hb2 hb3 hb4 hb24 hP hK hB hi ht hwr hs3
  subst hw4
  subst hw3
  subst hw2
  clear hs2
  go_enter Tryz.func88, Tryz.ntmps88
  go_wp2_with (first
   | (refine Rg.run rfl _ _ (run_alloc_tree _ _ _ (w.heap.size + 1) (by simp) rfl) ?_)
   | (refine Rg.run rfl _ _ (op_load_tree (own_cell (j := 0) H0.out rfl) ⟨_, rfl, rfl⟩) ?_)
   | (refine Rg.run rfl _ _ (op_lit1 (p := p) (w.heap.size + 2) (by simp) ⟨_, rfl, rfl⟩) ?_)
   | (refine Rg.run rfl _ _ (op_build (built_ext a n c (some ⟨w.heap.size + 2, 0, none⟩) 1 1 q t) ⟨_, rfl, rfl⟩) ?_)
   | (refine Rg.run rfl _ _ (op_box_part ⟨_, rfl, rfl⟩) ?_)
   | (refine wpl_store_tree H1.out (by decide) (some ⟨w.heap.size + 3, 0, none⟩) rfl _ _ rfl rfl rfl ?_; intro w5 hO5 hu5; have HO5 := hid hO5; have HU5 := hid hu5; clear hO5 hu5))
  exact bodyPost_ret (res_tree rfl _ rfl HO5.out) rfl (HE.out w5 HU5.out)
end Tm
end
section
open Go.RowKit
namespace Tm
open Tr
def Ptrs (w : World) (a : Option Addr) (n c : Nat) (ps : List (Option Addr)) : Prop :=
 n ≤ c ∧ c ≤ maxLen ∧ ps.length = n ∧ (a = none → c = 0) ∧ ∀ j, j < n → ∃ b off, a = some ⟨b, off, none⟩ ∧ b < w.heap.size ∧ w.cell? ⟨b, off + j, none⟩ = some (.pointer (ps.getD j none))
def Are (M : Mp) (ps : List (Option Addr)) (l : List T) : Prop := ps.length = l.length ∧ ∀ j, j < ps.length → IsT M (ps.getD j none) (l.getD j .nil)
theorem Ks.ptrs {M : Mp} {w : World} {a : Option Addr} {n c : Nat} {l : List T} (h : Ks M w a n c l) : ∃ ps, Ptrs w a n c ps ∧ Are M ps l := by
 have hp : ∀ j, ∃ p, j < n → ∃ b off, a = some ⟨b, off, none⟩ ∧ b < w.heap.size ∧ w.cell? ⟨b, off + j, none⟩ = some (.pointer p) ∧ IsT M p (l.getD j .nil) := fun j => by
  by_cases hj : j < n
  ·obtain ⟨b, off, p, e, hlt, _, hc, ht⟩ := h.at' j hj
   exact ⟨p, fun _ => ⟨b, off, e, hlt, hc, ht⟩⟩
  ·exact ⟨none, fun h => absurd h hj⟩
 obtain ⟨F, hF⟩ : ∃ F : Nat → Option Addr, ∀ j, j < n → ∃ b off, a = some ⟨b, off, none⟩ ∧ b < w.heap.size ∧ w.cell? ⟨b, off + j, none⟩ = some (.pointer (F j)) ∧ IsT M (F j) (l.getD j .nil) := ⟨fun j => Classical.choose (hp j), fun j => Classical.choose_spec (hp j)⟩
 have e : ∀ j, j < n → ((List.range n).map F).getD j none = F j := fun j hj => by simp [List.getD, hj]
 refine ⟨(List.range n).map F, ⟨h.1, h.2.1, by simp, h.2.2.2.1, fun j hj => ?_⟩, by simp [h.len], fun j hj => ?_⟩
 ·obtain ⟨b, off, e1, hlt, hc, _⟩ := hF j hj
  exact ⟨b, off, e1, hlt, by rw [e j hj]; exact hc⟩
 ·have hj' : j < n := by simpa using hj
  obtain ⟨_, _, _, _, _, ht⟩ := hF j hj'
  rw [e j hj']; exact ht
theorem Ptrs.ks {M : Mp} {w : World} {a : Option Addr} {n c : Nat} {ps : List (Option Addr)} {l : List T} (h : Ptrs w a n c ps) (ha : Are M ps l) (hf : ∀ ad, a = some ad → 0 < n → M.ft ad.block) : Ks M w a n c l := by
 have hl := h.2.2.1
 refine ⟨h.1, h.2.1, by rw [← ha.1]; exact hl, h.2.2.2.1, fun j hj => ?_⟩
 obtain ⟨b, off, e, hlt, hc⟩ := h.2.2.2.2 j hj
 exact ⟨b, off, _, e, hlt, hf _ e (by omega), hc, ha.2 j (by omega)⟩
theorem Ptrs.below {w w' : World} {a : Option Addr} {n c : Nat} {ps : List (Option Addr)} (h : Ptrs w a n c ps) (hb : Below w.heap.size w w') : Ptrs w' a n c ps := by
 refine ⟨h.1, h.2.1, h.2.2.1, h.2.2.2.1, fun j hj => ?_⟩
 obtain ⟨b, off, e, hlt, hc⟩ := h.2.2.2.2 j hj
 exact ⟨b, off, e, Nat.lt_of_lt_of_le hlt hb.size, by rw [hb.cell (p := ⟨b, off + j, none⟩) hlt]; exact hc⟩
theorem Are.mono {M M' : Mp} {ps : List (Option Addr)} {l : List T} (h : Are M ps l) (hm : ∀ k t, M.at_ k = some t → M'.at_ k = some t) : Are M' ps l := ⟨h.1, fun j hj => (h.2 j hj).mono hm⟩
theorem Are.set {M : Mp} {ps : List (Option Addr)} {l : List T} (h : Are M ps l) (i : Nat) {p : Option Addr} {t : T} (ht : IsT M p t) : Are M (ps.set i p) (l.set i t) := by
 refine ⟨by simp [h.1], fun j hj => ?_⟩
 have hj' : j < ps.length := by simpa using hj
 have hjl : j < l.length := by rw [← h.1]; exact hj'
 by_cases e : i = j
 ·subst e
  rw [List.getD_eq_getElem?_getD, List.getD_eq_getElem?_getD, List.getElem?_set_self hj', List.getElem?_set_self hjl]
  exact ht
 ·rw [List.getD_eq_getElem?_getD, List.getD_eq_getElem?_getD, List.getElem?_set_ne e, List.getElem?_set_ne e, ← List.getD_eq_getElem?_getD, ← List.getD_eq_getElem?_getD]
  exact h.2 j hj'
def RowK (w : World) (g cap : Nat) (ps : List (Option Addr)) : Prop :=
 ∃ cur, Rg.Own w g cur 26 ∧ cur.size = cap ∧ ps.length ≤ cap ∧ cap ≤ maxLen ∧ ∀ j, j < ps.length → cur[j]? = some (.pointer (ps.getD j none))
theorem RowK.lt {w : World} {g cap : Nat} {ps : List (Option Addr)} (h : RowK w g cap ps) : g < w.heap.size := by
 obtain ⟨cur, hO, _⟩ := h
 exact hO.1
theorem RowK.below {w w' : World} {g cap : Nat} {ps : List (Option Addr)} (h : RowK w g cap ps) (hb : Below w.heap.size w w') : RowK w' g cap ps := by
 obtain ⟨cur, hO, h1⟩ := h
 exact ⟨cur, hO.below hb, h1⟩
theorem RowK.upd {w w' : World} {g b cap : Nat} {ps : List (Option Addr)} (h : RowK w g cap ps) (hu : Rg.Upd w b w') (hne : g ≠ b) : RowK w' g cap ps := by
 obtain ⟨cur, hO, h1⟩ := h
 exact ⟨cur, hO.upd hu hne, h1⟩
theorem RowK.ptrs {w : World} {g cap : Nat} {ps : List (Option Addr)} (h : RowK w g cap ps) : Ptrs w (some ⟨g, 0, none⟩) ps.length cap ps := by
 obtain ⟨cur, hO, hs, hl, hm, hc⟩ := h
 exact ⟨hl, hm, rfl, fun e => (by cases e), fun j hj => ⟨g, 0, rfl, hO.1, by rw [Nat.zero_add, cell_of_row w g _ _ _ _ hO.2]; exact hc j hj⟩⟩
theorem set_cells {cur : Array Value} {ps : List (Option Addr)} (hc : ∀ j, j < ps.length → cur[j]? = some (.pointer (ps.getD j none))) (i : Nat) (p : Option Addr) (hi : i < cur.size) : ∀ j, j < (ps.set i p).length → (cur.setIfInBounds i (.pointer p))[j]? = some (.pointer ((ps.set i p).getD j none)) := fun j hj => by
 have hj' : j < ps.length := by simpa using hj
 by_cases e : i = j
 ·subst e
  rw [List.getD_eq_getElem?_getD, List.getElem?_set_self hj']
  simp [hi]
 ·rw [List.getD_eq_getElem?_getD, List.getElem?_set_ne e, ← List.getD_eq_getElem?_getD, Array.getElem?_setIfInBounds_ne e]
  exact hc j hj'
theorem wpl_store_row {ops : Array Oper} {rest : List Oper} {o : Oper} {act : Act} {w : World} {Q : Exit → Act → World → Prop} {g cap i : Nat} {ps : List (Option Addr)} (h : RowK w g cap ps) (hof : i < ps.length) (p : Option Addr)
  (hgd : o.guard = none) (x y : Operand) (ho : o.op = .store 26 x y) (hx : act.eval x = .pointer (some ⟨g, i, none⟩)) (hy : act.eval y = tv p)
  (hQ : ∀ w', RowK w' g cap (ps.set i p) → Rg.Upd w g w' → wpList Tryz.prog ops Q rest (act.put o.dst undef) w') : wpList Tryz.prog ops Q (o :: rest) act w := by
 obtain ⟨cur, hO, hs, hl, hm, hc⟩ := h
 refine wpl_store_tree hO (off := i) (by omega) p hgd x y ho hx hy (fun w' hO' hu => hQ w' ⟨_, hO', by simp [hs], by simpa using hl, hm, set_cells hc i p (by omega)⟩ hu)
theorem info_tree' : (Tryz.prog.info? 26).map (fun i => (i.size, i.bytes)) = some (1, 8) := by kernel_rfl
theorem info_tree_zero : ((Tryz.prog.info? 26).bind (·.zero)).map (·.cells) = some #[.pointer none] := by kernel_rfl
theorem info_tree_parts : ∃ i z, Tryz.prog.info? 26 = some i ∧ i.zero = some z ∧ i.size = 1 ∧ i.bytes = 8 ∧ z.cells.size = 1 := by
 have h1 := info_tree'
 have h2 := info_tree_zero
 cases hi : Tryz.prog.info? 26 with
 | none => rw [hi] at h1; simp at h1
 | some i =>
  rw [hi] at h1 h2
  simp at h1 h2
  cases hz : i.zero with
  | none => rw [hz] at h2; simp at h2
  | some z =>
   rw [hz] at h2
   simp at h2
   exact ⟨i, z, rfl, hz, h1.1, h1.2, by rw [h2]; rfl⟩
theorem nil_nil (w : World) : (binOp .eql 85 (.slice none 0 0) (.slice none 0 0)).run Tryz.prog w = .ok (.bool true) w := by kernel_rfl
theorem some_nil (a : Addr) (n cap : Nat) (w : World) : (binOp .eql 85 (.slice (some a) n cap) (.slice none 0 0)).run Tryz.prog w = .ok (.bool false) w := by kernel_rfl
theorem clone_none (w : World) : Calls Tryz.prog 84 #[.slice none 0 0] w fun e w' => e = .returned (.slice none 0 0) ∧ w = w' := by
 have hnil := nil_nil
 go_enter Tryz.func84, Tryz.ntmps84
 go_wp2
 go_ret
 exact ⟨rfl, rfl⟩
def GotRow (w : World) (ps : List (Option Addr)) (e : Ending) (w' : World) : Prop := ∃ g cap, e = .returned (.slice (some ⟨g, 0, none⟩) ps.length cap) ∧ w.heap.size ≤ g ∧ RowK w' g cap ps ∧ Below w.heap.size w w'
theorem row_of_owns {w w' : World} {ps : List (Option Addr)} {v : Value} {n : Nat} (ho : w'.ownsRow w.heap.size 26 1 v n (ps.map Value.pointer)) (hl : ps.length = n) (hne : v ≠ .slice none 0 0) (hb : Below w.heap.size w w') : GotRow w ps (.returned v) w' := by
 rcases ho.2 with ⟨rfl, hz⟩ | ⟨g, cap, cur, rfl, hbg, hg, hnc, hcm, hcs, htake⟩
 ·exact absurd rfl hne
 ·subst hl
  refine ⟨g, cap, rfl, hbg, ⟨cur, ⟨(Array.getElem?_eq_some_iff.1 hg).1, hg⟩, by omega, hnc, hcm, fun j hj => ?_⟩, hb⟩
  have h1 : (ps.map Value.pointer)[j]? = some (.pointer (ps.getD j none)) := by simp [List.getD, hj]
  rw [← htake, List.getElem?_take, if_pos (by omega)] at h1
  simpa using h1
theorem clone_some (ad : Addr) (n cap : Nat) (ps : List (Option Addr)) (w : World) (h : Ptrs w (some ad) n cap ps) (hn : n ≤ 1000000) :
  Calls Tryz.prog 84 #[.slice (some ad) n cap] w (GotRow w ps) := by
 obtain ⟨i0, z0, hi, hz, hs, hby, hzc⟩ := info_tree_parts
 have HI : Hid (_ ∧ _ ∧ _ ∧ _ ∧ _) := hid ⟨hi, hz, hs, hby, hzc⟩
 have hl := h.2.2.1
 have hcell : ∀ j u, (ps.map Value.pointer)[j]? = some u → (ad.add j).block < w.heap.size ∧ w.cell? (ad.add j) = some u := fun j u hu => by
  have hj : j < n := by rw [← hl]; have := (List.getElem?_eq_some_iff.1 hu).1; simpa using this
  obtain ⟨b, off, e, hlt, hc⟩ := h.2.2.2.2 j hj
  obtain rfl := Option.some.inj e
  have hx : u = .pointer (ps.getD j none) := by
   have hj' : j < ps.length := by omega
   simp [hj'] at hu
   simp [List.getD, hj', hu]
  rw [Addr.add_mid, hx]
  exact ⟨hlt, hc⟩
 have HC := hid hcell
 have HL := hid hl
 have hnil := some_nil ad n cap
 clear hi hz hs hby hzc h hcell hl
 go_enter Tryz.func84, Tryz.ntmps84
 have HO : Hid ((w.alloc (.cells #[] 26)).ownsRow w.heap.size 26 1 (.slice (some ⟨w.heap.size, 0, none⟩) 0 0) 0 []) := hid (World.ownsRow_made w #[] 0 (Nat.le_refl _) (Nat.zero_le _) (by simp))
 go_wp2_with (at_builtin; refine wpList_append_own _ rfl _ _ 85 rfl w.heap.size 26 i0 z0 1 8 Tryz.underlying85 HI.out.1 HI.out.2.1 HI.out.2.2.1 HI.out.2.2.2.1 HI.out.2.2.2.2 (by decide) _ _ _ rfl HO.out ad n cap (ps.map Value.pointer) rfl (by simp [HL.out]) ?c2 ?c6 ?c3 ?c4 ?c5 ?_)
 case c2 =>
  intro j u hu
  rw [(al1 w _).cell (HC.out j u hu).1]
  exact (HC.out j u hu).2
 case c6 =>
  intro u hu
  simp at hu
  obtain ⟨x, _, rfl⟩ := hu
  rfl
 case c3 => unfold maxLen; omega
 case c4 => omega
 case c5 => simp
 intro v' w2 hown2 hgrow hnil'
 have HG : Hid (GotRow w ps (.returned v') w2) := hid (row_of_owns (by simpa using hown2) HL.out hnil' ((al1 w _).grown hgrow (by simp) (fun k hk => by simp [Value.ownBlock] at hk; omega)))
 clear hown2 hgrow hnil'
 go_wp2
 go_ret
 exact HG.out
end Tm
end
section
open Go.RowKit
namespace Tm
open Tr Ni Pk
theorem cp_common : ∀ x y : List UInt8, commonN x y = cp x y
 | [], _ => rfl
 | _ :: _, [] => rfl
 | a :: xs, b :: ys => by
  unfold commonN cp
  rw [cp_common xs ys]
theorem cp_pre : ∀ {q p : Pa}, q <+: p → cp q p = q.length
 | [], _, _ => rfl
 | a :: q, [], h => by simp at h
 | a :: q, b :: p, h => by
  obtain ⟨rfl, h2⟩ := List.cons_prefix_cons.1 h
  unfold cp
  rw [if_pos rfl, cp_pre h2]; rfl
theorem cp_not : ∀ {q p : Pa}, ¬ q <+: p → cp q p < q.length
 | [], _, h => absurd List.nil_prefix h
 | a :: q, [], _ => by simp [cp]
 | a :: q, b :: p, h => by
  unfold cp
  by_cases e : a = b
  ·subst e
   rw [if_pos rfl]
   have := cp_not (q := q) (p := p) (fun g => h (List.cons_prefix_cons.2 ⟨rfl, g⟩))
   simp; omega
  ·rw [if_neg e]; simp
theorem drewN_below (w : World) (q : Nat) : Below w.heap.size w (w.drewN q) := below_drewN (Below.refl _ _) q
theorem along_any (a b : Option Addr) (n m c d : Nat) (x y : Pa) (hn : n ≤ 1000000) (hm : m ≤ 1000000) (hle : n ≤ m) (w : World) (ha : IsBs w a n c x) (hb : IsBs w b m d y) :
  Calls Tryz.prog 86 #[.slice a n c, .slice b m d] w fun e w' => e = .returned (.int .i64 (cp x y : Nat)) ∧ Below w.heap.size w w' := by
 have HC := hid (common_any a b n m c d x y hn hm w ha hb)
 have hx := ha.len
 have hl : cp x y ≤ n := by rw [← hx]; exact cp_le x y
 rw [cp_common] at HC
 obtain ⟨k, hk⟩ : ∃ k, cp x y = k := ⟨_, rfl⟩
 rw [hk] at HC hl ⊢
 clear hk ha hb hx
 by_cases h : k = m
 ·subst h
  have h2 : decide ((k : Int) < (n : Int)) = false := by simp; omega
  have h1 : ((k : Int) == (k : Int)) = true := by simp
  go_enter Tryz.func86, Tryz.ntmps86
  go_wp2_with fail
  refine HC.out.mono ?_
  rintro e w1 ⟨rfl, q, rfl⟩
  go_wp2
  go_ret
  exact ⟨rfl, drewN_below _ _⟩
 ·have h1 : ((k : Int) == (m : Int)) = false := by simp; omega
  go_enter Tryz.func86, Tryz.ntmps86
  go_wp2_with fail
  refine HC.out.mono ?_
  rintro e w1 ⟨rfl, q, rfl⟩
  go_wp2
  go_ret
  exact ⟨rfl, drewN_below _ _⟩
theorem Inv.path {M : Mp} {w : World} (hi : Inv M w) {b : Nat} {t : T} (hm : M.at_ b = some t) : ∃ a n c, w.cell? ⟨b, 1, none⟩ = some (.slice a n c) ∧ Bs M w a n c (pathT t) := by
 obtain ⟨a, n, c, ka, kn, kc, d, r, hb, hB, _⟩ := hi.part hm
 exact ⟨a, n, c, (part_cells hb).1.2.1, hB⟩
theorem Inv.val {M : Mp} {w : World} (hi : Inv M w) {b : Nat} {t : T} (hm : M.at_ b = some t) : w.cell? ⟨b, 2, none⟩ = some (.string (valT t)) := by
 obtain ⟨a, n, c, ka, kn, kc, d, r, hb, _⟩ := hi.part hm
 exact (part_cells hb).1.2.2.1
theorem Inv.kids {M : Mp} {w : World} (hi : Inv M w) {b : Nat} {t : T} (hm : M.at_ b = some t) : ∃ a n c, w.cell? ⟨b, 3, none⟩ = some (.slice a n c) ∧ Ks M w a n c (partsT t) := by
 obtain ⟨a, n, c, ka, kn, kc, d, r, hb, _, hk, _⟩ := hi.part hm
 exact ⟨ka, kn, kc, (part_cells hb).1.2.2.2, hk⟩
end Tm
end
section
open Go.RowKit
namespace Tm
open Tr Ni Pk
theorem turn_any (a : Option Addr) (n c : Nat) (way : Pa) (hn : 1 ≤ n) (w : World) (hB : IsBs w a n c way) :
  Calls Tryz.prog 59 #[.slice a n c] w fun e w' => e = .returned (.tuple #[.int .u8 (way.getD 0 0).toNat, .slice (fromA a c 1) (n - 1) (c - 1)]) ∧ Below w.heap.size w w' := by
 obtain ⟨b, off, rfl, hlt, hc⟩ := hB.at' 0 (by omega)
 rw [Nat.add_zero] at hc
 have hcap := hB.1
 have hmx := hB.2.1
 unfold maxLen at hmx
 obtain ⟨x, hx⟩ : ∃ x, (way.getD 0 0).toNat = x := ⟨_, rfl⟩
 rw [hx] at hc ⊢
 have hnz : ((n : Int) == 0) = false := by simp; omega
 have hn0 : 0 < n := hn
 clear hB hx
 go_enter Tryz.func59, Tryz.ntmps59
 go_wp2_with fail
 refine wp_region_noPanic ?_
 refine wp_region_held_drew (S := fun w' => Below w.heap.size w w') (by kernel_rfl) ((Below.refl _ _).drew) (fun hld => ?_)
 refine Rg.tk (i := 0) rfl ?_
 try simp only [Act.put, Rg.s]
 refine Rg.tk (i := 1) rfl ?_
 try simp only [Act.put, Rg.s]
 refine Rg.tk (i := 2) rfl ?_ (hy := by intro wz hSw; have hcc := (hSw.cell (p := ⟨b, off, none⟩) hlt).trans hc; (try dsimp only at hSw); go_simp <;> with_reducible rfl)
 try simp only [Act.put, Rg.s]
 refine Rg.tk (i := 3) rfl ?_
 try simp only [Act.put, Rg.s]
 refine Rg.tk (i := 4) rfl ?_ (hy := by intro wz hSw; (refine op_from (a := some ⟨b, off, none⟩) (n := n) (c := c) (i := 1) under_u8 size_u8 hn ?_; exact ⟨_, _, rfl, rfl, rfl⟩))
 try simp only [Act.put, Rg.s]
 refine Rg.tk (i := 5) rfl ?_
 try simp only [Act.put, Rg.s]
 refine Rg.tk (i := 6) rfl ?_
 try simp only [Act.put, Rg.s]
 refine wpAnyH_done (by kernel_rfl) ?_ _
 refine NoPanic.normal ?_
 go_wp2
 exact bodyPost_ret (results_tmp2 rfl _ _ _) rfl ⟨rfl, hld⟩
end Tm
end
section
open Go.RowKit
namespace Tm
open Tr Ni Pk
theorem Fr.upd {M M' : Mp} {w w1 w' : World} {g : Nat} (f : Fr M M' w w1) (hu : Rg.Upd w1 g w') (hg : w.heap.size ≤ g) : Fr M M' w w' :=
 ⟨hu.os.trans f.os, hu.tape.trans f.tape, hu.output.trans f.output, by rw [hu.size]; exact f.size, fun k hk hm => (hu.block k (by omega)).trans (f.block k hk hm), f.mono, f.fresh, f.grow, f.foot⟩
theorem finish {M M1 : Mp} {w w3 w4 : World} {t : T} {e : Ending} {g : Nat} {cs : Array Value} {ty : TypeId} (hi : Inv M w) (f3 : Fr M M1 w w3) (b3 : Below w.heap.size w w3) (hG : GotT M1 w3 t e w4)
  (hO3 : Rg.Own w3 g cs ty) (hne : ∀ (j : Nat) (x : Int), cs[j]? ≠ some (Value.int .u8 x)) (hg : w.heap.size ≤ g) (hg1 : ¬ M1.ft g) :
  ∃ p, e = .returned (tv p) ∧ Rg.Own w4 g cs ty ∧ ∀ w5, Rg.Upd w4 g w5 → GotT M w t (.returned (tv p)) w5 := by
 obtain ⟨p, M', he, ht, f, i, b⟩ := hG
 have hbw := b3.trans (b.mono b3.size)
 exact ⟨p, he, hO3.below b, fun w5 hu => ⟨p, M', rfl, ht, (f3.trans hi f).upd hu hg, i.upd hu (f.box hg1 hO3.1 (no_byte hO3 hne)), hu.below hbw hg⟩⟩
theorem isT_at {M : Mp} {b : Nat} {t : T} {w : World} (hi : Inv M w) (hm : M.at_ b = some t) : IsT M (some ⟨b, 0, none⟩) t := ⟨b, rfl, hm, (hi.part_ b t hm).1⟩
theorem cut_leaf (M : Mp) (b : Nat) (q : Pa) (u : ByteArray) (hm : M.at_ b = some (.leaf q u)) (k : Nat) (hk : k ≤ q.length) (w : World) (hi : Inv M w) :
  Calls Tryz.prog 117 #[.agg #[.pointer (some ⟨b, 0, none⟩)], .int .i64 k] w (GotT M w (.leaf (q.drop k) u)) := by
 obtain ⟨w2, hw2, hO0, hO1, hb2, hs2⟩ := enter2 w (some ⟨b, 0, none⟩)
 have hi2 := hi.below hb2
 obtain ⟨pa, pn, pc, c1, hP⟩ := hi2.path hm
 have c2 := hi2.val hm
 have hl : q.length = pn := hP.1.len
 have hcap := hP.1.1
 have hmx := hP.1.2.1
 unfold maxLen at hmx
 rw [hl] at hk
 have HK := hid (kind_any M _ _ w2 hi2 (isT_at hi2 hm))
 have HL : Hid (∀ w3, Below w2.heap.size w2 w3 → Calls Tryz.prog 62 #[.slice (fromA pa pc k) (pn - k) (pc - k), .string u] w3 (GotT M w3 (.leaf (q.drop k) u))) := hid (fun w3 hb3 =>
  leaf_any M _ _ _ _ _ w3 (hi2.below hb3) ((hP.fr hi2 (Fr.below M hb3)).from' k hk))
 have H0 := hid hO0
 have HF : Hid (∀ w3, Below w2.heap.size w2 w3 → ∀ e w4, GotT M w3 (.leaf (q.drop k) u) e w4 → ∃ p, e = .returned (tv p) ∧ Rg.Own w4 (w.heap.size + 1) #[.pointer none] 26 ∧ ∀ w5, Rg.Upd w4 (w.heap.size + 1) w5 → GotT M w (.leaf (q.drop k) u) (.returned (tv p)) w5) := hid (fun w3 hb3 e w4 hG =>
  finish hi (Fr.below M (bst hb2 hb3)) (bst hb2 hb3) hG (hO1.below hb3) (one_no _) (by omega) (hi.free (by omega)))
 have c2' : w2.cell? ⟨b, 2, none⟩ = some (.string u) := c2
 have h0 := own_cell (j := 0) hO0 rfl
 have HC : Hid (∀ w3, Below w2.heap.size w2 w3 → w3.cell? ⟨w.heap.size, 0, none⟩ = some (.pointer (some ⟨b, 0, none⟩)) ∧ w3.cell? ⟨b, 2, none⟩ = some (.string u)) := hid (fun w3 hb3 => ⟨cell_on hb3 h0, cell_on hb3 c2'⟩)
 clear hO0 hO1 hb2 hs2 hi hi2 hP c2 c2' hl
 subst hw2
 go_enter Tryz.func117, Tryz.ntmps117
 go_wp2_with (first
  | (refine Rg.run rfl _ _ (run_alloc_tree _ _ _ (w.heap.size + 1) (by simp) rfl) ?_)
  | (refine Rg.run rfl _ _ (op_from under_u8 size_u8 hk ⟨_, _, rfl, rfl, rfl⟩) ?_)
  | (refine Rg.run rfl _ _ (op_load_tree (own_cell (j := 0) H0.out rfl) ⟨_, rfl, rfl⟩) ?_))
 refine HK.out.mono ?_
 rintro e w3 ⟨rfl, hb3⟩
 obtain ⟨d0, d2⟩ := HC.out w3 hb3
 have HL3 := hid (HL.out w3 hb3)
 have HF3 := hid (HF.out w3 hb3)
 clear hb3 HC HL HF h0 c1
 unfold kindT
 go_wp2_with fail
 refine HL3.out.mono ?_
 intro e w4 hG
 obtain ⟨p, rfl, hO4, hE⟩ := HF3.out e w4 hG
 have HO4 := hid hO4
 have HE := hid hE
 clear hG hO4 hE HF3 HL3
 go_wp2_with (refine wpl_store_tree HO4.out (by decide) p rfl _ _ rfl rfl rfl ?_; intro w5 hO5 hu5; have HO5 := hid hO5; have HU5 := hid hu5; clear hO5 hu5)
 exact bodyPost_ret (res_tree rfl _ rfl HO5.out) rfl (HE.out w5 HU5.out)
theorem cut_ext (M : Mp) (b : Nat) (q : Pa) (s : T) (hm : M.at_ b = some (.ext q s)) (k : Nat) (hk : k ≤ q.length) (w : World) (hi : Inv M w) :
  Calls Tryz.prog 117 #[.agg #[.pointer (some ⟨b, 0, none⟩)], .int .i64 k] w (GotT M w (wrap (q.drop k) s)) := by
 obtain ⟨w2, hw2, hO0, hO1, hb2, hs2⟩ := enter2 w (some ⟨b, 0, none⟩)
 have hi2 := hi.below hb2
 obtain ⟨pa, pn, pc, c1, hP⟩ := hi2.path hm
 obtain ⟨ka, kn, kc, c3, hK⟩ := hi2.kids hm
 obtain ⟨kb, ko, p0, rfl, hklt, hkf, hk0, hT0⟩ := hK.at' 0 (by rw [← hK.len]; exact Nat.one_pos)
 have hkn : kn = 1 := hK.len.symm
 have hkc := hK.1
 have hkm := hK.2.1
 unfold maxLen at hkm
 rw [Nat.add_zero] at hk0
 have hT0' : IsT M p0 s := hT0
 have hl : q.length = pn := hP.1.len
 have hcap := hP.1.1
 have hmx := hP.1.2.1
 unfold maxLen at hmx
 rw [hl] at hk
 have HK := hid (kind_any M _ _ w2 hi2 (isT_at hi2 hm))
 have h0 := own_cell (j := 0) hO0 rfl
 have H3 : Hid (∀ w3, Below w2.heap.size w2 w3 → Calls Tryz.prog 88 #[.slice (fromA pa pc k) (pn - k) (pc - k), .agg #[.pointer p0]] w3 (GotT M w3 (wrap (q.drop k) s)) ∧ (∀ e w9, GotT M w3 (wrap (q.drop k) s) e w9 → ∃ p, e = .returned (tv p) ∧ Rg.Own w9 (w.heap.size + 1) #[.pointer none] 26 ∧ ∀ w10, Rg.Upd w9 (w.heap.size + 1) w10 → GotT M w (wrap (q.drop k) s) (.returned (tv p)) w10) ∧
   w3.cell? ⟨w.heap.size, 0, none⟩ = some (.pointer (some ⟨b, 0, none⟩)) ∧ w3.cell? ⟨b, 3, none⟩ = some (.slice (some ⟨kb, ko, none⟩) kn kc) ∧ w3.cell? ⟨kb, ko, none⟩ = some (.pointer p0)) := hid (fun w3 hb3 =>
  ⟨behind_any M _ _ _ _ _ _ w3 (hi2.below hb3) ((hP.fr hi2 (Fr.below M hb3)).from' k hk) hT0',
   fun e w9 hG => finish hi (Fr.below M (bst hb2 hb3)) (bst hb2 hb3) hG (hO1.below hb3) (one_no _) (by omega) (hi.free (by omega)),
   cell_on hb3 h0, cell_on hb3 c3, cell_on hb3 hk0⟩)
 have H0 := hid hO0
 clear hO0 hO1 hb2 hs2 hi hi2 hP hl hK hT0 hT0' c3 hk0 h0
 subst hw2
 go_enter Tryz.func117, Tryz.ntmps117
 go_wp2_with (first
  | (refine Rg.run rfl _ _ (run_alloc_tree _ _ _ (w.heap.size + 1) (by simp) rfl) ?_)
  | (refine Rg.run rfl _ _ (op_from under_u8 size_u8 hk ⟨_, _, rfl, rfl, rfl⟩) ?_)
  | (refine Rg.run rfl _ _ (op_load_tree (own_cell (j := 0) H0.out rfl) ⟨_, rfl, rfl⟩) ?_))
 refine HK.out.mono ?_
 rintro e w3 ⟨rfl, hb3⟩
 obtain ⟨HB, HF, d0, d3, e0⟩ := H3.out w3 hb3
 replace HB := hid HB
 replace HF := hid HF
 clear hb3 H3 c1
 unfold kindT
 go_wp2_with (refine Rg.run rfl _ _ (op_load_tree e0 ⟨_, rfl, rfl⟩) ?_)
 refine HB.out.mono ?_
 intro e w9 hG
 obtain ⟨p9, rfl, hO9, hE⟩ := HF.out e w9 hG
 have HO9 := hid hO9
 have HE := hid hE
 clear hG hO9 hE
 go_wp2_with (refine wpl_store_tree HO9.out (by decide) p9 rfl _ _ rfl rfl rfl ?_; intro w10 hO10 hu10; have HO10 := hid hO10; have HU10 := hid hu10; clear hO10 hu10)
 exact bodyPost_ret (res_tree rfl _ rfl HO10.out) rfl (HE.out w10 HU10.out)
end Tm
end
section
open Go.RowKit
namespace Tm
open Tr Ni Pk
theorem parts_br_len (ks : Fin 16 → T) : (partsT (.br ks)).length = 16 := by simp [partsT]
theorem parts_br_at (ks : Fin 16 → T) (i : Fin 16) : (partsT (.br ks)).getD i.val .nil = ks i := by
 have hi := i.isLt
 show ((List.finRange 16).map ks).getD i.val .nil = ks i
 rw [List.getD_eq_getElem?_getD, List.getElem?_map, List.getElem?_eq_getElem (by simp)]
 simp
theorem parts_set (ks : Fin 16 → T) (i : Fin 16) (t : T) : (partsT (.br ks)).set i.val t = partsT (.br fun j => if j = i then t else ks j) := by
 apply List.ext_getElem?
 intro j
 by_cases hj : j < 16
 ·have h1 := parts_br_at (fun j => if j = i then t else ks j) ⟨j, hj⟩
  have h2 := parts_br_at ks ⟨j, hj⟩
  have hl1 : j < (partsT (.br ks)).length := by rw [parts_br_len]; exact hj
  have hl2 : j < (partsT (.br fun j => if j = i then t else ks j)).length := by rw [parts_br_len]; exact hj
  rw [List.getD_eq_getElem?_getD, List.getElem?_eq_getElem hl2] at h1
  rw [List.getD_eq_getElem?_getD, List.getElem?_eq_getElem hl1] at h2
  rw [List.getElem?_eq_getElem hl2]
  by_cases e : i.val = j
  ·subst e
   rw [List.getElem?_set_self hl1]
   simp only [Option.getD_some] at h1
   rw [h1]; simp
  ·rw [List.getElem?_set_ne e, List.getElem?_eq_getElem hl1]
   have : (⟨j, hj⟩ : Fin 16) ≠ i := fun h => e (by rw [← h])
   simp only [Option.getD_some] at h1 h2
   rw [h1, h2, if_neg this]
 ·rw [List.getElem?_eq_none (by rw [List.length_set, parts_br_len]; omega), List.getElem?_eq_none (by rw [parts_br_len]; omega)]
theorem enter3 (w : World) (p q : Option Addr) : ∃ w2, w2 = ((w.alloc (.cells #[.pointer p] 26)).alloc (.cells #[.pointer q] 26)).alloc (.cells #[.pointer none] 26) ∧ Rg.Own w2 w.heap.size #[.pointer p] 26 ∧ Rg.Own w2 (w.heap.size + 1) #[.pointer q] 26 ∧ Rg.Own w2 (w.heap.size + 2) #[.pointer none] 26 ∧ Below w.heap.size w w2 ∧ w2.heap.size = w.heap.size + 3 := by
 have h2 := Rg.Own.new (w.alloc (.cells #[.pointer p] 26)) #[.pointer q] 26
 have h3 := Rg.Own.new ((w.alloc (.cells #[.pointer p] 26)).alloc (.cells #[.pointer q] 26)) #[.pointer none] 26
 rw [show (w.alloc (.cells #[.pointer p] 26)).heap.size = w.heap.size + 1 by simp] at h2
 rw [show ((w.alloc (.cells #[.pointer p] 26)).alloc (.cells #[.pointer q] 26)).heap.size = w.heap.size + 2 by simp] at h3
 exact ⟨_, rfl, ((Rg.Own.new _ _ _).below (al1 _ _)).below (al1 _ _), h2.below (al1 _ _), h3, (al2 _ _ _).alloc (by simp; omega) _, by simp⟩
theorem turned_any (M : Mp) (b : Nat) (ks : Fin 16 → T) (hm : M.at_ b = some (.br ks)) (i : Fin 16) (p : Option Addr) (t : T) (ht : IsT M p t) (w : World) (hi : Inv M w) :
  Calls Tryz.prog 60 #[.agg #[.pointer (some ⟨b, 0, none⟩)], .int .u8 i.val, .agg #[.pointer p]] w (GotT M w (.br fun j => if j = i then t else ks j)) := by
 obtain ⟨w2, hw2, hO0, hO1, hO2, hb2, hs2⟩ := enter3 w (some ⟨b, 0, none⟩) p
 have hi2 := hi.below hb2
 obtain ⟨ka, kn, kc, c3, hK⟩ := hi2.kids hm
 have hkn : kn = 16 := by rw [← hK.len]; exact parts_br_len ks
 subst hkn
 obtain ⟨ps, hPs, hAre⟩ := hK.ptrs
 obtain ⟨kb, ko, p0, rfl, _⟩ := hK.at' 0 (by omega)
 have hpl : ps.length = 16 := hPs.2.2.1
 have HC : Hid (Calls Tryz.prog 84 #[.slice (some ⟨kb, ko, none⟩) 16 kc] w2 fun e w' => ∃ g cap, e = .returned (.slice (some ⟨g, 0, none⟩) 16 cap) ∧ w2.heap.size ≤ g ∧ RowK w' g cap ps ∧ Below w2.heap.size w2 w') := hid (by
  have := clone_some ⟨kb, ko, none⟩ 16 kc ps w2 hPs (by omega)
  refine this.mono ?_
  rintro e w' ⟨g, cap, rfl, h1, h2, h3⟩
  exact ⟨g, cap, by rw [hpl], h1, h2, h3⟩)
 have hlt := i.isLt
 have hiv : ((nibOf i).toNat : Nat) = i.val := nibOf_toNat i
 obtain ⟨k, hk⟩ : ∃ k, i.val = k := ⟨_, rfl⟩
 have H3 : Hid (∀ g cap w4, w2.heap.size ≤ g → RowK w4 g cap ps → Below w2.heap.size w2 w4 → Rg.Own w4 (w.heap.size + 1) #[.pointer p] 26 ∧ 16 ≤ cap ∧ cap ≤ maxLen ∧ ∀ w5, RowK w5 g cap (ps.set k p) → Rg.Upd w4 g w5 → ∃ M5,
   Calls Tryz.prog 85 #[.slice (some ⟨g, 0, none⟩) 16 cap] w5 (GotT M5 w5 (.br fun j => if j = i then t else ks j)) ∧
   ∀ e w9, GotT M5 w5 (.br fun j => if j = i then t else ks j) e w9 → ∃ p, e = .returned (tv p) ∧ Rg.Own w9 (w.heap.size + 2) #[.pointer none] 26 ∧ ∀ w10, Rg.Upd w9 (w.heap.size + 2) w10 → GotT M w (.br fun j => if j = i then t else ks j) (.returned (tv p)) w10) := hid (fun g cap w4 hg hR hb4 => by
  refine ⟨hO1.below hb4, by have := hR.ptrs.1; omega, hR.ptrs.2.1, fun w5 hR5 hu => ?_⟩
  have hbw := hu.below (bst hb2 hb4) (show w.heap.size ≤ g by omega)
  have hi5 : Inv (plus M (fun k => k = g)) w5 := (hi.below hbw).plus (fun k hk => by rw [hk]; exact hR5.lt)
  have hK5 : Ks (plus M (fun k => k = g)) w5 (some ⟨g, 0, none⟩) 16 cap (partsT (.br fun j => if j = i then t else ks j)) := by
   have h1 := hR5.ptrs
   rw [List.length_set, hpl] at h1
   rw [← parts_set, hk]
   exact h1.ks ((hAre.set k ht).mono fun _ _ h => h) (fun ad e _ => by
    obtain rfl := Option.some.inj e
    exact Or.inr rfl)
  have hO5 := (hO2.below hb4).upd hu (by omega)
  exact ⟨plus M (fun k => k = g), branch_any _ _ _ _ _ w5 hi5 hK5, fun e w9 hG => finish hi ((Fr.below M hbw).plus (fun k hk => Or.inl (by omega))) hbw hG hO5 (one_no _) (by omega) (fun h => h.elim (hi.free (by omega)) (fun h => by omega))⟩)
 rw [hk] at hlt ⊢
 have h0 := own_cell (j := 0) hO0 rfl
 have HPl := hid hpl
 clear hO0 hO1 hO2 hb2 hs2 hi hi2 hK hPs hAre ht hpl hiv hk hm
 obtain ⟨R, hRr⟩ : ∃ R, (T.br fun j => if j = i then t else ks j) = R := ⟨_, rfl⟩
 rw [hRr] at H3 ⊢
 clear hRr
 subst hw2
 go_enter Tryz.func60, Tryz.ntmps60
 go_wp2_with (refine Rg.run rfl _ _ (run_alloc_tree _ _ _ (w.heap.size + 2) (by simp) rfl) ?_)
 refine HC.out.mono ?_
 rintro e w4 ⟨g, cap, rfl, hg, hR, hb4⟩
 obtain ⟨hO4, hcap, hcm, H5⟩ := H3.out g cap w4 hg hR hb4
 unfold maxLen at hcm
 replace H5 := hid H5
 have HO4 := hid hO4
 have HR4 := hid hR
 clear H3 HC hg hR hb4 hO4 c3 h0
 go_wp2_with (first
  | (refine Rg.run rfl _ _ (op_load_tree (own_cell (j := 0) HO4.out rfl) ⟨_, rfl, rfl⟩) ?_)
  | (refine wpl_store_row HR4.out (i := k) (by rw [HPl.out]; exact hlt) p rfl _ _ rfl rfl rfl ?_; intro w5 hR5 hu5; have HR5 := hid hR5; have HU5 := hid hu5; clear hR5 hu5))
 obtain ⟨M5, HB, HF⟩ := H5.out w5 HR5.out HU5.out
 replace HB := hid HB
 replace HF := hid HF
 clear H5 HO4 HR4 HR5 HU5
 refine HB.out.mono ?_
 intro e w9 hG
 obtain ⟨p9, rfl, hO9, hE⟩ := HF.out e w9 hG
 have HO9 := hid hO9
 have HE := hid hE
 clear hG hO9 hE
 go_wp2_with (refine wpl_store_tree HO9.out (by decide) p9 rfl _ _ rfl rfl rfl ?_; intro w10 hO10 hu10; have HO10 := hid hO10; have HU10 := hid hu10; clear hO10 hu10)
 exact bodyPost_ret (res_tree rfl _ rfl HO10.out) rfl (HE.out w10 HU10.out)
end Tm
end
end Go.Proofs.YtooklabipgmolaaGreatDoor
