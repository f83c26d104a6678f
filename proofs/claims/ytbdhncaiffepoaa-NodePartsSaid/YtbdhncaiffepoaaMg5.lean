/-
  Plain facts: what is packed is unpacked, what is unpacked is packed.
-/
import Derived.Test.YtbdhncaiffepoaaMg4
import Derived.Test.YtbdhncaiffepoaaMg2
import Derived.BigQuiet
namespace Go.Proofs.Ytbdhncaiffepoaa
set_option maxRecDepth 20000
open Go.RowKit

namespace Ni
theorem pairsK_getD (f : List UInt8) (hf : rightB f = true) (k j : Nat) (hj : j < k) : ((pairsK f k).getD j 0).toNat = 16 * (f.getD (2 * j) 0).toNat + (f.getD (2 * j + 1) 0).toNat := by
  have h1 := rightB_getD f hf (2 * j)
  have h2 := rightB_getD f hf (2 * j + 1)
  have e : (pairsK f k).getD j 0 = UInt8.ofNat (16 * (f.getD (2 * j) 0).toNat + (f.getD (2 * j + 1) 0).toNat) := by
    simp [pairsK, List.getD, hj]
  rw [e]
  simp only [UInt8.toNat_ofNat']
  omega
theorem nib_pairs (f : List UInt8) (hf : rightB f = true) (k i : Nat) (hi : i < 2 * k) : nibAt ⟨(pairsK f k).toArray⟩ i = (f.getD i 0).toNat := by
  have h1 := rightB_getD f hf (2 * (i / 2))
  have h2 := rightB_getD f hf (2 * (i / 2) + 1)
  have e := pairsK_getD f hf k (i / 2) (by omega)
  unfold nibAt
  show (if i % 2 = 0 then ((pairsK f k).getD (i / 2) 0).toNat / 16 else ((pairsK f k).getD (i / 2) 0).toNat % 16) = _
  rw [e]
  by_cases h : i % 2 = 0
  · rw [if_pos h]
    have e2 : 2 * (i / 2) = i := by omega
    rw [e2] at h1 h2 ⊢
    omega
  · rw [if_neg h]
    have e2 : 2 * (i / 2) + 1 = i := by omega
    rw [e2] at h2 ⊢
    omega
theorem list_ext_toNat {a b : List UInt8} (hl : a.length = b.length) (h : ∀ i, i < a.length → (a.getD i 0).toNat = (b.getD i 0).toNat) : a = b := by
  apply List.ext_getElem hl
  intro i h1 h2
  have := h i h1
  simp only [List.getD, List.getElem?_eq_getElem h1, List.getElem?_eq_getElem h2, Option.getD_some] at this
  exact UInt8.toNat_inj.1 this
theorem nibs_pairs (f : List UInt8) (hf : rightB f = true) (k : Nat) (hk : f.length = 2 * k) : nibsL ⟨(pairsK f k).toArray⟩ = f := by
  have hs : (⟨(pairsK f k).toArray⟩ : ByteArray).size = k := by show (pairsK f k).toArray.size = k; simp [pairsK]
  apply list_ext_toNat
  · rw [nibsL_length, hs, hk]
  · intro i hi
    rw [nibsL_length, hs] at hi
    rw [nibsL_getD _ _ (by rw [hs]; exact hi), nib_pairs f hf k i hi]
theorem pairs_nibs (s : ByteArray) : pairsK (nibsL s) s.size = s.data.toList := by
  apply list_ext_toNat
  · rw [pairsK_length]; simp
  · intro j hj
    rw [pairsK_length] at hj
    rw [pairsK_getD _ (nibsL_right s) _ _ hj, nibsL_getD s _ (by omega), nibsL_getD s _ (by omega)]
    unfold nibAt
    rw [if_pos (by omega), if_neg (by omega), show 2 * j / 2 = j by omega, show (2 * j + 1) / 2 = j by omega]
    omega

theorem packL_size (l : List UInt8) (leaf : Bool) : (⟨(packL l leaf).toArray⟩ : ByteArray).size = l.length / 2 + 1 := by
  show (packL l leaf).toArray.size = _
  simp [packL, pairsK]
theorem nibs_pack (l : List UInt8) (leaf : Bool) (hr : rightB l = true) : nibsL ⟨(packL l leaf).toArray⟩ = fullL l leaf :=
  nibs_pairs _ (fullL_right l leaf hr) _ (fullL_length l leaf)
theorem nibAt_pack (l : List UInt8) (leaf : Bool) (hr : rightB l = true) (i : Nat) (hi : i < 2) : nibAt ⟨(packL l leaf).toArray⟩ i = ((fullL l leaf).getD i 0).toNat :=
  nib_pairs _ (fullL_right l leaf hr) _ _ (by omega)
/-- what was packed is a hex-prefix -/
theorem pack_good (l : List UInt8) (leaf : Bool) (hr : rightB l = true) (hl : l.length ≤ 64) : ¬ Bad ⟨(packL l leaf).toArray⟩ := by
  unfold Bad
  rw [nibAt_pack l leaf hr 0 (by omega), nibAt_pack l leaf hr 1 (by omega), full_0, full_1, packL_size]
  unfold markN
  cases leaf <;> simp only [if_true, if_false, Bool.false_eq_true] <;> split <;> omega
theorem pack_leaf (l : List UInt8) (leaf : Bool) (hr : rightB l = true) : leafB ⟨(packL l leaf).toArray⟩ = leaf := by
  unfold leafB
  rw [nibAt_pack l leaf hr 0 (by omega), full_0]
  unfold markN
  cases leaf <;> simp <;> omega
theorem pack_path (l : List UInt8) (leaf : Bool) (hr : rightB l = true) : pathL ⟨(packL l leaf).toArray⟩ = l := by
  unfold pathL
  rw [nibAt_pack l leaf hr 0 (by omega), full_0, nibs_pack l leaf hr]
  have hm : markN l.length leaf % 2 = l.length % 2 := by unfold markN; cases leaf <;> simp
  rw [hm]
  unfold fullL
  by_cases h : l.length % 2 = 1
  · rw [if_pos h, h]
    cases l with
    | nil => simp at h
    | cons x r => simp
  · rw [if_neg h, show l.length % 2 = 0 by omega]
    simp

theorem nibs_two (s : ByteArray) (h : 0 < s.size) : ∃ a b r, nibsL s = a :: b :: r ∧ a.toNat = nibAt s 0 ∧ b.toNat = nibAt s 1 := by
  have h1 := nibsL_length s
  have h2 := nibsL_getD s 0 (by omega)
  have h3 := nibsL_getD s 1 (by omega)
  cases e : nibsL s with
  | nil => rw [e] at h1; simp at h1; omega
  | cons a t =>
    cases t with
    | nil => rw [e] at h1; simp at h1; omega
    | cons b r =>
      rw [e] at h2 h3
      exact ⟨a, b, r, rfl, by simpa using h2, by simpa using h3⟩
theorem path_right (s : ByteArray) : rightB (pathL s) = true := by
  have h := nibsL_right s
  unfold rightB at h ⊢
  rw [List.all_eq_true] at h ⊢
  exact fun x hx => h x (List.mem_of_mem_drop hx)
theorem path_length (s : ByteArray) : (pathL s).length = 2 * s.size - (2 - nibAt s 0 % 2) := by
  unfold pathL; rw [List.length_drop, nibsL_length]
theorem path_le (s : ByteArray) (hb : ¬ Bad s) : (pathL s).length ≤ 64 := by
  rw [path_length]; unfold Bad at hb; omega
/-- what was unpacked is packed again -/
theorem unpack_full (s : ByteArray) (h : 0 < s.size) (hb : ¬ Bad s) : fullL (pathL s) (leafB s) = nibsL s := by
  obtain ⟨a, b, r, e, ha, hb'⟩ := nibs_two s h
  have hl := path_length s
  have hm3 : nibAt s 0 ≤ 3 := by unfold Bad at hb; omega
  have hmk : markN (pathL s).length (leafB s) = nibAt s 0 := by
    unfold markN leafB
    rw [hl]
    by_cases h2 : nibAt s 0 / 2 % 2 = 1
    · simp only [h2, decide_true, if_true]; omega
    · simp only [h2, decide_false, Bool.false_eq_true, if_false]; omega
  have ea : UInt8.ofNat (nibAt s 0) = a := by rw [← ha]; simp
  unfold fullL
  rw [hmk, ea, e]
  by_cases hp : nibAt s 0 % 2 = 1
  · have ho : (pathL s).length % 2 = 1 := by rw [hl]; omega
    rw [if_pos ho, ho, List.take_append_drop]
    unfold pathL
    rw [hp, e]; rfl
  · have ho : (pathL s).length % 2 = 0 := by rw [hl]; omega
    have hb0 : b = 0 := by
      apply UInt8.toNat_inj.1
      rw [hb']; unfold Bad at hb; show nibAt s 1 = 0; omega
    rw [if_neg (by omega), ho]
    unfold pathL
    rw [show nibAt s 0 % 2 = 0 by omega, e, hb0]
    simp
theorem unpack_pack (s : ByteArray) (h : 0 < s.size) (hb : ¬ Bad s) : (⟨(packL (pathL s) (leafB s)).toArray⟩ : ByteArray) = s := by
  have e : packL (pathL s) (leafB s) = s.data.toList := by
    unfold packL
    rw [unpack_full s h hb, ← pairs_nibs s]
    congr 1
    rw [path_length]; omega
  rw [e]
/-- the first byte's two nibbles -/
theorem nib01 (s : ByteArray) (h : 0 < s.size) : nibAt s 0 = s[0].toNat / 16 ∧ nibAt s 1 = s[0].toNat % 16 := by
  unfold nibAt
  rw [if_pos (by omega), if_neg (by omega)]
  exact ⟨by rw [getD_data s _ (by omega)], by rw [getD_data s _ (by omega)]⟩
end Ni
end Go.Proofs.Ytbdhncaiffepoaa

/-
  Nodes and bytes, plain: what bytes tell of a node, which nodes may be, a node's bytes; back and forth.
-/
namespace Go.Proofs.Ytbdhncaiffepoaa
set_option maxRecDepth 20000
open Go.RowKit

namespace No
open Rl Ni
/-- the reference that an item stands for -/
def kidP (x : It) : Option ByteArray := if x.l then (if x.bytes.length < 32 then some ⟨x.bytes.toArray⟩ else none) else (if plainB x.s then some x.s else none)
def allK : List It → Option (List ByteArray)
  | [] => some []
  | x :: xs => match kidP x with
    | none => none
    | some k => match allK xs with
      | none => none
      | some ks => some (k :: ks)
def one16 (k : ByteArray) : List ByteArray := k :: List.replicate 15 eB
instance (s : ByteArray) : Decidable (Bad s) := by unfold Bad; infer_instance
def readPathP (x0 x1 : It) : Option Nd :=
  if x0.s.size = 0 ∨ Bad x0.s then none else
  if leafB x0.s then some ⟨1, pathL x0.s, x1.s, zks⟩ else (kidP x1).map fun k => ⟨2, pathL x0.s, eB, one16 k⟩
def readBranchP (xs : List It) : Option Nd :=
  match allK (xs.take 16) with
  | none => none
  | some ks => if (xs.getD 16 it0).l = false ∧ (xs.getD 16 it0).s.size = 0 then some ⟨3, [], eB, ks⟩ else none
def readP (xs : List It) : Option Nd := if xs.length = 2 then readPathP (xs.getD 0 it0) (xs.getD 1 it0) else if xs.length = 17 then readBranchP xs else none

/-- has a node what its kind asks for? -/
def fitsW (R : ByteArray → Bool) (n : Nd) : Bool :=
  if n.kd = 1 then decide (n.v.size ≠ 0) && decide (n.v.size ≤ 65552) && decide ((kidsL n.ks).length = 0) else
  if n.kd = 2 then decide (0 < n.p.length) && decide (n.v.size = 0) && decide ((kidsL n.ks).length = 1) && decide ((n.ks.getD 0 eB).size ≠ 0) && R (n.ks.getD 0 eB) else
  if n.kd = 3 then decide (n.p.length = 0) && decide (n.v.size = 0) && decide (2 ≤ (kidsL n.ks).length) && (kidsL n.ks).all R else false
def mayW (R : ByteArray → Bool) (n : Nd) : Bool := decide (n.p.length ≤ 64) && rightB n.p && fitsW R n
theorem fitsW_congr {R R' : ByteArray → Bool} {n : Nd} (h : ∀ k ∈ n.ks, R k = R' k) (hl : n.ks.length = 16) : fitsW R n = fitsW R' n := by
  unfold fitsW
  have h0 : R (n.ks.getD 0 eB) = R' (n.ks.getD 0 eB) := by
    apply h
    rw [List.getD_eq_getElem?_getD, List.getElem?_eq_getElem (by omega)]
    exact List.getElem_mem _
  have h1 : (kidsL n.ks).all R = (kidsL n.ks).all R' := by
    rw [Bool.eq_iff_iff, List.all_eq_true, List.all_eq_true]
    constructor
    · intro g k hk; rw [← h k (List.mem_filter.1 hk).1]; exact g k hk
    · intro g k hk; rw [h k (List.mem_filter.1 hk).1]; exact g k hk
  rw [h0, h1]
theorem mayW_congr {R R' : ByteArray → Bool} {n : Nd} (h : ∀ k ∈ n.ks, R k = R' k) (hl : n.ks.length = 16) : mayW R n = mayW R' n := by
  unfold mayW
  rw [fitsW_congr h hl]

/-- the node that bytes are -/
def getP (s : List UInt8) : Option Nd :=
  match wholeL s with
  | .error _ => none
  | .ok x => match readP x.xs with
    | none => none
    | some n => if mayW (fun k => plainB k || (if _h : k.size < 32 ∧ k.size < s.length then (getP k.data.toList).isSome else false)) n then some n else none
termination_by s.length
decreasing_by
  rw [len_s]
  exact _h.2
/-- is a text a reference? -/
def refP (k : ByteArray) : Bool := plainB k || (decide (k.size < 32) && (getP k.data.toList).isSome)

theorem whole_back {s : List UInt8} {x : It} (hs : s.length ≤ 4294967296) (h : wholeL s = .ok x) : x.bytes = s ∧ Fits 0 x ∧ x.size ≤ 4096 := by
  unfold wholeL at h
  cases hr : readL s 0 0 with
  | error c => rw [hr] at h; cases h
  | ok q =>
    obtain ⟨y, n, k⟩ := q
    rw [hr] at h
    dsimp only at h
    by_cases hn : n < s.length
    · rw [if_pos hn] at h; cases h
    · rw [if_neg hn] at h
      obtain rfl := ok_inj h
      obtain ⟨g1, g2, g3⟩ := (back s.length hs).1 _ _ _ _ _ _ (Nat.le_refl _) hr
      obtain ⟨p1, p2, p3, p4⟩ := (props s.length).1 _ _ _ _ _ _ (Nat.le_refl _) hr
      refine ⟨?_, g2, by omega⟩
      rw [g1, List.take_of_length_le (by omega)]
theorem flatten_le {xs : List It} {x : It} (h : x ∈ xs) : x.bytes.length ≤ ((xs.map It.bytes).flatten).length := by
  induction xs with
  | nil => cases h
  | cons y ys ih =>
    rw [List.map_cons, List.flatten_cons, List.length_append]
    rcases List.mem_cons.1 h with rfl | h
    · omega
    · have := ih h; omega
theorem bytes_len {d : Nat} {x : It} (h : Fits d x) (hb : x.bytes.length ≤ 4294967296) : x.l = true → x.bytes.length = (headL ((x.xs.map It.bytes).flatten).length true).length + ((x.xs.map It.bytes).flatten).length := by
  intro hl
  cases h with
  | mk ha hs hx hy =>
    rename_i l s xs
    obtain rfl : l = true := hl
    obtain rfl := hs rfl
    have hi := inner_le (.mk true ⟨#[]⟩ xs)
    rw [inner_mk] at hi
    rw [bytes_list xs (Nat.le_trans hi hb), List.length_append]
    rfl
theorem has_list {d : Nat} {x : It} (h : Fits d x) (hx : x.xs ≠ []) : x.l = true := by
  cases h with
  | mk ha hs hx' hy =>
    rename_i l s xs
    cases l with
    | true => rfl
    | false => exact absurd (hx' rfl) hx
theorem in_less {d : Nat} {x y : It} (h : Fits d x) (hb : x.bytes.length ≤ 4294967296) (hy : y ∈ x.xs) : y.bytes.length < x.bytes.length := by
  have hl := has_list h (by intro e; rw [e] at hy; cases hy)
  have h1 := bytes_len h hb hl
  have h2 := flatten_le hy
  have h3 := headL_length ((x.xs.map It.bytes).flatten).length true
  omega
theorem fits_in {d : Nat} {x y : It} (h : Fits d x) (hy : y ∈ x.xs) : Fits (d + 1) y := by
  cases h with
  | mk ha hs hx h => exact h y hy
theorem kidP_size {x : It} {k : ByteArray} (h : kidP x = some k) : plainB k = true ∨ k.size = x.bytes.length ∧ k.size < 32 := by
  unfold kidP at h
  split at h
  · split at h
    · rename_i h1
      obtain rfl := Option.some.inj h
      exact .inr ⟨ba_size _, by rw [ba_size]; exact h1⟩
    · cases h
  · split at h
    · rename_i h1
      obtain rfl := Option.some.inj h
      exact .inl h1
    · cases h
theorem allK_mem : ∀ {xs : List It} {ks : List ByteArray}, allK xs = some ks → ks.length = xs.length ∧ ∀ k ∈ ks, ∃ x ∈ xs, kidP x = some k
  | [], ks, h => by
    obtain rfl := Option.some.inj h
    exact ⟨rfl, fun k hk => by cases hk⟩
  | x :: xs, ks, h => by
    unfold allK at h
    split at h
    · cases h
    · rename_i k hk
      split at h
      · cases h
      · rename_i ks' hks
        obtain rfl := Option.some.inj h
        obtain ⟨h1, h2⟩ := allK_mem hks
        refine ⟨by simp [h1], fun j hj => ?_⟩
        rcases List.mem_cons.1 hj with rfl | hj
        · exact ⟨x, List.mem_cons_self .., hk⟩
        · obtain ⟨y, hy, e⟩ := h2 j hj
          exact ⟨y, List.mem_cons_of_mem _ hy, e⟩
theorem eB_plain : plainB eB = true := decide_eq_true (.inl rfl)
theorem one16_length (k : ByteArray) : (one16 k).length = 16 := by simp [one16]
theorem getD_mem' {xs : List It} {i : Nat} (h : i < xs.length) : xs.getD i it0 ∈ xs := by
  rw [List.getD_eq_getElem?_getD, List.getElem?_eq_getElem h]
  exact List.getElem_mem _
/-- of a node that was read -/
theorem readP_kids {xs : List It} {n : Nd} (h : readP xs = some n) : n.ks.length = 16 ∧ ∀ k ∈ n.ks, plainB k = true ∨ ∃ x ∈ xs, kidP x = some k := by
  have hz : ∀ k ∈ zks, plainB k = true := fun k hk => by
    rw [List.eq_of_mem_replicate hk]; exact eB_plain
  unfold readP at h
  by_cases h2 : xs.length = 2
  · rw [if_pos h2] at h
    unfold readPathP at h
    split at h
    · cases h
    · split at h
      · obtain rfl := Option.some.inj h
        exact ⟨rfl, fun k hk => .inl (hz k hk)⟩
      · obtain ⟨k, hk, rfl⟩ := Option.map_eq_some_iff.1 h
        refine ⟨one16_length k, fun j hj => ?_⟩
        rcases List.mem_cons.1 hj with rfl | hj
        · exact .inr ⟨_, getD_mem' (by omega), hk⟩
        · rw [List.eq_of_mem_replicate hj]; exact .inl eB_plain
  · rw [if_neg h2] at h
    by_cases h17 : xs.length = 17
    · rw [if_pos h17] at h
      unfold readBranchP at h
      split at h
      · cases h
      · rename_i ks hks
        split at h
        · obtain rfl := Option.some.inj h
          obtain ⟨g1, g2⟩ := allK_mem hks
          refine ⟨by rw [g1, List.length_take]; omega, fun k hk => ?_⟩
          obtain ⟨x, hx, e⟩ := g2 k hk
          exact .inr ⟨x, List.mem_of_mem_take hx, e⟩
        · cases h
    · rw [if_neg h17] at h; cases h
theorem kid_less {s : List UInt8} {x : It} {n : Nd} (hs : s.length ≤ 4294967296) (h : wholeL s = .ok x) (hn : readP x.xs = some n) : n.ks.length = 16 ∧ ∀ k ∈ n.ks, plainB k = true ∨ (k.size < 32 ∧ k.size < s.length) := by
  obtain ⟨g1, g2, g3⟩ := whole_back hs h
  obtain ⟨h1, h2⟩ := readP_kids hn
  refine ⟨h1, fun k hk => ?_⟩
  rcases h2 k hk with hp | ⟨y, hy, e⟩
  · exact .inl hp
  · rcases kidP_size e with hp | ⟨e1, e2⟩
    · exact .inl hp
    · have := in_less g2 (by rw [g1]; exact hs) hy
      rw [g1] at this
      exact .inr ⟨e2, by omega⟩
theorem getP_eq (s : List UInt8) (hs : s.length ≤ 4294967296) : getP s = match wholeL s with
    | .error _ => none
    | .ok x => match readP x.xs with
      | none => none
      | some n => if mayW refP n then some n else none := by
  rw [getP]
  cases hw : wholeL s with
  | error c => rfl
  | ok x =>
    dsimp only
    cases hn : readP x.xs with
    | none => rfl
    | some n =>
      dsimp only
      obtain ⟨h1, h2⟩ := kid_less hs hw hn
      rw [mayW_congr (R' := refP) (fun k hk => ?_) h1]
      unfold refP
      rcases h2 k hk with hp | hb
      · rw [hp]; rfl
      · rw [dif_pos hb]
        simp [hb.1]
theorem getP_some {s : List UInt8} (hs : s.length ≤ 4294967296) {n : Nd} (h : getP s = some n) : ∃ x, wholeL s = .ok x ∧ readP x.xs = some n ∧ mayW refP n = true := by
  rw [getP_eq s hs] at h
  split at h
  · cases h
  · rename_i x hw
    split at h
    · cases h
    · rename_i m hm
      split at h
      · rename_i hmay
        obtain rfl := Option.some.inj h
        exact ⟨x, hw, hm, hmay⟩
      · cases h
end No
end Go.Proofs.Ytbdhncaiffepoaa

/-
  Contracts of node.teller, of what it makes, of node.readPath.
-/
namespace Go.Proofs.Ytbdhncaiffepoaa
set_option maxRecDepth 20000
open Go.RowKit

namespace No
open Rl Ni
theorem fits_mono (x : It) : ∀ {d e : Nat}, Fits d x → e ≤ d → Fits e x := by
  induction x using It.ind with
  | h l s xs ih =>
    intro d e h he
    cases h with
    | mk ha hs hx hy => exact .mk (by omega) hs hx (fun y hm => ih y hm (hy y hm) (by omega))
theorem ntell_any (a : Option Addr) (n cap : Nat) (w : World) :
    Calls Try.prog 72 #[.slice a n cap] w fun e w' => e = .returned (.func (Fn.func 82) #[] #[.pointer (some ⟨w.heap.size, 0, none⟩)]) ∧ w' = w.alloc (.cells #[.slice a n cap] 46) := by
  go_enter Try.func72, Try.ntmps72
  go_wp2
  go_ret
  exact ⟨rfl, rfl⟩

theorem plain_q (s : ByteArray) (w : World) : Calls Try.prog 40 #[.string s] w fun e w' => e = .returned (.bool (plainB s)) ∧ w' = w.drewN 0 := by
  refine (plain_any s w).mono ?_
  rintro e w' ⟨rfl, rfl⟩
  exact ⟨rfl, rfl⟩
/-- a reference is handed back, or that there is none -/
def KidPost (w : World) (x : It) (e : Ending) (w' : World) : Prop := ∃ (s : ByteArray) (b : Bool), e = .returned (.tuple #[.string s, .bool b]) ∧ (b = true ∧ kidP x = some s ∨ b = false ∧ kidP x = none) ∧ Below w.heap.size w w'

set_option maxHeartbeats 4000000 in
theorem ntell1_any (c i : Nat) (xs : List It) (a : Option Addr) (n cap : Nat) (x : It) (w : World) (hc : w.cell? ⟨c, 0, none⟩ = some (.slice a n cap)) (h : IsIts w xs a n cap) (hx : xs[i]? = some x) (hF : Fits 0 x) (hk : x.size ≤ 4096) (hb : x.bytes.length ≤ 4294967296) :
    Calls Try.prog 82 #[.int .i64 i, .pointer (some ⟨c, 0, none⟩)] w (KidPost w x) := by
  have hm := h.max
  have hnc := h.le
  unfold maxLen at hm
  have hi : i < n := by rw [← h.len]; exact (List.getElem?_eq_some_iff.1 hx).1
  obtain ⟨y, b, off, A, N, C, hy, rfl, hblt, hL, hI⟩ := h.at' i hi
  obtain rfl := Option.some.inj (hx.symm.trans hy)
  have hclt := World.block_lt_of_cell? w _ hc
  obtain ⟨e0, e1, e2⟩ := hL
  have hO : Rg.Own (w.alloc (.cells #[.bool x.l, .string x.s, .slice A N C] 48)) w.heap.size (itC x A N C) 48 := Rg.Own.new _ _ _
  have HB : Hid (Below w.heap.size w (w.alloc (.cells #[.bool x.l, .string x.s, .slice A N C] 48))) := Lib.hid (al1 _ _)
  cases hl : x.l with
  | false =>
    have HK : Hid (kidP x = if plainB x.s then some x.s else none) := Lib.hid (by unfold kidP; rw [hl]; rfl)
    have HP := Lib.hid (fun w => plain_q x.s w)
    rw [hl] at e0 hO HB
    obtain ⟨f0, f1, f2⟩ := lies_row hO.2
    rw [hl] at f0
    clear h hI hx hy hF hk hb hO
    go_enter Try.func82, Try.ntmps82
    go_wp2
    go_quiet ((go_at_call 40; exact Calls.quiet_of_same (HP.out _)))
    go_wp2
    go_ret2
    refine ⟨x.s, plainB x.s, rfl, ?_, below_drewN HB.out _⟩
    rw [HK.out]
    cases plainB x.s
    · exact .inr ⟨rfl, rfl⟩
    · exact .inl ⟨rfl, rfl⟩
  | true =>
    have HK : Hid (kidP x = if x.bytes.length < 32 then some ⟨x.bytes.toArray⟩ else none) := Lib.hid (by unfold kidP; rw [hl]; rfl)
    have HPut := Lib.hid (fun w1 (hb1 : Below w.heap.size w w1) => put_any x w1 (itV x A N C) ⟨A, N, C, rfl, hI.stays hb1⟩ hF hk (by omega))
    have HS : Hid ((⟨x.bytes.toArray⟩ : ByteArray).size = x.bytes.length) := Lib.hid (ba_size _)
    have HBl := Lib.hid hb
    unfold itV at HPut
    rw [hl] at e0 hO HB HPut
    obtain ⟨f0, f1, f2⟩ := lies_row hO.2
    rw [hl] at f0
    have g0 := (HB.out.cell (p := ⟨b, off + i * 3, none⟩) hblt).trans e0
    have g1 := (HB.out.cell (p := ⟨b, off + i * 3 + 1, none⟩) hblt).trans e1
    have g2 := (HB.out.cell (p := ⟨b, off + i * 3 + 2, none⟩) hblt).trans e2
    have gc := (HB.out.cell (p := ⟨c, 0, none⟩) hclt).trans hc
    obtain ⟨X, hX⟩ : ∃ X, (⟨x.bytes.toArray⟩ : ByteArray) = X := ⟨_, rfl⟩
    have hxs : X.size = x.bytes.length := by rw [← hX]; exact HS.out
    rw [hX] at HPut HK
    have hxb : X.size ≤ 4294967296 := by omega
    rw [← hxs] at HK
    clear h hI hx hy hF hk hb hO HS HBl hxs hX
    go_enter Try.func82, Try.ntmps82
    go_wp2_with fail
    refine (HPut.out _ HB.out).mono ?_
    rintro e w1 ⟨rfl, hb1⟩
    have HB1 := Lib.hid (below_step' HB.out hb1)
    clear hb1 HPut e0 e1 e2 f0 f1 f2 g0 g1 g2 gc hc
    by_cases h32 : X.size < 32
    · have hd : decide ((X.size : Int) < 32) = true := by simp; omega
      go_wp2
      go_ret2
      exact ⟨X, true, rfl, .inl ⟨rfl, by rw [HK.out, if_pos h32]⟩, HB1.out⟩
    · have hd : decide ((X.size : Int) < 32) = false := by simp; omega
      go_wp2
      go_ret2
      exact ⟨X, false, rfl, .inr ⟨rfl, by rw [HK.out, if_neg h32]⟩, HB1.out⟩
end No
end Go.Proofs.Ytbdhncaiffepoaa

/-
  Contracts of node.readPath, node.readBranch, node.read.
-/
namespace Go.Proofs.Ytbdhncaiffepoaa
set_option maxRecDepth 20000
open Go.RowKit

namespace No
open Rl Ni
/-- what reading items hands back -/
def ReadPost (w : World) (r : Option Nd) (e : Ending) (w' : World) : Prop := ∃ (N : Nd) (a : Option Addr) (n c : Nat) (b : Bool), e = .returned (.tuple #[.agg (ndC N a n c), .bool b]) ∧ (b = true ∧ r = some N ∨ b = false ∧ r = none) ∧
  BsF w.heap.size w' a n c N.p ∧ N.ks.length = 16 ∧ Below w.heap.size w w'
/-- an item that was read out of not far too many bytes -/
def Good (x : It) : Prop := Fits 0 x ∧ x.size ≤ 4096 ∧ x.bytes.length ≤ 4294967296 ∧ x.s.size ≤ 1000000
theorem getD_at {xs : List It} {i : Nat} (h : i < xs.length) : xs[i]? = some (xs.getD i it0) := by simp [h]

set_option maxHeartbeats 4000000 in
theorem readPath_bad (xs : List It) (a : Option Addr) (n cap : Nat) (w : World) (h : IsIts w xs a n cap) (h2 : xs.length = 2) (hG : ∀ x ∈ xs, Good x) (hbad : (xs.getD 0 it0).s.size = 0 ∨ Bad (xs.getD 0 it0).s) :
    Calls Try.prog 54 #[.slice a n cap] w (ReadPost w (readP xs)) := by
  have hR : readP xs = none := by unfold readP readPathP; rw [if_pos h2, if_pos hbad]
  rw [hR]
  have hm := h.max
  have hnc := h.le
  have hl := h.len
  unfold maxLen at hm
  obtain ⟨y, b, off, A, N, C, hy, rfl, hblt, hL, hI⟩ := h.at' 0 (by omega)
  have hyx : xs.getD 0 it0 = y := Option.some.inj ((getD_at (xs := xs) (i := 0) (by omega)).symm.trans hy)
  obtain ⟨_, _, _, hs6⟩ := hG y (List.mem_of_getElem? hy)
  rw [hyx] at hbad
  have hcall : Hid (∃ c : Int, c ≠ 0 ∧ ∀ w : World, Calls Try.prog 71 #[.string y.s] w fun e w' => e = .returned (.tuple #[.slice none 0 0, .bool false, .int .i64 c]) ∧ Below w.heap.size w w') := Lib.hid (by
    by_cases h0 : y.s.size = 0
    · refine ⟨5, by decide, fun w => ?_⟩
      rw [size_zero h0]
      refine (unpack_nil w).mono ?_
      rintro e w' ⟨rfl, rfl⟩
      exact ⟨rfl, Below.refl _ _⟩
    · refine ⟨6, by decide, fun w => ?_⟩
      exact unpack_bad y.s (by omega) hs6 (hbad.resolve_left h0) w)
  obtain ⟨w2, hw2⟩ : ∃ w2, w2 = w.alloc (.cells (ndC nd0 none 0 0) 25) := ⟨_, rfl⟩
  have hO : OwnN w2 w.heap.size nd0 none 0 0 := by rw [hw2]; exact Rg.Own.new _ _ _
  have hB2 : Below w.heap.size w w2 := by rw [hw2]; exact al1 _ _
  obtain ⟨e0, e1, e2⟩ := hL.stays hB2 hblt
  rw [Nat.zero_mul, Nat.add_zero] at e0 e1 e2
  have HO := Lib.hid hO
  have HB2 := Lib.hid hB2
  obtain ⟨c, hc, hcl⟩ := hcall.out
  have hcb : (c != 0) = true := by simp; exact hc
  have HC := Lib.hid hcl
  clear h hL hI hO hB2 hbad hR hG hcall hcl hc hyx hy
  subst hw2
  go_enter Try.func54, Try.ntmps54
  go_wp2_with (refine Rg.run rfl _ _ (run_alloc_nd _ _ _ w.heap.size rfl rfl) ?_)
  refine (HC.out _).mono ?_
  rintro e w3 ⟨rfl, hb3⟩
  have HO3 := Lib.hid (HO.out.below hb3)
  have HB3 := Lib.hid (below_step' HB2.out hb3)
  clear hb3
  go_wp2_with (first
    | (refine Rg.run rfl _ _ (op_build built0 ?_) ?_; · exact ⟨_, rfl, rfl⟩)
    | (refine wpl_store_nd HO3.out rfl nd0 none 0 0 rfl rfl _ _ rfl rfl rfl rfl ?_))
  exact bodyPost_ret (res_nd1 rfl _ rfl (own_rowN HO3.out) rfl) rfl ⟨nd0, none, 0, 0, false, rfl, .inr ⟨rfl, rfl⟩, BsF.nil _ _, rfl, below_rowN HB3.out (Nat.le_refl _) _⟩

set_option maxHeartbeats 4000000 in
theorem readPath_ok (xs : List It) (a : Option Addr) (n cap : Nat) (w : World) (h : IsIts w xs a n cap) (h2 : xs.length = 2) (hG : ∀ x ∈ xs, Good x) (hbad : ¬ ((xs.getD 0 it0).s.size = 0 ∨ Bad (xs.getD 0 it0).s)) :
    Calls Try.prog 54 #[.slice a n cap] w (ReadPost w (readP xs)) := by
  have hR : readP xs = if leafB (xs.getD 0 it0).s then some ⟨1, pathL (xs.getD 0 it0).s, (xs.getD 1 it0).s, zks⟩ else (kidP (xs.getD 1 it0)).map fun k => ⟨2, pathL (xs.getD 0 it0).s, eB, one16 k⟩ := by unfold readP readPathP; rw [if_pos h2, if_neg hbad]
  rw [hR]
  have hm := h.max
  have hnc := h.le
  have hl := h.len
  unfold maxLen at hm
  have hn2 : n = 2 := by omega
  obtain ⟨y, b, off, A, N, C, hy, rfl, hblt, hL, hI⟩ := h.at' 0 (by omega)
  obtain ⟨z, b', off', A2, N2, C2, hz, e, hblt2, hL2, hI2⟩ := h.at' 1 (by omega)
  obtain ⟨rfl, rfl, _⟩ : b = b' ∧ off = off' ∧ True := by cases e; exact ⟨rfl, rfl, trivial⟩
  have hyx : xs.getD 0 it0 = y := Option.some.inj ((getD_at (xs := xs) (i := 0) (by omega)).symm.trans hy)
  have hzx : xs.getD 1 it0 = z := Option.some.inj ((getD_at (xs := xs) (i := 1) (by omega)).symm.trans hz)
  obtain ⟨hf1, hf2, hf3, _⟩ := hG z (List.mem_of_getElem? hz)
  rw [hyx] at hbad ⊢
  rw [hzx]
  have h0 : 0 < y.s.size := by omega
  have hB0 : ¬ Bad y.s := fun e => hbad (.inr e)
  have hple := path_le y.s hB0
  have HC := Lib.hid (fun w => unpack_ok y.s h0 hB0 w)
  obtain ⟨w2, hw2⟩ : ∃ w2, w2 = w.alloc (.cells (ndC nd0 none 0 0) 25) := ⟨_, rfl⟩
  have hO : OwnN w2 w.heap.size nd0 none 0 0 := by rw [hw2]; exact Rg.Own.new _ _ _
  have hB2 : Below w.heap.size w w2 := by rw [hw2]; exact al1 _ _
  obtain ⟨e0, e1, e2⟩ := hL.stays hB2 hblt
  rw [Nat.zero_mul, Nat.add_zero] at e0 e1 e2
  have HO := Lib.hid hO
  have HB2 := Lib.hid hB2
  have HI := Lib.hid h
  have HL2 := Lib.hid hL2
  have HZ := Lib.hid hz
  obtain ⟨P, hP⟩ : ∃ P, pathL y.s = P := ⟨_, rfl⟩
  obtain ⟨lf, hlf⟩ : ∃ lf, leafB y.s = lf := ⟨_, rfl⟩
  unfold Unp at HC
  rw [hP, hlf] at HC
  rw [hP] at hple
  rw [hP, hlf]
  clear h hL hI hO hB2 hbad hR hG hyx hy hzx hz hL2 hI2 hB0 hP hlf e
  subst hw2
  subst hn2
  cases lf with
  | true =>
    go_enter Try.func54, Try.ntmps54
    go_wp2_with (refine Rg.run rfl _ _ (run_alloc_nd _ _ _ w.heap.size rfl rfl) ?_)
    refine (HC.out _).mono ?_
    rintro e w3 ⟨a3, n3, c3, rfl, hx3, hb3⟩
    have HO3 := Lib.hid (HO.out.below hb3)
    have hB3 := below_step' HB2.out hb3
    have HB3 := Lib.hid hB3
    obtain ⟨f0, f1, f2⟩ := HL2.out.stays hB3 hblt2
    rw [Nat.one_mul] at f0 f1 f2
    have hn3 : n3 ≤ 1000000 := by rw [← hx3.len]; omega
    have HLf := Lib.hid (leaf_any a3 n3 c3 P hn3 z.s w3 hx3)
    have hz3 := HO3.out.1
    clear hb3 hB3 hx3 HC e0 e1 e2
    go_wp2_with fail
    refine HLf.out.mono ?_
    rintro e w4 ⟨a4, n4, c4, rfl, hx4, hl4, hb4⟩
    have HO4 := Lib.hid (HO3.out.below hb4)
    have HB4 := Lib.hid (below_step' HB3.out hb4)
    have HX4 := Lib.hid hx4
    clear hb4 hx4 HLf
    go_wp2_with (refine wpl_store_nd HO4.out rfl ⟨1, P, z.s, zks⟩ a4 n4 c4 rfl rfl _ _ rfl rfl rfl rfl ?_)
    exact bodyPost_ret (res_nd1 rfl _ rfl (own_rowN HO4.out) rfl) rfl ⟨⟨1, P, z.s, zks⟩, a4, n4, c4, true, rfl, .inl ⟨rfl, rfl⟩, (HX4.out.row hz3 _).weak (by omega), rfl, below_rowN HB4.out (Nat.le_refl _) _⟩
  | false =>
    go_enter Try.func54, Try.ntmps54
    go_wp2_with (refine Rg.run rfl _ _ (run_alloc_nd _ _ _ w.heap.size rfl rfl) ?_)
    refine (HC.out _).mono ?_
    rintro e w3 ⟨a3, n3, c3, rfl, hx3, hb3⟩
    have HO3 := Lib.hid (HO.out.below hb3)
    have HB3 := Lib.hid (below_step' HB2.out hb3)
    have hn3 : n3 ≤ 1000000 := by rw [← hx3.len]; omega
    have hz3 := HO3.out.1
    have HX3 := Lib.hid hx3
    clear hb3 hx3 HC e0 e1 e2
    go_wp2_with fail
    refine (ntell_any _ _ _ _).mono ?_
    rintro e w4 ⟨rfl, hw4⟩
    have hb4 : Below w3.heap.size w3 w4 := by rw [hw4]; exact al1 _ _
    have hc4 : w4.cell? ⟨w3.heap.size, 0, none⟩ = some (.slice (some ⟨b, off, none⟩) 2 cap) := by rw [hw4, World.cell?_alloc_mark]; rfl
    have HK := Lib.hid (ntell1_any w3.heap.size 1 xs (some ⟨b, off, none⟩) 2 cap z w4 hc4 (HI.out.stays (below_step' HB3.out hb4)) HZ.out hf1 hf2 hf3)
    have HO4 := Lib.hid (HO3.out.below hb4)
    have HB4 := Lib.hid (below_step' HB3.out hb4)
    have HX4 := Lib.hid (HX3.out.below hb4)
    have hz4 := hb4.size
    clear hw4 hb4 hc4
    go_wp2_with fail
    refine HK.out.mono ?_
    rintro e w5 ⟨s5, b5, rfl, hk5, hb5⟩
    have HO5 := Lib.hid (HO4.out.below hb5)
    have HB5 := Lib.hid (below_step' HB4.out hb5)
    have HE := Lib.hid (ext_any a3 n3 c3 P hn3 s5 w5 (HX4.out.below hb5))
    have HK5 := Lib.hid hk5
    have hz5 := hb5.size
    clear hb5 hk5 HK
    go_wp2_with fail
    refine HE.out.mono ?_
    rintro e w6 ⟨a6, n6, c6, rfl, hx6, hl6, hb6⟩
    have HO6 := Lib.hid (HO5.out.below hb6)
    have HB6 := Lib.hid (below_step' HB5.out hb6)
    have HX6 := Lib.hid hx6
    clear hb6 hx6 HE
    go_wp2_with (refine wpl_store_nd HO6.out rfl ⟨2, P, eB, one16 s5⟩ a6 n6 c6 (one16_length s5) rfl _ _ rfl rfl rfl rfl ?_)
    refine bodyPost_ret (res_nd1 rfl _ rfl (own_rowN HO6.out) (one16_length s5)) rfl ⟨⟨2, P, eB, one16 s5⟩, a6, n6, c6, b5, rfl, ?_, (HX6.out.row (by omega) _).weak (by omega), one16_length s5, below_rowN HB6.out (Nat.le_refl _) _⟩
    rcases HK5.out with ⟨h1, h2⟩ | ⟨h1, h2⟩
    · exact .inl ⟨h1, by rw [h2]; rfl⟩
    · exact .inr ⟨h1, by rw [h2]; rfl⟩
end No
end Go.Proofs.Ytbdhncaiffepoaa

/-
  The contract of the plain answer's Read, of any bytes that are not far too many.
-/
namespace Go.Proofs.Ytbdhncaiffepoaa
set_option maxRecDepth 100000
open Go.RowKit

namespace Rl
/-- an item's operations, by themselves -/
theorem op_load_it {ev : Operand → Value} {o : Oper} {w : World} {b : Nat} {x : It} {a : Option Addr} {n c : Nat} (h : Rg.Own w b (itC x a n c) 48) (ho : ∃ y, o.op = .load 48 y ∧ ev y = .pointer (some ⟨b, 0, none⟩)) :
    (execOp ev o).run Try.prog w = .ok (.value (.agg (itC x a n c))) w := by
  obtain ⟨y, ho, hx⟩ := ho
  have := run_load_item (lies_row h.2)
  unfold execOp
  simp only [ho, hx, Instr.loadAt, Instr.sureAddr, Sem.run_bind, Sem.run_pure, Result.andThen_ok, this]
  rfl
theorem wpl_store_it {ops : Array Oper} {rest : List Oper} {o : Oper} {act : Act} {w : World} {Q : Exit → Act → World → Prop} {b : Nat} {x : It} {a : Option Addr} {n c : Nat} (h : Rg.Own w b (itC x a n c) 48) (y : It) (a' : Option Addr) (n' c' : Nat)
    (hgd : o.guard = none) (p q : Operand) (ho : o.op = .store 48 p q) (hx : act.eval p = .pointer (some ⟨b, 0, none⟩)) (hy : act.eval q = .agg (itC y a' n' c')) (hd : o.dst = none)
    (hQ : wpList Try.prog ops Q rest act (w.setRow b (itC y a' n' c'))) : wpList Try.prog ops Q (o :: rest) act w :=
  wpList_store_rowTo hgd 48 p q ho hd b _ hx hy 48 _ h.2 (info_itC _ _ _ _) rfl (itC_one _ _ _ _) hQ
theorem res_item3 {fn : Func} {p u z y : Tmp} (hf : fn.results = #[.cell p 48, .tmp u, .tmp z, .tmp y]) (tmps : Array Value) {w : World} {b : Nat} {x : It} {A : Option Addr} {N C : Nat} (hp : tmps.getD p undef = .pointer (some ⟨b, 0, none⟩)) (h : Rg.Own w b (itC x A N C) 48) :
    (results fn tmps).run Try.prog w = .ok (.tuple #[itV x A N C, tmps.getD u undef, tmps.getD z undef, tmps.getD y undef]) w := by
  have hp' : tmps[p]?.getD undef = .pointer (some ⟨b, 0, none⟩) := by simpa using hp
  simp [results, hf, hp', asAddr, run_load_item (lies_row h.2)]
theorem own_rowI {w : World} {b : Nat} {cs cs' : Array Value} {T : TypeId} (h : Rg.Own w b cs T) : Rg.Own (w.setRow b cs') b cs' T := own_row_same h

/-- the first byte's word -/
theorem headE_of (c : UInt8) (t : List UInt8) (hc : 128 ≤ c.toNat) : headE (c :: t) =
    if c.toNat % 64 ≤ 55 then .ok (decide (192 ≤ c.toNat), 1, c.toNat % 64) else if t.length < c.toNat % 64 - 55 then .error 5 else
    if t.headD 0 = 0 ∨ valB (t.take (c.toNat % 64 - 55)) ≤ 55 then .error 6 else .ok (decide (192 ≤ c.toNat), 1 + (c.toNat % 64 - 55), valB (t.take (c.toNat % 64 - 55))) := by
  have h2 := c.toNat_lt
  have hM : c.toNat - (if 192 ≤ c.toNat then 192 else 128) = c.toNat % 64 := by split <;> omega
  dsimp only [headE]
  rw [hM, if_neg (by omega)]
theorem valB_app (l r : List UInt8) : valB (l ++ r) = valB l * 256 ^ r.length + valB r := by
  obtain ⟨N, hN⟩ : ∃ N, r.length = N := ⟨_, rfl⟩
  induction N generalizing r with
  | zero => rw [List.eq_nil_of_length_eq_zero hN]; simp [valB]
  | succ N ih =>
    have hne : r ≠ [] := by rintro rfl; cases hN
    obtain ⟨d, c, rfl⟩ : ∃ d c, r = d ++ [c] := ⟨r.dropLast, r.getLast hne, (List.dropLast_concat_getLast hne).symm⟩
    have hd : d.length = N := by simpa using hN
    rw [← List.append_assoc, valB_snoc, ih d hd, valB_snoc, List.length_append, List.length_singleton, Nat.pow_succ, ← Nat.mul_assoc, Nat.add_mul, Nat.add_assoc]
theorem valB_take (l : List UInt8) (j m : Nat) (h : j ≤ m) : valB (l.take j) ≤ valB (l.take m) := by
  have : l.take m = l.take j ++ (l.drop j).take (m - j) := by rw [← List.take_add, show j + (m - j) = m by omega]
  rw [this, valB_app]
  exact Nat.le_trans (Nat.le_mul_of_pos_right _ (Nat.pow_pos (by omega))) (Nat.le_add_right _ _)

/-- what the plain answer hands back -/
def RPost (w : World) : Except Int (It × Nat × Nat) → Ending → World → Prop
  | .error _ => fun e w' => ∃ c : Int, c ≠ 0 ∧ e = .returned (.tuple #[itV it0 none 0 0, .int .i64 0, .int .i64 0, .int .i64 c]) ∧ Below w.heap.size w w'
  | .ok (x, n, k') => fun e w' => ∃ (a : Option Addr) (nn cap : Nat) (nI lI : Int), e = .returned (.tuple #[itV x a nn cap, .int .i64 nI, .int .i64 lI, .int .i64 0]) ∧ nI = n ∧ lI + k' = 4096 ∧ ItsIn w.heap.size w' x.xs a nn cap ∧ Below w.heap.size w w'
def RC (s : ByteArray) : Prop := ∀ (d k : Nat) (dI lI : Int) (w : World), dI = d → d ≤ 65 → lI + k = 4096 → k ≤ 4096 → Calls Try.prog 35 #[.string s, .int .i64 dI, .int .i64 lI] w (RPost w (readL s.data.toList d k))
theorem post_err {w w' : World} {r : Except Int (It × Nat × Nat)} {e : Ending} (c : Int) (hr : ∃ c, r = .error c) (hc : c ≠ 0) (he : e = .returned (.tuple #[itV it0 none 0 0, .int .i64 0, .int .i64 0, .int .i64 c])) (hB : Below w.heap.size w w') : RPost w r e w' := by
  obtain ⟨c', rfl⟩ := hr
  exact ⟨c, hc, he, hB⟩
abbrev Zit : Obj := .cells #[.bool false, .string ⟨#[]⟩, .slice none 0 0] 48
/-- the world behind the first two blocks -/
theorem two_boxes (w : World) : Rg.Own ((w.alloc (.cells #[.bool false, .string ⟨#[]⟩, .slice none 0 0] 48)).alloc (.cells #[.bool false, .string ⟨#[]⟩, .slice none 0 0] 48)) (w.heap.size + 1) (itC it0 none 0 0) 48 ∧
    ∀ w2, w2 = ((w.alloc (.cells #[.bool false, .string ⟨#[]⟩, .slice none 0 0] 48)).alloc (.cells #[.bool false, .string ⟨#[]⟩, .slice none 0 0] 48)).setRow (w.heap.size + 1) (itC it0 none 0 0) →
      Rg.Own w2 w.heap.size (itC it0 none 0 0) 48 ∧ Rg.Own w2 (w.heap.size + 1) (itC it0 none 0 0) 48 ∧ Below w.heap.size w w2 ∧ w2.heap.size = w.heap.size + 2 := by
  have h1 : Rg.Own ((w.alloc Zit).alloc Zit) (w.heap.size + 1) (itC it0 none 0 0) 48 := by
    have h : Rg.Own ((w.alloc Zit).alloc Zit) (w.alloc Zit).heap.size (itC it0 none 0 0) 48 := Rg.Own.new (w.alloc Zit) (itC it0 none 0 0) 48
    have e : (w.alloc Zit).heap.size = w.heap.size + 1 := by simp
    rw [e] at h
    exact h
  have h0 : Rg.Own ((w.alloc Zit).alloc Zit) w.heap.size (itC it0 none 0 0) 48 := (Rg.Own.new w (itC it0 none 0 0) 48).below (al1 _ _)
  refine ⟨h1, fun w2 hw2 => ?_⟩
  subst hw2
  exact ⟨own_row h0 (by omega), own_row_same h1, below_row (al2 _ _ _) (by omega) _, by simp⟩
set_option maxHeartbeats 8000000 in
theorem rread_deep (s : ByteArray) (d k : Nat) (dI lI : Int) (w : World) (hdI : dI = d) (_hlI : lI + k = 4096) (_hk : k ≤ 4096) (h : 64 < d) : Calls Try.prog 35 #[.string s, .int .i64 dI, .int .i64 lI] w (RPost w (readL s.data.toList d k)) := by
  have HE : Hid (∃ c, readL s.data.toList d k = .error c) := Lib.hid (by
    rw [readL_eq, if_pos h]; exact ⟨_, rfl⟩)
  obtain ⟨r, hr⟩ : ∃ r, readL s.data.toList d k = r := ⟨_, rfl⟩
  rw [hr] at HE ⊢
  clear hr
  obtain ⟨h1, h2⟩ := two_boxes w
  obtain ⟨hR, hN, hB, hsz⟩ := h2 _ rfl
  have H1 := Lib.hid h1
  have HR := Lib.hid hR
  have HN := Lib.hid hN
  have HB := Lib.hid hB
  have HSz := Lib.hid hsz
  clear h1 h2 hR hN hB hsz
  go_enter Try.func35, Try.ntmps35
  go_wp2_with (first
    | (refine wpl_store_it H1.out it0 none 0 0 rfl _ _ rfl rfl rfl rfl ?_)
    | (refine wpl_store_it HR.out it0 none 0 0 rfl _ _ rfl rfl rfl rfl ?_)
    | (refine Rg.run rfl _ _ (op_load_it HN.out ?_) ?_; · exact ⟨_, rfl, rfl⟩))
  exact bodyPost_ret (res_item3 rfl _ rfl (own_rowI HR.out)) rfl (post_err 17 HE.out (by decide) rfl (below_row HB.out (Nat.le_refl _) _))
set_option maxHeartbeats 8000000 in
theorem rread_big (s : ByteArray) (d k : Nat) (dI lI : Int) (w : World) (hdI : dI = d) (hlI : lI + k = 4096) (_hk : k ≤ 4096) (h : d ≤ 64) (h2 : k = 4096) : Calls Try.prog 35 #[.string s, .int .i64 dI, .int .i64 lI] w (RPost w (readL s.data.toList d k)) := by
  have HE : Hid (∃ c, readL s.data.toList d k = .error c) := Lib.hid (by
    rw [readL_eq, if_neg (by omega), if_pos (by omega)]; exact ⟨_, rfl⟩)
  obtain ⟨r, hr⟩ : ∃ r, readL s.data.toList d k = r := ⟨_, rfl⟩
  rw [hr] at HE ⊢
  clear hr
  obtain ⟨h1, h2⟩ := two_boxes w
  obtain ⟨hR, hN, hB, hsz⟩ := h2 _ rfl
  have H1 := Lib.hid h1
  have HR := Lib.hid hR
  have HN := Lib.hid hN
  have HB := Lib.hid hB
  have HSz := Lib.hid hsz
  clear h1 h2 hR hN hB hsz
  go_enter Try.func35, Try.ntmps35
  go_wp2_with (first
    | (refine wpl_store_it H1.out it0 none 0 0 rfl _ _ rfl rfl rfl rfl ?_)
    | (refine wpl_store_it HR.out it0 none 0 0 rfl _ _ rfl rfl rfl rfl ?_)
    | (refine Rg.run rfl _ _ (op_load_it HN.out ?_) ?_; · exact ⟨_, rfl, rfl⟩))
  exact bodyPost_ret (res_item3 rfl _ rfl (own_rowI HR.out)) rfl (post_err 4 HE.out (by decide) rfl (below_row HB.out (Nat.le_refl _) _))
set_option maxHeartbeats 8000000 in
theorem rread_nil (s : ByteArray) (d k : Nat) (dI lI : Int) (w : World) (hdI : dI = d) (hlI : lI + k = 4096) (hk : k ≤ 4096) (h : d ≤ 64) (h2 : k < 4096) (h0 : s.size = 0) : Calls Try.prog 35 #[.string s, .int .i64 dI, .int .i64 lI] w (RPost w (readL s.data.toList d k)) := by
  have HE : Hid (∃ c, readL s.data.toList d k = .error c) := Lib.hid (by
    have hd : s.data.toList = [] := List.eq_nil_of_length_eq_zero (by rw [len_s]; exact h0)
    rw [readL_eq, if_neg (by omega), if_neg (by omega), hd]; exact ⟨_, rfl⟩)
  obtain ⟨r, hr⟩ : ∃ r, readL s.data.toList d k = r := ⟨_, rfl⟩
  rw [hr] at HE ⊢
  clear hr
  obtain rfl : s = ⟨#[]⟩ := by
    cases s with
    | mk dd => rw [show dd = #[] from Array.eq_empty_of_size_eq_zero h0]
  obtain ⟨h1, h2⟩ := two_boxes w
  obtain ⟨hR, hN, hB, hsz⟩ := h2 _ rfl
  have H1 := Lib.hid h1
  have HR := Lib.hid hR
  have HN := Lib.hid hN
  have HB := Lib.hid hB
  have HSz := Lib.hid hsz
  clear h1 h2 hR hN hB hsz
  go_enter Try.func35, Try.ntmps35
  go_wp2_with (first
    | (refine wpl_store_it H1.out it0 none 0 0 rfl _ _ rfl rfl rfl rfl ?_)
    | (refine wpl_store_it HR.out it0 none 0 0 rfl _ _ rfl rfl rfl rfl ?_)
    | (refine Rg.run rfl _ _ (op_load_it HN.out ?_) ?_; · exact ⟨_, rfl, rfl⟩))
  exact bodyPost_ret (res_item3 rfl _ rfl (own_rowI HR.out)) rfl (post_err 5 HE.out (by decide) rfl (below_row HB.out (Nat.le_refl _) _))
theorem cut_first {s : ByteArray} {c : UInt8} {t : List UInt8} (hs : s.data.toList = c :: t) : s.extract 0 1 = ⟨#[c]⟩ := by
  have := ext_bytes s 0 1
  rw [hs] at this
  rw [show (0 : Nat) + 1 = 1 from rfl] at this
  rw [this]
  rfl
set_option maxHeartbeats 8000000 in
theorem rread_self (s : ByteArray) (d k : Nat) (dI lI : Int) (w : World) (hdI : dI = d) (hlI : lI + k = 4096) (hk : k ≤ 4096) (h : d ≤ 64) (h2 : k < 4096) (c : UInt8) (t : List UInt8) (hs : s.data.toList = c :: t) (hc : c.toNat < 128) : Calls Try.prog 35 #[.string s, .int .i64 dI, .int .i64 lI] w (RPost w (readL s.data.toList d k)) := by
  have HE : Hid (readL s.data.toList d k = .ok (.mk false (s.extract 0 1) [], 1, k + 1)) := Lib.hid (by
    rw [readL_eq, if_neg (by omega), if_neg (by omega), hs]
    have hh : headE (c :: t) = .ok (false, 0, 1) := by dsimp only [headE]; rw [if_pos hc]
    rw [hh, cut_first hs]
    dsimp only
    rw [if_neg (by simp), if_neg (by simp), if_neg (by omega)]
    rfl)
  rw [HE.out]
  have hs0 : 0 < s.size := by rw [size_len, hs]; simp
  have hne := size_pos_ne hs0
  have hsl : t.length + 1 = s.size := by rw [size_len, hs]; rfl
  have hg0 := get_at s 0 hs0
  rw [hs, List.getD_cons_zero] at hg0
  have hcl := c.toNat_lt
  obtain ⟨C, hC⟩ : ∃ C, c.toNat = C := ⟨_, rfl⟩
  rw [hC] at hcl
  have hg1 : (s[0]'hs0).toNat = C := by rw [hg0, hC]
  rw [hC] at hc
  clear HE hg0
  obtain ⟨h1, h2⟩ := two_boxes w
  obtain ⟨hR, hN, hB, hsz⟩ := h2 _ rfl
  have H1 := Lib.hid h1
  have HR := Lib.hid hR
  have HN := Lib.hid hN
  have HB := Lib.hid hB
  have HSz := Lib.hid hsz
  clear h1 h2 hR hN hB hsz
  go_enter Try.func35, Try.ntmps35
  go_wp2_with (first
    | (refine wpl_store_it H1.out it0 none 0 0 rfl _ _ rfl rfl rfl rfl ?_)
    | (refine wpl_store_it HR.out it0 none 0 0 rfl _ _ rfl rfl rfl rfl ?_)
    | (refine Rg.run rfl _ _ (op_load_it HN.out ?_) ?_; · exact ⟨_, rfl, rfl⟩)
    | (refine wpl_store_it HR.out (.mk false (s.extract 0 1) []) none 0 0 rfl _ _ rfl rfl rfl rfl ?_))
  exact bodyPost_ret (res_item3 rfl _ rfl (own_rowI HR.out)) rfl ⟨none, 0, 0, _, _, rfl, rfl, by omega, ItsIn.nil _ _, below_row HB.out (Nat.le_refl _) _⟩
set_option maxHeartbeats 8000000 in
theorem rread_s_short (s : ByteArray) (d k : Nat) (dI lI : Int) (w : World) (hdI : dI = d) (hlI : lI + k = 4096) (hk : k ≤ 4096) (h : d ≤ 64) (h2 : k < 4096) (hmax : s.size ≤ 1000000) (c : UInt8) (t : List UInt8) (hs : s.data.toList = c :: t) (hc : 128 ≤ c.toNat) (h5 : c.toNat % 64 ≤ 55) (hlt : t.length < c.toNat % 64) : Calls Try.prog 35 #[.string s, .int .i64 dI, .int .i64 lI] w (RPost w (readL s.data.toList d k)) := by
  have HE : Hid (∃ c, readL s.data.toList d k = .error c) := Lib.hid (by
    rw [readL_eq, if_neg (by omega), if_neg (by omega), hs, headE_of c t hc, if_pos h5]
    dsimp only
    rw [if_pos (by rw [List.length_cons]; omega)]; exact ⟨_, rfl⟩)
  obtain ⟨r, hr⟩ : ∃ r, readL s.data.toList d k = r := ⟨_, rfl⟩
  rw [hr] at HE ⊢
  clear hr
  have hs0 : 0 < s.size := by rw [size_len, hs]; simp
  have hne := size_pos_ne hs0
  have hsl : t.length + 1 = s.size := by rw [size_len, hs]; rfl
  have hg0 := get_at s 0 hs0
  rw [hs, List.getD_cons_zero] at hg0
  have hcl := c.toNat_lt
  obtain ⟨C, hC⟩ : ∃ C, c.toNat = C := ⟨_, rfl⟩
  rw [hC] at hcl
  have hg1 : (s[0]'hs0).toNat = C := by rw [hg0, hC]
  rw [hC] at hc h5 hlt
  obtain ⟨n0, hn0⟩ : ∃ n0, C % 64 = n0 := ⟨_, rfl⟩
  have hrem : (C : Int).tmod 64 = (n0 : Int) := by rw [Int.tmod_eq_emod_of_nonneg (by omega)]; omega
  have h55 : n0 ≤ 55 := by omega
  rw [hn0] at hlt h5
  have hlt2 : s.size - 1 < n0 := by omega
  clear hg0 hs hC
  obtain ⟨h1, h2⟩ := two_boxes w
  obtain ⟨hR, hN, hB, hsz⟩ := h2 _ rfl
  have H1 := Lib.hid h1
  have HR := Lib.hid hR
  have HN := Lib.hid hN
  have HB := Lib.hid hB
  have HSz := Lib.hid hsz
  clear h1 h2 hR hN hB hsz
  go_enter Try.func35, Try.ntmps35
  go_wp2_with (first
    | (refine wpl_store_it H1.out it0 none 0 0 rfl _ _ rfl rfl rfl rfl ?_)
    | (refine wpl_store_it HR.out it0 none 0 0 rfl _ _ rfl rfl rfl rfl ?_)
    | (refine Rg.run rfl _ _ (op_load_it HN.out ?_) ?_; · exact ⟨_, rfl, rfl⟩))
  exact bodyPost_ret (res_item3 rfl _ rfl (own_rowI HR.out)) rfl (post_err 5 HE.out (by decide) rfl (below_row HB.out (Nat.le_refl _) _))
end Rl
end Go.Proofs.Ytbdhncaiffepoaa

/-
  The plain answer's Read: texts, and lists.
-/
namespace Go.Proofs.Ytbdhncaiffepoaa
set_option maxRecDepth 100000
open Go.RowKit

namespace Rl
set_option maxHeartbeats 8000000 in
theorem rread_s_text (s : ByteArray) (d k : Nat) (dI lI : Int) (w : World) (hdI : dI = d) (hlI : lI + k = 4096) (hk : k ≤ 4096) (h : d ≤ 64) (h2 : k < 4096) (hmax : s.size ≤ 1000000) (c : UInt8) (t : List UInt8) (hs : s.data.toList = c :: t) (hc : 128 ≤ c.toNat) (hL : c.toNat < 192) (h5 : c.toNat % 64 ≤ 55) (hlt : c.toNat % 64 ≤ t.length) (h1 : c.toNat % 64 ≠ 1) : Calls Try.prog 35 #[.string s, .int .i64 dI, .int .i64 lI] w (RPost w (readL s.data.toList d k)) := by
  have HE : Hid (readL s.data.toList d k = .ok (.mk false (s.extract 1 (1 + c.toNat % 64)) [], 1 + c.toNat % 64, k + 1)) := Lib.hid (by
    rw [readL_eq, if_neg (by omega), if_neg (by omega), hs, headE_of c t hc, if_pos h5]
    dsimp only
    rw [if_neg (by rw [List.length_cons]; omega), if_neg (by simp; omega), if_neg (by omega), ext_bytes, hs])
  rw [HE.out]
  have hs0 : 0 < s.size := by rw [size_len, hs]; simp
  have hne := size_pos_ne hs0
  have hsl : t.length + 1 = s.size := by rw [size_len, hs]; rfl
  have hg0 := get_at s 0 hs0
  rw [hs, List.getD_cons_zero] at hg0
  have hcl := c.toNat_lt
  obtain ⟨C, hC⟩ : ∃ C, c.toNat = C := ⟨_, rfl⟩
  rw [hC] at hcl
  have hg1 : (s[0]'hs0).toNat = C := by rw [hg0, hC]
  rw [hC] at hc h5 hlt hL h1 ⊢
  obtain ⟨n0, hn0⟩ : ∃ n0, C % 64 = n0 := ⟨_, rfl⟩
  have hrem : (C : Int).tmod 64 = (n0 : Int) := by rw [Int.tmod_eq_emod_of_nonneg (by omega)]; omega
  have h55 : n0 ≤ 55 := by omega
  rw [hn0] at hlt h5 h1 ⊢
  have hq : ((n0 : Int) == 1) = false := by simp; omega
  have hLb : decide (192 ≤ (C : Int)) = false := by simp; omega
  have hlt2 : n0 ≤ s.size - 1 := by omega
  clear hg0 hs hC HE
  obtain ⟨h1, h2⟩ := two_boxes w
  obtain ⟨hR, hN, hB, hsz⟩ := h2 _ rfl
  have H1 := Lib.hid h1
  have HR := Lib.hid hR
  have HN := Lib.hid hN
  have HB := Lib.hid hB
  have HSz := Lib.hid hsz
  clear h1 h2 hR hN hB hsz
  go_enter Try.func35, Try.ntmps35
  go_wp2_with (first
    | (refine wpl_store_it H1.out it0 none 0 0 rfl _ _ rfl rfl rfl rfl ?_)
    | (refine wpl_store_it HR.out it0 none 0 0 rfl _ _ rfl rfl rfl rfl ?_)
    | (refine Rg.run rfl _ _ (op_load_it HN.out ?_) ?_; · exact ⟨_, rfl, rfl⟩)
    | (refine wpl_store_it HR.out (.mk false (s.extract 1 (1 + n0)) []) none 0 0 rfl _ _ rfl rfl rfl rfl ?_))
  exact bodyPost_ret (res_item3 rfl _ rfl (own_rowI HR.out)) rfl ⟨none, 0, 0, _, _, rfl, by omega, by omega, ItsIn.nil _ _, below_row HB.out (Nat.le_refl _) _⟩
set_option maxHeartbeats 8000000 in
theorem rread_s_text1 (s : ByteArray) (d k : Nat) (dI lI : Int) (w : World) (hdI : dI = d) (hlI : lI + k = 4096) (hk : k ≤ 4096) (h : d ≤ 64) (h2 : k < 4096) (hmax : s.size ≤ 1000000) (c : UInt8) (t : List UInt8) (hs : s.data.toList = c :: t) (hc : 128 ≤ c.toNat) (hL : c.toNat < 192) (h1 : c.toNat % 64 = 1) (hlt : 1 ≤ t.length) (hF : ¬ (t.headD 0).toNat < 128) : Calls Try.prog 35 #[.string s, .int .i64 dI, .int .i64 lI] w (RPost w (readL s.data.toList d k)) := by
  have HE : Hid (readL s.data.toList d k = .ok (.mk false (s.extract 1 2) [], 2, k + 1)) := Lib.hid (by
    rw [readL_eq, if_neg (by omega), if_neg (by omega), hs, headE_of c t hc, if_pos (by omega)]
    dsimp only
    rw [if_neg (by rw [List.length_cons]; omega), if_neg (by simp; omega), if_neg (by
      rintro ⟨_, _, e⟩
      exact hF e), h1, show (2 : Nat) = 1 + 1 from rfl, ext_bytes, hs])
  rw [HE.out]
  have hs0 : 0 < s.size := by rw [size_len, hs]; simp
  have hne := size_pos_ne hs0
  have hsl : t.length + 1 = s.size := by rw [size_len, hs]; rfl
  have hg0 := get_at s 0 hs0
  rw [hs, List.getD_cons_zero] at hg0
  have hcl := c.toNat_lt
  obtain ⟨C, hC⟩ : ∃ C, c.toNat = C := ⟨_, rfl⟩
  rw [hC] at hcl
  have hg1 : (s[0]'hs0).toNat = C := by rw [hg0, hC]
  rw [hC] at hc hL h1
  have hrem : (C : Int).tmod 64 = 1 := by rw [Int.tmod_eq_emod_of_nonneg (by omega)]; omega
  obtain ⟨X, hX⟩ : ∃ X, s.extract 1 2 = X := ⟨_, rfl⟩
  have hXd : X.data.toList = t.take 1 := by
    have := ext_bytes s 1 1
    rw [show (1 : Nat) + 1 = 2 from rfl, hX, hs] at this
    rw [this]
    rfl
  have hx0 : 0 < X.size := by rw [size_len, hXd, List.length_take]; omega
  have hxf : (X[0]'hx0) = t.headD 0 := by
    rw [get_at X 0 hx0, hXd]
    cases t with
    | nil => rfl
    | cons y ys => rfl
  rw [← hxf] at hF
  have hxne := size_pos_ne hx0
  have hLb : decide (192 ≤ (C : Int)) = false := by simp; omega
  have hlt2 : 1 ≤ s.size - 1 := by omega
  have HXX := Lib.hid hX
  clear hg0 hs hC HE hXd hxf
  obtain ⟨h1, h2⟩ := two_boxes w
  obtain ⟨hR, hN, hB, hsz⟩ := h2 _ rfl
  have H1 := Lib.hid h1
  have HR := Lib.hid hR
  have HN := Lib.hid hN
  have HB := Lib.hid hB
  have HSz := Lib.hid hsz
  clear h1 h2 hR hN hB hsz
  go_enter Try.func35, Try.ntmps35
  go_wp2_with (first
    | (refine wpl_store_it H1.out it0 none 0 0 rfl _ _ rfl rfl rfl rfl ?_)
    | (refine wpl_store_it HR.out it0 none 0 0 rfl _ _ rfl rfl rfl rfl ?_)
    | (refine Rg.run rfl _ _ (op_load_it HN.out ?_) ?_; · exact ⟨_, rfl, rfl⟩)
    | (refine wpl_store_it HR.out (.mk false X []) none 0 0 rfl _ _ rfl rfl rfl rfl ?_))
  exact bodyPost_ret (res_item3 rfl _ rfl (own_rowI HR.out)) rfl (by
    rw [HXX.out]
    exact ⟨none, 0, 0, _, _, rfl, by omega, by omega, ItsIn.nil _ _, below_row HB.out (Nat.le_refl _) _⟩)
set_option maxHeartbeats 8000000 in
theorem rread_s_bad (s : ByteArray) (d k : Nat) (dI lI : Int) (w : World) (hdI : dI = d) (hlI : lI + k = 4096) (hk : k ≤ 4096) (h : d ≤ 64) (h2 : k < 4096) (hmax : s.size ≤ 1000000) (c : UInt8) (t : List UInt8) (hs : s.data.toList = c :: t) (hc : 128 ≤ c.toNat) (hL : c.toNat < 192) (h1 : c.toNat % 64 = 1) (hlt : 1 ≤ t.length) (hF : (t.headD 0).toNat < 128) : Calls Try.prog 35 #[.string s, .int .i64 dI, .int .i64 lI] w (RPost w (readL s.data.toList d k)) := by
  have HE : Hid (∃ c, readL s.data.toList d k = .error c) := Lib.hid (by
    rw [readL_eq, if_neg (by omega), if_neg (by omega), hs, headE_of c t hc, if_pos (by omega)]
    dsimp only
    rw [if_neg (by rw [List.length_cons]; omega), if_neg (by simp; omega), if_pos ⟨rfl, h1, hF⟩]
    exact ⟨_, rfl⟩)
  obtain ⟨r, hr⟩ : ∃ r, readL s.data.toList d k = r := ⟨_, rfl⟩
  rw [hr] at HE ⊢
  clear hr
  have hs0 : 0 < s.size := by rw [size_len, hs]; simp
  have hne := size_pos_ne hs0
  have hsl : t.length + 1 = s.size := by rw [size_len, hs]; rfl
  have hg0 := get_at s 0 hs0
  rw [hs, List.getD_cons_zero] at hg0
  have hcl := c.toNat_lt
  obtain ⟨C, hC⟩ : ∃ C, c.toNat = C := ⟨_, rfl⟩
  rw [hC] at hcl
  have hg1 : (s[0]'hs0).toNat = C := by rw [hg0, hC]
  rw [hC] at hc hL h1
  have hrem : (C : Int).tmod 64 = 1 := by rw [Int.tmod_eq_emod_of_nonneg (by omega)]; omega
  obtain ⟨X, hX⟩ : ∃ X, s.extract 1 2 = X := ⟨_, rfl⟩
  have hXd : X.data.toList = t.take 1 := by
    have := ext_bytes s 1 1
    rw [show (1 : Nat) + 1 = 2 from rfl, hX, hs] at this
    rw [this]
    rfl
  have hx0 : 0 < X.size := by rw [size_len, hXd, List.length_take]; omega
  have hxf : (X[0]'hx0) = t.headD 0 := by
    rw [get_at X 0 hx0, hXd]
    cases t with
    | nil => rfl
    | cons y ys => rfl
  rw [← hxf] at hF
  have hxne := size_pos_ne hx0
  have hLb : decide (192 ≤ (C : Int)) = false := by simp; omega
  have hlt2 : 1 ≤ s.size - 1 := by omega
  clear hg0 hs hC hXd hxf
  obtain ⟨h1, h2⟩ := two_boxes w
  obtain ⟨hR, hN, hB, hsz⟩ := h2 _ rfl
  have H1 := Lib.hid h1
  have HR := Lib.hid hR
  have HN := Lib.hid hN
  have HB := Lib.hid hB
  have HSz := Lib.hid hsz
  clear h1 h2 hR hN hB hsz
  go_enter Try.func35, Try.ntmps35
  go_wp2_with (first
    | (refine wpl_store_it H1.out it0 none 0 0 rfl _ _ rfl rfl rfl rfl ?_)
    | (refine wpl_store_it HR.out it0 none 0 0 rfl _ _ rfl rfl rfl rfl ?_)
    | (refine Rg.run rfl _ _ (op_load_it HN.out ?_) ?_; · exact ⟨_, rfl, rfl⟩))
  exact bodyPost_ret (res_item3 rfl _ rfl (own_rowI HR.out)) rfl (post_err 6 HE.out (by decide) rfl (below_row HB.out (Nat.le_refl _) _))
end Rl
end Go.Proofs.Ytbdhncaiffepoaa
