/-
  Plain facts: what is packed is unpacked, what is unpacked is packed.
-/
import Derived.Test.YtihgiflhjhoghaaNibE
import Derived.Test.YtihgiflhjhoghaaNibR
namespace Go.Proofs.Ytihgiflhjhoghaa
open Go.RowKit

namespace Ni
theorem pairsK_getD (f : List UInt8) (hf : rightB f = true) (k j : Nat) (hj : j < k) : ((pairsK f k).getD j 0).toNat = 16 * (f.getD (2 * j) 0).toNat + (f.getD (2 * j + 1) 0).toNat := by
  have h1 := rightB_getD f hf (2 * j)
  have h2 := rightB_getD f hf (2 * j + 1)
  have e : (pairsK f k).getD j 0 = UInt8.ofNat (16 * (f.getD (2 * j) 0).toNat + (f.getD (2 * j + 1) 0).toNat) := by
    simp [pairsK, List.getD, hj]
  rw [e]
  simp only [UInt8.toNat_ofNat']
  omega
theorem nib_pairs (f : List UInt8) (hf : rightB f = true) (k i : Nat) (hi : i < 2 * k) : nibAt ⟨(pairsK f k).toArray⟩ i = (f.getD i 0).toNat := by
  have h1 := rightB_getD f hf (2 * (i / 2))
  have h2 := rightB_getD f hf (2 * (i / 2) + 1)
  have e := pairsK_getD f hf k (i / 2) (by omega)
  unfold nibAt
  show (if i % 2 = 0 then ((pairsK f k).getD (i / 2) 0).toNat / 16 else ((pairsK f k).getD (i / 2) 0).toNat % 16) = _
  rw [e]
  by_cases h : i % 2 = 0
  · rw [if_pos h]
    have e2 : 2 * (i / 2) = i := by omega
    rw [e2] at h1 h2 ⊢
    omega
  · rw [if_neg h]
    have e2 : 2 * (i / 2) + 1 = i := by omega
    rw [e2] at h2 ⊢
    omega
theorem list_ext_toNat {a b : List UInt8} (hl : a.length = b.length) (h : ∀ i, i < a.length → (a.getD i 0).toNat = (b.getD i 0).toNat) : a = b := by
  apply List.ext_getElem hl
  intro i h1 h2
  have := h i h1
  simp only [List.getD, List.getElem?_eq_getElem h1, List.getElem?_eq_getElem h2, Option.getD_some] at this
  exact UInt8.toNat_inj.1 this
theorem nibs_pairs (f : List UInt8) (hf : rightB f = true) (k : Nat) (hk : f.length = 2 * k) : nibsL ⟨(pairsK f k).toArray⟩ = f := by
  have hs : (⟨(pairsK f k).toArray⟩ : ByteArray).size = k := by show (pairsK f k).toArray.size = k; simp [pairsK]
  apply list_ext_toNat
  · rw [nibsL_length, hs, hk]
  · intro i hi
    rw [nibsL_length, hs] at hi
    rw [nibsL_getD _ _ (by rw [hs]; exact hi), nib_pairs f hf k i hi]
theorem pairs_nibs (s : ByteArray) : pairsK (nibsL s) s.size = s.data.toList := by
  apply list_ext_toNat
  · rw [pairsK_length]; simp
  · intro j hj
    rw [pairsK_length] at hj
    rw [pairsK_getD _ (nibsL_right s) _ _ hj, nibsL_getD s _ (by omega), nibsL_getD s _ (by omega)]
    unfold nibAt
    rw [if_pos (by omega), if_neg (by omega), show 2 * j / 2 = j by omega, show (2 * j + 1) / 2 = j by omega]
    omega

theorem packL_size (l : List UInt8) (leaf : Bool) : (⟨(packL l leaf).toArray⟩ : ByteArray).size = l.length / 2 + 1 := by
  show (packL l leaf).toArray.size = _
  simp [packL, pairsK]
theorem nibs_pack (l : List UInt8) (leaf : Bool) (hr : rightB l = true) : nibsL ⟨(packL l leaf).toArray⟩ = fullL l leaf :=
  nibs_pairs _ (fullL_right l leaf hr) _ (fullL_length l leaf)
theorem nibAt_pack (l : List UInt8) (leaf : Bool) (hr : rightB l = true) (i : Nat) (hi : i < 2) : nibAt ⟨(packL l leaf).toArray⟩ i = ((fullL l leaf).getD i 0).toNat :=
  nib_pairs _ (fullL_right l leaf hr) _ _ (by omega)
/-- what was packed is a hex-prefix -/
theorem pack_good (l : List UInt8) (leaf : Bool) (hr : rightB l = true) (hl : l.length ≤ 64) : ¬ Bad ⟨(packL l leaf).toArray⟩ := by
  unfold Bad
  rw [nibAt_pack l leaf hr 0 (by omega), nibAt_pack l leaf hr 1 (by omega), full_0, full_1, packL_size]
  unfold markN
  cases leaf <;> simp only [if_true, if_false, Bool.false_eq_true] <;> split <;> omega
theorem pack_leaf (l : List UInt8) (leaf : Bool) (hr : rightB l = true) : leafB ⟨(packL l leaf).toArray⟩ = leaf := by
  unfold leafB
  rw [nibAt_pack l leaf hr 0 (by omega), full_0]
  unfold markN
  cases leaf <;> simp <;> omega
theorem pack_path (l : List UInt8) (leaf : Bool) (hr : rightB l = true) : pathL ⟨(packL l leaf).toArray⟩ = l := by
  unfold pathL
  rw [nibAt_pack l leaf hr 0 (by omega), full_0, nibs_pack l leaf hr]
  have hm : markN l.length leaf % 2 = l.length % 2 := by unfold markN; cases leaf <;> simp
  rw [hm]
  unfold fullL
  by_cases h : l.length % 2 = 1
  · rw [if_pos h, h]
    cases l with
    | nil => simp at h
    | cons x r => simp
  · rw [if_neg h, show l.length % 2 = 0 by omega]
    simp

theorem nibs_two (s : ByteArray) (h : 0 < s.size) : ∃ a b r, nibsL s = a :: b :: r ∧ a.toNat = nibAt s 0 ∧ b.toNat = nibAt s 1 := by
  have h1 := nibsL_length s
  have h2 := nibsL_getD s 0 (by omega)
  have h3 := nibsL_getD s 1 (by omega)
  cases e : nibsL s with
  | nil => rw [e] at h1; simp at h1; omega
  | cons a t =>
    cases t with
    | nil => rw [e] at h1; simp at h1; omega
    | cons b r =>
      rw [e] at h2 h3
      exact ⟨a, b, r, rfl, by simpa using h2, by simpa using h3⟩
theorem path_right (s : ByteArray) : rightB (pathL s) = true := by
  have h := nibsL_right s
  unfold rightB at h ⊢
  rw [List.all_eq_true] at h ⊢
  exact fun x hx => h x (List.mem_of_mem_drop hx)
theorem path_length (s : ByteArray) : (pathL s).length = 2 * s.size - (2 - nibAt s 0 % 2) := by
  unfold pathL; rw [List.length_drop, nibsL_length]
theorem path_le (s : ByteArray) (hb : ¬ Bad s) : (pathL s).length ≤ 64 := by
  rw [path_length]; unfold Bad at hb; omega
/-- what was unpacked is packed again -/
theorem unpack_full (s : ByteArray) (h : 0 < s.size) (hb : ¬ Bad s) : fullL (pathL s) (leafB s) = nibsL s := by
  obtain ⟨a, b, r, e, ha, hb'⟩ := nibs_two s h
  have hl := path_length s
  have hm3 : nibAt s 0 ≤ 3 := by unfold Bad at hb; omega
  have hmk : markN (pathL s).length (leafB s) = nibAt s 0 := by
    unfold markN leafB
    rw [hl]
    by_cases h2 : nibAt s 0 / 2 % 2 = 1
    · simp only [h2, decide_true, if_true]; omega
    · simp only [h2, decide_false, Bool.false_eq_true, if_false]; omega
  have ea : UInt8.ofNat (nibAt s 0) = a := by rw [← ha]; simp
  unfold fullL
  rw [hmk, ea, e]
  by_cases hp : nibAt s 0 % 2 = 1
  · have ho : (pathL s).length % 2 = 1 := by rw [hl]; omega
    rw [if_pos ho, ho, List.take_append_drop]
    unfold pathL
    rw [hp, e]; rfl
  · have ho : (pathL s).length % 2 = 0 := by rw [hl]; omega
    have hb0 : b = 0 := by
      apply UInt8.toNat_inj.1
      rw [hb']; unfold Bad at hb; show nibAt s 1 = 0; omega
    rw [if_neg (by omega), ho]
    unfold pathL
    rw [show nibAt s 0 % 2 = 0 by omega, e, hb0]
    simp
theorem unpack_pack (s : ByteArray) (h : 0 < s.size) (hb : ¬ Bad s) : (⟨(packL (pathL s) (leafB s)).toArray⟩ : ByteArray) = s := by
  have e : packL (pathL s) (leafB s) = s.data.toList := by
    unfold packL
    rw [unpack_full s h hb, ← pairs_nibs s]
    congr 1
    rw [path_length]; omega
  rw [e]
/-- the first byte's two nibbles -/
theorem nib01 (s : ByteArray) (h : 0 < s.size) : nibAt s 0 = s[0].toNat / 16 ∧ nibAt s 1 = s[0].toNat % 16 := by
  unfold nibAt
  rw [if_pos (by omega), if_neg (by omega)]
  exact ⟨by rw [getD_data s _ (by omega)], by rw [getD_data s _ (by omega)]⟩
end Ni
end Go.Proofs.Ytihgiflhjhoghaa
